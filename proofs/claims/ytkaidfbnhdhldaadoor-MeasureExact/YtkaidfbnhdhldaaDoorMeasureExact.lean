/-
  MeasureExact: for every three points the law returns true: Square and Dot answer the document's exact numbers, or ErrFinite; what is answered is the caller's own. As a card: the library's tables and the layout of package bits start as the program's text lays them.
-/
import Derived.Test.YtkaidfbnhdhldaaDoorPart11
import Derived.Test.YtkaidfbnhdhldaaDoorPart12
import Derived.Test.YtkaidfbnhdhldaaDoorPart8
import Derived.Test.YtkaidfbnhdhldaaDoorCards
import Derived.Test.YtkaidfbnhdhldaaDoorTie
namespace Go.Proofs.YtkaidfbnhdhldaaDoor.measureExact
open Go Go.ChangeShapes Go.WideShapes Go.ChangeAt Go.RowKit Go.Proofs.YtkaidfbnhdhldaaDoor Go.Proofs.YtkaidfbnhdhldaaDoor.M
set_option linter.unusedSimpArgs false
set_option linter.unusedVariables false

def LeQ (N : Nat) (w : World) : Prop := N ≤ w.heap.size
theorem LeQ.keeps {N : Nat} {w w' : World} (h : LeQ N w) (k : Below w.heap.size w w') : LeQ N w' := Nat.le_trans h k.size
/-- The block of a list that was answered. -/
theorem an_block {B : Nat} {w : World} {so : Option Addr} {sn sc : Nat} {m : Int} (h : An B w (.slice so sn sc) m) : sn = 0 ∨ ∃ g cur, so = some ⟨g, 0, none⟩ ∧ B ≤ g ∧ w.heap[g]? = some (.cells cur 3 (0, 0)) ∧ sn ≤ cur.size := by
  obtain ⟨t, d, hO, _⟩ := h
  rcases hO.2 with ⟨e, _⟩ | ⟨g, cap, cur, e, hb, hg, hn, hm, hs, ht⟩
  · simp only [Value.slice.injEq] at e
    exact .inl e.2.1
  · simp only [Value.slice.injEq] at e
    obtain ⟨rfl, rfl, rfl⟩ := e
    exact .inr ⟨g, cur, rfl, hb, hg, by omega⟩

set_option maxRecDepth 100000 in
set_option maxHeartbeats 4000000 in
theorem walk_no_true (ax ay bx by' cx cy : Int) (w : World) (rax : rng ax) (ray : rng ay) (rbx : rng bx) (rby : rng by') (rcx : rng cx) (rcy : rng cy) (hok : (ptok ax ay && ptok bx by') = false) (hth : ptok cx cy = true) (H : Hold4 w) :
    Calls Tryd.prog 3 #[.agg #[.int .i64 ax, .int .i64 ay], .agg #[.int .i64 bx, .int .i64 by'], .agg #[.int .i64 cx, .int .i64 cy]] w fun e w' => e = .returned (.bool true) ∧ Below w.heap.size w w' := by
  have CE : Hid (∀ W, Calls Tryd.prog 5 #[.agg #[.int .i64 ax, .int .i64 ay], .agg #[.int .i64 bx, .int .i64 by']] W fun r w' => r = .returned (.tuple #[.agg #[.bool false, .slice none 0 0, .int .i64 0], .int .i64 10]) ∧ Below W.heap.size W w') := fun W => mSquare_no rax ray rbx rby hok W
  have CD : Hid (∀ W, Calls Tryd.prog 6 #[.agg #[.int .i64 ax, .int .i64 ay], .agg #[.int .i64 bx, .int .i64 by'], .agg #[.int .i64 cx, .int .i64 cy]] W fun r w' => r = .returned (.tuple #[.agg #[.bool false, .slice none 0 0, .int .i64 0], .int .i64 10]) ∧ Below W.heap.size W w') := fun W => mDot_no rax ray rbx rby rcx rcy (by rw [hok, Bool.false_and]) W
  have CG : Hid (∀ W g, W.heap[g]? = some (.cells #[.int .i64 ax, .int .i64 ay, .int .i64 bx, .int .i64 by'] 23) → Calls Tryd.prog 7 #[.slice (some ⟨g, 0, none⟩) 2 2] W fun x w' => x = .returned (.bool false) ∧ Below W.heap.size W w') := fun W g h => by
    have := lgood_any _ _ _ _ _ W (pts2 W h) (rng2 rax rbx) (rng2 ray rby)
    rw [allB2, hok] at this
    exact this
  have CF : Hid (∀ W, Calls Tryd.prog 8 #[.agg #[.int .i64 cx, .int .i64 cy]] W fun e w' => e = .returned (.bool true) ∧ Below W.heap.size W w') := fun W => by
    have := q_refFinite rcx rcy W
    rw [show (pok cx && pok cy) = true from hth] at this
    exact this
  clear rax ray rbx rby rcx rcy hok hth
  have a_k : (w.alloc (.cells #[.int .i64 ax, .int .i64 ay] 23)).heap[w.heap.size]? = some (.cells #[.int .i64 ax, .int .i64 ay] 23) := heap_new (.cells #[.int .i64 ax, .int .i64 ay] 23) (by rfl)
  have hb0 := bel_alloc w (.cells #[.int .i64 ax, .int .i64 ay] 23)
  replace a_k := heap_past (.cells #[.int .i64 bx, .int .i64 by'] 23) a_k
  have b_k : ((w.alloc (.cells #[.int .i64 ax, .int .i64 ay] 23)).alloc (.cells #[.int .i64 bx, .int .i64 by'] 23)).heap[w.heap.size + 1]? = some (.cells #[.int .i64 bx, .int .i64 by'] 23) := heap_new (.cells #[.int .i64 bx, .int .i64 by'] 23) (by simp only [size_alloc])
  replace hb0 := bel_trans hb0 (bel_alloc (w.alloc (.cells #[.int .i64 ax, .int .i64 ay] 23)) (.cells #[.int .i64 bx, .int .i64 by'] 23))
  replace a_k := heap_past (.cells #[.int .i64 cx, .int .i64 cy] 23) a_k
  replace b_k := heap_past (.cells #[.int .i64 cx, .int .i64 cy] 23) b_k
  have c_k : (((w.alloc (.cells #[.int .i64 ax, .int .i64 ay] 23)).alloc (.cells #[.int .i64 bx, .int .i64 by'] 23)).alloc (.cells #[.int .i64 cx, .int .i64 cy] 23)).heap[w.heap.size + 1 + 1]? = some (.cells #[.int .i64 cx, .int .i64 cy] 23) := heap_new (.cells #[.int .i64 cx, .int .i64 cy] 23) (by simp only [size_alloc])
  replace hb0 := bel_trans hb0 (bel_alloc ((w.alloc (.cells #[.int .i64 ax, .int .i64 ay] 23)).alloc (.cells #[.int .i64 bx, .int .i64 by'] 23)) (.cells #[.int .i64 cx, .int .i64 cy] 23))
  go_enter Tryd.func3, Tryd.ntmps3
  go_wp2_with fail
  generalize (((w.alloc (.cells #[.int .i64 ax, .int .i64 ay] 23)).alloc (.cells #[.int .i64 bx, .int .i64 by'] 23)).alloc (.cells #[.int .i64 cx, .int .i64 cy] 23)) = x0 at hb0 a_k b_k c_k ⊢
  have H := H.keeps hb0
  refine (alive13 _ H).mono ?_
  rintro _ y1 ⟨rfl, hw1⟩
  have H := H.keeps hw1
  have a_k := (hw1.block _ (Array.getElem?_eq_some_iff.1 a_k).1).trans a_k
  have b_k := (hw1.block _ (Array.getElem?_eq_some_iff.1 b_k).1).trans b_k
  have c_k := (hw1.block _ (Array.getElem?_eq_some_iff.1 c_k).1).trans c_k
  have hb1 := bel_trans hb0 hw1
  have f_a0 := blkC a_k 0 rfl
  have f_a1 := blkC a_k 1 rfl
  have f_b0 := blkC b_k 0 rfl
  have f_b1 := blkC b_k 1 rfl
  go_wp2_with fail
  clear f_a0 f_a1 f_b0 f_b1
  refine (CE.out _).mono ?_
  rintro _ y2 ⟨rfl, hw2⟩
  have H := H.keeps hw2
  have a_k := (hw2.block _ (Array.getElem?_eq_some_iff.1 a_k).1).trans a_k
  have b_k := (hw2.block _ (Array.getElem?_eq_some_iff.1 b_k).1).trans b_k
  have c_k := (hw2.block _ (Array.getElem?_eq_some_iff.1 c_k).1).trans c_k
  have hb2 := bel_trans hb1 hw2
  have a_k := heap_past (.cells #[.bool false, .slice none 0 0, .int .i64 0] 27) a_k
  have b_k := heap_past (.cells #[.bool false, .slice none 0 0, .int .i64 0] 27) b_k
  have c_k := heap_past (.cells #[.bool false, .slice none 0 0, .int .i64 0] 27) c_k
  have x_k := heap_a1 y2 (.cells #[.bool false, .slice none 0 0, .int .i64 0] 27)
  have H := H.keeps (bel_alloc y2 (.cells #[.bool false, .slice none 0 0, .int .i64 0] 27))
  have hb3' := bel_trans hb2 (bel_alloc y2 (.cells #[.bool false, .slice none 0 0, .int .i64 0] 27))
  have f_a0 := blkC a_k 0 rfl
  have f_a1 := blkC a_k 1 rfl
  have f_b0 := blkC b_k 0 rfl
  have f_b1 := blkC b_k 1 rfl
  have f_c0 := blkC c_k 0 rfl
  have f_c1 := blkC c_k 1 rfl
  go_wp2_with fail
  clear f_a0 f_a1 f_b0 f_b1 f_c0 f_c1
  generalize y2.alloc (.cells #[.bool false, .slice none 0 0, .int .i64 0] 27) = x3 at a_k b_k c_k x_k H hb3' ⊢
  refine (CD.out _).mono ?_
  rintro _ y3 ⟨rfl, hw3⟩
  have H := H.keeps hw3
  have a_k := (hw3.block _ (Array.getElem?_eq_some_iff.1 a_k).1).trans a_k
  have b_k := (hw3.block _ (Array.getElem?_eq_some_iff.1 b_k).1).trans b_k
  have c_k := (hw3.block _ (Array.getElem?_eq_some_iff.1 c_k).1).trans c_k
  have x_k := (hw3.block _ (Array.getElem?_eq_some_iff.1 x_k).1).trans x_k
  have hb3 := bel_trans hb3' hw3
  have hz : Hid (y3.heap.size + 1 = (y3.alloc (.cells #[.bool false, .slice none 0 0, .int .i64 0] 27)).heap.size) := (size_alloc _ _).symm
  have a_k := heap_past (.cells #[.bool false, .slice none 0 0, .int .i64 0] 27) a_k
  have b_k := heap_past (.cells #[.bool false, .slice none 0 0, .int .i64 0] 27) b_k
  have c_k := heap_past (.cells #[.bool false, .slice none 0 0, .int .i64 0] 27) c_k
  have x_k := heap_past (.cells #[.bool false, .slice none 0 0, .int .i64 0] 27) x_k
  have q_k := heap_a1 y3 (.cells #[.bool false, .slice none 0 0, .int .i64 0] 27)
  have H := H.keeps (bel_alloc y3 (.cells #[.bool false, .slice none 0 0, .int .i64 0] 27))
  have hb4' := bel_trans hb3 (bel_alloc y3 (.cells #[.bool false, .slice none 0 0, .int .i64 0] 27))
  have f_a0 := blkC a_k 0 rfl
  have f_a1 := blkC a_k 1 rfl
  have f_b0 := blkC b_k 0 rfl
  have f_b1 := blkC b_k 1 rfl
  go_wp2_with fail
  clear f_a0 f_a1 f_b0 f_b1
  generalize y3.alloc (.cells #[.bool false, .slice none 0 0, .int .i64 0] 27) = x4 at hz a_k b_k c_k x_k q_k H hb4' ⊢
  refine (CG.out _ _ (heap_new _ hz.out)).mono ?_
  rintro _ y4 ⟨rfl, hv4⟩
  have hw4 := bel_trans (bel_alloc x4 (.cells #[.int .i64 ax, .int .i64 ay, .int .i64 bx, .int .i64 by'] 23)) hv4
  have H := H.keeps hw4
  have a_k := (hw4.block _ (Array.getElem?_eq_some_iff.1 a_k).1).trans a_k
  have b_k := (hw4.block _ (Array.getElem?_eq_some_iff.1 b_k).1).trans b_k
  have c_k := (hw4.block _ (Array.getElem?_eq_some_iff.1 c_k).1).trans c_k
  have x_k := (hw4.block _ (Array.getElem?_eq_some_iff.1 x_k).1).trans x_k
  have q_k := (hw4.block _ (Array.getElem?_eq_some_iff.1 q_k).1).trans q_k
  have hb4 := bel_trans hb4' hw4
  have f_c0 := blkC c_k 0 rfl
  have f_c1 := blkC c_k 1 rfl
  go_wp2_with fail
  clear f_c0 f_c1
  refine (CF.out _).mono ?_
  rintro _ y5 ⟨rfl, hw5⟩
  have H := H.keeps hw5
  have a_k := (hw5.block _ (Array.getElem?_eq_some_iff.1 a_k).1).trans a_k
  have b_k := (hw5.block _ (Array.getElem?_eq_some_iff.1 b_k).1).trans b_k
  have c_k := (hw5.block _ (Array.getElem?_eq_some_iff.1 c_k).1).trans c_k
  have x_k := (hw5.block _ (Array.getElem?_eq_some_iff.1 x_k).1).trans x_k
  have q_k := (hw5.block _ (Array.getElem?_eq_some_iff.1 q_k).1).trans q_k
  have hb5 := bel_trans hb4 hw5
  have f_x1 := blkC x_k 1 rfl
  have f_q1 := blkC q_k 1 rfl
  go_wp2_with (go_at_call 9; refine (mnum _ _).mono ?_; rintro _ wz ⟨rfl, hwz⟩; replace hwz := hwz.symm; subst hwz)
  all_goals go_ret
  all_goals exact ⟨rfl, hb5⟩
set_option maxRecDepth 100000 in
set_option maxHeartbeats 4000000 in
theorem walk_no_false (ax ay bx by' cx cy : Int) (w : World) (rax : rng ax) (ray : rng ay) (rbx : rng bx) (rby : rng by') (rcx : rng cx) (rcy : rng cy) (hok : (ptok ax ay && ptok bx by') = false) (hth : ptok cx cy = false) (H : Hold4 w) :
    Calls Tryd.prog 3 #[.agg #[.int .i64 ax, .int .i64 ay], .agg #[.int .i64 bx, .int .i64 by'], .agg #[.int .i64 cx, .int .i64 cy]] w fun e w' => e = .returned (.bool true) ∧ Below w.heap.size w w' := by
  have CE : Hid (∀ W, Calls Tryd.prog 5 #[.agg #[.int .i64 ax, .int .i64 ay], .agg #[.int .i64 bx, .int .i64 by']] W fun r w' => r = .returned (.tuple #[.agg #[.bool false, .slice none 0 0, .int .i64 0], .int .i64 10]) ∧ Below W.heap.size W w') := fun W => mSquare_no rax ray rbx rby hok W
  have CD : Hid (∀ W, Calls Tryd.prog 6 #[.agg #[.int .i64 ax, .int .i64 ay], .agg #[.int .i64 bx, .int .i64 by'], .agg #[.int .i64 cx, .int .i64 cy]] W fun r w' => r = .returned (.tuple #[.agg #[.bool false, .slice none 0 0, .int .i64 0], .int .i64 10]) ∧ Below W.heap.size W w') := fun W => mDot_no rax ray rbx rby rcx rcy (by rw [hok, Bool.false_and]) W
  have CG : Hid (∀ W g, W.heap[g]? = some (.cells #[.int .i64 ax, .int .i64 ay, .int .i64 bx, .int .i64 by'] 23) → Calls Tryd.prog 7 #[.slice (some ⟨g, 0, none⟩) 2 2] W fun x w' => x = .returned (.bool false) ∧ Below W.heap.size W w') := fun W g h => by
    have := lgood_any _ _ _ _ _ W (pts2 W h) (rng2 rax rbx) (rng2 ray rby)
    rw [allB2, hok] at this
    exact this
  have CF : Hid (∀ W, Calls Tryd.prog 8 #[.agg #[.int .i64 cx, .int .i64 cy]] W fun e w' => e = .returned (.bool false) ∧ Below W.heap.size W w') := fun W => by
    have := q_refFinite rcx rcy W
    rw [show (pok cx && pok cy) = false from hth] at this
    exact this
  clear rax ray rbx rby rcx rcy hok hth
  have a_k : (w.alloc (.cells #[.int .i64 ax, .int .i64 ay] 23)).heap[w.heap.size]? = some (.cells #[.int .i64 ax, .int .i64 ay] 23) := heap_new (.cells #[.int .i64 ax, .int .i64 ay] 23) (by rfl)
  have hb0 := bel_alloc w (.cells #[.int .i64 ax, .int .i64 ay] 23)
  replace a_k := heap_past (.cells #[.int .i64 bx, .int .i64 by'] 23) a_k
  have b_k : ((w.alloc (.cells #[.int .i64 ax, .int .i64 ay] 23)).alloc (.cells #[.int .i64 bx, .int .i64 by'] 23)).heap[w.heap.size + 1]? = some (.cells #[.int .i64 bx, .int .i64 by'] 23) := heap_new (.cells #[.int .i64 bx, .int .i64 by'] 23) (by simp only [size_alloc])
  replace hb0 := bel_trans hb0 (bel_alloc (w.alloc (.cells #[.int .i64 ax, .int .i64 ay] 23)) (.cells #[.int .i64 bx, .int .i64 by'] 23))
  replace a_k := heap_past (.cells #[.int .i64 cx, .int .i64 cy] 23) a_k
  replace b_k := heap_past (.cells #[.int .i64 cx, .int .i64 cy] 23) b_k
  have c_k : (((w.alloc (.cells #[.int .i64 ax, .int .i64 ay] 23)).alloc (.cells #[.int .i64 bx, .int .i64 by'] 23)).alloc (.cells #[.int .i64 cx, .int .i64 cy] 23)).heap[w.heap.size + 1 + 1]? = some (.cells #[.int .i64 cx, .int .i64 cy] 23) := heap_new (.cells #[.int .i64 cx, .int .i64 cy] 23) (by simp only [size_alloc])
  replace hb0 := bel_trans hb0 (bel_alloc ((w.alloc (.cells #[.int .i64 ax, .int .i64 ay] 23)).alloc (.cells #[.int .i64 bx, .int .i64 by'] 23)) (.cells #[.int .i64 cx, .int .i64 cy] 23))
  go_enter Tryd.func3, Tryd.ntmps3
  go_wp2_with fail
  generalize (((w.alloc (.cells #[.int .i64 ax, .int .i64 ay] 23)).alloc (.cells #[.int .i64 bx, .int .i64 by'] 23)).alloc (.cells #[.int .i64 cx, .int .i64 cy] 23)) = x0 at hb0 a_k b_k c_k ⊢
  have H := H.keeps hb0
  refine (alive13 _ H).mono ?_
  rintro _ y1 ⟨rfl, hw1⟩
  have H := H.keeps hw1
  have a_k := (hw1.block _ (Array.getElem?_eq_some_iff.1 a_k).1).trans a_k
  have b_k := (hw1.block _ (Array.getElem?_eq_some_iff.1 b_k).1).trans b_k
  have c_k := (hw1.block _ (Array.getElem?_eq_some_iff.1 c_k).1).trans c_k
  have hb1 := bel_trans hb0 hw1
  have f_a0 := blkC a_k 0 rfl
  have f_a1 := blkC a_k 1 rfl
  have f_b0 := blkC b_k 0 rfl
  have f_b1 := blkC b_k 1 rfl
  go_wp2_with fail
  clear f_a0 f_a1 f_b0 f_b1
  refine (CE.out _).mono ?_
  rintro _ y2 ⟨rfl, hw2⟩
  have H := H.keeps hw2
  have a_k := (hw2.block _ (Array.getElem?_eq_some_iff.1 a_k).1).trans a_k
  have b_k := (hw2.block _ (Array.getElem?_eq_some_iff.1 b_k).1).trans b_k
  have c_k := (hw2.block _ (Array.getElem?_eq_some_iff.1 c_k).1).trans c_k
  have hb2 := bel_trans hb1 hw2
  have a_k := heap_past (.cells #[.bool false, .slice none 0 0, .int .i64 0] 27) a_k
  have b_k := heap_past (.cells #[.bool false, .slice none 0 0, .int .i64 0] 27) b_k
  have c_k := heap_past (.cells #[.bool false, .slice none 0 0, .int .i64 0] 27) c_k
  have x_k := heap_a1 y2 (.cells #[.bool false, .slice none 0 0, .int .i64 0] 27)
  have H := H.keeps (bel_alloc y2 (.cells #[.bool false, .slice none 0 0, .int .i64 0] 27))
  have hb3' := bel_trans hb2 (bel_alloc y2 (.cells #[.bool false, .slice none 0 0, .int .i64 0] 27))
  have f_a0 := blkC a_k 0 rfl
  have f_a1 := blkC a_k 1 rfl
  have f_b0 := blkC b_k 0 rfl
  have f_b1 := blkC b_k 1 rfl
  have f_c0 := blkC c_k 0 rfl
  have f_c1 := blkC c_k 1 rfl
  go_wp2_with fail
  clear f_a0 f_a1 f_b0 f_b1 f_c0 f_c1
  generalize y2.alloc (.cells #[.bool false, .slice none 0 0, .int .i64 0] 27) = x3 at a_k b_k c_k x_k H hb3' ⊢
  refine (CD.out _).mono ?_
  rintro _ y3 ⟨rfl, hw3⟩
  have H := H.keeps hw3
  have a_k := (hw3.block _ (Array.getElem?_eq_some_iff.1 a_k).1).trans a_k
  have b_k := (hw3.block _ (Array.getElem?_eq_some_iff.1 b_k).1).trans b_k
  have c_k := (hw3.block _ (Array.getElem?_eq_some_iff.1 c_k).1).trans c_k
  have x_k := (hw3.block _ (Array.getElem?_eq_some_iff.1 x_k).1).trans x_k
  have hb3 := bel_trans hb3' hw3
  have hz : Hid (y3.heap.size + 1 = (y3.alloc (.cells #[.bool false, .slice none 0 0, .int .i64 0] 27)).heap.size) := (size_alloc _ _).symm
  have a_k := heap_past (.cells #[.bool false, .slice none 0 0, .int .i64 0] 27) a_k
  have b_k := heap_past (.cells #[.bool false, .slice none 0 0, .int .i64 0] 27) b_k
  have c_k := heap_past (.cells #[.bool false, .slice none 0 0, .int .i64 0] 27) c_k
  have x_k := heap_past (.cells #[.bool false, .slice none 0 0, .int .i64 0] 27) x_k
  have q_k := heap_a1 y3 (.cells #[.bool false, .slice none 0 0, .int .i64 0] 27)
  have H := H.keeps (bel_alloc y3 (.cells #[.bool false, .slice none 0 0, .int .i64 0] 27))
  have hb4' := bel_trans hb3 (bel_alloc y3 (.cells #[.bool false, .slice none 0 0, .int .i64 0] 27))
  have f_a0 := blkC a_k 0 rfl
  have f_a1 := blkC a_k 1 rfl
  have f_b0 := blkC b_k 0 rfl
  have f_b1 := blkC b_k 1 rfl
  go_wp2_with fail
  clear f_a0 f_a1 f_b0 f_b1
  generalize y3.alloc (.cells #[.bool false, .slice none 0 0, .int .i64 0] 27) = x4 at hz a_k b_k c_k x_k q_k H hb4' ⊢
  refine (CG.out _ _ (heap_new _ hz.out)).mono ?_
  rintro _ y4 ⟨rfl, hv4⟩
  have hw4 := bel_trans (bel_alloc x4 (.cells #[.int .i64 ax, .int .i64 ay, .int .i64 bx, .int .i64 by'] 23)) hv4
  have H := H.keeps hw4
  have a_k := (hw4.block _ (Array.getElem?_eq_some_iff.1 a_k).1).trans a_k
  have b_k := (hw4.block _ (Array.getElem?_eq_some_iff.1 b_k).1).trans b_k
  have c_k := (hw4.block _ (Array.getElem?_eq_some_iff.1 c_k).1).trans c_k
  have x_k := (hw4.block _ (Array.getElem?_eq_some_iff.1 x_k).1).trans x_k
  have q_k := (hw4.block _ (Array.getElem?_eq_some_iff.1 q_k).1).trans q_k
  have hb4 := bel_trans hb4' hw4
  have f_c0 := blkC c_k 0 rfl
  have f_c1 := blkC c_k 1 rfl
  go_wp2_with fail
  clear f_c0 f_c1
  refine (CF.out _).mono ?_
  rintro _ y5 ⟨rfl, hw5⟩
  have H := H.keeps hw5
  have a_k := (hw5.block _ (Array.getElem?_eq_some_iff.1 a_k).1).trans a_k
  have b_k := (hw5.block _ (Array.getElem?_eq_some_iff.1 b_k).1).trans b_k
  have c_k := (hw5.block _ (Array.getElem?_eq_some_iff.1 c_k).1).trans c_k
  have x_k := (hw5.block _ (Array.getElem?_eq_some_iff.1 x_k).1).trans x_k
  have q_k := (hw5.block _ (Array.getElem?_eq_some_iff.1 q_k).1).trans q_k
  have hb5 := bel_trans hb4 hw5
  have f_x1 := blkC x_k 1 rfl
  have f_q1 := blkC q_k 1 rfl
  go_wp2_with (go_at_call 9; refine (mnum _ _).mono ?_; rintro _ wz ⟨rfl, hwz⟩; replace hwz := hwz.symm; subst hwz)
  all_goals go_ret
  all_goals exact ⟨rfl, hb5⟩
set_option maxRecDepth 100000 in
set_option maxHeartbeats 4000000 in
theorem walk_two (ax ay bx by' cx cy : Int) (w : World) (rax : rng ax) (ray : rng ay) (rbx : rng bx) (rby : rng by') (rcx : rng cx) (rcy : rng cy) (pax : pok ax = true) (pay : pok ay = true) (pbx : pok bx = true) (pby : pok by' = true) (hth : ptok cx cy = false) (H : Hold4 w) :
    Calls Tryd.prog 3 #[.agg #[.int .i64 ax, .int .i64 ay], .agg #[.int .i64 bx, .int .i64 by'], .agg #[.int .i64 cx, .int .i64 cy]] w fun e w' => e = .returned (.bool true) ∧ Below w.heap.size w w' := by
  have H00 := H
  have hok : (ptok ax ay && ptok bx by') = true := by unfold ptok; rw [pax, pay, pbx, pby]; rfl
  have CE : Hid (∀ W, Hold4 W → Calls Tryd.prog 5 #[.agg #[.int .i64 ax, .int .i64 ay], .agg #[.int .i64 bx, .int .i64 by']] W fun r w' => ∃ v V, r = .returned (.tuple #[v, .int .i64 0]) ∧ DAns W w' V v ∧ Dot2 (patV ax - patV bx) (patV ay - patV by') (patV ax - patV bx) (patV ay - patV by') V ∧ Bd 8100 V) := fun W h => mSquare_yes rax ray rbx rby pax pay pbx pby W h
  have CQ : Hid (∀ W, Calls Tryd.prog 11 #[.agg #[.int .i64 ax, .int .i64 ay], .agg #[.int .i64 bx, .int .i64 by']] W fun r w' => ∃ v V, r = .returned v ∧ DAn W.heap.size w' V v ∧ Below W.heap.size W w' ∧ Dot2 (patV ax - patV bx) (patV ay - patV by') (patV ax - patV bx) (patV ay - patV by') V ∧ Bd 8100 V) := fun W => r13square_any rax ray rbx rby pax pay pbx pby W
  have CD : Hid (∀ W, Calls Tryd.prog 6 #[.agg #[.int .i64 ax, .int .i64 ay], .agg #[.int .i64 bx, .int .i64 by'], .agg #[.int .i64 cx, .int .i64 cy]] W fun r w' => r = .returned (.tuple #[.agg #[.bool false, .slice none 0 0, .int .i64 0], .int .i64 10]) ∧ Below W.heap.size W w') := fun W => mDot_no rax ray rbx rby rcx rcy (by rw [hth, Bool.and_false]) W
  have CG : Hid (∀ W g, W.heap[g]? = some (.cells #[.int .i64 ax, .int .i64 ay, .int .i64 bx, .int .i64 by'] 23) → Calls Tryd.prog 7 #[.slice (some ⟨g, 0, none⟩) 2 2] W fun x w' => x = .returned (.bool true) ∧ Below W.heap.size W w') := fun W g h => by
    have := lgood_any _ _ _ _ _ W (pts2 W h) (rng2 rax rbx) (rng2 ray rby)
    rw [allB2, hok] at this
    exact this
  have CF : Hid (∀ W, Calls Tryd.prog 8 #[.agg #[.int .i64 cx, .int .i64 cy]] W fun e w' => e = .returned (.bool false) ∧ Below W.heap.size W w') := fun W => by
    have := q_refFinite rcx rcy W
    rw [show (pok cx && pok cy) = false from hth] at this
    exact this
  clear rax ray rbx rby rcx rcy pax pay pbx pby hok hth
  have a_k : (w.alloc (.cells #[.int .i64 ax, .int .i64 ay] 23)).heap[w.heap.size]? = some (.cells #[.int .i64 ax, .int .i64 ay] 23) := heap_new (.cells #[.int .i64 ax, .int .i64 ay] 23) (by rfl)
  have hb0 := bel_alloc w (.cells #[.int .i64 ax, .int .i64 ay] 23)
  replace a_k := heap_past (.cells #[.int .i64 bx, .int .i64 by'] 23) a_k
  have b_k : ((w.alloc (.cells #[.int .i64 ax, .int .i64 ay] 23)).alloc (.cells #[.int .i64 bx, .int .i64 by'] 23)).heap[w.heap.size + 1]? = some (.cells #[.int .i64 bx, .int .i64 by'] 23) := heap_new (.cells #[.int .i64 bx, .int .i64 by'] 23) (by simp only [size_alloc])
  replace hb0 := bel_trans hb0 (bel_alloc (w.alloc (.cells #[.int .i64 ax, .int .i64 ay] 23)) (.cells #[.int .i64 bx, .int .i64 by'] 23))
  replace a_k := heap_past (.cells #[.int .i64 cx, .int .i64 cy] 23) a_k
  replace b_k := heap_past (.cells #[.int .i64 cx, .int .i64 cy] 23) b_k
  have c_k : (((w.alloc (.cells #[.int .i64 ax, .int .i64 ay] 23)).alloc (.cells #[.int .i64 bx, .int .i64 by'] 23)).alloc (.cells #[.int .i64 cx, .int .i64 cy] 23)).heap[w.heap.size + 1 + 1]? = some (.cells #[.int .i64 cx, .int .i64 cy] 23) := heap_new (.cells #[.int .i64 cx, .int .i64 cy] 23) (by simp only [size_alloc])
  replace hb0 := bel_trans hb0 (bel_alloc ((w.alloc (.cells #[.int .i64 ax, .int .i64 ay] 23)).alloc (.cells #[.int .i64 bx, .int .i64 by'] 23)) (.cells #[.int .i64 cx, .int .i64 cy] 23))
  go_enter Tryd.func3, Tryd.ntmps3
  go_wp2_with fail
  generalize (((w.alloc (.cells #[.int .i64 ax, .int .i64 ay] 23)).alloc (.cells #[.int .i64 bx, .int .i64 by'] 23)).alloc (.cells #[.int .i64 cx, .int .i64 cy] 23)) = x0 at hb0 a_k b_k c_k ⊢
  have H := H.keeps hb0
  refine (alive13 _ H).mono ?_
  rintro _ y1 ⟨rfl, hw1⟩
  have H := H.keeps hw1
  have a_k := (hw1.block _ (Array.getElem?_eq_some_iff.1 a_k).1).trans a_k
  have b_k := (hw1.block _ (Array.getElem?_eq_some_iff.1 b_k).1).trans b_k
  have c_k := (hw1.block _ (Array.getElem?_eq_some_iff.1 c_k).1).trans c_k
  have hb1 := bel_trans hb0 hw1
  have f_a0 := blkC a_k 0 rfl
  have f_a1 := blkC a_k 1 rfl
  have f_b0 := blkC b_k 0 rfl
  have f_b1 := blkC b_k 1 rfl
  go_wp2_with fail
  clear f_a0 f_a1 f_b0 f_b1
  refine (CE.out _ H).mono ?_
  rintro _ y2 ⟨v, V, rfl, h2, hV, bV⟩
  obtain ⟨x_g, x_o, x_n, x_c, x_e, rfl⟩ := dans_shape h2
  have hw2 := h2.below
  have x_D := h2.num
  have H := H.keeps hw2
  have a_k := (hw2.block _ (Array.getElem?_eq_some_iff.1 a_k).1).trans a_k
  have b_k := (hw2.block _ (Array.getElem?_eq_some_iff.1 b_k).1).trans b_k
  have c_k := (hw2.block _ (Array.getElem?_eq_some_iff.1 c_k).1).trans c_k
  have hb2 := bel_trans hb1 hw2
  have a_k := heap_past (.cells #[.bool x_g, .slice x_o x_n x_c, .int .i64 x_e] 27) a_k
  have b_k := heap_past (.cells #[.bool x_g, .slice x_o x_n x_c, .int .i64 x_e] 27) b_k
  have c_k := heap_past (.cells #[.bool x_g, .slice x_o x_n x_c, .int .i64 x_e] 27) c_k
  have x_k := heap_a1 y2 (.cells #[.bool x_g, .slice x_o x_n x_c, .int .i64 x_e] 27)
  have x_D := x_D.keeps (bel_alloc y2 (.cells #[.bool x_g, .slice x_o x_n x_c, .int .i64 x_e] 27))
  have H := H.keeps (bel_alloc y2 (.cells #[.bool x_g, .slice x_o x_n x_c, .int .i64 x_e] 27))
  have hb3' := bel_trans hb2 (bel_alloc y2 (.cells #[.bool x_g, .slice x_o x_n x_c, .int .i64 x_e] 27))
  have f_a0 := blkC a_k 0 rfl
  have f_a1 := blkC a_k 1 rfl
  have f_b0 := blkC b_k 0 rfl
  have f_b1 := blkC b_k 1 rfl
  have f_c0 := blkC c_k 0 rfl
  have f_c1 := blkC c_k 1 rfl
  go_wp2_with fail
  clear f_a0 f_a1 f_b0 f_b1 f_c0 f_c1
  generalize y2.alloc (.cells #[.bool x_g, .slice x_o x_n x_c, .int .i64 x_e] 27) = x3 at a_k b_k c_k x_k x_D H hb3' ⊢
  refine (CD.out _).mono ?_
  rintro _ y3 ⟨rfl, hw3⟩
  have H := H.keeps hw3
  have a_k := (hw3.block _ (Array.getElem?_eq_some_iff.1 a_k).1).trans a_k
  have b_k := (hw3.block _ (Array.getElem?_eq_some_iff.1 b_k).1).trans b_k
  have c_k := (hw3.block _ (Array.getElem?_eq_some_iff.1 c_k).1).trans c_k
  have x_k := (hw3.block _ (Array.getElem?_eq_some_iff.1 x_k).1).trans x_k
  have x_D := x_D.keeps hw3
  have hb3 := bel_trans hb3' hw3
  have hz : Hid (y3.heap.size + 1 = (y3.alloc (.cells #[.bool false, .slice none 0 0, .int .i64 0] 27)).heap.size) := (size_alloc _ _).symm
  have a_k := heap_past (.cells #[.bool false, .slice none 0 0, .int .i64 0] 27) a_k
  have b_k := heap_past (.cells #[.bool false, .slice none 0 0, .int .i64 0] 27) b_k
  have c_k := heap_past (.cells #[.bool false, .slice none 0 0, .int .i64 0] 27) c_k
  have x_k := heap_past (.cells #[.bool false, .slice none 0 0, .int .i64 0] 27) x_k
  have q_k := heap_a1 y3 (.cells #[.bool false, .slice none 0 0, .int .i64 0] 27)
  have x_D := x_D.keeps (bel_alloc y3 (.cells #[.bool false, .slice none 0 0, .int .i64 0] 27))
  have H := H.keeps (bel_alloc y3 (.cells #[.bool false, .slice none 0 0, .int .i64 0] 27))
  have hb4' := bel_trans hb3 (bel_alloc y3 (.cells #[.bool false, .slice none 0 0, .int .i64 0] 27))
  have f_a0 := blkC a_k 0 rfl
  have f_a1 := blkC a_k 1 rfl
  have f_b0 := blkC b_k 0 rfl
  have f_b1 := blkC b_k 1 rfl
  go_wp2_with fail
  clear f_a0 f_a1 f_b0 f_b1
  generalize y3.alloc (.cells #[.bool false, .slice none 0 0, .int .i64 0] 27) = x4 at hz a_k b_k c_k x_k q_k x_D H hb4' ⊢
  refine (CG.out _ _ (heap_new _ hz.out)).mono ?_
  rintro _ y4 ⟨rfl, hv4⟩
  have hw4 := bel_trans (bel_alloc x4 (.cells #[.int .i64 ax, .int .i64 ay, .int .i64 bx, .int .i64 by'] 23)) hv4
  have H := H.keeps hw4
  have a_k := (hw4.block _ (Array.getElem?_eq_some_iff.1 a_k).1).trans a_k
  have b_k := (hw4.block _ (Array.getElem?_eq_some_iff.1 b_k).1).trans b_k
  have c_k := (hw4.block _ (Array.getElem?_eq_some_iff.1 c_k).1).trans c_k
  have x_k := (hw4.block _ (Array.getElem?_eq_some_iff.1 x_k).1).trans x_k
  have x_D := x_D.keeps hw4
  have q_k := (hw4.block _ (Array.getElem?_eq_some_iff.1 q_k).1).trans q_k
  have hb4 := bel_trans hb4' hw4
  have f_c0 := blkC c_k 0 rfl
  have f_c1 := blkC c_k 1 rfl
  go_wp2_with fail
  clear f_c0 f_c1
  refine (CF.out _).mono ?_
  rintro _ y5 ⟨rfl, hw5⟩
  have H := H.keeps hw5
  have a_k := (hw5.block _ (Array.getElem?_eq_some_iff.1 a_k).1).trans a_k
  have b_k := (hw5.block _ (Array.getElem?_eq_some_iff.1 b_k).1).trans b_k
  have c_k := (hw5.block _ (Array.getElem?_eq_some_iff.1 c_k).1).trans c_k
  have x_k := (hw5.block _ (Array.getElem?_eq_some_iff.1 x_k).1).trans x_k
  have x_D := x_D.keeps hw5
  have q_k := (hw5.block _ (Array.getElem?_eq_some_iff.1 q_k).1).trans q_k
  have hb5 := bel_trans hb4 hw5
  have f_x1 := blkC x_k 1 rfl
  have f_q1 := blkC q_k 1 rfl
  go_wp2_with (go_at_call 9; refine (mnum _ _).mono ?_; rintro _ wz ⟨rfl, hwz⟩; replace hwz := hwz.symm; subst hwz)
  clear f_x1 f_q1
  have KK6 : ∀ W, Below y5.heap.size y5 W → W.cell? ⟨w.heap.size, 0, none⟩ = some (.int .i64 ax) ∧ W.cell? ⟨w.heap.size, 1, none⟩ = some (.int .i64 ay) ∧ W.cell? ⟨w.heap.size + 1, 0, none⟩ = some (.int .i64 bx) ∧ W.cell? ⟨w.heap.size + 1, 1, none⟩ = some (.int .i64 by') ∧ W.cell? ⟨y2.heap.size, 0, none⟩ = some (.bool x_g) ∧ W.cell? ⟨y2.heap.size, 1, none⟩ = some (.slice x_o x_n x_c) ∧ W.cell? ⟨y2.heap.size, 2, none⟩ = some (.int .i64 x_e) := fun W hb => ⟨q_cell (blkC a_k 0 rfl) hb, q_cell (blkC a_k 1 rfl) hb, q_cell (blkC b_k 0 rfl) hb, q_cell (blkC b_k 1 rfl) hb, q_cell (blkC x_k 0 rfl) hb, q_cell (blkC x_k 1 rfl) hb, q_cell (blkC x_k 2 rfl) hb⟩
  have hC6_0 := (bel_refl y5).drew
  have hs6_0 := (bel_refl y5).drew
  have hT6_0 : Below w.heap.size w y5.drew := hb5.drew
  have x_D_6_0 := x_D.keeps (bel_refl y5).drew
  go_region_held3 (fun W => W.cell? ⟨w.heap.size, 0, none⟩ = some (.int .i64 ax) ∧ W.cell? ⟨w.heap.size, 1, none⟩ = some (.int .i64 ay) ∧ W.cell? ⟨w.heap.size + 1, 0, none⟩ = some (.int .i64 bx) ∧ W.cell? ⟨w.heap.size + 1, 1, none⟩ = some (.int .i64 by') ∧ W.cell? ⟨y2.heap.size, 0, none⟩ = some (.bool x_g) ∧ W.cell? ⟨y2.heap.size, 1, none⟩ = some (.slice x_o x_n x_c) ∧ W.cell? ⟨y2.heap.size, 2, none⟩ = some (.int .i64 x_e))
    (with_reducible first | assumption | exact KK6 _ hC6_0 | exact KK6 _ hC6_1 | exact KK6 _ hC6_2 | fail)
    (first
      | (go_at_call 10; have _t := hs6_1; refine (osame_D (x_D_6_1.keeps (by with_reducible first | exact bel_refl _ | exact bel_alloc _ _ | exact bel_dr _ _)) wa6.num).mono ?_; rintro _ y6_2 ⟨rfl, hq6_2⟩; have hs6_2 : Below y6_1.heap.size y6_1 y6_2 := (by with_reducible first | exact hq6_2 | exact bel_trans (bel_alloc _ _) hq6_2 | exact bel_trans (bel_dr _ _) hq6_2); have hT6_2 := bel_trans hT6_1 hs6_2; have hC6_2 := bel_trans hC6_1 hs6_2; have x_D_6_2 := x_D_6_1.keeps hs6_2)
      | (go_at_call 11; refine (CQ.out _).mono ?_; rintro _ y6_1 ⟨v, V', rfl, wa6, hq6_1, hV', bV'⟩; obtain rfl := hV.unique hV'; obtain ⟨s_g, s_o, s_n, s_c, s_e, rfl⟩ := wa6.shape; have hs6_1 : Below y5.drew.heap.size y5.drew y6_1 := (by with_reducible first | exact hq6_1 | exact bel_trans (bel_alloc _ _) hq6_1 | exact bel_trans (bel_dr _ _) hq6_1); have hT6_1 := bel_trans hT6_0 hs6_1; have hC6_1 := bel_trans hC6_0 hs6_1; have x_D_6_1 := x_D_6_0.keeps hs6_1))
  have hw6 := bel_trans (bel_trans hs6_0 hs6_1) hs6_2
  have hVV : decide (V = V) = true := decide_eq_true rfl
  have H := H.keeps hw6
  have a_k := (hw6.block _ (Array.getElem?_eq_some_iff.1 a_k).1).trans a_k
  have b_k := (hw6.block _ (Array.getElem?_eq_some_iff.1 b_k).1).trans b_k
  have c_k := (hw6.block _ (Array.getElem?_eq_some_iff.1 c_k).1).trans c_k
  have x_k := (hw6.block _ (Array.getElem?_eq_some_iff.1 x_k).1).trans x_k
  have x_D := x_D.keeps hw6
  have q_k := (hw6.block _ (Array.getElem?_eq_some_iff.1 q_k).1).trans q_k
  have hb6 := bel_trans hb5 hw6
  go_wp2_with (go_at_call 9; refine (mnum _ _).mono ?_; rintro _ wz ⟨rfl, hwz⟩; replace hwz := hwz.symm; subst hwz)
  all_goals go_ret
  all_goals exact ⟨rfl, by first | exact hb6 | exact hb6.drew⟩
set_option maxRecDepth 100000 in
set_option maxHeartbeats 4000000 in
theorem walk_yes (ax ay bx by' cx cy : Int) (w : World) (rax : rng ax) (ray : rng ay) (rbx : rng bx) (rby : rng by') (rcx : rng cx) (rcy : rng cy) (pax : pok ax = true) (pay : pok ay = true) (pbx : pok bx = true) (pby : pok by' = true) (pcx : pok cx = true) (pcy : pok cy = true) (H : Hold4 w) :
    Calls Tryd.prog 3 #[.agg #[.int .i64 ax, .int .i64 ay], .agg #[.int .i64 bx, .int .i64 by'], .agg #[.int .i64 cx, .int .i64 cy]] w fun e w' => e = .returned (.bool true) ∧ Below w.heap.size w w' := by
  have H00 := H
  have hok : (ptok ax ay && ptok bx by') = true := by unfold ptok; rw [pax, pay, pbx, pby]; rfl
  have hth : ptok cx cy = true := by unfold ptok; rw [pcx, pcy]; rfl
  have CE : Hid (∀ W, Hold4 W → Calls Tryd.prog 5 #[.agg #[.int .i64 ax, .int .i64 ay], .agg #[.int .i64 bx, .int .i64 by']] W fun r w' => ∃ v V, r = .returned (.tuple #[v, .int .i64 0]) ∧ DAns W w' V v ∧ Dot2 (patV ax - patV bx) (patV ay - patV by') (patV ax - patV bx) (patV ay - patV by') V ∧ Bd 8100 V) := fun W h => mSquare_yes rax ray rbx rby pax pay pbx pby W h
  have CQ : Hid (∀ W, Calls Tryd.prog 11 #[.agg #[.int .i64 ax, .int .i64 ay], .agg #[.int .i64 bx, .int .i64 by']] W fun r w' => ∃ v V, r = .returned v ∧ DAn W.heap.size w' V v ∧ Below W.heap.size W w' ∧ Dot2 (patV ax - patV bx) (patV ay - patV by') (patV ax - patV bx) (patV ay - patV by') V ∧ Bd 8100 V) := fun W => r13square_any rax ray rbx rby pax pay pbx pby W
  have CD : Hid (∀ W, Hold4 W → Calls Tryd.prog 6 #[.agg #[.int .i64 ax, .int .i64 ay], .agg #[.int .i64 bx, .int .i64 by'], .agg #[.int .i64 cx, .int .i64 cy]] W fun r w' => ∃ v V, r = .returned (.tuple #[v, .int .i64 0]) ∧ DAns W w' V v ∧ Dot2 (patV ax - patV bx) (patV ay - patV by') (patV cx - patV bx) (patV cy - patV by') V ∧ Bd 8100 V) := fun W h => mDot_yes rax ray rbx rby rcx rcy pax pay pbx pby pcx pcy W h
  have CR : Hid (∀ W, Calls Tryd.prog 12 #[.agg #[.int .i64 ax, .int .i64 ay], .agg #[.int .i64 bx, .int .i64 by'], .agg #[.int .i64 cx, .int .i64 cy]] W fun r w' => ∃ v V, r = .returned v ∧ DAn W.heap.size w' V v ∧ Below W.heap.size W w' ∧ Dot2 (patV ax - patV bx) (patV ay - patV by') (patV cx - patV bx) (patV cy - patV by') V ∧ Bd 8100 V) := fun W => r13dot_any rax ray rbx rby rcx rcy pax pay pbx pby pcx pcy W
  have CG : Hid (∀ W g, W.heap[g]? = some (.cells #[.int .i64 ax, .int .i64 ay, .int .i64 bx, .int .i64 by'] 23) → Calls Tryd.prog 7 #[.slice (some ⟨g, 0, none⟩) 2 2] W fun x w' => x = .returned (.bool true) ∧ Below W.heap.size W w') := fun W g h => by
    have := lgood_any _ _ _ _ _ W (pts2 W h) (rng2 rax rbx) (rng2 ray rby)
    rw [allB2, hok] at this
    exact this
  have CF : Hid (∀ W, Calls Tryd.prog 8 #[.agg #[.int .i64 cx, .int .i64 cy]] W fun e w' => e = .returned (.bool true) ∧ Below W.heap.size W w') := fun W => by
    have := q_refFinite rcx rcy W
    rw [show (pok cx && pok cy) = true from hth] at this
    exact this
  clear rax ray rbx rby rcx rcy pax pay pbx pby hok hth pcx pcy
  have a_k : (w.alloc (.cells #[.int .i64 ax, .int .i64 ay] 23)).heap[w.heap.size]? = some (.cells #[.int .i64 ax, .int .i64 ay] 23) := heap_new (.cells #[.int .i64 ax, .int .i64 ay] 23) (by rfl)
  have hb0 := bel_alloc w (.cells #[.int .i64 ax, .int .i64 ay] 23)
  replace a_k := heap_past (.cells #[.int .i64 bx, .int .i64 by'] 23) a_k
  have b_k : ((w.alloc (.cells #[.int .i64 ax, .int .i64 ay] 23)).alloc (.cells #[.int .i64 bx, .int .i64 by'] 23)).heap[w.heap.size + 1]? = some (.cells #[.int .i64 bx, .int .i64 by'] 23) := heap_new (.cells #[.int .i64 bx, .int .i64 by'] 23) (by simp only [size_alloc])
  replace hb0 := bel_trans hb0 (bel_alloc (w.alloc (.cells #[.int .i64 ax, .int .i64 ay] 23)) (.cells #[.int .i64 bx, .int .i64 by'] 23))
  replace a_k := heap_past (.cells #[.int .i64 cx, .int .i64 cy] 23) a_k
  replace b_k := heap_past (.cells #[.int .i64 cx, .int .i64 cy] 23) b_k
  have c_k : (((w.alloc (.cells #[.int .i64 ax, .int .i64 ay] 23)).alloc (.cells #[.int .i64 bx, .int .i64 by'] 23)).alloc (.cells #[.int .i64 cx, .int .i64 cy] 23)).heap[w.heap.size + 1 + 1]? = some (.cells #[.int .i64 cx, .int .i64 cy] 23) := heap_new (.cells #[.int .i64 cx, .int .i64 cy] 23) (by simp only [size_alloc])
  replace hb0 := bel_trans hb0 (bel_alloc ((w.alloc (.cells #[.int .i64 ax, .int .i64 ay] 23)).alloc (.cells #[.int .i64 bx, .int .i64 by'] 23)) (.cells #[.int .i64 cx, .int .i64 cy] 23))
  go_enter Tryd.func3, Tryd.ntmps3
  go_wp2_with fail
  generalize (((w.alloc (.cells #[.int .i64 ax, .int .i64 ay] 23)).alloc (.cells #[.int .i64 bx, .int .i64 by'] 23)).alloc (.cells #[.int .i64 cx, .int .i64 cy] 23)) = x0 at hb0 a_k b_k c_k ⊢
  have H := H.keeps hb0
  refine (alive13 _ H).mono ?_
  rintro _ y1 ⟨rfl, hw1⟩
  have H := H.keeps hw1
  have a_k := (hw1.block _ (Array.getElem?_eq_some_iff.1 a_k).1).trans a_k
  have b_k := (hw1.block _ (Array.getElem?_eq_some_iff.1 b_k).1).trans b_k
  have c_k := (hw1.block _ (Array.getElem?_eq_some_iff.1 c_k).1).trans c_k
  have hb1 := bel_trans hb0 hw1
  have f_a0 := blkC a_k 0 rfl
  have f_a1 := blkC a_k 1 rfl
  have f_b0 := blkC b_k 0 rfl
  have f_b1 := blkC b_k 1 rfl
  go_wp2_with fail
  clear f_a0 f_a1 f_b0 f_b1
  refine (CE.out _ H).mono ?_
  rintro _ y2 ⟨v, V, rfl, h2, hV, bV⟩
  obtain ⟨x_g, x_o, x_n, x_c, x_e, rfl⟩ := dans_shape h2
  have hw2 := h2.below
  have x_D := h2.num
  have H := H.keeps hw2
  have a_k := (hw2.block _ (Array.getElem?_eq_some_iff.1 a_k).1).trans a_k
  have b_k := (hw2.block _ (Array.getElem?_eq_some_iff.1 b_k).1).trans b_k
  have c_k := (hw2.block _ (Array.getElem?_eq_some_iff.1 c_k).1).trans c_k
  have hb2 := bel_trans hb1 hw2
  have a_k := heap_past (.cells #[.bool x_g, .slice x_o x_n x_c, .int .i64 x_e] 27) a_k
  have b_k := heap_past (.cells #[.bool x_g, .slice x_o x_n x_c, .int .i64 x_e] 27) b_k
  have c_k := heap_past (.cells #[.bool x_g, .slice x_o x_n x_c, .int .i64 x_e] 27) c_k
  have x_k := heap_a1 y2 (.cells #[.bool x_g, .slice x_o x_n x_c, .int .i64 x_e] 27)
  have x_D := x_D.keeps (bel_alloc y2 (.cells #[.bool x_g, .slice x_o x_n x_c, .int .i64 x_e] 27))
  have H := H.keeps (bel_alloc y2 (.cells #[.bool x_g, .slice x_o x_n x_c, .int .i64 x_e] 27))
  have hb3' := bel_trans hb2 (bel_alloc y2 (.cells #[.bool x_g, .slice x_o x_n x_c, .int .i64 x_e] 27))
  have f_a0 := blkC a_k 0 rfl
  have f_a1 := blkC a_k 1 rfl
  have f_b0 := blkC b_k 0 rfl
  have f_b1 := blkC b_k 1 rfl
  have f_c0 := blkC c_k 0 rfl
  have f_c1 := blkC c_k 1 rfl
  go_wp2_with fail
  clear f_a0 f_a1 f_b0 f_b1 f_c0 f_c1
  generalize y2.alloc (.cells #[.bool x_g, .slice x_o x_n x_c, .int .i64 x_e] 27) = x3 at a_k b_k c_k x_k x_D H hb3' ⊢
  refine (CD.out _ H).mono ?_
  have hrsA : w.heap.size + 2 < x3.heap.size := (Array.getElem?_eq_some_iff.1 c_k).1
  rintro _ y3 ⟨v, U, rfl, h3, hU, bU⟩
  obtain ⟨q_g, q_o, q_n, q_c, q_e, rfl⟩ := dans_shape h3
  have hw3 := h3.below
  have q_D := h3.num
  have H := H.keeps hw3
  have a_k := (hw3.block _ (Array.getElem?_eq_some_iff.1 a_k).1).trans a_k
  have b_k := (hw3.block _ (Array.getElem?_eq_some_iff.1 b_k).1).trans b_k
  have c_k := (hw3.block _ (Array.getElem?_eq_some_iff.1 c_k).1).trans c_k
  have x_k := (hw3.block _ (Array.getElem?_eq_some_iff.1 x_k).1).trans x_k
  have x_D := x_D.keeps hw3
  have hb3 := bel_trans hb3' hw3
  have q_A := h3.dan
  have q_A0 := h3.dan
  have hqA : LeQ y3.heap.size y3 := Nat.le_refl _
  have hz : Hid (y3.heap.size + 1 = (y3.alloc (.cells #[.bool q_g, .slice q_o q_n q_c, .int .i64 q_e] 27)).heap.size) := (size_alloc _ _).symm
  have a_k := heap_past (.cells #[.bool q_g, .slice q_o q_n q_c, .int .i64 q_e] 27) a_k
  have b_k := heap_past (.cells #[.bool q_g, .slice q_o q_n q_c, .int .i64 q_e] 27) b_k
  have c_k := heap_past (.cells #[.bool q_g, .slice q_o q_n q_c, .int .i64 q_e] 27) c_k
  have x_k := heap_past (.cells #[.bool q_g, .slice q_o q_n q_c, .int .i64 q_e] 27) x_k
  have q_k := heap_a1 y3 (.cells #[.bool q_g, .slice q_o q_n q_c, .int .i64 q_e] 27)
  have x_D := x_D.keeps (bel_alloc y3 (.cells #[.bool q_g, .slice q_o q_n q_c, .int .i64 q_e] 27))
  have q_D := q_D.keeps (bel_alloc y3 (.cells #[.bool q_g, .slice q_o q_n q_c, .int .i64 q_e] 27))
  have H := H.keeps (bel_alloc y3 (.cells #[.bool q_g, .slice q_o q_n q_c, .int .i64 q_e] 27))
  have q_A := q_A.keeps (bel_alloc y3 (.cells #[.bool q_g, .slice q_o q_n q_c, .int .i64 q_e] 27))
  have hqA := hqA.keeps (bel_alloc y3 (.cells #[.bool q_g, .slice q_o q_n q_c, .int .i64 q_e] 27))
  have hb4' := bel_trans hb3 (bel_alloc y3 (.cells #[.bool q_g, .slice q_o q_n q_c, .int .i64 q_e] 27))
  have f_a0 := blkC a_k 0 rfl
  have f_a1 := blkC a_k 1 rfl
  have f_b0 := blkC b_k 0 rfl
  have f_b1 := blkC b_k 1 rfl
  go_wp2_with fail
  clear f_a0 f_a1 f_b0 f_b1
  generalize y3.alloc (.cells #[.bool q_g, .slice q_o q_n q_c, .int .i64 q_e] 27) = x4 at hz a_k b_k c_k x_k q_k x_D q_D H q_A hqA hb4' ⊢
  refine (CG.out _ _ (heap_new _ hz.out)).mono ?_
  rintro _ y4 ⟨rfl, hv4⟩
  have hw4 := bel_trans (bel_alloc x4 (.cells #[.int .i64 ax, .int .i64 ay, .int .i64 bx, .int .i64 by'] 23)) hv4
  have H := H.keeps hw4
  have q_A := q_A.keeps hw4
  have hqA := hqA.keeps hw4
  have a_k := (hw4.block _ (Array.getElem?_eq_some_iff.1 a_k).1).trans a_k
  have b_k := (hw4.block _ (Array.getElem?_eq_some_iff.1 b_k).1).trans b_k
  have c_k := (hw4.block _ (Array.getElem?_eq_some_iff.1 c_k).1).trans c_k
  have x_k := (hw4.block _ (Array.getElem?_eq_some_iff.1 x_k).1).trans x_k
  have x_D := x_D.keeps hw4
  have q_k := (hw4.block _ (Array.getElem?_eq_some_iff.1 q_k).1).trans q_k
  have q_D := q_D.keeps hw4
  have hb4 := bel_trans hb4' hw4
  have f_c0 := blkC c_k 0 rfl
  have f_c1 := blkC c_k 1 rfl
  go_wp2_with fail
  clear f_c0 f_c1
  refine (CF.out _).mono ?_
  rintro _ y5 ⟨rfl, hw5⟩
  have H := H.keeps hw5
  have q_A := q_A.keeps hw5
  have hqA := hqA.keeps hw5
  have a_k := (hw5.block _ (Array.getElem?_eq_some_iff.1 a_k).1).trans a_k
  have b_k := (hw5.block _ (Array.getElem?_eq_some_iff.1 b_k).1).trans b_k
  have c_k := (hw5.block _ (Array.getElem?_eq_some_iff.1 c_k).1).trans c_k
  have x_k := (hw5.block _ (Array.getElem?_eq_some_iff.1 x_k).1).trans x_k
  have x_D := x_D.keeps hw5
  have q_k := (hw5.block _ (Array.getElem?_eq_some_iff.1 q_k).1).trans q_k
  have q_D := q_D.keeps hw5
  have hb5 := bel_trans hb4 hw5
  have f_x1 := blkC x_k 1 rfl
  have f_q1 := blkC q_k 1 rfl
  go_wp2_with (go_at_call 9; refine (mnum _ _).mono ?_; rintro _ wz ⟨rfl, hwz⟩; replace hwz := hwz.symm; subst hwz)
  clear f_x1 f_q1
  have KK6 : ∀ W, Below y5.heap.size y5 W → W.cell? ⟨w.heap.size, 0, none⟩ = some (.int .i64 ax) ∧ W.cell? ⟨w.heap.size, 1, none⟩ = some (.int .i64 ay) ∧ W.cell? ⟨w.heap.size + 1, 0, none⟩ = some (.int .i64 bx) ∧ W.cell? ⟨w.heap.size + 1, 1, none⟩ = some (.int .i64 by') ∧ W.cell? ⟨y2.heap.size, 0, none⟩ = some (.bool x_g) ∧ W.cell? ⟨y2.heap.size, 1, none⟩ = some (.slice x_o x_n x_c) ∧ W.cell? ⟨y2.heap.size, 2, none⟩ = some (.int .i64 x_e) := fun W hb => ⟨q_cell (blkC a_k 0 rfl) hb, q_cell (blkC a_k 1 rfl) hb, q_cell (blkC b_k 0 rfl) hb, q_cell (blkC b_k 1 rfl) hb, q_cell (blkC x_k 0 rfl) hb, q_cell (blkC x_k 1 rfl) hb, q_cell (blkC x_k 2 rfl) hb⟩
  have hC6_0 := (bel_refl y5).drew
  have hs6_0 := (bel_refl y5).drew
  have hT6_0 : Below w.heap.size w y5.drew := hb5.drew
  have x_D_6_0 := x_D.keeps (bel_refl y5).drew
  go_region_held3 (fun W => W.cell? ⟨w.heap.size, 0, none⟩ = some (.int .i64 ax) ∧ W.cell? ⟨w.heap.size, 1, none⟩ = some (.int .i64 ay) ∧ W.cell? ⟨w.heap.size + 1, 0, none⟩ = some (.int .i64 bx) ∧ W.cell? ⟨w.heap.size + 1, 1, none⟩ = some (.int .i64 by') ∧ W.cell? ⟨y2.heap.size, 0, none⟩ = some (.bool x_g) ∧ W.cell? ⟨y2.heap.size, 1, none⟩ = some (.slice x_o x_n x_c) ∧ W.cell? ⟨y2.heap.size, 2, none⟩ = some (.int .i64 x_e))
    (with_reducible first | assumption | exact KK6 _ hC6_0 | exact KK6 _ hC6_1 | exact KK6 _ hC6_2 | fail)
    (first
      | (go_at_call 10; have _t := hs6_1; refine (osame_D (x_D_6_1.keeps (by with_reducible first | exact bel_refl _ | exact bel_alloc _ _ | exact bel_dr _ _)) wa6.num).mono ?_; rintro _ y6_2 ⟨rfl, hq6_2⟩; have hs6_2 : Below y6_1.heap.size y6_1 y6_2 := (by with_reducible first | exact hq6_2 | exact bel_trans (bel_alloc _ _) hq6_2 | exact bel_trans (bel_dr _ _) hq6_2); have hT6_2 := bel_trans hT6_1 hs6_2; have hC6_2 := bel_trans hC6_1 hs6_2; have x_D_6_2 := x_D_6_1.keeps hs6_2)
      | (go_at_call 11; refine (CQ.out _).mono ?_; rintro _ y6_1 ⟨v, V', rfl, wa6, hq6_1, hV', bV'⟩; obtain rfl := hV.unique hV'; obtain ⟨s_g, s_o, s_n, s_c, s_e, rfl⟩ := wa6.shape; have hs6_1 : Below y5.drew.heap.size y5.drew y6_1 := (by with_reducible first | exact hq6_1 | exact bel_trans (bel_alloc _ _) hq6_1 | exact bel_trans (bel_dr _ _) hq6_1); have hT6_1 := bel_trans hT6_0 hs6_1; have hC6_1 := bel_trans hC6_0 hs6_1; have x_D_6_1 := x_D_6_0.keeps hs6_1))
  have hw6 := bel_trans (bel_trans hs6_0 hs6_1) hs6_2
  have hVV : decide (V = V) = true := decide_eq_true rfl
  have H := H.keeps hw6
  have q_A := q_A.keeps hw6
  have hqA := hqA.keeps hw6
  have a_k := (hw6.block _ (Array.getElem?_eq_some_iff.1 a_k).1).trans a_k
  have b_k := (hw6.block _ (Array.getElem?_eq_some_iff.1 b_k).1).trans b_k
  have c_k := (hw6.block _ (Array.getElem?_eq_some_iff.1 c_k).1).trans c_k
  have x_k := (hw6.block _ (Array.getElem?_eq_some_iff.1 x_k).1).trans x_k
  have x_D := x_D.keeps hw6
  have q_k := (hw6.block _ (Array.getElem?_eq_some_iff.1 q_k).1).trans q_k
  have q_D := q_D.keeps hw6
  have hb6 := bel_trans hb5 hw6
  have f_x9 := hVV
  have f_a0 := blkC a_k 0 rfl
  have f_a1 := blkC a_k 1 rfl
  have f_b0 := blkC b_k 0 rfl
  have f_b1 := blkC b_k 1 rfl
  have f_c0 := blkC c_k 0 rfl
  have f_c1 := blkC c_k 1 rfl
  go_wp2_with (go_at_call 9; refine (mnum _ _).mono ?_; rintro _ wz ⟨rfl, hwz⟩; replace hwz := hwz.symm; subst hwz)
  clear f_a0 f_a1 f_b0 f_b1 f_c0 f_c1
  clear f_x9 hVV
  refine (CR.out _).mono ?_
  rintro _ y7 ⟨v, U', rfl, want_D, hw7, hU', bU'⟩
  obtain rfl := hU.unique hU'
  obtain ⟨want_g, want_o, want_n, want_c, want_e, rfl⟩ := want_D.shape
  have hWq := (Array.getElem?_eq_some_iff.1 q_k).1
  have hqB := hqA
  have H := H.keeps hw7
  have q_A := q_A.keeps hw7
  have hqA := hqA.keeps hw7
  have a_k := (hw7.block _ (Array.getElem?_eq_some_iff.1 a_k).1).trans a_k
  have b_k := (hw7.block _ (Array.getElem?_eq_some_iff.1 b_k).1).trans b_k
  have c_k := (hw7.block _ (Array.getElem?_eq_some_iff.1 c_k).1).trans c_k
  have x_k := (hw7.block _ (Array.getElem?_eq_some_iff.1 x_k).1).trans x_k
  have x_D := x_D.keeps hw7
  have q_k := (hw7.block _ (Array.getElem?_eq_some_iff.1 q_k).1).trans q_k
  have q_D := q_D.keeps hw7
  have hb7 := bel_trans hb6 hw7
  have a_k := heap_past (.cells #[.bool want_g, .slice want_o want_n want_c, .int .i64 want_e] 27) a_k
  have b_k := heap_past (.cells #[.bool want_g, .slice want_o want_n want_c, .int .i64 want_e] 27) b_k
  have c_k := heap_past (.cells #[.bool want_g, .slice want_o want_n want_c, .int .i64 want_e] 27) c_k
  have x_k := heap_past (.cells #[.bool want_g, .slice want_o want_n want_c, .int .i64 want_e] 27) x_k
  have q_k := heap_past (.cells #[.bool want_g, .slice want_o want_n want_c, .int .i64 want_e] 27) q_k
  have want_k := heap_a1 y7 (.cells #[.bool want_g, .slice want_o want_n want_c, .int .i64 want_e] 27)
  have x_D := x_D.keeps (bel_alloc y7 (.cells #[.bool want_g, .slice want_o want_n want_c, .int .i64 want_e] 27))
  have q_D := q_D.keeps (bel_alloc y7 (.cells #[.bool want_g, .slice want_o want_n want_c, .int .i64 want_e] 27))
  have want_D := want_D.keeps (bel_alloc y7 (.cells #[.bool want_g, .slice want_o want_n want_c, .int .i64 want_e] 27))
  have H := H.keeps (bel_alloc y7 (.cells #[.bool want_g, .slice want_o want_n want_c, .int .i64 want_e] 27))
  have q_A := q_A.keeps (bel_alloc y7 (.cells #[.bool want_g, .slice want_o want_n want_c, .int .i64 want_e] 27))
  have hqA := hqA.keeps (bel_alloc y7 (.cells #[.bool want_g, .slice want_o want_n want_c, .int .i64 want_e] 27))
  have hb8' := bel_trans hb7 (bel_alloc y7 (.cells #[.bool want_g, .slice want_o want_n want_c, .int .i64 want_e] 27))
  have f_q0 := blkC q_k 0 rfl
  have f_q1 := blkC q_k 1 rfl
  have f_q2 := blkC q_k 2 rfl
  go_wp2_with fail
  clear f_q0 f_q1 f_q2
  generalize y7.alloc (.cells #[.bool want_g, .slice want_o want_n want_c, .int .i64 want_e] 27) = x8 at a_k b_k c_k x_k q_k want_k x_D q_D want_D H q_A hqA hb8' ⊢
  refine (osame_D q_D want_D.num).mono ?_
  rintro _ y8 ⟨rfl, hw8⟩
  have H := H.keeps hw8
  have q_A := q_A.keeps hw8
  have hqA := hqA.keeps hw8
  have a_k := (hw8.block _ (Array.getElem?_eq_some_iff.1 a_k).1).trans a_k
  have b_k := (hw8.block _ (Array.getElem?_eq_some_iff.1 b_k).1).trans b_k
  have c_k := (hw8.block _ (Array.getElem?_eq_some_iff.1 c_k).1).trans c_k
  have x_k := (hw8.block _ (Array.getElem?_eq_some_iff.1 x_k).1).trans x_k
  have x_D := x_D.keeps hw8
  have q_k := (hw8.block _ (Array.getElem?_eq_some_iff.1 q_k).1).trans q_k
  have q_D := q_D.keeps hw8
  have want_k := (hw8.block _ (Array.getElem?_eq_some_iff.1 want_k).1).trans want_k
  have want_D := want_D.keeps hw8
  have hb8 := bel_trans hb8' hw8
  obtain ⟨mx, _, anx⟩ := q_A.parts
  obtain ⟨mx0, _, anx0⟩ := q_A0.parts
  have f_q1 := blkC q_k 1 rfl
  go_wp2_with fail
  obtain ⟨gx, hgx⟩ : ∃ gx : Nat, (q_n = 0 ∨ ∃ cu, q_o = some ⟨gx, 0, none⟩ ∧ x3.heap.size ≤ gx ∧ gx < y3.heap.size ∧ y8.heap[gx]? = some (.cells cu 3 (0, 0)) ∧ q_n ≤ cu.size) := by
    rcases an_block anx with h | ⟨g, cu, h1, h2, h3, h4⟩
    · exact ⟨0, .inl h⟩
    · refine ⟨g, .inr ⟨cu, h1, h2, ?_, h3, h4⟩⟩
      rw [h1] at anx0
      exact (anx0.ge (g := g) rfl).2
  have hxm : q_n ≤ 9223372036854775807 := by
    obtain ⟨ao, n, cap, d, e, hR, _⟩ := anx.num
    simp only [Value.slice.injEq] at e
    obtain ⟨rfl, rfl, rfl⟩ := e
    exact Nat.le_trans hR.le hR.max
  have hbw : y7.heap.size ≥ y6_2.heap.size := hw7.size
  have hge : x3.heap.size ≥ w.heap.size + 3 := by have h1 := hrsA; omega
  have hqw : y3.heap.size ≤ y6_2.heap.size := hqB
  have HA := a_k
  have HB := b_k
  have HC := c_k
  have HX := q_k
  have HW := want_k
  have HD := want_D
  have HBL := hb8
  clear f_q1 anx anx0 q_A q_A0 q_D H x_k x_D
  go_loopw [16] (fun i wr => ∃ k : Nat, k ≤ q_n ∧ i = .int .i64 k ∧ Hid (wr.heap[w.heap.size]? = some (.cells #[.int .i64 ax, .int .i64 ay] 23 (0, 0))) ∧ Hid (wr.heap[w.heap.size + 1]? = some (.cells #[.int .i64 bx, .int .i64 by'] 23 (0, 0))) ∧ Hid (wr.heap[w.heap.size + 2]? = some (.cells #[.int .i64 cx, .int .i64 cy] 23 (0, 0))) ∧ Hid (wr.heap[y3.heap.size]? = some (.cells #[.bool q_g, .slice q_o q_n q_c, .int .i64 q_e] 27 (0, 0))) ∧ Hid (wr.heap[y7.heap.size]? = some (.cells #[.bool want_g, .slice want_o want_n want_c, .int .i64 want_e] 27 (0, 0))) ∧ Hid (DAn y6_2.heap.size wr U (.agg #[.bool want_g, .slice want_o want_n want_c, .int .i64 want_e])) ∧ Hid (q_n = 0 ∨ ∃ cu, q_o = some ⟨gx, 0, none⟩ ∧ x3.heap.size ≤ gx ∧ gx < y3.heap.size ∧ wr.heap[gx]? = some (.cells cu 3 (0, 0)) ∧ q_n ≤ cu.size) ∧ Below w.heap.size w wr) (fun i _ => q_n - (intOf i).toNat)
  case atStart => exact ⟨0, Nat.zero_le _, rfl, HA, HB, HC, HX, HW, HD, hgx, HBL⟩
  case round =>
    clear HA HB HC HX HW HD HBL hgx
    obtain ⟨k, hk, rfl, HA, HB, HC, HX, HW, HD, hgx, hbr⟩ := hrel
    have fx1 := blkC HX.out 1 rfl
    by_cases hlt : k < q_n
    · obtain ⟨cu, hxo, g1, g2, hg, hsz⟩ : ∃ cu, q_o = some ⟨gx, 0, none⟩ ∧ x3.heap.size ≤ gx ∧ gx < y3.heap.size ∧ wr.heap[gx]? = some (.cells cu 3 (0, 0)) ∧ q_n ≤ cu.size := by
        rcases hgx.out with h | h
        · omega
        · exact h
      obtain ⟨v0, hv0⟩ : ∃ v0, cu[k]? = some v0 := ⟨cu[k]'(by omega), by simp⟩
      have c0 := blkC hg k hv0
      have z0 := blkF hg k
      have HXO : Hid (q_o = some ⟨gx, 0, none⟩) := hxo
      have i0 : (0 : Int) ≤ (k : Int) := by omega
      have i1 : (k : Int) < (q_n : Int) := by omega
      have HG : Hid (wr.heap[gx]? = some (.cells cu 3 (0, 0))) := hg
      clear hg hv0
      subst hxo
      go_wp2
      have hwr : Wr gx wr (wr.setCell ⟨gx, k, none⟩ (.int .i64 (-1))) := (Wr.refl gx wr).setCell k _
      have kp : ∀ {g : Nat} {X : Obj}, wr.heap[g]? = some X → g ≠ gx → (wr.setCell ⟨gx, k, none⟩ (.int .i64 (-1))).heap[g]? = some X := fun h hne => (hwr.block _ (Array.getElem?_eq_some_iff.1 h).1 hne).trans h
      go_roundw
      case rel => exact ⟨k + 1, by omega, by go_num, kp HA.out (by omega), kp HB.out (by omega), kp HC.out (by omega), kp HX.out (by omega), kp HW.out (by omega), HD.out.wr hwr (by omega), .inr ⟨_, (by first | rfl | trivial), g1, g2, heap_set HG.out k (.int .i64 (-1)), by simpa using hsz⟩, hbr.setCell (p := ⟨gx, k, none⟩) (show w.heap.size ≤ gx by omega) _⟩
      case measure => simp [intOf]; omega
    · obtain rfl : k = q_n := by omega
      have fa0 := blkC HA.out 0 rfl
      have fa1 := blkC HA.out 1 rfl
      have fb0 := blkC HB.out 0 rfl
      have fb1 := blkC HB.out 1 rfl
      have fc0 := blkC HC.out 0 rfl
      have fc1 := blkC HC.out 1 rfl
      go_wp2_with fail
      clear fa0 fa1 fb0 fb1 fc0 fc1
      refine (CD.out _ (H00.keeps hbr)).mono ?_
      rintro _ yy ⟨v, V2, rfl, hyD, hV2, bV2⟩
      obtain rfl := hU.unique hV2
      obtain ⟨y_g, y_o, y_n, y_c, y_e, rfl⟩ := dans_shape hyD
      have hwy := hyD.below
      have hW2 := (hwy.block _ (Array.getElem?_eq_some_iff.1 HW.out).1).trans HW.out
      have hD2 := HD.out.keeps hwy
      have hnD := hyD.num
      have hW3 := heap_past (.cells #[.bool y_g, .slice y_o y_n y_c, .int .i64 y_e] 27) hW2
      have y_k := heap_a1 yy (.cells #[.bool y_g, .slice y_o y_n y_c, .int .i64 y_e] 27)
      have hD3 := hD2.keeps (bel_alloc yy (.cells #[.bool y_g, .slice y_o y_n y_c, .int .i64 y_e] 27))
      have hnD3 := hnD.keeps (bel_alloc yy (.cells #[.bool y_g, .slice y_o y_n y_c, .int .i64 y_e] 27))
      have hbE := bel_trans hbr (bel_trans hwy (bel_alloc yy (.cells #[.bool y_g, .slice y_o y_n y_c, .int .i64 y_e] 27)))
      have f0 := blkC hW3 0 rfl
      have f1 := blkC hW3 1 rfl
      have f2 := blkC hW3 2 rfl
      go_wp2_with fail
      clear f0 f1 f2
      generalize yy.alloc (.cells #[.bool y_g, .slice y_o y_n y_c, .int .i64 y_e] 27) = xz at hW3 y_k hD3 hnD3 hbE ⊢
      refine (osame_D hnD3 hD3.num).mono ?_
      rintro _ yz ⟨rfl, hwz⟩
      have hbF := bel_trans hbE hwz
      go_wp2_with (go_at_call 9; refine (mnum _ _).mono ?_; rintro _ _ ⟨rfl, rfl⟩)
      all_goals go_ret
      all_goals exact ⟨ret_bool (by simp), by first | exact hbF | exact hbF.drew⟩
theorem walk (ax ay bx by' cx cy : Int) (w : World) (rax : rng ax) (ray : rng ay) (rbx : rng bx) (rby : rng by') (rcx : rng cx) (rcy : rng cy) (H : Hold4 w) :
    Calls Tryd.prog 3 #[.agg #[.int .i64 ax, .int .i64 ay], .agg #[.int .i64 bx, .int .i64 by'], .agg #[.int .i64 cx, .int .i64 cy]] w fun e w' => e = .returned (.bool true) ∧ Below w.heap.size w w' := by
  cases h : (ptok ax ay && ptok bx by')
  · cases k : ptok cx cy
    · exact walk_no_false ax ay bx by' cx cy w rax ray rbx rby rcx rcy h k H
    · exact walk_no_true ax ay bx by' cx cy w rax ray rbx rby rcx rcy h k H
  · have h' : (pok ax = true ∧ pok ay = true) ∧ pok bx = true ∧ pok by' = true := by unfold ptok at h; simpa using h
    obtain ⟨⟨h1, h2⟩, h3, h4⟩ := h'
    cases k : ptok cx cy
    · exact walk_two ax ay bx by' cx cy w rax ray rbx rby rcx rcy h1 h2 h3 h4 k H
    · have k' : pok cx = true ∧ pok cy = true := by unfold ptok at k; simpa using k
      exact walk_yes ax ay bx by' cx cy w rax ray rbx rby rcx rcy h1 h2 h3 h4 k'.1 k'.2 H
theorem own : ownKnob Tryd.prog.godebug = none := by kernel_rfl
theorem laidOut : laidOutB Tryd.prog = true := by kernel_rfl
theorem door_met (os : Os) (args : Array Value) : laidMetH Tryd.prog Rows.measureExactRow.laid ((World.doorLaid Tryd.prog 400 os).forCall (fun _ _ => 0) ⟨#[], args, []⟩).memory :=
  laidMetH_of_parts3 (fuel := 8) (laidMet_of_run' 8 (by kernel_rfl) (by kernel_rfl)) (by kernel_rfl) (by kernel_rfl)
set_option maxRecDepth 100000 in
theorem lifted (os : Os) (started : os.Started) (H : Type) (enc : TypeId × Value → H) :
    ReturnsInHanded {} Tryd.checked os 3 .any (fun w args => (Rows.measureExactSpec.pre enc Tryd.prog Tryd.f3 [] false w args ∧ laidMetH Tryd.prog Rows.measureExactRow.laid w) ∧ sizedMet enc Tryd.prog Tryd.f3 (OpenSpec.ofChange Rows.measureExactSpec) false w args)
      (Rows.measureExactSpec.post enc Tryd.prog Tryd.f3 false true false false) := by
  refine returnsInHanded_of_change_and (C := Tryd.checked) (X := fun w _ => laidMetH Tryd.prog Rows.measureExactRow.laid w) (fun _ _ _ hh h => h.of_heap hh) own started (by kernel_rfl) Tryd.func3
    (ChangeSpec.witness_shaped (enc := enc) (C := Tryd.checked) (os := os) (X := fun w _ => laidMetH Tryd.prog Rows.measureExactRow.laid w) false (World.doorLaid Tryd.prog 400 os) #[.agg #[.int .i64 0, .int .i64 0], .agg #[.int .i64 0, .int .i64 0], .agg #[.int .i64 0, .int .i64 0]] 8 rfl (World.shaped_of_RefB (by kernel_rfl) (by kernel_rfl)) (by kernel_rfl) (by kernel_rfl) (by kernel_rfl) (door_met os _)) ?_
  intro W base args ds gs before hval0 hW _ _ hL _
  have hval : ∀ (j : Nat) t v, Tryd.f3.params[j]? = some t → args[j]? = some v → Value.okWide Tryd.prog W .any base t v := hval0
  have hW' := hW
  obtain ⟨p, q, hA0, hV, rfl, hfz, hnd⟩ := hW
  have hA : DataW.TrodAll enc Tryd.prog W 0 (fun _ => true) true Tryd.f3.params.toList args.toList ds p := hA0
  rw [Tryd.params3] at hA hval
  obtain ⟨v0, vs0, d0, ds0, p0, q0, hargs, rfl, rfl, h0, r0⟩ := trodAll_cons hA
  obtain ⟨v1, vs1, d1, ds1, p1, q1, rfl, rfl, rfl, h1, r1⟩ := trodAll_cons r0
  obtain ⟨v2, vs2, d2, ds2, p2, q2, rfl, rfl, rfl, h2, r2⟩ := trodAll_cons r1
  obtain ⟨rfl, rfl, rfl⟩ := trodAll_nil r2
  obtain rfl : args = #[v0, v1, v2] := by cases args; simp_all
  obtain ⟨rfl, rfl⟩ := trodVars_none hV
  have k0 := h0
  have lt0 : ∀ x ∈ p0, x.block < W.heap.size := by obtain ⟨m, hm⟩ := k0; exact DataW.trod_lt m _ _ _ hm
  obtain ⟨x0, y0, rfl, w0, g0⟩ := point_of (hval 0 23 v0 rfl rfl) h0
  have k1 := h1
  have lt1 : ∀ x ∈ p1, x.block < W.heap.size := by obtain ⟨m, hm⟩ := k1; exact DataW.trod_lt m _ _ _ hm
  obtain ⟨x1, y1, rfl, w1, g1⟩ := point_of (hval 1 23 v1 rfl rfl) h1
  have k2 := h2
  have lt2 : ∀ x ∈ p2, x.block < W.heap.size := by obtain ⟨m, hm⟩ := k2; exact DataW.trod_lt m _ _ _ hm
  obtain ⟨x2, y2, rfl, w2, g2⟩ := point_of (hval 2 23 v2 rfl rfl) h2
  clear hA0 hval0
  refine (walk x0 y0 x1 y1 x2 y2 W w0 g0 w1 g1 w2 g2 (hold6_of hL)).mono fun e W' ⟨he, bel⟩ => ?_
  subst he
  exact ⟨_, rfl, _, _, _, [], _, [], hW', trodAll_mk1 (shut_bool Tryd.underlying4 _), (trodAll_cons_mk (Below.trod laidOut (by kernel_rfl) (of_decide_eq_true (by kernel_rfl)) k0 bel lt0) (trodAll_cons_mk (Below.trod laidOut (by kernel_rfl) (of_decide_eq_true (by kernel_rfl)) k1 bel lt1) (trodAll_cons_mk (Below.trod laidOut (by kernel_rfl) (of_decide_eq_true (by kernel_rfl)) k2 bel lt2) trodAll_mk0))), rfl, bel.frame _, fun h => by cases h⟩
theorem said : Rows.MeasureExactSaid :=
  OpenClaim.holds_of_wide 3 Tryd.f3 rfl rfl rfl rfl rfl rfl rfl ⟨rfl, rfl, rfl, rfl, rfl⟩ rfl rfl rfl rfl rfl (by kernel_rfl) Tryd.func3 (by kernel_rfl)
    (of_decide_eq_true (by kernel_rfl)) (by unfold Func.isWrapper; first | (rw [if_pos (by decide +kernel)]; kernel_rfl) | (rw [if_neg (by decide +kernel)]; exact ⟨rfl, rfl⟩))
    (fun os started H enc _ => lifted os started H enc)
theorem plain (f : FuncId) (fn : Func) (hf : Tryd.pinned.checked.prog.funcNamed Tryd.f3.name = some f) (hfn : Tryd.pinned.checked.prog.funcs[f]? = some fn) :
    true = Tryd.pinned.checked.prog.looks [] ∧ ∀ (j : Nat) t, fn.params[j]? = some t → Tryd.pinned.checked.prog.wantsStandIn t = false := by
  obtain rfl : f = 3 := Option.some.inj ((show Tryd.prog.funcNamed Tryd.f3.name = some 3 by kernel_rfl).symm.trans hf) |>.symm
  obtain rfl : fn = Tryd.f3 := (Option.some.inj (Tryd.func3.symm.trans hfn)).symm
  refine ⟨by kernel_rfl, fun j t ht => ?_⟩
  rw [Tryd.params3] at ht
  obtain rfl : t = 23 := by simpa using Array.mem_of_getElem? ht
  exact (show Tryd.prog.wantsStandIn 23 = false by kernel_rfl)
/-- THE CARD. -/
theorem card : Rows.MeasureExactCardSaid :=
  Claim7.holds_tied_plain_at .later [] _ _ _ _ said (fun _ h => by cases h) (by kernel_rfl) (fun _ h => by cases h) measureExact_row_tie rfl ⟨rfl, rfl⟩ (by kernel_rfl) rfl plain (by kernel_rfl)
end Go.Proofs.YtkaidfbnhdhldaaDoor.measureExact
namespace Go.Proofs.YtkaidfbnhdhldaaDoor
/-- MeasureExact: the statement as it is given. -/
theorem measureExact_holds : Rows.MeasureExactCardSaid := measureExact.card
end Go.Proofs.YtkaidfbnhdhldaaDoor
