/-
  MeasureTurns: for every four points the law returns true: Farther of exchanged pairs has the other sign and the same stage, a distance is not farther than itself, angles told from either end are one, the signs are the exact values'. As a card: the library's tables and the layout of package bits start as the program's text lays them.
-/
import Derived.Test.YthpachmmjjlomaaGreatDoorPart29
import Derived.Test.YthpachmmjjlomaaGreatDoorPart12
import Derived.Test.YthpachmmjjlomaaGreatDoorPart19
import Derived.Test.YthpachmmjjlomaaGreatDoorCards
import Derived.Test.YthpachmmjjlomaaGreatDoorTie
namespace Go.Proofs.YthpachmmjjlomaaGreatDoor.measureTurns
open Go Go.ChangeShapes Go.WideShapes Go.ChangeAt Go.RowKit Go.Proofs.YthpachmmjjlomaaGreatDoor Go.Proofs.YthpachmmjjlomaaGreatDoor.M
set_option linter.unusedSimpArgs false
set_option linter.unusedVariables false

set_option maxRecDepth 100000 in
theorem osig {w : World} {g : Bool} {o : Option Addr} {n c : Nat} {e V : Int} (h : DNum w (.agg #[.bool g, .slice o n c, .int .i64 e]) V) :
    Calls Tryz.prog 11 #[.agg #[.bool g, .slice o n c, .int .i64 e]] w fun r w' => r = .returned (.int .i64 (ord V 0)) ∧ Below w.heap.size w w' := by
  obtain ⟨hs, hm⟩ := sgn_ord h
  rw [← hs]
  clear hs h
  unfold sgn
  have hb := bel_alloc w (.cells #[.bool g, .slice o n c, .int .i64 e] 35)
  by_cases h0 : n = 0
  · subst h0
    go_enter Tryz.func11, Tryz.ntmps11
    go_wp2
    go_ret
    exact ⟨by simp, hb⟩
  · have hn : ((n : Int) == 0) = false := by simp; omega
    cases g
    all_goals
      go_enter Tryz.func11, Tryz.ntmps11
      go_wp2
      go_ret
      exact ⟨by simp [h0], hb⟩
theorem neg_no {w : World} {g : Bool} {o : Option Addr} {n c : Nat} {e V : Int} (h : DNum w (.agg #[.bool g, .slice o n c, .int .i64 e]) V) (hV : 0 ≤ V) : g = false := by
  obtain ⟨ng', s, m, e', h1, hy, _⟩ := h
  simp only [Value.agg.injEq, Array.mk.injEq, List.cons.injEq, Value.bool.injEq, and_true, true_and] at h1
  obtain ⟨rfl, _⟩ := h1
  rcases hy.form with ⟨_, k, _⟩ | ⟨k, _⟩
  · exact k
  · cases g
    · rfl
    · exfalso
      have p := pw_pos e'
      have q : V = -m * pw e' := hy.val
      have : 0 < m * pw e' := Int.mul_pos k p
      rw [Int.neg_mul] at q
      omega
theorem ord_three (x : Int) : ord x 0 = -1 ∨ ord x 0 = 0 ∨ ord x 0 = 1 := by
  unfold ord
  split
  · exact .inl rfl
  · split
    · first | exact .inr (.inl rfl) | exact .inr (.inr rfl)
    · first | exact .inr (.inr rfl) | exact .inr (.inl rfl)
theorem ord_nil : ord 0 0 = 0 := by decide
set_option maxRecDepth 100000 in
set_option maxHeartbeats 2000000 in
theorem walk_no (ax ay bx by' cx cy dx dy : Int) (w : World) (rax : rng ax) (ray : rng ay) (rbx : rng bx) (rby : rng by') (rcx : rng cx) (rcy : rng cy) (rdx : rng dx) (rdy : rng dy) (hok : (ptok ax ay && ptok bx by' && ptok cx cy && ptok dx dy) = false) (H : Hold4 w) :
    Calls Tryz.prog 3 #[.agg #[.int .i64 ax, .int .i64 ay], .agg #[.int .i64 bx, .int .i64 by'], .agg #[.int .i64 cx, .int .i64 cy], .agg #[.int .i64 dx, .int .i64 dy]] w fun e w' => e = .returned (.bool true) ∧ Below w.heap.size w w' := by
  have CG : Hid (∀ W g, W.heap[g]? = some (.cells #[.int .i64 ax, .int .i64 ay, .int .i64 bx, .int .i64 by', .int .i64 cx, .int .i64 cy, .int .i64 dx, .int .i64 dy] 23) → Calls Tryz.prog 5 #[.slice (some ⟨g, 0, none⟩) 4 4] W fun x w' => x = .returned (.bool false) ∧ Below W.heap.size W w') := fun W g h => by
    have := lgood_any _ _ _ _ _ W (pts4 W h) (rng4 rax rbx rcx rdx) (rng4 ray rby rcy rdy)
    rw [allB4 ptok, hok] at this
    exact this
  clear rax ray rbx rby rcx rcy rdx rdy hok
  have a_k : (w.alloc (.cells #[.int .i64 ax, .int .i64 ay] 23)).heap[w.heap.size]? = some (.cells #[.int .i64 ax, .int .i64 ay] 23) := heap_new (.cells #[.int .i64 ax, .int .i64 ay] 23) (by rfl)
  have hb0 := bel_alloc w (.cells #[.int .i64 ax, .int .i64 ay] 23)
  replace a_k := heap_past (.cells #[.int .i64 bx, .int .i64 by'] 23) a_k
  have b_k : ((w.alloc (.cells #[.int .i64 ax, .int .i64 ay] 23)).alloc (.cells #[.int .i64 bx, .int .i64 by'] 23)).heap[w.heap.size + 1]? = some (.cells #[.int .i64 bx, .int .i64 by'] 23) := heap_new (.cells #[.int .i64 bx, .int .i64 by'] 23) (by simp only [size_alloc])
  replace hb0 := bel_trans hb0 (bel_alloc (w.alloc (.cells #[.int .i64 ax, .int .i64 ay] 23)) (.cells #[.int .i64 bx, .int .i64 by'] 23))
  replace a_k := heap_past (.cells #[.int .i64 cx, .int .i64 cy] 23) a_k
  replace b_k := heap_past (.cells #[.int .i64 cx, .int .i64 cy] 23) b_k
  have c_k : (((w.alloc (.cells #[.int .i64 ax, .int .i64 ay] 23)).alloc (.cells #[.int .i64 bx, .int .i64 by'] 23)).alloc (.cells #[.int .i64 cx, .int .i64 cy] 23)).heap[w.heap.size + 1 + 1]? = some (.cells #[.int .i64 cx, .int .i64 cy] 23) := heap_new (.cells #[.int .i64 cx, .int .i64 cy] 23) (by simp only [size_alloc])
  replace hb0 := bel_trans hb0 (bel_alloc ((w.alloc (.cells #[.int .i64 ax, .int .i64 ay] 23)).alloc (.cells #[.int .i64 bx, .int .i64 by'] 23)) (.cells #[.int .i64 cx, .int .i64 cy] 23))
  replace a_k := heap_past (.cells #[.int .i64 dx, .int .i64 dy] 23) a_k
  replace b_k := heap_past (.cells #[.int .i64 dx, .int .i64 dy] 23) b_k
  replace c_k := heap_past (.cells #[.int .i64 dx, .int .i64 dy] 23) c_k
  have d_k : ((((w.alloc (.cells #[.int .i64 ax, .int .i64 ay] 23)).alloc (.cells #[.int .i64 bx, .int .i64 by'] 23)).alloc (.cells #[.int .i64 cx, .int .i64 cy] 23)).alloc (.cells #[.int .i64 dx, .int .i64 dy] 23)).heap[w.heap.size + 1 + 1 + 1]? = some (.cells #[.int .i64 dx, .int .i64 dy] 23) := heap_new (.cells #[.int .i64 dx, .int .i64 dy] 23) (by simp only [size_alloc])
  replace hb0 := bel_trans hb0 (bel_alloc (((w.alloc (.cells #[.int .i64 ax, .int .i64 ay] 23)).alloc (.cells #[.int .i64 bx, .int .i64 by'] 23)).alloc (.cells #[.int .i64 cx, .int .i64 cy] 23)) (.cells #[.int .i64 dx, .int .i64 dy] 23))
  go_enter Tryz.func3, Tryz.ntmps3
  go_wp2_with fail
  generalize ((((w.alloc (.cells #[.int .i64 ax, .int .i64 ay] 23)).alloc (.cells #[.int .i64 bx, .int .i64 by'] 23)).alloc (.cells #[.int .i64 cx, .int .i64 cy] 23)).alloc (.cells #[.int .i64 dx, .int .i64 dy] 23)) = x0 at hb0 a_k b_k c_k d_k ⊢
  have hb := hb0
  have H := H.keeps hb
  refine (alive13 _ H).mono ?_
  rintro _ y0 ⟨rfl, hw⟩
  have a_k := blk_on hw a_k
  have b_k := blk_on hw b_k
  have c_k := blk_on hw c_k
  have d_k := blk_on hw d_k
  have H := H.keeps hw
  have hb := bel_trans hb hw
  clear hb0
  have f_a0 := blkC a_k 0 rfl
  have f_a1 := blkC a_k 1 rfl
  have f_b0 := blkC b_k 0 rfl
  have f_b1 := blkC b_k 1 rfl
  have f_c0 := blkC c_k 0 rfl
  have f_c1 := blkC c_k 1 rfl
  have f_d0 := blkC d_k 0 rfl
  have f_d1 := blkC d_k 1 rfl
  go_wp2_with fail
  clear f_a0 f_a1 f_b0 f_b1 f_c0 f_c1 f_d0 f_d1
  refine (CG.out _ _ (heap_a1 _ _)).mono ?_
  rintro _ y00 ⟨rfl, hv⟩
  have hw := bel_trans (bel_alloc y0 (.cells #[.int .i64 ax, .int .i64 ay, .int .i64 bx, .int .i64 by', .int .i64 cx, .int .i64 cy, .int .i64 dx, .int .i64 dy] 23)) hv
  have a_k := blk_on hw a_k
  have b_k := blk_on hw b_k
  have c_k := blk_on hw c_k
  have d_k := blk_on hw d_k
  have H := H.keeps hw
  have hb := bel_trans hb hw
  clear hv
  go_wp2
  all_goals go_ret
  all_goals exact ⟨rfl, hb⟩
set_option maxRecDepth 100000 in
set_option maxHeartbeats 8000000 in
theorem walk_yes (ax ay bx by' cx cy dx dy : Int) (w : World) (rax : rng ax) (ray : rng ay) (rbx : rng bx) (rby : rng by') (rcx : rng cx) (rcy : rng cy) (rdx : rng dx) (rdy : rng dy) (pax : pok ax = true) (pay : pok ay = true) (pbx : pok bx = true) (pby : pok by' = true) (pcx : pok cx = true) (pcy : pok cy = true) (pdx : pok dx = true) (pdy : pok dy = true) (H : Hold4 w) :
    Calls Tryz.prog 3 #[.agg #[.int .i64 ax, .int .i64 ay], .agg #[.int .i64 bx, .int .i64 by'], .agg #[.int .i64 cx, .int .i64 cy], .agg #[.int .i64 dx, .int .i64 dy]] w fun e w' => e = .returned (.bool true) ∧ Below w.heap.size w w' := by
  have hok : (ptok ax ay && ptok bx by' && ptok cx cy && ptok dx dy) = true := by unfold ptok; rw [pax, pay, pbx, pby, pcx, pcy, pdx, pdy]; rfl
  have CG : Hid (∀ W g, W.heap[g]? = some (.cells #[.int .i64 ax, .int .i64 ay, .int .i64 bx, .int .i64 by', .int .i64 cx, .int .i64 cy, .int .i64 dx, .int .i64 dy] 23) → Calls Tryz.prog 5 #[.slice (some ⟨g, 0, none⟩) 4 4] W fun x w' => x = .returned (.bool true) ∧ Below W.heap.size W w') := fun W g h => by
    have := lgood_any _ _ _ _ _ W (pts4 W h) (rng4 rax rbx rcx rdx) (rng4 ray rby rcy rdy)
    rw [allB4 ptok, hok] at this
    exact this
  have F1 : Hid (∀ W, Hold4 W → Calls Tryz.prog 6 #[.agg #[.int .i64 ax, .int .i64 ay], .agg #[.int .i64 bx, .int .i64 by'], .agg #[.int .i64 cx, .int .i64 cy], .agg #[.int .i64 dx, .int .i64 dy]] W fun r w' => r = .returned (.tuple #[.agg #[.int .i64 (ord (farX ax ay bx by' cx cy dx dy) 0), .int .i64 (faSt ax ay bx by' cx cy dx dy)], .int .i64 0]) ∧ Below W.heap.size W w') := fun W h => mFarther_ok rax ray rbx rby rcx rcy rdx rdy pax pay pbx pby pcx pcy pdx pdy W h
  have F2 : Hid (∀ W, Hold4 W → Calls Tryz.prog 6 #[.agg #[.int .i64 cx, .int .i64 cy], .agg #[.int .i64 dx, .int .i64 dy], .agg #[.int .i64 ax, .int .i64 ay], .agg #[.int .i64 bx, .int .i64 by']] W fun r w' => r = .returned (.tuple #[.agg #[.int .i64 (-ord (farX ax ay bx by' cx cy dx dy) 0), .int .i64 (faSt ax ay bx by' cx cy dx dy)], .int .i64 0]) ∧ Below W.heap.size W w') := fun W h => by
    have := mFarther_ok rcx rcy rdx rdy rax ray rbx rby pcx pcy pdx pdy pax pay pbx pby W h
    rw [farX_neg ax ay bx by' cx cy dx dy, faSt_comm rax ray rbx rby rcx rcy rdx rdy pax pay pbx pby pcx pcy pdx pdy] at this
    exact this
  have F3 : Hid (∀ W, Hold4 W → Calls Tryz.prog 6 #[.agg #[.int .i64 ax, .int .i64 ay], .agg #[.int .i64 bx, .int .i64 by'], .agg #[.int .i64 bx, .int .i64 by'], .agg #[.int .i64 ax, .int .i64 ay]] W fun r w' => r = .returned (.tuple #[.agg #[.int .i64 0, .int .i64 (faSt ax ay bx by' bx by' ax ay)], .int .i64 0]) ∧ Below W.heap.size W w') := fun W h => by
    have := mFarther_ok rax ray rbx rby rbx rby rax ray pax pay pbx pby pbx pby pax pay W h
    rw [farX_self, ord_nil] at this
    exact this
  have G1 : Hid (∀ W, Hold4 W → Calls Tryz.prog 7 #[.agg #[.int .i64 ax, .int .i64 ay], .agg #[.int .i64 bx, .int .i64 by'], .agg #[.int .i64 cx, .int .i64 cy]] W fun r w' => r = .returned (.tuple #[.agg #[.int .i64 (ord (dotX ax ay bx by' cx cy) 0), .int .i64 (anSt ax ay bx by' cx cy)], .int .i64 0]) ∧ Below W.heap.size W w') := fun W h => mAngle_ok rax ray rbx rby rcx rcy pax pay pbx pby pcx pcy W h
  have G2 : Hid (∀ W, Hold4 W → Calls Tryz.prog 7 #[.agg #[.int .i64 cx, .int .i64 cy], .agg #[.int .i64 bx, .int .i64 by'], .agg #[.int .i64 ax, .int .i64 ay]] W fun r w' => r = .returned (.tuple #[.agg #[.int .i64 (ord (dotX ax ay bx by' cx cy) 0), .int .i64 (anSt ax ay bx by' cx cy)], .int .i64 0]) ∧ Below W.heap.size W w') := fun W h => by
    have := mAngle_ok rcx rcy rbx rby rax ray pcx pcy pbx pby pax pay W h
    rw [dotX_comm, anSt_comm rax ray rbx rby rcx rcy] at this
    exact this
  have DQ : Hid (∀ W, Hold4 W → Calls Tryz.prog 8 #[.agg #[.int .i64 ax, .int .i64 ay], .agg #[.int .i64 bx, .int .i64 by'], .agg #[.int .i64 cx, .int .i64 cy]] W fun r w' => ∃ v V, r = .returned (.tuple #[v, .int .i64 0]) ∧ DAns W w' V v ∧ Hid (ord V 0 = ord (dotX ax ay bx by' cx cy) 0)) := fun W h => by
    refine (mDot_yes rax ray rbx rby rcx rcy pax pay pbx pby pcx pcy W h).mono ?_
    rintro r w' ⟨v, V, e, hA, hV, hB⟩
    exact ⟨v, V, e, hA, by rw [hV.unique (dot2_X rax ray rbx rby rcx rcy pax pay pbx pby pcx pcy)]; exact ord_mulP (pw_pos _)⟩
  have S1 : Hid (∀ W, Hold4 W → Calls Tryz.prog 9 #[.agg #[.int .i64 ax, .int .i64 ay], .agg #[.int .i64 bx, .int .i64 by']] W fun r w' => ∃ v, r = .returned (.tuple #[v, .int .i64 0]) ∧ DAns W w' (dotX ax ay bx by' ax ay * pw (-2148)) v) := fun W h => by
    refine (mSquare_yes rax ray rbx rby pax pay pbx pby W h).mono ?_
    rintro r w' ⟨v, V, e, hA, hV, hB⟩
    rw [hV.unique (dot2_X rax ray rbx rby rax ray pax pay pbx pby pax pay)] at hA
    exact ⟨v, e, hA⟩
  have S2 : Hid (∀ W, Hold4 W → Calls Tryz.prog 9 #[.agg #[.int .i64 bx, .int .i64 by'], .agg #[.int .i64 ax, .int .i64 ay]] W fun r w' => ∃ v, r = .returned (.tuple #[v, .int .i64 0]) ∧ DAns W w' (dotX ax ay bx by' ax ay * pw (-2148)) v) := fun W h => by
    refine (mSquare_yes rbx rby rax ray pbx pby pax pay W h).mono ?_
    rintro r w' ⟨v, V, e, hA, hV, hB⟩
    rw [hV.unique (dot2_X rbx rby rax ray rbx rby pbx pby pax pay pbx pby), sq_back] at hA
    exact ⟨v, e, hA⟩
  have hsq : Hid (0 ≤ dotX ax ay bx by' ax ay * pw (-2148)) := Int.mul_nonneg (dotX_sq ax ay bx by') (Int.le_of_lt (pw_pos _))
  have hsn : Hid ((ord (farX ax ay bx by' cx cy dx dy) 0 = -1 ∧ -ord (farX ax ay bx by' cx cy dx dy) 0 = 1) ∨ (ord (farX ax ay bx by' cx cy dx dy) 0 = 0 ∧ -ord (farX ax ay bx by' cx cy dx dy) 0 = 0) ∨ (ord (farX ax ay bx by' cx cy dx dy) 0 = 1 ∧ -ord (farX ax ay bx by' cx cy dx dy) 0 = -1)) := by
    rcases ord_three (farX ax ay bx by' cx cy dx dy) with h | h | h
    · exact .inl ⟨h, by omega⟩
    · exact .inr (.inl ⟨h, by omega⟩)
    · exact .inr (.inr ⟨h, by omega⟩)
  have heq : ∀ (p q : Int) W, (binOp .eql 28 (.agg #[.int .i64 p, .int .i64 q]) (.agg #[.int .i64 p, .int .i64 q])).run Tryz.prog W = .ok (.bool true) W := fun p q W => by simp [go_sem]
  clear rax ray rbx rby rcx rcy rdx rdy pax pay pbx pby pcx pcy pdx pdy hok
  generalize -ord (farX ax ay bx by' cx cy dx dy) 0 = n1 at *
  generalize ord (farX ax ay bx by' cx cy dx dy) 0 = s1 at *
  generalize faSt ax ay bx by' cx cy dx dy = t1 at *
  generalize faSt ax ay bx by' bx by' ax ay = t3 at *
  generalize ord (dotX ax ay bx by' cx cy) 0 = s2 at *
  generalize anSt ax ay bx by' cx cy = t2 at *
  generalize dotX ax ay bx by' ax ay * pw (-2148) = VS at *
  have a_k : (w.alloc (.cells #[.int .i64 ax, .int .i64 ay] 23)).heap[w.heap.size]? = some (.cells #[.int .i64 ax, .int .i64 ay] 23) := heap_new (.cells #[.int .i64 ax, .int .i64 ay] 23) (by rfl)
  have hb0 := bel_alloc w (.cells #[.int .i64 ax, .int .i64 ay] 23)
  replace a_k := heap_past (.cells #[.int .i64 bx, .int .i64 by'] 23) a_k
  have b_k : ((w.alloc (.cells #[.int .i64 ax, .int .i64 ay] 23)).alloc (.cells #[.int .i64 bx, .int .i64 by'] 23)).heap[w.heap.size + 1]? = some (.cells #[.int .i64 bx, .int .i64 by'] 23) := heap_new (.cells #[.int .i64 bx, .int .i64 by'] 23) (by simp only [size_alloc])
  replace hb0 := bel_trans hb0 (bel_alloc (w.alloc (.cells #[.int .i64 ax, .int .i64 ay] 23)) (.cells #[.int .i64 bx, .int .i64 by'] 23))
  replace a_k := heap_past (.cells #[.int .i64 cx, .int .i64 cy] 23) a_k
  replace b_k := heap_past (.cells #[.int .i64 cx, .int .i64 cy] 23) b_k
  have c_k : (((w.alloc (.cells #[.int .i64 ax, .int .i64 ay] 23)).alloc (.cells #[.int .i64 bx, .int .i64 by'] 23)).alloc (.cells #[.int .i64 cx, .int .i64 cy] 23)).heap[w.heap.size + 1 + 1]? = some (.cells #[.int .i64 cx, .int .i64 cy] 23) := heap_new (.cells #[.int .i64 cx, .int .i64 cy] 23) (by simp only [size_alloc])
  replace hb0 := bel_trans hb0 (bel_alloc ((w.alloc (.cells #[.int .i64 ax, .int .i64 ay] 23)).alloc (.cells #[.int .i64 bx, .int .i64 by'] 23)) (.cells #[.int .i64 cx, .int .i64 cy] 23))
  replace a_k := heap_past (.cells #[.int .i64 dx, .int .i64 dy] 23) a_k
  replace b_k := heap_past (.cells #[.int .i64 dx, .int .i64 dy] 23) b_k
  replace c_k := heap_past (.cells #[.int .i64 dx, .int .i64 dy] 23) c_k
  have d_k : ((((w.alloc (.cells #[.int .i64 ax, .int .i64 ay] 23)).alloc (.cells #[.int .i64 bx, .int .i64 by'] 23)).alloc (.cells #[.int .i64 cx, .int .i64 cy] 23)).alloc (.cells #[.int .i64 dx, .int .i64 dy] 23)).heap[w.heap.size + 1 + 1 + 1]? = some (.cells #[.int .i64 dx, .int .i64 dy] 23) := heap_new (.cells #[.int .i64 dx, .int .i64 dy] 23) (by simp only [size_alloc])
  replace hb0 := bel_trans hb0 (bel_alloc (((w.alloc (.cells #[.int .i64 ax, .int .i64 ay] 23)).alloc (.cells #[.int .i64 bx, .int .i64 by'] 23)).alloc (.cells #[.int .i64 cx, .int .i64 cy] 23)) (.cells #[.int .i64 dx, .int .i64 dy] 23))
  go_enter Tryz.func3, Tryz.ntmps3
  go_wp2_with fail
  generalize ((((w.alloc (.cells #[.int .i64 ax, .int .i64 ay] 23)).alloc (.cells #[.int .i64 bx, .int .i64 by'] 23)).alloc (.cells #[.int .i64 cx, .int .i64 cy] 23)).alloc (.cells #[.int .i64 dx, .int .i64 dy] 23)) = x0 at hb0 a_k b_k c_k d_k ⊢
  have hb := hb0
  have H := H.keeps hb
  refine (alive13 _ H).mono ?_
  rintro _ y0 ⟨rfl, hw⟩
  have a_k := blk_on hw a_k
  have b_k := blk_on hw b_k
  have c_k := blk_on hw c_k
  have d_k := blk_on hw d_k
  have H := H.keeps hw
  have hb := bel_trans hb hw
  clear hb0
  have f_a0 := blkC a_k 0 rfl
  have f_a1 := blkC a_k 1 rfl
  have f_b0 := blkC b_k 0 rfl
  have f_b1 := blkC b_k 1 rfl
  have f_c0 := blkC c_k 0 rfl
  have f_c1 := blkC c_k 1 rfl
  have f_d0 := blkC d_k 0 rfl
  have f_d1 := blkC d_k 1 rfl
  go_wp2_with fail
  clear f_a0 f_a1 f_b0 f_b1 f_c0 f_c1 f_d0 f_d1
  refine (CG.out _ _ (heap_a1 _ _)).mono ?_
  rintro _ y00 ⟨rfl, hv⟩
  have hw := bel_trans (bel_alloc y0 (.cells #[.int .i64 ax, .int .i64 ay, .int .i64 bx, .int .i64 by', .int .i64 cx, .int .i64 cy, .int .i64 dx, .int .i64 dy] 23)) hv
  have a_k := blk_on hw a_k
  have b_k := blk_on hw b_k
  have c_k := blk_on hw c_k
  have d_k := blk_on hw d_k
  have H := H.keeps hw
  have hb := bel_trans hb hw
  clear hv
  have f_a0 := blkC a_k 0 rfl
  have f_a1 := blkC a_k 1 rfl
  have f_b0 := blkC b_k 0 rfl
  have f_b1 := blkC b_k 1 rfl
  have f_c0 := blkC c_k 0 rfl
  have f_c1 := blkC c_k 1 rfl
  have f_d0 := blkC d_k 0 rfl
  have f_d1 := blkC d_k 1 rfl
  go_wp2_with fail
  clear f_a0 f_a1 f_b0 f_b1 f_c0 f_c1 f_d0 f_d1
  refine (F1.out _ H).mono ?_
  rintro _ y1 ⟨rfl, hw⟩
  have a_k := blk_on hw a_k
  have b_k := blk_on hw b_k
  have c_k := blk_on hw c_k
  have d_k := blk_on hw d_k
  have H := H.keeps hw
  have hb := bel_trans hb hw
  have a_k := heap_past (.cells #[.int .i64 s1, .int .i64 t1] 28) a_k
  have b_k := heap_past (.cells #[.int .i64 s1, .int .i64 t1] 28) b_k
  have c_k := heap_past (.cells #[.int .i64 s1, .int .i64 t1] 28) c_k
  have d_k := heap_past (.cells #[.int .i64 s1, .int .i64 t1] 28) d_k
  have v_k : (y1.alloc (.cells #[.int .i64 s1, .int .i64 t1] 28)).heap[y1.heap.size]? = some (.cells #[.int .i64 s1, .int .i64 t1] 28) := heap_new (.cells #[.int .i64 s1, .int .i64 t1] 28) (by simp only [size_alloc])
  have H := H.keeps (bel_alloc y1 (.cells #[.int .i64 s1, .int .i64 t1] 28))
  have hb := bel_trans hb (bel_alloc y1 (.cells #[.int .i64 s1, .int .i64 t1] 28))
  have f_a0 := blkC a_k 0 rfl
  have f_a1 := blkC a_k 1 rfl
  have f_b0 := blkC b_k 0 rfl
  have f_b1 := blkC b_k 1 rfl
  have f_c0 := blkC c_k 0 rfl
  have f_c1 := blkC c_k 1 rfl
  have f_d0 := blkC d_k 0 rfl
  have f_d1 := blkC d_k 1 rfl
  go_wp2_with fail
  clear f_a0 f_a1 f_b0 f_b1 f_c0 f_c1 f_d0 f_d1
  generalize (y1.alloc (.cells #[.int .i64 s1, .int .i64 t1] 28)) = x2 at a_k b_k c_k d_k v_k H hb ⊢
  refine (F2.out _ H).mono ?_
  rintro _ y3 ⟨rfl, hw⟩
  have a_k := blk_on hw a_k
  have b_k := blk_on hw b_k
  have c_k := blk_on hw c_k
  have d_k := blk_on hw d_k
  have v_k := blk_on hw v_k
  have H := H.keeps hw
  have hb := bel_trans hb hw
  have a_k := heap_past (.cells #[.int .i64 n1, .int .i64 t1] 28) a_k
  have b_k := heap_past (.cells #[.int .i64 n1, .int .i64 t1] 28) b_k
  have c_k := heap_past (.cells #[.int .i64 n1, .int .i64 t1] 28) c_k
  have d_k := heap_past (.cells #[.int .i64 n1, .int .i64 t1] 28) d_k
  have v_k := heap_past (.cells #[.int .i64 n1, .int .i64 t1] 28) v_k
  have u_k : (y3.alloc (.cells #[.int .i64 n1, .int .i64 t1] 28)).heap[y3.heap.size]? = some (.cells #[.int .i64 n1, .int .i64 t1] 28) := heap_new (.cells #[.int .i64 n1, .int .i64 t1] 28) (by simp only [size_alloc])
  have H := H.keeps (bel_alloc y3 (.cells #[.int .i64 n1, .int .i64 t1] 28))
  have hb := bel_trans hb (bel_alloc y3 (.cells #[.int .i64 n1, .int .i64 t1] 28))
  have f_a0 := blkC a_k 0 rfl
  have f_a1 := blkC a_k 1 rfl
  have f_b0 := blkC b_k 0 rfl
  have f_b1 := blkC b_k 1 rfl
  go_wp2_with fail
  clear f_a0 f_a1 f_b0 f_b1
  generalize (y3.alloc (.cells #[.int .i64 n1, .int .i64 t1] 28)) = x4 at a_k b_k c_k d_k v_k u_k H hb ⊢
  refine (F3.out _ H).mono ?_
  rintro _ y5 ⟨rfl, hw⟩
  have a_k := blk_on hw a_k
  have b_k := blk_on hw b_k
  have c_k := blk_on hw c_k
  have d_k := blk_on hw d_k
  have v_k := blk_on hw v_k
  have u_k := blk_on hw u_k
  have H := H.keeps hw
  have hb := bel_trans hb hw
  have a_k := heap_past (.cells #[.int .i64 0, .int .i64 t3] 28) a_k
  have b_k := heap_past (.cells #[.int .i64 0, .int .i64 t3] 28) b_k
  have c_k := heap_past (.cells #[.int .i64 0, .int .i64 t3] 28) c_k
  have d_k := heap_past (.cells #[.int .i64 0, .int .i64 t3] 28) d_k
  have v_k := heap_past (.cells #[.int .i64 0, .int .i64 t3] 28) v_k
  have u_k := heap_past (.cells #[.int .i64 0, .int .i64 t3] 28) u_k
  have x_k : (y5.alloc (.cells #[.int .i64 0, .int .i64 t3] 28)).heap[y5.heap.size]? = some (.cells #[.int .i64 0, .int .i64 t3] 28) := heap_new (.cells #[.int .i64 0, .int .i64 t3] 28) (by simp only [size_alloc])
  have H := H.keeps (bel_alloc y5 (.cells #[.int .i64 0, .int .i64 t3] 28))
  have hb := bel_trans hb (bel_alloc y5 (.cells #[.int .i64 0, .int .i64 t3] 28))
  have f_a0 := blkC a_k 0 rfl
  have f_a1 := blkC a_k 1 rfl
  have f_b0 := blkC b_k 0 rfl
  have f_b1 := blkC b_k 1 rfl
  have f_c0 := blkC c_k 0 rfl
  have f_c1 := blkC c_k 1 rfl
  go_wp2_with fail
  clear f_a0 f_a1 f_b0 f_b1 f_c0 f_c1
  generalize (y5.alloc (.cells #[.int .i64 0, .int .i64 t3] 28)) = x6 at a_k b_k c_k d_k v_k u_k x_k H hb ⊢
  refine (G1.out _ H).mono ?_
  rintro _ y7 ⟨rfl, hw⟩
  have a_k := blk_on hw a_k
  have b_k := blk_on hw b_k
  have c_k := blk_on hw c_k
  have d_k := blk_on hw d_k
  have v_k := blk_on hw v_k
  have u_k := blk_on hw u_k
  have x_k := blk_on hw x_k
  have H := H.keeps hw
  have hb := bel_trans hb hw
  have a_k := heap_past (.cells #[.int .i64 s2, .int .i64 t2] 28) a_k
  have b_k := heap_past (.cells #[.int .i64 s2, .int .i64 t2] 28) b_k
  have c_k := heap_past (.cells #[.int .i64 s2, .int .i64 t2] 28) c_k
  have d_k := heap_past (.cells #[.int .i64 s2, .int .i64 t2] 28) d_k
  have v_k := heap_past (.cells #[.int .i64 s2, .int .i64 t2] 28) v_k
  have u_k := heap_past (.cells #[.int .i64 s2, .int .i64 t2] 28) u_k
  have x_k := heap_past (.cells #[.int .i64 s2, .int .i64 t2] 28) x_k
  have m_k : (y7.alloc (.cells #[.int .i64 s2, .int .i64 t2] 28)).heap[y7.heap.size]? = some (.cells #[.int .i64 s2, .int .i64 t2] 28) := heap_new (.cells #[.int .i64 s2, .int .i64 t2] 28) (by simp only [size_alloc])
  have H := H.keeps (bel_alloc y7 (.cells #[.int .i64 s2, .int .i64 t2] 28))
  have hb := bel_trans hb (bel_alloc y7 (.cells #[.int .i64 s2, .int .i64 t2] 28))
  have f_a0 := blkC a_k 0 rfl
  have f_a1 := blkC a_k 1 rfl
  have f_b0 := blkC b_k 0 rfl
  have f_b1 := blkC b_k 1 rfl
  have f_c0 := blkC c_k 0 rfl
  have f_c1 := blkC c_k 1 rfl
  go_wp2_with fail
  clear f_a0 f_a1 f_b0 f_b1 f_c0 f_c1
  generalize (y7.alloc (.cells #[.int .i64 s2, .int .i64 t2] 28)) = x8 at a_k b_k c_k d_k v_k u_k x_k m_k H hb ⊢
  refine (G2.out _ H).mono ?_
  rintro _ y9 ⟨rfl, hw⟩
  have a_k := blk_on hw a_k
  have b_k := blk_on hw b_k
  have c_k := blk_on hw c_k
  have d_k := blk_on hw d_k
  have v_k := blk_on hw v_k
  have u_k := blk_on hw u_k
  have x_k := blk_on hw x_k
  have m_k := blk_on hw m_k
  have H := H.keeps hw
  have hb := bel_trans hb hw
  have a_k := heap_past (.cells #[.int .i64 s2, .int .i64 t2] 28) a_k
  have b_k := heap_past (.cells #[.int .i64 s2, .int .i64 t2] 28) b_k
  have c_k := heap_past (.cells #[.int .i64 s2, .int .i64 t2] 28) c_k
  have d_k := heap_past (.cells #[.int .i64 s2, .int .i64 t2] 28) d_k
  have v_k := heap_past (.cells #[.int .i64 s2, .int .i64 t2] 28) v_k
  have u_k := heap_past (.cells #[.int .i64 s2, .int .i64 t2] 28) u_k
  have x_k := heap_past (.cells #[.int .i64 s2, .int .i64 t2] 28) x_k
  have m_k := heap_past (.cells #[.int .i64 s2, .int .i64 t2] 28) m_k
  have y_k : (y9.alloc (.cells #[.int .i64 s2, .int .i64 t2] 28)).heap[y9.heap.size]? = some (.cells #[.int .i64 s2, .int .i64 t2] 28) := heap_new (.cells #[.int .i64 s2, .int .i64 t2] 28) (by simp only [size_alloc])
  have H := H.keeps (bel_alloc y9 (.cells #[.int .i64 s2, .int .i64 t2] 28))
  have hb := bel_trans hb (bel_alloc y9 (.cells #[.int .i64 s2, .int .i64 t2] 28))
  have f_a0 := blkC a_k 0 rfl
  have f_a1 := blkC a_k 1 rfl
  have f_b0 := blkC b_k 0 rfl
  have f_b1 := blkC b_k 1 rfl
  have f_c0 := blkC c_k 0 rfl
  have f_c1 := blkC c_k 1 rfl
  go_wp2_with fail
  clear f_a0 f_a1 f_b0 f_b1 f_c0 f_c1
  generalize (y9.alloc (.cells #[.int .i64 s2, .int .i64 t2] 28)) = x10 at a_k b_k c_k d_k v_k u_k x_k m_k y_k H hb ⊢
  refine (DQ.out _ H).mono ?_
  rintro _ y11 ⟨z, VQ, rfl, hq, hVQ⟩
  obtain ⟨q_g, q_o, q_n, q_c, q_e, rfl⟩ := dans_shape hq
  have hw := hq.below
  have a_k := blk_on hw a_k
  have b_k := blk_on hw b_k
  have c_k := blk_on hw c_k
  have d_k := blk_on hw d_k
  have v_k := blk_on hw v_k
  have u_k := blk_on hw u_k
  have x_k := blk_on hw x_k
  have m_k := blk_on hw m_k
  have y_k := blk_on hw y_k
  have H := H.keeps hw
  have hb := bel_trans hb hw
  have q_D := hq.num
  clear hq
  have a_k := heap_past (.cells #[.bool q_g, .slice q_o q_n q_c, .int .i64 q_e] 35) a_k
  have b_k := heap_past (.cells #[.bool q_g, .slice q_o q_n q_c, .int .i64 q_e] 35) b_k
  have c_k := heap_past (.cells #[.bool q_g, .slice q_o q_n q_c, .int .i64 q_e] 35) c_k
  have d_k := heap_past (.cells #[.bool q_g, .slice q_o q_n q_c, .int .i64 q_e] 35) d_k
  have v_k := heap_past (.cells #[.bool q_g, .slice q_o q_n q_c, .int .i64 q_e] 35) v_k
  have u_k := heap_past (.cells #[.bool q_g, .slice q_o q_n q_c, .int .i64 q_e] 35) u_k
  have x_k := heap_past (.cells #[.bool q_g, .slice q_o q_n q_c, .int .i64 q_e] 35) x_k
  have m_k := heap_past (.cells #[.bool q_g, .slice q_o q_n q_c, .int .i64 q_e] 35) m_k
  have y_k := heap_past (.cells #[.bool q_g, .slice q_o q_n q_c, .int .i64 q_e] 35) y_k
  have q_k : (y11.alloc (.cells #[.bool q_g, .slice q_o q_n q_c, .int .i64 q_e] 35)).heap[y11.heap.size]? = some (.cells #[.bool q_g, .slice q_o q_n q_c, .int .i64 q_e] 35) := heap_new (.cells #[.bool q_g, .slice q_o q_n q_c, .int .i64 q_e] 35) (by simp only [size_alloc])
  have q_D := q_D.keeps (bel_alloc y11 (.cells #[.bool q_g, .slice q_o q_n q_c, .int .i64 q_e] 35))
  have H := H.keeps (bel_alloc y11 (.cells #[.bool q_g, .slice q_o q_n q_c, .int .i64 q_e] 35))
  have hb := bel_trans hb (bel_alloc y11 (.cells #[.bool q_g, .slice q_o q_n q_c, .int .i64 q_e] 35))
  have f_a0 := blkC a_k 0 rfl
  have f_a1 := blkC a_k 1 rfl
  have f_b0 := blkC b_k 0 rfl
  have f_b1 := blkC b_k 1 rfl
  go_wp2_with fail
  clear f_a0 f_a1 f_b0 f_b1
  generalize (y11.alloc (.cells #[.bool q_g, .slice q_o q_n q_c, .int .i64 q_e] 35)) = x12 at a_k b_k c_k d_k v_k u_k x_k m_k y_k q_k q_D H hb ⊢
  refine (S1.out _ H).mono ?_
  rintro _ y13 ⟨z, rfl, hs⟩
  obtain ⟨s_g, s_o, s_n, s_c, s_e, rfl⟩ := dans_shape hs
  have hw := hs.below
  have a_k := blk_on hw a_k
  have b_k := blk_on hw b_k
  have c_k := blk_on hw c_k
  have d_k := blk_on hw d_k
  have v_k := blk_on hw v_k
  have u_k := blk_on hw u_k
  have x_k := blk_on hw x_k
  have m_k := blk_on hw m_k
  have y_k := blk_on hw y_k
  have q_k := blk_on hw q_k
  have q_D := q_D.keeps hw
  have H := H.keeps hw
  have hb := bel_trans hb hw
  have s_D := hs.num
  have hsg := neg_no s_D hsq.out
  clear hs
  subst hsg
  have a_k := heap_past (.cells #[.bool false, .slice s_o s_n s_c, .int .i64 s_e] 35) a_k
  have b_k := heap_past (.cells #[.bool false, .slice s_o s_n s_c, .int .i64 s_e] 35) b_k
  have c_k := heap_past (.cells #[.bool false, .slice s_o s_n s_c, .int .i64 s_e] 35) c_k
  have d_k := heap_past (.cells #[.bool false, .slice s_o s_n s_c, .int .i64 s_e] 35) d_k
  have v_k := heap_past (.cells #[.bool false, .slice s_o s_n s_c, .int .i64 s_e] 35) v_k
  have u_k := heap_past (.cells #[.bool false, .slice s_o s_n s_c, .int .i64 s_e] 35) u_k
  have x_k := heap_past (.cells #[.bool false, .slice s_o s_n s_c, .int .i64 s_e] 35) x_k
  have m_k := heap_past (.cells #[.bool false, .slice s_o s_n s_c, .int .i64 s_e] 35) m_k
  have y_k := heap_past (.cells #[.bool false, .slice s_o s_n s_c, .int .i64 s_e] 35) y_k
  have q_k := heap_past (.cells #[.bool false, .slice s_o s_n s_c, .int .i64 s_e] 35) q_k
  have s_k : (y13.alloc (.cells #[.bool false, .slice s_o s_n s_c, .int .i64 s_e] 35)).heap[y13.heap.size]? = some (.cells #[.bool false, .slice s_o s_n s_c, .int .i64 s_e] 35) := heap_new (.cells #[.bool false, .slice s_o s_n s_c, .int .i64 s_e] 35) (by simp only [size_alloc])
  have q_D := q_D.keeps (bel_alloc y13 (.cells #[.bool false, .slice s_o s_n s_c, .int .i64 s_e] 35))
  have s_D := s_D.keeps (bel_alloc y13 (.cells #[.bool false, .slice s_o s_n s_c, .int .i64 s_e] 35))
  have H := H.keeps (bel_alloc y13 (.cells #[.bool false, .slice s_o s_n s_c, .int .i64 s_e] 35))
  have hb := bel_trans hb (bel_alloc y13 (.cells #[.bool false, .slice s_o s_n s_c, .int .i64 s_e] 35))
  have f_a0 := blkC a_k 0 rfl
  have f_a1 := blkC a_k 1 rfl
  have f_b0 := blkC b_k 0 rfl
  have f_b1 := blkC b_k 1 rfl
  go_wp2_with fail
  clear f_a0 f_a1 f_b0 f_b1
  generalize (y13.alloc (.cells #[.bool false, .slice s_o s_n s_c, .int .i64 s_e] 35)) = x14 at a_k b_k c_k d_k v_k u_k x_k m_k y_k q_k s_k q_D s_D H hb ⊢
  refine (S2.out _ H).mono ?_
  rintro _ y15 ⟨z, rfl, ht⟩
  obtain ⟨t_g, t_o, t_n, t_c, t_e, rfl⟩ := dans_shape ht
  have hw := ht.below
  have a_k := blk_on hw a_k
  have b_k := blk_on hw b_k
  have c_k := blk_on hw c_k
  have d_k := blk_on hw d_k
  have v_k := blk_on hw v_k
  have u_k := blk_on hw u_k
  have x_k := blk_on hw x_k
  have m_k := blk_on hw m_k
  have y_k := blk_on hw y_k
  have q_k := blk_on hw q_k
  have s_k := blk_on hw s_k
  have q_D := q_D.keeps hw
  have s_D := s_D.keeps hw
  have H := H.keeps hw
  have hb := bel_trans hb hw
  have t_D := ht.num
  clear ht
  have a_k := heap_past (.cells #[.bool t_g, .slice t_o t_n t_c, .int .i64 t_e] 35) a_k
  have b_k := heap_past (.cells #[.bool t_g, .slice t_o t_n t_c, .int .i64 t_e] 35) b_k
  have c_k := heap_past (.cells #[.bool t_g, .slice t_o t_n t_c, .int .i64 t_e] 35) c_k
  have d_k := heap_past (.cells #[.bool t_g, .slice t_o t_n t_c, .int .i64 t_e] 35) d_k
  have v_k := heap_past (.cells #[.bool t_g, .slice t_o t_n t_c, .int .i64 t_e] 35) v_k
  have u_k := heap_past (.cells #[.bool t_g, .slice t_o t_n t_c, .int .i64 t_e] 35) u_k
  have x_k := heap_past (.cells #[.bool t_g, .slice t_o t_n t_c, .int .i64 t_e] 35) x_k
  have m_k := heap_past (.cells #[.bool t_g, .slice t_o t_n t_c, .int .i64 t_e] 35) m_k
  have y_k := heap_past (.cells #[.bool t_g, .slice t_o t_n t_c, .int .i64 t_e] 35) y_k
  have q_k := heap_past (.cells #[.bool t_g, .slice t_o t_n t_c, .int .i64 t_e] 35) q_k
  have s_k := heap_past (.cells #[.bool t_g, .slice t_o t_n t_c, .int .i64 t_e] 35) s_k
  have t_k : (y15.alloc (.cells #[.bool t_g, .slice t_o t_n t_c, .int .i64 t_e] 35)).heap[y15.heap.size]? = some (.cells #[.bool t_g, .slice t_o t_n t_c, .int .i64 t_e] 35) := heap_new (.cells #[.bool t_g, .slice t_o t_n t_c, .int .i64 t_e] 35) (by simp only [size_alloc])
  have q_D := q_D.keeps (bel_alloc y15 (.cells #[.bool t_g, .slice t_o t_n t_c, .int .i64 t_e] 35))
  have s_D := s_D.keeps (bel_alloc y15 (.cells #[.bool t_g, .slice t_o t_n t_c, .int .i64 t_e] 35))
  have t_D := t_D.keeps (bel_alloc y15 (.cells #[.bool t_g, .slice t_o t_n t_c, .int .i64 t_e] 35))
  have H := H.keeps (bel_alloc y15 (.cells #[.bool t_g, .slice t_o t_n t_c, .int .i64 t_e] 35))
  have hb := bel_trans hb (bel_alloc y15 (.cells #[.bool t_g, .slice t_o t_n t_c, .int .i64 t_e] 35))
  have f_s0 := blkC s_k 0 rfl
  have f_s1 := blkC s_k 1 rfl
  have f_s2 := blkC s_k 2 rfl
  have f_t0 := blkC t_k 0 rfl
  have f_t1 := blkC t_k 1 rfl
  have f_t2 := blkC t_k 2 rfl
  go_wp2_with fail
  clear f_s0 f_s1 f_s2 f_t0 f_t1 f_t2
  generalize (y15.alloc (.cells #[.bool t_g, .slice t_o t_n t_c, .int .i64 t_e] 35)) = x16 at a_k b_k c_k d_k v_k u_k x_k m_k y_k q_k s_k t_k q_D s_D t_D H hb ⊢
  refine (osame_D s_D t_D).mono ?_
  rintro _ y17 ⟨rfl, hw⟩
  have a_k := blk_on hw a_k
  have b_k := blk_on hw b_k
  have c_k := blk_on hw c_k
  have d_k := blk_on hw d_k
  have v_k := blk_on hw v_k
  have u_k := blk_on hw u_k
  have x_k := blk_on hw x_k
  have m_k := blk_on hw m_k
  have y_k := blk_on hw y_k
  have q_k := blk_on hw q_k
  have s_k := blk_on hw s_k
  have t_k := blk_on hw t_k
  have q_D := q_D.keeps hw
  have s_D := s_D.keeps hw
  have t_D := t_D.keeps hw
  have H := H.keeps hw
  have hb := bel_trans hb hw
  have hVS : decide (VS = VS) = true := decide_eq_true rfl
  rw [hVS]
  go_wp2_with fail
  clear F1 F2 F3 G1 G2 DQ S1 S2 CG
  have KK1 : ∀ W, Below y17.heap.size y17 W → W.cell? ⟨y3.heap.size, 0, none⟩ = some (.int .i64 n1) ∧ W.cell? ⟨y3.heap.size, 1, none⟩ = some (.int .i64 t1) ∧ W.cell? ⟨y1.heap.size, 0, none⟩ = some (.int .i64 s1) ∧ W.cell? ⟨y1.heap.size, 1, none⟩ = some (.int .i64 t1) ∧ W.cell? ⟨y5.heap.size, 0, none⟩ = some (.int .i64 0) ∧ W.cell? ⟨y7.heap.size, 0, none⟩ = some (.int .i64 s2) ∧ W.cell? ⟨y7.heap.size, 1, none⟩ = some (.int .i64 t2) ∧ W.cell? ⟨y9.heap.size, 0, none⟩ = some (.int .i64 s2) ∧ W.cell? ⟨y9.heap.size, 1, none⟩ = some (.int .i64 t2) ∧ W.cell? ⟨y11.heap.size, 0, none⟩ = some (.bool q_g) ∧ W.cell? ⟨y11.heap.size, 1, none⟩ = some (.slice q_o q_n q_c) ∧ W.cell? ⟨y11.heap.size, 2, none⟩ = some (.int .i64 q_e) ∧ W.cell? ⟨y13.heap.size, 0, none⟩ = some (.bool false) := fun W hb => ⟨q_cell (blkC u_k 0 rfl) hb, q_cell (blkC u_k 1 rfl) hb, q_cell (blkC v_k 0 rfl) hb, q_cell (blkC v_k 1 rfl) hb, q_cell (blkC x_k 0 rfl) hb, q_cell (blkC m_k 0 rfl) hb, q_cell (blkC m_k 1 rfl) hb, q_cell (blkC y_k 0 rfl) hb, q_cell (blkC y_k 1 rfl) hb, q_cell (blkC q_k 0 rfl) hb, q_cell (blkC q_k 1 rfl) hb, q_cell (blkC q_k 2 rfl) hb, q_cell (blkC s_k 0 rfl) hb⟩
  have hC1_0 := (bel_refl y17).drew
  have hT1_0 : Below w.heap.size w y17.drew := hb.drew
  have CS := osig (q_D.keeps (bel_refl y17).drew)
  rw [hVQ.out] at CS
  have w1 : IntKind.i64.wrap 1 = 1 := by decide
  have w2 : IntKind.i64.wrap (-1) = -1 := by decide
  have w3 : IntKind.i64.wrap 0 = 0 := by decide
  have w4 : IntKind.i64.wrap (- -1) = 1 := by decide
  have w5 : IntKind.i64.wrap (-0) = 0 := by decide
  rcases hsn.out with ⟨rfl, rfl⟩ | ⟨rfl, rfl⟩ | ⟨rfl, rfl⟩
  · go_region_held3 (fun W => W.cell? ⟨y3.heap.size, 0, none⟩ = some (.int .i64 1) ∧ W.cell? ⟨y3.heap.size, 1, none⟩ = some (.int .i64 t1) ∧ W.cell? ⟨y1.heap.size, 0, none⟩ = some (.int .i64 (-1)) ∧ W.cell? ⟨y1.heap.size, 1, none⟩ = some (.int .i64 t1) ∧ W.cell? ⟨y5.heap.size, 0, none⟩ = some (.int .i64 0) ∧ W.cell? ⟨y7.heap.size, 0, none⟩ = some (.int .i64 s2) ∧ W.cell? ⟨y7.heap.size, 1, none⟩ = some (.int .i64 t2) ∧ W.cell? ⟨y9.heap.size, 0, none⟩ = some (.int .i64 s2) ∧ W.cell? ⟨y9.heap.size, 1, none⟩ = some (.int .i64 t2) ∧ W.cell? ⟨y11.heap.size, 0, none⟩ = some (.bool q_g) ∧ W.cell? ⟨y11.heap.size, 1, none⟩ = some (.slice q_o q_n q_c) ∧ W.cell? ⟨y11.heap.size, 2, none⟩ = some (.int .i64 q_e) ∧ W.cell? ⟨y13.heap.size, 0, none⟩ = some (.bool false))
      (with_reducible first | assumption | exact KK1 _ hC1_0 | exact KK1 _ hC1_1 | fail)
      (first | (go_at_call 11; refine CS.mono ?_; rintro _ yS ⟨rfl, hwS⟩; have hC1_1 := bel_trans hC1_0 hwS; have hT1_1 := bel_trans hT1_0 hwS))
    go_wp2
    all_goals go_ret
    all_goals exact ⟨ret_bool (by simp), by first | exact hT1_1 | exact hT1_1.drew⟩
  · go_region_held3 (fun W => W.cell? ⟨y3.heap.size, 0, none⟩ = some (.int .i64 0) ∧ W.cell? ⟨y3.heap.size, 1, none⟩ = some (.int .i64 t1) ∧ W.cell? ⟨y1.heap.size, 0, none⟩ = some (.int .i64 0) ∧ W.cell? ⟨y1.heap.size, 1, none⟩ = some (.int .i64 t1) ∧ W.cell? ⟨y5.heap.size, 0, none⟩ = some (.int .i64 0) ∧ W.cell? ⟨y7.heap.size, 0, none⟩ = some (.int .i64 s2) ∧ W.cell? ⟨y7.heap.size, 1, none⟩ = some (.int .i64 t2) ∧ W.cell? ⟨y9.heap.size, 0, none⟩ = some (.int .i64 s2) ∧ W.cell? ⟨y9.heap.size, 1, none⟩ = some (.int .i64 t2) ∧ W.cell? ⟨y11.heap.size, 0, none⟩ = some (.bool q_g) ∧ W.cell? ⟨y11.heap.size, 1, none⟩ = some (.slice q_o q_n q_c) ∧ W.cell? ⟨y11.heap.size, 2, none⟩ = some (.int .i64 q_e) ∧ W.cell? ⟨y13.heap.size, 0, none⟩ = some (.bool false))
      (with_reducible first | assumption | exact KK1 _ hC1_0 | exact KK1 _ hC1_1 | fail)
      (first | (go_at_call 11; refine CS.mono ?_; rintro _ yS ⟨rfl, hwS⟩; have hC1_1 := bel_trans hC1_0 hwS; have hT1_1 := bel_trans hT1_0 hwS))
    go_wp2
    all_goals go_ret
    all_goals exact ⟨ret_bool (by simp), by first | exact hT1_1 | exact hT1_1.drew⟩
  · go_region_held3 (fun W => W.cell? ⟨y3.heap.size, 0, none⟩ = some (.int .i64 (-1)) ∧ W.cell? ⟨y3.heap.size, 1, none⟩ = some (.int .i64 t1) ∧ W.cell? ⟨y1.heap.size, 0, none⟩ = some (.int .i64 1) ∧ W.cell? ⟨y1.heap.size, 1, none⟩ = some (.int .i64 t1) ∧ W.cell? ⟨y5.heap.size, 0, none⟩ = some (.int .i64 0) ∧ W.cell? ⟨y7.heap.size, 0, none⟩ = some (.int .i64 s2) ∧ W.cell? ⟨y7.heap.size, 1, none⟩ = some (.int .i64 t2) ∧ W.cell? ⟨y9.heap.size, 0, none⟩ = some (.int .i64 s2) ∧ W.cell? ⟨y9.heap.size, 1, none⟩ = some (.int .i64 t2) ∧ W.cell? ⟨y11.heap.size, 0, none⟩ = some (.bool q_g) ∧ W.cell? ⟨y11.heap.size, 1, none⟩ = some (.slice q_o q_n q_c) ∧ W.cell? ⟨y11.heap.size, 2, none⟩ = some (.int .i64 q_e) ∧ W.cell? ⟨y13.heap.size, 0, none⟩ = some (.bool false))
      (with_reducible first | assumption | exact KK1 _ hC1_0 | exact KK1 _ hC1_1 | fail)
      (first | (go_at_call 11; refine CS.mono ?_; rintro _ yS ⟨rfl, hwS⟩; have hC1_1 := bel_trans hC1_0 hwS; have hT1_1 := bel_trans hT1_0 hwS))
    go_wp2
    all_goals go_ret
    all_goals exact ⟨ret_bool (by simp), by first | exact hT1_1 | exact hT1_1.drew⟩
theorem walk (ax ay bx by' cx cy dx dy : Int) (w : World) (rax : rng ax) (ray : rng ay) (rbx : rng bx) (rby : rng by') (rcx : rng cx) (rcy : rng cy) (rdx : rng dx) (rdy : rng dy) (H : Hold4 w) :
    Calls Tryz.prog 3 #[.agg #[.int .i64 ax, .int .i64 ay], .agg #[.int .i64 bx, .int .i64 by'], .agg #[.int .i64 cx, .int .i64 cy], .agg #[.int .i64 dx, .int .i64 dy]] w fun e w' => e = .returned (.bool true) ∧ Below w.heap.size w w' := by
  cases h : (ptok ax ay && ptok bx by' && ptok cx cy && ptok dx dy)
  · exact walk_no ax ay bx by' cx cy dx dy w rax ray rbx rby rcx rcy rdx rdy h H
  · have h' : (((pok ax = true ∧ pok ay = true) ∧ pok bx = true ∧ pok by' = true) ∧ pok cx = true ∧ pok cy = true) ∧ pok dx = true ∧ pok dy = true := by unfold ptok at h; simpa using h
    obtain ⟨⟨⟨⟨h1, h2⟩, h3, h4⟩, h5, h6⟩, h7, h8⟩ := h'
    exact walk_yes ax ay bx by' cx cy dx dy w rax ray rbx rby rcx rcy rdx rdy h1 h2 h3 h4 h5 h6 h7 h8 H
theorem own : ownKnob Tryz.prog.godebug = none := by kernel_rfl
theorem laidOut : laidOutB Tryz.prog = true := by kernel_rfl
theorem door_met (os : Os) (args : Array Value) : laidMetH Tryz.prog Rows.measureTurnsRow.laid ((World.doorLaid Tryz.prog 400 os).forCall (fun _ _ => 0) ⟨#[], args, []⟩).memory :=
  laidMetH_of_parts3 (fuel := 8) (laidMet_of_run' 8 (by kernel_rfl) (by kernel_rfl)) (by kernel_rfl) (by kernel_rfl)
set_option maxRecDepth 100000 in
theorem lifted (os : Os) (started : os.Started) (H : Type) (enc : TypeId × Value → H) :
    ReturnsInHanded {} Tryz.checked os 3 .any (fun w args => (Rows.measureTurnsSpec.pre enc Tryz.prog Tryz.f3 [] false w args ∧ laidMetH Tryz.prog Rows.measureTurnsRow.laid w) ∧ sizedMet enc Tryz.prog Tryz.f3 (OpenSpec.ofChange Rows.measureTurnsSpec) false w args)
      (Rows.measureTurnsSpec.post enc Tryz.prog Tryz.f3 false true false false) := by
  refine returnsInHanded_of_change_and (C := Tryz.checked) (X := fun w _ => laidMetH Tryz.prog Rows.measureTurnsRow.laid w) (fun _ _ _ hh h => h.of_heap hh) own started (by kernel_rfl) Tryz.func3
    (ChangeSpec.witness_shaped (enc := enc) (C := Tryz.checked) (os := os) (X := fun w _ => laidMetH Tryz.prog Rows.measureTurnsRow.laid w) false (World.doorLaid Tryz.prog 400 os) #[.agg #[.int .i64 0, .int .i64 0], .agg #[.int .i64 0, .int .i64 0], .agg #[.int .i64 0, .int .i64 0], .agg #[.int .i64 0, .int .i64 0]] 8 rfl (World.shaped_of_RefB (by kernel_rfl) (by kernel_rfl)) (by kernel_rfl) (by kernel_rfl) (by kernel_rfl) (door_met os _)) ?_
  intro W base args ds gs before hval0 hW _ _ hL _
  have hval : ∀ (j : Nat) t v, Tryz.f3.params[j]? = some t → args[j]? = some v → Value.okWide Tryz.prog W .any base t v := hval0
  have hW' := hW
  obtain ⟨p, q, hA0, hV, rfl, hfz, hnd⟩ := hW
  have hA : DataW.TrodAll enc Tryz.prog W 0 (fun _ => true) true Tryz.f3.params.toList args.toList ds p := hA0
  rw [Tryz.params3] at hA hval
  obtain ⟨v0, vs0, d0, ds0, p0, q0, hargs, rfl, rfl, h0, r0⟩ := trodAll_cons hA
  obtain ⟨v1, vs1, d1, ds1, p1, q1, rfl, rfl, rfl, h1, r1⟩ := trodAll_cons r0
  obtain ⟨v2, vs2, d2, ds2, p2, q2, rfl, rfl, rfl, h2, r2⟩ := trodAll_cons r1
  obtain ⟨v3, vs3, d3, ds3, p3, q3, rfl, rfl, rfl, h3, r3⟩ := trodAll_cons r2
  obtain ⟨rfl, rfl, rfl⟩ := trodAll_nil r3
  obtain rfl : args = #[v0, v1, v2, v3] := by cases args; simp_all
  obtain ⟨rfl, rfl⟩ := trodVars_none hV
  have k0 := h0
  have lt0 : ∀ x ∈ p0, x.block < W.heap.size := by obtain ⟨m, hm⟩ := k0; exact DataW.trod_lt m _ _ _ hm
  obtain ⟨x0, y0, rfl, w0, g0⟩ := point_of (hval 0 23 v0 rfl rfl) h0
  have k1 := h1
  have lt1 : ∀ x ∈ p1, x.block < W.heap.size := by obtain ⟨m, hm⟩ := k1; exact DataW.trod_lt m _ _ _ hm
  obtain ⟨x1, y1, rfl, w1, g1⟩ := point_of (hval 1 23 v1 rfl rfl) h1
  have k2 := h2
  have lt2 : ∀ x ∈ p2, x.block < W.heap.size := by obtain ⟨m, hm⟩ := k2; exact DataW.trod_lt m _ _ _ hm
  obtain ⟨x2, y2, rfl, w2, g2⟩ := point_of (hval 2 23 v2 rfl rfl) h2
  have k3 := h3
  have lt3 : ∀ x ∈ p3, x.block < W.heap.size := by obtain ⟨m, hm⟩ := k3; exact DataW.trod_lt m _ _ _ hm
  obtain ⟨x3, y3, rfl, w3, g3⟩ := point_of (hval 3 23 v3 rfl rfl) h3
  clear hA0 hval0
  refine (walk x0 y0 x1 y1 x2 y2 x3 y3 W w0 g0 w1 g1 w2 g2 w3 g3 (hold6_of hL)).mono fun e W' ⟨he, bel⟩ => ?_
  subst he
  exact ⟨_, rfl, _, _, _, [], _, [], hW', trodAll_mk1 (shut_bool Tryz.underlying4 _), (trodAll_cons_mk (Below.trod laidOut (by kernel_rfl) (of_decide_eq_true (by kernel_rfl)) k0 bel lt0) (trodAll_cons_mk (Below.trod laidOut (by kernel_rfl) (of_decide_eq_true (by kernel_rfl)) k1 bel lt1) (trodAll_cons_mk (Below.trod laidOut (by kernel_rfl) (of_decide_eq_true (by kernel_rfl)) k2 bel lt2) (trodAll_cons_mk (Below.trod laidOut (by kernel_rfl) (of_decide_eq_true (by kernel_rfl)) k3 bel lt3) trodAll_mk0)))), rfl, bel.frame _, fun h => by cases h⟩
theorem said : Rows.MeasureTurnsSaid :=
  OpenClaim.holds_of_wide 3 Tryz.f3 rfl rfl rfl rfl rfl rfl rfl ⟨rfl, rfl, rfl, rfl, rfl⟩ rfl rfl rfl rfl rfl (by kernel_rfl) Tryz.func3 (by kernel_rfl)
    (of_decide_eq_true (by kernel_rfl)) (by unfold Func.isWrapper; first | (rw [if_pos (by decide +kernel)]; kernel_rfl) | (rw [if_neg (by decide +kernel)]; exact ⟨rfl, rfl⟩))
    (fun os started H enc _ => lifted os started H enc)
theorem plain (f : FuncId) (fn : Func) (hf : Tryz.pinned.checked.prog.funcNamed Tryz.f3.name = some f) (hfn : Tryz.pinned.checked.prog.funcs[f]? = some fn) :
    true = Tryz.pinned.checked.prog.looks [] ∧ ∀ (j : Nat) t, fn.params[j]? = some t → Tryz.pinned.checked.prog.wantsStandIn t = false := by
  obtain rfl : f = 3 := Option.some.inj ((show Tryz.prog.funcNamed Tryz.f3.name = some 3 by kernel_rfl).symm.trans hf) |>.symm
  obtain rfl : fn = Tryz.f3 := (Option.some.inj (Tryz.func3.symm.trans hfn)).symm
  refine ⟨by kernel_rfl, fun j t ht => ?_⟩
  rw [Tryz.params3] at ht
  obtain rfl : t = 23 := by simpa using Array.mem_of_getElem? ht
  exact (show Tryz.prog.wantsStandIn 23 = false by kernel_rfl)
/-- THE CARD. -/
theorem card : Rows.MeasureTurnsCardSaid :=
  Claim7.holds_tied_plain_at .later [] _ _ _ _ said (fun _ h => by cases h) (by kernel_rfl) (fun _ h => by cases h) measureTurns_row_tie rfl ⟨rfl, rfl⟩ (by kernel_rfl) rfl plain (by kernel_rfl)
end Go.Proofs.YthpachmmjjlomaaGreatDoor.measureTurns
namespace Go.Proofs.YthpachmmjjlomaaGreatDoor
/-- MeasureTurns: the statement as it is given. -/
theorem measureTurns_holds : Rows.MeasureTurnsCardSaid := measureTurns.card
end Go.Proofs.YthpachmmjjlomaaGreatDoor
