/-
  Package orient: wildVerdict, by its contract: intervals, then exact numbers.
-/
import Derived.Test.YtafnigjehkpggaaGreatDoorPart25
import Derived.Test.YtafnigjehkpggaaGreatDoorPart29
import Derived.Test.YtafnigjehkpggaaGreatDoorPart24
import Derived.Test.YtafnigjehkpggaaGreatDoorPart21
namespace Go.Proofs.YtafnigjehkpggaaGreatDoor
open Go Go.RowKit Go.Proofs.YtafnigjehkpggaaGreatDoor.M
set_option linter.unusedSimpArgs false
set_option linter.unusedVariables false

/-- The intervals of the two products, and of their difference. -/
def oqLo (a b c d : Int) : Int := tLo (gLo a b) (gHi a b) (gLo c d) (gHi c d)
def oqHi (a b c d : Int) : Int := tHi (gLo a b) (gHi a b) (gLo c d) (gHi c d)
def owLo (ax ay bx by' cx cy : Int) : Int := eLo (ePlus (eOf (oqLo ax cx by' cy)) (eNeg (eOf (oqHi ay cy bx cx))))
def owHi (ax ay bx by' cx cy : Int) : Int := eHi (ePlus (eOf (oqHi ax cx by' cy)) (eNeg (eOf (oqLo ay cy bx cx))))
theorem oq_okk {a b c d : Int} (ra : rng a) (rb : rng b) (rc : rng c) (rd : rng d) (pa : pok a = true) (pb : pok b = true) (pc : pok c = true) (pd : pok d = true) : Okk (oqLo a b c d) (oqHi a b c d) (mulS (patV a - patV b) (patV c - patV d)) :=
  (mulX (okk_pin (gap_okk ra rb pa pb)) (okk_pin (gap_okk rc rd pc pd))).2
theorem ow_okk {ax ay bx by' cx cy : Int} (rax : rng ax) (ray : rng ay) (rbx : rng bx) (rby : rng by') (rcx : rng cx) (rcy : rng cy) (pax : pok ax = true) (pay : pok ay = true) (pbx : pok bx = true) (pby : pok by' = true) (pcx : pok cx = true) (pcy : pok cy = true) : Okk (owLo ax ay bx by' cx cy) (owHi ax ay bx by' cx cy) (mulS (patV ax - patV cx) (patV by' - patV cy) - mulS (patV ay - patV cy) (patV bx - patV cx)) :=
  (subX (okk_pin (oq_okk rax rcx rby rcy pax pcx pby pcy)) (okk_pin (oq_okk ray rcy rbx rcx pay pcy pbx pcx))).2
theorem det_X {ax ay bx by' cx cy : Int} (rax : rng ax) (ray : rng ay) (rbx : rng bx) (rby : rng by') (rcx : rng cx) (rcy : rng cy) (pax : pok ax = true) (pay : pok ay = true) (pbx : pok bx = true) (pby : pok by' = true) (pcx : pok cx = true) (pcy : pok cy = true) :
    Det (patV ax - patV cx) (patV ay - patV cy) (patV bx - patV cx) (patV by' - patV cy) (oDet ax ay bx by' cx cy * pw (-2148)) := by
  rw [pat_dif rax rcx pax pcx, pat_dif ray rcy pay pcy, pat_dif rbx rcx pbx pcx, pat_dif rby rcy pby pcy]
  exact ⟨_, _, prod_scale _ _, prod_scale _ _, by unfold oDet; rw [Int.sub_mul]⟩
set_option maxRecDepth 100000 in
set_option maxHeartbeats 8000000 in
theorem oWild_yes {ax ay bx by' cx cy : Int} (rax : rng ax) (ray : rng ay) (rbx : rng bx) (rby : rng by') (rcx : rng cx) (rcy : rng cy) (pax : pok ax = true) (pay : pok ay = true) (pbx : pok bx = true) (pby : pok by' = true) (pcx : pok cx = true) (pcy : pok cy = true) (hk : sgK (owLo ax ay bx by' cx cy) (owHi ax ay bx by' cx cy) = true) (w : World) (H : Hold4 w) :
    Calls Tryz.prog 20 #[.agg #[.int .i64 ax, .int .i64 ay], .agg #[.int .i64 bx, .int .i64 by'], .agg #[.int .i64 cx, .int .i64 cy]] w fun r w' => r = .returned (.agg #[.int .i64 (ord (oDet ax ay bx by' cx cy) 0), .int .i64 5]) ∧ Below w.heap.size w w' := by
  have A1 : Hid (∀ W, Hold4 W → Calls Tryz.prog 36 #[.int .i64 ax, .int .i64 cx] W fun r w' => r = .returned (.agg #[.int .i64 (gLo ax cx), .int .i64 (gHi ax cx)]) ∧ Below W.heap.size W w') := fun W h => apartSpan rax rcx pax pcx W h
  have A2 : Hid (∀ W, Hold4 W → Calls Tryz.prog 36 #[.int .i64 by', .int .i64 cy] W fun r w' => r = .returned (.agg #[.int .i64 (gLo by' cy), .int .i64 (gHi by' cy)]) ∧ Below W.heap.size W w') := fun W h => apartSpan rby rcy pby pcy W h
  have A3 : Hid (∀ W, Hold4 W → Calls Tryz.prog 36 #[.int .i64 ay, .int .i64 cy] W fun r w' => r = .returned (.agg #[.int .i64 (gLo ay cy), .int .i64 (gHi ay cy)]) ∧ Below W.heap.size W w') := fun W h => apartSpan ray rcy pay pcy W h
  have A4 : Hid (∀ W, Hold4 W → Calls Tryz.prog 36 #[.int .i64 bx, .int .i64 cx] W fun r w' => r = .returned (.agg #[.int .i64 (gLo bx cx), .int .i64 (gHi bx cx)]) ∧ Below W.heap.size W w') := fun W h => apartSpan rbx rcx pbx pcx W h
  have M1 := (mulX (okk_pin (gap_okk rax rcx pax pcx)) (okk_pin (gap_okk rby rcy pby pcy))).1
  have M2 := (mulX (okk_pin (gap_okk ray rcy pay pcy)) (okk_pin (gap_okk rbx rcx pbx pcx))).1
  have S1 := (subX (okk_pin (oq_okk rax rcx rby rcy pax pcx pby pcy)) (okk_pin (oq_okk ray rcy rbx rcx pay pcy pbx pcx))).1
  have ok := ow_okk rax ray rbx rby rcx rcy pax pay pbx pby pcx pcy
  have hD := det_X rax ray rbx rby rcx rcy pax pay pbx pby pcx pcy
  have eV : mulS (patV ax - patV cx) (patV by' - patV cy) - mulS (patV ay - patV cy) (patV bx - patV cx) = oDet ax ay bx by' cx cy * pw (-2148) := by
    obtain ⟨C, D, h1, h2, h3⟩ := hD
    rw [h3, mulS_of h1, mulS_of h2]
  rw [eV] at ok
  have hso := sgn_has ok
  rw [ord_mulP (pw_pos _)] at hso
  have CS : Hid (∀ W, Calls Tryz.prog 38 #[.agg #[.int .i64 (owLo ax ay bx by' cx cy), .int .i64 (owHi ax ay bx by' cx cy)]] W fun e w' => e = .returned (.tuple #[.int .i64 (ord (oDet ax ay bx by' cx cy) 0), .bool true, .int .i64 (errA (vld (owLo ax ay bx by' cx cy) (owHi ax ay bx by' cx cy)))]) ∧ Below W.heap.size W w') := fun W => by
    have := spanSignE ok.lo.1 ok.hi.1 W
    rw [hk, hso hk] at this
    exact this
  clear eV hso ok hD hk
  clear rax ray rbx rby rcx rcy pax pay pbx pby pcx pcy
  unfold owLo owHi at CS
  unfold oqLo oqHi at *
  generalize ord (oDet ax ay bx by' cx cy) 0 = sgn at *
  generalize errA (vld (eLo (ePlus (eOf (tLo (gLo ax cx) (gHi ax cx) (gLo by' cy) (gHi by' cy))) (eNeg (eOf (tHi (gLo ay cy) (gHi ay cy) (gLo bx cx) (gHi bx cx)))))) (eHi (ePlus (eOf (tHi (gLo ax cx) (gHi ax cx) (gLo by' cy) (gHi by' cy))) (eNeg (eOf (tLo (gLo ay cy) (gHi ay cy) (gLo bx cx) (gHi bx cx))))))) = er0 at *
  generalize eLo (ePlus (eOf (tLo (gLo ax cx) (gHi ax cx) (gLo by' cy) (gHi by' cy))) (eNeg (eOf (tHi (gLo ay cy) (gHi ay cy) (gLo bx cx) (gHi bx cx))))) = lo at *
  generalize eHi (ePlus (eOf (tHi (gLo ax cx) (gHi ax cx) (gLo by' cy) (gHi by' cy))) (eNeg (eOf (tLo (gLo ay cy) (gHi ay cy) (gLo bx cx) (gHi bx cx))))) = hi at *
  generalize tLo (gLo ax cx) (gHi ax cx) (gLo by' cy) (gHi by' cy) = l0 at *
  generalize tHi (gLo ax cx) (gHi ax cx) (gLo by' cy) (gHi by' cy) = l1 at *
  generalize tLo (gLo ay cy) (gHi ay cy) (gLo bx cx) (gHi bx cx) = s0 at *
  generalize tHi (gLo ay cy) (gHi ay cy) (gLo bx cx) (gHi bx cx) = s1 at *
  generalize gLo ax cx = a1 at *
  generalize gHi ax cx = b1 at *
  generalize gLo by' cy = a2 at *
  generalize gHi by' cy = b2 at *
  generalize gLo ay cy = a3 at *
  generalize gHi ay cy = b3 at *
  generalize gLo bx cx = a4 at *
  generalize gHi bx cx = b4 at *
  have a_k : (w.alloc (.cells #[.int .i64 ax, .int .i64 ay] 23)).heap[w.heap.size]? = some (.cells #[.int .i64 ax, .int .i64 ay] 23) := heap_new (.cells #[.int .i64 ax, .int .i64 ay] 23) (by rfl)
  have hb0 := bel_alloc w (.cells #[.int .i64 ax, .int .i64 ay] 23)
  replace a_k := heap_past (.cells #[.int .i64 bx, .int .i64 by'] 23) a_k
  have b_k : ((w.alloc (.cells #[.int .i64 ax, .int .i64 ay] 23)).alloc (.cells #[.int .i64 bx, .int .i64 by'] 23)).heap[w.heap.size + 1]? = some (.cells #[.int .i64 bx, .int .i64 by'] 23) := heap_new (.cells #[.int .i64 bx, .int .i64 by'] 23) (by simp only [size_alloc])
  replace hb0 := bel_trans hb0 (bel_alloc (w.alloc (.cells #[.int .i64 ax, .int .i64 ay] 23)) (.cells #[.int .i64 bx, .int .i64 by'] 23))
  replace a_k := heap_past (.cells #[.int .i64 cx, .int .i64 cy] 23) a_k
  replace b_k := heap_past (.cells #[.int .i64 cx, .int .i64 cy] 23) b_k
  have c_k : (((w.alloc (.cells #[.int .i64 ax, .int .i64 ay] 23)).alloc (.cells #[.int .i64 bx, .int .i64 by'] 23)).alloc (.cells #[.int .i64 cx, .int .i64 cy] 23)).heap[w.heap.size + 1 + 1]? = some (.cells #[.int .i64 cx, .int .i64 cy] 23) := heap_new (.cells #[.int .i64 cx, .int .i64 cy] 23) (by simp only [size_alloc])
  replace hb0 := bel_trans hb0 (bel_alloc ((w.alloc (.cells #[.int .i64 ax, .int .i64 ay] 23)).alloc (.cells #[.int .i64 bx, .int .i64 by'] 23)) (.cells #[.int .i64 cx, .int .i64 cy] 23))
  replace a_k := heap_past (.cells #[.int .i64 0, .int .i64 0] 26) a_k
  replace b_k := heap_past (.cells #[.int .i64 0, .int .i64 0] 26) b_k
  replace c_k := heap_past (.cells #[.int .i64 0, .int .i64 0] 26) c_k
  have r_k : ((((w.alloc (.cells #[.int .i64 ax, .int .i64 ay] 23)).alloc (.cells #[.int .i64 bx, .int .i64 by'] 23)).alloc (.cells #[.int .i64 cx, .int .i64 cy] 23)).alloc (.cells #[.int .i64 0, .int .i64 0] 26)).heap[w.heap.size + 1 + 1 + 1]? = some (.cells #[.int .i64 0, .int .i64 0] 26) := heap_new (.cells #[.int .i64 0, .int .i64 0] 26) (by simp only [size_alloc])
  replace hb0 := bel_trans hb0 (bel_alloc (((w.alloc (.cells #[.int .i64 ax, .int .i64 ay] 23)).alloc (.cells #[.int .i64 bx, .int .i64 by'] 23)).alloc (.cells #[.int .i64 cx, .int .i64 cy] 23)) (.cells #[.int .i64 0, .int .i64 0] 26))
  go_enter Tryz.func20, Tryz.ntmps20
  go_wp2_with fail
  rename_i Q0 K00 hK00
  generalize ((((w.alloc (.cells #[.int .i64 ax, .int .i64 ay] 23)).alloc (.cells #[.int .i64 bx, .int .i64 by'] 23)).alloc (.cells #[.int .i64 cx, .int .i64 cy] 23)).alloc (.cells #[.int .i64 0, .int .i64 0] 26)) = x0 at hb0 a_k b_k c_k r_k ⊢
  have H := H.keeps hb0
  have hK1 := hK00
  have HN1 : ∀ (g : Nat) (x1 : World) (t : Array Value), #[t.getD 0 undef, t.getD 1 undef, t.getD 2 undef, .pointer (some ⟨w.heap.size, 0, none⟩), .pointer (some ⟨w.heap.size + 1, 0, none⟩), .pointer (some ⟨w.heap.size + 1 + 1, 0, none⟩), .pointer (some ⟨w.heap.size + 1 + 1 + 1, 0, none⟩), .pointer (some ⟨g, 0, none⟩), t.getD 8 undef, t.getD 9 undef, t.getD 10 undef, t.getD 11 undef, t.getD 12 undef, t.getD 13 undef, t.getD 14 undef, t.getD 15 undef, t.getD 16 undef, t.getD 17 undef, t.getD 18 undef, t.getD 19 undef, t.getD 20 undef, t.getD 21 undef, t.getD 22 undef, t.getD 23 undef, t.getD 24 undef, t.getD 25 undef, t.getD 26 undef, t.getD 27 undef, t.getD 28 undef, t.getD 29 undef, t.getD 30 undef, t.getD 31 undef, t.getD 32 undef, t.getD 33 undef, t.getD 34 undef, t.getD 35 undef, t.getD 36 undef, t.getD 37 undef, t.getD 38 undef, t.getD 39 undef, t.getD 40 undef, t.getD 41 undef, t.getD 42 undef, t.getD 43 undef, t.getD 44 undef, t.getD 45 undef, t.getD 46 undef, t.getD 47 undef, t.getD 48 undef, t.getD 49 undef, t.getD 50 undef, t.getD 51 undef, t.getD 52 undef, t.getD 53 undef, t.getD 54 undef, t.getD 55 undef, t.getD 56 undef, t.getD 57 undef, t.getD 58 undef, t.getD 59 undef, t.getD 60 undef, t.getD 61 undef, t.getD 62 undef, t.getD 63 undef, t.getD 64 undef, t.getD 65 undef, t.getD 66 undef, t.getD 67 undef, t.getD 68 undef, t.getD 69 undef, t.getD 70 undef] = t → x0.heap.size ≤ g → x1.heap[g]? = some (.cells #[.int .i64 l0, .int .i64 l1] 73 (0, 0)) → Below x0.heap.size x0 x1 → Exit.then K00 Q0 Exit.normal { tmps := t, defers := [] } x1 := by
    intro g_l x1 t ht l_ge l_k hw1
    obtain ⟨u1, hu⟩ : ∃ u : Nat → Value, t = #[u 0, u 1, u 2, .pointer (some ⟨w.heap.size, 0, none⟩), .pointer (some ⟨w.heap.size + 1, 0, none⟩), .pointer (some ⟨w.heap.size + 1 + 1, 0, none⟩), .pointer (some ⟨w.heap.size + 1 + 1 + 1, 0, none⟩), .pointer (some ⟨g_l, 0, none⟩), u 8, u 9, u 10, u 11, u 12, u 13, u 14, u 15, u 16, u 17, u 18, u 19, u 20, u 21, u 22, u 23, u 24, u 25, u 26, u 27, u 28, u 29, u 30, u 31, u 32, u 33, u 34, u 35, u 36, u 37, u 38, u 39, u 40, u 41, u 42, u 43, u 44, u 45, u 46, u 47, u 48, u 49, u 50, u 51, u 52, u 53, u 54, u 55, u 56, u 57, u 58, u 59, u 60, u 61, u 62, u 63, u 64, u 65, u 66, u 67, u 68, u 69, u 70] := ⟨fun k => t.getD k undef, ht.symm⟩
    clear ht
    subst hu
    have H := H.keeps hw1
    have a_k := (hw1.block _ (Array.getElem?_eq_some_iff.1 a_k).1).trans a_k
    have b_k := (hw1.block _ (Array.getElem?_eq_some_iff.1 b_k).1).trans b_k
    have c_k := (hw1.block _ (Array.getElem?_eq_some_iff.1 c_k).1).trans c_k
    have r_k := (hw1.block _ (Array.getElem?_eq_some_iff.1 r_k).1).trans r_k
    have hb1 := bel_trans hb0 hw1
    go_wp2_with fail
    rename_i K2 hK2
    have HN2 : ∀ (g : Nat) (x2 : World) (t : Array Value), #[t.getD 0 undef, t.getD 1 undef, t.getD 2 undef, .pointer (some ⟨w.heap.size, 0, none⟩), .pointer (some ⟨w.heap.size + 1, 0, none⟩), .pointer (some ⟨w.heap.size + 1 + 1, 0, none⟩), .pointer (some ⟨w.heap.size + 1 + 1 + 1, 0, none⟩), .pointer (some ⟨g_l, 0, none⟩), t.getD 8 undef, .pointer (some ⟨g, 0, none⟩), t.getD 10 undef, t.getD 11 undef, t.getD 12 undef, t.getD 13 undef, t.getD 14 undef, t.getD 15 undef, t.getD 16 undef, t.getD 17 undef, t.getD 18 undef, t.getD 19 undef, t.getD 20 undef, t.getD 21 undef, t.getD 22 undef, t.getD 23 undef, t.getD 24 undef, t.getD 25 undef, t.getD 26 undef, t.getD 27 undef, t.getD 28 undef, t.getD 29 undef, t.getD 30 undef, t.getD 31 undef, t.getD 32 undef, t.getD 33 undef, t.getD 34 undef, t.getD 35 undef, t.getD 36 undef, t.getD 37 undef, t.getD 38 undef, t.getD 39 undef, t.getD 40 undef, t.getD 41 undef, t.getD 42 undef, t.getD 43 undef, t.getD 44 undef, t.getD 45 undef, t.getD 46 undef, t.getD 47 undef, t.getD 48 undef, t.getD 49 undef, t.getD 50 undef, t.getD 51 undef, t.getD 52 undef, t.getD 53 undef, t.getD 54 undef, t.getD 55 undef, t.getD 56 undef, t.getD 57 undef, t.getD 58 undef, t.getD 59 undef, t.getD 60 undef, t.getD 61 undef, t.getD 62 undef, t.getD 63 undef, t.getD 64 undef, t.getD 65 undef, t.getD 66 undef, t.getD 67 undef, t.getD 68 undef, t.getD 69 undef, t.getD 70 undef] = t → x1.heap.size ≤ g → x2.heap[g]? = some (.cells #[.int .i64 s0, .int .i64 s1] 73 (0, 0)) → Below x1.heap.size x1 x2 → Exit.then K2 Q0 Exit.normal { tmps := t, defers := [] } x2 := by
      intro g_s x2 t ht s_ge s_k hw2
      obtain ⟨u2, hu⟩ : ∃ u : Nat → Value, t = #[u 0, u 1, u 2, .pointer (some ⟨w.heap.size, 0, none⟩), .pointer (some ⟨w.heap.size + 1, 0, none⟩), .pointer (some ⟨w.heap.size + 1 + 1, 0, none⟩), .pointer (some ⟨w.heap.size + 1 + 1 + 1, 0, none⟩), .pointer (some ⟨g_l, 0, none⟩), u 8, .pointer (some ⟨g_s, 0, none⟩), u 10, u 11, u 12, u 13, u 14, u 15, u 16, u 17, u 18, u 19, u 20, u 21, u 22, u 23, u 24, u 25, u 26, u 27, u 28, u 29, u 30, u 31, u 32, u 33, u 34, u 35, u 36, u 37, u 38, u 39, u 40, u 41, u 42, u 43, u 44, u 45, u 46, u 47, u 48, u 49, u 50, u 51, u 52, u 53, u 54, u 55, u 56, u 57, u 58, u 59, u 60, u 61, u 62, u 63, u 64, u 65, u 66, u 67, u 68, u 69, u 70] := ⟨fun k => t.getD k undef, ht.symm⟩
      clear ht
      subst hu
      have H := H.keeps hw2
      have a_k := (hw2.block _ (Array.getElem?_eq_some_iff.1 a_k).1).trans a_k
      have b_k := (hw2.block _ (Array.getElem?_eq_some_iff.1 b_k).1).trans b_k
      have c_k := (hw2.block _ (Array.getElem?_eq_some_iff.1 c_k).1).trans c_k
      have r_k := (hw2.block _ (Array.getElem?_eq_some_iff.1 r_k).1).trans r_k
      have l_k := (hw2.block _ (Array.getElem?_eq_some_iff.1 l_k).1).trans l_k
      have hb2 := bel_trans hb1 hw2
      have f_l0 := blkC l_k 0 rfl
      have f_l1 := blkC l_k 1 rfl
      have f_s0 := blkC s_k 0 rfl
      have f_s1 := blkC s_k 1 rfl
      go_wp2_with fail
      clear f_l0 f_l1 f_s0 f_s1
      refine (S1.out _ H).mono ?_
      rintro _ ye ⟨rfl, hwe⟩
      replace a_k := heap_past (.cells #[.int .i64 lo, .int .i64 hi] 73) (blk_on hwe a_k)
      replace b_k := heap_past (.cells #[.int .i64 lo, .int .i64 hi] 73) (blk_on hwe b_k)
      replace c_k := heap_past (.cells #[.int .i64 lo, .int .i64 hi] 73) (blk_on hwe c_k)
      replace r_k := heap_past (.cells #[.int .i64 lo, .int .i64 hi] 73) (blk_on hwe r_k)
      replace H := (H.keeps hwe).keeps (bel_alloc ye (.cells #[.int .i64 lo, .int .i64 hi] 73))
      have hbe := bel_trans (bel_trans hb2 hwe) (bel_alloc ye (.cells #[.int .i64 lo, .int .i64 hi] 73))
      go_wp2_with fail
      generalize ye.alloc (.cells #[.int .i64 lo, .int .i64 hi] 73) = xe at a_k b_k c_k r_k H hbe ⊢
      refine (CS.out _).mono ?_
      rintro _ yf ⟨rfl, hwf⟩
      replace a_k := blk_on hwf a_k
      replace b_k := blk_on hwf b_k
      replace c_k := blk_on hwf c_k
      replace r_k := blk_on hwf r_k
      replace hbe := bel_trans hbe hwf
      replace H := H.keeps hwf
      have k0 := blkC r_k 0 rfl
      have k1 := blkC r_k 1 rfl
      have z0 := blkF r_k 0
      have z1 := blkF r_k 1
      go_wp2
      exact bodyPost_ret (v := .agg #[.int .i64 sgn, .int .i64 5]) (by simp [results, Tryz.results20, go_sem, k0, k1]) rfl ⟨rfl, ((hbe.setCell (p := ⟨w.heap.size + 3, 0, none⟩) (show w.heap.size ≤ w.heap.size + 3 by omega) _).setCell (p := ⟨w.heap.size + 3, 1, none⟩) (show w.heap.size ≤ w.heap.size + 3 by omega) _)⟩
    have KK2 : ∀ W, Below x1.heap.size x1 W → W.cell? ⟨w.heap.size, 1, none⟩ = some (.int .i64 ay) ∧ W.cell? ⟨w.heap.size + 2, 1, none⟩ = some (.int .i64 cy) ∧ W.cell? ⟨w.heap.size + 1, 0, none⟩ = some (.int .i64 bx) ∧ W.cell? ⟨w.heap.size + 2, 0, none⟩ = some (.int .i64 cx) := fun W hb => ⟨q_cell (blkC a_k 1 rfl) hb, q_cell (blkC c_k 1 rfl) hb, q_cell (blkC b_k 0 rfl) hb, q_cell (blkC c_k 0 rfl) hb⟩
    have hC2_0 := (bel_refl x1).drew
    have hT2_0 : Below w.heap.size w x1.drew := hb1.drew
    have H_2_0 := H.keeps (bel_refl x1).drew
    have hs2_0 := (bel_refl x1).drew
    go_region_held3 (fun W => W.cell? ⟨w.heap.size, 1, none⟩ = some (.int .i64 ay) ∧ W.cell? ⟨w.heap.size + 2, 1, none⟩ = some (.int .i64 cy) ∧ W.cell? ⟨w.heap.size + 1, 0, none⟩ = some (.int .i64 bx) ∧ W.cell? ⟨w.heap.size + 2, 0, none⟩ = some (.int .i64 cx))
      (with_reducible first | assumption | exact KK2 _ (bel_alloc _ _).drew | exact KK2 _ hC2_0 | exact KK2 _ hC2_1 | exact KK2 _ hC2_2 | exact KK2 _ hC2_3 | exact KK2 _ (bel_trans hC2_0 (bel_alloc _ _)) | exact KK2 _ (bel_trans hC2_1 (bel_alloc _ _)) | exact KK2 _ (bel_trans hC2_2 (bel_alloc _ _)) | exact KK2 _ (bel_trans hC2_3 (bel_alloc _ _)) | exact KK2 _ (bel_set2q (hC2_3) (Nat.le_refl _) _ _) | exact KK2 _ (bel_set2q (hC2_3) (hC2_1.size) _ _) | exact KK2 _ (bel_set2q (hC2_3) (hC2_2.size) _ _) | fail)
      (first
        | (go_at_call 35; have _t := hs2_2; refine (M2.out _ (H_2_2.keeps (by with_reducible first | exact bel_refl _ | exact bel_alloc _ _ | exact bel_dr _ _))).mono ?_; rintro _ y2_3 ⟨rfl, hq2_3⟩; have hs2_3 : Below y2_2.heap.size y2_2 y2_3 := (by with_reducible first | exact hq2_3 | exact bel_trans (bel_alloc _ _) hq2_3 | exact bel_trans (bel_dr _ _) hq2_3); have hT2_3 := bel_trans hT2_2 hs2_3; have hC2_3 := bel_trans hC2_2 hs2_3; have H_2_3 := H_2_2.keeps hs2_3; with_reducible first | (have qz2 : y2_3.heap[x1.heap.size]? = some (.cells #[.int .i64 0, .int .i64 0] 73 (0, 0)) := blk_on hq2_3 (blk_on hq2_2 (blk_on hq2_1 (heap_a1d x1 (.cells #[.int .i64 0, .int .i64 0] 73)))); have cz2_0 := blkC qz2 0 rfl; have zz2_0 := blkF qz2 0; have cz2_1 := blkC qz2 1 rfl; have zz2_1 := blkF qz2 1) | (have qz2 : y2_3.heap[y2_1.heap.size]? = some (.cells #[.int .i64 0, .int .i64 0] 73 (0, 0)) := blk_on hq2_3 (blk_on hq2_2 (heap_a1 _ _)); have cz2_0 := blkC qz2 0 rfl; have zz2_0 := blkF qz2 0; have cz2_1 := blkC qz2 1 rfl; have zz2_1 := blkF qz2 1) | (have qz2 : y2_3.heap[y2_2.heap.size]? = some (.cells #[.int .i64 0, .int .i64 0] 73 (0, 0)) := blk_on hq2_3 (heap_a1 _ _); have cz2_0 := blkC qz2 0 rfl; have zz2_0 := blkF qz2 0; have cz2_1 := blkC qz2 1 rfl; have zz2_1 := blkF qz2 1) | skip)
        | (go_at_call 36; have _t := hs2_1; refine (A4.out _ (H_2_1.keeps (by with_reducible first | exact bel_refl _ | exact bel_alloc _ _ | exact bel_dr _ _))).mono ?_; rintro _ y2_2 ⟨rfl, hq2_2⟩; have hs2_2 : Below y2_1.heap.size y2_1 y2_2 := (by with_reducible first | exact hq2_2 | exact bel_trans (bel_alloc _ _) hq2_2 | exact bel_trans (bel_dr _ _) hq2_2); have hT2_2 := bel_trans hT2_1 hs2_2; have hC2_2 := bel_trans hC2_1 hs2_2; have H_2_2 := H_2_1.keeps hs2_2)
        | (go_at_call 36; refine (A3.out _ (H_2_0.keeps (by with_reducible first | exact bel_refl _ | exact bel_alloc _ _ | exact bel_dr _ _))).mono ?_; rintro _ y2_1 ⟨rfl, hq2_1⟩; have hs2_1 : Below x1.drew.heap.size x1.drew y2_1 := (by with_reducible first | exact hq2_1 | exact bel_trans (bel_alloc _ _) hq2_1 | exact bel_trans (bel_dr _ _) hq2_1); have hT2_1 := bel_trans hT2_0 hs2_1; have hC2_1 := bel_trans hC2_0 hs2_1; have H_2_1 := H_2_0.keeps hs2_1))
    · exact HN2 y2_3.heap.size _ _ (by kernel_rfl) ((bel_trans (bel_trans (bel_trans (hs2_0) hs2_1) hs2_2) hs2_3).size) (heap_a1 _ _) (bel_trans (bel_trans (bel_trans (bel_trans (hs2_0) hs2_1) hs2_2) hs2_3) (bel_alloc _ _))
    · exact HN2 y2_2.heap.size _ _ (by kernel_rfl) ((bel_trans (bel_trans (hs2_0) hs2_1) hs2_2).size) (heap_set (heap_set (blk_on hq2_3 (heap_a1 _ _)) 0 _) 1 _) (bel_set2q (bel_trans (bel_trans (bel_trans (hs2_0) hs2_1) hs2_2) hs2_3) ((bel_trans (bel_trans (hs2_0) hs2_1) hs2_2).size) _ _)
    · exact HN2 y2_1.heap.size _ _ (by kernel_rfl) ((bel_trans (hs2_0) hs2_1).size) (heap_set (heap_set (blk_on hq2_3 (blk_on hq2_2 (heap_a1 _ _))) 0 _) 1 _) (bel_set2q (bel_trans (bel_trans (bel_trans (hs2_0) hs2_1) hs2_2) hs2_3) ((bel_trans (hs2_0) hs2_1).size) _ _)
    · exact HN2 x1.heap.size _ _ (by kernel_rfl) (Nat.le_refl _) (heap_set (heap_set (blk_on hq2_3 (blk_on hq2_2 (blk_on hq2_1 (heap_a1d x1 (.cells #[.int .i64 0, .int .i64 0] 73))))) 0 _) 1 _) (bel_set2q (bel_trans (bel_trans (bel_trans (hs2_0) hs2_1) hs2_2) hs2_3) (Nat.le_refl _) _ _)
  have KK1 : ∀ W, Below x0.heap.size x0 W → W.cell? ⟨w.heap.size, 0, none⟩ = some (.int .i64 ax) ∧ W.cell? ⟨w.heap.size + 2, 0, none⟩ = some (.int .i64 cx) ∧ W.cell? ⟨w.heap.size + 1, 1, none⟩ = some (.int .i64 by') ∧ W.cell? ⟨w.heap.size + 2, 1, none⟩ = some (.int .i64 cy) := fun W hb => ⟨q_cell (blkC a_k 0 rfl) hb, q_cell (blkC c_k 0 rfl) hb, q_cell (blkC b_k 1 rfl) hb, q_cell (blkC c_k 1 rfl) hb⟩
  have hC1_0 := (bel_refl x0).drew
  have hT1_0 : Below w.heap.size w x0.drew := hb0.drew
  have H_1_0 := H.keeps (bel_refl x0).drew
  have hs1_0 := (bel_refl x0).drew
  go_region_held3 (fun W => W.cell? ⟨w.heap.size, 0, none⟩ = some (.int .i64 ax) ∧ W.cell? ⟨w.heap.size + 2, 0, none⟩ = some (.int .i64 cx) ∧ W.cell? ⟨w.heap.size + 1, 1, none⟩ = some (.int .i64 by') ∧ W.cell? ⟨w.heap.size + 2, 1, none⟩ = some (.int .i64 cy))
    (with_reducible first | assumption | exact KK1 _ (bel_alloc _ _).drew | exact KK1 _ hC1_0 | exact KK1 _ hC1_1 | exact KK1 _ hC1_2 | exact KK1 _ hC1_3 | exact KK1 _ (bel_trans hC1_0 (bel_alloc _ _)) | exact KK1 _ (bel_trans hC1_1 (bel_alloc _ _)) | exact KK1 _ (bel_trans hC1_2 (bel_alloc _ _)) | exact KK1 _ (bel_trans hC1_3 (bel_alloc _ _)) | exact KK1 _ (bel_set2q (hC1_3) (Nat.le_refl _) _ _) | exact KK1 _ (bel_set2q (hC1_3) (hC1_1.size) _ _) | exact KK1 _ (bel_set2q (hC1_3) (hC1_2.size) _ _) | fail)
    (first
      | (go_at_call 35; have _t := hs1_2; refine (M1.out _ (H_1_2.keeps (by with_reducible first | exact bel_refl _ | exact bel_alloc _ _ | exact bel_dr _ _))).mono ?_; rintro _ y1_3 ⟨rfl, hq1_3⟩; have hs1_3 : Below y1_2.heap.size y1_2 y1_3 := (by with_reducible first | exact hq1_3 | exact bel_trans (bel_alloc _ _) hq1_3 | exact bel_trans (bel_dr _ _) hq1_3); have hT1_3 := bel_trans hT1_2 hs1_3; have hC1_3 := bel_trans hC1_2 hs1_3; have H_1_3 := H_1_2.keeps hs1_3; with_reducible first | (have qz1 : y1_3.heap[x0.heap.size]? = some (.cells #[.int .i64 0, .int .i64 0] 73 (0, 0)) := blk_on hq1_3 (blk_on hq1_2 (blk_on hq1_1 (heap_a1d x0 (.cells #[.int .i64 0, .int .i64 0] 73)))); have cz1_0 := blkC qz1 0 rfl; have zz1_0 := blkF qz1 0; have cz1_1 := blkC qz1 1 rfl; have zz1_1 := blkF qz1 1) | (have qz1 : y1_3.heap[y1_1.heap.size]? = some (.cells #[.int .i64 0, .int .i64 0] 73 (0, 0)) := blk_on hq1_3 (blk_on hq1_2 (heap_a1 _ _)); have cz1_0 := blkC qz1 0 rfl; have zz1_0 := blkF qz1 0; have cz1_1 := blkC qz1 1 rfl; have zz1_1 := blkF qz1 1) | (have qz1 : y1_3.heap[y1_2.heap.size]? = some (.cells #[.int .i64 0, .int .i64 0] 73 (0, 0)) := blk_on hq1_3 (heap_a1 _ _); have cz1_0 := blkC qz1 0 rfl; have zz1_0 := blkF qz1 0; have cz1_1 := blkC qz1 1 rfl; have zz1_1 := blkF qz1 1) | skip)
      | (go_at_call 36; have _t := hs1_1; refine (A2.out _ (H_1_1.keeps (by with_reducible first | exact bel_refl _ | exact bel_alloc _ _ | exact bel_dr _ _))).mono ?_; rintro _ y1_2 ⟨rfl, hq1_2⟩; have hs1_2 : Below y1_1.heap.size y1_1 y1_2 := (by with_reducible first | exact hq1_2 | exact bel_trans (bel_alloc _ _) hq1_2 | exact bel_trans (bel_dr _ _) hq1_2); have hT1_2 := bel_trans hT1_1 hs1_2; have hC1_2 := bel_trans hC1_1 hs1_2; have H_1_2 := H_1_1.keeps hs1_2)
      | (go_at_call 36; refine (A1.out _ (H_1_0.keeps (by with_reducible first | exact bel_refl _ | exact bel_alloc _ _ | exact bel_dr _ _))).mono ?_; rintro _ y1_1 ⟨rfl, hq1_1⟩; have hs1_1 : Below x0.drew.heap.size x0.drew y1_1 := (by with_reducible first | exact hq1_1 | exact bel_trans (bel_alloc _ _) hq1_1 | exact bel_trans (bel_dr _ _) hq1_1); have hT1_1 := bel_trans hT1_0 hs1_1; have hC1_1 := bel_trans hC1_0 hs1_1; have H_1_1 := H_1_0.keeps hs1_1))
  · exact HN1 y1_3.heap.size _ _ (by kernel_rfl) ((bel_trans (bel_trans (bel_trans (hs1_0) hs1_1) hs1_2) hs1_3).size) (heap_a1 _ _) (bel_trans (bel_trans (bel_trans (bel_trans (hs1_0) hs1_1) hs1_2) hs1_3) (bel_alloc _ _))
  · exact HN1 y1_2.heap.size _ _ (by kernel_rfl) ((bel_trans (bel_trans (hs1_0) hs1_1) hs1_2).size) (heap_set (heap_set (blk_on hq1_3 (heap_a1 _ _)) 0 _) 1 _) (bel_set2q (bel_trans (bel_trans (bel_trans (hs1_0) hs1_1) hs1_2) hs1_3) ((bel_trans (bel_trans (hs1_0) hs1_1) hs1_2).size) _ _)
  · exact HN1 y1_1.heap.size _ _ (by kernel_rfl) ((bel_trans (hs1_0) hs1_1).size) (heap_set (heap_set (blk_on hq1_3 (blk_on hq1_2 (heap_a1 _ _))) 0 _) 1 _) (bel_set2q (bel_trans (bel_trans (bel_trans (hs1_0) hs1_1) hs1_2) hs1_3) ((bel_trans (hs1_0) hs1_1).size) _ _)
  · exact HN1 x0.heap.size _ _ (by kernel_rfl) (Nat.le_refl _) (heap_set (heap_set (blk_on hq1_3 (blk_on hq1_2 (blk_on hq1_1 (heap_a1d x0 (.cells #[.int .i64 0, .int .i64 0] 73))))) 0 _) 1 _) (bel_set2q (bel_trans (bel_trans (bel_trans (hs1_0) hs1_1) hs1_2) hs1_3) (Nat.le_refl _) _ _)
set_option maxRecDepth 100000 in
set_option maxHeartbeats 8000000 in
theorem oWild_no {ax ay bx by' cx cy : Int} (rax : rng ax) (ray : rng ay) (rbx : rng bx) (rby : rng by') (rcx : rng cx) (rcy : rng cy) (pax : pok ax = true) (pay : pok ay = true) (pbx : pok bx = true) (pby : pok by' = true) (pcx : pok cx = true) (pcy : pok cy = true) (hk : sgK (owLo ax ay bx by' cx cy) (owHi ax ay bx by' cx cy) = false) (w : World) (H : Hold4 w) :
    Calls Tryz.prog 20 #[.agg #[.int .i64 ax, .int .i64 ay], .agg #[.int .i64 bx, .int .i64 by'], .agg #[.int .i64 cx, .int .i64 cy]] w fun r w' => r = .returned (.agg #[.int .i64 (ord (oDet ax ay bx by' cx cy) 0), .int .i64 6]) ∧ Below w.heap.size w w' := by
  have A1 : Hid (∀ W, Hold4 W → Calls Tryz.prog 36 #[.int .i64 ax, .int .i64 cx] W fun r w' => r = .returned (.agg #[.int .i64 (gLo ax cx), .int .i64 (gHi ax cx)]) ∧ Below W.heap.size W w') := fun W h => apartSpan rax rcx pax pcx W h
  have A2 : Hid (∀ W, Hold4 W → Calls Tryz.prog 36 #[.int .i64 by', .int .i64 cy] W fun r w' => r = .returned (.agg #[.int .i64 (gLo by' cy), .int .i64 (gHi by' cy)]) ∧ Below W.heap.size W w') := fun W h => apartSpan rby rcy pby pcy W h
  have A3 : Hid (∀ W, Hold4 W → Calls Tryz.prog 36 #[.int .i64 ay, .int .i64 cy] W fun r w' => r = .returned (.agg #[.int .i64 (gLo ay cy), .int .i64 (gHi ay cy)]) ∧ Below W.heap.size W w') := fun W h => apartSpan ray rcy pay pcy W h
  have A4 : Hid (∀ W, Hold4 W → Calls Tryz.prog 36 #[.int .i64 bx, .int .i64 cx] W fun r w' => r = .returned (.agg #[.int .i64 (gLo bx cx), .int .i64 (gHi bx cx)]) ∧ Below W.heap.size W w') := fun W h => apartSpan rbx rcx pbx pcx W h
  have M1 := (mulX (okk_pin (gap_okk rax rcx pax pcx)) (okk_pin (gap_okk rby rcy pby pcy))).1
  have M2 := (mulX (okk_pin (gap_okk ray rcy pay pcy)) (okk_pin (gap_okk rbx rcx pbx pcx))).1
  have S1 := (subX (okk_pin (oq_okk rax rcx rby rcy pax pcx pby pcy)) (okk_pin (oq_okk ray rcy rbx rcx pay pcy pbx pcx))).1
  have ok := ow_okk rax ray rbx rby rcx rcy pax pay pbx pby pcx pcy
  have hD := det_X rax ray rbx rby rcx rcy pax pay pbx pby pcx pcy
  have eV : mulS (patV ax - patV cx) (patV by' - patV cy) - mulS (patV ay - patV cy) (patV bx - patV cx) = oDet ax ay bx by' cx cy * pw (-2148) := by
    obtain ⟨C, D, h1, h2, h3⟩ := hD
    rw [h3, mulS_of h1, mulS_of h2]
  rw [eV] at ok
  have hso := sgn_has ok
  rw [ord_mulP (pw_pos _)] at hso
  have CS : Hid (∀ W, Calls Tryz.prog 38 #[.agg #[.int .i64 (owLo ax ay bx by' cx cy), .int .i64 (owHi ax ay bx by' cx cy)]] W fun e w' => e = .returned (.tuple #[.int .i64 (sgV (owLo ax ay bx by' cx cy) (owHi ax ay bx by' cx cy)), .bool false, .int .i64 (errA (vld (owLo ax ay bx by' cx cy) (owHi ax ay bx by' cx cy)))]) ∧ Below W.heap.size W w') := fun W => by
    have := spanSignE ok.lo.1 ok.hi.1 W
    rw [hk] at this
    exact this
  have CX : Hid (∀ W, Hold4 W → Calls Tryz.prog 21 #[.agg #[.int .i64 ax, .int .i64 ay], .agg #[.int .i64 bx, .int .i64 by'], .agg #[.int .i64 cx, .int .i64 cy]] W fun r w' => ∃ n_g n_o n_n n_c n_e, r = .returned (.agg #[.bool n_g, .slice n_o n_n n_c, .int .i64 n_e]) ∧ (∀ W2, Below w'.heap.size w' W2 → Calls Tryz.prog 39 #[.agg #[.bool n_g, .slice n_o n_n n_c, .int .i64 n_e]] W2 fun r2 w2 => r2 = .returned (.tuple #[.int .i64 (ord (oDet ax ay bx by' cx cy) 0), .int .i64 0]) ∧ Below W2.heap.size W2 w2) ∧ Below W.heap.size W w') := fun W h => by
    refine (oexact_any pax pay pbx pby pcx pcy W h).mono ?_
    rintro _ w3 ⟨v, V, rfl, hA, hV, hB⟩
    obtain ⟨n_g, n_o, n_n, n_c, n_e, rfl⟩ := dans_shape hA
    refine ⟨n_g, n_o, n_n, n_c, n_e, rfl, fun W4 h4 => ?_, hA.below⟩
    have := sign_D (hA.num.keeps h4) (hB.ok (by omega))
    rw [hV.unique hD, ord_mulP (pw_pos _)] at this
    exact this
  clear eV hso ok hD hk
  clear rax ray rbx rby rcx rcy pax pay pbx pby pcx pcy
  unfold owLo owHi at CS
  unfold oqLo oqHi at *
  generalize ord (oDet ax ay bx by' cx cy) 0 = sgn at *
  generalize sgV (eLo (ePlus (eOf (tLo (gLo ax cx) (gHi ax cx) (gLo by' cy) (gHi by' cy))) (eNeg (eOf (tHi (gLo ay cy) (gHi ay cy) (gLo bx cx) (gHi bx cx)))))) (eHi (ePlus (eOf (tHi (gLo ax cx) (gHi ax cx) (gLo by' cy) (gHi by' cy))) (eNeg (eOf (tLo (gLo ay cy) (gHi ay cy) (gLo bx cx) (gHi bx cx)))))) = sgo at *
  generalize errA (vld (eLo (ePlus (eOf (tLo (gLo ax cx) (gHi ax cx) (gLo by' cy) (gHi by' cy))) (eNeg (eOf (tHi (gLo ay cy) (gHi ay cy) (gLo bx cx) (gHi bx cx)))))) (eHi (ePlus (eOf (tHi (gLo ax cx) (gHi ax cx) (gLo by' cy) (gHi by' cy))) (eNeg (eOf (tLo (gLo ay cy) (gHi ay cy) (gLo bx cx) (gHi bx cx))))))) = er0 at *
  generalize eLo (ePlus (eOf (tLo (gLo ax cx) (gHi ax cx) (gLo by' cy) (gHi by' cy))) (eNeg (eOf (tHi (gLo ay cy) (gHi ay cy) (gLo bx cx) (gHi bx cx))))) = lo at *
  generalize eHi (ePlus (eOf (tHi (gLo ax cx) (gHi ax cx) (gLo by' cy) (gHi by' cy))) (eNeg (eOf (tLo (gLo ay cy) (gHi ay cy) (gLo bx cx) (gHi bx cx))))) = hi at *
  generalize tLo (gLo ax cx) (gHi ax cx) (gLo by' cy) (gHi by' cy) = l0 at *
  generalize tHi (gLo ax cx) (gHi ax cx) (gLo by' cy) (gHi by' cy) = l1 at *
  generalize tLo (gLo ay cy) (gHi ay cy) (gLo bx cx) (gHi bx cx) = s0 at *
  generalize tHi (gLo ay cy) (gHi ay cy) (gLo bx cx) (gHi bx cx) = s1 at *
  generalize gLo ax cx = a1 at *
  generalize gHi ax cx = b1 at *
  generalize gLo by' cy = a2 at *
  generalize gHi by' cy = b2 at *
  generalize gLo ay cy = a3 at *
  generalize gHi ay cy = b3 at *
  generalize gLo bx cx = a4 at *
  generalize gHi bx cx = b4 at *
  have a_k : (w.alloc (.cells #[.int .i64 ax, .int .i64 ay] 23)).heap[w.heap.size]? = some (.cells #[.int .i64 ax, .int .i64 ay] 23) := heap_new (.cells #[.int .i64 ax, .int .i64 ay] 23) (by rfl)
  have hb0 := bel_alloc w (.cells #[.int .i64 ax, .int .i64 ay] 23)
  replace a_k := heap_past (.cells #[.int .i64 bx, .int .i64 by'] 23) a_k
  have b_k : ((w.alloc (.cells #[.int .i64 ax, .int .i64 ay] 23)).alloc (.cells #[.int .i64 bx, .int .i64 by'] 23)).heap[w.heap.size + 1]? = some (.cells #[.int .i64 bx, .int .i64 by'] 23) := heap_new (.cells #[.int .i64 bx, .int .i64 by'] 23) (by simp only [size_alloc])
  replace hb0 := bel_trans hb0 (bel_alloc (w.alloc (.cells #[.int .i64 ax, .int .i64 ay] 23)) (.cells #[.int .i64 bx, .int .i64 by'] 23))
  replace a_k := heap_past (.cells #[.int .i64 cx, .int .i64 cy] 23) a_k
  replace b_k := heap_past (.cells #[.int .i64 cx, .int .i64 cy] 23) b_k
  have c_k : (((w.alloc (.cells #[.int .i64 ax, .int .i64 ay] 23)).alloc (.cells #[.int .i64 bx, .int .i64 by'] 23)).alloc (.cells #[.int .i64 cx, .int .i64 cy] 23)).heap[w.heap.size + 1 + 1]? = some (.cells #[.int .i64 cx, .int .i64 cy] 23) := heap_new (.cells #[.int .i64 cx, .int .i64 cy] 23) (by simp only [size_alloc])
  replace hb0 := bel_trans hb0 (bel_alloc ((w.alloc (.cells #[.int .i64 ax, .int .i64 ay] 23)).alloc (.cells #[.int .i64 bx, .int .i64 by'] 23)) (.cells #[.int .i64 cx, .int .i64 cy] 23))
  replace a_k := heap_past (.cells #[.int .i64 0, .int .i64 0] 26) a_k
  replace b_k := heap_past (.cells #[.int .i64 0, .int .i64 0] 26) b_k
  replace c_k := heap_past (.cells #[.int .i64 0, .int .i64 0] 26) c_k
  have r_k : ((((w.alloc (.cells #[.int .i64 ax, .int .i64 ay] 23)).alloc (.cells #[.int .i64 bx, .int .i64 by'] 23)).alloc (.cells #[.int .i64 cx, .int .i64 cy] 23)).alloc (.cells #[.int .i64 0, .int .i64 0] 26)).heap[w.heap.size + 1 + 1 + 1]? = some (.cells #[.int .i64 0, .int .i64 0] 26) := heap_new (.cells #[.int .i64 0, .int .i64 0] 26) (by simp only [size_alloc])
  replace hb0 := bel_trans hb0 (bel_alloc (((w.alloc (.cells #[.int .i64 ax, .int .i64 ay] 23)).alloc (.cells #[.int .i64 bx, .int .i64 by'] 23)).alloc (.cells #[.int .i64 cx, .int .i64 cy] 23)) (.cells #[.int .i64 0, .int .i64 0] 26))
  go_enter Tryz.func20, Tryz.ntmps20
  go_wp2_with fail
  rename_i Q0 K00 hK00
  generalize ((((w.alloc (.cells #[.int .i64 ax, .int .i64 ay] 23)).alloc (.cells #[.int .i64 bx, .int .i64 by'] 23)).alloc (.cells #[.int .i64 cx, .int .i64 cy] 23)).alloc (.cells #[.int .i64 0, .int .i64 0] 26)) = x0 at hb0 a_k b_k c_k r_k ⊢
  have H := H.keeps hb0
  have hK1 := hK00
  have HN1 : ∀ (g : Nat) (x1 : World) (t : Array Value), #[t.getD 0 undef, t.getD 1 undef, t.getD 2 undef, .pointer (some ⟨w.heap.size, 0, none⟩), .pointer (some ⟨w.heap.size + 1, 0, none⟩), .pointer (some ⟨w.heap.size + 1 + 1, 0, none⟩), .pointer (some ⟨w.heap.size + 1 + 1 + 1, 0, none⟩), .pointer (some ⟨g, 0, none⟩), t.getD 8 undef, t.getD 9 undef, t.getD 10 undef, t.getD 11 undef, t.getD 12 undef, t.getD 13 undef, t.getD 14 undef, t.getD 15 undef, t.getD 16 undef, t.getD 17 undef, t.getD 18 undef, t.getD 19 undef, t.getD 20 undef, t.getD 21 undef, t.getD 22 undef, t.getD 23 undef, t.getD 24 undef, t.getD 25 undef, t.getD 26 undef, t.getD 27 undef, t.getD 28 undef, t.getD 29 undef, t.getD 30 undef, t.getD 31 undef, t.getD 32 undef, t.getD 33 undef, t.getD 34 undef, t.getD 35 undef, t.getD 36 undef, t.getD 37 undef, t.getD 38 undef, t.getD 39 undef, t.getD 40 undef, t.getD 41 undef, t.getD 42 undef, t.getD 43 undef, t.getD 44 undef, t.getD 45 undef, t.getD 46 undef, t.getD 47 undef, t.getD 48 undef, t.getD 49 undef, t.getD 50 undef, t.getD 51 undef, t.getD 52 undef, t.getD 53 undef, t.getD 54 undef, t.getD 55 undef, t.getD 56 undef, t.getD 57 undef, t.getD 58 undef, t.getD 59 undef, t.getD 60 undef, t.getD 61 undef, t.getD 62 undef, t.getD 63 undef, t.getD 64 undef, t.getD 65 undef, t.getD 66 undef, t.getD 67 undef, t.getD 68 undef, t.getD 69 undef, t.getD 70 undef] = t → x0.heap.size ≤ g → x1.heap[g]? = some (.cells #[.int .i64 l0, .int .i64 l1] 73 (0, 0)) → Below x0.heap.size x0 x1 → Exit.then K00 Q0 Exit.normal { tmps := t, defers := [] } x1 := by
    intro g_l x1 t ht l_ge l_k hw1
    obtain ⟨u1, hu⟩ : ∃ u : Nat → Value, t = #[u 0, u 1, u 2, .pointer (some ⟨w.heap.size, 0, none⟩), .pointer (some ⟨w.heap.size + 1, 0, none⟩), .pointer (some ⟨w.heap.size + 1 + 1, 0, none⟩), .pointer (some ⟨w.heap.size + 1 + 1 + 1, 0, none⟩), .pointer (some ⟨g_l, 0, none⟩), u 8, u 9, u 10, u 11, u 12, u 13, u 14, u 15, u 16, u 17, u 18, u 19, u 20, u 21, u 22, u 23, u 24, u 25, u 26, u 27, u 28, u 29, u 30, u 31, u 32, u 33, u 34, u 35, u 36, u 37, u 38, u 39, u 40, u 41, u 42, u 43, u 44, u 45, u 46, u 47, u 48, u 49, u 50, u 51, u 52, u 53, u 54, u 55, u 56, u 57, u 58, u 59, u 60, u 61, u 62, u 63, u 64, u 65, u 66, u 67, u 68, u 69, u 70] := ⟨fun k => t.getD k undef, ht.symm⟩
    clear ht
    subst hu
    have H := H.keeps hw1
    have a_k := (hw1.block _ (Array.getElem?_eq_some_iff.1 a_k).1).trans a_k
    have b_k := (hw1.block _ (Array.getElem?_eq_some_iff.1 b_k).1).trans b_k
    have c_k := (hw1.block _ (Array.getElem?_eq_some_iff.1 c_k).1).trans c_k
    have r_k := (hw1.block _ (Array.getElem?_eq_some_iff.1 r_k).1).trans r_k
    have hb1 := bel_trans hb0 hw1
    go_wp2_with fail
    rename_i K2 hK2
    have HN2 : ∀ (g : Nat) (x2 : World) (t : Array Value), #[t.getD 0 undef, t.getD 1 undef, t.getD 2 undef, .pointer (some ⟨w.heap.size, 0, none⟩), .pointer (some ⟨w.heap.size + 1, 0, none⟩), .pointer (some ⟨w.heap.size + 1 + 1, 0, none⟩), .pointer (some ⟨w.heap.size + 1 + 1 + 1, 0, none⟩), .pointer (some ⟨g_l, 0, none⟩), t.getD 8 undef, .pointer (some ⟨g, 0, none⟩), t.getD 10 undef, t.getD 11 undef, t.getD 12 undef, t.getD 13 undef, t.getD 14 undef, t.getD 15 undef, t.getD 16 undef, t.getD 17 undef, t.getD 18 undef, t.getD 19 undef, t.getD 20 undef, t.getD 21 undef, t.getD 22 undef, t.getD 23 undef, t.getD 24 undef, t.getD 25 undef, t.getD 26 undef, t.getD 27 undef, t.getD 28 undef, t.getD 29 undef, t.getD 30 undef, t.getD 31 undef, t.getD 32 undef, t.getD 33 undef, t.getD 34 undef, t.getD 35 undef, t.getD 36 undef, t.getD 37 undef, t.getD 38 undef, t.getD 39 undef, t.getD 40 undef, t.getD 41 undef, t.getD 42 undef, t.getD 43 undef, t.getD 44 undef, t.getD 45 undef, t.getD 46 undef, t.getD 47 undef, t.getD 48 undef, t.getD 49 undef, t.getD 50 undef, t.getD 51 undef, t.getD 52 undef, t.getD 53 undef, t.getD 54 undef, t.getD 55 undef, t.getD 56 undef, t.getD 57 undef, t.getD 58 undef, t.getD 59 undef, t.getD 60 undef, t.getD 61 undef, t.getD 62 undef, t.getD 63 undef, t.getD 64 undef, t.getD 65 undef, t.getD 66 undef, t.getD 67 undef, t.getD 68 undef, t.getD 69 undef, t.getD 70 undef] = t → x1.heap.size ≤ g → x2.heap[g]? = some (.cells #[.int .i64 s0, .int .i64 s1] 73 (0, 0)) → Below x1.heap.size x1 x2 → Exit.then K2 Q0 Exit.normal { tmps := t, defers := [] } x2 := by
      intro g_s x2 t ht s_ge s_k hw2
      obtain ⟨u2, hu⟩ : ∃ u : Nat → Value, t = #[u 0, u 1, u 2, .pointer (some ⟨w.heap.size, 0, none⟩), .pointer (some ⟨w.heap.size + 1, 0, none⟩), .pointer (some ⟨w.heap.size + 1 + 1, 0, none⟩), .pointer (some ⟨w.heap.size + 1 + 1 + 1, 0, none⟩), .pointer (some ⟨g_l, 0, none⟩), u 8, .pointer (some ⟨g_s, 0, none⟩), u 10, u 11, u 12, u 13, u 14, u 15, u 16, u 17, u 18, u 19, u 20, u 21, u 22, u 23, u 24, u 25, u 26, u 27, u 28, u 29, u 30, u 31, u 32, u 33, u 34, u 35, u 36, u 37, u 38, u 39, u 40, u 41, u 42, u 43, u 44, u 45, u 46, u 47, u 48, u 49, u 50, u 51, u 52, u 53, u 54, u 55, u 56, u 57, u 58, u 59, u 60, u 61, u 62, u 63, u 64, u 65, u 66, u 67, u 68, u 69, u 70] := ⟨fun k => t.getD k undef, ht.symm⟩
      clear ht
      subst hu
      have H := H.keeps hw2
      have a_k := (hw2.block _ (Array.getElem?_eq_some_iff.1 a_k).1).trans a_k
      have b_k := (hw2.block _ (Array.getElem?_eq_some_iff.1 b_k).1).trans b_k
      have c_k := (hw2.block _ (Array.getElem?_eq_some_iff.1 c_k).1).trans c_k
      have r_k := (hw2.block _ (Array.getElem?_eq_some_iff.1 r_k).1).trans r_k
      have l_k := (hw2.block _ (Array.getElem?_eq_some_iff.1 l_k).1).trans l_k
      have hb2 := bel_trans hb1 hw2
      have f_l0 := blkC l_k 0 rfl
      have f_l1 := blkC l_k 1 rfl
      have f_s0 := blkC s_k 0 rfl
      have f_s1 := blkC s_k 1 rfl
      go_wp2_with fail
      clear f_l0 f_l1 f_s0 f_s1
      refine (S1.out _ H).mono ?_
      rintro _ ye ⟨rfl, hwe⟩
      replace a_k := heap_past (.cells #[.int .i64 lo, .int .i64 hi] 73) (blk_on hwe a_k)
      replace b_k := heap_past (.cells #[.int .i64 lo, .int .i64 hi] 73) (blk_on hwe b_k)
      replace c_k := heap_past (.cells #[.int .i64 lo, .int .i64 hi] 73) (blk_on hwe c_k)
      replace r_k := heap_past (.cells #[.int .i64 lo, .int .i64 hi] 73) (blk_on hwe r_k)
      replace H := (H.keeps hwe).keeps (bel_alloc ye (.cells #[.int .i64 lo, .int .i64 hi] 73))
      have hbe := bel_trans (bel_trans hb2 hwe) (bel_alloc ye (.cells #[.int .i64 lo, .int .i64 hi] 73))
      go_wp2_with fail
      generalize ye.alloc (.cells #[.int .i64 lo, .int .i64 hi] 73) = xe at a_k b_k c_k r_k H hbe ⊢
      refine (CS.out _).mono ?_
      rintro _ yf ⟨rfl, hwf⟩
      replace a_k := blk_on hwf a_k
      replace b_k := blk_on hwf b_k
      replace c_k := blk_on hwf c_k
      replace r_k := blk_on hwf r_k
      replace hbe := bel_trans hbe hwf
      replace H := H.keeps hwf
      have f_a0 := blkC a_k 0 rfl
      have f_a1 := blkC a_k 1 rfl
      have f_b0 := blkC b_k 0 rfl
      have f_b1 := blkC b_k 1 rfl
      have f_c0 := blkC c_k 0 rfl
      have f_c1 := blkC c_k 1 rfl
      go_wp2_with fail
      clear f_a0 f_a1 f_b0 f_b1 f_c0 f_c1
      refine (CX.out _ H).mono ?_
      rintro _ yg ⟨n_g, n_o, n_n, n_c, n_e, rfl, CG, hwg⟩
      replace r_k := blk_on hwg r_k
      replace hbe := bel_trans hbe hwg
      go_wp2_with fail
      refine (CG _ (bel_refl _)).mono ?_
      rintro _ yh ⟨rfl, hwh⟩
      replace r_k := blk_on hwh r_k
      replace hbe := bel_trans hbe hwh
      have k0 := blkC r_k 0 rfl
      have k1 := blkC r_k 1 rfl
      have z0 := blkF r_k 0
      have z1 := blkF r_k 1
      go_wp2
      exact bodyPost_ret (v := .agg #[.int .i64 sgn, .int .i64 6]) (by simp [results, Tryz.results20, go_sem, k0, k1]) rfl ⟨rfl, ((hbe.setCell (p := ⟨w.heap.size + 3, 0, none⟩) (show w.heap.size ≤ w.heap.size + 3 by omega) _).setCell (p := ⟨w.heap.size + 3, 1, none⟩) (show w.heap.size ≤ w.heap.size + 3 by omega) _)⟩
    have KK2 : ∀ W, Below x1.heap.size x1 W → W.cell? ⟨w.heap.size, 1, none⟩ = some (.int .i64 ay) ∧ W.cell? ⟨w.heap.size + 2, 1, none⟩ = some (.int .i64 cy) ∧ W.cell? ⟨w.heap.size + 1, 0, none⟩ = some (.int .i64 bx) ∧ W.cell? ⟨w.heap.size + 2, 0, none⟩ = some (.int .i64 cx) := fun W hb => ⟨q_cell (blkC a_k 1 rfl) hb, q_cell (blkC c_k 1 rfl) hb, q_cell (blkC b_k 0 rfl) hb, q_cell (blkC c_k 0 rfl) hb⟩
    have hC2_0 := (bel_refl x1).drew
    have hT2_0 : Below w.heap.size w x1.drew := hb1.drew
    have H_2_0 := H.keeps (bel_refl x1).drew
    have hs2_0 := (bel_refl x1).drew
    go_region_held3 (fun W => W.cell? ⟨w.heap.size, 1, none⟩ = some (.int .i64 ay) ∧ W.cell? ⟨w.heap.size + 2, 1, none⟩ = some (.int .i64 cy) ∧ W.cell? ⟨w.heap.size + 1, 0, none⟩ = some (.int .i64 bx) ∧ W.cell? ⟨w.heap.size + 2, 0, none⟩ = some (.int .i64 cx))
      (with_reducible first | assumption | exact KK2 _ (bel_alloc _ _).drew | exact KK2 _ hC2_0 | exact KK2 _ hC2_1 | exact KK2 _ hC2_2 | exact KK2 _ hC2_3 | exact KK2 _ (bel_trans hC2_0 (bel_alloc _ _)) | exact KK2 _ (bel_trans hC2_1 (bel_alloc _ _)) | exact KK2 _ (bel_trans hC2_2 (bel_alloc _ _)) | exact KK2 _ (bel_trans hC2_3 (bel_alloc _ _)) | exact KK2 _ (bel_set2q (hC2_3) (Nat.le_refl _) _ _) | exact KK2 _ (bel_set2q (hC2_3) (hC2_1.size) _ _) | exact KK2 _ (bel_set2q (hC2_3) (hC2_2.size) _ _) | fail)
      (first
        | (go_at_call 35; have _t := hs2_2; refine (M2.out _ (H_2_2.keeps (by with_reducible first | exact bel_refl _ | exact bel_alloc _ _ | exact bel_dr _ _))).mono ?_; rintro _ y2_3 ⟨rfl, hq2_3⟩; have hs2_3 : Below y2_2.heap.size y2_2 y2_3 := (by with_reducible first | exact hq2_3 | exact bel_trans (bel_alloc _ _) hq2_3 | exact bel_trans (bel_dr _ _) hq2_3); have hT2_3 := bel_trans hT2_2 hs2_3; have hC2_3 := bel_trans hC2_2 hs2_3; have H_2_3 := H_2_2.keeps hs2_3; with_reducible first | (have qz2 : y2_3.heap[x1.heap.size]? = some (.cells #[.int .i64 0, .int .i64 0] 73 (0, 0)) := blk_on hq2_3 (blk_on hq2_2 (blk_on hq2_1 (heap_a1d x1 (.cells #[.int .i64 0, .int .i64 0] 73)))); have cz2_0 := blkC qz2 0 rfl; have zz2_0 := blkF qz2 0; have cz2_1 := blkC qz2 1 rfl; have zz2_1 := blkF qz2 1) | (have qz2 : y2_3.heap[y2_1.heap.size]? = some (.cells #[.int .i64 0, .int .i64 0] 73 (0, 0)) := blk_on hq2_3 (blk_on hq2_2 (heap_a1 _ _)); have cz2_0 := blkC qz2 0 rfl; have zz2_0 := blkF qz2 0; have cz2_1 := blkC qz2 1 rfl; have zz2_1 := blkF qz2 1) | (have qz2 : y2_3.heap[y2_2.heap.size]? = some (.cells #[.int .i64 0, .int .i64 0] 73 (0, 0)) := blk_on hq2_3 (heap_a1 _ _); have cz2_0 := blkC qz2 0 rfl; have zz2_0 := blkF qz2 0; have cz2_1 := blkC qz2 1 rfl; have zz2_1 := blkF qz2 1) | skip)
        | (go_at_call 36; have _t := hs2_1; refine (A4.out _ (H_2_1.keeps (by with_reducible first | exact bel_refl _ | exact bel_alloc _ _ | exact bel_dr _ _))).mono ?_; rintro _ y2_2 ⟨rfl, hq2_2⟩; have hs2_2 : Below y2_1.heap.size y2_1 y2_2 := (by with_reducible first | exact hq2_2 | exact bel_trans (bel_alloc _ _) hq2_2 | exact bel_trans (bel_dr _ _) hq2_2); have hT2_2 := bel_trans hT2_1 hs2_2; have hC2_2 := bel_trans hC2_1 hs2_2; have H_2_2 := H_2_1.keeps hs2_2)
        | (go_at_call 36; refine (A3.out _ (H_2_0.keeps (by with_reducible first | exact bel_refl _ | exact bel_alloc _ _ | exact bel_dr _ _))).mono ?_; rintro _ y2_1 ⟨rfl, hq2_1⟩; have hs2_1 : Below x1.drew.heap.size x1.drew y2_1 := (by with_reducible first | exact hq2_1 | exact bel_trans (bel_alloc _ _) hq2_1 | exact bel_trans (bel_dr _ _) hq2_1); have hT2_1 := bel_trans hT2_0 hs2_1; have hC2_1 := bel_trans hC2_0 hs2_1; have H_2_1 := H_2_0.keeps hs2_1))
    · exact HN2 y2_3.heap.size _ _ (by kernel_rfl) ((bel_trans (bel_trans (bel_trans (hs2_0) hs2_1) hs2_2) hs2_3).size) (heap_a1 _ _) (bel_trans (bel_trans (bel_trans (bel_trans (hs2_0) hs2_1) hs2_2) hs2_3) (bel_alloc _ _))
    · exact HN2 y2_2.heap.size _ _ (by kernel_rfl) ((bel_trans (bel_trans (hs2_0) hs2_1) hs2_2).size) (heap_set (heap_set (blk_on hq2_3 (heap_a1 _ _)) 0 _) 1 _) (bel_set2q (bel_trans (bel_trans (bel_trans (hs2_0) hs2_1) hs2_2) hs2_3) ((bel_trans (bel_trans (hs2_0) hs2_1) hs2_2).size) _ _)
    · exact HN2 y2_1.heap.size _ _ (by kernel_rfl) ((bel_trans (hs2_0) hs2_1).size) (heap_set (heap_set (blk_on hq2_3 (blk_on hq2_2 (heap_a1 _ _))) 0 _) 1 _) (bel_set2q (bel_trans (bel_trans (bel_trans (hs2_0) hs2_1) hs2_2) hs2_3) ((bel_trans (hs2_0) hs2_1).size) _ _)
    · exact HN2 x1.heap.size _ _ (by kernel_rfl) (Nat.le_refl _) (heap_set (heap_set (blk_on hq2_3 (blk_on hq2_2 (blk_on hq2_1 (heap_a1d x1 (.cells #[.int .i64 0, .int .i64 0] 73))))) 0 _) 1 _) (bel_set2q (bel_trans (bel_trans (bel_trans (hs2_0) hs2_1) hs2_2) hs2_3) (Nat.le_refl _) _ _)
  have KK1 : ∀ W, Below x0.heap.size x0 W → W.cell? ⟨w.heap.size, 0, none⟩ = some (.int .i64 ax) ∧ W.cell? ⟨w.heap.size + 2, 0, none⟩ = some (.int .i64 cx) ∧ W.cell? ⟨w.heap.size + 1, 1, none⟩ = some (.int .i64 by') ∧ W.cell? ⟨w.heap.size + 2, 1, none⟩ = some (.int .i64 cy) := fun W hb => ⟨q_cell (blkC a_k 0 rfl) hb, q_cell (blkC c_k 0 rfl) hb, q_cell (blkC b_k 1 rfl) hb, q_cell (blkC c_k 1 rfl) hb⟩
  have hC1_0 := (bel_refl x0).drew
  have hT1_0 : Below w.heap.size w x0.drew := hb0.drew
  have H_1_0 := H.keeps (bel_refl x0).drew
  have hs1_0 := (bel_refl x0).drew
  go_region_held3 (fun W => W.cell? ⟨w.heap.size, 0, none⟩ = some (.int .i64 ax) ∧ W.cell? ⟨w.heap.size + 2, 0, none⟩ = some (.int .i64 cx) ∧ W.cell? ⟨w.heap.size + 1, 1, none⟩ = some (.int .i64 by') ∧ W.cell? ⟨w.heap.size + 2, 1, none⟩ = some (.int .i64 cy))
    (with_reducible first | assumption | exact KK1 _ (bel_alloc _ _).drew | exact KK1 _ hC1_0 | exact KK1 _ hC1_1 | exact KK1 _ hC1_2 | exact KK1 _ hC1_3 | exact KK1 _ (bel_trans hC1_0 (bel_alloc _ _)) | exact KK1 _ (bel_trans hC1_1 (bel_alloc _ _)) | exact KK1 _ (bel_trans hC1_2 (bel_alloc _ _)) | exact KK1 _ (bel_trans hC1_3 (bel_alloc _ _)) | exact KK1 _ (bel_set2q (hC1_3) (Nat.le_refl _) _ _) | exact KK1 _ (bel_set2q (hC1_3) (hC1_1.size) _ _) | exact KK1 _ (bel_set2q (hC1_3) (hC1_2.size) _ _) | fail)
    (first
      | (go_at_call 35; have _t := hs1_2; refine (M1.out _ (H_1_2.keeps (by with_reducible first | exact bel_refl _ | exact bel_alloc _ _ | exact bel_dr _ _))).mono ?_; rintro _ y1_3 ⟨rfl, hq1_3⟩; have hs1_3 : Below y1_2.heap.size y1_2 y1_3 := (by with_reducible first | exact hq1_3 | exact bel_trans (bel_alloc _ _) hq1_3 | exact bel_trans (bel_dr _ _) hq1_3); have hT1_3 := bel_trans hT1_2 hs1_3; have hC1_3 := bel_trans hC1_2 hs1_3; have H_1_3 := H_1_2.keeps hs1_3; with_reducible first | (have qz1 : y1_3.heap[x0.heap.size]? = some (.cells #[.int .i64 0, .int .i64 0] 73 (0, 0)) := blk_on hq1_3 (blk_on hq1_2 (blk_on hq1_1 (heap_a1d x0 (.cells #[.int .i64 0, .int .i64 0] 73)))); have cz1_0 := blkC qz1 0 rfl; have zz1_0 := blkF qz1 0; have cz1_1 := blkC qz1 1 rfl; have zz1_1 := blkF qz1 1) | (have qz1 : y1_3.heap[y1_1.heap.size]? = some (.cells #[.int .i64 0, .int .i64 0] 73 (0, 0)) := blk_on hq1_3 (blk_on hq1_2 (heap_a1 _ _)); have cz1_0 := blkC qz1 0 rfl; have zz1_0 := blkF qz1 0; have cz1_1 := blkC qz1 1 rfl; have zz1_1 := blkF qz1 1) | (have qz1 : y1_3.heap[y1_2.heap.size]? = some (.cells #[.int .i64 0, .int .i64 0] 73 (0, 0)) := blk_on hq1_3 (heap_a1 _ _); have cz1_0 := blkC qz1 0 rfl; have zz1_0 := blkF qz1 0; have cz1_1 := blkC qz1 1 rfl; have zz1_1 := blkF qz1 1) | skip)
      | (go_at_call 36; have _t := hs1_1; refine (A2.out _ (H_1_1.keeps (by with_reducible first | exact bel_refl _ | exact bel_alloc _ _ | exact bel_dr _ _))).mono ?_; rintro _ y1_2 ⟨rfl, hq1_2⟩; have hs1_2 : Below y1_1.heap.size y1_1 y1_2 := (by with_reducible first | exact hq1_2 | exact bel_trans (bel_alloc _ _) hq1_2 | exact bel_trans (bel_dr _ _) hq1_2); have hT1_2 := bel_trans hT1_1 hs1_2; have hC1_2 := bel_trans hC1_1 hs1_2; have H_1_2 := H_1_1.keeps hs1_2)
      | (go_at_call 36; refine (A1.out _ (H_1_0.keeps (by with_reducible first | exact bel_refl _ | exact bel_alloc _ _ | exact bel_dr _ _))).mono ?_; rintro _ y1_1 ⟨rfl, hq1_1⟩; have hs1_1 : Below x0.drew.heap.size x0.drew y1_1 := (by with_reducible first | exact hq1_1 | exact bel_trans (bel_alloc _ _) hq1_1 | exact bel_trans (bel_dr _ _) hq1_1); have hT1_1 := bel_trans hT1_0 hs1_1; have hC1_1 := bel_trans hC1_0 hs1_1; have H_1_1 := H_1_0.keeps hs1_1))
  · exact HN1 y1_3.heap.size _ _ (by kernel_rfl) ((bel_trans (bel_trans (bel_trans (hs1_0) hs1_1) hs1_2) hs1_3).size) (heap_a1 _ _) (bel_trans (bel_trans (bel_trans (bel_trans (hs1_0) hs1_1) hs1_2) hs1_3) (bel_alloc _ _))
  · exact HN1 y1_2.heap.size _ _ (by kernel_rfl) ((bel_trans (bel_trans (hs1_0) hs1_1) hs1_2).size) (heap_set (heap_set (blk_on hq1_3 (heap_a1 _ _)) 0 _) 1 _) (bel_set2q (bel_trans (bel_trans (bel_trans (hs1_0) hs1_1) hs1_2) hs1_3) ((bel_trans (bel_trans (hs1_0) hs1_1) hs1_2).size) _ _)
  · exact HN1 y1_1.heap.size _ _ (by kernel_rfl) ((bel_trans (hs1_0) hs1_1).size) (heap_set (heap_set (blk_on hq1_3 (blk_on hq1_2 (heap_a1 _ _))) 0 _) 1 _) (bel_set2q (bel_trans (bel_trans (bel_trans (hs1_0) hs1_1) hs1_2) hs1_3) ((bel_trans (hs1_0) hs1_1).size) _ _)
  · exact HN1 x0.heap.size _ _ (by kernel_rfl) (Nat.le_refl _) (heap_set (heap_set (blk_on hq1_3 (blk_on hq1_2 (blk_on hq1_1 (heap_a1d x0 (.cells #[.int .i64 0, .int .i64 0] 73))))) 0 _) 1 _) (bel_set2q (bel_trans (bel_trans (bel_trans (hs1_0) hs1_1) hs1_2) hs1_3) (Nat.le_refl _) _ _)
end Go.Proofs.YtafnigjehkpggaaGreatDoor
