/-
  Parts of the proof, one behind another.
-/
import Derived.Test.YthpachmmjjlomaaGreatDoorPart24
import Derived.Test.YthpachmmjjlomaaGreatDoorPart25
import Derived.Test.YthpachmmjjlomaaGreatDoorPart19
import Derived.Test.YthpachmmjjlomaaGreatDoorPart17
import Derived.Test.YthpachmmjjlomaaGreatDoorPart21
namespace Go.Proofs.YthpachmmjjlomaaGreatDoor
open Go Go.RowKit Go.Proofs.YthpachmmjjlomaaGreatDoor.M
set_option linter.unusedSimpArgs false
set_option linter.unusedVariables false
def tLo (a b c d : Int) : Int := eLo (eTmLo (eOf a) (eOf b) (eOf c) (eOf d))
def tHi (a b c d : Int) : Int := eHi (eTmHi (eOf a) (eOf b) (eOf c) (eOf d))
def pLo (a c : Int) : Int := eLo (ePlus (eOf a) (eOf c))
def pHi (b d : Int) : Int := eHi (ePlus (eOf b) (eOf d))
theorem mulX {a b c d x y : Int} (s : Pin2 a b x) (t : Pin2 c d y) : Hid (∀ W, Hold4 W -> Calls Tryz.prog 45 #[.agg #[.int .i64 a, .int .i64 b], .agg #[.int .i64 c, .int .i64 d]] W fun e w' => e = .returned (.tuple #[.agg #[.int .i64 (tLo a b c d), .int .i64 (tHi a b c d)], .int .i64 0]) ∧ Below W.heap.size W w') ∧ Okk (tLo a b c d) (tHi a b c d) (mulS x y) := by
  refine ⟨fun W h => ?_, (s.h.times (eOf_ok _) (eOf_ok _) (eOf_ok _) (eOf_ok _) t.h).okk⟩
  have := spanMulE s.lo.1 s.hi.1 t.lo.1 t.hi.1 W h
  rw [s.v, t.v] at this
  exact this
theorem addX {a b c d x y : Int} (s : Pin2 a b x) (t : Pin2 c d y) : Hid (∀ W, Hold4 W -> Calls Tryz.prog 43 #[.agg #[.int .i64 a, .int .i64 b], .agg #[.int .i64 c, .int .i64 d]] W fun e w' => e = .returned (.tuple #[.agg #[.int .i64 (pLo a c), .int .i64 (pHi b d)], .int .i64 0]) ∧ Below W.heap.size W w') ∧ Okk (pLo a c) (pHi b d) (x + y) := by
  refine ⟨fun W h => ?_, (s.h.plus t.h).okk⟩
  have := spanAddE s.lo.1 s.hi.1 t.lo.1 t.hi.1 W h
  rw [s.v, t.v] at this
  exact this
def qLo (a b c : Int) : Int := tLo (gLo a b) (gHi a b) (gLo c b) (gHi c b)
def qHi (a b c : Int) : Int := tHi (gLo a b) (gHi a b) (gLo c b) (gHi c b)
def dLo (ax ay bx by' cx cy : Int) : Int := pLo (qLo ax bx cx) (qLo ay by' cy)
def dHi (ax ay bx by' cx cy : Int) : Int := pHi (qHi ax bx cx) (qHi ay by' cy)
theorem q_okk {a b c : Int} (ra : rng a) (rb : rng b) (rc : rng c) (pa : pok a = true) (pb : pok b = true) (pc : pok c = true) : Okk (qLo a b c) (qHi a b c) (mulS (patV a - patV b) (patV c - patV b)) :=
  (mulX (okk_pin (gap_okk ra rb pa pb)) (okk_pin (gap_okk rc rb pc pb))).2
theorem d_okk {ax ay bx by' cx cy : Int} (rax : rng ax) (ray : rng ay) (rbx : rng bx) (rby : rng by') (rcx : rng cx) (rcy : rng cy) (pax : pok ax = true) (pay : pok ay = true) (pbx : pok bx = true) (pby : pok by' = true) (pcx : pok cx = true) (pcy : pok cy = true) : Okk (dLo ax ay bx by' cx cy) (dHi ax ay bx by' cx cy) (mulS (patV ax - patV bx) (patV cx - patV bx) + mulS (patV ay - patV by') (patV cy - patV by')) :=
  (addX (okk_pin (q_okk rax rbx rcx pax pbx pcx)) (okk_pin (q_okk ray rby rcy pay pby pcy))).2
set_option maxRecDepth 100000 in
set_option maxHeartbeats 8000000 in
theorem mdotS_any {ax ay bx by' cx cy : Int} (rax : rng ax) (ray : rng ay) (rbx : rng bx) (rby : rng by') (rcx : rng cx) (rcy : rng cy) (pax : pok ax = true) (pay : pok ay = true) (pbx : pok bx = true) (pby : pok by' = true) (pcx : pok cx = true) (pcy : pok cy = true) (w : World) (H : Hold4 w) :
    Calls Tryz.prog 32 #[.agg #[.func (.func 42) #[] #[], .func (.func 43) #[] #[], .func (.func 44) #[] #[], .func (.func 45) #[] #[]], .agg #[.int .i64 ax, .int .i64 ay], .agg #[.int .i64 bx, .int .i64 by'], .agg #[.int .i64 cx, .int .i64 cy]] w fun r w' => r = .returned (.agg #[.int .i64 (dLo ax ay bx by' cx cy), .int .i64 (dHi ax ay bx by' cx cy)]) ∧ Below w.heap.size w w' := by
  have A1 : Hid (∀ W, Hold4 W -> Calls Tryz.prog 42 #[.int .i64 ax, .int .i64 bx] W fun r w' => r = .returned (.agg #[.int .i64 (gLo ax bx), .int .i64 (gHi ax bx)]) ∧ Below W.heap.size W w') := fun W h => apartSpan rax rbx pax pbx W h
  have A2 : Hid (∀ W, Hold4 W -> Calls Tryz.prog 42 #[.int .i64 cx, .int .i64 bx] W fun r w' => r = .returned (.agg #[.int .i64 (gLo cx bx), .int .i64 (gHi cx bx)]) ∧ Below W.heap.size W w') := fun W h => apartSpan rcx rbx pcx pbx W h
  have A3 : Hid (∀ W, Hold4 W -> Calls Tryz.prog 42 #[.int .i64 ay, .int .i64 by'] W fun r w' => r = .returned (.agg #[.int .i64 (gLo ay by'), .int .i64 (gHi ay by')]) ∧ Below W.heap.size W w') := fun W h => apartSpan ray rby pay pby W h
  have A4 : Hid (∀ W, Hold4 W -> Calls Tryz.prog 42 #[.int .i64 cy, .int .i64 by'] W fun r w' => r = .returned (.agg #[.int .i64 (gLo cy by'), .int .i64 (gHi cy by')]) ∧ Below W.heap.size W w') := fun W h => apartSpan rcy rby pcy pby W h
  have M1 := (mulX (okk_pin (gap_okk rax rbx pax pbx)) (okk_pin (gap_okk rcx rbx pcx pbx))).1
  have M2 := (mulX (okk_pin (gap_okk ray rby pay pby)) (okk_pin (gap_okk rcy rby pcy pby))).1
  have S1 := (addX (okk_pin (q_okk rax rbx rcx pax pbx pcx)) (okk_pin (q_okk ray rby rcy pay pby pcy))).1
  clear rax ray rbx rby rcx rcy pax pay pbx pby pcx pcy
  unfold dLo dHi
  unfold qLo qHi at *
  generalize pLo (tLo (gLo ax bx) (gHi ax bx) (gLo cx bx) (gHi cx bx)) (tLo (gLo ay by') (gHi ay by') (gLo cy by') (gHi cy by')) = lo at *
  generalize pHi (tHi (gLo ax bx) (gHi ax bx) (gLo cx bx) (gHi cx bx)) (tHi (gLo ay by') (gHi ay by') (gLo cy by') (gHi cy by')) = hi at *
  generalize tLo (gLo ax bx) (gHi ax bx) (gLo cx bx) (gHi cx bx) = l0 at *
  generalize tHi (gLo ax bx) (gHi ax bx) (gLo cx bx) (gHi cx bx) = l1 at *
  generalize tLo (gLo ay by') (gHi ay by') (gLo cy by') (gHi cy by') = s0 at *
  generalize tHi (gLo ay by') (gHi ay by') (gLo cy by') (gHi cy by') = s1 at *
  generalize gLo ax bx = a1 at *
  generalize gHi ax bx = b1 at *
  generalize gLo cx bx = a2 at *
  generalize gHi cx bx = b2 at *
  generalize gLo ay by' = a3 at *
  generalize gHi ay by' = b3 at *
  generalize gLo cy by' = a4 at *
  generalize gHi cy by' = b4 at *
  have k_k : (w.alloc (.cells #[.func (.func 42) #[] #[], .func (.func 43) #[] #[], .func (.func 44) #[] #[], .func (.func 45) #[] #[]] 59)).heap[w.heap.size]? = some (.cells #[.func (.func 42) #[] #[], .func (.func 43) #[] #[], .func (.func 44) #[] #[], .func (.func 45) #[] #[]] 59) := heap_new (.cells #[.func (.func 42) #[] #[], .func (.func 43) #[] #[], .func (.func 44) #[] #[], .func (.func 45) #[] #[]] 59) (by rfl)
  have hb0 := bel_alloc w (.cells #[.func (.func 42) #[] #[], .func (.func 43) #[] #[], .func (.func 44) #[] #[], .func (.func 45) #[] #[]] 59)
  replace k_k := heap_past (.cells #[.int .i64 ax, .int .i64 ay] 23) k_k
  have a_k : ((w.alloc (.cells #[.func (.func 42) #[] #[], .func (.func 43) #[] #[], .func (.func 44) #[] #[], .func (.func 45) #[] #[]] 59)).alloc (.cells #[.int .i64 ax, .int .i64 ay] 23)).heap[w.heap.size + 1]? = some (.cells #[.int .i64 ax, .int .i64 ay] 23) := heap_new (.cells #[.int .i64 ax, .int .i64 ay] 23) (by simp only [size_alloc])
  replace hb0 := bel_trans hb0 (bel_alloc (w.alloc (.cells #[.func (.func 42) #[] #[], .func (.func 43) #[] #[], .func (.func 44) #[] #[], .func (.func 45) #[] #[]] 59)) (.cells #[.int .i64 ax, .int .i64 ay] 23))
  replace k_k := heap_past (.cells #[.int .i64 bx, .int .i64 by'] 23) k_k
  replace a_k := heap_past (.cells #[.int .i64 bx, .int .i64 by'] 23) a_k
  have b_k : (((w.alloc (.cells #[.func (.func 42) #[] #[], .func (.func 43) #[] #[], .func (.func 44) #[] #[], .func (.func 45) #[] #[]] 59)).alloc (.cells #[.int .i64 ax, .int .i64 ay] 23)).alloc (.cells #[.int .i64 bx, .int .i64 by'] 23)).heap[w.heap.size + 1 + 1]? = some (.cells #[.int .i64 bx, .int .i64 by'] 23) := heap_new (.cells #[.int .i64 bx, .int .i64 by'] 23) (by simp only [size_alloc])
  replace hb0 := bel_trans hb0 (bel_alloc ((w.alloc (.cells #[.func (.func 42) #[] #[], .func (.func 43) #[] #[], .func (.func 44) #[] #[], .func (.func 45) #[] #[]] 59)).alloc (.cells #[.int .i64 ax, .int .i64 ay] 23)) (.cells #[.int .i64 bx, .int .i64 by'] 23))
  replace k_k := heap_past (.cells #[.int .i64 cx, .int .i64 cy] 23) k_k
  replace a_k := heap_past (.cells #[.int .i64 cx, .int .i64 cy] 23) a_k
  replace b_k := heap_past (.cells #[.int .i64 cx, .int .i64 cy] 23) b_k
  have c_k : ((((w.alloc (.cells #[.func (.func 42) #[] #[], .func (.func 43) #[] #[], .func (.func 44) #[] #[], .func (.func 45) #[] #[]] 59)).alloc (.cells #[.int .i64 ax, .int .i64 ay] 23)).alloc (.cells #[.int .i64 bx, .int .i64 by'] 23)).alloc (.cells #[.int .i64 cx, .int .i64 cy] 23)).heap[w.heap.size + 1 + 1 + 1]? = some (.cells #[.int .i64 cx, .int .i64 cy] 23) := heap_new (.cells #[.int .i64 cx, .int .i64 cy] 23) (by simp only [size_alloc])
  replace hb0 := bel_trans hb0 (bel_alloc (((w.alloc (.cells #[.func (.func 42) #[] #[], .func (.func 43) #[] #[], .func (.func 44) #[] #[], .func (.func 45) #[] #[]] 59)).alloc (.cells #[.int .i64 ax, .int .i64 ay] 23)).alloc (.cells #[.int .i64 bx, .int .i64 by'] 23)) (.cells #[.int .i64 cx, .int .i64 cy] 23))
  replace k_k := heap_past (.cells #[.int .i64 0, .int .i64 0] 55) k_k
  replace a_k := heap_past (.cells #[.int .i64 0, .int .i64 0] 55) a_k
  replace b_k := heap_past (.cells #[.int .i64 0, .int .i64 0] 55) b_k
  replace c_k := heap_past (.cells #[.int .i64 0, .int .i64 0] 55) c_k
  have r_k : (((((w.alloc (.cells #[.func (.func 42) #[] #[], .func (.func 43) #[] #[], .func (.func 44) #[] #[], .func (.func 45) #[] #[]] 59)).alloc (.cells #[.int .i64 ax, .int .i64 ay] 23)).alloc (.cells #[.int .i64 bx, .int .i64 by'] 23)).alloc (.cells #[.int .i64 cx, .int .i64 cy] 23)).alloc (.cells #[.int .i64 0, .int .i64 0] 55)).heap[w.heap.size + 1 + 1 + 1 + 1]? = some (.cells #[.int .i64 0, .int .i64 0] 55) := heap_new (.cells #[.int .i64 0, .int .i64 0] 55) (by simp only [size_alloc])
  replace hb0 := bel_trans hb0 (bel_alloc ((((w.alloc (.cells #[.func (.func 42) #[] #[], .func (.func 43) #[] #[], .func (.func 44) #[] #[], .func (.func 45) #[] #[]] 59)).alloc (.cells #[.int .i64 ax, .int .i64 ay] 23)).alloc (.cells #[.int .i64 bx, .int .i64 by'] 23)).alloc (.cells #[.int .i64 cx, .int .i64 cy] 23)) (.cells #[.int .i64 0, .int .i64 0] 55))
  go_enter Tryz.func32, Tryz.ntmps32
  go_wp2_with fail
  rename_i Q0 K00 hK00
  generalize (((((w.alloc (.cells #[.func (.func 42) #[] #[], .func (.func 43) #[] #[], .func (.func 44) #[] #[], .func (.func 45) #[] #[]] 59)).alloc (.cells #[.int .i64 ax, .int .i64 ay] 23)).alloc (.cells #[.int .i64 bx, .int .i64 by'] 23)).alloc (.cells #[.int .i64 cx, .int .i64 cy] 23)).alloc (.cells #[.int .i64 0, .int .i64 0] 55)) = x0 at hb0 k_k a_k b_k c_k r_k ⊢
  have H := H.keeps hb0
  have hK1 := hK00
  have HN1 : ∀ (g : Nat) (x1 : World) (t : Array Value), #[t.getD 0 undef, t.getD 1 undef, t.getD 2 undef, t.getD 3 undef, .pointer (some ⟨w.heap.size, 0, none⟩), .pointer (some ⟨w.heap.size + 1, 0, none⟩), .pointer (some ⟨w.heap.size + 1 + 1, 0, none⟩), .pointer (some ⟨w.heap.size + 1 + 1 + 1, 0, none⟩), .pointer (some ⟨w.heap.size + 1 + 1 + 1 + 1, 0, none⟩), .pointer (some ⟨g, 0, none⟩), t.getD 10 undef, t.getD 11 undef, t.getD 12 undef, t.getD 13 undef, t.getD 14 undef, t.getD 15 undef, t.getD 16 undef, t.getD 17 undef, t.getD 18 undef, t.getD 19 undef, t.getD 20 undef, t.getD 21 undef, t.getD 22 undef, t.getD 23 undef, t.getD 24 undef, t.getD 25 undef, t.getD 26 undef, t.getD 27 undef, t.getD 28 undef, t.getD 29 undef, t.getD 30 undef, t.getD 31 undef, t.getD 32 undef, t.getD 33 undef, t.getD 34 undef, t.getD 35 undef, t.getD 36 undef, t.getD 37 undef, t.getD 38 undef, t.getD 39 undef, t.getD 40 undef, t.getD 41 undef, t.getD 42 undef, t.getD 43 undef, t.getD 44 undef, t.getD 45 undef, t.getD 46 undef, t.getD 47 undef, t.getD 48 undef, t.getD 49 undef, t.getD 50 undef, t.getD 51 undef, t.getD 52 undef, t.getD 53 undef, t.getD 54 undef, t.getD 55 undef, t.getD 56 undef, t.getD 57 undef, t.getD 58 undef] = t -> x0.heap.size <= g -> x1.heap[g]? = some (.cells #[.int .i64 l0, .int .i64 l1] 55 (0, 0)) -> Below x0.heap.size x0 x1 -> Exit.then K00 Q0 Exit.normal { tmps := t, defers := [] } x1 := by
    intro g_l x1 t ht l_ge l_k hw1
    obtain ⟨u1, hu⟩ : ∃ u : Nat -> Value, t = #[u 0, u 1, u 2, u 3, .pointer (some ⟨w.heap.size, 0, none⟩), .pointer (some ⟨w.heap.size + 1, 0, none⟩), .pointer (some ⟨w.heap.size + 1 + 1, 0, none⟩), .pointer (some ⟨w.heap.size + 1 + 1 + 1, 0, none⟩), .pointer (some ⟨w.heap.size + 1 + 1 + 1 + 1, 0, none⟩), .pointer (some ⟨g_l, 0, none⟩), u 10, u 11, u 12, u 13, u 14, u 15, u 16, u 17, u 18, u 19, u 20, u 21, u 22, u 23, u 24, u 25, u 26, u 27, u 28, u 29, u 30, u 31, u 32, u 33, u 34, u 35, u 36, u 37, u 38, u 39, u 40, u 41, u 42, u 43, u 44, u 45, u 46, u 47, u 48, u 49, u 50, u 51, u 52, u 53, u 54, u 55, u 56, u 57, u 58] := ⟨fun k => t.getD k undef, ht.symm⟩
    clear ht
    subst hu
    have H := H.keeps hw1
    have k_k := (hw1.block _ (Array.getElem?_eq_some_iff.1 k_k).1).trans k_k
    have a_k := (hw1.block _ (Array.getElem?_eq_some_iff.1 a_k).1).trans a_k
    have b_k := (hw1.block _ (Array.getElem?_eq_some_iff.1 b_k).1).trans b_k
    have c_k := (hw1.block _ (Array.getElem?_eq_some_iff.1 c_k).1).trans c_k
    have r_k := (hw1.block _ (Array.getElem?_eq_some_iff.1 r_k).1).trans r_k
    have hb1 := bel_trans hb0 hw1
    go_wp2_with fail
    rename_i K2 hK2
    have HN2 : ∀ (g : Nat) (x2 : World) (t : Array Value), #[t.getD 0 undef, t.getD 1 undef, t.getD 2 undef, t.getD 3 undef, .pointer (some ⟨w.heap.size, 0, none⟩), .pointer (some ⟨w.heap.size + 1, 0, none⟩), .pointer (some ⟨w.heap.size + 1 + 1, 0, none⟩), .pointer (some ⟨w.heap.size + 1 + 1 + 1, 0, none⟩), .pointer (some ⟨w.heap.size + 1 + 1 + 1 + 1, 0, none⟩), .pointer (some ⟨g_l, 0, none⟩), .pointer (some ⟨g, 0, none⟩), t.getD 11 undef, t.getD 12 undef, t.getD 13 undef, t.getD 14 undef, t.getD 15 undef, t.getD 16 undef, t.getD 17 undef, t.getD 18 undef, t.getD 19 undef, t.getD 20 undef, t.getD 21 undef, t.getD 22 undef, t.getD 23 undef, t.getD 24 undef, t.getD 25 undef, t.getD 26 undef, t.getD 27 undef, t.getD 28 undef, t.getD 29 undef, t.getD 30 undef, t.getD 31 undef, t.getD 32 undef, t.getD 33 undef, t.getD 34 undef, t.getD 35 undef, t.getD 36 undef, t.getD 37 undef, t.getD 38 undef, t.getD 39 undef, t.getD 40 undef, t.getD 41 undef, t.getD 42 undef, t.getD 43 undef, t.getD 44 undef, t.getD 45 undef, t.getD 46 undef, t.getD 47 undef, t.getD 48 undef, t.getD 49 undef, t.getD 50 undef, t.getD 51 undef, t.getD 52 undef, t.getD 53 undef, t.getD 54 undef, t.getD 55 undef, t.getD 56 undef, t.getD 57 undef, t.getD 58 undef] = t -> x1.heap.size <= g -> x2.heap[g]? = some (.cells #[.int .i64 s0, .int .i64 s1] 55 (0, 0)) -> Below x1.heap.size x1 x2 -> Exit.then K2 Q0 Exit.normal { tmps := t, defers := [] } x2 := by
      intro g_s x2 t ht s_ge s_k hw2
      obtain ⟨u2, hu⟩ : ∃ u : Nat -> Value, t = #[u 0, u 1, u 2, u 3, .pointer (some ⟨w.heap.size, 0, none⟩), .pointer (some ⟨w.heap.size + 1, 0, none⟩), .pointer (some ⟨w.heap.size + 1 + 1, 0, none⟩), .pointer (some ⟨w.heap.size + 1 + 1 + 1, 0, none⟩), .pointer (some ⟨w.heap.size + 1 + 1 + 1 + 1, 0, none⟩), .pointer (some ⟨g_l, 0, none⟩), .pointer (some ⟨g_s, 0, none⟩), u 11, u 12, u 13, u 14, u 15, u 16, u 17, u 18, u 19, u 20, u 21, u 22, u 23, u 24, u 25, u 26, u 27, u 28, u 29, u 30, u 31, u 32, u 33, u 34, u 35, u 36, u 37, u 38, u 39, u 40, u 41, u 42, u 43, u 44, u 45, u 46, u 47, u 48, u 49, u 50, u 51, u 52, u 53, u 54, u 55, u 56, u 57, u 58] := ⟨fun k => t.getD k undef, ht.symm⟩
      clear ht
      subst hu
      have H := H.keeps hw2
      have k_k := (hw2.block _ (Array.getElem?_eq_some_iff.1 k_k).1).trans k_k
      have a_k := (hw2.block _ (Array.getElem?_eq_some_iff.1 a_k).1).trans a_k
      have b_k := (hw2.block _ (Array.getElem?_eq_some_iff.1 b_k).1).trans b_k
      have c_k := (hw2.block _ (Array.getElem?_eq_some_iff.1 c_k).1).trans c_k
      have r_k := (hw2.block _ (Array.getElem?_eq_some_iff.1 r_k).1).trans r_k
      have l_k := (hw2.block _ (Array.getElem?_eq_some_iff.1 l_k).1).trans l_k
      have hb2 := bel_trans hb1 hw2
      have f_k1 := blkC k_k 1 rfl
      have f_l0 := blkC l_k 0 rfl
      have f_l1 := blkC l_k 1 rfl
      have f_s0 := blkC s_k 0 rfl
      have f_s1 := blkC s_k 1 rfl
      go_wp2_with fail
      clear f_k1 f_l0 f_l1 f_s0 f_s1
      refine (S1.out _ H).mono ?_
      rintro _ ye ⟨rfl, hwe⟩
      replace r_k := blk_on hwe r_k
      have hbe := bel_trans hb2 hwe
      go_wp2_with fail
      refine (msureS _ _ _ _).mono ?_
      rintro _ yf ⟨rfl, hwf⟩
      replace r_k := blk_on hwf r_k
      replace hbe := bel_trans hbe hwf
      have k0 := blkC r_k 0 rfl
      have k1 := blkC r_k 1 rfl
      have z0 := blkF r_k 0
      have z1 := blkF r_k 1
      go_wp2
      exact bodyPost_ret (v := .agg #[.int .i64 lo, .int .i64 hi]) (by simp [results, Tryz.results32, go_sem, k0, k1]) rfl ⟨rfl, ((hbe.setCell (p := ⟨w.heap.size + 4, 0, none⟩) (show w.heap.size <= w.heap.size + 4 by omega) _).setCell (p := ⟨w.heap.size + 4, 1, none⟩) (show w.heap.size <= w.heap.size + 4 by omega) _)⟩
    have KK2 : ∀ W, Below x1.heap.size x1 W -> W.cell? ⟨w.heap.size, 0, none⟩ = some (.func (.func 42) #[] #[]) ∧ W.cell? ⟨w.heap.size, 3, none⟩ = some (.func (.func 45) #[] #[]) ∧ W.cell? ⟨w.heap.size + 1, 1, none⟩ = some (.int .i64 ay) ∧ W.cell? ⟨w.heap.size + 2, 1, none⟩ = some (.int .i64 by') ∧ W.cell? ⟨w.heap.size + 3, 1, none⟩ = some (.int .i64 cy) := fun W hb => ⟨q_cell (blkC k_k 0 rfl) hb, q_cell (blkC k_k 3 rfl) hb, q_cell (blkC a_k 1 rfl) hb, q_cell (blkC b_k 1 rfl) hb, q_cell (blkC c_k 1 rfl) hb⟩
    have hC2_0 := (bel_refl x1).drew
    have hT2_0 : Below w.heap.size w x1.drew := hb1.drew
    have H_2_0 := H.keeps (bel_refl x1).drew
    have hs2_0 := (bel_refl x1).drew
    go_region_held3 (fun W => W.cell? ⟨w.heap.size, 0, none⟩ = some (.func (.func 42) #[] #[]) ∧ W.cell? ⟨w.heap.size, 3, none⟩ = some (.func (.func 45) #[] #[]) ∧ W.cell? ⟨w.heap.size + 1, 1, none⟩ = some (.int .i64 ay) ∧ W.cell? ⟨w.heap.size + 2, 1, none⟩ = some (.int .i64 by') ∧ W.cell? ⟨w.heap.size + 3, 1, none⟩ = some (.int .i64 cy))
      (with_reducible first | assumption | exact KK2 _ (bel_alloc _ _).drew | exact KK2 _ hC2_0 | exact KK2 _ hC2_1 | exact KK2 _ hC2_2 | exact KK2 _ hC2_3 | exact KK2 _ hC2_4 | exact KK2 _ (bel_trans hC2_0 (bel_alloc _ _)) | exact KK2 _ (bel_trans hC2_1 (bel_alloc _ _)) | exact KK2 _ (bel_trans hC2_2 (bel_alloc _ _)) | exact KK2 _ (bel_trans hC2_3 (bel_alloc _ _)) | exact KK2 _ (bel_trans hC2_4 (bel_alloc _ _)) | exact KK2 _ (bel_set2q (hC2_4) (Nat.le_refl _) _ _) | exact KK2 _ (bel_set2q (hC2_4) (hC2_1.size) _ _) | exact KK2 _ (bel_set2q (hC2_4) (hC2_2.size) _ _) | exact KK2 _ (bel_set2q (hC2_4) (hC2_3.size) _ _) | fail)
      (first
        | (go_at_call 46; have _t := hs2_3; refine (msureS _ _ _ _).mono ?_; rintro _ y2_4 ⟨rfl, hq2_4⟩; have hs2_4 : Below y2_3.heap.size y2_3 y2_4 := (by with_reducible first | exact hq2_4 | exact bel_trans (bel_alloc _ _) hq2_4 | exact bel_trans (bel_dr _ _) hq2_4); have hT2_4 := bel_trans hT2_3 hs2_4; have hC2_4 := bel_trans hC2_3 hs2_4; have H_2_4 := H_2_3.keeps hs2_4; with_reducible first | (have qz2 : y2_4.heap[x1.heap.size]? = some (.cells #[.int .i64 0, .int .i64 0] 55 (0, 0)) := blk_on hq2_4 (blk_on hq2_3 (blk_on hq2_2 (blk_on hq2_1 (heap_a1d x1 (.cells #[.int .i64 0, .int .i64 0] 55))))); have cz2_0 := blkC qz2 0 rfl; have zz2_0 := blkF qz2 0; have cz2_1 := blkC qz2 1 rfl; have zz2_1 := blkF qz2 1) | (have qz2 : y2_4.heap[y2_1.heap.size]? = some (.cells #[.int .i64 0, .int .i64 0] 55 (0, 0)) := blk_on hq2_4 (blk_on hq2_3 (blk_on hq2_2 (heap_a1 _ _))); have cz2_0 := blkC qz2 0 rfl; have zz2_0 := blkF qz2 0; have cz2_1 := blkC qz2 1 rfl; have zz2_1 := blkF qz2 1) | (have qz2 : y2_4.heap[y2_2.heap.size]? = some (.cells #[.int .i64 0, .int .i64 0] 55 (0, 0)) := blk_on hq2_4 (blk_on hq2_3 (heap_a1 _ _)); have cz2_0 := blkC qz2 0 rfl; have zz2_0 := blkF qz2 0; have cz2_1 := blkC qz2 1 rfl; have zz2_1 := blkF qz2 1) | (have qz2 : y2_4.heap[y2_3.heap.size]? = some (.cells #[.int .i64 0, .int .i64 0] 55 (0, 0)) := blk_on hq2_4 (heap_a1 _ _); have cz2_0 := blkC qz2 0 rfl; have zz2_0 := blkF qz2 0; have cz2_1 := blkC qz2 1 rfl; have zz2_1 := blkF qz2 1) | skip)
        | (go_at_call 45; have _t := hs2_2; refine (M2.out _ (H_2_2.keeps (by with_reducible first | exact bel_refl _ | exact bel_alloc _ _ | exact bel_dr _ _))).mono ?_; rintro _ y2_3 ⟨rfl, hq2_3⟩; have hs2_3 : Below y2_2.heap.size y2_2 y2_3 := (by with_reducible first | exact hq2_3 | exact bel_trans (bel_alloc _ _) hq2_3 | exact bel_trans (bel_dr _ _) hq2_3); have hT2_3 := bel_trans hT2_2 hs2_3; have hC2_3 := bel_trans hC2_2 hs2_3; have H_2_3 := H_2_2.keeps hs2_3)
        | (go_at_call 42; have _t := hs2_1; refine (A4.out _ (H_2_1.keeps (by with_reducible first | exact bel_refl _ | exact bel_alloc _ _ | exact bel_dr _ _))).mono ?_; rintro _ y2_2 ⟨rfl, hq2_2⟩; have hs2_2 : Below y2_1.heap.size y2_1 y2_2 := (by with_reducible first | exact hq2_2 | exact bel_trans (bel_alloc _ _) hq2_2 | exact bel_trans (bel_dr _ _) hq2_2); have hT2_2 := bel_trans hT2_1 hs2_2; have hC2_2 := bel_trans hC2_1 hs2_2; have H_2_2 := H_2_1.keeps hs2_2)
        | (go_at_call 42; refine (A3.out _ (H_2_0.keeps (by with_reducible first | exact bel_refl _ | exact bel_alloc _ _ | exact bel_dr _ _))).mono ?_; rintro _ y2_1 ⟨rfl, hq2_1⟩; have hs2_1 : Below x1.drew.heap.size x1.drew y2_1 := (by with_reducible first | exact hq2_1 | exact bel_trans (bel_alloc _ _) hq2_1 | exact bel_trans (bel_dr _ _) hq2_1); have hT2_1 := bel_trans hT2_0 hs2_1; have hC2_1 := bel_trans hC2_0 hs2_1; have H_2_1 := H_2_0.keeps hs2_1))
    . exact HN2 y2_4.heap.size _ _ (by kernel_rfl) ((bel_trans (bel_trans (bel_trans (bel_trans (hs2_0) hs2_1) hs2_2) hs2_3) hs2_4).size) (heap_a1 _ _) (bel_trans (bel_trans (bel_trans (bel_trans (bel_trans (hs2_0) hs2_1) hs2_2) hs2_3) hs2_4) (bel_alloc _ _))
    . exact HN2 y2_3.heap.size _ _ (by kernel_rfl) ((bel_trans (bel_trans (bel_trans (hs2_0) hs2_1) hs2_2) hs2_3).size) (heap_set (heap_set (blk_on hq2_4 (heap_a1 _ _)) 0 _) 1 _) (bel_set2q (bel_trans (bel_trans (bel_trans (bel_trans (hs2_0) hs2_1) hs2_2) hs2_3) hs2_4) ((bel_trans (bel_trans (bel_trans (hs2_0) hs2_1) hs2_2) hs2_3).size) _ _)
    . exact HN2 y2_2.heap.size _ _ (by kernel_rfl) ((bel_trans (bel_trans (hs2_0) hs2_1) hs2_2).size) (heap_set (heap_set (blk_on hq2_4 (blk_on hq2_3 (heap_a1 _ _))) 0 _) 1 _) (bel_set2q (bel_trans (bel_trans (bel_trans (bel_trans (hs2_0) hs2_1) hs2_2) hs2_3) hs2_4) ((bel_trans (bel_trans (hs2_0) hs2_1) hs2_2).size) _ _)
    . exact HN2 y2_1.heap.size _ _ (by kernel_rfl) ((bel_trans (hs2_0) hs2_1).size) (heap_set (heap_set (blk_on hq2_4 (blk_on hq2_3 (blk_on hq2_2 (heap_a1 _ _)))) 0 _) 1 _) (bel_set2q (bel_trans (bel_trans (bel_trans (bel_trans (hs2_0) hs2_1) hs2_2) hs2_3) hs2_4) ((bel_trans (hs2_0) hs2_1).size) _ _)
    . exact HN2 x1.heap.size _ _ (by kernel_rfl) (Nat.le_refl _) (heap_set (heap_set (blk_on hq2_4 (blk_on hq2_3 (blk_on hq2_2 (blk_on hq2_1 (heap_a1d x1 (.cells #[.int .i64 0, .int .i64 0] 55)))))) 0 _) 1 _) (bel_set2q (bel_trans (bel_trans (bel_trans (bel_trans (hs2_0) hs2_1) hs2_2) hs2_3) hs2_4) (Nat.le_refl _) _ _)
  have KK1 : ∀ W, Below x0.heap.size x0 W -> W.cell? ⟨w.heap.size, 0, none⟩ = some (.func (.func 42) #[] #[]) ∧ W.cell? ⟨w.heap.size, 3, none⟩ = some (.func (.func 45) #[] #[]) ∧ W.cell? ⟨w.heap.size + 1, 0, none⟩ = some (.int .i64 ax) ∧ W.cell? ⟨w.heap.size + 2, 0, none⟩ = some (.int .i64 bx) ∧ W.cell? ⟨w.heap.size + 3, 0, none⟩ = some (.int .i64 cx) := fun W hb => ⟨q_cell (blkC k_k 0 rfl) hb, q_cell (blkC k_k 3 rfl) hb, q_cell (blkC a_k 0 rfl) hb, q_cell (blkC b_k 0 rfl) hb, q_cell (blkC c_k 0 rfl) hb⟩
  have hC1_0 := (bel_refl x0).drew
  have hT1_0 : Below w.heap.size w x0.drew := hb0.drew
  have H_1_0 := H.keeps (bel_refl x0).drew
  have hs1_0 := (bel_refl x0).drew
  go_region_held3 (fun W => W.cell? ⟨w.heap.size, 0, none⟩ = some (.func (.func 42) #[] #[]) ∧ W.cell? ⟨w.heap.size, 3, none⟩ = some (.func (.func 45) #[] #[]) ∧ W.cell? ⟨w.heap.size + 1, 0, none⟩ = some (.int .i64 ax) ∧ W.cell? ⟨w.heap.size + 2, 0, none⟩ = some (.int .i64 bx) ∧ W.cell? ⟨w.heap.size + 3, 0, none⟩ = some (.int .i64 cx))
    (with_reducible first | assumption | exact KK1 _ (bel_alloc _ _).drew | exact KK1 _ hC1_0 | exact KK1 _ hC1_1 | exact KK1 _ hC1_2 | exact KK1 _ hC1_3 | exact KK1 _ hC1_4 | exact KK1 _ (bel_trans hC1_0 (bel_alloc _ _)) | exact KK1 _ (bel_trans hC1_1 (bel_alloc _ _)) | exact KK1 _ (bel_trans hC1_2 (bel_alloc _ _)) | exact KK1 _ (bel_trans hC1_3 (bel_alloc _ _)) | exact KK1 _ (bel_trans hC1_4 (bel_alloc _ _)) | exact KK1 _ (bel_set2q (hC1_4) (Nat.le_refl _) _ _) | exact KK1 _ (bel_set2q (hC1_4) (hC1_1.size) _ _) | exact KK1 _ (bel_set2q (hC1_4) (hC1_2.size) _ _) | exact KK1 _ (bel_set2q (hC1_4) (hC1_3.size) _ _) | fail)
    (first
      | (go_at_call 46; have _t := hs1_3; refine (msureS _ _ _ _).mono ?_; rintro _ y1_4 ⟨rfl, hq1_4⟩; have hs1_4 : Below y1_3.heap.size y1_3 y1_4 := (by with_reducible first | exact hq1_4 | exact bel_trans (bel_alloc _ _) hq1_4 | exact bel_trans (bel_dr _ _) hq1_4); have hT1_4 := bel_trans hT1_3 hs1_4; have hC1_4 := bel_trans hC1_3 hs1_4; have H_1_4 := H_1_3.keeps hs1_4; with_reducible first | (have qz1 : y1_4.heap[x0.heap.size]? = some (.cells #[.int .i64 0, .int .i64 0] 55 (0, 0)) := blk_on hq1_4 (blk_on hq1_3 (blk_on hq1_2 (blk_on hq1_1 (heap_a1d x0 (.cells #[.int .i64 0, .int .i64 0] 55))))); have cz1_0 := blkC qz1 0 rfl; have zz1_0 := blkF qz1 0; have cz1_1 := blkC qz1 1 rfl; have zz1_1 := blkF qz1 1) | (have qz1 : y1_4.heap[y1_1.heap.size]? = some (.cells #[.int .i64 0, .int .i64 0] 55 (0, 0)) := blk_on hq1_4 (blk_on hq1_3 (blk_on hq1_2 (heap_a1 _ _))); have cz1_0 := blkC qz1 0 rfl; have zz1_0 := blkF qz1 0; have cz1_1 := blkC qz1 1 rfl; have zz1_1 := blkF qz1 1) | (have qz1 : y1_4.heap[y1_2.heap.size]? = some (.cells #[.int .i64 0, .int .i64 0] 55 (0, 0)) := blk_on hq1_4 (blk_on hq1_3 (heap_a1 _ _)); have cz1_0 := blkC qz1 0 rfl; have zz1_0 := blkF qz1 0; have cz1_1 := blkC qz1 1 rfl; have zz1_1 := blkF qz1 1) | (have qz1 : y1_4.heap[y1_3.heap.size]? = some (.cells #[.int .i64 0, .int .i64 0] 55 (0, 0)) := blk_on hq1_4 (heap_a1 _ _); have cz1_0 := blkC qz1 0 rfl; have zz1_0 := blkF qz1 0; have cz1_1 := blkC qz1 1 rfl; have zz1_1 := blkF qz1 1) | skip)
      | (go_at_call 45; have _t := hs1_2; refine (M1.out _ (H_1_2.keeps (by with_reducible first | exact bel_refl _ | exact bel_alloc _ _ | exact bel_dr _ _))).mono ?_; rintro _ y1_3 ⟨rfl, hq1_3⟩; have hs1_3 : Below y1_2.heap.size y1_2 y1_3 := (by with_reducible first | exact hq1_3 | exact bel_trans (bel_alloc _ _) hq1_3 | exact bel_trans (bel_dr _ _) hq1_3); have hT1_3 := bel_trans hT1_2 hs1_3; have hC1_3 := bel_trans hC1_2 hs1_3; have H_1_3 := H_1_2.keeps hs1_3)
      | (go_at_call 42; have _t := hs1_1; refine (A2.out _ (H_1_1.keeps (by with_reducible first | exact bel_refl _ | exact bel_alloc _ _ | exact bel_dr _ _))).mono ?_; rintro _ y1_2 ⟨rfl, hq1_2⟩; have hs1_2 : Below y1_1.heap.size y1_1 y1_2 := (by with_reducible first | exact hq1_2 | exact bel_trans (bel_alloc _ _) hq1_2 | exact bel_trans (bel_dr _ _) hq1_2); have hT1_2 := bel_trans hT1_1 hs1_2; have hC1_2 := bel_trans hC1_1 hs1_2; have H_1_2 := H_1_1.keeps hs1_2)
      | (go_at_call 42; refine (A1.out _ (H_1_0.keeps (by with_reducible first | exact bel_refl _ | exact bel_alloc _ _ | exact bel_dr _ _))).mono ?_; rintro _ y1_1 ⟨rfl, hq1_1⟩; have hs1_1 : Below x0.drew.heap.size x0.drew y1_1 := (by with_reducible first | exact hq1_1 | exact bel_trans (bel_alloc _ _) hq1_1 | exact bel_trans (bel_dr _ _) hq1_1); have hT1_1 := bel_trans hT1_0 hs1_1; have hC1_1 := bel_trans hC1_0 hs1_1; have H_1_1 := H_1_0.keeps hs1_1))
  . exact HN1 y1_4.heap.size _ _ (by kernel_rfl) ((bel_trans (bel_trans (bel_trans (bel_trans (hs1_0) hs1_1) hs1_2) hs1_3) hs1_4).size) (heap_a1 _ _) (bel_trans (bel_trans (bel_trans (bel_trans (bel_trans (hs1_0) hs1_1) hs1_2) hs1_3) hs1_4) (bel_alloc _ _))
  . exact HN1 y1_3.heap.size _ _ (by kernel_rfl) ((bel_trans (bel_trans (bel_trans (hs1_0) hs1_1) hs1_2) hs1_3).size) (heap_set (heap_set (blk_on hq1_4 (heap_a1 _ _)) 0 _) 1 _) (bel_set2q (bel_trans (bel_trans (bel_trans (bel_trans (hs1_0) hs1_1) hs1_2) hs1_3) hs1_4) ((bel_trans (bel_trans (bel_trans (hs1_0) hs1_1) hs1_2) hs1_3).size) _ _)
  . exact HN1 y1_2.heap.size _ _ (by kernel_rfl) ((bel_trans (bel_trans (hs1_0) hs1_1) hs1_2).size) (heap_set (heap_set (blk_on hq1_4 (blk_on hq1_3 (heap_a1 _ _))) 0 _) 1 _) (bel_set2q (bel_trans (bel_trans (bel_trans (bel_trans (hs1_0) hs1_1) hs1_2) hs1_3) hs1_4) ((bel_trans (bel_trans (hs1_0) hs1_1) hs1_2).size) _ _)
  . exact HN1 y1_1.heap.size _ _ (by kernel_rfl) ((bel_trans (hs1_0) hs1_1).size) (heap_set (heap_set (blk_on hq1_4 (blk_on hq1_3 (blk_on hq1_2 (heap_a1 _ _)))) 0 _) 1 _) (bel_set2q (bel_trans (bel_trans (bel_trans (bel_trans (hs1_0) hs1_1) hs1_2) hs1_3) hs1_4) ((bel_trans (hs1_0) hs1_1).size) _ _)
  . exact HN1 x0.heap.size _ _ (by kernel_rfl) (Nat.le_refl _) (heap_set (heap_set (blk_on hq1_4 (blk_on hq1_3 (blk_on hq1_2 (blk_on hq1_1 (heap_a1d x0 (.cells #[.int .i64 0, .int .i64 0] 55)))))) 0 _) 1 _) (bel_set2q (bel_trans (bel_trans (bel_trans (bel_trans (hs1_0) hs1_1) hs1_2) hs1_3) hs1_4) (Nat.le_refl _) _ _)
theorem Un.neg {S h : Int} (u : Un S h) : Un (-S) (-h) := by
  unfold Un at *
  have e : -h - -S = -(h - S) := by omega
  rw [e, Int.natAbs_neg, Int.natAbs_neg, Int.natAbs_neg]
  exact u
theorem m_k1 {Y V : Int} (h : 81129638414606681695789005144064 * Y <= 18014398509481985 * V) (v : 0 <= V) : 100 * (9007199254740992 * Y) <= 201 * V := by
  have h' : 9007199254740992 * (9007199254740992 * Y) <= 18014398509481985 * V := by
    have : 9007199254740992 * (9007199254740992 * Y) = 81129638414606681695789005144064 * Y := by rw [<- Int.mul_assoc]; rfl
    omega
  generalize 9007199254740992 * Y = a at *
  omega
theorem m_k2 {V W : Int} (h : 9007199254740992 * V <= 9007199254740993 * W) (w : 0 <= W) : 100 * V <= 101 * W := by omega
theorem m_k3 {Z D : Int} (h : Un Z D) : 100 * (D.natAbs : Int) <= 101 * (Z.natAbs : Int) := by
  have := h.1
  omega
theorem m_k4 {T M : Int} (h : Un T M) (t : 0 <= T) : 99 * T <= 100 * M := by
  have := h.1
  omega
theorem m_k5 {Y Y1 Y2 V W S T M d z : Int} (y : Y <= Y1 + Y2) (y1 : 100 * (9007199254740992 * Y1) <= 201 * V) (y2 : 9007199254740992 * Y2 <= W) (vw : 100 * V <= 101 * W) (ws : 100 * W <= 101 * S) (s : 0 < S) (dz : 100 * d <= 101 * z) (md : M <= d) (tm : 99 * T <= 100 * M) (ts : 9007199254740992 * T = 16 * S) : Y < z := by
  have a1 : 9007199254740992 * Y <= 9007199254740992 * Y1 + 9007199254740992 * Y2 := by omega
  have a2 : 100 * (9007199254740992 * d) <= 101 * (9007199254740992 * z) := by omega
  have a3 : 9007199254740992 * M <= 9007199254740992 * d := by omega
  have a4 : 99 * (9007199254740992 * T) <= 100 * (9007199254740992 * M) := by omega
  have a5 : 9007199254740992 * Y < 9007199254740992 * z := by
    generalize 9007199254740992 * Y = e1 at *
    generalize 9007199254740992 * Y1 = e2 at *
    generalize 9007199254740992 * Y2 = e3 at *
    generalize 9007199254740992 * d = e4 at *
    generalize 9007199254740992 * z = e5 at *
    generalize 9007199254740992 * M = e6 at *
    generalize 9007199254740992 * T = e7 at *
    omega
  omega
theorem dot_flt {x1 y1 x2 y2 u1 v1 u2 v2 L R S D T M : Int} (h1 : Un x1 u1) (h2 : Un x2 u2) (h3 : Un y1 v1) (h4 : Un y2 v2) (hL : Un (u1 * u2) L) (hR : Un (v1 * v2) R) (hS : Un ((L.natAbs : Int) + (R.natAbs : Int)) S) (hD : Un (L + R) D)
    (hT : 9007199254740992 * T = 16 * S) (hM : Un T M) (h : M <= (D.natAbs : Int)) : (0 < x1 * x2 + y1 * y2 ↔ 0 < D) ∧ (x1 * x2 + y1 * y2 < 0 ↔ D < 0) := by
  have e1 : -v1 * v2 = -(v1 * v2) := Int.neg_mul _ _
  have e2 : -y1 * y2 = -(y1 * y2) := Int.neg_mul _ _
  have hR' : Un (-v1 * v2) (-R) := by rw [e1]; exact hR.neg
  have hS' : Un ((L.natAbs : Int) + ((-R).natAbs : Int)) S := by rw [Int.natAbs_neg]; exact hS
  obtain ⟨a0, s0, s1, hX⟩ := dev_heads h1 h2 h3.neg h4 hL hR' hS'
  have hD' : Un (L - -R) D := by rw [Int.sub_neg]; exact hD
  have eX : x1 * x2 + y1 * y2 = x1 * x2 - -y1 * y2 := by rw [e2, Int.sub_neg]
  rw [eX]
  generalize -v1 * v2 = B at *
  generalize u1 * u2 = A at *
  generalize x1 * x2 - -y1 * y2 = X at *
  generalize -R = R' at *
  rcases Int.lt_or_eq_of_le s1 with c | c
  . have v0 : (0 : Int) <= (A.natAbs : Int) + (B.natAbs : Int) := by omega
    have w0 : (0 : Int) <= (L.natAbs : Int) + (R'.natAbs : Int) := by omega
    have t0 : 0 <= T := by omega
    exact k_sg hD' (m_k5 k_tri (m_k1 hX v0) (k_two hL hR') (m_k2 a0 w0) (m_k2 s0 s1) c (m_k3 hD') h (m_k4 hM t0) hT)
  . obtain ⟨l, r, _, _, x⟩ := k_nil hL hR' (by rw [c]; exact s0) hX
    rw [l, r] at hD'
    exact k_nil2 x hD'
def m49 : Int := 4386506037058863104
theorem rng_m49 : rng m49 := by unfold rng m49; omega
theorem iV_m49 : iV m49 = 1125899906842624 * 2 ^ 975 := iV_posO (n := 973) rng_m49 (by decide) (by decide) (by decide) (by decide) (by decide)
theorem fx_m49 : Fx 972 1026 m49 := by
  refine ⟨rng_m49, by decide, ?_, ?_⟩
  . rw [iV_m49]
    exact Int.dvd_trans (p2dvd (show 972 <= 975 by decide)) ⟨1125899906842624, by rw [Int.mul_comm]⟩
  . rw [iV_m49, Int.natAbs_mul, Int.natCast_mul]
    have e : (((2 : Int) ^ 975).natAbs : Int) = 2 ^ 975 := by have := p2 975; omega
    rw [e, show (2 : Int) ^ 1026 = 2 ^ 51 * 2 ^ 975 by rw [<- Int.pow_add]]
    exact Int.mul_le_mul_of_nonneg_right (by decide) (Int.le_of_lt (p2 975))
theorem ang_sign {ax ay bx by' cx cy : Int} (hax : Mz ax) (hay : Mz ay) (hbx : Mz bx) (hby : Mz by') (hcx : Mz cx) (hcy : Mz cy) {P Q S D : Int} (eP : P = aP ax bx cx) (eQ : Q = aP ay by' cy) (eS : S = fsum (rg P) (rg Q)) (eD : D = fsum P Q) :
    (Fx 670 1381 S ∧ Fx 670 1381 D ∧ Fx 568 1334 (fprod m49 S)) ∧ (iV (fprod m49 S) <= ((iV D).natAbs : Int) ->
    (0 < (iV ax - iV bx) * (iV cx - iV bx) + (iV ay - iV by') * (iV cy - iV by') ↔ 0 < iV D) ∧ ((iV ax - iV bx) * (iV cx - iV bx) + (iV ay - iV by') * (iV cy - iV by') < 0 ↔ iV D < 0)) := by
  obtain ⟨f1, n1⟩ := hax.diff hbx
  obtain ⟨f2, n2⟩ := hcx.diff hbx
  obtain ⟨f3, n3⟩ := hay.diff hby
  obtain ⟨f4, n4⟩ := hcy.diff hby
  obtain ⟨l, lu, _⟩ := f1.prod f2 (by decide) (by decide) (by decide)
  obtain ⟨r, ru, _⟩ := f3.prod f4 (by decide) (by decide) (by decide)
  rw [show fprod (fsum ax (neg bx)) (fsum cx (neg bx)) = P from eP.symm] at l lu
  rw [show fprod (fsum ay (neg by')) (fsum cy (neg by')) = Q from eQ.symm] at r ru
  obtain ⟨la, le⟩ := l.abs
  obtain ⟨ra, re⟩ := r.abs
  obtain ⟨s, su⟩ := la.sum ra (by decide)
  obtain ⟨d, du⟩ := l.sum r (by decide)
  rw [le, re] at su
  rw [<- eS] at s su
  rw [<- eD] at d du
  obtain ⟨m, _, T, hT, uT⟩ := fx_m49.prod s (by decide) (by decide) (by decide)
  refine ⟨⟨s, d, m⟩, fun h => ?_⟩
  have q := p2 1074
  have q0 := Int.le_of_lt q
  have su' := su.scale q0
  rw [Int.mul_add, <- sc_abs q0, <- sc_abs q0] at su'
  have du' := du.scale q0
  rw [Int.mul_add] at du'
  have hT' : 9007199254740992 * (2 ^ 1074 * T) = 16 * (2 ^ 1074 * iV S) := by
    rw [hT, iV_m49, show (2 : Int) ^ 1074 = 2 ^ 99 * 2 ^ 975 by rw [<- Int.pow_add], show (2 : Int) ^ 99 = 633825300114114700748351602688 by decide]
    generalize (2 : Int) ^ 975 = z
    generalize iV S = x
    rw [Int.mul_assoc, Int.mul_assoc]
    generalize z * x = y
    omega
  have hM : 2 ^ 1074 * iV (fprod m49 S) <= ((2 ^ 1074 * iV D).natAbs : Int) := by
    rw [sc_abs q0]
    exact Int.mul_le_mul_of_nonneg_left h q0
  obtain ⟨r1, r2⟩ := dot_flt n1 n2 n3 n4 lu ru su' du' hT' (uT.scale q0) hM
  rw [r1, r2]
  exact sc_sgn q
def anD (ax ay bx by' cx cy : Int) : Int := fsum (aP ax bx cx) (aP ay by' cy)
def anS (ax ay bx by' cx cy : Int) : Int := fsum (rg (aP ax bx cx)) (rg (aP ay by' cy))
set_option maxRecDepth 100000 in
set_option maxHeartbeats 1000000 in
theorem mAng1 {ax ay bx by' cx cy : Int} {ga gb gc : Nat} (hax : Mz ax) (hay : Mz ay) (hbx : Mz bx) (hby : Mz by') (hcx : Mz cx) (hcy : Mz cy) (w : World) (a_k : w.heap[ga]? = some (.cells #[.int .i64 ax, .int .i64 ay] 23)) (b_k : w.heap[gb]? = some (.cells #[.int .i64 bx, .int .i64 by'] 23)) (c_k : w.heap[gc]? = some (.cells #[.int .i64 cx, .int .i64 cy] 23)) :
    Calls Tryz.prog 26 #[.pointer (some ⟨ga, 0, none⟩), .pointer (some ⟨gb, 0, none⟩), .pointer (some ⟨gc, 0, none⟩)] w fun r w' => r = .returned (.tuple #[.float .f64 (wd (anD ax ay bx by' cx cy)), .float .f64 (wd (anS ax ay bx by' cx cy))]) ∧ Below w.heap.size w w' := by
  obtain ⟨⟨fS, fD, _⟩, _⟩ := ang_sign hax hay hbx hby hcx hcy rfl rfl rfl rfl
  have fP := aP_fx hax hbx hcx
  have fQ := aP_fx hay hby hcy
  have hd := fun W => run_sumN (P := Tryz.prog) 44 (fx_fw fP) (fx_fw fQ) (q_fin fD.p) W
  have hs := fun W => run_sumN (P := Tryz.prog) 44 (fx_fw fP.abs.1) (fx_fw fQ.abs.1) (q_fin fS.p) W
  have CP : Hid (∀ W, Calls Tryz.prog 27 #[.agg #[.int .i64 ax, .int .i64 ay], .agg #[.int .i64 bx, .int .i64 by'], .agg #[.int .i64 cx, .int .i64 cy]] W fun r w' => r = .returned (.tuple #[.float .f64 (wd (aP ax bx cx)), .float .f64 (wd (aP ay by' cy))]) ∧ Below W.heap.size W w') := fun W => mProds hax hay hbx hby hcx hcy W
  have C1 : Hid (∀ W, Calls Tryz.prog 28 #[.float .f64 (wd (aP ax bx cx))] W fun e w' => e = .returned (.float .f64 (wd (rg (aP ax bx cx)))) ∧ w' = W) := fun W => mathAbs fP.r W
  have C2 : Hid (∀ W, Calls Tryz.prog 28 #[.float .f64 (wd (aP ay by' cy))] W fun e w' => e = .returned (.float .f64 (wd (rg (aP ay by' cy)))) ∧ w' = W) := fun W => mathAbs fQ.r W
  clear hax hay hbx hby hcx hcy fS fD fP fQ
  unfold anD anS
  generalize wd (fsum (aP ax bx cx) (aP ay by' cy)) = Wd at *
  generalize wd (fsum (rg (aP ax bx cx)) (rg (aP ay by' cy))) = Ws at *
  generalize wd (rg (aP ax bx cx)) = Wa at *
  generalize wd (rg (aP ay by' cy)) = Wb at *
  generalize wd (aP ax bx cx) = Wp at *
  generalize wd (aP ay by' cy) = Wq at *
  have f_a0 := blkC a_k 0 rfl
  have f_a1 := blkC a_k 1 rfl
  have f_b0 := blkC b_k 0 rfl
  have f_b1 := blkC b_k 1 rfl
  have f_c0 := blkC c_k 0 rfl
  have f_c1 := blkC c_k 1 rfl
  clear a_k b_k c_k
  go_enter Tryz.func26, Tryz.ntmps26
  go_wp2_with fail
  refine (CP.out _).mono ?_
  rintro _ y1 ⟨rfl, hw1⟩
  go_wp2_with fail
  refine (C1.out _).mono ?_
  rintro _ wz ⟨rfl, hwz⟩
  replace hwz := hwz.symm
  subst hwz
  go_wp2_with fail
  refine (C2.out _).mono ?_
  rintro _ wz ⟨rfl, hwz⟩
  replace hwz := hwz.symm
  subst hwz
  go_wp2
  exact bodyPost_ret (v := .tuple #[.float .f64 Wd, .float .f64 Ws]) (by simp [results, Tryz.results26, go_sem]) rfl ⟨rfl, hw1⟩
theorem cellS2 {W : World} {p : Addr} {v : Value} {o : Nat} (h : W.cell? p = some v) (hp : p.block ≠ o) (x y : Value) : ((W.setCell ⟨o, 0, none⟩ x).setCell ⟨o, 1, none⟩ y).cell? p = some v :=
  (((Wr.refl o W).setCell 0 x |>.setCell 1 y).cell (World.block_lt_of_cell? W _ h) hp).trans h
set_option maxRecDepth 100000 in
set_option maxHeartbeats 2000000 in
theorem mAngle2 {ax ay bx by' cx cy : Int} {ga gb gc : Nat} (hax : Mz ax) (hay : Mz ay) (hbx : Mz bx) (hby : Mz by') (hcx : Mz cx) (hcy : Mz cy) (w : World) (H : Hold4 w) (a_k : w.heap[ga]? = some (.cells #[.int .i64 ax, .int .i64 ay] 23)) (b_k : w.heap[gb]? = some (.cells #[.int .i64 bx, .int .i64 by'] 23)) (c_k : w.heap[gc]? = some (.cells #[.int .i64 cx, .int .i64 cy] 23)) :
    Calls Tryz.prog 29 #[.pointer (some ⟨ga, 0, none⟩), .pointer (some ⟨gb, 0, none⟩), .pointer (some ⟨gc, 0, none⟩)] w fun r w' => ∃ o c', r = .returned (.slice o (dL ax ay bx by' cx cy).n c') ∧ XLs w' (.slice o (dL ax ay bx by' cx cy).n c') (dL ax ay bx by' cx cy) ∧ Below w.heap.size w w' := by
  have CD : Hid (∀ W, Hold4 W -> Calls Tryz.prog 30 #[.agg #[.func (.func 37) #[] #[], .func (.func 38) #[] #[], .func (.func 39) #[] #[], .func (.func 40) #[] #[]], .agg #[.int .i64 ax, .int .i64 ay], .agg #[.int .i64 bx, .int .i64 by'], .agg #[.int .i64 cx, .int .i64 cy]] W fun r w' => ∃ o c', r = .returned (.slice o (dL ax ay bx by' cx cy).n c') ∧ XLs w' (.slice o (dL ax ay bx by' cx cy).n c') (dL ax ay bx by' cx cy) ∧ Below W.heap.size W w') := fun W h => mdotL_any hax hay hbx hby hcx hcy W h
  clear hax hay hbx hby hcx hcy
  generalize dL ax ay bx by' cx cy = L at *
  go_enter Tryz.func29, Tryz.ntmps29
  go_wp2_with fail
  have hb0 := bel_refl w
  have KK1 : ∀ W, Below w.heap.size w W -> W.cell? ⟨ga, 0, none⟩ = some (.int .i64 ax) ∧ W.cell? ⟨ga, 1, none⟩ = some (.int .i64 ay) ∧ W.cell? ⟨gb, 0, none⟩ = some (.int .i64 bx) ∧ W.cell? ⟨gb, 1, none⟩ = some (.int .i64 by') ∧ W.cell? ⟨gc, 0, none⟩ = some (.int .i64 cx) ∧ W.cell? ⟨gc, 1, none⟩ = some (.int .i64 cy) := fun W hb => ⟨q_cell (blkC a_k 0 rfl) hb, q_cell (blkC a_k 1 rfl) hb, q_cell (blkC b_k 0 rfl) hb, q_cell (blkC b_k 1 rfl) hb, q_cell (blkC c_k 0 rfl) hb, q_cell (blkC c_k 1 rfl) hb⟩
  have hC1_0 := (bel_refl w).drew
  have hs1_0 := (bel_refl w).drew
  have hT1_0 : Below w.heap.size w w.drew := hb0.drew
  have H_1_0 := H.keeps (bel_refl w).drew
  go_region_held3 (fun W => W.cell? ⟨ga, 0, none⟩ = some (.int .i64 ax) ∧ W.cell? ⟨ga, 1, none⟩ = some (.int .i64 ay) ∧ W.cell? ⟨gb, 0, none⟩ = some (.int .i64 bx) ∧ W.cell? ⟨gb, 1, none⟩ = some (.int .i64 by') ∧ W.cell? ⟨gc, 0, none⟩ = some (.int .i64 cx) ∧ W.cell? ⟨gc, 1, none⟩ = some (.int .i64 cy))
    (with_reducible first | assumption | exact KK1 _ hC1_0 | exact KK1 _ hC1_1 | exact KK1 _ hC1_2 | fail)
    (first
      | (go_at_call 30; have _t := hs1_1; refine (CD.out _ (H_1_1.keeps (by with_reducible first | exact bel_refl _ | exact bel_alloc _ _ | exact bel_dr _ _))).mono ?_; rintro _ y1_2 ⟨o, c', rfl, hn, hq1_2⟩; have hs1_2 : Below y1_1.heap.size y1_1 y1_2 := (by with_reducible first | exact hq1_2 | exact bel_trans (bel_alloc _ _) hq1_2 | exact bel_trans (bel_dr _ _) hq1_2); have hT1_2 := bel_trans hT1_1 hs1_2; have hC1_2 := bel_trans hC1_1 hs1_2; have H_1_2 := H_1_1.keeps hs1_2)
      | (go_at_call 17; refine (mexpansions _).mono ?_; rintro _ y1_1 ⟨rfl, hq1_1⟩; have hs1_1 : Below w.drew.heap.size w.drew y1_1 := (by with_reducible first | exact hq1_1 | exact bel_trans (bel_alloc _ _) hq1_1 | exact bel_trans (bel_dr _ _) hq1_1); have hT1_1 := bel_trans hT1_0 hs1_1; have hC1_1 := bel_trans hC1_0 hs1_1; have H_1_1 := H_1_0.keeps hs1_1))
  go_wp2
  go_ret
  exact ⟨o, c', rfl, hn, by first | exact hT1_2 | exact hT1_2.drew⟩
set_option maxRecDepth 100000 in
set_option maxHeartbeats 2000000 in
theorem mAngle3 {ax ay bx by' cx cy : Int} {ga gb gc : Nat} (rax : rng ax) (ray : rng ay) (rbx : rng bx) (rby : rng by') (rcx : rng cx) (rcy : rng cy) (pax : pok ax = true) (pay : pok ay = true) (pbx : pok bx = true) (pby : pok by' = true) (pcx : pok cx = true) (pcy : pok cy = true) (w : World) (H : Hold4 w) (a_k : w.heap[ga]? = some (.cells #[.int .i64 ax, .int .i64 ay] 23)) (b_k : w.heap[gb]? = some (.cells #[.int .i64 bx, .int .i64 by'] 23)) (c_k : w.heap[gc]? = some (.cells #[.int .i64 cx, .int .i64 cy] 23)) :
    Calls Tryz.prog 31 #[.pointer (some ⟨ga, 0, none⟩), .pointer (some ⟨gb, 0, none⟩), .pointer (some ⟨gc, 0, none⟩)] w fun r w' => r = .returned (.agg #[.int .i64 (dLo ax ay bx by' cx cy), .int .i64 (dHi ax ay bx by' cx cy)]) ∧ Below w.heap.size w w' := by
  have CD : Hid (∀ W, Hold4 W -> Calls Tryz.prog 32 #[.agg #[.func (.func 42) #[] #[], .func (.func 43) #[] #[], .func (.func 44) #[] #[], .func (.func 45) #[] #[]], .agg #[.int .i64 ax, .int .i64 ay], .agg #[.int .i64 bx, .int .i64 by'], .agg #[.int .i64 cx, .int .i64 cy]] W fun r w' => r = .returned (.agg #[.int .i64 (dLo ax ay bx by' cx cy), .int .i64 (dHi ax ay bx by' cx cy)]) ∧ Below W.heap.size W w') := fun W h => mdotS_any rax ray rbx rby rcx rcy pax pay pbx pby pcx pcy W h
  clear rax ray rbx rby rcx rcy pax pay pbx pby pcx pcy
  generalize dLo ax ay bx by' cx cy = lo at *
  generalize dHi ax ay bx by' cx cy = hi at *
  have hb0 := bel_alloc w (.cells #[.int .i64 0, .int .i64 0] 55)
  have r_k := heap_a1 w (.cells #[.int .i64 0, .int .i64 0] 55)
  have ne_a : ga ≠ w.heap.size := Nat.ne_of_lt (Array.getElem?_eq_some_iff.1 a_k).1
  replace a_k := heap_past (.cells #[.int .i64 0, .int .i64 0] 55) a_k
  have ne_b : gb ≠ w.heap.size := Nat.ne_of_lt (Array.getElem?_eq_some_iff.1 b_k).1
  replace b_k := heap_past (.cells #[.int .i64 0, .int .i64 0] 55) b_k
  have ne_c : gc ≠ w.heap.size := Nat.ne_of_lt (Array.getElem?_eq_some_iff.1 c_k).1
  replace c_k := heap_past (.cells #[.int .i64 0, .int .i64 0] 55) c_k
  go_enter Tryz.func31, Tryz.ntmps31
  go_wp2_with fail
  generalize w.alloc (.cells #[.int .i64 0, .int .i64 0] 55) = x0 at hb0 r_k a_k b_k c_k ⊢
  have H := H.keeps hb0
  have KK1 : ∀ W, Below x0.heap.size x0 W -> W.cell? ⟨ga, 0, none⟩ = some (.int .i64 ax) ∧ W.cell? ⟨ga, 1, none⟩ = some (.int .i64 ay) ∧ W.cell? ⟨gb, 0, none⟩ = some (.int .i64 bx) ∧ W.cell? ⟨gb, 1, none⟩ = some (.int .i64 by') ∧ W.cell? ⟨gc, 0, none⟩ = some (.int .i64 cx) ∧ W.cell? ⟨gc, 1, none⟩ = some (.int .i64 cy) := fun W hb => ⟨q_cell (blkC a_k 0 rfl) hb, q_cell (blkC a_k 1 rfl) hb, q_cell (blkC b_k 0 rfl) hb, q_cell (blkC b_k 1 rfl) hb, q_cell (blkC c_k 0 rfl) hb, q_cell (blkC c_k 1 rfl) hb⟩
  have hC1_0 := (bel_refl x0).drew
  have hs1_0 := (bel_refl x0).drew
  have hT1_0 : Below w.heap.size w x0.drew := hb0.drew
  have H_1_0 := H.keeps (bel_refl x0).drew
  go_region_held3 (fun W => W.cell? ⟨ga, 0, none⟩ = some (.int .i64 ax) ∧ W.cell? ⟨ga, 1, none⟩ = some (.int .i64 ay) ∧ W.cell? ⟨gb, 0, none⟩ = some (.int .i64 bx) ∧ W.cell? ⟨gb, 1, none⟩ = some (.int .i64 by') ∧ W.cell? ⟨gc, 0, none⟩ = some (.int .i64 cx) ∧ W.cell? ⟨gc, 1, none⟩ = some (.int .i64 cy))
    (with_reducible first | assumption | exact KK1 _ hC1_0 | exact KK1 _ hC1_1 | exact KK1 _ hC1_2 | exact ⟨cellS2 (KK1 _ hC1_2).1 ne_a _ _, cellS2 (KK1 _ hC1_2).2.1 ne_a _ _, cellS2 (KK1 _ hC1_2).2.2.1 ne_b _ _, cellS2 (KK1 _ hC1_2).2.2.2.1 ne_b _ _, cellS2 (KK1 _ hC1_2).2.2.2.2.1 ne_c _ _, cellS2 (KK1 _ hC1_2).2.2.2.2.2 ne_c _ _⟩ | fail)
    (first
      | (go_at_call 32; have _t := hs1_1; refine (CD.out _ (H_1_1.keeps (by with_reducible first | exact bel_refl _ | exact bel_alloc _ _ | exact bel_dr _ _))).mono ?_; rintro _ y1_2 ⟨rfl, hq1_2⟩; have hs1_2 : Below y1_1.heap.size y1_1 y1_2 := (by with_reducible first | exact hq1_2 | exact bel_trans (bel_alloc _ _) hq1_2 | exact bel_trans (bel_dr _ _) hq1_2); have hT1_2 := bel_trans hT1_1 hs1_2; have hC1_2 := bel_trans hC1_1 hs1_2; have H_1_2 := H_1_1.keeps hs1_2; have hr := blk_on hs1_2 (blk_on hs1_1 (blk_on hs1_0 r_k)); have k0 := (fun _ => blkC hr 0 rfl) hs1_2; have z0 := (fun _ => blkF hr 0) hs1_2; have k1 := (fun _ => blkC hr 1 rfl) hs1_2; have z1 := (fun _ => blkF hr 1) hs1_2)
      | (go_at_call 20; refine (mspans _).mono ?_; rintro _ y1_1 ⟨rfl, hq1_1⟩; have hs1_1 : Below x0.drew.heap.size x0.drew y1_1 := (by with_reducible first | exact hq1_1 | exact bel_trans (bel_alloc _ _) hq1_1 | exact bel_trans (bel_dr _ _) hq1_1); have hT1_1 := bel_trans hT1_0 hs1_1; have hC1_1 := bel_trans hC1_0 hs1_1; have H_1_1 := H_1_0.keeps hs1_1))
  go_wp2
  exact bodyPost_ret (v := .agg #[.int .i64 lo, .int .i64 hi]) (by simp [results, Tryz.results31, go_sem, k0, k1]) rfl ⟨rfl, bel_set2q hT1_2 (Nat.le_refl _) _ _⟩
set_option maxRecDepth 100000 in
set_option maxHeartbeats 2000000 in
theorem mAngle4 {ax ay bx by' cx cy : Int} {ga gb gc : Nat} (pax : pok ax = true) (pay : pok ay = true) (pbx : pok bx = true) (pby : pok by' = true) (pcx : pok cx = true) (pcy : pok cy = true) (w : World) (H : Hold4 w) (a_k : w.heap[ga]? = some (.cells #[.int .i64 ax, .int .i64 ay] 23)) (b_k : w.heap[gb]? = some (.cells #[.int .i64 bx, .int .i64 by'] 23)) (c_k : w.heap[gc]? = some (.cells #[.int .i64 cx, .int .i64 cy] 23)) :
    Calls Tryz.prog 33 #[.pointer (some ⟨ga, 0, none⟩), .pointer (some ⟨gb, 0, none⟩), .pointer (some ⟨gc, 0, none⟩)] w fun r w' => ∃ v V, r = .returned v ∧ DAns w w' V v ∧ Dot2 (patV ax - patV bx) (patV ay - patV by') (patV cx - patV bx) (patV cy - patV by') V ∧ Bd 8100 V := by
  have CD : Hid (∀ W, Hold4 W -> Calls Tryz.prog 34 #[.agg #[.func (.func 47) #[] #[], .func (.func 48) #[] #[], .func (.func 49) #[] #[], .func (.func 50) #[] #[]], .agg #[.int .i64 ax, .int .i64 ay], .agg #[.int .i64 bx, .int .i64 by'], .agg #[.int .i64 cx, .int .i64 cy]] W fun r w' => ∃ v V, r = .returned v ∧ DAns W w' V v ∧ Dot2 (patV ax - patV bx) (patV ay - patV by') (patV cx - patV bx) (patV cy - patV by') V ∧ Bd 8100 V) := fun W h => mdotN_any pax pay pbx pby pcx pcy W h
  clear pax pay pbx pby pcx pcy
  have hb0 := bel_alloc w (.cells #[.bool false, .slice none 0 0, .int .i64 0] 35)
  have r_k := heap_a1 w (.cells #[.bool false, .slice none 0 0, .int .i64 0] 35)
  have ne_a : ga ≠ w.heap.size := Nat.ne_of_lt (Array.getElem?_eq_some_iff.1 a_k).1
  replace a_k := heap_past (.cells #[.bool false, .slice none 0 0, .int .i64 0] 35) a_k
  have ne_b : gb ≠ w.heap.size := Nat.ne_of_lt (Array.getElem?_eq_some_iff.1 b_k).1
  replace b_k := heap_past (.cells #[.bool false, .slice none 0 0, .int .i64 0] 35) b_k
  have ne_c : gc ≠ w.heap.size := Nat.ne_of_lt (Array.getElem?_eq_some_iff.1 c_k).1
  replace c_k := heap_past (.cells #[.bool false, .slice none 0 0, .int .i64 0] 35) c_k
  go_enter Tryz.func33, Tryz.ntmps33
  go_wp2_with fail
  generalize w.alloc (.cells #[.bool false, .slice none 0 0, .int .i64 0] 35) = x0 at hb0 r_k a_k b_k c_k ⊢
  have H := H.keeps hb0
  have hrs := (Array.getElem?_eq_some_iff.1 r_k).1
  have KK1 : ∀ W, Below x0.heap.size x0 W -> W.cell? ⟨ga, 0, none⟩ = some (.int .i64 ax) ∧ W.cell? ⟨ga, 1, none⟩ = some (.int .i64 ay) ∧ W.cell? ⟨gb, 0, none⟩ = some (.int .i64 bx) ∧ W.cell? ⟨gb, 1, none⟩ = some (.int .i64 by') ∧ W.cell? ⟨gc, 0, none⟩ = some (.int .i64 cx) ∧ W.cell? ⟨gc, 1, none⟩ = some (.int .i64 cy) := fun W hb => ⟨q_cell (blkC a_k 0 rfl) hb, q_cell (blkC a_k 1 rfl) hb, q_cell (blkC b_k 0 rfl) hb, q_cell (blkC b_k 1 rfl) hb, q_cell (blkC c_k 0 rfl) hb, q_cell (blkC c_k 1 rfl) hb⟩
  have hC1_0 := (bel_refl x0).drew
  have hs1_0 := (bel_refl x0).drew
  have hT1_0 : Below w.heap.size w x0.drew := hb0.drew
  have H_1_0 := H.keeps (bel_refl x0).drew
  go_region_held3 (fun W => W.cell? ⟨ga, 0, none⟩ = some (.int .i64 ax) ∧ W.cell? ⟨ga, 1, none⟩ = some (.int .i64 ay) ∧ W.cell? ⟨gb, 0, none⟩ = some (.int .i64 bx) ∧ W.cell? ⟨gb, 1, none⟩ = some (.int .i64 by') ∧ W.cell? ⟨gc, 0, none⟩ = some (.int .i64 cx) ∧ W.cell? ⟨gc, 1, none⟩ = some (.int .i64 cy))
    (with_reducible first | assumption | exact KK1 _ hC1_0 | exact KK1 _ hC1_1 | exact KK1 _ hC1_2 | exact ⟨cellS (KK1 _ hC1_2).1 ne_a _ _ _, cellS (KK1 _ hC1_2).2.1 ne_a _ _ _, cellS (KK1 _ hC1_2).2.2.1 ne_b _ _ _, cellS (KK1 _ hC1_2).2.2.2.1 ne_b _ _ _, cellS (KK1 _ hC1_2).2.2.2.2.1 ne_c _ _ _, cellS (KK1 _ hC1_2).2.2.2.2.2 ne_c _ _ _⟩ | fail)
    (first
      | (go_at_call 34; have _t := hs1_1; refine (CD.out _ (H_1_1.keeps (by with_reducible first | exact bel_refl _ | exact bel_alloc _ _ | exact bel_dr _ _))).mono ?_; rintro _ y1_2 ⟨v, V, rfl, na1, hV, hB⟩; obtain ⟨n_g, n_o, n_n, n_c, n_e, rfl⟩ := dans_shape na1; have hq1_2 := na1.below; have hs1_2 : Below y1_1.heap.size y1_1 y1_2 := (by with_reducible first | exact hq1_2 | exact bel_trans (bel_alloc _ _) hq1_2 | exact bel_trans (bel_dr _ _) hq1_2); have hT1_2 := bel_trans hT1_1 hs1_2; have hC1_2 := bel_trans hC1_1 hs1_2; have H_1_2 := H_1_1.keeps hs1_2; have hr := blk_on hs1_2 (blk_on hs1_1 (blk_on hs1_0 r_k)); have k0 := (fun _ => blkC hr 0 rfl) hs1_2; have z0 := (fun _ => blkF hr 0) hs1_2; have k1 := (fun _ => blkC hr 1 rfl) hs1_2; have z1 := (fun _ => blkF hr 1) hs1_2; have k2 := (fun _ => blkC hr 2 rfl) hs1_2; have z2 := (fun _ => blkF hr 2) hs1_2)
      | (go_at_call 23; refine (mexactNumbers _).mono ?_; rintro _ y1_1 ⟨rfl, hq1_1⟩; have hs1_1 : Below x0.drew.heap.size x0.drew y1_1 := (by with_reducible first | exact hq1_1 | exact bel_trans (bel_alloc _ _) hq1_1 | exact bel_trans (bel_dr _ _) hq1_1); have hT1_1 := bel_trans hT1_0 hs1_1; have hC1_1 := bel_trans hC1_0 hs1_1; have H_1_1 := H_1_0.keeps hs1_1))
  go_wp2
  refine bodyPost_ret (v := .agg #[.bool n_g, .slice n_o n_n n_c, .int .i64 n_e]) (by simp [results, Tryz.results33, go_sem, k0, k1, k2]) rfl ⟨_, V, rfl, ?_, hV, hB⟩
  exact dans_res3 (g := w.heap.size) na1 (bel_trans hb0 (by first | exact hs1_1 | exact bel_trans hs1_0 hs1_1)) (Nat.le_refl _) (Nat.lt_of_lt_of_le hrs (bel_trans hs1_0 hs1_1).size) _ _ _
end Go.Proofs.YthpachmmjjlomaaGreatDoor
