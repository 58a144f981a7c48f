/-
  Parts of the proof, one behind another.
-/
import Derived.Test.YtkaidfbnhdhldaaDoorPart11
import Derived.Test.YtkaidfbnhdhldaaDoorPart10
import Derived.Test.YtkaidfbnhdhldaaDoorPart7
import Derived.Test.YtkaidfbnhdhldaaDoorPart8
/-
  Packages plumbref3, plumbref13: Plus; minus, Square, Dot, by their contracts.
-/
namespace Go.Proofs.YtkaidfbnhdhldaaDoor
open Go Go.RowKit Go.Proofs.YtkaidfbnhdhldaaDoor.M
set_option linter.unusedSimpArgs false
set_option linter.unusedVariables false

set_option maxRecDepth 100000 in
theorem r3plus_any {B : Nat} {w : World} {x y : Value} {A C : Int} {K : Nat} (hx : DAn B w A x) (hy : DAn B w C y) (hB : B ≤ w.heap.size) (bA : Bd K A) (bC : Bd K C) (hK : K ≤ 28000) :
    Calls Tryd.prog 18 #[x, y] w fun r w' => ∃ v, r = .returned v ∧ DAn B w' (A + C) v ∧ Below w.heap.size w w' := by
  have CS : ∀ W, Below w.heap.size w W → Calls Tryd.prog 28 #[x, y] W fun r w' => ∃ v, r = .returned v ∧ DAn B w' (A + C) v ∧ Below W.heap.size W w' := fun W hW => by
    have hx' := hx.keeps hW
    have hy' := hy.keeps hW
    refine (radd_D hx'.num hy'.num (K := K) (by omega) bA bC).mono ?_
    rintro r w' ⟨v, rfl, h⟩
    refine ⟨v, rfl, ?_, h.1⟩
    rcases h.2 with h1 | ⟨h1, rfl⟩ | ⟨h1, rfl⟩
    · exact h1.dan.lower (Nat.le_trans hB hW.size)
    · rw [h1, Int.zero_add]; exact hy'.keeps h.1
    · rw [h1, Int.add_zero]; exact hx'.keeps h.1
  obtain ⟨p_g, p_o, p_n, p_c, p_e, rfl⟩ := hx.shape
  obtain ⟨q_g, q_o, q_n, q_c, q_e, rfl⟩ := hy.shape
  clear hx hy bA bC
  have hb0 := bel_a3 w (.cells #[.bool p_g, .slice p_o p_n p_c, .int .i64 p_e] 27) (.cells #[.bool q_g, .slice q_o q_n q_c, .int .i64 q_e] 27) (.cells #[.bool false, .slice none 0 0, .int .i64 0] 27)
  have r_k := h3_2 w (.cells #[.bool p_g, .slice p_o p_n p_c, .int .i64 p_e] 27) (.cells #[.bool q_g, .slice q_o q_n q_c, .int .i64 q_e] 27) (.cells #[.bool false, .slice none 0 0, .int .i64 0] 27)
  go_enter Tryd.func18, Tryd.ntmps18
  go_wp2_with fail
  generalize ((w.alloc (.cells #[.bool p_g, .slice p_o p_n p_c, .int .i64 p_e] 27)).alloc (.cells #[.bool q_g, .slice q_o q_n q_c, .int .i64 q_e] 27)).alloc (.cells #[.bool false, .slice none 0 0, .int .i64 0] 27) = x0 at r_k hb0 ⊢
  refine (CS _ hb0).mono ?_
  rintro _ y1 ⟨v, rfl, h1, hw⟩
  obtain ⟨n_g, n_o, n_n, n_c, n_e, rfl⟩ := h1.shape
  have r_k := (hw.block _ (Array.getElem?_eq_some_iff.1 r_k).1).trans r_k
  have k0 := blkC r_k 0 rfl
  have z0 := blkF r_k 0
  have k1 := blkC r_k 1 rfl
  have z1 := blkF r_k 1
  have k2 := blkC r_k 2 rfl
  have z2 := blkF r_k 2
  go_wp2
  refine bodyPost_ret (v := .agg #[.bool n_g, .slice n_o n_n n_c, .int .i64 n_e]) (by simp [results, Tryd.results18, go_sem, k0, k1, k2]) rfl ⟨_, rfl, dan_res3 h1 r_k _ _ _, bel_set3 (bel_trans hb0 hw) (by omega) _ _ _⟩
set_option maxRecDepth 100000 in
theorem r13minus_any {p q : Int} (rp : rng p) (rq : rng q) (pp : pok p = true) (pq : pok q = true) (w : World) :
    Calls Tryd.prog 17 #[.int .i64 p, .int .i64 q] w fun r w' => ∃ v, r = .returned v ∧ DAn w.heap.size w' (patV p - patV q) v ∧ Below w.heap.size w w' := by
  have E1 : Hid (∀ W, Calls Tryd.prog 27 #[.int .i64 p] W fun r w' => ∃ v, r = .returned v ∧ DAns W w' (patV p) v) := fun W => r3exact_any p W rp pp
  have E2 : Hid (∀ W, Calls Tryd.prog 27 #[.int .i64 q] W fun r w' => ∃ v, r = .returned v ∧ DAns W w' (patV q) v) := fun W => r3exact_any q W rq pq
  have B1 := patV_bd pp
  have B2 := patV_bd pq
  clear rp rq pp pq
  have r_k := heap_a1 w (.cells #[.bool false, .slice none 0 0, .int .i64 0] 27)
  have hb0 := bel_alloc w (.cells #[.bool false, .slice none 0 0, .int .i64 0] 27)
  go_enter Tryd.func17, Tryd.ntmps17
  go_wp2_with fail
  generalize w.alloc (.cells #[.bool false, .slice none 0 0, .int .i64 0] 27) = x0 at r_k hb0 ⊢
  refine (E1.out _).mono ?_
  rintro _ y1 ⟨v, rfl, h1⟩
  obtain ⟨p_g, p_o, p_n, p_c, p_e, rfl⟩ := dans_shape h1
  have hw1 := h1.below
  have p_D := h1.dan.lower hb0.size
  replace r_k := blk_on hw1 r_k
  replace hb0 := bel_trans hb0 hw1
  go_wp2_with fail
  refine (E2.out _).mono ?_
  rintro _ y2 ⟨v, rfl, h2⟩
  obtain ⟨q_g, q_o, q_n, q_c, q_e, rfl⟩ := dans_shape h2
  have hw2 := h2.below
  have q_D := h2.dan.lower hb0.size
  replace p_D := p_D.keeps hw2
  replace r_k := blk_on hw2 r_k
  replace hb0 := bel_trans hb0 hw2
  go_wp2_with fail
  refine (r3minus_any p_D q_D hb0.size B1 B2 (by omega)).mono ?_
  rintro _ y3 ⟨v, rfl, h3, hw3⟩
  obtain ⟨n_g, n_o, n_n, n_c, n_e, rfl⟩ := h3.shape
  replace r_k := blk_on hw3 r_k
  replace hb0 := bel_trans hb0 hw3
  have k0 := blkC r_k 0 rfl
  have z0 := blkF r_k 0
  have k1 := blkC r_k 1 rfl
  have z1 := blkF r_k 1
  have k2 := blkC r_k 2 rfl
  have z2 := blkF r_k 2
  go_wp2
  exact bodyPost_ret (v := .agg #[.bool n_g, .slice n_o n_n n_c, .int .i64 n_e]) (by simp [results, Tryd.results17, go_sem, k0, k1, k2]) rfl ⟨_, rfl, dan_res3 h3 r_k _ _ _, bel_set3 hb0 (by omega) _ _ _⟩
set_option maxRecDepth 100000 in
set_option maxHeartbeats 8000000 in
theorem r13dot_any {ax ay bx by' cx cy : Int} (rax : rng ax) (ray : rng ay) (rbx : rng bx) (rby : rng by') (rcx : rng cx) (rcy : rng cy) (pax : pok ax = true) (pay : pok ay = true) (pbx : pok bx = true) (pby : pok by' = true) (pcx : pok cx = true) (pcy : pok cy = true) (w : World) :
    Calls Tryd.prog 12 #[.agg #[.int .i64 ax, .int .i64 ay], .agg #[.int .i64 bx, .int .i64 by'], .agg #[.int .i64 cx, .int .i64 cy]] w fun r w' => ∃ v V, r = .returned v ∧ DAn w.heap.size w' V v ∧ Below w.heap.size w w' ∧ Dot2 (patV ax - patV bx) (patV ay - patV by') (patV cx - patV bx) (patV cy - patV by') V ∧ Bd 8100 V := by
  have A1 : Hid (∀ W, Calls Tryd.prog 17 #[.int .i64 ax, .int .i64 bx] W fun r w' => ∃ v, r = .returned v ∧ DAn W.heap.size w' (patV ax - patV bx) v ∧ Below W.heap.size W w') := fun W => r13minus_any rax rbx pax pbx W
  have B1 := (patV_bd pax).sub (patV_bd pbx) (by decide)
  have A2 : Hid (∀ W, Calls Tryd.prog 17 #[.int .i64 cx, .int .i64 bx] W fun r w' => ∃ v, r = .returned v ∧ DAn W.heap.size w' (patV cx - patV bx) v ∧ Below W.heap.size W w') := fun W => r13minus_any rcx rbx pcx pbx W
  have B2 := (patV_bd pcx).sub (patV_bd pbx) (by decide)
  have A3 : Hid (∀ W, Calls Tryd.prog 17 #[.int .i64 ay, .int .i64 by'] W fun r w' => ∃ v, r = .returned v ∧ DAn W.heap.size w' (patV ay - patV by') v ∧ Below W.heap.size W w') := fun W => r13minus_any ray rby pay pby W
  have B3 := (patV_bd pay).sub (patV_bd pby) (by decide)
  have A4 : Hid (∀ W, Calls Tryd.prog 17 #[.int .i64 cy, .int .i64 by'] W fun r w' => ∃ v, r = .returned v ∧ DAn W.heap.size w' (patV cy - patV by') v ∧ Below W.heap.size W w') := fun W => r13minus_any rcy rby pcy pby W
  have B4 := (patV_bd pcy).sub (patV_bd pby) (by decide)
  generalize patV ax - patV bx = a1 at *
  generalize patV cx - patV bx = c1 at *
  generalize patV ay - patV by' = a2 at *
  generalize patV cy - patV by' = c2 at *
  clear pax pay pbx pby pcx pcy rax ray rbx rby rcx rcy
  have a_k : (w.alloc (.cells #[.int .i64 ax, .int .i64 ay] 23)).heap[w.heap.size]? = some (.cells #[.int .i64 ax, .int .i64 ay] 23) := heap_new (.cells #[.int .i64 ax, .int .i64 ay] 23) (by rfl)
  have hb0 := bel_alloc w (.cells #[.int .i64 ax, .int .i64 ay] 23)
  replace a_k := heap_past (.cells #[.int .i64 bx, .int .i64 by'] 23) a_k
  have b_k : ((w.alloc (.cells #[.int .i64 ax, .int .i64 ay] 23)).alloc (.cells #[.int .i64 bx, .int .i64 by'] 23)).heap[w.heap.size + 1]? = some (.cells #[.int .i64 bx, .int .i64 by'] 23) := heap_new (.cells #[.int .i64 bx, .int .i64 by'] 23) (by simp only [size_alloc])
  replace hb0 := bel_trans hb0 (bel_alloc (w.alloc (.cells #[.int .i64 ax, .int .i64 ay] 23)) (.cells #[.int .i64 bx, .int .i64 by'] 23))
  replace a_k := heap_past (.cells #[.int .i64 cx, .int .i64 cy] 23) a_k
  replace b_k := heap_past (.cells #[.int .i64 cx, .int .i64 cy] 23) b_k
  have c_k : (((w.alloc (.cells #[.int .i64 ax, .int .i64 ay] 23)).alloc (.cells #[.int .i64 bx, .int .i64 by'] 23)).alloc (.cells #[.int .i64 cx, .int .i64 cy] 23)).heap[w.heap.size + 1 + 1]? = some (.cells #[.int .i64 cx, .int .i64 cy] 23) := heap_new (.cells #[.int .i64 cx, .int .i64 cy] 23) (by simp only [size_alloc])
  replace hb0 := bel_trans hb0 (bel_alloc ((w.alloc (.cells #[.int .i64 ax, .int .i64 ay] 23)).alloc (.cells #[.int .i64 bx, .int .i64 by'] 23)) (.cells #[.int .i64 cx, .int .i64 cy] 23))
  replace a_k := heap_past (.cells #[.bool false, .slice none 0 0, .int .i64 0] 27) a_k
  replace b_k := heap_past (.cells #[.bool false, .slice none 0 0, .int .i64 0] 27) b_k
  replace c_k := heap_past (.cells #[.bool false, .slice none 0 0, .int .i64 0] 27) c_k
  have r_k : ((((w.alloc (.cells #[.int .i64 ax, .int .i64 ay] 23)).alloc (.cells #[.int .i64 bx, .int .i64 by'] 23)).alloc (.cells #[.int .i64 cx, .int .i64 cy] 23)).alloc (.cells #[.bool false, .slice none 0 0, .int .i64 0] 27)).heap[w.heap.size + 1 + 1 + 1]? = some (.cells #[.bool false, .slice none 0 0, .int .i64 0] 27) := heap_new (.cells #[.bool false, .slice none 0 0, .int .i64 0] 27) (by simp only [size_alloc])
  replace hb0 := bel_trans hb0 (bel_alloc (((w.alloc (.cells #[.int .i64 ax, .int .i64 ay] 23)).alloc (.cells #[.int .i64 bx, .int .i64 by'] 23)).alloc (.cells #[.int .i64 cx, .int .i64 cy] 23)) (.cells #[.bool false, .slice none 0 0, .int .i64 0] 27))
  go_enter Tryd.func12, Tryd.ntmps12
  go_wp2_with fail
  rename_i Q0 K00 hK00
  generalize ((((w.alloc (.cells #[.int .i64 ax, .int .i64 ay] 23)).alloc (.cells #[.int .i64 bx, .int .i64 by'] 23)).alloc (.cells #[.int .i64 cx, .int .i64 cy] 23)).alloc (.cells #[.bool false, .slice none 0 0, .int .i64 0] 27)) = x0 at hb0 a_k b_k c_k r_k ⊢
  have hK1 := hK00
  have HN1 : ∀ (g : Nat) (x1 : World) (t : Array Value) (l_g : Bool) (l_o : Option Addr) (l_n l_c : Nat) (l_e : Int) (l_V : Int), #[t.getD 0 undef, t.getD 1 undef, t.getD 2 undef, .pointer (some ⟨w.heap.size, 0, none⟩), .pointer (some ⟨w.heap.size + 1, 0, none⟩), .pointer (some ⟨w.heap.size + 1 + 1, 0, none⟩), .pointer (some ⟨w.heap.size + 1 + 1 + 1, 0, none⟩), .pointer (some ⟨g, 0, none⟩), t.getD 8 undef, t.getD 9 undef, t.getD 10 undef, t.getD 11 undef, t.getD 12 undef, t.getD 13 undef, t.getD 14 undef, t.getD 15 undef, t.getD 16 undef, t.getD 17 undef, t.getD 18 undef, t.getD 19 undef, t.getD 20 undef, t.getD 21 undef, t.getD 22 undef, t.getD 23 undef, t.getD 24 undef, t.getD 25 undef, t.getD 26 undef, t.getD 27 undef, t.getD 28 undef, t.getD 29 undef, t.getD 30 undef, t.getD 31 undef, t.getD 32 undef, t.getD 33 undef] = t → x0.heap.size ≤ g → x1.heap[g]? = some (.cells #[.bool l_g, .slice l_o l_n l_c, .int .i64 l_e] 27 (0, 0)) → Below x0.heap.size x0 x1 → DAn w.heap.size x1 l_V (.agg #[.bool l_g, .slice l_o l_n l_c, .int .i64 l_e]) → l_V * 2 ^ 4194304 = a1 * c1 → Bd (2 * (4000 + 1)) l_V → Exit.then K00 Q0 Exit.normal { tmps := t, defers := [] } x1 := by
    intro g_l x1 t l_g l_o l_n l_c l_e l_V ht l_ge l_k hw1 l_D l_E l_B
    obtain ⟨u1, hu⟩ : ∃ u : Nat → Value, t = #[u 0, u 1, u 2, .pointer (some ⟨w.heap.size, 0, none⟩), .pointer (some ⟨w.heap.size + 1, 0, none⟩), .pointer (some ⟨w.heap.size + 1 + 1, 0, none⟩), .pointer (some ⟨w.heap.size + 1 + 1 + 1, 0, none⟩), .pointer (some ⟨g_l, 0, none⟩), u 8, u 9, u 10, u 11, u 12, u 13, u 14, u 15, u 16, u 17, u 18, u 19, u 20, u 21, u 22, u 23, u 24, u 25, u 26, u 27, u 28, u 29, u 30, u 31, u 32, u 33] := ⟨fun k => t.getD k undef, ht.symm⟩
    clear ht
    subst hu
    have a_k := (hw1.block _ (Array.getElem?_eq_some_iff.1 a_k).1).trans a_k
    have b_k := (hw1.block _ (Array.getElem?_eq_some_iff.1 b_k).1).trans b_k
    have c_k := (hw1.block _ (Array.getElem?_eq_some_iff.1 c_k).1).trans c_k
    have r_k := (hw1.block _ (Array.getElem?_eq_some_iff.1 r_k).1).trans r_k
    have hb1 := bel_trans hb0 hw1
    go_wp2_with fail
    rename_i K2 hK2
    have HN2 : ∀ (g : Nat) (x2 : World) (t : Array Value) (s_g : Bool) (s_o : Option Addr) (s_n s_c : Nat) (s_e : Int) (s_V : Int), #[t.getD 0 undef, t.getD 1 undef, t.getD 2 undef, .pointer (some ⟨w.heap.size, 0, none⟩), .pointer (some ⟨w.heap.size + 1, 0, none⟩), .pointer (some ⟨w.heap.size + 1 + 1, 0, none⟩), .pointer (some ⟨w.heap.size + 1 + 1 + 1, 0, none⟩), .pointer (some ⟨g_l, 0, none⟩), .pointer (some ⟨g, 0, none⟩), t.getD 9 undef, t.getD 10 undef, t.getD 11 undef, t.getD 12 undef, t.getD 13 undef, t.getD 14 undef, t.getD 15 undef, t.getD 16 undef, t.getD 17 undef, t.getD 18 undef, t.getD 19 undef, t.getD 20 undef, t.getD 21 undef, t.getD 22 undef, t.getD 23 undef, t.getD 24 undef, t.getD 25 undef, t.getD 26 undef, t.getD 27 undef, t.getD 28 undef, t.getD 29 undef, t.getD 30 undef, t.getD 31 undef, t.getD 32 undef, t.getD 33 undef] = t → x1.heap.size ≤ g → x2.heap[g]? = some (.cells #[.bool s_g, .slice s_o s_n s_c, .int .i64 s_e] 27 (0, 0)) → Below x1.heap.size x1 x2 → DAn w.heap.size x2 s_V (.agg #[.bool s_g, .slice s_o s_n s_c, .int .i64 s_e]) → s_V * 2 ^ 4194304 = a2 * c2 → Bd (2 * (4000 + 1)) s_V → Exit.then K2 Q0 Exit.normal { tmps := t, defers := [] } x2 := by
      intro g_s x2 t s_g s_o s_n s_c s_e s_V ht s_ge s_k hw2 s_D s_E s_B
      obtain ⟨u2, hu⟩ : ∃ u : Nat → Value, t = #[u 0, u 1, u 2, .pointer (some ⟨w.heap.size, 0, none⟩), .pointer (some ⟨w.heap.size + 1, 0, none⟩), .pointer (some ⟨w.heap.size + 1 + 1, 0, none⟩), .pointer (some ⟨w.heap.size + 1 + 1 + 1, 0, none⟩), .pointer (some ⟨g_l, 0, none⟩), .pointer (some ⟨g_s, 0, none⟩), u 9, u 10, u 11, u 12, u 13, u 14, u 15, u 16, u 17, u 18, u 19, u 20, u 21, u 22, u 23, u 24, u 25, u 26, u 27, u 28, u 29, u 30, u 31, u 32, u 33] := ⟨fun k => t.getD k undef, ht.symm⟩
      clear ht
      subst hu
      have a_k := (hw2.block _ (Array.getElem?_eq_some_iff.1 a_k).1).trans a_k
      have b_k := (hw2.block _ (Array.getElem?_eq_some_iff.1 b_k).1).trans b_k
      have c_k := (hw2.block _ (Array.getElem?_eq_some_iff.1 c_k).1).trans c_k
      have r_k := (hw2.block _ (Array.getElem?_eq_some_iff.1 r_k).1).trans r_k
      have l_k := (hw2.block _ (Array.getElem?_eq_some_iff.1 l_k).1).trans l_k
      have l_D := l_D.keeps hw2
      have hb2 := bel_trans hb1 hw2
      have f_l0 := blkC l_k 0 rfl
      have f_l1 := blkC l_k 1 rfl
      have f_l2 := blkC l_k 2 rfl
      have f_s0 := blkC s_k 0 rfl
      have f_s1 := blkC s_k 1 rfl
      have f_s2 := blkC s_k 2 rfl
      go_wp2_with fail
      clear f_l0 f_l1 f_l2 f_s0 f_s1 f_s2
      refine (r3plus_any l_D s_D hb2.size l_B s_B (by omega)).mono ?_
      rintro _ ye ⟨v, rfl, hn, hwe⟩
      obtain ⟨n_g, n_o, n_n, n_c, n_e, rfl⟩ := hn.shape
      have r_k := blk_on hwe r_k
      have k0 := blkC r_k 0 rfl
      have z0 := blkF r_k 0
      have k1 := blkC r_k 1 rfl
      have z1 := blkF r_k 1
      have k2 := blkC r_k 2 rfl
      have z2 := blkF r_k 2
      go_wp2
      refine bodyPost_ret (v := .agg #[.bool n_g, .slice n_o n_n n_c, .int .i64 n_e]) (by simp [results, Tryd.results12, go_sem, k0, k1, k2]) rfl ⟨_, l_V + s_V, rfl, dan_res3 hn r_k _ _ _, bel_set3 (bel_trans hb2 hwe) (by omega) _ _ _, ⟨l_V, s_V, l_E, s_E, rfl⟩, (l_B.add s_B (by decide)).up (by decide) (by decide)⟩
    have KK2 : ∀ W, Below x1.heap.size x1 W → W.cell? ⟨w.heap.size, 1, none⟩ = some (.int .i64 ay) ∧ W.cell? ⟨w.heap.size + 1, 1, none⟩ = some (.int .i64 by') ∧ W.cell? ⟨w.heap.size + 2, 1, none⟩ = some (.int .i64 cy) := fun W hb => ⟨q_cell (blkC a_k 1 rfl) hb, q_cell (blkC b_k 1 rfl) hb, q_cell (blkC c_k 1 rfl) hb⟩
    have hC2_0 := (bel_refl x1).drew
    have hT2_0 : Below w.heap.size w x1.drew := hb1.drew
    have hs2_0 := (bel_refl x1).drew
    go_region_held3 (fun W => W.cell? ⟨w.heap.size, 1, none⟩ = some (.int .i64 ay) ∧ W.cell? ⟨w.heap.size + 1, 1, none⟩ = some (.int .i64 by') ∧ W.cell? ⟨w.heap.size + 2, 1, none⟩ = some (.int .i64 cy))
      (with_reducible first | assumption | exact KK2 _ (bel_alloc _ _).drew | exact KK2 _ hC2_0 | exact KK2 _ hC2_1 | exact KK2 _ hC2_2 | exact KK2 _ hC2_3 | exact KK2 _ (bel_trans hC2_0 (bel_alloc _ _)) | exact KK2 _ (bel_trans hC2_1 (bel_alloc _ _)) | exact KK2 _ (bel_trans hC2_2 (bel_alloc _ _)) | exact KK2 _ (bel_trans hC2_3 (bel_alloc _ _)) | exact KK2 _ (bel_set3' hC2_3 (Nat.le_refl _) _ _ _) | exact KK2 _ (bel_set3' hC2_3 hC2_1.size _ _ _) | exact KK2 _ (bel_set3' hC2_3 hC2_2.size _ _ _) | fail)
      (first
        | (go_at_call 19; have _t := hs2_2; refine (r3times_any (np2.keeps (by with_reducible first | exact bel_refl _ | exact bel_alloc _ _ | exact bel_dr _ _)) (nb2.num.keeps (by with_reducible first | exact bel_refl _ | exact bel_alloc _ _ | exact bel_dr _ _)) B3 B4 (by omega)).mono ?_; rintro _ y2_3 ⟨v, s_V, rfl, nm2, s_E, s_B⟩; obtain ⟨s_g, s_o, s_n, s_c, s_e, rfl⟩ := dans_shape nm2; have hq2_3 := nm2.below; have s_A := nm2.dan.lower (Nat.le_trans hT2_2.size (by with_reducible first | exact Nat.le_refl _ | exact (bel_alloc _ _).size | exact (bel_dr _ _).size)); have hs2_3 : Below y2_2.heap.size y2_2 y2_3 := (by with_reducible first | exact hq2_3 | exact bel_trans (bel_alloc _ _) hq2_3 | exact bel_trans (bel_dr _ _) hq2_3); have hT2_3 := bel_trans hT2_2 hs2_3; have hC2_3 := bel_trans hC2_2 hs2_3; with_reducible first | (have qz2 : y2_3.heap[x1.heap.size]? = some (.cells #[.bool false, .slice none 0 0, .int .i64 0] 27 (0, 0)) := blk_on hq2_3 (blk_on hq2_2 (blk_on hq2_1 (heap_a1d x1 (.cells #[.bool false, .slice none 0 0, .int .i64 0] 27)))); have cz2_0 := blkC qz2 0 rfl; have zz2_0 := blkF qz2 0; have cz2_1 := blkC qz2 1 rfl; have zz2_1 := blkF qz2 1; have cz2_2 := blkC qz2 2 rfl; have zz2_2 := blkF qz2 2) | (have qz2 : y2_3.heap[y2_1.heap.size]? = some (.cells #[.bool false, .slice none 0 0, .int .i64 0] 27 (0, 0)) := blk_on hq2_3 (blk_on hq2_2 (heap_a1 _ _)); have cz2_0 := blkC qz2 0 rfl; have zz2_0 := blkF qz2 0; have cz2_1 := blkC qz2 1 rfl; have zz2_1 := blkF qz2 1; have cz2_2 := blkC qz2 2 rfl; have zz2_2 := blkF qz2 2) | (have qz2 : y2_3.heap[y2_2.heap.size]? = some (.cells #[.bool false, .slice none 0 0, .int .i64 0] 27 (0, 0)) := blk_on hq2_3 (heap_a1 _ _); have cz2_0 := blkC qz2 0 rfl; have zz2_0 := blkF qz2 0; have cz2_1 := blkC qz2 1 rfl; have zz2_1 := blkF qz2 1; have cz2_2 := blkC qz2 2 rfl; have zz2_2 := blkF qz2 2) | skip)
        | (go_at_call 17; have _t := hs2_1; refine (A4.out _).mono ?_; rintro _ y2_2 ⟨v, rfl, nb2, hq2_2⟩; obtain ⟨q_g, q_o, q_n, q_c, q_e, rfl⟩ := nb2.shape; have hs2_2 : Below y2_1.heap.size y2_1 y2_2 := (by with_reducible first | exact hq2_2 | exact bel_trans (bel_alloc _ _) hq2_2 | exact bel_trans (bel_dr _ _) hq2_2); have hT2_2 := bel_trans hT2_1 hs2_2; have hC2_2 := bel_trans hC2_1 hs2_2; have np2 := na2.num.keeps hs2_2)
        | (go_at_call 17; refine (A3.out _).mono ?_; rintro _ y2_1 ⟨v, rfl, na2, hq2_1⟩; obtain ⟨p_g, p_o, p_n, p_c, p_e, rfl⟩ := na2.shape; have hs2_1 : Below x1.drew.heap.size x1.drew y2_1 := (by with_reducible first | exact hq2_1 | exact bel_trans (bel_alloc _ _) hq2_1 | exact bel_trans (bel_dr _ _) hq2_1); have hT2_1 := bel_trans hT2_0 hs2_1; have hC2_1 := bel_trans hC2_0 hs2_1))
    · exact HN2 y2_3.heap.size _ _ _ _ _ _ _ s_V (by kernel_rfl) ((bel_trans (bel_trans (bel_trans (hs2_0) hs2_1) hs2_2) hs2_3).size) (heap_a1 _ _) (bel_trans (bel_trans (bel_trans (bel_trans (hs2_0) hs2_1) hs2_2) hs2_3) (bel_alloc _ _)) (s_A.keeps (bel_alloc _ _)) s_E s_B
    · exact HN2 y2_2.heap.size _ _ _ _ _ _ _ s_V (by kernel_rfl) ((bel_trans (bel_trans (hs2_0) hs2_1) hs2_2).size) (heap_set (heap_set (heap_set (blk_on hq2_3 (heap_a1 _ _)) 0 _) 1 _) 2 _) (bel_set3' (bel_trans (bel_trans (bel_trans (hs2_0) hs2_1) hs2_2) hs2_3) ((bel_trans (bel_trans (hs2_0) hs2_1) hs2_2).size) _ _ _) (dan_res3 s_A (blk_on hq2_3 (heap_a1 _ _)) _ _ _) s_E s_B
    · exact HN2 y2_1.heap.size _ _ _ _ _ _ _ s_V (by kernel_rfl) ((bel_trans (hs2_0) hs2_1).size) (heap_set (heap_set (heap_set (blk_on hq2_3 (blk_on hq2_2 (heap_a1 _ _))) 0 _) 1 _) 2 _) (bel_set3' (bel_trans (bel_trans (bel_trans (hs2_0) hs2_1) hs2_2) hs2_3) ((bel_trans (hs2_0) hs2_1).size) _ _ _) (dan_res3 s_A (blk_on hq2_3 (blk_on hq2_2 (heap_a1 _ _))) _ _ _) s_E s_B
    · exact HN2 x1.heap.size _ _ _ _ _ _ _ s_V (by kernel_rfl) (Nat.le_refl _) (heap_set (heap_set (heap_set (blk_on hq2_3 (blk_on hq2_2 (blk_on hq2_1 (heap_a1d x1 (.cells #[.bool false, .slice none 0 0, .int .i64 0] 27))))) 0 _) 1 _) 2 _) (bel_set3' (bel_trans (bel_trans (bel_trans (hs2_0) hs2_1) hs2_2) hs2_3) (Nat.le_refl _) _ _ _) (dan_res3 s_A (blk_on hq2_3 (blk_on hq2_2 (blk_on hq2_1 (heap_a1d x1 (.cells #[.bool false, .slice none 0 0, .int .i64 0] 27))))) _ _ _) s_E s_B
  have KK1 : ∀ W, Below x0.heap.size x0 W → W.cell? ⟨w.heap.size, 0, none⟩ = some (.int .i64 ax) ∧ W.cell? ⟨w.heap.size + 1, 0, none⟩ = some (.int .i64 bx) ∧ W.cell? ⟨w.heap.size + 2, 0, none⟩ = some (.int .i64 cx) := fun W hb => ⟨q_cell (blkC a_k 0 rfl) hb, q_cell (blkC b_k 0 rfl) hb, q_cell (blkC c_k 0 rfl) hb⟩
  have hC1_0 := (bel_refl x0).drew
  have hT1_0 : Below w.heap.size w x0.drew := hb0.drew
  have hs1_0 := (bel_refl x0).drew
  go_region_held3 (fun W => W.cell? ⟨w.heap.size, 0, none⟩ = some (.int .i64 ax) ∧ W.cell? ⟨w.heap.size + 1, 0, none⟩ = some (.int .i64 bx) ∧ W.cell? ⟨w.heap.size + 2, 0, none⟩ = some (.int .i64 cx))
    (with_reducible first | assumption | exact KK1 _ (bel_alloc _ _).drew | exact KK1 _ hC1_0 | exact KK1 _ hC1_1 | exact KK1 _ hC1_2 | exact KK1 _ hC1_3 | exact KK1 _ (bel_trans hC1_0 (bel_alloc _ _)) | exact KK1 _ (bel_trans hC1_1 (bel_alloc _ _)) | exact KK1 _ (bel_trans hC1_2 (bel_alloc _ _)) | exact KK1 _ (bel_trans hC1_3 (bel_alloc _ _)) | exact KK1 _ (bel_set3' hC1_3 (Nat.le_refl _) _ _ _) | exact KK1 _ (bel_set3' hC1_3 hC1_1.size _ _ _) | exact KK1 _ (bel_set3' hC1_3 hC1_2.size _ _ _) | fail)
    (first
      | (go_at_call 19; have _t := hs1_2; refine (r3times_any (np1.keeps (by with_reducible first | exact bel_refl _ | exact bel_alloc _ _ | exact bel_dr _ _)) (nb1.num.keeps (by with_reducible first | exact bel_refl _ | exact bel_alloc _ _ | exact bel_dr _ _)) B1 B2 (by omega)).mono ?_; rintro _ y1_3 ⟨v, l_V, rfl, nm1, l_E, l_B⟩; obtain ⟨l_g, l_o, l_n, l_c, l_e, rfl⟩ := dans_shape nm1; have hq1_3 := nm1.below; have l_A := nm1.dan.lower (Nat.le_trans hT1_2.size (by with_reducible first | exact Nat.le_refl _ | exact (bel_alloc _ _).size | exact (bel_dr _ _).size)); have hs1_3 : Below y1_2.heap.size y1_2 y1_3 := (by with_reducible first | exact hq1_3 | exact bel_trans (bel_alloc _ _) hq1_3 | exact bel_trans (bel_dr _ _) hq1_3); have hT1_3 := bel_trans hT1_2 hs1_3; have hC1_3 := bel_trans hC1_2 hs1_3; with_reducible first | (have qz1 : y1_3.heap[x0.heap.size]? = some (.cells #[.bool false, .slice none 0 0, .int .i64 0] 27 (0, 0)) := blk_on hq1_3 (blk_on hq1_2 (blk_on hq1_1 (heap_a1d x0 (.cells #[.bool false, .slice none 0 0, .int .i64 0] 27)))); have cz1_0 := blkC qz1 0 rfl; have zz1_0 := blkF qz1 0; have cz1_1 := blkC qz1 1 rfl; have zz1_1 := blkF qz1 1; have cz1_2 := blkC qz1 2 rfl; have zz1_2 := blkF qz1 2) | (have qz1 : y1_3.heap[y1_1.heap.size]? = some (.cells #[.bool false, .slice none 0 0, .int .i64 0] 27 (0, 0)) := blk_on hq1_3 (blk_on hq1_2 (heap_a1 _ _)); have cz1_0 := blkC qz1 0 rfl; have zz1_0 := blkF qz1 0; have cz1_1 := blkC qz1 1 rfl; have zz1_1 := blkF qz1 1; have cz1_2 := blkC qz1 2 rfl; have zz1_2 := blkF qz1 2) | (have qz1 : y1_3.heap[y1_2.heap.size]? = some (.cells #[.bool false, .slice none 0 0, .int .i64 0] 27 (0, 0)) := blk_on hq1_3 (heap_a1 _ _); have cz1_0 := blkC qz1 0 rfl; have zz1_0 := blkF qz1 0; have cz1_1 := blkC qz1 1 rfl; have zz1_1 := blkF qz1 1; have cz1_2 := blkC qz1 2 rfl; have zz1_2 := blkF qz1 2) | skip)
      | (go_at_call 17; have _t := hs1_1; refine (A2.out _).mono ?_; rintro _ y1_2 ⟨v, rfl, nb1, hq1_2⟩; obtain ⟨q_g, q_o, q_n, q_c, q_e, rfl⟩ := nb1.shape; have hs1_2 : Below y1_1.heap.size y1_1 y1_2 := (by with_reducible first | exact hq1_2 | exact bel_trans (bel_alloc _ _) hq1_2 | exact bel_trans (bel_dr _ _) hq1_2); have hT1_2 := bel_trans hT1_1 hs1_2; have hC1_2 := bel_trans hC1_1 hs1_2; have np1 := na1.num.keeps hs1_2)
      | (go_at_call 17; refine (A1.out _).mono ?_; rintro _ y1_1 ⟨v, rfl, na1, hq1_1⟩; obtain ⟨p_g, p_o, p_n, p_c, p_e, rfl⟩ := na1.shape; have hs1_1 : Below x0.drew.heap.size x0.drew y1_1 := (by with_reducible first | exact hq1_1 | exact bel_trans (bel_alloc _ _) hq1_1 | exact bel_trans (bel_dr _ _) hq1_1); have hT1_1 := bel_trans hT1_0 hs1_1; have hC1_1 := bel_trans hC1_0 hs1_1))
  · exact HN1 y1_3.heap.size _ _ _ _ _ _ _ l_V (by kernel_rfl) ((bel_trans (bel_trans (bel_trans (hs1_0) hs1_1) hs1_2) hs1_3).size) (heap_a1 _ _) (bel_trans (bel_trans (bel_trans (bel_trans (hs1_0) hs1_1) hs1_2) hs1_3) (bel_alloc _ _)) (l_A.keeps (bel_alloc _ _)) l_E l_B
  · exact HN1 y1_2.heap.size _ _ _ _ _ _ _ l_V (by kernel_rfl) ((bel_trans (bel_trans (hs1_0) hs1_1) hs1_2).size) (heap_set (heap_set (heap_set (blk_on hq1_3 (heap_a1 _ _)) 0 _) 1 _) 2 _) (bel_set3' (bel_trans (bel_trans (bel_trans (hs1_0) hs1_1) hs1_2) hs1_3) ((bel_trans (bel_trans (hs1_0) hs1_1) hs1_2).size) _ _ _) (dan_res3 l_A (blk_on hq1_3 (heap_a1 _ _)) _ _ _) l_E l_B
  · exact HN1 y1_1.heap.size _ _ _ _ _ _ _ l_V (by kernel_rfl) ((bel_trans (hs1_0) hs1_1).size) (heap_set (heap_set (heap_set (blk_on hq1_3 (blk_on hq1_2 (heap_a1 _ _))) 0 _) 1 _) 2 _) (bel_set3' (bel_trans (bel_trans (bel_trans (hs1_0) hs1_1) hs1_2) hs1_3) ((bel_trans (hs1_0) hs1_1).size) _ _ _) (dan_res3 l_A (blk_on hq1_3 (blk_on hq1_2 (heap_a1 _ _))) _ _ _) l_E l_B
  · exact HN1 x0.heap.size _ _ _ _ _ _ _ l_V (by kernel_rfl) (Nat.le_refl _) (heap_set (heap_set (heap_set (blk_on hq1_3 (blk_on hq1_2 (blk_on hq1_1 (heap_a1d x0 (.cells #[.bool false, .slice none 0 0, .int .i64 0] 27))))) 0 _) 1 _) 2 _) (bel_set3' (bel_trans (bel_trans (bel_trans (hs1_0) hs1_1) hs1_2) hs1_3) (Nat.le_refl _) _ _ _) (dan_res3 l_A (blk_on hq1_3 (blk_on hq1_2 (blk_on hq1_1 (heap_a1d x0 (.cells #[.bool false, .slice none 0 0, .int .i64 0] 27))))) _ _ _) l_E l_B
end Go.Proofs.YtkaidfbnhdhldaaDoor

/-
  Packages plumbref3, plumbref13: Square, by their contracts.
-/
namespace Go.Proofs.YtkaidfbnhdhldaaDoor
open Go Go.RowKit Go.Proofs.YtkaidfbnhdhldaaDoor.M
set_option linter.unusedSimpArgs false
set_option linter.unusedVariables false

set_option maxRecDepth 100000 in
set_option maxHeartbeats 8000000 in
theorem r13square_any {ax ay bx by' : Int} (rax : rng ax) (ray : rng ay) (rbx : rng bx) (rby : rng by') (pax : pok ax = true) (pay : pok ay = true) (pbx : pok bx = true) (pby : pok by' = true) (w : World) :
    Calls Tryd.prog 11 #[.agg #[.int .i64 ax, .int .i64 ay], .agg #[.int .i64 bx, .int .i64 by']] w fun r w' => ∃ v V, r = .returned v ∧ DAn w.heap.size w' V v ∧ Below w.heap.size w w' ∧ Dot2 (patV ax - patV bx) (patV ay - patV by') (patV ax - patV bx) (patV ay - patV by') V ∧ Bd 8100 V := by
  have A1 : Hid (∀ W, Calls Tryd.prog 17 #[.int .i64 ax, .int .i64 bx] W fun r w' => ∃ v, r = .returned v ∧ DAn W.heap.size w' (patV ax - patV bx) v ∧ Below W.heap.size W w') := fun W => r13minus_any rax rbx pax pbx W
  have B1 := (patV_bd pax).sub (patV_bd pbx) (by decide)
  have A2 : Hid (∀ W, Calls Tryd.prog 17 #[.int .i64 ay, .int .i64 by'] W fun r w' => ∃ v, r = .returned v ∧ DAn W.heap.size w' (patV ay - patV by') v ∧ Below W.heap.size W w') := fun W => r13minus_any ray rby pay pby W
  have B2 := (patV_bd pay).sub (patV_bd pby) (by decide)
  generalize patV ax - patV bx = a1 at *
  generalize patV ay - patV by' = a2 at *
  clear pax pay pbx pby rax ray rbx rby
  have a_k : (w.alloc (.cells #[.int .i64 ax, .int .i64 ay] 23)).heap[w.heap.size]? = some (.cells #[.int .i64 ax, .int .i64 ay] 23) := heap_new (.cells #[.int .i64 ax, .int .i64 ay] 23) (by rfl)
  have hb0 := bel_alloc w (.cells #[.int .i64 ax, .int .i64 ay] 23)
  replace a_k := heap_past (.cells #[.int .i64 bx, .int .i64 by'] 23) a_k
  have b_k : ((w.alloc (.cells #[.int .i64 ax, .int .i64 ay] 23)).alloc (.cells #[.int .i64 bx, .int .i64 by'] 23)).heap[w.heap.size + 1]? = some (.cells #[.int .i64 bx, .int .i64 by'] 23) := heap_new (.cells #[.int .i64 bx, .int .i64 by'] 23) (by simp only [size_alloc])
  replace hb0 := bel_trans hb0 (bel_alloc (w.alloc (.cells #[.int .i64 ax, .int .i64 ay] 23)) (.cells #[.int .i64 bx, .int .i64 by'] 23))
  replace a_k := heap_past (.cells #[.bool false, .slice none 0 0, .int .i64 0] 27) a_k
  replace b_k := heap_past (.cells #[.bool false, .slice none 0 0, .int .i64 0] 27) b_k
  have r_k : (((w.alloc (.cells #[.int .i64 ax, .int .i64 ay] 23)).alloc (.cells #[.int .i64 bx, .int .i64 by'] 23)).alloc (.cells #[.bool false, .slice none 0 0, .int .i64 0] 27)).heap[w.heap.size + 1 + 1]? = some (.cells #[.bool false, .slice none 0 0, .int .i64 0] 27) := heap_new (.cells #[.bool false, .slice none 0 0, .int .i64 0] 27) (by simp only [size_alloc])
  replace hb0 := bel_trans hb0 (bel_alloc ((w.alloc (.cells #[.int .i64 ax, .int .i64 ay] 23)).alloc (.cells #[.int .i64 bx, .int .i64 by'] 23)) (.cells #[.bool false, .slice none 0 0, .int .i64 0] 27))
  have f_a0 := blkC a_k 0 rfl
  have f_b0 := blkC b_k 0 rfl
  go_enter Tryd.func11, Tryd.ntmps11
  go_wp2_with fail
  clear f_a0 f_b0
  generalize (((w.alloc (.cells #[.int .i64 ax, .int .i64 ay] 23)).alloc (.cells #[.int .i64 bx, .int .i64 by'] 23)).alloc (.cells #[.bool false, .slice none 0 0, .int .i64 0] 27)) = x0 at hb0 a_k b_k r_k ⊢
  refine (A1.out _).mono ?_
  rintro _ y1 ⟨v, rfl, h1, hw1⟩
  obtain ⟨x_g, x_o, x_n, x_c, x_e, rfl⟩ := h1.shape
  have x_D := h1.lower hb0.size
  have a_k := (hw1.block _ (Array.getElem?_eq_some_iff.1 a_k).1).trans a_k
  have b_k := (hw1.block _ (Array.getElem?_eq_some_iff.1 b_k).1).trans b_k
  have r_k := (hw1.block _ (Array.getElem?_eq_some_iff.1 r_k).1).trans r_k
  have hb1 := bel_trans hb0 hw1
  have hrs1 := (Array.getElem?_eq_some_iff.1 r_k).1
  have a_k := heap_past (.cells #[.bool x_g, .slice x_o x_n x_c, .int .i64 x_e] 27) a_k
  have b_k := heap_past (.cells #[.bool x_g, .slice x_o x_n x_c, .int .i64 x_e] 27) b_k
  have r_k := heap_past (.cells #[.bool x_g, .slice x_o x_n x_c, .int .i64 x_e] 27) r_k
  have x_k := heap_a1 y1 (.cells #[.bool x_g, .slice x_o x_n x_c, .int .i64 x_e] 27)
  have x_D := x_D.keeps (bel_alloc y1 (.cells #[.bool x_g, .slice x_o x_n x_c, .int .i64 x_e] 27))
  have hb2' := bel_trans hb1 (bel_alloc y1 (.cells #[.bool x_g, .slice x_o x_n x_c, .int .i64 x_e] 27))
  have f_a1 := blkC a_k 1 rfl
  have f_b1 := blkC b_k 1 rfl
  go_wp2_with fail
  clear f_a1 f_b1
  generalize y1.alloc (.cells #[.bool x_g, .slice x_o x_n x_c, .int .i64 x_e] 27) = x2 at a_k b_k r_k x_k x_D hb2' ⊢
  refine (A2.out _).mono ?_
  rintro _ y2 ⟨v, rfl, h2, hw2⟩
  obtain ⟨y_g, y_o, y_n, y_c, y_e, rfl⟩ := h2.shape
  have y_D := h2.lower hb2'.size
  have a_k := (hw2.block _ (Array.getElem?_eq_some_iff.1 a_k).1).trans a_k
  have b_k := (hw2.block _ (Array.getElem?_eq_some_iff.1 b_k).1).trans b_k
  have r_k := (hw2.block _ (Array.getElem?_eq_some_iff.1 r_k).1).trans r_k
  have x_k := (hw2.block _ (Array.getElem?_eq_some_iff.1 x_k).1).trans x_k
  have x_D := x_D.keeps hw2
  have hb2 := bel_trans hb2' hw2
  have hrs2 := (Array.getElem?_eq_some_iff.1 r_k).1
  have a_k := heap_past (.cells #[.bool y_g, .slice y_o y_n y_c, .int .i64 y_e] 27) a_k
  have b_k := heap_past (.cells #[.bool y_g, .slice y_o y_n y_c, .int .i64 y_e] 27) b_k
  have r_k := heap_past (.cells #[.bool y_g, .slice y_o y_n y_c, .int .i64 y_e] 27) r_k
  have x_k := heap_past (.cells #[.bool y_g, .slice y_o y_n y_c, .int .i64 y_e] 27) x_k
  have y_k := heap_a1 y2 (.cells #[.bool y_g, .slice y_o y_n y_c, .int .i64 y_e] 27)
  have x_D := x_D.keeps (bel_alloc y2 (.cells #[.bool y_g, .slice y_o y_n y_c, .int .i64 y_e] 27))
  have y_D := y_D.keeps (bel_alloc y2 (.cells #[.bool y_g, .slice y_o y_n y_c, .int .i64 y_e] 27))
  have hb3' := bel_trans hb2 (bel_alloc y2 (.cells #[.bool y_g, .slice y_o y_n y_c, .int .i64 y_e] 27))
  go_wp2_with fail
  generalize y2.alloc (.cells #[.bool y_g, .slice y_o y_n y_c, .int .i64 y_e] 27) = x3 at a_k b_k r_k x_k y_k x_D y_D hb3' ⊢
  have KK3 : ∀ W, Below x3.heap.size x3 W → W.cell? ⟨y1.heap.size, 0, none⟩ = some (.bool x_g) ∧ W.cell? ⟨y1.heap.size, 1, none⟩ = some (.slice x_o x_n x_c) ∧ W.cell? ⟨y1.heap.size, 2, none⟩ = some (.int .i64 x_e) ∧ W.cell? ⟨y2.heap.size, 0, none⟩ = some (.bool y_g) ∧ W.cell? ⟨y2.heap.size, 1, none⟩ = some (.slice y_o y_n y_c) ∧ W.cell? ⟨y2.heap.size, 2, none⟩ = some (.int .i64 y_e) := fun W hb => ⟨q_cell (blkC x_k 0 rfl) hb, q_cell (blkC x_k 1 rfl) hb, q_cell (blkC x_k 2 rfl) hb, q_cell (blkC y_k 0 rfl) hb, q_cell (blkC y_k 1 rfl) hb, q_cell (blkC y_k 2 rfl) hb⟩
  have hC3_0 := (bel_refl x3).drew
  have hs3_0 := (bel_refl x3).drew
  have hT3_0 : Below w.heap.size w x3.drew := hb3'.drew
  have ne_x : y1.heap.size ≠ w.heap.size + 1 + 1 := by have := hrs1; omega
  have ne_y : y2.heap.size ≠ w.heap.size + 1 + 1 := by have := hrs2; omega
  have x_D_3_0 := x_D.keeps (bel_refl x3).drew
  have y_D_3_0 := y_D.keeps (bel_refl x3).drew
  go_region_held3 (fun W => W.cell? ⟨y1.heap.size, 0, none⟩ = some (.bool x_g) ∧ W.cell? ⟨y1.heap.size, 1, none⟩ = some (.slice x_o x_n x_c) ∧ W.cell? ⟨y1.heap.size, 2, none⟩ = some (.int .i64 x_e) ∧ W.cell? ⟨y2.heap.size, 0, none⟩ = some (.bool y_g) ∧ W.cell? ⟨y2.heap.size, 1, none⟩ = some (.slice y_o y_n y_c) ∧ W.cell? ⟨y2.heap.size, 2, none⟩ = some (.int .i64 y_e))
    (with_reducible first | assumption | exact KK3 _ hC3_0 | exact KK3 _ hC3_1 | exact KK3 _ hC3_2 | exact KK3 _ hC3_3 | exact ⟨cellS (KK3 _ hC3_3).1 ne_x _ _ _, cellS (KK3 _ hC3_3).2.1 ne_x _ _ _, cellS (KK3 _ hC3_3).2.2.1 ne_x _ _ _, cellS (KK3 _ hC3_3).2.2.2.1 ne_y _ _ _, cellS (KK3 _ hC3_3).2.2.2.2.1 ne_y _ _ _, cellS (KK3 _ hC3_3).2.2.2.2.2 ne_y _ _ _⟩ | fail)
    (first
      | (go_at_call 18; have _t := hs3_2; refine (r3plus_any l_A s_A (Nat.le_trans hT3_2.size (Nat.le_refl _)) l_B s_B (by omega)).mono ?_; rintro _ y3_3 ⟨v, rfl, nm3, hq3_3⟩; obtain ⟨n_g, n_o, n_n, n_c, n_e, rfl⟩ := nm3.shape; have hs3_3 : Below y3_2.heap.size y3_2 y3_3 := (by with_reducible first | exact hq3_3 | exact bel_trans (bel_alloc _ _) hq3_3 | exact bel_trans (bel_dr _ _) hq3_3); have hT3_3 := bel_trans hT3_2 hs3_3; have hC3_3 := bel_trans hC3_2 hs3_3; have x_D_3_3 := x_D_3_2.keeps hs3_3; have y_D_3_3 := y_D_3_2.keeps hs3_3; have hr := blk_on hs3_3 (blk_on hs3_2 (blk_on hs3_1 (blk_on hs3_0 r_k))); have k0 := (fun _ => blkC hr 0 rfl) hs3_3; have z0 := (fun _ => blkF hr 0) hs3_3; have k1 := (fun _ => blkC hr 1 rfl) hs3_3; have z1 := (fun _ => blkF hr 1) hs3_3; have k2 := (fun _ => blkC hr 2 rfl) hs3_3; have z2 := (fun _ => blkF hr 2) hs3_3)
      | (go_at_call 19; have _t := hs3_1; refine (r3times_any (y_D_3_1.keeps (by with_reducible first | exact bel_refl _ | exact bel_alloc _ _ | exact bel_dr _ _)).num (y_D_3_1.keeps (by with_reducible first | exact bel_refl _ | exact bel_alloc _ _ | exact bel_dr _ _)).num B2 B2 (by omega)).mono ?_; rintro _ y3_2 ⟨v, s_V, rfl, nb3, s_E, s_B⟩; obtain ⟨s_g, s_o, s_n, s_c, s_e, rfl⟩ := dans_shape nb3; have hq3_2 := nb3.below; have s_A := nb3.dan.lower (Nat.le_trans hT3_1.size (by with_reducible first | exact Nat.le_refl _ | exact (bel_alloc _ _).size | exact (bel_dr _ _).size)); have hs3_2 : Below y3_1.heap.size y3_1 y3_2 := (by with_reducible first | exact hq3_2 | exact bel_trans (bel_alloc _ _) hq3_2 | exact bel_trans (bel_dr _ _) hq3_2); have hT3_2 := bel_trans hT3_1 hs3_2; have hC3_2 := bel_trans hC3_1 hs3_2; have x_D_3_2 := x_D_3_1.keeps hs3_2; have y_D_3_2 := y_D_3_1.keeps hs3_2; have l_A := l_A.keeps hs3_2)
      | (go_at_call 19; refine (r3times_any (x_D_3_0.keeps (by with_reducible first | exact bel_refl _ | exact bel_alloc _ _ | exact bel_dr _ _)).num (x_D_3_0.keeps (by with_reducible first | exact bel_refl _ | exact bel_alloc _ _ | exact bel_dr _ _)).num B1 B1 (by omega)).mono ?_; rintro _ y3_1 ⟨v, l_V, rfl, na3, l_E, l_B⟩; obtain ⟨l_g, l_o, l_n, l_c, l_e, rfl⟩ := dans_shape na3; have hq3_1 := na3.below; have l_A := na3.dan.lower (Nat.le_trans hT3_0.size (by with_reducible first | exact Nat.le_refl _ | exact (bel_alloc _ _).size | exact (bel_dr _ _).size)); have hs3_1 : Below x3.drew.heap.size x3.drew y3_1 := (by with_reducible first | exact hq3_1 | exact bel_trans (bel_alloc _ _) hq3_1 | exact bel_trans (bel_dr _ _) hq3_1); have hT3_1 := bel_trans hT3_0 hs3_1; have hC3_1 := bel_trans hC3_0 hs3_1; have x_D_3_1 := x_D_3_0.keeps hs3_1; have y_D_3_1 := y_D_3_0.keeps hs3_1))
  go_wp2
  refine bodyPost_ret (v := .agg #[.bool n_g, .slice n_o n_n n_c, .int .i64 n_e]) (by simp [results, Tryd.results11, go_sem, k0, k1, k2]) rfl ⟨_, l_V + s_V, rfl, dan_res3 nm3 hr _ _ _, bel_set3 hT3_3 (by omega) _ _ _, ⟨l_V, s_V, l_E, s_E, rfl⟩, (l_B.add s_B (by decide)).up (by decide) (by decide)⟩
end Go.Proofs.YtkaidfbnhdhldaaDoor

/-
  What a row gives: a point that came in, as the walks want it.
-/
namespace Go.Proofs.YtkaidfbnhdhldaaDoor
open Go Go.ChangeShapes Go.WideShapes Go.ChangeAt Go.RowKit Go.Proofs.YtkaidfbnhdhldaaDoor.M
set_option linter.unusedSimpArgs false
set_option linter.unusedVariables false

theorem q_cellsPoint : Tryd.prog.cellsOf 23 = 2 := by kernel_rfl
theorem q_cellsInt : Tryd.prog.cellsOf 3 = 1 := by kernel_rfl
set_option maxRecDepth 100000 in
/-- A point's cells, off its reading. -/
theorem point_cells {H : Type} {enc : TypeId × Value → H} {W : World} {n : Nat} {cs : List Value} {x : DataW H × List MemPlace}
    (h : DataW.trod enc Tryd.prog W 0 (fun _ => true) true n 23 cs = some x) :
    ∃ a b : Int, cs = [.int .i64 a, .int .i64 b] ∧ rng a ∧ rng b := by
  obtain ⟨xs, m, _, rfl, hl, hlen, hf⟩ := DataW.trod_struct Tryd.underlying23 h
  rw [q_cellsPoint] at hl
  match cs, hl with
  | [v0, v1], _ =>
    match xs, hlen with
    | [y0, y1], _ =>
      have f0 : DataW.trod enc Tryd.prog W 0 (fun _ => true) true m 3 (([v0, v1].drop 0).take (Tryd.prog.cellsOf 3)) = some y0 := hf 0 _ rfl
      have f1 : DataW.trod enc Tryd.prog W 0 (fun _ => true) true m 3 (([v0, v1].drop 1).take (Tryd.prog.cellsOf 3)) = some y1 := hf 1 _ rfl
      rw [q_cellsInt] at f0 f1
      simp only [List.drop_zero, List.drop_succ_cons, List.take_succ_cons, List.take_zero] at f0 f1
      obtain ⟨k0, e0, _, w0⟩ := DataW.trod_int Tryd.underlying3 f0
      obtain ⟨k1, e1, _, w1⟩ := DataW.trod_int Tryd.underlying3 f1
      simp at e0 e1
      subst e0 e1
      exact ⟨k0, k1, rfl, rng_of w0, rng_of w1⟩
set_option maxRecDepth 100000 in
theorem point_of {H : Type} {enc : TypeId × Value → H} {W : World} {base : Nat} {v : Value} {d : DataW H} {p : List MemPlace} (hv : Value.okWide Tryd.prog W .any base 23 v)
    (h : DataW.Trod enc Tryd.prog W 0 (fun _ => true) true 23 v d p) : ∃ a b : Int, v = .agg #[.int .i64 a, .int .i64 b] ∧ rng a ∧ rng b := by
  obtain ⟨cs, rfl, hc⟩ := okWide_struct Tryd.underlying23 hv
  obtain ⟨fuel, hf⟩ := h
  obtain ⟨a, b, hr, h1, h2⟩ := point_cells hf
  refine ⟨a, b, ?_, h1, h2⟩
  congr 1
  have : cs.toList = [.int .i64 a, .int .i64 b] := by simpa [Value.cells] using hr
  exact Array.toList_inj.1 this
end Go.Proofs.YtkaidfbnhdhldaaDoor
