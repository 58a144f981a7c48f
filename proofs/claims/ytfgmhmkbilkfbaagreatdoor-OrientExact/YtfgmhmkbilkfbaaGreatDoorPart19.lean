/-
  Parts of the proof, one behind another.
-/
import Derived.Test.YtfgmhmkbilkfbaaGreatDoorPart16
import Derived.Test.YtfgmhmkbilkfbaaGreatDoorPart17
import Derived.Test.YtfgmhmkbilkfbaaGreatDoorPart18
import Derived.Deep.RegionHeld3
import Derived.Test.YtfgmhmkbilkfbaaGreatDoorPart8
import Derived.Test.YtfgmhmkbilkfbaaGreatDoorPart9
/-
  Package orient: exact, by its contract: the exact value of an orientation.
-/
namespace Go.Proofs.YtfgmhmkbilkfbaaGreatDoor
open Go Go.RowKit Go.Proofs.YtfgmhmkbilkfbaaGreatDoor.M
set_option linter.unusedSimpArgs false
set_option linter.unusedVariables false

theorem cellR {W y : World} (hb : Below W.heap.size W y) : ∀ p, (W.cell? p).isSome = true → y.cell? p = W.cell? p := fun p hp => by
  obtain ⟨v, hv⟩ := Option.isSome_iff_exists.1 hp
  rw [hv]; exact q_cell hv hb
theorem frozR {W y : World} (hb : Below W.heap.size W y) : ∀ p, (W.cell? p).isSome = true → y.frozen? p = W.frozen? p := fun p hp => by
  obtain ⟨v, hv⟩ := Option.isSome_iff_exists.1 hp
  unfold World.frozen?
  rw [hb.block _ (World.block_lt_of_cell? W _ hv)]
theorem blk_on {W y : World} (hb : Below W.heap.size W y) {g : Nat} {X : Obj} (h : W.heap[g]? = some X) : y.heap[g]? = some X := (hb.block _ (Array.getElem?_eq_some_iff.1 h).1).trans h
theorem cellS {W : World} {p : Addr} {v : Value} {o : Nat} (h : W.cell? p = some v) (hp : p.block ≠ o) (x y z : Value) : (((W.setCell ⟨o, 0, none⟩ x).setCell ⟨o, 1, none⟩ y).setCell ⟨o, 2, none⟩ z).cell? p = some v :=
  ((((Wr.refl o W).setCell 0 x |>.setCell 1 y).setCell 2 z).cell (World.block_lt_of_cell? W _ h) hp).trans h
/-- What is answered, put into the result's own block. -/
theorem dan_res3 {B : Nat} {w3 : World} {V : Int} {v : Value} (hv : DAn B w3 V v) {g : Nat} {xs : Array Value} {z : Nat × Nat} (hg : w3.heap[g]? = some (.cells xs 27 z)) (a b c : Value) :
    DAn B (((w3.setCell ⟨g, 0, none⟩ a).setCell ⟨g, 1, none⟩ b).setCell ⟨g, 2, none⟩ c) V v := hv.of_blocks (ints_set3 hg a b c)
/-- The exact value of an orientation, in the scale. -/
def Det (a1 a2 b1 b2 V : Int) : Prop := ∃ C D, C * 2 ^ 4194304 = a1 * b2 ∧ D * 2 ^ 4194304 = a2 * b1 ∧ V = C - D
theorem Det.unique {a1 a2 b1 b2 V V' : Int} (h : Det a1 a2 b1 b2 V) (k : Det a1 a2 b1 b2 V') : V = V' := by
  obtain ⟨C, D, h1, h2, rfl⟩ := h
  obtain ⟨C', D', k1, k2, rfl⟩ := k
  rw [scale_inj (h1.trans k1.symm), scale_inj (h2.trans k2.symm)]
set_option maxRecDepth 100000 in
set_option maxHeartbeats 8000000 in
theorem oexact_any {ax ay bx by' cx cy : Int} (pax : pok ax = true) (pay : pok ay = true) (pbx : pok bx = true) (pby : pok by' = true) (pcx : pok cx = true) (pcy : pok cy = true) (w : World) (H : Hold4 w) :
    Calls Tryz.prog 12 #[.agg #[.int .i64 ax, .int .i64 ay], .agg #[.int .i64 bx, .int .i64 by'], .agg #[.int .i64 cx, .int .i64 cy]] w fun r w' => ∃ v V, r = .returned v ∧ DAns w w' V v ∧ Det (patV ax - patV cx) (patV ay - patV cy) (patV bx - patV cx) (patV by' - patV cy) V ∧ Bd 8100 V := by
  have A1 : Hid (∀ W, Hold4 W → Calls Tryz.prog 22 #[.int .i64 ax, .int .i64 cx] W fun r w' => ∃ v, r = .returned v ∧ DAns W w' (patV ax - patV cx) v) := fun W h => oapart_any pax pcx W h
  have A2 : Hid (∀ W, Hold4 W → Calls Tryz.prog 22 #[.int .i64 by', .int .i64 cy] W fun r w' => ∃ v, r = .returned v ∧ DAns W w' (patV by' - patV cy) v) := fun W h => oapart_any pby pcy W h
  have A3 : Hid (∀ W, Hold4 W → Calls Tryz.prog 22 #[.int .i64 ay, .int .i64 cy] W fun r w' => ∃ v, r = .returned v ∧ DAns W w' (patV ay - patV cy) v) := fun W h => oapart_any pay pcy W h
  have A4 : Hid (∀ W, Hold4 W → Calls Tryz.prog 22 #[.int .i64 bx, .int .i64 cx] W fun r w' => ∃ v, r = .returned v ∧ DAns W w' (patV bx - patV cx) v) := fun W h => oapart_any pbx pcx W h
  have B1 := (patV_bd pax).sub (patV_bd pcx) (by decide)
  have B2 := (patV_bd pby).sub (patV_bd pcy) (by decide)
  have B3 := (patV_bd pay).sub (patV_bd pcy) (by decide)
  have B4 := (patV_bd pbx).sub (patV_bd pcx) (by decide)
  generalize patV ax - patV cx = a1 at *
  generalize patV by' - patV cy = b2 at *
  generalize patV ay - patV cy = a2 at *
  generalize patV bx - patV cx = b1 at *
  clear pax pay pbx pby pcx pcy
  have hb0 := bel_a4 w (.cells #[.int .i64 ax, .int .i64 ay] 23) (.cells #[.int .i64 bx, .int .i64 by'] 23) (.cells #[.int .i64 cx, .int .i64 cy] 23) (.cells #[.bool false, .slice none 0 0, .int .i64 0] 27)
  have a_k := h4_0 w (.cells #[.int .i64 ax, .int .i64 ay] 23) (.cells #[.int .i64 bx, .int .i64 by'] 23) (.cells #[.int .i64 cx, .int .i64 cy] 23) (.cells #[.bool false, .slice none 0 0, .int .i64 0] 27)
  have b_k := h4_1 w (.cells #[.int .i64 ax, .int .i64 ay] 23) (.cells #[.int .i64 bx, .int .i64 by'] 23) (.cells #[.int .i64 cx, .int .i64 cy] 23) (.cells #[.bool false, .slice none 0 0, .int .i64 0] 27)
  have c_k := h4_2 w (.cells #[.int .i64 ax, .int .i64 ay] 23) (.cells #[.int .i64 bx, .int .i64 by'] 23) (.cells #[.int .i64 cx, .int .i64 cy] 23) (.cells #[.bool false, .slice none 0 0, .int .i64 0] 27)
  have r_k := h4_3 w (.cells #[.int .i64 ax, .int .i64 ay] 23) (.cells #[.int .i64 bx, .int .i64 by'] 23) (.cells #[.int .i64 cx, .int .i64 cy] 23) (.cells #[.bool false, .slice none 0 0, .int .i64 0] 27)
  go_enter Tryz.func12, Tryz.ntmps12
  go_wp2_with fail
  rename_i Q0 K00 hK00
  generalize (((w.alloc (.cells #[.int .i64 ax, .int .i64 ay] 23)).alloc (.cells #[.int .i64 bx, .int .i64 by'] 23)).alloc (.cells #[.int .i64 cx, .int .i64 cy] 23)).alloc (.cells #[.bool false, .slice none 0 0, .int .i64 0] 27) = x0 at hb0 a_k b_k c_k r_k ⊢
  have H := H.keeps hb0
  have hK1 := hK00
  have HN1 : ∀ (g : Nat) (x1 : World) (t : Array Value) (l_g : Bool) (l_o : Option Addr) (l_n l_c : Nat) (l_e : Int) (l_V : Int), #[t.getD 0 undef, t.getD 1 undef, t.getD 2 undef, .pointer (some ⟨w.heap.size, 0, none⟩), .pointer (some ⟨w.heap.size + 1, 0, none⟩), .pointer (some ⟨w.heap.size + 1 + 1, 0, none⟩), .pointer (some ⟨w.heap.size + 1 + 1 + 1, 0, none⟩), .pointer (some ⟨g, 0, none⟩), t.getD 8 undef, t.getD 9 undef, t.getD 10 undef, t.getD 11 undef, t.getD 12 undef, t.getD 13 undef, t.getD 14 undef, t.getD 15 undef, t.getD 16 undef, t.getD 17 undef, t.getD 18 undef, t.getD 19 undef, t.getD 20 undef, t.getD 21 undef, t.getD 22 undef, t.getD 23 undef, t.getD 24 undef, t.getD 25 undef, t.getD 26 undef, t.getD 27 undef, t.getD 28 undef, t.getD 29 undef, t.getD 30 undef, t.getD 31 undef, t.getD 32 undef, t.getD 33 undef, t.getD 34 undef, t.getD 35 undef, t.getD 36 undef, t.getD 37 undef, t.getD 38 undef, t.getD 39 undef, t.getD 40 undef, t.getD 41 undef, t.getD 42 undef, t.getD 43 undef, t.getD 44 undef, t.getD 45 undef, t.getD 46 undef, t.getD 47 undef] = t → x0.heap.size ≤ g → x1.heap[g]? = some (.cells #[.bool l_g, .slice l_o l_n l_c, .int .i64 l_e] 27 (0, 0)) → Below x0.heap.size x0 x1 → DAn w.heap.size x1 l_V (.agg #[.bool l_g, .slice l_o l_n l_c, .int .i64 l_e]) → l_V * 2 ^ 4194304 = a1 * b2 → Bd (2 * (4000 + 1)) l_V → Exit.then K00 Q0 Exit.normal { tmps := t, defers := [] } x1 := by
    intro g_l x1 t l_g l_o l_n l_c l_e l_V ht l_ge l_k hw1 l_D l_E l_B
    obtain ⟨u1, hu⟩ : ∃ u : Nat → Value, t = #[u 0, u 1, u 2, .pointer (some ⟨w.heap.size, 0, none⟩), .pointer (some ⟨w.heap.size + 1, 0, none⟩), .pointer (some ⟨w.heap.size + 1 + 1, 0, none⟩), .pointer (some ⟨w.heap.size + 1 + 1 + 1, 0, none⟩), .pointer (some ⟨g_l, 0, none⟩), u 8, u 9, u 10, u 11, u 12, u 13, u 14, u 15, u 16, u 17, u 18, u 19, u 20, u 21, u 22, u 23, u 24, u 25, u 26, u 27, u 28, u 29, u 30, u 31, u 32, u 33, u 34, u 35, u 36, u 37, u 38, u 39, u 40, u 41, u 42, u 43, u 44, u 45, u 46, u 47] := ⟨fun k => t.getD k undef, ht.symm⟩
    clear ht
    subst hu
    have H := H.keeps hw1
    have a_k := (hw1.block _ (Array.getElem?_eq_some_iff.1 a_k).1).trans a_k
    have b_k := (hw1.block _ (Array.getElem?_eq_some_iff.1 b_k).1).trans b_k
    have c_k := (hw1.block _ (Array.getElem?_eq_some_iff.1 c_k).1).trans c_k
    have r_k := (hw1.block _ (Array.getElem?_eq_some_iff.1 r_k).1).trans r_k
    have hb1 := bel_trans hb0 hw1
    go_wp2_with fail
    rename_i K2 hK2
    have HN2 : ∀ (g : Nat) (x2 : World) (t : Array Value) (s_g : Bool) (s_o : Option Addr) (s_n s_c : Nat) (s_e : Int) (s_V : Int), #[t.getD 0 undef, t.getD 1 undef, t.getD 2 undef, .pointer (some ⟨w.heap.size, 0, none⟩), .pointer (some ⟨w.heap.size + 1, 0, none⟩), .pointer (some ⟨w.heap.size + 1 + 1, 0, none⟩), .pointer (some ⟨w.heap.size + 1 + 1 + 1, 0, none⟩), .pointer (some ⟨g_l, 0, none⟩), t.getD 8 undef, .pointer (some ⟨g, 0, none⟩), t.getD 10 undef, t.getD 11 undef, t.getD 12 undef, t.getD 13 undef, t.getD 14 undef, t.getD 15 undef, t.getD 16 undef, t.getD 17 undef, t.getD 18 undef, t.getD 19 undef, t.getD 20 undef, t.getD 21 undef, t.getD 22 undef, t.getD 23 undef, t.getD 24 undef, t.getD 25 undef, t.getD 26 undef, t.getD 27 undef, t.getD 28 undef, t.getD 29 undef, t.getD 30 undef, t.getD 31 undef, t.getD 32 undef, t.getD 33 undef, t.getD 34 undef, t.getD 35 undef, t.getD 36 undef, t.getD 37 undef, t.getD 38 undef, t.getD 39 undef, t.getD 40 undef, t.getD 41 undef, t.getD 42 undef, t.getD 43 undef, t.getD 44 undef, t.getD 45 undef, t.getD 46 undef, t.getD 47 undef] = t → x1.heap.size ≤ g → x2.heap[g]? = some (.cells #[.bool s_g, .slice s_o s_n s_c, .int .i64 s_e] 27 (0, 0)) → Below x1.heap.size x1 x2 → DAn w.heap.size x2 s_V (.agg #[.bool s_g, .slice s_o s_n s_c, .int .i64 s_e]) → s_V * 2 ^ 4194304 = a2 * b1 → Bd (2 * (4000 + 1)) s_V → Exit.then K2 Q0 Exit.normal { tmps := t, defers := [] } x2 := by
      intro g_s x2 t s_g s_o s_n s_c s_e s_V ht s_ge s_k hw2 s_D s_E s_B
      obtain ⟨u2, hu⟩ : ∃ u : Nat → Value, t = #[u 0, u 1, u 2, .pointer (some ⟨w.heap.size, 0, none⟩), .pointer (some ⟨w.heap.size + 1, 0, none⟩), .pointer (some ⟨w.heap.size + 1 + 1, 0, none⟩), .pointer (some ⟨w.heap.size + 1 + 1 + 1, 0, none⟩), .pointer (some ⟨g_l, 0, none⟩), u 8, .pointer (some ⟨g_s, 0, none⟩), u 10, u 11, u 12, u 13, u 14, u 15, u 16, u 17, u 18, u 19, u 20, u 21, u 22, u 23, u 24, u 25, u 26, u 27, u 28, u 29, u 30, u 31, u 32, u 33, u 34, u 35, u 36, u 37, u 38, u 39, u 40, u 41, u 42, u 43, u 44, u 45, u 46, u 47] := ⟨fun k => t.getD k undef, ht.symm⟩
      clear ht
      subst hu
      have H := H.keeps hw2
      have a_k := (hw2.block _ (Array.getElem?_eq_some_iff.1 a_k).1).trans a_k
      have b_k := (hw2.block _ (Array.getElem?_eq_some_iff.1 b_k).1).trans b_k
      have c_k := (hw2.block _ (Array.getElem?_eq_some_iff.1 c_k).1).trans c_k
      have r_k := (hw2.block _ (Array.getElem?_eq_some_iff.1 r_k).1).trans r_k
      have l_k := (hw2.block _ (Array.getElem?_eq_some_iff.1 l_k).1).trans l_k
      have l_D := l_D.keeps hw2
      have hb2 := bel_trans hb1 hw2
      have f_l0 := blkC l_k 0 rfl
      have f_l1 := blkC l_k 1 rfl
      have f_l2 := blkC l_k 2 rfl
      have f_s0 := blkC s_k 0 rfl
      have f_s1 := blkC s_k 1 rfl
      have f_s2 := blkC s_k 2 rfl
      go_wp2_with fail
      clear f_l0 f_l1 f_l2 f_s0 f_s1 f_s2
      have hs0 := (Array.getElem?_eq_some_iff.1 r_k).1
      refine (sub_B l_D.num s_D.num l_B s_B (by omega) H.tab).mono ?_
      rintro _ y3 ⟨v, rfl, h3⟩
      obtain ⟨n_g, n_o, n_n, n_c, n_e, rfl⟩ := dans_shape h3
      have hw3 := h3.below
      have n_D := h3.num
      have H := H.keeps hw3
      have a_k := (hw3.block _ (Array.getElem?_eq_some_iff.1 a_k).1).trans a_k
      have b_k := (hw3.block _ (Array.getElem?_eq_some_iff.1 b_k).1).trans b_k
      have c_k := (hw3.block _ (Array.getElem?_eq_some_iff.1 c_k).1).trans c_k
      have r_k := (hw3.block _ (Array.getElem?_eq_some_iff.1 r_k).1).trans r_k
      have l_k := (hw3.block _ (Array.getElem?_eq_some_iff.1 l_k).1).trans l_k
      have l_D := l_D.keeps hw3
      have s_k := (hw3.block _ (Array.getElem?_eq_some_iff.1 s_k).1).trans s_k
      have s_D := s_D.keeps hw3
      have hb3 := bel_trans hb2 hw3
      have r_k := heap_past (.cells #[.bool n_g, .slice n_o n_n n_c, .int .i64 n_e] 27) r_k
      have k0 := blkC r_k 0 rfl
      have k1 := blkC r_k 1 rfl
      have k2 := blkC r_k 2 rfl
      have z0 := blkF r_k 0
      have z1 := blkF r_k 1
      have z2 := blkF r_k 2
      go_wp2
      refine bodyPost_ret (v := .agg #[.bool n_g, .slice n_o n_n n_c, .int .i64 n_e]) (by simp [results, Tryz.results12, go_sem, k0, k1, k2]) rfl ⟨_, l_V - s_V, rfl, ?_, ⟨l_V, s_V, l_E, s_E, rfl⟩, ?_⟩
      · exact dans_res3 (g := w.heap.size + 3) (dans_past h3 _) (by assumption) (by omega) hs0 _ _ _
      · exact (l_B.sub s_B (by decide)).up (by decide) (by decide)
    have KK2 : ∀ W, Below x1.heap.size x1 W → W.cell? ⟨w.heap.size, 1, none⟩ = some (.int .i64 ay) ∧ W.cell? ⟨w.heap.size + 2, 1, none⟩ = some (.int .i64 cy) ∧ W.cell? ⟨w.heap.size + 1, 0, none⟩ = some (.int .i64 bx) ∧ W.cell? ⟨w.heap.size + 2, 0, none⟩ = some (.int .i64 cx) := fun W hb => ⟨q_cell (blkC a_k 1 rfl) hb, q_cell (blkC c_k 1 rfl) hb, q_cell (blkC b_k 0 rfl) hb, q_cell (blkC c_k 0 rfl) hb⟩
    have hC2_0 := (bel_refl x1).drew
    have hT2_0 : Below w.heap.size w x1.drew := hb1.drew
    have H_2_0 := H.keeps (bel_refl x1).drew
    have hs2_0 := (bel_refl x1).drew
    go_region_held3 (fun W => W.cell? ⟨w.heap.size, 1, none⟩ = some (.int .i64 ay) ∧ W.cell? ⟨w.heap.size + 2, 1, none⟩ = some (.int .i64 cy) ∧ W.cell? ⟨w.heap.size + 1, 0, none⟩ = some (.int .i64 bx) ∧ W.cell? ⟨w.heap.size + 2, 0, none⟩ = some (.int .i64 cx))
      (first | assumption | exact KK2 _ hC2_0 | exact KK2 _ hC2_1 | exact KK2 _ hC2_2 | exact KK2 _ hC2_3 | exact KK2 _ (bel_trans hC2_0 (bel_alloc _ _)) | exact KK2 _ (bel_trans hC2_1 (bel_alloc _ _)) | exact KK2 _ (bel_trans hC2_2 (bel_alloc _ _)) | exact KK2 _ (bel_trans hC2_3 (bel_alloc _ _)) | exact KK2 _ (bel_set3' hC2_3 (Nat.le_refl _) _ _ _) | exact KK2 _ (bel_set3' hC2_3 hC2_1.size _ _ _) | exact KK2 _ (bel_set3' hC2_3 hC2_2.size _ _ _) | fail)
      (first
        | (go_at_call 21; have _t := hs2_2; refine (mul_B (np2.keeps (by first | exact bel_refl _ | exact bel_alloc _ _)) (nb2.num.keeps (by first | exact bel_refl _ | exact bel_alloc _ _)) B3 B4 (by omega) (H_2_2.keeps (by first | exact bel_refl _ | exact bel_alloc _ _)).tab).mono ?_; rintro _ y2_3 ⟨v, s_V, rfl, nm2, s_E, s_B⟩; obtain ⟨s_g, s_o, s_n, s_c, s_e, rfl⟩ := dans_shape nm2; have hq2_3 := nm2.below; have s_A := nm2.dan.lower (Nat.le_trans hT2_2.size (by first | exact Nat.le_refl _ | exact (bel_alloc _ _).size)); have hs2_3 : Below y2_2.heap.size y2_2 y2_3 := (by first | exact hq2_3 | exact bel_trans (bel_alloc _ _) hq2_3); have hT2_3 := bel_trans hT2_2 hs2_3; have hC2_3 := bel_trans hC2_2 hs2_3; have H_2_3 := H_2_2.keeps hs2_3; first | (have qz2 : y2_3.heap[x1.heap.size]? = some (.cells #[.bool false, .slice none 0 0, .int .i64 0] 27 (0, 0)) := blk_on hq2_3 (blk_on hq2_2 (blk_on hq2_1 (heap_a1 x1 (.cells #[.bool false, .slice none 0 0, .int .i64 0] 27)))); have cz2_0 := blkC qz2 0 rfl; have zz2_0 := blkF qz2 0; have cz2_1 := blkC qz2 1 rfl; have zz2_1 := blkF qz2 1; have cz2_2 := blkC qz2 2 rfl; have zz2_2 := blkF qz2 2) | (have qz2 : y2_3.heap[y2_1.heap.size]? = some (.cells #[.bool false, .slice none 0 0, .int .i64 0] 27 (0, 0)) := blk_on hq2_3 (blk_on hq2_2 (heap_a1 _ _)); have cz2_0 := blkC qz2 0 rfl; have zz2_0 := blkF qz2 0; have cz2_1 := blkC qz2 1 rfl; have zz2_1 := blkF qz2 1; have cz2_2 := blkC qz2 2 rfl; have zz2_2 := blkF qz2 2) | (have qz2 : y2_3.heap[y2_2.heap.size]? = some (.cells #[.bool false, .slice none 0 0, .int .i64 0] 27 (0, 0)) := blk_on hq2_3 (heap_a1 _ _); have cz2_0 := blkC qz2 0 rfl; have zz2_0 := blkF qz2 0; have cz2_1 := blkC qz2 1 rfl; have zz2_1 := blkF qz2 1; have cz2_2 := blkC qz2 2 rfl; have zz2_2 := blkF qz2 2) | skip)
        | (go_at_call 22; have _t := hs2_1; refine (A4.out _ (H_2_1.keeps (by first | exact bel_refl _ | exact bel_alloc _ _))).mono ?_; rintro _ y2_2 ⟨v, rfl, nb2⟩; obtain ⟨q_g, q_o, q_n, q_c, q_e, rfl⟩ := dans_shape nb2; have hq2_2 := nb2.below; have hs2_2 : Below y2_1.heap.size y2_1 y2_2 := (by first | exact hq2_2 | exact bel_trans (bel_alloc _ _) hq2_2); have hT2_2 := bel_trans hT2_1 hs2_2; have hC2_2 := bel_trans hC2_1 hs2_2; have H_2_2 := H_2_1.keeps hs2_2; have np2 := na2.num.keeps hs2_2)
        | (go_at_call 22; refine (A3.out _ (H_2_0.keeps (by first | exact bel_refl _ | exact bel_alloc _ _))).mono ?_; rintro _ y2_1 ⟨v, rfl, na2⟩; obtain ⟨p_g, p_o, p_n, p_c, p_e, rfl⟩ := dans_shape na2; have hq2_1 := na2.below; have hs2_1 : Below x1.drew.heap.size x1.drew y2_1 := (by first | exact hq2_1 | exact bel_trans (bel_alloc _ _) hq2_1); have hT2_1 := bel_trans hT2_0 hs2_1; have hC2_1 := bel_trans hC2_0 hs2_1; have H_2_1 := H_2_0.keeps hs2_1))
    · exact HN2 y2_3.heap.size _ _ _ _ _ _ _ s_V (by kernel_rfl) ((bel_trans (bel_trans (bel_trans (hs2_0) hs2_1) hs2_2) hs2_3).size) (heap_a1 _ _) (bel_trans (bel_trans (bel_trans (bel_trans (hs2_0) hs2_1) hs2_2) hs2_3) (bel_alloc _ _)) (s_A.keeps (bel_alloc _ _)) s_E s_B
    · exact HN2 y2_2.heap.size _ _ _ _ _ _ _ s_V (by kernel_rfl) ((bel_trans (bel_trans (hs2_0) hs2_1) hs2_2).size) (heap_set (heap_set (heap_set (blk_on hq2_3 (heap_a1 _ _)) 0 _) 1 _) 2 _) (bel_set3' (bel_trans (bel_trans (bel_trans (hs2_0) hs2_1) hs2_2) hs2_3) ((bel_trans (bel_trans (hs2_0) hs2_1) hs2_2).size) _ _ _) (dan_res3 s_A (blk_on hq2_3 (heap_a1 _ _)) _ _ _) s_E s_B
    · exact HN2 y2_1.heap.size _ _ _ _ _ _ _ s_V (by kernel_rfl) ((bel_trans (hs2_0) hs2_1).size) (heap_set (heap_set (heap_set (blk_on hq2_3 (blk_on hq2_2 (heap_a1 _ _))) 0 _) 1 _) 2 _) (bel_set3' (bel_trans (bel_trans (bel_trans (hs2_0) hs2_1) hs2_2) hs2_3) ((bel_trans (hs2_0) hs2_1).size) _ _ _) (dan_res3 s_A (blk_on hq2_3 (blk_on hq2_2 (heap_a1 _ _))) _ _ _) s_E s_B
    · exact HN2 x1.heap.size _ _ _ _ _ _ _ s_V (by kernel_rfl) (Nat.le_refl _) (heap_set (heap_set (heap_set (blk_on hq2_3 (blk_on hq2_2 (blk_on hq2_1 (heap_a1 x1 (.cells #[.bool false, .slice none 0 0, .int .i64 0] 27))))) 0 _) 1 _) 2 _) (bel_set3' (bel_trans (bel_trans (bel_trans (hs2_0) hs2_1) hs2_2) hs2_3) (Nat.le_refl _) _ _ _) (dan_res3 s_A (blk_on hq2_3 (blk_on hq2_2 (blk_on hq2_1 (heap_a1 x1 (.cells #[.bool false, .slice none 0 0, .int .i64 0] 27))))) _ _ _) s_E s_B
  have KK1 : ∀ W, Below x0.heap.size x0 W → W.cell? ⟨w.heap.size, 0, none⟩ = some (.int .i64 ax) ∧ W.cell? ⟨w.heap.size + 2, 0, none⟩ = some (.int .i64 cx) ∧ W.cell? ⟨w.heap.size + 1, 1, none⟩ = some (.int .i64 by') ∧ W.cell? ⟨w.heap.size + 2, 1, none⟩ = some (.int .i64 cy) := fun W hb => ⟨q_cell (blkC a_k 0 rfl) hb, q_cell (blkC c_k 0 rfl) hb, q_cell (blkC b_k 1 rfl) hb, q_cell (blkC c_k 1 rfl) hb⟩
  have hC1_0 := (bel_refl x0).drew
  have hT1_0 : Below w.heap.size w x0.drew := hb0.drew
  have H_1_0 := H.keeps (bel_refl x0).drew
  have hs1_0 := (bel_refl x0).drew
  go_region_held3 (fun W => W.cell? ⟨w.heap.size, 0, none⟩ = some (.int .i64 ax) ∧ W.cell? ⟨w.heap.size + 2, 0, none⟩ = some (.int .i64 cx) ∧ W.cell? ⟨w.heap.size + 1, 1, none⟩ = some (.int .i64 by') ∧ W.cell? ⟨w.heap.size + 2, 1, none⟩ = some (.int .i64 cy))
    (first | assumption | exact KK1 _ hC1_0 | exact KK1 _ hC1_1 | exact KK1 _ hC1_2 | exact KK1 _ hC1_3 | exact KK1 _ (bel_trans hC1_0 (bel_alloc _ _)) | exact KK1 _ (bel_trans hC1_1 (bel_alloc _ _)) | exact KK1 _ (bel_trans hC1_2 (bel_alloc _ _)) | exact KK1 _ (bel_trans hC1_3 (bel_alloc _ _)) | exact KK1 _ (bel_set3' hC1_3 (Nat.le_refl _) _ _ _) | exact KK1 _ (bel_set3' hC1_3 hC1_1.size _ _ _) | exact KK1 _ (bel_set3' hC1_3 hC1_2.size _ _ _) | fail)
    (first
      | (go_at_call 21; have _t := hs1_2; refine (mul_B (np1.keeps (by first | exact bel_refl _ | exact bel_alloc _ _)) (nb1.num.keeps (by first | exact bel_refl _ | exact bel_alloc _ _)) B1 B2 (by omega) (H_1_2.keeps (by first | exact bel_refl _ | exact bel_alloc _ _)).tab).mono ?_; rintro _ y1_3 ⟨v, l_V, rfl, nm1, l_E, l_B⟩; obtain ⟨l_g, l_o, l_n, l_c, l_e, rfl⟩ := dans_shape nm1; have hq1_3 := nm1.below; have l_A := nm1.dan.lower (Nat.le_trans hT1_2.size (by first | exact Nat.le_refl _ | exact (bel_alloc _ _).size)); have hs1_3 : Below y1_2.heap.size y1_2 y1_3 := (by first | exact hq1_3 | exact bel_trans (bel_alloc _ _) hq1_3); have hT1_3 := bel_trans hT1_2 hs1_3; have hC1_3 := bel_trans hC1_2 hs1_3; have H_1_3 := H_1_2.keeps hs1_3; first | (have qz1 : y1_3.heap[x0.heap.size]? = some (.cells #[.bool false, .slice none 0 0, .int .i64 0] 27 (0, 0)) := blk_on hq1_3 (blk_on hq1_2 (blk_on hq1_1 (heap_a1 x0 (.cells #[.bool false, .slice none 0 0, .int .i64 0] 27)))); have cz1_0 := blkC qz1 0 rfl; have zz1_0 := blkF qz1 0; have cz1_1 := blkC qz1 1 rfl; have zz1_1 := blkF qz1 1; have cz1_2 := blkC qz1 2 rfl; have zz1_2 := blkF qz1 2) | (have qz1 : y1_3.heap[y1_1.heap.size]? = some (.cells #[.bool false, .slice none 0 0, .int .i64 0] 27 (0, 0)) := blk_on hq1_3 (blk_on hq1_2 (heap_a1 _ _)); have cz1_0 := blkC qz1 0 rfl; have zz1_0 := blkF qz1 0; have cz1_1 := blkC qz1 1 rfl; have zz1_1 := blkF qz1 1; have cz1_2 := blkC qz1 2 rfl; have zz1_2 := blkF qz1 2) | (have qz1 : y1_3.heap[y1_2.heap.size]? = some (.cells #[.bool false, .slice none 0 0, .int .i64 0] 27 (0, 0)) := blk_on hq1_3 (heap_a1 _ _); have cz1_0 := blkC qz1 0 rfl; have zz1_0 := blkF qz1 0; have cz1_1 := blkC qz1 1 rfl; have zz1_1 := blkF qz1 1; have cz1_2 := blkC qz1 2 rfl; have zz1_2 := blkF qz1 2) | skip)
      | (go_at_call 22; have _t := hs1_1; refine (A2.out _ (H_1_1.keeps (by first | exact bel_refl _ | exact bel_alloc _ _))).mono ?_; rintro _ y1_2 ⟨v, rfl, nb1⟩; obtain ⟨q_g, q_o, q_n, q_c, q_e, rfl⟩ := dans_shape nb1; have hq1_2 := nb1.below; have hs1_2 : Below y1_1.heap.size y1_1 y1_2 := (by first | exact hq1_2 | exact bel_trans (bel_alloc _ _) hq1_2); have hT1_2 := bel_trans hT1_1 hs1_2; have hC1_2 := bel_trans hC1_1 hs1_2; have H_1_2 := H_1_1.keeps hs1_2; have np1 := na1.num.keeps hs1_2)
      | (go_at_call 22; refine (A1.out _ (H_1_0.keeps (by first | exact bel_refl _ | exact bel_alloc _ _))).mono ?_; rintro _ y1_1 ⟨v, rfl, na1⟩; obtain ⟨p_g, p_o, p_n, p_c, p_e, rfl⟩ := dans_shape na1; have hq1_1 := na1.below; have hs1_1 : Below x0.drew.heap.size x0.drew y1_1 := (by first | exact hq1_1 | exact bel_trans (bel_alloc _ _) hq1_1); have hT1_1 := bel_trans hT1_0 hs1_1; have hC1_1 := bel_trans hC1_0 hs1_1; have H_1_1 := H_1_0.keeps hs1_1))
  · exact HN1 y1_3.heap.size _ _ _ _ _ _ _ l_V (by kernel_rfl) ((bel_trans (bel_trans (bel_trans (hs1_0) hs1_1) hs1_2) hs1_3).size) (heap_a1 _ _) (bel_trans (bel_trans (bel_trans (bel_trans (hs1_0) hs1_1) hs1_2) hs1_3) (bel_alloc _ _)) (l_A.keeps (bel_alloc _ _)) l_E l_B
  · exact HN1 y1_2.heap.size _ _ _ _ _ _ _ l_V (by kernel_rfl) ((bel_trans (bel_trans (hs1_0) hs1_1) hs1_2).size) (heap_set (heap_set (heap_set (blk_on hq1_3 (heap_a1 _ _)) 0 _) 1 _) 2 _) (bel_set3' (bel_trans (bel_trans (bel_trans (hs1_0) hs1_1) hs1_2) hs1_3) ((bel_trans (bel_trans (hs1_0) hs1_1) hs1_2).size) _ _ _) (dan_res3 l_A (blk_on hq1_3 (heap_a1 _ _)) _ _ _) l_E l_B
  · exact HN1 y1_1.heap.size _ _ _ _ _ _ _ l_V (by kernel_rfl) ((bel_trans (hs1_0) hs1_1).size) (heap_set (heap_set (heap_set (blk_on hq1_3 (blk_on hq1_2 (heap_a1 _ _))) 0 _) 1 _) 2 _) (bel_set3' (bel_trans (bel_trans (bel_trans (hs1_0) hs1_1) hs1_2) hs1_3) ((bel_trans (hs1_0) hs1_1).size) _ _ _) (dan_res3 l_A (blk_on hq1_3 (blk_on hq1_2 (heap_a1 _ _))) _ _ _) l_E l_B
  · exact HN1 x0.heap.size _ _ _ _ _ _ _ l_V (by kernel_rfl) (Nat.le_refl _) (heap_set (heap_set (heap_set (blk_on hq1_3 (blk_on hq1_2 (blk_on hq1_1 (heap_a1 x0 (.cells #[.bool false, .slice none 0 0, .int .i64 0] 27))))) 0 _) 1 _) 2 _) (bel_set3' (bel_trans (bel_trans (bel_trans (hs1_0) hs1_1) hs1_2) hs1_3) (Nat.le_refl _) _ _ _) (dan_res3 l_A (blk_on hq1_3 (blk_on hq1_2 (blk_on hq1_1 (heap_a1 x0 (.cells #[.bool false, .slice none 0 0, .int .i64 0] 27))))) _ _ _) l_E l_B
end Go.Proofs.YtfgmhmkbilkfbaaGreatDoor

/-
  Package orient: points, Exact, by their contracts; plumblaw10's good, num.
-/
namespace Go.Proofs.YtfgmhmkbilkfbaaGreatDoor
open Go Go.RowKit Go.Proofs.YtfgmhmkbilkfbaaGreatDoor.M
set_option linter.unusedSimpArgs false
set_option linter.unusedVariables false

set_option maxRecDepth 100000 in
theorem opoints_any {ax ay bx by' cx cy : Int} (rax : rng ax) (ray : rng ay) (rbx : rng bx) (rby : rng by') (rcx : rng cx) (rcy : rng cy) (w : World) :
    Calls Tryz.prog 11 #[.agg #[.int .i64 ax, .int .i64 ay], .agg #[.int .i64 bx, .int .i64 by'], .agg #[.int .i64 cx, .int .i64 cy]] w fun r w' => r = .returned (.bool ((pok ax && pok ay) && (pok bx && pok by') && (pok cx && pok cy))) ∧ Below w.heap.size w w' := by
  have CA : Hid (∀ W, Calls Tryz.prog 20 #[.agg #[.int .i64 ax, .int .i64 ay]] W fun e w' => e = .returned (.int .i64 (errF (pok ax && pok ay))) ∧ Below W.heap.size W w') := fun W => pointCheck rax ray W
  have CB : Hid (∀ W, Calls Tryz.prog 20 #[.agg #[.int .i64 bx, .int .i64 by']] W fun e w' => e = .returned (.int .i64 (errF (pok bx && pok by'))) ∧ Below W.heap.size W w') := fun W => pointCheck rbx rby W
  have CC : Hid (∀ W, Calls Tryz.prog 20 #[.agg #[.int .i64 cx, .int .i64 cy]] W fun e w' => e = .returned (.int .i64 (errF (pok cx && pok cy))) ∧ Below W.heap.size W w') := fun W => pointCheck rcx rcy W
  have hb0 := bel_a3 w (.cells #[.int .i64 ax, .int .i64 ay] 23) (.cells #[.int .i64 bx, .int .i64 by'] 23) (.cells #[.int .i64 cx, .int .i64 cy] 23)
  have a_k := h3_0 w (.cells #[.int .i64 ax, .int .i64 ay] 23) (.cells #[.int .i64 bx, .int .i64 by'] 23) (.cells #[.int .i64 cx, .int .i64 cy] 23)
  have b_k := h3_1 w (.cells #[.int .i64 ax, .int .i64 ay] 23) (.cells #[.int .i64 bx, .int .i64 by'] 23) (.cells #[.int .i64 cx, .int .i64 cy] 23)
  have c_k := h3_2 w (.cells #[.int .i64 ax, .int .i64 ay] 23) (.cells #[.int .i64 bx, .int .i64 by'] 23) (.cells #[.int .i64 cx, .int .i64 cy] 23)
  clear rax ray rbx rby rcx rcy
  have e0 : errF true = 0 := rfl
  have e1 : errF false = 10 := rfl
  generalize (pok ax && pok ay) = P at *
  generalize (pok bx && pok by') = Q at *
  generalize (pok cx && pok cy) = R at *
  cases P
  · rw [e1] at CA
    go_enter Tryz.func11, Tryz.ntmps11
    go_wp2_with fail
    generalize ((w.alloc (.cells #[.int .i64 ax, .int .i64 ay] 23)).alloc (.cells #[.int .i64 bx, .int .i64 by'] 23)).alloc (.cells #[.int .i64 cx, .int .i64 cy] 23) = x0 at hb0 a_k b_k c_k ⊢
    refine (CA.out _).mono ?_
    rintro _ y0 ⟨rfl, hw0⟩
    have b_k := (hw0.block _ (Array.getElem?_eq_some_iff.1 b_k).1).trans b_k
    have c_k := (hw0.block _ (Array.getElem?_eq_some_iff.1 c_k).1).trans c_k
    have hb1 := bel_trans hb0 hw0
    go_wp2
    all_goals go_ret
    all_goals exact ⟨rfl, by first | exact hb1 | exact hb1.drew⟩
  rw [e0] at CA
  cases Q
  · rw [e1] at CB
    go_enter Tryz.func11, Tryz.ntmps11
    go_wp2_with fail
    generalize ((w.alloc (.cells #[.int .i64 ax, .int .i64 ay] 23)).alloc (.cells #[.int .i64 bx, .int .i64 by'] 23)).alloc (.cells #[.int .i64 cx, .int .i64 cy] 23) = x0 at hb0 a_k b_k c_k ⊢
    refine (CA.out _).mono ?_
    rintro _ y0 ⟨rfl, hw0⟩
    have b_k := (hw0.block _ (Array.getElem?_eq_some_iff.1 b_k).1).trans b_k
    have c_k := (hw0.block _ (Array.getElem?_eq_some_iff.1 c_k).1).trans c_k
    have hb1 := bel_trans hb0 hw0
    have f10 := blkC b_k 0 rfl
    have f11 := blkC b_k 1 rfl
    go_wp2_with fail
    refine (CB.out _).mono ?_
    rintro _ y1 ⟨rfl, hw1⟩
    have c_k := (hw1.block _ (Array.getElem?_eq_some_iff.1 c_k).1).trans c_k
    have hb2 := bel_trans hb1 hw1
    go_wp2
    all_goals go_ret
    all_goals exact ⟨rfl, by first | exact hb2 | exact hb2.drew⟩
  rw [e0] at CB
  cases R
  · rw [e1] at CC
    go_enter Tryz.func11, Tryz.ntmps11
    go_wp2_with fail
    generalize ((w.alloc (.cells #[.int .i64 ax, .int .i64 ay] 23)).alloc (.cells #[.int .i64 bx, .int .i64 by'] 23)).alloc (.cells #[.int .i64 cx, .int .i64 cy] 23) = x0 at hb0 a_k b_k c_k ⊢
    refine (CA.out _).mono ?_
    rintro _ y0 ⟨rfl, hw0⟩
    have b_k := (hw0.block _ (Array.getElem?_eq_some_iff.1 b_k).1).trans b_k
    have c_k := (hw0.block _ (Array.getElem?_eq_some_iff.1 c_k).1).trans c_k
    have hb1 := bel_trans hb0 hw0
    have f10 := blkC b_k 0 rfl
    have f11 := blkC b_k 1 rfl
    go_wp2_with fail
    refine (CB.out _).mono ?_
    rintro _ y1 ⟨rfl, hw1⟩
    have c_k := (hw1.block _ (Array.getElem?_eq_some_iff.1 c_k).1).trans c_k
    have hb2 := bel_trans hb1 hw1
    have f20 := blkC c_k 0 rfl
    have f21 := blkC c_k 1 rfl
    go_wp2_with fail
    refine (CC.out _).mono ?_
    rintro _ y2 ⟨rfl, hw2⟩
    have hb3 := bel_trans hb2 hw2
    go_wp2
    all_goals go_ret
    all_goals exact ⟨rfl, by first | exact hb3 | exact hb3.drew⟩
  · rw [e0] at CC
    go_enter Tryz.func11, Tryz.ntmps11
    go_wp2_with fail
    generalize ((w.alloc (.cells #[.int .i64 ax, .int .i64 ay] 23)).alloc (.cells #[.int .i64 bx, .int .i64 by'] 23)).alloc (.cells #[.int .i64 cx, .int .i64 cy] 23) = x0 at hb0 a_k b_k c_k ⊢
    refine (CA.out _).mono ?_
    rintro _ y0 ⟨rfl, hw0⟩
    have b_k := (hw0.block _ (Array.getElem?_eq_some_iff.1 b_k).1).trans b_k
    have c_k := (hw0.block _ (Array.getElem?_eq_some_iff.1 c_k).1).trans c_k
    have hb1 := bel_trans hb0 hw0
    have f10 := blkC b_k 0 rfl
    have f11 := blkC b_k 1 rfl
    go_wp2_with fail
    refine (CB.out _).mono ?_
    rintro _ y1 ⟨rfl, hw1⟩
    have c_k := (hw1.block _ (Array.getElem?_eq_some_iff.1 c_k).1).trans c_k
    have hb2 := bel_trans hb1 hw1
    have f20 := blkC c_k 0 rfl
    have f21 := blkC c_k 1 rfl
    go_wp2_with fail
    refine (CC.out _).mono ?_
    rintro _ y2 ⟨rfl, hw2⟩
    have hb3 := bel_trans hb2 hw2
    go_wp2
    all_goals go_ret
    all_goals exact ⟨rfl, by first | exact hb3 | exact hb3.drew⟩
set_option maxRecDepth 100000 in
theorem ogood_any {ax ay bx by' cx cy : Int} (rax : rng ax) (ray : rng ay) (rbx : rng bx) (rby : rng by') (rcx : rng cx) (rcy : rng cy) (w : World) :
    Calls Tryz.prog 6 #[.agg #[.int .i64 ax, .int .i64 ay], .agg #[.int .i64 bx, .int .i64 by'], .agg #[.int .i64 cx, .int .i64 cy]] w fun r w' => r = .returned (.bool ((pok ax && pok ay) && (pok bx && pok by') && (pok cx && pok cy))) ∧ Below w.heap.size w w' := by
  have CA : Hid (∀ W, Calls Tryz.prog 13 #[.agg #[.int .i64 ax, .int .i64 ay]] W fun e w' => e = .returned (.bool (pok ax && pok ay)) ∧ Below W.heap.size W w') := fun W => q_refFinite rax ray W
  have CB : Hid (∀ W, Calls Tryz.prog 13 #[.agg #[.int .i64 bx, .int .i64 by']] W fun e w' => e = .returned (.bool (pok bx && pok by')) ∧ Below W.heap.size W w') := fun W => q_refFinite rbx rby W
  have CC : Hid (∀ W, Calls Tryz.prog 13 #[.agg #[.int .i64 cx, .int .i64 cy]] W fun e w' => e = .returned (.bool (pok cx && pok cy)) ∧ Below W.heap.size W w') := fun W => q_refFinite rcx rcy W
  have hb0 := bel_a3 w (.cells #[.int .i64 ax, .int .i64 ay] 23) (.cells #[.int .i64 bx, .int .i64 by'] 23) (.cells #[.int .i64 cx, .int .i64 cy] 23)
  have a_k := h3_0 w (.cells #[.int .i64 ax, .int .i64 ay] 23) (.cells #[.int .i64 bx, .int .i64 by'] 23) (.cells #[.int .i64 cx, .int .i64 cy] 23)
  have b_k := h3_1 w (.cells #[.int .i64 ax, .int .i64 ay] 23) (.cells #[.int .i64 bx, .int .i64 by'] 23) (.cells #[.int .i64 cx, .int .i64 cy] 23)
  have c_k := h3_2 w (.cells #[.int .i64 ax, .int .i64 ay] 23) (.cells #[.int .i64 bx, .int .i64 by'] 23) (.cells #[.int .i64 cx, .int .i64 cy] 23)
  clear rax ray rbx rby rcx rcy
  have e0 : errF true = 0 := rfl
  have e1 : errF false = 10 := rfl
  generalize (pok ax && pok ay) = P at *
  generalize (pok bx && pok by') = Q at *
  generalize (pok cx && pok cy) = R at *
  cases P <;> cases Q <;> cases R
  all_goals
    go_enter Tryz.func6, Tryz.ntmps6
    go_wp2_with fail
    generalize ((w.alloc (.cells #[.int .i64 ax, .int .i64 ay] 23)).alloc (.cells #[.int .i64 bx, .int .i64 by'] 23)).alloc (.cells #[.int .i64 cx, .int .i64 cy] 23) = x0 at hb0 a_k b_k c_k ⊢
    refine (CA.out _).mono ?_
    rintro _ y0 ⟨rfl, hw0⟩
    have b_k := (hw0.block _ (Array.getElem?_eq_some_iff.1 b_k).1).trans b_k
    have c_k := (hw0.block _ (Array.getElem?_eq_some_iff.1 c_k).1).trans c_k
    have hb1 := bel_trans hb0 hw0
    have f10 := blkC b_k 0 rfl
    have f11 := blkC b_k 1 rfl
    go_wp2_with fail
    refine (CB.out _).mono ?_
    rintro _ y1 ⟨rfl, hw1⟩
    have c_k := (hw1.block _ (Array.getElem?_eq_some_iff.1 c_k).1).trans c_k
    have hb2 := bel_trans hb1 hw1
    have f20 := blkC c_k 0 rfl
    have f21 := blkC c_k 1 rfl
    go_wp2_with fail
    refine (CC.out _).mono ?_
    rintro _ y2 ⟨rfl, hw2⟩
    have hb3 := bel_trans hb2 hw2
    go_wp2
    all_goals go_ret
    all_goals exact ⟨rfl, by first | exact hb3 | exact hb3.drew⟩
end Go.Proofs.YtfgmhmkbilkfbaaGreatDoor

/-
  Package orient: Exact, by its contract.
-/
namespace Go.Proofs.YtfgmhmkbilkfbaaGreatDoor
open Go Go.RowKit Go.Proofs.YtfgmhmkbilkfbaaGreatDoor.M
set_option linter.unusedSimpArgs false
set_option linter.unusedVariables false

set_option maxRecDepth 100000 in
set_option maxHeartbeats 2000000 in
theorem oExactF_yes {ax ay bx by' cx cy : Int} (rax : rng ax) (ray : rng ay) (rbx : rng bx) (rby : rng by') (rcx : rng cx) (rcy : rng cy) (pax : pok ax = true) (pay : pok ay = true) (pbx : pok bx = true) (pby : pok by' = true) (pcx : pok cx = true) (pcy : pok cy = true) (w : World) (H : Hold4 w) :
    Calls Tryz.prog 5 #[.agg #[.int .i64 ax, .int .i64 ay], .agg #[.int .i64 bx, .int .i64 by'], .agg #[.int .i64 cx, .int .i64 cy]] w fun r w' => ∃ v V, r = .returned (.tuple #[v, .int .i64 0]) ∧ DAns w w' V v ∧ Det (patV ax - patV cx) (patV ay - patV cy) (patV bx - patV cx) (patV by' - patV cy) V ∧ Bd 8100 V := by
  have CP : Hid (∀ W, Calls Tryz.prog 11 #[.agg #[.int .i64 ax, .int .i64 ay], .agg #[.int .i64 bx, .int .i64 by'], .agg #[.int .i64 cx, .int .i64 cy]] W fun r w' => r = .returned (.bool true) ∧ Below W.heap.size W w') := fun W => by
    have := opoints_any rax ray rbx rby rcx rcy W
    rw [pax, pay, pbx, pby, pcx, pcy] at this
    exact this
  have CE : Hid (∀ W, Hold4 W → Calls Tryz.prog 12 #[.agg #[.int .i64 ax, .int .i64 ay], .agg #[.int .i64 bx, .int .i64 by'], .agg #[.int .i64 cx, .int .i64 cy]] W fun r w' => ∃ v V, r = .returned v ∧ DAns W w' V v ∧ Det (patV ax - patV cx) (patV ay - patV cy) (patV bx - patV cx) (patV by' - patV cy) V ∧ Bd 8100 V) := fun W h => oexact_any pax pay pbx pby pcx pcy W h
  clear rax ray rbx rby rcx rcy pax pay pbx pby pcx pcy
  have hb0 := bel_a4 w (.cells #[.int .i64 ax, .int .i64 ay] 23) (.cells #[.int .i64 bx, .int .i64 by'] 23) (.cells #[.int .i64 cx, .int .i64 cy] 23) (.cells #[.bool false, .slice none 0 0, .int .i64 0] 27)
  have a_k := h4_0 w (.cells #[.int .i64 ax, .int .i64 ay] 23) (.cells #[.int .i64 bx, .int .i64 by'] 23) (.cells #[.int .i64 cx, .int .i64 cy] 23) (.cells #[.bool false, .slice none 0 0, .int .i64 0] 27)
  have b_k := h4_1 w (.cells #[.int .i64 ax, .int .i64 ay] 23) (.cells #[.int .i64 bx, .int .i64 by'] 23) (.cells #[.int .i64 cx, .int .i64 cy] 23) (.cells #[.bool false, .slice none 0 0, .int .i64 0] 27)
  have c_k := h4_2 w (.cells #[.int .i64 ax, .int .i64 ay] 23) (.cells #[.int .i64 bx, .int .i64 by'] 23) (.cells #[.int .i64 cx, .int .i64 cy] 23) (.cells #[.bool false, .slice none 0 0, .int .i64 0] 27)
  have r_k := h4_3 w (.cells #[.int .i64 ax, .int .i64 ay] 23) (.cells #[.int .i64 bx, .int .i64 by'] 23) (.cells #[.int .i64 cx, .int .i64 cy] 23) (.cells #[.bool false, .slice none 0 0, .int .i64 0] 27)
  go_enter Tryz.func5, Tryz.ntmps5
  go_wp2_with fail
  generalize (((w.alloc (.cells #[.int .i64 ax, .int .i64 ay] 23)).alloc (.cells #[.int .i64 bx, .int .i64 by'] 23)).alloc (.cells #[.int .i64 cx, .int .i64 cy] 23)).alloc (.cells #[.bool false, .slice none 0 0, .int .i64 0] 27) = x0 at hb0 a_k b_k c_k r_k ⊢
  refine (CP.out _).mono ?_
  rintro _ y1 ⟨rfl, hw1⟩
  have a_k := (hw1.block _ (Array.getElem?_eq_some_iff.1 a_k).1).trans a_k
  have b_k := (hw1.block _ (Array.getElem?_eq_some_iff.1 b_k).1).trans b_k
  have c_k := (hw1.block _ (Array.getElem?_eq_some_iff.1 c_k).1).trans c_k
  have r_k := (hw1.block _ (Array.getElem?_eq_some_iff.1 r_k).1).trans r_k
  have hb1 := bel_trans hb0 hw1
  have H := H.keeps hb1
  have f_a0 := blkC a_k 0 rfl
  have f_a1 := blkC a_k 1 rfl
  have f_b0 := blkC b_k 0 rfl
  have f_b1 := blkC b_k 1 rfl
  have f_c0 := blkC c_k 0 rfl
  have f_c1 := blkC c_k 1 rfl
  have hs0 := (Array.getElem?_eq_some_iff.1 r_k).1
  go_wp2_with fail
  refine (CE.out _ H).mono ?_
  rintro _ y2 ⟨v, V, rfl, h2, hD, hB⟩
  obtain ⟨n_g, n_o, n_n, n_c, n_e, rfl⟩ := dans_shape h2
  have hw2 := h2.below
  have r_k := (hw2.block _ (Array.getElem?_eq_some_iff.1 r_k).1).trans r_k
  have k0 := blkC r_k 0 rfl
  have z0 := blkF r_k 0
  have k1 := blkC r_k 1 rfl
  have z1 := blkF r_k 1
  have k2 := blkC r_k 2 rfl
  have z2 := blkF r_k 2
  go_wp2
  refine bodyPost_ret (v := .tuple #[.agg #[.bool n_g, .slice n_o n_n n_c, .int .i64 n_e], .int .i64 0]) (by simp [results, Tryz.results5, go_sem, k0, k1, k2]) rfl ⟨_, V, rfl, ?_, hD, hB⟩
  exact dans_res3 (g := w.heap.size + 3) h2 hb1 (by omega) hs0 _ _ _
set_option maxRecDepth 100000 in
set_option maxHeartbeats 2000000 in
theorem oExactF_no {ax ay bx by' cx cy : Int} (rax : rng ax) (ray : rng ay) (rbx : rng bx) (rby : rng by') (rcx : rng cx) (rcy : rng cy) (hno : ((pok ax && pok ay) && (pok bx && pok by') && (pok cx && pok cy)) = false) (w : World) :
    Calls Tryz.prog 5 #[.agg #[.int .i64 ax, .int .i64 ay], .agg #[.int .i64 bx, .int .i64 by'], .agg #[.int .i64 cx, .int .i64 cy]] w fun r w' => r = .returned (.tuple #[.agg #[.bool false, .slice none 0 0, .int .i64 0], .int .i64 10]) ∧ Below w.heap.size w w' := by
  have CP : Hid (∀ W, Calls Tryz.prog 11 #[.agg #[.int .i64 ax, .int .i64 ay], .agg #[.int .i64 bx, .int .i64 by'], .agg #[.int .i64 cx, .int .i64 cy]] W fun r w' => r = .returned (.bool false) ∧ Below W.heap.size W w') := fun W => by
    have := opoints_any rax ray rbx rby rcx rcy W
    rw [hno] at this
    exact this
  clear rax ray rbx rby rcx rcy hno
  have hb0 := bel_a4 w (.cells #[.int .i64 ax, .int .i64 ay] 23) (.cells #[.int .i64 bx, .int .i64 by'] 23) (.cells #[.int .i64 cx, .int .i64 cy] 23) (.cells #[.bool false, .slice none 0 0, .int .i64 0] 27)
  have a_k := h4_0 w (.cells #[.int .i64 ax, .int .i64 ay] 23) (.cells #[.int .i64 bx, .int .i64 by'] 23) (.cells #[.int .i64 cx, .int .i64 cy] 23) (.cells #[.bool false, .slice none 0 0, .int .i64 0] 27)
  have b_k := h4_1 w (.cells #[.int .i64 ax, .int .i64 ay] 23) (.cells #[.int .i64 bx, .int .i64 by'] 23) (.cells #[.int .i64 cx, .int .i64 cy] 23) (.cells #[.bool false, .slice none 0 0, .int .i64 0] 27)
  have c_k := h4_2 w (.cells #[.int .i64 ax, .int .i64 ay] 23) (.cells #[.int .i64 bx, .int .i64 by'] 23) (.cells #[.int .i64 cx, .int .i64 cy] 23) (.cells #[.bool false, .slice none 0 0, .int .i64 0] 27)
  have r_k := h4_3 w (.cells #[.int .i64 ax, .int .i64 ay] 23) (.cells #[.int .i64 bx, .int .i64 by'] 23) (.cells #[.int .i64 cx, .int .i64 cy] 23) (.cells #[.bool false, .slice none 0 0, .int .i64 0] 27)
  go_enter Tryz.func5, Tryz.ntmps5
  go_wp2_with fail
  generalize (((w.alloc (.cells #[.int .i64 ax, .int .i64 ay] 23)).alloc (.cells #[.int .i64 bx, .int .i64 by'] 23)).alloc (.cells #[.int .i64 cx, .int .i64 cy] 23)).alloc (.cells #[.bool false, .slice none 0 0, .int .i64 0] 27) = x0 at hb0 a_k b_k c_k r_k ⊢
  refine (CP.out _).mono ?_
  rintro _ y1 ⟨rfl, hw1⟩
  have a_k := (hw1.block _ (Array.getElem?_eq_some_iff.1 a_k).1).trans a_k
  have b_k := (hw1.block _ (Array.getElem?_eq_some_iff.1 b_k).1).trans b_k
  have c_k := (hw1.block _ (Array.getElem?_eq_some_iff.1 c_k).1).trans c_k
  have r_k := (hw1.block _ (Array.getElem?_eq_some_iff.1 r_k).1).trans r_k
  have hb1 := bel_trans hb0 hw1
  have k0 := blkC r_k 0 rfl
  have z0 := blkF r_k 0
  have k1 := blkC r_k 1 rfl
  have z1 := blkF r_k 1
  have k2 := blkC r_k 2 rfl
  have z2 := blkF r_k 2
  go_wp2
  refine bodyPost_ret (v := .tuple #[.agg #[.bool false, .slice none 0 0, .int .i64 0], .int .i64 10]) (by simp [results, Tryz.results5, go_sem, k0, k1, k2]) rfl ⟨rfl, by first | exact bel_set3 hb1 (by omega) _ _ _ | exact hb1⟩
end Go.Proofs.YtfgmhmkbilkfbaaGreatDoor

/-
  Package plumbref3: Of, Of32, Mul, by contracts.
-/
namespace Go.Proofs.YtfgmhmkbilkfbaaGreatDoor
open Go Go.RowKit Go.Proofs.YtfgmhmkbilkfbaaGreatDoor.M
set_option linter.unusedSimpArgs false
set_option linter.unusedVariables false

set_option maxRecDepth 100000 in
set_option maxHeartbeats 1000000 in
theorem rof_any (b : Int) (w : World) (hb : rng b) (hp : pok b = true) :
    Calls Tryz.prog 25 #[.int .i64 b] w fun r w' => ∃ v, r = .returned v ∧ DAns w w' (sg (pneg b) (pmag b) * pw (pexp b)) v := by
  obtain ⟨i0, i1, i2, i3⟩ := pmag_in hp
  have hF := fun W => rfrom_any (pmag b) W i0 (by omega)
  have hN := fun W ao n cap d (h : Row W ao n cap d) (hd : Dig d n) (hn : n ≤ 40000) => rnorm_any (pneg b) ao n cap d (pexp b) W h hd hn (by omega) (by omega)
  have hP := fun W => refParts b W hb
  generalize pneg b = ng at *
  generalize pexp b = ex at *
  generalize pmag b = mg at *
  rw [hp] at hP
  go_enter Tryz.func25, Tryz.ntmps25
  go_wp2_with fail
  refine (hP _).mono ?_
  rintro r w1 ⟨rfl, rfl⟩
  go_wp2_with fail
  refine (hF _).mono ?_
  rintro r w2 ⟨v, rfl, hA⟩
  obtain ⟨so, sn, sc, d, rfl, hR, hNr, hv⟩ := hA.num
  have hsn : sn ≤ 100 := hA.num.len (k := 100) (by have := P_le (show 3 ≤ 100 by omega); have : P 3 = 1237940039285380274899124224 := rfl; omega)
  have hbw := bel_trans (bel_alloc w _) hA.below
  go_wp2_with fail
  refine (hN _ _ _ _ _ hR hNr.1 (by omega)).mono ?_
  rw [hv]
  rintro r w3 ⟨v, rfl, hD⟩
  obtain ⟨ng', s', m', e', rfl, hyy, hA2⟩ := id hD
  obtain ⟨so', sn', sc', rfl⟩ := hA2.num.shape
  have q0 := ((bel_trans hA.below hD.below).block w.heap.size (by rw [size1]; omega)).trans (heap_a1 _ _)
  have x0 := blkC q0 0 rfl
  have x1 := blkC q0 1 rfl
  have x2 := blkC q0 2 rfl
  have z0 := blkF q0 0
  have z1 := blkF q0 1
  have z2 := blkF q0 2
  go_wp2
  refine bodyPost_ret (v := .agg #[.bool ng', .slice so' sn' sc', .int .i64 e']) (by simp [results, Tryz.results25, go_sem, x0, x1, x2]) rfl ⟨_, rfl, ?_⟩
  exact dans_res3 (g := w.heap.size) hD hbw (Nat.le_refl _) (Nat.lt_of_lt_of_le (by rw [size1]; omega) hA.below.size) _ _ _
end Go.Proofs.YtfgmhmkbilkfbaaGreatDoor

/-
  Package plumbref3: Exact, Minus, Times, by their contracts.
-/
namespace Go.Proofs.YtfgmhmkbilkfbaaGreatDoor
open Go Go.RowKit Go.Proofs.YtfgmhmkbilkfbaaGreatDoor.M
set_option linter.unusedSimpArgs false
set_option linter.unusedVariables false

set_option maxRecDepth 100000 in
theorem r3exact_any (b : Int) (w : World) (hb : rng b) (hp : pok b = true) :
    Calls Tryz.prog 14 #[.int .i64 b] w fun r w' => ∃ v, r = .returned v ∧ DAns w w' (patV b) v := by
  have r_k := heap_a1 w (.cells #[.bool false, .slice none 0 0, .int .i64 0] 27)
  have hb0 := bel_alloc w (.cells #[.bool false, .slice none 0 0, .int .i64 0] 27)
  have CO : Hid (∀ W, Calls Tryz.prog 25 #[.int .i64 b] W fun r w' => ∃ v, r = .returned v ∧ DAns W w' (patV b) v) := fun W => rof_any b W hb hp
  go_enter Tryz.func14, Tryz.ntmps14
  go_wp2_with fail
  generalize w.alloc (.cells #[.bool false, .slice none 0 0, .int .i64 0] 27) = x0 at r_k hb0 ⊢
  have hs0 := (Array.getElem?_eq_some_iff.1 r_k).1
  refine (CO.out _).mono ?_
  rintro _ y1 ⟨v, rfl, h1⟩
  obtain ⟨n_g, n_o, n_n, n_c, n_e, rfl⟩ := dans_shape h1
  have hw := h1.below
  have r_k := (hw.block _ (Array.getElem?_eq_some_iff.1 r_k).1).trans r_k
  have k0 := blkC r_k 0 rfl
  have k1 := blkC r_k 1 rfl
  have k2 := blkC r_k 2 rfl
  have z0 := blkF r_k 0
  have z1 := blkF r_k 1
  have z2 := blkF r_k 2
  go_wp2
  refine bodyPost_ret (v := .agg #[.bool n_g, .slice n_o n_n n_c, .int .i64 n_e]) (by simp [results, Tryz.results14, go_sem, k0, k1, k2]) rfl ⟨_, rfl, ?_⟩
  exact dans_res3 (g := w.heap.size) h1 hb0 (Nat.le_refl _) hs0 _ _ _
theorem dan_opp {B : Nat} {w : World} {y : NumR} (h : DAn B w y.V y.v) (ok : okR y = true) : DAn B w (-y.V) y.opp.v := by
  obtain ⟨m, h1, h2⟩ := DAn.parts h
  obtain ⟨e1, e2⟩ := opp_V ok
  rw [e1] at e2
  obtain ⟨_, rfl, _⟩ := h1.unique (okR_dy ok).1
  exact ⟨_, _, _, _, rfl, e2, h2⟩
theorem DAn.shape {B : Nat} {w : World} {V : Int} {v : Value} (h : DAn B w V v) : ∃ ng so sn sc e, v = .agg #[.bool ng, .slice so sn sc, .int .i64 e] := h.three
set_option maxRecDepth 100000 in
theorem r3minus_any {B : Nat} {w : World} {x y : Value} {A C : Int} {K : Nat} (hx : DAn B w A x) (hy : DAn B w C y) (hB : B ≤ w.heap.size) (bA : Bd K A) (bC : Bd K C) (hK : K ≤ 28000) :
    Calls Tryz.prog 15 #[x, y] w fun r w' => ∃ v, r = .returned v ∧ DAn B w' (A - C) v ∧ Below w.heap.size w w' := by
  have CS : ∀ W, Below w.heap.size w W → Calls Tryz.prog 26 #[x, y] W fun r w' => ∃ v, r = .returned v ∧ DAn B w' (A - C) v ∧ Below W.heap.size W w' := fun W hW => by
    have hx' := hx.keeps hW
    have hy' := hy.keeps hW
    obtain ⟨x, rfl, hR, ok, rfl⟩ := hx'.num.open (bA.ok (by omega))
    obtain ⟨y, rfl, hR', ok', rfl⟩ := hy'.num.open (bC.ok (by omega))
    refine (rsub3_any x y W hR hR' ok ok' (K := K) (by omega) bA bC).mono ?_
    rintro r w' ⟨v, rfl, h⟩
    refine ⟨v, rfl, ?_, h.1⟩
    rw [Int.sub_eq_add_neg]
    rcases h.2 with h1 | ⟨h1, rfl⟩ | ⟨h1, rfl⟩
    · exact h1.dan.lower (Nat.le_trans hB hW.size)
    · rw [h1, Int.zero_add]; exact (dan_opp hy' ok').keeps h.1
    · rw [h1, Int.add_zero]; exact hx'.keeps h.1
  obtain ⟨p_g, p_o, p_n, p_c, p_e, rfl⟩ := hx.shape
  obtain ⟨q_g, q_o, q_n, q_c, q_e, rfl⟩ := hy.shape
  clear hx hy bA bC
  have hb0 := bel_a3 w (.cells #[.bool p_g, .slice p_o p_n p_c, .int .i64 p_e] 27) (.cells #[.bool q_g, .slice q_o q_n q_c, .int .i64 q_e] 27) (.cells #[.bool false, .slice none 0 0, .int .i64 0] 27)
  have r_k := h3_2 w (.cells #[.bool p_g, .slice p_o p_n p_c, .int .i64 p_e] 27) (.cells #[.bool q_g, .slice q_o q_n q_c, .int .i64 q_e] 27) (.cells #[.bool false, .slice none 0 0, .int .i64 0] 27)
  go_enter Tryz.func15, Tryz.ntmps15
  go_wp2_with fail
  generalize ((w.alloc (.cells #[.bool p_g, .slice p_o p_n p_c, .int .i64 p_e] 27)).alloc (.cells #[.bool q_g, .slice q_o q_n q_c, .int .i64 q_e] 27)).alloc (.cells #[.bool false, .slice none 0 0, .int .i64 0] 27) = x0 at r_k hb0 ⊢
  refine (CS _ hb0).mono ?_
  rintro _ y1 ⟨v, rfl, h1, hw⟩
  obtain ⟨n_g, n_o, n_n, n_c, n_e, rfl⟩ := h1.shape
  have r_k := (hw.block _ (Array.getElem?_eq_some_iff.1 r_k).1).trans r_k
  have k0 := blkC r_k 0 rfl
  have k1 := blkC r_k 1 rfl
  have k2 := blkC r_k 2 rfl
  have z0 := blkF r_k 0
  have z1 := blkF r_k 1
  have z2 := blkF r_k 2
  go_wp2
  refine bodyPost_ret (v := .agg #[.bool n_g, .slice n_o n_n n_c, .int .i64 n_e]) (by simp [results, Tryz.results15, go_sem, k0, k1, k2]) rfl ⟨_, rfl, dan_res3 h1 r_k _ _ _, bel_set3 (bel_trans hb0 hw) (by omega) _ _ _⟩
set_option maxRecDepth 100000 in
theorem r3times_any {w : World} {x y : Value} {A C : Int} {K : Nat} (hx : DNum w x A) (hy : DNum w y C) (bA : Bd K A) (bC : Bd K C) (hK : K ≤ 14000) :
    Calls Tryz.prog 16 #[x, y] w fun r w' => ∃ v V, r = .returned v ∧ DAns w w' V v ∧ V * 2 ^ 4194304 = A * C ∧ Bd (2 * K) V := by
  have CS : ∀ W, Below w.heap.size w W → Calls Tryz.prog 27 #[x, y] W fun r w' => ∃ v V, r = .returned v ∧ DAns W w' V v ∧ V * 2 ^ 4194304 = A * C ∧ Bd (2 * K) V := fun W hW => by
    have hx' := hx.keeps hW
    have hy' := hy.keeps hW
    obtain ⟨x, rfl, hR, ok, rfl⟩ := hx'.open (bA.ok (by omega))
    obtain ⟨y, rfl, hR', ok', rfl⟩ := hy'.open (bC.ok (by omega))
    refine (rmul3_any x y W hR hR' (okR_sane ok) (okR_sane ok')).mono ?_
    rintro r w' ⟨v, rfl, h⟩
    have hC := mulV_eq (x := x) (y := y) (by have := (okR_sane ok).2.2.1; omega) (by have := (okR_sane ok').2.2.1; omega)
    exact ⟨v, _, rfl, h, hC, bA.mul bC hC (by omega)⟩
  obtain ⟨p, rfl, _, _, _⟩ := hx.open (bA.ok (by omega))
  obtain ⟨q, rfl, _, _, _⟩ := hy.open (bC.ok (by omega))
  obtain ⟨p_g, p_o, p_n, p_c, p_d, p_e⟩ := p
  obtain ⟨q_g, q_o, q_n, q_c, q_d, q_e⟩ := q
  unfold NumR.v at *
  simp only at *
  clear hx hy bA bC
  have hb0 := bel_a3 w (.cells #[.bool p_g, .slice p_o p_n p_c, .int .i64 p_e] 27) (.cells #[.bool q_g, .slice q_o q_n q_c, .int .i64 q_e] 27) (.cells #[.bool false, .slice none 0 0, .int .i64 0] 27)
  have r_k := h3_2 w (.cells #[.bool p_g, .slice p_o p_n p_c, .int .i64 p_e] 27) (.cells #[.bool q_g, .slice q_o q_n q_c, .int .i64 q_e] 27) (.cells #[.bool false, .slice none 0 0, .int .i64 0] 27)
  go_enter Tryz.func16, Tryz.ntmps16
  go_wp2_with fail
  generalize ((w.alloc (.cells #[.bool p_g, .slice p_o p_n p_c, .int .i64 p_e] 27)).alloc (.cells #[.bool q_g, .slice q_o q_n q_c, .int .i64 q_e] 27)).alloc (.cells #[.bool false, .slice none 0 0, .int .i64 0] 27) = x0 at r_k hb0 ⊢
  have hs0 := (Array.getElem?_eq_some_iff.1 r_k).1
  refine (CS _ hb0).mono ?_
  rintro _ y1 ⟨v, V, rfl, h1, hE, hBd⟩
  obtain ⟨n_g, n_o, n_n, n_c, n_e, rfl⟩ := dans_shape h1
  have hw := h1.below
  have r_k := (hw.block _ (Array.getElem?_eq_some_iff.1 r_k).1).trans r_k
  have k0 := blkC r_k 0 rfl
  have k1 := blkC r_k 1 rfl
  have k2 := blkC r_k 2 rfl
  have z0 := blkF r_k 0
  have z1 := blkF r_k 1
  have z2 := blkF r_k 2
  go_wp2
  refine bodyPost_ret (v := .agg #[.bool n_g, .slice n_o n_n n_c, .int .i64 n_e]) (by simp [results, Tryz.results16, go_sem, k0, k1, k2]) rfl ⟨_, V, rfl, ?_, hE, hBd⟩
  exact dans_res3 (g := w.heap.size + 2) h1 hb0 (by omega) hs0 _ _ _
end Go.Proofs.YtfgmhmkbilkfbaaGreatDoor
