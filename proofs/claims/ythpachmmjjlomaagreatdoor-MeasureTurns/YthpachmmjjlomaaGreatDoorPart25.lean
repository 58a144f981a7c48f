/-
  Package measure: dot, Dot, Square of exact numbers, by their contracts.
-/
import Derived.Test.YthpachmmjjlomaaGreatDoorPart19
import Derived.Test.YthpachmmjjlomaaGreatDoorPart4
import Derived.Test.YthpachmmjjlomaaGreatDoorPart16
import Derived.Deep.RegionHeld3
namespace Go.Proofs.YthpachmmjjlomaaGreatDoor
open Go Go.RowKit Go.Proofs.YthpachmmjjlomaaGreatDoor.M
set_option linter.unusedSimpArgs false
set_option linter.unusedVariables false

/-- The product of two ways, in the scale. -/
def Dot2 (a1 a2 c1 c2 V : Int) : Prop := ∃ C D, C * 2 ^ 4194304 = a1 * c1 ∧ D * 2 ^ 4194304 = a2 * c2 ∧ V = C + D
theorem Dot2.unique {a1 a2 b1 b2 V V' : Int} (h : Dot2 a1 a2 b1 b2 V) (k : Dot2 a1 a2 b1 b2 V') : V = V' := by
  obtain ⟨C, D, h1, h2, rfl⟩ := h
  obtain ⟨C', D', k1, k2, rfl⟩ := k
  rw [scale_inj (h1.trans k1.symm), scale_inj (h2.trans k2.symm)]
set_option maxRecDepth 100000 in
theorem msure_any (x_g : Bool) (x_o : Option Addr) (x_n x_c : Nat) (x_e e : Int) (w : World) :
    Calls Tryz.prog 51 #[.agg #[.bool x_g, .slice x_o x_n x_c, .int .i64 x_e], .int .i64 e] w fun r w' => r = .returned (.agg #[.bool x_g, .slice x_o x_n x_c, .int .i64 x_e]) ∧ Below w.heap.size w w' := by
  have hb0 := bel_alloc2 w (.cells #[.bool x_g, .slice x_o x_n x_c, .int .i64 x_e] 35) (.cells #[.bool false, .slice none 0 0, .int .i64 0] 35)
  have x_k := heap_a2 w (.cells #[.bool x_g, .slice x_o x_n x_c, .int .i64 x_e] 35) (.cells #[.bool false, .slice none 0 0, .int .i64 0] 35)
  have r_k := heap_b2 w (.cells #[.bool x_g, .slice x_o x_n x_c, .int .i64 x_e] 35) (.cells #[.bool false, .slice none 0 0, .int .i64 0] 35)
  go_enter Tryz.func51, Tryz.ntmps51
  go_wp2_with fail
  have r_j := heap_b2 w (.cells #[.bool x_g, .slice x_o x_n x_c, .int .i64 x_e] 35) (.cells #[.bool x_g, .slice x_o x_n x_c, .int .i64 x_e] 35)
  have k0 := blkC r_j 0 rfl
  have k1 := blkC r_j 1 rfl
  have k2 := blkC r_j 2 rfl
  exact bodyPost_ret (v := .agg #[.bool x_g, .slice x_o x_n x_c, .int .i64 x_e]) (by simp [results, Tryz.results51, go_sem, k0, k1, k2]) rfl ⟨rfl, bel_alloc2 _ _ _⟩
theorem bel_dr (w : World) (o : Obj) : Below w.drew.heap.size w.drew (w.alloc o).drew := bel_trans (bel_alloc w.drew o) (bel_refl _)
theorem heap_a1d (w : World) (o : Obj) : (w.alloc o).drew.heap[w.heap.size]? = some o := heap_a1 w o
set_option maxRecDepth 100000 in
theorem mexactNumbers (w : World) :
    Calls Tryz.prog 23 #[] w fun r w' => r = .returned (.agg #[.func (.func 47) #[] #[], .func (.func 48) #[] #[], .func (.func 49) #[] #[], .func (.func 50) #[] #[]]) ∧ Below w.heap.size w w' := by
  have hst : ∀ p F m w, (store p (.func (.func F) #[] #[]) m).run Tryz.prog w = stored Tryz.prog w p (.func (.func F) #[] #[]) m := fun p F m w => run_store _ w p _ m rfl
  go_enter Tryz.func23, Tryz.ntmps23
  go_wp2_with fail
  have r_j := heap_a1 w (.cells #[.func (.func 47) #[] #[], .func (.func 48) #[] #[], .func (.func 49) #[] #[], .func (.func 50) #[] #[]] 66)
  have k0 := blkC r_j 0 rfl
  have k1 := blkC r_j 1 rfl
  have k2 := blkC r_j 2 rfl
  have k3 := blkC r_j 3 rfl
  exact bodyPost_ret (v := .agg #[.func (.func 47) #[] #[], .func (.func 48) #[] #[], .func (.func 49) #[] #[], .func (.func 50) #[] #[]]) (by simp [results, Tryz.results23, go_sem, k0, k1, k2, k3]) rfl ⟨rfl, bel_alloc _ _⟩
set_option maxRecDepth 100000 in
set_option maxHeartbeats 8000000 in
theorem mdotN_any {ax ay bx by' cx cy : Int} (pax : pok ax = true) (pay : pok ay = true) (pbx : pok bx = true) (pby : pok by' = true) (pcx : pok cx = true) (pcy : pok cy = true) (w : World) (H : Hold4 w) :
    Calls Tryz.prog 34 #[.agg #[.func (.func 47) #[] #[], .func (.func 48) #[] #[], .func (.func 49) #[] #[], .func (.func 50) #[] #[]], .agg #[.int .i64 ax, .int .i64 ay], .agg #[.int .i64 bx, .int .i64 by'], .agg #[.int .i64 cx, .int .i64 cy]] w fun r w' => ∃ v V, r = .returned v ∧ DAns w w' V v ∧ Dot2 (patV ax - patV bx) (patV ay - patV by') (patV cx - patV bx) (patV cy - patV by') V ∧ Bd 8100 V := by
  have A1 : Hid (∀ W, Hold4 W → Calls Tryz.prog 47 #[.int .i64 ax, .int .i64 bx] W fun r w' => ∃ v, r = .returned v ∧ DAns W w' (patV ax - patV bx) v) := fun W h => oapart_any pax pbx W h
  have B1 := (patV_bd pax).sub (patV_bd pbx) (by decide)
  have A2 : Hid (∀ W, Hold4 W → Calls Tryz.prog 47 #[.int .i64 cx, .int .i64 bx] W fun r w' => ∃ v, r = .returned v ∧ DAns W w' (patV cx - patV bx) v) := fun W h => oapart_any pcx pbx W h
  have B2 := (patV_bd pcx).sub (patV_bd pbx) (by decide)
  have A3 : Hid (∀ W, Hold4 W → Calls Tryz.prog 47 #[.int .i64 ay, .int .i64 by'] W fun r w' => ∃ v, r = .returned v ∧ DAns W w' (patV ay - patV by') v) := fun W h => oapart_any pay pby W h
  have B3 := (patV_bd pay).sub (patV_bd pby) (by decide)
  have A4 : Hid (∀ W, Hold4 W → Calls Tryz.prog 47 #[.int .i64 cy, .int .i64 by'] W fun r w' => ∃ v, r = .returned v ∧ DAns W w' (patV cy - patV by') v) := fun W h => oapart_any pcy pby W h
  have B4 := (patV_bd pcy).sub (patV_bd pby) (by decide)
  generalize patV ax - patV bx = a1 at *
  generalize patV cx - patV bx = c1 at *
  generalize patV ay - patV by' = a2 at *
  generalize patV cy - patV by' = c2 at *
  clear pax pay pbx pby pcx pcy
  have k_k : (w.alloc (.cells #[.func (.func 47) #[] #[], .func (.func 48) #[] #[], .func (.func 49) #[] #[], .func (.func 50) #[] #[]] 66)).heap[w.heap.size]? = some (.cells #[.func (.func 47) #[] #[], .func (.func 48) #[] #[], .func (.func 49) #[] #[], .func (.func 50) #[] #[]] 66) := heap_new (.cells #[.func (.func 47) #[] #[], .func (.func 48) #[] #[], .func (.func 49) #[] #[], .func (.func 50) #[] #[]] 66) (by rfl)
  have hb0 := bel_alloc w (.cells #[.func (.func 47) #[] #[], .func (.func 48) #[] #[], .func (.func 49) #[] #[], .func (.func 50) #[] #[]] 66)
  replace k_k := heap_past (.cells #[.int .i64 ax, .int .i64 ay] 23) k_k
  have a_k : ((w.alloc (.cells #[.func (.func 47) #[] #[], .func (.func 48) #[] #[], .func (.func 49) #[] #[], .func (.func 50) #[] #[]] 66)).alloc (.cells #[.int .i64 ax, .int .i64 ay] 23)).heap[w.heap.size + 1]? = some (.cells #[.int .i64 ax, .int .i64 ay] 23) := heap_new (.cells #[.int .i64 ax, .int .i64 ay] 23) (by simp only [size_alloc])
  replace hb0 := bel_trans hb0 (bel_alloc (w.alloc (.cells #[.func (.func 47) #[] #[], .func (.func 48) #[] #[], .func (.func 49) #[] #[], .func (.func 50) #[] #[]] 66)) (.cells #[.int .i64 ax, .int .i64 ay] 23))
  replace k_k := heap_past (.cells #[.int .i64 bx, .int .i64 by'] 23) k_k
  replace a_k := heap_past (.cells #[.int .i64 bx, .int .i64 by'] 23) a_k
  have b_k : (((w.alloc (.cells #[.func (.func 47) #[] #[], .func (.func 48) #[] #[], .func (.func 49) #[] #[], .func (.func 50) #[] #[]] 66)).alloc (.cells #[.int .i64 ax, .int .i64 ay] 23)).alloc (.cells #[.int .i64 bx, .int .i64 by'] 23)).heap[w.heap.size + 1 + 1]? = some (.cells #[.int .i64 bx, .int .i64 by'] 23) := heap_new (.cells #[.int .i64 bx, .int .i64 by'] 23) (by simp only [size_alloc])
  replace hb0 := bel_trans hb0 (bel_alloc ((w.alloc (.cells #[.func (.func 47) #[] #[], .func (.func 48) #[] #[], .func (.func 49) #[] #[], .func (.func 50) #[] #[]] 66)).alloc (.cells #[.int .i64 ax, .int .i64 ay] 23)) (.cells #[.int .i64 bx, .int .i64 by'] 23))
  replace k_k := heap_past (.cells #[.int .i64 cx, .int .i64 cy] 23) k_k
  replace a_k := heap_past (.cells #[.int .i64 cx, .int .i64 cy] 23) a_k
  replace b_k := heap_past (.cells #[.int .i64 cx, .int .i64 cy] 23) b_k
  have c_k : ((((w.alloc (.cells #[.func (.func 47) #[] #[], .func (.func 48) #[] #[], .func (.func 49) #[] #[], .func (.func 50) #[] #[]] 66)).alloc (.cells #[.int .i64 ax, .int .i64 ay] 23)).alloc (.cells #[.int .i64 bx, .int .i64 by'] 23)).alloc (.cells #[.int .i64 cx, .int .i64 cy] 23)).heap[w.heap.size + 1 + 1 + 1]? = some (.cells #[.int .i64 cx, .int .i64 cy] 23) := heap_new (.cells #[.int .i64 cx, .int .i64 cy] 23) (by simp only [size_alloc])
  replace hb0 := bel_trans hb0 (bel_alloc (((w.alloc (.cells #[.func (.func 47) #[] #[], .func (.func 48) #[] #[], .func (.func 49) #[] #[], .func (.func 50) #[] #[]] 66)).alloc (.cells #[.int .i64 ax, .int .i64 ay] 23)).alloc (.cells #[.int .i64 bx, .int .i64 by'] 23)) (.cells #[.int .i64 cx, .int .i64 cy] 23))
  replace k_k := heap_past (.cells #[.bool false, .slice none 0 0, .int .i64 0] 35) k_k
  replace a_k := heap_past (.cells #[.bool false, .slice none 0 0, .int .i64 0] 35) a_k
  replace b_k := heap_past (.cells #[.bool false, .slice none 0 0, .int .i64 0] 35) b_k
  replace c_k := heap_past (.cells #[.bool false, .slice none 0 0, .int .i64 0] 35) c_k
  have r_k : (((((w.alloc (.cells #[.func (.func 47) #[] #[], .func (.func 48) #[] #[], .func (.func 49) #[] #[], .func (.func 50) #[] #[]] 66)).alloc (.cells #[.int .i64 ax, .int .i64 ay] 23)).alloc (.cells #[.int .i64 bx, .int .i64 by'] 23)).alloc (.cells #[.int .i64 cx, .int .i64 cy] 23)).alloc (.cells #[.bool false, .slice none 0 0, .int .i64 0] 35)).heap[w.heap.size + 1 + 1 + 1 + 1]? = some (.cells #[.bool false, .slice none 0 0, .int .i64 0] 35) := heap_new (.cells #[.bool false, .slice none 0 0, .int .i64 0] 35) (by simp only [size_alloc])
  replace hb0 := bel_trans hb0 (bel_alloc ((((w.alloc (.cells #[.func (.func 47) #[] #[], .func (.func 48) #[] #[], .func (.func 49) #[] #[], .func (.func 50) #[] #[]] 66)).alloc (.cells #[.int .i64 ax, .int .i64 ay] 23)).alloc (.cells #[.int .i64 bx, .int .i64 by'] 23)).alloc (.cells #[.int .i64 cx, .int .i64 cy] 23)) (.cells #[.bool false, .slice none 0 0, .int .i64 0] 35))
  go_enter Tryz.func34, Tryz.ntmps34
  go_wp2_with fail
  rename_i Q0 K00 hK00
  generalize (((((w.alloc (.cells #[.func (.func 47) #[] #[], .func (.func 48) #[] #[], .func (.func 49) #[] #[], .func (.func 50) #[] #[]] 66)).alloc (.cells #[.int .i64 ax, .int .i64 ay] 23)).alloc (.cells #[.int .i64 bx, .int .i64 by'] 23)).alloc (.cells #[.int .i64 cx, .int .i64 cy] 23)).alloc (.cells #[.bool false, .slice none 0 0, .int .i64 0] 35)) = x0 at hb0 k_k a_k b_k c_k r_k ⊢
  have H := H.keeps hb0
  have hK1 := hK00
  have HN1 : ∀ (g : Nat) (x1 : World) (t : Array Value) (l_g : Bool) (l_o : Option Addr) (l_n l_c : Nat) (l_e : Int) (l_V : Int), #[t.getD 0 undef, t.getD 1 undef, t.getD 2 undef, t.getD 3 undef, .pointer (some ⟨w.heap.size, 0, none⟩), .pointer (some ⟨w.heap.size + 1, 0, none⟩), .pointer (some ⟨w.heap.size + 1 + 1, 0, none⟩), .pointer (some ⟨w.heap.size + 1 + 1 + 1, 0, none⟩), .pointer (some ⟨w.heap.size + 1 + 1 + 1 + 1, 0, none⟩), .pointer (some ⟨g, 0, none⟩), t.getD 10 undef, t.getD 11 undef, t.getD 12 undef, t.getD 13 undef, t.getD 14 undef, t.getD 15 undef, t.getD 16 undef, t.getD 17 undef, t.getD 18 undef, t.getD 19 undef, t.getD 20 undef, t.getD 21 undef, t.getD 22 undef, t.getD 23 undef, t.getD 24 undef, t.getD 25 undef, t.getD 26 undef, t.getD 27 undef, t.getD 28 undef, t.getD 29 undef, t.getD 30 undef, t.getD 31 undef, t.getD 32 undef, t.getD 33 undef, t.getD 34 undef, t.getD 35 undef, t.getD 36 undef, t.getD 37 undef, t.getD 38 undef, t.getD 39 undef, t.getD 40 undef, t.getD 41 undef, t.getD 42 undef, t.getD 43 undef, t.getD 44 undef, t.getD 45 undef, t.getD 46 undef, t.getD 47 undef, t.getD 48 undef, t.getD 49 undef, t.getD 50 undef, t.getD 51 undef, t.getD 52 undef, t.getD 53 undef, t.getD 54 undef, t.getD 55 undef, t.getD 56 undef, t.getD 57 undef, t.getD 58 undef] = t → x0.heap.size ≤ g → x1.heap[g]? = some (.cells #[.bool l_g, .slice l_o l_n l_c, .int .i64 l_e] 35 (0, 0)) → Below x0.heap.size x0 x1 → DAn w.heap.size x1 l_V (.agg #[.bool l_g, .slice l_o l_n l_c, .int .i64 l_e]) → l_V * 2 ^ 4194304 = a1 * c1 → Bd (2 * (4000 + 1)) l_V → Exit.then K00 Q0 Exit.normal { tmps := t, defers := [] } x1 := by
    intro g_l x1 t l_g l_o l_n l_c l_e l_V ht l_ge l_k hw1 l_D l_E l_B
    obtain ⟨u1, hu⟩ : ∃ u : Nat → Value, t = #[u 0, u 1, u 2, u 3, .pointer (some ⟨w.heap.size, 0, none⟩), .pointer (some ⟨w.heap.size + 1, 0, none⟩), .pointer (some ⟨w.heap.size + 1 + 1, 0, none⟩), .pointer (some ⟨w.heap.size + 1 + 1 + 1, 0, none⟩), .pointer (some ⟨w.heap.size + 1 + 1 + 1 + 1, 0, none⟩), .pointer (some ⟨g_l, 0, none⟩), u 10, u 11, u 12, u 13, u 14, u 15, u 16, u 17, u 18, u 19, u 20, u 21, u 22, u 23, u 24, u 25, u 26, u 27, u 28, u 29, u 30, u 31, u 32, u 33, u 34, u 35, u 36, u 37, u 38, u 39, u 40, u 41, u 42, u 43, u 44, u 45, u 46, u 47, u 48, u 49, u 50, u 51, u 52, u 53, u 54, u 55, u 56, u 57, u 58] := ⟨fun k => t.getD k undef, ht.symm⟩
    clear ht
    subst hu
    have H := H.keeps hw1
    have k_k := (hw1.block _ (Array.getElem?_eq_some_iff.1 k_k).1).trans k_k
    have a_k := (hw1.block _ (Array.getElem?_eq_some_iff.1 a_k).1).trans a_k
    have b_k := (hw1.block _ (Array.getElem?_eq_some_iff.1 b_k).1).trans b_k
    have c_k := (hw1.block _ (Array.getElem?_eq_some_iff.1 c_k).1).trans c_k
    have r_k := (hw1.block _ (Array.getElem?_eq_some_iff.1 r_k).1).trans r_k
    have hb1 := bel_trans hb0 hw1
    go_wp2_with fail
    rename_i K2 hK2
    have HN2 : ∀ (g : Nat) (x2 : World) (t : Array Value) (s_g : Bool) (s_o : Option Addr) (s_n s_c : Nat) (s_e : Int) (s_V : Int), #[t.getD 0 undef, t.getD 1 undef, t.getD 2 undef, t.getD 3 undef, .pointer (some ⟨w.heap.size, 0, none⟩), .pointer (some ⟨w.heap.size + 1, 0, none⟩), .pointer (some ⟨w.heap.size + 1 + 1, 0, none⟩), .pointer (some ⟨w.heap.size + 1 + 1 + 1, 0, none⟩), .pointer (some ⟨w.heap.size + 1 + 1 + 1 + 1, 0, none⟩), .pointer (some ⟨g_l, 0, none⟩), .pointer (some ⟨g, 0, none⟩), t.getD 11 undef, t.getD 12 undef, t.getD 13 undef, t.getD 14 undef, t.getD 15 undef, t.getD 16 undef, t.getD 17 undef, t.getD 18 undef, t.getD 19 undef, t.getD 20 undef, t.getD 21 undef, t.getD 22 undef, t.getD 23 undef, t.getD 24 undef, t.getD 25 undef, t.getD 26 undef, t.getD 27 undef, t.getD 28 undef, t.getD 29 undef, t.getD 30 undef, t.getD 31 undef, t.getD 32 undef, t.getD 33 undef, t.getD 34 undef, t.getD 35 undef, t.getD 36 undef, t.getD 37 undef, t.getD 38 undef, t.getD 39 undef, t.getD 40 undef, t.getD 41 undef, t.getD 42 undef, t.getD 43 undef, t.getD 44 undef, t.getD 45 undef, t.getD 46 undef, t.getD 47 undef, t.getD 48 undef, t.getD 49 undef, t.getD 50 undef, t.getD 51 undef, t.getD 52 undef, t.getD 53 undef, t.getD 54 undef, t.getD 55 undef, t.getD 56 undef, t.getD 57 undef, t.getD 58 undef] = t → x1.heap.size ≤ g → x2.heap[g]? = some (.cells #[.bool s_g, .slice s_o s_n s_c, .int .i64 s_e] 35 (0, 0)) → Below x1.heap.size x1 x2 → DAn w.heap.size x2 s_V (.agg #[.bool s_g, .slice s_o s_n s_c, .int .i64 s_e]) → s_V * 2 ^ 4194304 = a2 * c2 → Bd (2 * (4000 + 1)) s_V → Exit.then K2 Q0 Exit.normal { tmps := t, defers := [] } x2 := by
      intro g_s x2 t s_g s_o s_n s_c s_e s_V ht s_ge s_k hw2 s_D s_E s_B
      obtain ⟨u2, hu⟩ : ∃ u : Nat → Value, t = #[u 0, u 1, u 2, u 3, .pointer (some ⟨w.heap.size, 0, none⟩), .pointer (some ⟨w.heap.size + 1, 0, none⟩), .pointer (some ⟨w.heap.size + 1 + 1, 0, none⟩), .pointer (some ⟨w.heap.size + 1 + 1 + 1, 0, none⟩), .pointer (some ⟨w.heap.size + 1 + 1 + 1 + 1, 0, none⟩), .pointer (some ⟨g_l, 0, none⟩), .pointer (some ⟨g_s, 0, none⟩), u 11, u 12, u 13, u 14, u 15, u 16, u 17, u 18, u 19, u 20, u 21, u 22, u 23, u 24, u 25, u 26, u 27, u 28, u 29, u 30, u 31, u 32, u 33, u 34, u 35, u 36, u 37, u 38, u 39, u 40, u 41, u 42, u 43, u 44, u 45, u 46, u 47, u 48, u 49, u 50, u 51, u 52, u 53, u 54, u 55, u 56, u 57, u 58] := ⟨fun k => t.getD k undef, ht.symm⟩
      clear ht
      subst hu
      have H := H.keeps hw2
      have k_k := (hw2.block _ (Array.getElem?_eq_some_iff.1 k_k).1).trans k_k
      have a_k := (hw2.block _ (Array.getElem?_eq_some_iff.1 a_k).1).trans a_k
      have b_k := (hw2.block _ (Array.getElem?_eq_some_iff.1 b_k).1).trans b_k
      have c_k := (hw2.block _ (Array.getElem?_eq_some_iff.1 c_k).1).trans c_k
      have r_k := (hw2.block _ (Array.getElem?_eq_some_iff.1 r_k).1).trans r_k
      have l_k := (hw2.block _ (Array.getElem?_eq_some_iff.1 l_k).1).trans l_k
      have l_D := l_D.keeps hw2
      have hb2 := bel_trans hb1 hw2
      have f_l0 := blkC l_k 0 rfl
      have f_l1 := blkC l_k 1 rfl
      have f_l2 := blkC l_k 2 rfl
      have f_s0 := blkC s_k 0 rfl
      have f_s1 := blkC s_k 1 rfl
      have f_s2 := blkC s_k 2 rfl
      have f_k1 := blkC k_k 1 rfl
      go_wp2_with fail
      clear f_k1
      clear f_l0 f_l1 f_l2 f_s0 f_s1 f_s2
      have hs0 := (Array.getElem?_eq_some_iff.1 r_k).1
      refine (add_B l_D.num s_D.num l_B s_B (by omega) H.tab).mono ?_
      rintro _ y3 ⟨v, rfl, h3⟩
      obtain ⟨u3_g, u3_o, u3_n, u3_c, u3_e, rfl⟩ := dans_shape h3
      have hw3 := h3.below
      have u3_D := h3.num
      have H := H.keeps hw3
      have k_k := (hw3.block _ (Array.getElem?_eq_some_iff.1 k_k).1).trans k_k
      have a_k := (hw3.block _ (Array.getElem?_eq_some_iff.1 a_k).1).trans a_k
      have b_k := (hw3.block _ (Array.getElem?_eq_some_iff.1 b_k).1).trans b_k
      have c_k := (hw3.block _ (Array.getElem?_eq_some_iff.1 c_k).1).trans c_k
      have r_k := (hw3.block _ (Array.getElem?_eq_some_iff.1 r_k).1).trans r_k
      have l_k := (hw3.block _ (Array.getElem?_eq_some_iff.1 l_k).1).trans l_k
      have l_D := l_D.keeps hw3
      have s_k := (hw3.block _ (Array.getElem?_eq_some_iff.1 s_k).1).trans s_k
      have s_D := s_D.keeps hw3
      have hb3 := bel_trans hb2 hw3
      go_wp2_with fail
      refine (msure_any _ _ _ _ _ _ _).mono ?_
      rintro _ ye ⟨rfl, hwe⟩
      have r_k := blk_on hwe r_k
      have k0 := blkC r_k 0 rfl
      have k1 := blkC r_k 1 rfl
      have k2 := blkC r_k 2 rfl
      have z0 := blkF r_k 0
      have z1 := blkF r_k 1
      have z2 := blkF r_k 2
      go_wp2
      refine bodyPost_ret (v := .agg #[.bool u3_g, .slice u3_o u3_n u3_c, .int .i64 u3_e]) (by simp [results, Tryz.results34, go_sem, k0, k1, k2]) rfl ⟨_, l_V + s_V, rfl, ?_, ⟨l_V, s_V, l_E, s_E, rfl⟩, ?_⟩
      · exact dans_res3 (g := w.heap.size + 4) (h3.stays hwe) (by assumption) (by omega) hs0 _ _ _
      · exact (l_B.add s_B (by decide)).up (by decide) (by decide)
    have KK2 : ∀ W, Below x1.heap.size x1 W → W.cell? ⟨w.heap.size, 0, none⟩ = some (.func (.func 47) #[] #[]) ∧ W.cell? ⟨w.heap.size, 3, none⟩ = some (.func (.func 50) #[] #[]) ∧ W.cell? ⟨w.heap.size + 1, 1, none⟩ = some (.int .i64 ay) ∧ W.cell? ⟨w.heap.size + 2, 1, none⟩ = some (.int .i64 by') ∧ W.cell? ⟨w.heap.size + 3, 1, none⟩ = some (.int .i64 cy) := fun W hb => ⟨q_cell (blkC k_k 0 rfl) hb, q_cell (blkC k_k 3 rfl) hb, q_cell (blkC a_k 1 rfl) hb, q_cell (blkC b_k 1 rfl) hb, q_cell (blkC c_k 1 rfl) hb⟩
    have hC2_0 := (bel_refl x1).drew
    have hT2_0 : Below w.heap.size w x1.drew := hb1.drew
    have H_2_0 := H.keeps (bel_refl x1).drew
    have hs2_0 := (bel_refl x1).drew
    go_region_held3 (fun W => W.cell? ⟨w.heap.size, 0, none⟩ = some (.func (.func 47) #[] #[]) ∧ W.cell? ⟨w.heap.size, 3, none⟩ = some (.func (.func 50) #[] #[]) ∧ W.cell? ⟨w.heap.size + 1, 1, none⟩ = some (.int .i64 ay) ∧ W.cell? ⟨w.heap.size + 2, 1, none⟩ = some (.int .i64 by') ∧ W.cell? ⟨w.heap.size + 3, 1, none⟩ = some (.int .i64 cy))
      (with_reducible first | assumption | exact KK2 _ (bel_alloc _ _).drew | exact KK2 _ hC2_0 | exact KK2 _ hC2_1 | exact KK2 _ hC2_2 | exact KK2 _ hC2_3 | exact KK2 _ hC2_4 | exact KK2 _ (bel_trans hC2_0 (bel_alloc _ _)) | exact KK2 _ (bel_trans hC2_1 (bel_alloc _ _)) | exact KK2 _ (bel_trans hC2_2 (bel_alloc _ _)) | exact KK2 _ (bel_trans hC2_3 (bel_alloc _ _)) | exact KK2 _ (bel_trans hC2_4 (bel_alloc _ _)) | exact KK2 _ (bel_set3' hC2_4 (Nat.le_refl _) _ _ _) | exact KK2 _ (bel_set3' hC2_4 hC2_1.size _ _ _) | exact KK2 _ (bel_set3' hC2_4 hC2_2.size _ _ _) | exact KK2 _ (bel_set3' hC2_4 hC2_3.size _ _ _) | fail)
      (first
        | (go_at_call 51; have _t := hs2_3; refine (msure_any _ _ _ _ _ _ _).mono ?_; rintro _ y2_4 ⟨rfl, hq2_4⟩; have hs2_4 : Below y2_3.heap.size y2_3 y2_4 := (by with_reducible first | exact hq2_4 | exact bel_trans (bel_alloc _ _) hq2_4 | exact bel_trans (bel_dr _ _) hq2_4); have hT2_4 := bel_trans hT2_3 hs2_4; have hC2_4 := bel_trans hC2_3 hs2_4; have H_2_4 := H_2_3.keeps hs2_4; have s_A := ne2.keeps hs2_4; with_reducible first | (have qz2 : y2_4.heap[x1.heap.size]? = some (.cells #[.bool false, .slice none 0 0, .int .i64 0] 35 (0, 0)) := blk_on hq2_4 (blk_on hq2_3 (blk_on hq2_2 (blk_on hq2_1 (heap_a1d x1 (.cells #[.bool false, .slice none 0 0, .int .i64 0] 35))))); have cz2_0 := blkC qz2 0 rfl; have zz2_0 := blkF qz2 0; have cz2_1 := blkC qz2 1 rfl; have zz2_1 := blkF qz2 1; have cz2_2 := blkC qz2 2 rfl; have zz2_2 := blkF qz2 2) | (have qz2 : y2_4.heap[y2_1.heap.size]? = some (.cells #[.bool false, .slice none 0 0, .int .i64 0] 35 (0, 0)) := blk_on hq2_4 (blk_on hq2_3 (blk_on hq2_2 (heap_a1 _ _))); have cz2_0 := blkC qz2 0 rfl; have zz2_0 := blkF qz2 0; have cz2_1 := blkC qz2 1 rfl; have zz2_1 := blkF qz2 1; have cz2_2 := blkC qz2 2 rfl; have zz2_2 := blkF qz2 2) | (have qz2 : y2_4.heap[y2_2.heap.size]? = some (.cells #[.bool false, .slice none 0 0, .int .i64 0] 35 (0, 0)) := blk_on hq2_4 (blk_on hq2_3 (heap_a1 _ _)); have cz2_0 := blkC qz2 0 rfl; have zz2_0 := blkF qz2 0; have cz2_1 := blkC qz2 1 rfl; have zz2_1 := blkF qz2 1; have cz2_2 := blkC qz2 2 rfl; have zz2_2 := blkF qz2 2) | (have qz2 : y2_4.heap[y2_3.heap.size]? = some (.cells #[.bool false, .slice none 0 0, .int .i64 0] 35 (0, 0)) := blk_on hq2_4 (heap_a1 _ _); have cz2_0 := blkC qz2 0 rfl; have zz2_0 := blkF qz2 0; have cz2_1 := blkC qz2 1 rfl; have zz2_1 := blkF qz2 1; have cz2_2 := blkC qz2 2 rfl; have zz2_2 := blkF qz2 2) | skip)
        | (go_at_call 50; have _t := hs2_2; refine (mul_B (np2.keeps (by with_reducible first | exact bel_refl _ | exact bel_alloc _ _ | exact bel_dr _ _)) (nb2.num.keeps (by with_reducible first | exact bel_refl _ | exact bel_alloc _ _ | exact bel_dr _ _)) B3 B4 (by omega) (H_2_2.keeps (by with_reducible first | exact bel_refl _ | exact bel_alloc _ _ | exact bel_dr _ _)).tab).mono ?_; rintro _ y2_3 ⟨v, s_V, rfl, nm2, s_E, s_B⟩; obtain ⟨s_g, s_o, s_n, s_c, s_e, rfl⟩ := dans_shape nm2; have hq2_3 := nm2.below; have ne2 := nm2.dan.lower (Nat.le_trans hT2_2.size (by with_reducible first | exact Nat.le_refl _ | exact (bel_alloc _ _).size | exact (bel_dr _ _).size)); have hs2_3 : Below y2_2.heap.size y2_2 y2_3 := (by with_reducible first | exact hq2_3 | exact bel_trans (bel_alloc _ _) hq2_3 | exact bel_trans (bel_dr _ _) hq2_3); have hT2_3 := bel_trans hT2_2 hs2_3; have hC2_3 := bel_trans hC2_2 hs2_3; have H_2_3 := H_2_2.keeps hs2_3)
        | (go_at_call 47; have _t := hs2_1; refine (A4.out _ (H_2_1.keeps (by with_reducible first | exact bel_refl _ | exact bel_alloc _ _ | exact bel_dr _ _))).mono ?_; rintro _ y2_2 ⟨v, rfl, nb2⟩; obtain ⟨q_g, q_o, q_n, q_c, q_e, rfl⟩ := dans_shape nb2; have hq2_2 := nb2.below; have hs2_2 : Below y2_1.heap.size y2_1 y2_2 := (by with_reducible first | exact hq2_2 | exact bel_trans (bel_alloc _ _) hq2_2 | exact bel_trans (bel_dr _ _) hq2_2); have hT2_2 := bel_trans hT2_1 hs2_2; have hC2_2 := bel_trans hC2_1 hs2_2; have H_2_2 := H_2_1.keeps hs2_2; have np2 := na2.num.keeps hs2_2)
        | (go_at_call 47; refine (A3.out _ (H_2_0.keeps (by with_reducible first | exact bel_refl _ | exact bel_alloc _ _ | exact bel_dr _ _))).mono ?_; rintro _ y2_1 ⟨v, rfl, na2⟩; obtain ⟨p_g, p_o, p_n, p_c, p_e, rfl⟩ := dans_shape na2; have hq2_1 := na2.below; have hs2_1 : Below x1.drew.heap.size x1.drew y2_1 := (by with_reducible first | exact hq2_1 | exact bel_trans (bel_alloc _ _) hq2_1 | exact bel_trans (bel_dr _ _) hq2_1); have hT2_1 := bel_trans hT2_0 hs2_1; have hC2_1 := bel_trans hC2_0 hs2_1; have H_2_1 := H_2_0.keeps hs2_1))
    · exact HN2 y2_4.heap.size _ _ _ _ _ _ _ s_V (by kernel_rfl) ((bel_trans (bel_trans (bel_trans (bel_trans (hs2_0) hs2_1) hs2_2) hs2_3) hs2_4).size) (heap_a1 _ _) (bel_trans (bel_trans (bel_trans (bel_trans (bel_trans (hs2_0) hs2_1) hs2_2) hs2_3) hs2_4) (bel_alloc _ _)) (s_A.keeps (bel_alloc _ _)) s_E s_B
    · exact HN2 y2_3.heap.size _ _ _ _ _ _ _ s_V (by kernel_rfl) ((bel_trans (bel_trans (bel_trans (hs2_0) hs2_1) hs2_2) hs2_3).size) (heap_set (heap_set (heap_set (blk_on hq2_4 (heap_a1 _ _)) 0 _) 1 _) 2 _) (bel_set3' (bel_trans (bel_trans (bel_trans (bel_trans (hs2_0) hs2_1) hs2_2) hs2_3) hs2_4) ((bel_trans (bel_trans (bel_trans (hs2_0) hs2_1) hs2_2) hs2_3).size) _ _ _) (dan_res3 s_A (blk_on hq2_4 (heap_a1 _ _)) _ _ _) s_E s_B
    · exact HN2 y2_2.heap.size _ _ _ _ _ _ _ s_V (by kernel_rfl) ((bel_trans (bel_trans (hs2_0) hs2_1) hs2_2).size) (heap_set (heap_set (heap_set (blk_on hq2_4 (blk_on hq2_3 (heap_a1 _ _))) 0 _) 1 _) 2 _) (bel_set3' (bel_trans (bel_trans (bel_trans (bel_trans (hs2_0) hs2_1) hs2_2) hs2_3) hs2_4) ((bel_trans (bel_trans (hs2_0) hs2_1) hs2_2).size) _ _ _) (dan_res3 s_A (blk_on hq2_4 (blk_on hq2_3 (heap_a1 _ _))) _ _ _) s_E s_B
    · exact HN2 y2_1.heap.size _ _ _ _ _ _ _ s_V (by kernel_rfl) ((bel_trans (hs2_0) hs2_1).size) (heap_set (heap_set (heap_set (blk_on hq2_4 (blk_on hq2_3 (blk_on hq2_2 (heap_a1 _ _)))) 0 _) 1 _) 2 _) (bel_set3' (bel_trans (bel_trans (bel_trans (bel_trans (hs2_0) hs2_1) hs2_2) hs2_3) hs2_4) ((bel_trans (hs2_0) hs2_1).size) _ _ _) (dan_res3 s_A (blk_on hq2_4 (blk_on hq2_3 (blk_on hq2_2 (heap_a1 _ _)))) _ _ _) s_E s_B
    · exact HN2 x1.heap.size _ _ _ _ _ _ _ s_V (by kernel_rfl) (Nat.le_refl _) (heap_set (heap_set (heap_set (blk_on hq2_4 (blk_on hq2_3 (blk_on hq2_2 (blk_on hq2_1 (heap_a1d x1 (.cells #[.bool false, .slice none 0 0, .int .i64 0] 35)))))) 0 _) 1 _) 2 _) (bel_set3' (bel_trans (bel_trans (bel_trans (bel_trans (hs2_0) hs2_1) hs2_2) hs2_3) hs2_4) (Nat.le_refl _) _ _ _) (dan_res3 s_A (blk_on hq2_4 (blk_on hq2_3 (blk_on hq2_2 (blk_on hq2_1 (heap_a1d x1 (.cells #[.bool false, .slice none 0 0, .int .i64 0] 35)))))) _ _ _) s_E s_B
  have KK1 : ∀ W, Below x0.heap.size x0 W → W.cell? ⟨w.heap.size, 0, none⟩ = some (.func (.func 47) #[] #[]) ∧ W.cell? ⟨w.heap.size, 3, none⟩ = some (.func (.func 50) #[] #[]) ∧ W.cell? ⟨w.heap.size + 1, 0, none⟩ = some (.int .i64 ax) ∧ W.cell? ⟨w.heap.size + 2, 0, none⟩ = some (.int .i64 bx) ∧ W.cell? ⟨w.heap.size + 3, 0, none⟩ = some (.int .i64 cx) := fun W hb => ⟨q_cell (blkC k_k 0 rfl) hb, q_cell (blkC k_k 3 rfl) hb, q_cell (blkC a_k 0 rfl) hb, q_cell (blkC b_k 0 rfl) hb, q_cell (blkC c_k 0 rfl) hb⟩
  have hC1_0 := (bel_refl x0).drew
  have hT1_0 : Below w.heap.size w x0.drew := hb0.drew
  have H_1_0 := H.keeps (bel_refl x0).drew
  have hs1_0 := (bel_refl x0).drew
  go_region_held3 (fun W => W.cell? ⟨w.heap.size, 0, none⟩ = some (.func (.func 47) #[] #[]) ∧ W.cell? ⟨w.heap.size, 3, none⟩ = some (.func (.func 50) #[] #[]) ∧ W.cell? ⟨w.heap.size + 1, 0, none⟩ = some (.int .i64 ax) ∧ W.cell? ⟨w.heap.size + 2, 0, none⟩ = some (.int .i64 bx) ∧ W.cell? ⟨w.heap.size + 3, 0, none⟩ = some (.int .i64 cx))
    (with_reducible first | assumption | exact KK1 _ (bel_alloc _ _).drew | exact KK1 _ hC1_0 | exact KK1 _ hC1_1 | exact KK1 _ hC1_2 | exact KK1 _ hC1_3 | exact KK1 _ hC1_4 | exact KK1 _ (bel_trans hC1_0 (bel_alloc _ _)) | exact KK1 _ (bel_trans hC1_1 (bel_alloc _ _)) | exact KK1 _ (bel_trans hC1_2 (bel_alloc _ _)) | exact KK1 _ (bel_trans hC1_3 (bel_alloc _ _)) | exact KK1 _ (bel_trans hC1_4 (bel_alloc _ _)) | exact KK1 _ (bel_set3' hC1_4 (Nat.le_refl _) _ _ _) | exact KK1 _ (bel_set3' hC1_4 hC1_1.size _ _ _) | exact KK1 _ (bel_set3' hC1_4 hC1_2.size _ _ _) | exact KK1 _ (bel_set3' hC1_4 hC1_3.size _ _ _) | fail)
    (first
      | (go_at_call 51; have _t := hs1_3; refine (msure_any _ _ _ _ _ _ _).mono ?_; rintro _ y1_4 ⟨rfl, hq1_4⟩; have hs1_4 : Below y1_3.heap.size y1_3 y1_4 := (by with_reducible first | exact hq1_4 | exact bel_trans (bel_alloc _ _) hq1_4 | exact bel_trans (bel_dr _ _) hq1_4); have hT1_4 := bel_trans hT1_3 hs1_4; have hC1_4 := bel_trans hC1_3 hs1_4; have H_1_4 := H_1_3.keeps hs1_4; have l_A := ne1.keeps hs1_4; with_reducible first | (have qz1 : y1_4.heap[x0.heap.size]? = some (.cells #[.bool false, .slice none 0 0, .int .i64 0] 35 (0, 0)) := blk_on hq1_4 (blk_on hq1_3 (blk_on hq1_2 (blk_on hq1_1 (heap_a1d x0 (.cells #[.bool false, .slice none 0 0, .int .i64 0] 35))))); have cz1_0 := blkC qz1 0 rfl; have zz1_0 := blkF qz1 0; have cz1_1 := blkC qz1 1 rfl; have zz1_1 := blkF qz1 1; have cz1_2 := blkC qz1 2 rfl; have zz1_2 := blkF qz1 2) | (have qz1 : y1_4.heap[y1_1.heap.size]? = some (.cells #[.bool false, .slice none 0 0, .int .i64 0] 35 (0, 0)) := blk_on hq1_4 (blk_on hq1_3 (blk_on hq1_2 (heap_a1 _ _))); have cz1_0 := blkC qz1 0 rfl; have zz1_0 := blkF qz1 0; have cz1_1 := blkC qz1 1 rfl; have zz1_1 := blkF qz1 1; have cz1_2 := blkC qz1 2 rfl; have zz1_2 := blkF qz1 2) | (have qz1 : y1_4.heap[y1_2.heap.size]? = some (.cells #[.bool false, .slice none 0 0, .int .i64 0] 35 (0, 0)) := blk_on hq1_4 (blk_on hq1_3 (heap_a1 _ _)); have cz1_0 := blkC qz1 0 rfl; have zz1_0 := blkF qz1 0; have cz1_1 := blkC qz1 1 rfl; have zz1_1 := blkF qz1 1; have cz1_2 := blkC qz1 2 rfl; have zz1_2 := blkF qz1 2) | (have qz1 : y1_4.heap[y1_3.heap.size]? = some (.cells #[.bool false, .slice none 0 0, .int .i64 0] 35 (0, 0)) := blk_on hq1_4 (heap_a1 _ _); have cz1_0 := blkC qz1 0 rfl; have zz1_0 := blkF qz1 0; have cz1_1 := blkC qz1 1 rfl; have zz1_1 := blkF qz1 1; have cz1_2 := blkC qz1 2 rfl; have zz1_2 := blkF qz1 2) | skip)
      | (go_at_call 50; have _t := hs1_2; refine (mul_B (np1.keeps (by with_reducible first | exact bel_refl _ | exact bel_alloc _ _ | exact bel_dr _ _)) (nb1.num.keeps (by with_reducible first | exact bel_refl _ | exact bel_alloc _ _ | exact bel_dr _ _)) B1 B2 (by omega) (H_1_2.keeps (by with_reducible first | exact bel_refl _ | exact bel_alloc _ _ | exact bel_dr _ _)).tab).mono ?_; rintro _ y1_3 ⟨v, l_V, rfl, nm1, l_E, l_B⟩; obtain ⟨l_g, l_o, l_n, l_c, l_e, rfl⟩ := dans_shape nm1; have hq1_3 := nm1.below; have ne1 := nm1.dan.lower (Nat.le_trans hT1_2.size (by with_reducible first | exact Nat.le_refl _ | exact (bel_alloc _ _).size | exact (bel_dr _ _).size)); have hs1_3 : Below y1_2.heap.size y1_2 y1_3 := (by with_reducible first | exact hq1_3 | exact bel_trans (bel_alloc _ _) hq1_3 | exact bel_trans (bel_dr _ _) hq1_3); have hT1_3 := bel_trans hT1_2 hs1_3; have hC1_3 := bel_trans hC1_2 hs1_3; have H_1_3 := H_1_2.keeps hs1_3)
      | (go_at_call 47; have _t := hs1_1; refine (A2.out _ (H_1_1.keeps (by with_reducible first | exact bel_refl _ | exact bel_alloc _ _ | exact bel_dr _ _))).mono ?_; rintro _ y1_2 ⟨v, rfl, nb1⟩; obtain ⟨q_g, q_o, q_n, q_c, q_e, rfl⟩ := dans_shape nb1; have hq1_2 := nb1.below; have hs1_2 : Below y1_1.heap.size y1_1 y1_2 := (by with_reducible first | exact hq1_2 | exact bel_trans (bel_alloc _ _) hq1_2 | exact bel_trans (bel_dr _ _) hq1_2); have hT1_2 := bel_trans hT1_1 hs1_2; have hC1_2 := bel_trans hC1_1 hs1_2; have H_1_2 := H_1_1.keeps hs1_2; have np1 := na1.num.keeps hs1_2)
      | (go_at_call 47; refine (A1.out _ (H_1_0.keeps (by with_reducible first | exact bel_refl _ | exact bel_alloc _ _ | exact bel_dr _ _))).mono ?_; rintro _ y1_1 ⟨v, rfl, na1⟩; obtain ⟨p_g, p_o, p_n, p_c, p_e, rfl⟩ := dans_shape na1; have hq1_1 := na1.below; have hs1_1 : Below x0.drew.heap.size x0.drew y1_1 := (by with_reducible first | exact hq1_1 | exact bel_trans (bel_alloc _ _) hq1_1 | exact bel_trans (bel_dr _ _) hq1_1); have hT1_1 := bel_trans hT1_0 hs1_1; have hC1_1 := bel_trans hC1_0 hs1_1; have H_1_1 := H_1_0.keeps hs1_1))
  · exact HN1 y1_4.heap.size _ _ _ _ _ _ _ l_V (by kernel_rfl) ((bel_trans (bel_trans (bel_trans (bel_trans (hs1_0) hs1_1) hs1_2) hs1_3) hs1_4).size) (heap_a1 _ _) (bel_trans (bel_trans (bel_trans (bel_trans (bel_trans (hs1_0) hs1_1) hs1_2) hs1_3) hs1_4) (bel_alloc _ _)) (l_A.keeps (bel_alloc _ _)) l_E l_B
  · exact HN1 y1_3.heap.size _ _ _ _ _ _ _ l_V (by kernel_rfl) ((bel_trans (bel_trans (bel_trans (hs1_0) hs1_1) hs1_2) hs1_3).size) (heap_set (heap_set (heap_set (blk_on hq1_4 (heap_a1 _ _)) 0 _) 1 _) 2 _) (bel_set3' (bel_trans (bel_trans (bel_trans (bel_trans (hs1_0) hs1_1) hs1_2) hs1_3) hs1_4) ((bel_trans (bel_trans (bel_trans (hs1_0) hs1_1) hs1_2) hs1_3).size) _ _ _) (dan_res3 l_A (blk_on hq1_4 (heap_a1 _ _)) _ _ _) l_E l_B
  · exact HN1 y1_2.heap.size _ _ _ _ _ _ _ l_V (by kernel_rfl) ((bel_trans (bel_trans (hs1_0) hs1_1) hs1_2).size) (heap_set (heap_set (heap_set (blk_on hq1_4 (blk_on hq1_3 (heap_a1 _ _))) 0 _) 1 _) 2 _) (bel_set3' (bel_trans (bel_trans (bel_trans (bel_trans (hs1_0) hs1_1) hs1_2) hs1_3) hs1_4) ((bel_trans (bel_trans (hs1_0) hs1_1) hs1_2).size) _ _ _) (dan_res3 l_A (blk_on hq1_4 (blk_on hq1_3 (heap_a1 _ _))) _ _ _) l_E l_B
  · exact HN1 y1_1.heap.size _ _ _ _ _ _ _ l_V (by kernel_rfl) ((bel_trans (hs1_0) hs1_1).size) (heap_set (heap_set (heap_set (blk_on hq1_4 (blk_on hq1_3 (blk_on hq1_2 (heap_a1 _ _)))) 0 _) 1 _) 2 _) (bel_set3' (bel_trans (bel_trans (bel_trans (bel_trans (hs1_0) hs1_1) hs1_2) hs1_3) hs1_4) ((bel_trans (hs1_0) hs1_1).size) _ _ _) (dan_res3 l_A (blk_on hq1_4 (blk_on hq1_3 (blk_on hq1_2 (heap_a1 _ _)))) _ _ _) l_E l_B
  · exact HN1 x0.heap.size _ _ _ _ _ _ _ l_V (by kernel_rfl) (Nat.le_refl _) (heap_set (heap_set (heap_set (blk_on hq1_4 (blk_on hq1_3 (blk_on hq1_2 (blk_on hq1_1 (heap_a1d x0 (.cells #[.bool false, .slice none 0 0, .int .i64 0] 35)))))) 0 _) 1 _) 2 _) (bel_set3' (bel_trans (bel_trans (bel_trans (bel_trans (hs1_0) hs1_1) hs1_2) hs1_3) hs1_4) (Nat.le_refl _) _ _ _) (dan_res3 l_A (blk_on hq1_4 (blk_on hq1_3 (blk_on hq1_2 (blk_on hq1_1 (heap_a1d x0 (.cells #[.bool false, .slice none 0 0, .int .i64 0] 35)))))) _ _ _) l_E l_B
end Go.Proofs.YthpachmmjjlomaaGreatDoor
