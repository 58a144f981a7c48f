/-
  Package sites, by contracts: Add.
-/
import Derived.Test.YtbljcodhcodmkaaDoorTPut
namespace Go.Proofs.YtbljcodhcodmkaaDoor
open Go Go.RowKit Go.Proofs.YtbljcodhcodmkaaDoor.M
set_option linter.unusedSimpArgs false
set_option linter.unusedVariables false

theorem q0_rng {b : Int} (h : rng b) : rng (q0 b) := by unfold q0; split; (· unfold rng; omega); (· exact h)
theorem q0_q0 (b : Int) : q0 (q0 b) = q0 b := by
  unfold q0
  by_cases h : b = -9223372036854775808
  · rw [if_pos h]; rfl
  · rw [if_neg h, if_neg h]
theorem q0_pok {b : Int} (h : pok b = true) : pok (q0 b) = true := by unfold q0; split; (· decide); (· exact h)
theorem nrm_q0 {x y : Int} (rx : rng x) (ry : rng y) (hx : pok x = true) (hy : pok y = true) : NrmP (q0 x) (q0 y) := ⟨q0_rng rx, q0_rng ry, q0_pok hx, q0_pok hy, q0_q0 x, q0_q0 y⟩
/-- What the map of a set tells of a place. -/
theorem SetR.look {B : Nat} {w : World} {g n s : Nat} {px py : Nat → Int} {al : Nat → Bool} {f : Int → Int → Option Int} (h : SetR B w g n s px py al f) {x y : Int} (rx : rng x) (ry : rng y) :
    ∃ gv mv, w.heap[g]? = some (.cells #[gv, .map mv] 49 (0, 0)) ∧ ∀ W : World, Below w.heap.size w W → (Instr.lookup 47 (.map mv) (.agg #[.int .i64 x, .int .i64 y]) true).run Tryd.prog W = .ok (.tuple #[.int .i64 ((f x y).getD 0), .bool (f x y).isSome]) W := by
  obtain ⟨gv, mv, h1, h2, h3, h4, h5, h6⟩ := h
  rcases h6 with ⟨rfl, rfl, rfl, rfl⟩ | ⟨b, rfl, hb, hM⟩
  · exact ⟨gv, none, h1, fun W _ => look_none rx ry⟩
  · obtain ⟨es, c, hc⟩ := hM.lt
    exact ⟨gv, some b, h1, fun W hW => (hM.of_block (hW.block b (Array.getElem?_eq_some_iff.1 hc).1)).look rx ry⟩
set_option maxRecDepth 100000 in
set_option maxHeartbeats 2000000 in
theorem tAdd_same {B : Nat} {w : World} {g n s : Nat} {px py : Nat → Int} {al : Nat → Bool} {f : Int → Int → Option Int} (h : SetR B w g n s px py al f) (L : Lays w) {x y : Int} (rx : rng x) (ry : rng y) (hp : (pok x && pok y) = true) {v : Int} (hf : f (q0 x) (q0 y) = some v) :
    Calls Tryd.prog 7 #[.pointer (some ⟨g, 0, none⟩), .agg #[.int .i64 x, .int .i64 y]] w fun r w' => r = .returned (.tuple #[.int .i64 v, .int .i64 20]) ∧ Below w.heap.size w w' := by
  have hb0 := bel_alloc w (.cells #[.int .i64 x, .int .i64 y] 31)
  have p_k := t_new w (.cells #[.int .i64 x, .int .i64 y] 31)
  have CN : Hid (∀ W, Below w.heap.size w W → Calls Tryd.prog 18 #[.agg #[.int .i64 x, .int .i64 y]] W fun e w' => e = .returned (.tuple #[.agg #[.int .i64 (q0 x), .int .i64 (q0 y)], .int .i64 0]) ∧ Below W.heap.size W w') := fun W hb => by
    have := pointNormal rx ry W (L.below' hb)
    rw [hp] at this
    exact this
  obtain ⟨gv, mv, hG, hL⟩ := h.look (x := q0 x) (y := q0 y) (q0_rng rx) (q0_rng ry)
  have HG : Hid (w.heap[g]? = some (.cells #[gv, .map mv] 49 (0, 0))) := hG
  have HL : Hid (∀ W : World, Below w.heap.size w W → (Instr.lookup 47 (.map mv) (.agg #[.int .i64 (q0 x), .int .i64 (q0 y)]) true).run Tryd.prog W = .ok (.tuple #[.int .i64 v, .bool true]) W) := fun W hW => by
    have := hL W hW
    rwa [hf] at this
  have HS : Hid (∀ W, Below w.heap.size w W → SetR B W g n s px py al f) := fun W hb => h.keeps hb
  have HQ : Hid (NrmP (q0 x) (q0 y)) := nrm_q0 rx ry (Bool.and_eq_true_iff.1 hp).1 (Bool.and_eq_true_iff.1 hp).2
  have HFF : Hid (f (q0 x) (q0 y) = some v) := hf
  have hmost := h.most
  clear hG hL h L rx ry hp hf
  generalize q0 x = X at *
  generalize q0 y = Y at *
  obtain ⟨c0, c1, _, _⟩ := t_blkC p_k
  go_enter Tryd.func7, Tryd.ntmps7
  go_wp2_with fail
  clear c0 c1
  generalize w.alloc (.cells #[.int .i64 x, .int .i64 y] 31) = x0 at hb0 p_k ⊢
  refine (CN.out _ hb0).mono ?_
  rintro _ y1 ⟨rfl, hw1⟩
  replace p_k := (hw1.block _ (Array.getElem?_eq_some_iff.1 p_k).1).trans p_k
  replace hb0 := bel_trans hb0 hw1
  obtain ⟨_, _, z0, z1⟩ := t_blkC p_k
  have k_j := q_heap_set (q_heap_set p_k 0 (.int .i64 X)) 1 (.int .i64 Y)
  have hb1 : Below w.heap.size w ((y1.setCell ⟨w.heap.size, 0, none⟩ (.int .i64 X)).setCell ⟨w.heap.size, 1, none⟩ (.int .i64 Y)) := (hb0.setCell (Nat.le_refl _) _).setCell (Nat.le_refl _) _
  have hl := HL.out _ hb1.drew
  have g_j := (hb1.block g (Array.getElem?_eq_some_iff.1 HG.out).1).trans HG.out
  have hS := HS.out _ hb1
  obtain ⟨d0, d1, _, _⟩ := t_blkC g_j
  obtain ⟨k0, k1, _, _⟩ := t_blkC k_j
  clear p_k g_j
  go_wp2_with fail
  generalize (y1.setCell ⟨w.heap.size, 0, none⟩ (.int .i64 X)).setCell ⟨w.heap.size, 1, none⟩ (.int .i64 Y) = x1 at *
  go_region
  all_goals go_wp2
  all_goals exact bodyPost_ret (v := .tuple #[.int .i64 v, .int .i64 20]) (by simp [results, Tryd.results7, go_sem]) rfl ⟨rfl, hb1.drew⟩
set_option maxRecDepth 100000 in
set_option maxHeartbeats 2000000 in
theorem tAdd_many {B : Nat} {w : World} {g n s : Nat} {px py : Nat → Int} {al : Nat → Bool} {f : Int → Int → Option Int} (h : SetR B w g n s px py al f) (L : Lays w) {x y : Int} (rx : rng x) (ry : rng y) (hp : (pok x && pok y) = true) (hf : f (q0 x) (q0 y) = none) (hn : n = 65536) :
    Calls Tryd.prog 7 #[.pointer (some ⟨g, 0, none⟩), .agg #[.int .i64 x, .int .i64 y]] w fun r w' => r = .returned (.tuple #[.int .i64 0, .int .i64 22]) ∧ Below w.heap.size w w' := by
  have hb0 := bel_alloc w (.cells #[.int .i64 x, .int .i64 y] 31)
  have p_k := t_new w (.cells #[.int .i64 x, .int .i64 y] 31)
  have CN : Hid (∀ W, Below w.heap.size w W → Calls Tryd.prog 18 #[.agg #[.int .i64 x, .int .i64 y]] W fun e w' => e = .returned (.tuple #[.agg #[.int .i64 (q0 x), .int .i64 (q0 y)], .int .i64 0]) ∧ Below W.heap.size W w') := fun W hb => by
    have := pointNormal rx ry W (L.below' hb)
    rw [hp] at this
    exact this
  obtain ⟨gv, mv, hG, hL⟩ := h.look (x := q0 x) (y := q0 y) (q0_rng rx) (q0_rng ry)
  have HG : Hid (w.heap[g]? = some (.cells #[gv, .map mv] 49 (0, 0))) := hG
  have HL : Hid (∀ W : World, Below w.heap.size w W → (Instr.lookup 47 (.map mv) (.agg #[.int .i64 (q0 x), .int .i64 (q0 y)]) true).run Tryd.prog W = .ok (.tuple #[.int .i64 0, .bool false]) W) := fun W hW => by
    have := hL W hW
    rwa [hf] at this
  have HS : Hid (∀ W, Below w.heap.size w W → SetR B W g n s px py al f) := fun W hb => h.keeps hb
  have HQ : Hid (NrmP (q0 x) (q0 y)) := nrm_q0 rx ry (Bool.and_eq_true_iff.1 hp).1 (Bool.and_eq_true_iff.1 hp).2
  have HFF : Hid (f (q0 x) (q0 y) = none) := hf
  have hmost := h.most
  clear hG hL h L rx ry hp hf
  generalize q0 x = X at *
  generalize q0 y = Y at *
  obtain ⟨c0, c1, _, _⟩ := t_blkC p_k
  go_enter Tryd.func7, Tryd.ntmps7
  go_wp2_with fail
  clear c0 c1
  generalize w.alloc (.cells #[.int .i64 x, .int .i64 y] 31) = x0 at hb0 p_k ⊢
  refine (CN.out _ hb0).mono ?_
  rintro _ y1 ⟨rfl, hw1⟩
  replace p_k := (hw1.block _ (Array.getElem?_eq_some_iff.1 p_k).1).trans p_k
  replace hb0 := bel_trans hb0 hw1
  obtain ⟨_, _, z0, z1⟩ := t_blkC p_k
  have k_j := q_heap_set (q_heap_set p_k 0 (.int .i64 X)) 1 (.int .i64 Y)
  have hb1 : Below w.heap.size w ((y1.setCell ⟨w.heap.size, 0, none⟩ (.int .i64 X)).setCell ⟨w.heap.size, 1, none⟩ (.int .i64 Y)) := (hb0.setCell (Nat.le_refl _) _).setCell (Nat.le_refl _) _
  have hl := HL.out _ hb1.drew
  have g_j := (hb1.block g (Array.getElem?_eq_some_iff.1 HG.out).1).trans HG.out
  have hS := HS.out _ hb1
  obtain ⟨d0, d1, _, _⟩ := t_blkC g_j
  obtain ⟨k0, k1, _, _⟩ := t_blkC k_j
  clear p_k g_j
  go_wp2_with fail
  generalize (y1.setCell ⟨w.heap.size, 0, none⟩ (.int .i64 X)).setCell ⟨w.heap.size, 1, none⟩ (.int .i64 Y) = x1 at *
  go_region
  all_goals
    have CG : Hid (Calls Tryd.prog 12 #[.pointer (some ⟨g, 0, none⟩)] x1.drew fun r w' => r = .returned (.int .i64 n) ∧ Below x1.drew.heap.size x1.drew w') := tGiven (hS.keeps (bel_refl x1).drew)
    have HN : (n : Int) = 65536 := by omega
    rw [HN] at CG
    clear HN hn hmost
    go_wp2_with fail
    refine CG.out.mono ?_
    rintro _ y3 ⟨rfl, hw3⟩
    go_wp2
    exact bodyPost_ret (v := .tuple #[.int .i64 0, .int .i64 22]) (by simp [results, Tryd.results7, go_sem]) rfl ⟨rfl, bel_trans hb1.drew hw3⟩
set_option maxRecDepth 100000 in
set_option maxHeartbeats 2000000 in
theorem tAdd_new {B : Nat} {w : World} {g n s : Nat} {px py : Nat → Int} {al : Nat → Bool} {f : Int → Int → Option Int} (h : SetR B w g n s px py al f) (L : Lays w) {x y : Int} (rx : rng x) (ry : rng y) (hB : B ≤ w.heap.size) (hp : (pok x && pok y) = true) (hf : f (q0 x) (q0 y) = none) (hn : n < 65536) :
    Calls Tryd.prog 7 #[.pointer (some ⟨g, 0, none⟩), .agg #[.int .i64 x, .int .i64 y]] w fun r w' => r = .returned (.tuple #[.int .i64 n, .int .i64 0]) ∧ SetR B w' g (n + 1) (s + 1) (updT px n (q0 x)) (updT py n (q0 y)) (updT al n true) (fput f (q0 x) (q0 y) n) ∧ FrS B w w' := by
  have hb0 := bel_alloc w (.cells #[.int .i64 x, .int .i64 y] 31)
  have p_k := t_new w (.cells #[.int .i64 x, .int .i64 y] 31)
  have CN : Hid (∀ W, Below w.heap.size w W → Calls Tryd.prog 18 #[.agg #[.int .i64 x, .int .i64 y]] W fun e w' => e = .returned (.tuple #[.agg #[.int .i64 (q0 x), .int .i64 (q0 y)], .int .i64 0]) ∧ Below W.heap.size W w') := fun W hb => by
    have := pointNormal rx ry W (L.below' hb)
    rw [hp] at this
    exact this
  obtain ⟨gv, mv, hG, hL⟩ := h.look (x := q0 x) (y := q0 y) (q0_rng rx) (q0_rng ry)
  have HG : Hid (w.heap[g]? = some (.cells #[gv, .map mv] 49 (0, 0))) := hG
  have HL : Hid (∀ W : World, Below w.heap.size w W → (Instr.lookup 47 (.map mv) (.agg #[.int .i64 (q0 x), .int .i64 (q0 y)]) true).run Tryd.prog W = .ok (.tuple #[.int .i64 0, .bool false]) W) := fun W hW => by
    have := hL W hW
    rwa [hf] at this
  have HS : Hid (∀ W, Below w.heap.size w W → SetR B W g n s px py al f) := fun W hb => h.keeps hb
  have HQ : Hid (NrmP (q0 x) (q0 y)) := nrm_q0 rx ry (Bool.and_eq_true_iff.1 hp).1 (Bool.and_eq_true_iff.1 hp).2
  have HFF : Hid (f (q0 x) (q0 y) = none) := hf
  have hmost := h.most
  clear hG hL h L rx ry hp hf
  generalize q0 x = X at *
  generalize q0 y = Y at *
  obtain ⟨c0, c1, _, _⟩ := t_blkC p_k
  go_enter Tryd.func7, Tryd.ntmps7
  go_wp2_with fail
  clear c0 c1
  generalize w.alloc (.cells #[.int .i64 x, .int .i64 y] 31) = x0 at hb0 p_k ⊢
  refine (CN.out _ hb0).mono ?_
  rintro _ y1 ⟨rfl, hw1⟩
  replace p_k := (hw1.block _ (Array.getElem?_eq_some_iff.1 p_k).1).trans p_k
  replace hb0 := bel_trans hb0 hw1
  obtain ⟨_, _, z0, z1⟩ := t_blkC p_k
  have k_j := q_heap_set (q_heap_set p_k 0 (.int .i64 X)) 1 (.int .i64 Y)
  have hb1 : Below w.heap.size w ((y1.setCell ⟨w.heap.size, 0, none⟩ (.int .i64 X)).setCell ⟨w.heap.size, 1, none⟩ (.int .i64 Y)) := (hb0.setCell (Nat.le_refl _) _).setCell (Nat.le_refl _) _
  have hl := HL.out _ hb1.drew
  have g_j := (hb1.block g (Array.getElem?_eq_some_iff.1 HG.out).1).trans HG.out
  have hS := HS.out _ hb1
  obtain ⟨d0, d1, _, _⟩ := t_blkC g_j
  obtain ⟨k0, k1, _, _⟩ := t_blkC k_j
  clear p_k g_j
  go_wp2_with fail
  generalize (y1.setCell ⟨w.heap.size, 0, none⟩ (.int .i64 X)).setCell ⟨w.heap.size, 1, none⟩ (.int .i64 Y) = x1 at *
  go_region
  all_goals
    have CG : Hid (Calls Tryd.prog 12 #[.pointer (some ⟨g, 0, none⟩)] x1.drew fun r w' => r = .returned (.int .i64 n) ∧ Below x1.drew.heap.size x1.drew w') := tGiven (hS.keeps (bel_refl x1).drew)
    have hne : ¬ (n : Int) = 65536 := by omega
    go_wp2_with fail
    refine CG.out.mono ?_
    rintro _ y3 ⟨rfl, hw3⟩
    have hb3 := bel_trans (bel_refl x1).drew hw3
    have k_3 := (hb3.block _ (Array.getElem?_eq_some_iff.1 k_j).1).trans k_j
    obtain ⟨m0, m1, _, _⟩ := t_blkC k_3
    have CP : Hid (Calls Tryd.prog 19 #[.pointer (some ⟨g, 0, none⟩), .agg #[.int .i64 X, .int .i64 Y]] y3 fun r w' => r = .returned (.int .i64 n) ∧ SetR B w' g (n + 1) (s + 1) (updT px n X) (updT py n Y) (updT al n true) (fput f X Y n) ∧ FrS B y3 w') := tPut (hS.keeps hb3) (Nat.le_trans hB (Nat.le_trans hb1.size hb3.size)) hn HQ.out HFF.out
    go_wp2_with fail
    refine CP.out.mono ?_
    rintro _ y4 ⟨rfl, hS4, hF4⟩
    go_wp2
    exact bodyPost_ret (v := .tuple #[.int .i64 n, .int .i64 0]) (by simp [results, Tryd.results7, go_sem]) rfl ⟨rfl, hS4, (FrS.of_below (bel_trans hb1 hb3)).trans hF4⟩
end Go.Proofs.YtbljcodhcodmkaaDoor
