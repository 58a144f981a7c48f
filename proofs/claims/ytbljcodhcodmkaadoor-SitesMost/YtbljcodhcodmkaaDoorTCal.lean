/-
  Package sites, by contracts: New, held, Given, Len, At.
-/
import Derived.Test.YtbljcodhcodmkaaDoorTRow
namespace Go.Proofs.YtbljcodhcodmkaaDoor
open Go Go.RowKit Go.Proofs.YtbljcodhcodmkaaDoor.M
set_option linter.unusedSimpArgs false
set_option linter.unusedVariables false

theorem stF_nil (px py : Nat → Int) (al : Nat → Bool) : StF 0 px py al (fun _ _ => none) := ⟨fun i hi => by omega, fun i hi => by omega, fun x y v h => by cases h⟩
theorem tNew (w : World) : Calls Tryd.prog 6 #[] w fun r w' => r = .returned (.pointer (some ⟨w.heap.size, 0, none⟩)) ∧ SetR w.heap.size w' w.heap.size 0 0 (fun _ => 0) (fun _ => 0) (fun _ => false) (fun _ _ => none) ∧ Below w.heap.size w w' := by
  go_enter Tryd.func6, Tryd.ntmps6
  go_wp2
  go_ret
  exact ⟨rfl, ⟨_, _, t_new w _, Nat.le_refl _, OutT.nil _ _ _ _ _, stF_nil _ _ _, by omega, .inl ⟨rfl, rfl, rfl, rfl⟩⟩, bel_alloc _ _⟩
theorem tHeld {w : World} {g : Nat} {gv mv : Value} (h : w.heap[g]? = some (.cells #[gv, mv] 49 (0, 0))) (hg : ∃ xo n xc, gv = .slice xo n xc) (hm : ∃ b, mv = .map b) :
    Calls Tryd.prog 22 #[.pointer (some ⟨g, 0, none⟩)] w fun r w' => r = .returned (.agg #[gv, mv]) ∧ Below w.heap.size w w' := by
  obtain ⟨xo, n, xc, rfl⟩ := hg
  obtain ⟨b, rfl⟩ := hm
  obtain ⟨c0, c1, f0, f1⟩ := t_blkC (t_past (.cells #[.slice none 0 0, .map none] 49) h)
  go_enter Tryd.func22, Tryd.ntmps22
  go_wp2
  have r_j := t_new w (.cells #[.slice xo n xc, .map b] 49)
  obtain ⟨k0, k1, _, _⟩ := t_blkC r_j
  exact bodyPost_ret (v := .agg #[.slice xo n xc, .map b]) (by simp [results, Tryd.results22, go_sem, k0, k1]) rfl ⟨rfl, bel_alloc _ _⟩
theorem tGiven {B : Nat} {w : World} {g n s : Nat} {px py : Nat → Int} {al : Nat → Bool} {f : Int → Int → Option Int} (h : SetR B w g n s px py al f) :
    Calls Tryd.prog 12 #[.pointer (some ⟨g, 0, none⟩)] w fun r w' => r = .returned (.int .i64 n) ∧ Below w.heap.size w w' := by
  obtain ⟨gv, mv, h1, h2, h3, h4, h5, h6⟩ := h
  obtain ⟨xo, xc, rfl, hle, hmx, _⟩ := h3.shape
  have hm : ∃ b, mv = .map b := by rcases h6 with ⟨e, _⟩ | ⟨b, e, _⟩ <;> exact ⟨_, e⟩
  have CH : Hid (Calls Tryd.prog 22 #[.pointer (some ⟨g, 0, none⟩)] w fun r w' => r = .returned (.agg #[.slice xo n xc, mv]) ∧ Below w.heap.size w w') := tHeld h1 ⟨_, _, _, rfl⟩ hm
  obtain ⟨mb, rfl⟩ := hm
  have fl : ∀ w : World, (Instr.field 49 (.agg #[.slice xo n xc, .map mb]) 0).run Tryd.prog w = .ok (.slice xo n xc) w := fun w => by kernel_rfl
  clear h1 h3 h4 h6
  go_enter Tryd.func12, Tryd.ntmps12
  go_wp2_with fail
  refine CH.out.mono ?_
  rintro _ w1 ⟨rfl, hw1⟩
  go_wp2
  go_ret
  exact ⟨rfl, hw1⟩
theorem tLen {B : Nat} {w : World} {g n s : Nat} {px py : Nat → Int} {al : Nat → Bool} {f : Int → Int → Option Int} (h : SetR B w g n s px py al f) :
    Calls Tryd.prog 17 #[.pointer (some ⟨g, 0, none⟩)] w fun r w' => r = .returned (.int .i64 s) ∧ Below w.heap.size w w' := by
  obtain ⟨gv, mv, h1, h2, h3, h4, h5, h6⟩ := h
  obtain ⟨xo, xc, rfl, hle, hmx, _⟩ := h3.shape
  rcases h6 with ⟨rfl, rfl, rfl, _⟩ | ⟨b, rfl, _, hM⟩
  · have CH : Hid (Calls Tryd.prog 22 #[.pointer (some ⟨g, 0, none⟩)] w fun r w' => r = .returned (.agg #[.slice xo 0 xc, .map none]) ∧ Below w.heap.size w w') := tHeld h1 ⟨_, _, _, rfl⟩ ⟨_, rfl⟩
    have hl : ∀ (w : World) (ty : TypeId), (Builtin.len_ #[47] ty #[.map none]).run Tryd.prog w = .ok (.int .i64 0) w := fun w ty => Maps.len_nil Tryd.underlying47 ty
    have fl : ∀ w : World, (Instr.field 49 (.agg #[.slice xo 0 xc, .map none]) 1).run Tryd.prog w = .ok (.map none) w := fun w => by kernel_rfl
    clear h1 h3 h4
    go_enter Tryd.func17, Tryd.ntmps17
    go_wp2_with fail
    refine CH.out.mono ?_
    rintro _ w1 ⟨rfl, hw1⟩
    go_wp2
    go_ret
    exact ⟨rfl, hw1⟩
  · have CH : Hid (Calls Tryd.prog 22 #[.pointer (some ⟨g, 0, none⟩)] w fun r w' => r = .returned (.agg #[.slice xo n xc, .map (some b)]) ∧ Below w.heap.size w w') := tHeld h1 ⟨_, _, _, rfl⟩ ⟨_, rfl⟩
    obtain ⟨es, c, hc⟩ := hM.lt
    have HM : Hid (∀ W, Below w.heap.size w W → ∀ ty, (Builtin.len_ #[47] ty #[.map (some b)]).run Tryd.prog W = .ok (.int .i64 s) W) := fun W hb ty => (hM.of_block (hb.block b (Array.getElem?_eq_some_iff.1 hc).1)).len ty
    have fl : ∀ w : World, (Instr.field 49 (.agg #[.slice xo n xc, .map (some b)]) 1).run Tryd.prog w = .ok (.map (some b)) w := fun w => by kernel_rfl
    clear h1 h3 h4 hM hc
    go_enter Tryd.func17, Tryd.ntmps17
    go_wp2_with fail
    refine CH.out.mono ?_
    rintro _ w1 ⟨rfl, hw1⟩
    have hl := HM.out w1 hw1
    go_wp2
    go_ret
    exact ⟨rfl, hw1⟩
theorem tAt_ok {B : Nat} {w : World} {g n s : Nat} {px py : Nat → Int} {al : Nat → Bool} {f : Int → Int → Option Int} (h : SetR B w g n s px py al f) {i : Nat} (hi : i < n) (ha : al i = true) :
    Calls Tryd.prog 8 #[.pointer (some ⟨g, 0, none⟩), .int .i64 (i : Int)] w fun r w' => r = .returned (.tuple #[.agg #[.int .i64 (px i), .int .i64 (py i)], .int .i64 0]) ∧ Below w.heap.size w w' := by
  have CG : Hid (∀ W, Below w.heap.size w W → Calls Tryd.prog 12 #[.pointer (some ⟨g, 0, none⟩)] W fun r w' => r = .returned (.int .i64 n) ∧ Below W.heap.size W w') := fun W hb => tGiven (h.keeps hb)
  have HS : Hid (∀ W, Below w.heap.size w W → SetR B W g n s px py al f) := fun W hb => h.keeps hb
  have hmost := h.most
  have i0 : (0 : Int) ≤ (i : Int) := by omega
  have i1 : (i : Int) < (n : Int) := by omega
  have d_lt : decide ((i : Int) < 0) = false := decide_eq_false (by omega)
  have d_ge : decide (n ≤ i) = false := decide_eq_false (by omega)
  clear h
  have hb0 := bel_alloc w (.cells #[.int .i64 0, .int .i64 0] 31)
  have r_k := t_new w (.cells #[.int .i64 0, .int .i64 0] 31)
  go_enter Tryd.func8, Tryd.ntmps8
  go_wp2_with fail
  generalize w.alloc (.cells #[.int .i64 0, .int .i64 0] 31) = x0 at hb0 r_k ⊢
  refine (CG.out _ hb0).mono ?_
  rintro _ y1 ⟨rfl, hw1⟩
  obtain ⟨gv, mv, h1, h2, h3, h4, h5, h6⟩ := HS.out _ (bel_trans hb0 hw1)
  obtain ⟨xo, xc, rfl, hle, hmx, hxo⟩ := h3.shape
  obtain ⟨r, rfl⟩ := hxo (by omega)
  obtain ⟨c0, c1, _, _⟩ := t_blkC h1
  obtain ⟨d0, d1, d2, _⟩ := h3.cell hi
  replace r_k := (hw1.block _ (Array.getElem?_eq_some_iff.1 r_k).1).trans r_k
  obtain ⟨e0, e1, z0, z1⟩ := t_blkC r_k
  have r_j := r_k
  clear h1 h3 h4 h6 r_k hxo c1 h2 h5
  rw [ha] at d2
  go_wp2
  have k_j := q_heap_set (q_heap_set r_j 0 (.int .i64 (px i))) 1 (.int .i64 (py i))
  obtain ⟨k0, k1, _, _⟩ := t_blkC k_j
  exact bodyPost_ret (v := .tuple #[.agg #[.int .i64 (px i), .int .i64 (py i)], .int .i64 0]) (by simp [results, Tryd.results8, go_sem, k0, k1]) rfl ⟨rfl, ((bel_trans hb0 hw1).setCell (Nat.le_refl _) _).setCell (Nat.le_refl _) _⟩
end Go.Proofs.YtbljcodhcodmkaaDoor
