/-
  Parts of the proof, one behind another.
-/
import Derived.Test.YtmpioejllfedoaaDoorPart8
import Derived.Test.YtmpioejllfedoaaDoorPart1
import Derived.Laws.FloatArith
import Derived.Test.YtmpioejllfedoaaDoorPart7
import Derived.Test.YtmpioejllfedoaaDoorPart6
/-
  Package span: ofTwo, by its contract, for any function that is handed over.
-/
namespace Go.Proofs.YtmpioejllfedoaaDoor
open Go Go.RowKit Go.Proofs.YtmpioejllfedoaaDoor.M
set_option linter.unusedSimpArgs false
set_option linter.unusedVariables false

/-- an interval, or nothing and an error -/
def twoV (ok : Bool) (v : Value) : Value := if ok then v else .agg #[.int .i64 0, .int .i64 0]
def errA (ok : Bool) : Int := if ok then 0 else 1
theorem hl_last {n : Nat} (w : World) (o : Obj) (h : n = w.heap.size) : (w.alloc o).heap[n]? = some o := by
  subst h
  show (w.heap.push o)[w.heap.size]? = _
  simp
theorem hl6 (w : World) (o0 o1 o2 o3 o4 o5 : Obj) : ((((((w.alloc o0).alloc o1).alloc o2).alloc o3).alloc o4).alloc o5).drew.drew.drew.heap = (((((w.heap.push o0).push o1).push o2).push o3).push o4).push o5 := rfl
theorem hl6_0 {n m : Nat} {w : World} {o0 o1 o2 o3 o4 o5 : Obj} (hs : w.heap.size = m) (h : n = m + 0) : (((((((w.alloc o0).alloc o1).alloc o2).alloc o3).alloc o4).alloc o5).drew.drew.drew).heap[n]? = some o0 := by
  subst hs
  subst h
  rw [hl6]
  rw [Array.getElem?_push, if_neg (by first | (simp; done) | (simp; omega))]
  rw [Array.getElem?_push, if_neg (by first | (simp; done) | (simp; omega))]
  rw [Array.getElem?_push, if_neg (by first | (simp; done) | (simp; omega))]
  rw [Array.getElem?_push, if_neg (by first | (simp; done) | (simp; omega))]
  rw [Array.getElem?_push, if_neg (by first | (simp; done) | (simp; omega))]
  rw [Array.getElem?_push, if_pos (by simp)]
theorem hl6_1 {n m : Nat} {w : World} {o0 o1 o2 o3 o4 o5 : Obj} (hs : w.heap.size = m) (h : n = m + 1) : (((((((w.alloc o0).alloc o1).alloc o2).alloc o3).alloc o4).alloc o5).drew.drew.drew).heap[n]? = some o1 := by
  subst hs
  subst h
  rw [hl6]
  rw [Array.getElem?_push, if_neg (by first | (simp; done) | (simp; omega))]
  rw [Array.getElem?_push, if_neg (by first | (simp; done) | (simp; omega))]
  rw [Array.getElem?_push, if_neg (by first | (simp; done) | (simp; omega))]
  rw [Array.getElem?_push, if_neg (by first | (simp; done) | (simp; omega))]
  rw [Array.getElem?_push, if_pos (by simp)]
theorem hl6_2 {n m : Nat} {w : World} {o0 o1 o2 o3 o4 o5 : Obj} (hs : w.heap.size = m) (h : n = m + 2) : (((((((w.alloc o0).alloc o1).alloc o2).alloc o3).alloc o4).alloc o5).drew.drew.drew).heap[n]? = some o2 := by
  subst hs
  subst h
  rw [hl6]
  rw [Array.getElem?_push, if_neg (by first | (simp; done) | (simp; omega))]
  rw [Array.getElem?_push, if_neg (by first | (simp; done) | (simp; omega))]
  rw [Array.getElem?_push, if_neg (by first | (simp; done) | (simp; omega))]
  rw [Array.getElem?_push, if_pos (by simp)]
theorem hl6_3 {n m : Nat} {w : World} {o0 o1 o2 o3 o4 o5 : Obj} (hs : w.heap.size = m) (h : n = m + 3) : (((((((w.alloc o0).alloc o1).alloc o2).alloc o3).alloc o4).alloc o5).drew.drew.drew).heap[n]? = some o3 := by
  subst hs
  subst h
  rw [hl6]
  rw [Array.getElem?_push, if_neg (by first | (simp; done) | (simp; omega))]
  rw [Array.getElem?_push, if_neg (by first | (simp; done) | (simp; omega))]
  rw [Array.getElem?_push, if_pos (by simp)]
theorem hl6_4 {n m : Nat} {w : World} {o0 o1 o2 o3 o4 o5 : Obj} (hs : w.heap.size = m) (h : n = m + 4) : (((((((w.alloc o0).alloc o1).alloc o2).alloc o3).alloc o4).alloc o5).drew.drew.drew).heap[n]? = some o4 := by
  subst hs
  subst h
  rw [hl6]
  rw [Array.getElem?_push, if_neg (by first | (simp; done) | (simp; omega))]
  rw [Array.getElem?_push, if_pos (by simp)]
theorem hl6_5 {n m : Nat} {w : World} {o0 o1 o2 o3 o4 o5 : Obj} (hs : w.heap.size = m) (h : n = m + 5) : (((((((w.alloc o0).alloc o1).alloc o2).alloc o3).alloc o4).alloc o5).drew.drew.drew).heap[n]? = some o5 := by
  subst hs
  subst h
  rw [hl6]
  rw [Array.getElem?_push, if_pos (by simp)]
theorem hl6_b {w : World} {o0 o1 o2 o3 o4 o5 : Obj} : Below w.heap.size w (((((((w.alloc o0).alloc o1).alloc o2).alloc o3).alloc o4).alloc o5).drew.drew.drew) :=
  (bel_trans (bel_alloc2 w o0 o1) (bel_trans (bel_alloc2 _ o2 o3) (bel_alloc2 _ o4 o5))).drew.drew.drew
theorem s4_keep {a b B : Nat} {x0 x1 x2 x3 : Value} {W W' : World} (h : (a < B ∧ b < B ∧ B ≤ W.heap.size) ∧ W.cell? ⟨a, 0, none⟩ = some x0 ∧ W.cell? ⟨a, 1, none⟩ = some x1 ∧ W.cell? ⟨b, 0, none⟩ = some x2 ∧ W.cell? ⟨b, 1, none⟩ = some x3) (hb : Below W.heap.size W W') :
    (a < B ∧ b < B ∧ B ≤ W'.heap.size) ∧ W'.cell? ⟨a, 0, none⟩ = some x0 ∧ W'.cell? ⟨a, 1, none⟩ = some x1 ∧ W'.cell? ⟨b, 0, none⟩ = some x2 ∧ W'.cell? ⟨b, 1, none⟩ = some x3 :=
  ⟨⟨h.1.1, h.1.2.1, Nat.le_trans h.1.2.2 hb.size⟩, q_cell h.2.1 hb, q_cell h.2.2.1 hb, q_cell h.2.2.2.1 hb, q_cell h.2.2.2.2 hb⟩
theorem s4_alloc {a b B : Nat} {x0 x1 x2 x3 : Value} {W : World} (o : Obj) (h : (a < B ∧ b < B ∧ B ≤ W.heap.size) ∧ W.cell? ⟨a, 0, none⟩ = some x0 ∧ W.cell? ⟨a, 1, none⟩ = some x1 ∧ W.cell? ⟨b, 0, none⟩ = some x2 ∧ W.cell? ⟨b, 1, none⟩ = some x3) :
    (a < B ∧ b < B ∧ B ≤ (W.alloc o).heap.size) ∧ (W.alloc o).cell? ⟨a, 0, none⟩ = some x0 ∧ (W.alloc o).cell? ⟨a, 1, none⟩ = some x1 ∧ (W.alloc o).cell? ⟨b, 0, none⟩ = some x2 ∧ (W.alloc o).cell? ⟨b, 1, none⟩ = some x3 := s4_keep h (bel_alloc _ _)
theorem s4_drew {a b B : Nat} {x0 x1 x2 x3 : Value} {W : World} (h : (a < B ∧ b < B ∧ B ≤ W.heap.size) ∧ W.cell? ⟨a, 0, none⟩ = some x0 ∧ W.cell? ⟨a, 1, none⟩ = some x1 ∧ W.cell? ⟨b, 0, none⟩ = some x2 ∧ W.cell? ⟨b, 1, none⟩ = some x3) :
    (a < B ∧ b < B ∧ B ≤ W.drew.heap.size) ∧ W.drew.cell? ⟨a, 0, none⟩ = some x0 ∧ W.drew.cell? ⟨a, 1, none⟩ = some x1 ∧ W.drew.cell? ⟨b, 0, none⟩ = some x2 ∧ W.drew.cell? ⟨b, 1, none⟩ = some x3 := h
set_option maxRecDepth 100000 in
set_option maxHeartbeats 8000000 in
theorem ofTwo_any (F : Nat) {a b c d x y : Int} (ha : rng a) (hb : rng b) (hc : rng c) (hd : rng d) (w : World) (L : Lays w)
    (hE : ∀ (cap : Array Value) (w : World), (callFunc F cap).run Tryd.prog w = .ok (.enter F cap) w)
    (CF : Hid (vld a b = true → vld c d = true → nn x ∧ nn y ∧ ∀ W, Lays W → Calls Tryd.prog F #[ivl a b, ivl c d] W fun e w' => e = .returned (ivl x y) ∧ Below W.heap.size W w')) :
    Calls Tryd.prog 17 #[spn a b, spn c d, .func (.func F) #[] #[]] w fun e w' => e = .returned (.tuple #[twoV (vld a b && vld c d) (spn (canon x) (canon y)), .int .i64 (errA (vld a b && vld c d))]) ∧ Below w.heap.size w w' := by
  have R1 := fun W => spanReadX a b W
  have R2 := fun W => spanReadX c d W
  have V1 : Hid (∀ W, Calls Tryd.prog 21 #[ivl a b] W fun e w' => e = .returned (.bool (vld a b)) ∧ Below W.heap.size W w') := fun W => ivlValid ha hb W
  have V2 : Hid (∀ W, Calls Tryd.prog 21 #[ivl c d] W fun e w' => e = .returned (.bool (vld c d)) ∧ Below W.heap.size W w') := fun W => ivlValid hc hd W
  unfold spn ivl at *
  obtain ⟨q0, q1, q2, hs, hb3⟩ := heap3 w (.cells #[.int .i64 a, .int .i64 b] 23) (.cells #[.int .i64 c, .int .i64 d] 23) (.cells #[.int .i64 0, .int .i64 0] 23)
  go_enter Tryd.func17, Tryd.ntmps17
  go_wp2_with fail
  have k0 := blkC q0 0 rfl
  have k1 := blkC q0 1 rfl
  have k2 := blkC q1 0 rfl
  have k3 := blkC q1 1 rfl
  generalize ((w.alloc (.cells #[.int .i64 a, .int .i64 b] 23)).alloc (.cells #[.int .i64 c, .int .i64 d] 23)).alloc (.cells #[.int .i64 0, .int .i64 0] 23) = wx at *
  have hst : ∀ (p : Addr) (n : Nat) (m : Mode) (w : World), (store p (.float .f64 n) m).run Tryd.prog w = stored Tryd.prog w p (.float .f64 n) m := fun p n m w => run_store _ w p _ m rfl
  have hc : (w.heap.size < w.heap.size + 3 ∧ w.heap.size + 1 < w.heap.size + 3 ∧ w.heap.size + 3 ≤ wx.drew.heap.size) ∧ wx.drew.cell? ⟨w.heap.size, 0, none⟩ = some (.int .i64 a) ∧ wx.drew.cell? ⟨w.heap.size, 1, none⟩ = some (.int .i64 b) ∧ wx.drew.cell? ⟨w.heap.size + 1, 0, none⟩ = some (.int .i64 c) ∧ wx.drew.cell? ⟨w.heap.size + 1, 1, none⟩ = some (.int .i64 d) := ⟨⟨by omega, by omega, by show _ ≤ wx.heap.size; omega⟩, k0, k1, k2, k3⟩
  rename_i Q' K haK
  have H : ∀ (gi gj : Nat) (W : World), W.heap[gi]? = some (.cells #[.float .f64 (wd a), .float .f64 (wd b)] 50 (0, 0)) → W.heap[gj]? = some (.cells #[.float .f64 (wd c), .float .f64 (wd d)] 50 (0, 0)) → Below wx.heap.size wx W →
      Exit.then K Q' Exit.normal { tmps := #[.agg #[.int .i64 a, .int .i64 b], .agg #[.int .i64 c, .int .i64 d], .func (.func F) #[] #[], .pointer (some ⟨w.heap.size, 0, none⟩), .pointer (some ⟨w.heap.size + 1, 0, none⟩), undef, .pointer (some ⟨w.heap.size + 1 + 1, 0, none⟩), .int .i64 0, .pointer (some ⟨gi, 0, none⟩), .pointer (some ⟨gj, 0, none⟩), .agg #[.int .i64 a, .int .i64 b], .agg #[.float .f64 (wd a), .float .f64 (wd b)], .agg #[.int .i64 c, .int .i64 d], .agg #[.float .f64 (wd c), .float .f64 (wd d)], undef, undef, undef, undef, undef, undef, undef, undef, undef, undef, undef, undef, undef, undef], defers := [] } W := by
    intro gi gj W hgi hgj hbW
    clear hc k0 k1 k2 k3 q0 q1 R1 R2 hst
    have i0 := blkC hgi 0 rfl
    have i1 := blkC hgi 1 rfl
    have j0 := blkC hgj 0 rfl
    have j1 := blkC hgj 1 rfl
    go_wp2_with fail
    refine (V1.out _).mono ?_
    rintro _ w1 ⟨rfl, hb4⟩
    have hgi1 := (hb4.block _ (Array.getElem?_eq_some_iff.1 hgi).1).trans hgi
    have hgj1 := (hb4.block _ (Array.getElem?_eq_some_iff.1 hgj).1).trans hgj
    clear i0 i1 j0 j1
    have j0 := blkC hgj1 0 rfl
    have j1 := blkC hgj1 1 rfl
    by_cases h1 : vld a b = false
    · rw [h1]
      have hbR := bel_trans hbW hb4
      have d2 := (hbR.block _ (Array.getElem?_eq_some_iff.1 q2).1).trans q2
      have d3 := q_heap_set d2 0 (.int .i64 0)
      have d4 := q_heap_set d3 1 (.int .i64 0)
      have f0 := blkC d2 0 rfl
      have z0 := blkF d2 0
      have f1 := blkC d3 1 rfl
      have z1 := blkF d3 1
      have e0 := blkC d4 0 rfl
      have e1 := blkC d4 1 rfl
      have hbe := ((bel_trans hb3 hbR).setCell (p := ⟨w.heap.size + 1 + 1, 0, none⟩) (show w.heap.size ≤ w.heap.size + 1 + 1 by omega) (.int .i64 0)).setCell (p := ⟨w.heap.size + 1 + 1, 1, none⟩) (show w.heap.size ≤ w.heap.size + 1 + 1 by omega) (.int .i64 0)
      clear d2 d3 d4
      go_wp2
      refine bodyPost_ret (v := .tuple #[.agg #[.int .i64 0, .int .i64 0], .int .i64 1]) (by simp [results, Tryd.results17, go_sem, e0, e1]) rfl ⟨by rw [h1]; rfl, hbe⟩
    replace h1 : vld a b = true := by simpa using h1
    rw [h1]
    go_wp2_with fail
    refine (V2.out _).mono ?_
    rintro _ w2 ⟨rfl, hb5⟩
    have hgi2 := (hb5.block _ (Array.getElem?_eq_some_iff.1 hgi1).1).trans hgi1
    have hgj2 := (hb5.block _ (Array.getElem?_eq_some_iff.1 hgj1).1).trans hgj1
    clear j0 j1
    have i0 := blkC hgi2 0 rfl
    have i1 := blkC hgi2 1 rfl
    have j0 := blkC hgj2 0 rfl
    have j1 := blkC hgj2 1 rfl
    have hbR := bel_trans hbW (bel_trans hb4 hb5)
    by_cases h2 : vld c d = false
    · rw [h2]
      have d2 := (hbR.block _ (Array.getElem?_eq_some_iff.1 q2).1).trans q2
      have d3 := q_heap_set d2 0 (.int .i64 0)
      have d4 := q_heap_set d3 1 (.int .i64 0)
      have f0 := blkC d2 0 rfl
      have z0 := blkF d2 0
      have f1 := blkC d3 1 rfl
      have z1 := blkF d3 1
      have e0 := blkC d4 0 rfl
      have e1 := blkC d4 1 rfl
      have hbe := ((bel_trans hb3 hbR).setCell (p := ⟨w.heap.size + 1 + 1, 0, none⟩) (show w.heap.size ≤ w.heap.size + 1 + 1 by omega) (.int .i64 0)).setCell (p := ⟨w.heap.size + 1 + 1, 1, none⟩) (show w.heap.size ≤ w.heap.size + 1 + 1 by omega) (.int .i64 0)
      clear d2 d3 d4
      go_wp2
      refine bodyPost_ret (v := .tuple #[.agg #[.int .i64 0, .int .i64 0], .int .i64 1]) (by simp [results, Tryd.results17, go_sem, e0, e1]) rfl ⟨by rw [h2, Bool.and_false]; rfl, hbe⟩
    replace h2 : vld c d = true := by simpa using h2
    rw [h2]
    obtain ⟨nx, ny, CF'⟩ := CF.out h1 h2
    have L2 := L.below' (bel_trans hb3 hbR)
    have CT := fun W LW => spanTold nx ny W LW
    unfold ivl spn at CT
    go_wp2_with fail
    refine (CF' _ L2).mono ?_
    rintro _ w3 ⟨rfl, hb6⟩
    have L3 := L2.below' hb6
    go_wp2_with fail
    refine (CT _ L3).mono ?_
    rintro _ w4 ⟨rfl, hb7⟩
    replace hbR := bel_trans hbR (bel_trans hb6 hb7)
    have d2 := (hbR.block _ (Array.getElem?_eq_some_iff.1 q2).1).trans q2
    generalize hX : canon x = X at *
    generalize hY : canon y = Y at *
    have d3 := q_heap_set d2 0 (.int .i64 X)
    have d4 := q_heap_set d3 1 (.int .i64 Y)
    have f0 := blkC d2 0 rfl
    have z0 := blkF d2 0
    have f1 := blkC d3 1 rfl
    have z1 := blkF d3 1
    have e0 := blkC d4 0 rfl
    have e1 := blkC d4 1 rfl
    have hbe := ((bel_trans hb3 hbR).setCell (p := ⟨w.heap.size + 1 + 1, 0, none⟩) (show w.heap.size ≤ w.heap.size + 1 + 1 by omega) (.int .i64 X)).setCell (p := ⟨w.heap.size + 1 + 1, 1, none⟩) (show w.heap.size ≤ w.heap.size + 1 + 1 by omega) (.int .i64 Y)
    clear d2 d3 d4 CT CF CF'
    go_wp2
    refine bodyPost_ret (v := .tuple #[.agg #[.int .i64 X, .int .i64 Y], .int .i64 0]) (by simp [results, Tryd.results17, go_sem, e0, e1]) rfl ⟨by rw [h1, h2, hX, hY]; rfl, hbe⟩
  go_region_held3 (fun W => (w.heap.size < w.heap.size + 3 ∧ w.heap.size + 1 < w.heap.size + 3 ∧ w.heap.size + 3 ≤ W.heap.size) ∧ W.cell? ⟨w.heap.size, 0, none⟩ = some (.int .i64 a) ∧ W.cell? ⟨w.heap.size, 1, none⟩ = some (.int .i64 b) ∧ W.cell? ⟨w.heap.size + 1, 0, none⟩ = some (.int .i64 c) ∧ W.cell? ⟨w.heap.size + 1, 1, none⟩ = some (.int .i64 d))
    (first | assumption | (repeat (first | exact hc | refine s4_drew ?_ | refine s4_alloc _ ?_ | refine s4_set (by first | omega | (simp; omega)) ?_)))
    (first
      | (go_at_call 20; have _t := T1; refine (R2 _).mono ?_; rintro _ _ ⟨rfl, rfl⟩)
      | (go_at_call 20; refine (R1 _).mono ?_; rintro _ _ ⟨rfl, rfl⟩; have T1 : True := trivial))
  all_goals
    refine H _ _ _ ?_ ?_ hl6_b
    all_goals first
      | exact hl6_0 hs rfl
      | exact hl6_1 hs rfl
      | exact hl6_2 hs rfl
      | exact hl6_3 hs rfl
      | exact hl6_4 hs rfl
      | exact hl6_5 hs rfl
end Go.Proofs.YtmpioejllfedoaaDoor

/-
  Package span: plus, by its contract, over what sum tells.
-/
namespace Go.Proofs.YtmpioejllfedoaaDoor
open Go Go.RowKit Go.Proofs.YtmpioejllfedoaaDoor.M
set_option linter.unusedSimpArgs false
set_option linter.unusedVariables false

set_option maxRecDepth 100000 in
set_option maxHeartbeats 1000000 in
theorem plus_any {a b c d l l' h' h : Nat} (w : World)
    (S1 : Hid (∀ W, Calls Tryd.prog 33 #[.float .f64 a, .float .f64 c] W fun e w' => e = .returned (.agg #[.float .f64 l, .float .f64 l']) ∧ Below W.heap.size W w'))
    (S2 : Hid (∀ W, Calls Tryd.prog 33 #[.float .f64 b, .float .f64 d] W fun e w' => e = .returned (.agg #[.float .f64 h', .float .f64 h]) ∧ Below W.heap.size W w')) :
    Calls Tryd.prog 18 #[.agg #[.float .f64 a, .float .f64 b], .agg #[.float .f64 c, .float .f64 d]] w fun e w' => e = .returned (.agg #[.float .f64 l, .float .f64 h]) ∧ Below w.heap.size w w' := by
  obtain ⟨q0, q1, q2, hs, hb3⟩ := heap3 w (.cells #[.float .f64 a, .float .f64 b] 50) (.cells #[.float .f64 c, .float .f64 d] 50) (.cells #[.float .f64 0, .float .f64 0] 50)
  have k0 := blkC q0 0 rfl
  have k1 := blkC q0 1 rfl
  have k2 := blkC q1 0 rfl
  have k3 := blkC q1 1 rfl
  go_enter Tryd.func18, Tryd.ntmps18
  go_wp2_with fail
  generalize ((w.alloc (.cells #[.float .f64 a, .float .f64 b] 50)).alloc (.cells #[.float .f64 c, .float .f64 d] 50)).alloc (.cells #[.float .f64 0, .float .f64 0] 50) = wx at *
  obtain ⟨g, hg⟩ : ∃ g, w.heap.size + 1 + 1 = g := ⟨_, rfl⟩
  have hwg : w.heap.size + 2 ≤ g := by omega
  replace q2 : wx.drew.heap[g]? = some (.cells #[.float .f64 0, .float .f64 0] 50 (0, 0)) := by rw [← hg]; exact q2
  simp only [hg]
  clear hg
  have hc : (w.heap.size < w.heap.size + 2 ∧ w.heap.size + 1 < w.heap.size + 2 ∧ w.heap.size + 2 ≤ wx.drew.heap.size) ∧ wx.drew.cell? ⟨w.heap.size, 0, none⟩ = some (.float .f64 a) ∧ wx.drew.cell? ⟨w.heap.size, 1, none⟩ = some (.float .f64 b) ∧ wx.drew.cell? ⟨w.heap.size + 1, 0, none⟩ = some (.float .f64 c) ∧ wx.drew.cell? ⟨w.heap.size + 1, 1, none⟩ = some (.float .f64 d) := ⟨⟨by omega, by omega, by show _ ≤ wx.heap.size; omega⟩, k0, k1, k2, k3⟩
  have hbd := hb3.drew
  have fl0 : ∀ w : World, (Instr.field 50 (.agg #[.float .f64 l, .float .f64 l']) 0).run Tryd.prog w = .ok (.float .f64 l) w := fun w => by kernel_rfl
  have fl1 : ∀ w : World, (Instr.field 50 (.agg #[.float .f64 h', .float .f64 h]) 1).run Tryd.prog w = .ok (.float .f64 h) w := fun w => by kernel_rfl
  clear q0 q1 k0 k1 k2 k3
  go_region_held3 (fun W => (w.heap.size < w.heap.size + 2 ∧ w.heap.size + 1 < w.heap.size + 2 ∧ w.heap.size + 2 ≤ W.heap.size) ∧ W.cell? ⟨w.heap.size, 0, none⟩ = some (.float .f64 a) ∧ W.cell? ⟨w.heap.size, 1, none⟩ = some (.float .f64 b) ∧ W.cell? ⟨w.heap.size + 1, 0, none⟩ = some (.float .f64 c) ∧ W.cell? ⟨w.heap.size + 1, 1, none⟩ = some (.float .f64 d))
    (first | assumption | (repeat (first | exact hc | exact hc1 | exact hc2 | refine s4_drew ?_ | refine s4_set (by omega) ?_)))
    (first
      | (go_at_call 33; have _t := hb4; refine (S2.out _).mono ?_; rintro _ w2 ⟨rfl, hb5⟩; have hc2 := s4_keep hc1 hb5; have d2 := ((bel_trans hb4 hb5).block _ (Array.getElem?_eq_some_iff.1 q2).1).trans q2; have d3 := q_heap_set d2 0 (.float .f64 l); have d4 := q_heap_set d3 1 (.float .f64 h); have f0 := blkC d2 0 rfl; have z0 := blkF d2 0; have f1 := blkC d3 1 rfl; have z1 := blkF d3 1; have s0 : (store ⟨g, 0, none⟩ (.float .f64 l)).run Tryd.prog w2 = .ok () (w2.setCell ⟨g, 0, none⟩ (.float .f64 l)) := (by rw [run_store _ _ _ _ _ rfl, f0]; simp only [z0]; rfl); have s1 : (store ⟨g, 1, none⟩ (.float .f64 h)).run Tryd.prog (w2.setCell ⟨g, 0, none⟩ (.float .f64 l)) = .ok () ((w2.setCell ⟨g, 0, none⟩ (.float .f64 l)).setCell ⟨g, 1, none⟩ (.float .f64 h)) := (by rw [run_store _ _ _ _ _ rfl, f1]; simp only [z1]; rfl))
      | (go_at_call 33; refine (S1.out _).mono ?_; rintro _ w1 ⟨rfl, hb4⟩; have hc1 := s4_keep hc hb4))
  have e0 := blkC d4 0 rfl
  have e1 := blkC d4 1 rfl
  have hbe := ((bel_trans hbd (bel_trans hb4 hb5)).setCell (p := ⟨g, 0, none⟩) (show w.heap.size ≤ g by omega) (.float .f64 l)).setCell (p := ⟨g, 1, none⟩) (show w.heap.size ≤ g by omega) (.float .f64 h)
  clear d2 d3 d4 f0 f1 z0 z1 s0 s1 hc hc1 hc2
  generalize (w2.setCell ⟨g, 0, none⟩ (.float .f64 l)).setCell ⟨g, 1, none⟩ (.float .f64 h) = wy at *
  go_wp2
  refine bodyPost_ret (v := .agg #[.float .f64 l, .float .f64 h]) (by simp [results, Tryd.results18, go_sem, e0, e1]) rfl ⟨rfl, hbe⟩
end Go.Proofs.YtmpioejllfedoaaDoor

/-
  Package span: ofTwo, for functions that want the layouts, by its contract.
-/
namespace Go.Proofs.YtmpioejllfedoaaDoor
open Go Go.RowKit Go.Proofs.YtmpioejllfedoaaDoor.M
set_option linter.unusedSimpArgs false
set_option linter.unusedVariables false

set_option maxRecDepth 100000 in
set_option maxHeartbeats 8000000 in
theorem ofTwo_H (F : Nat) {a b c d x y : Int} (ha : rng a) (hb : rng b) (hc : rng c) (hd : rng d) (w : World) (HH : Hold4 w)
    (hE : ∀ (cap : Array Value) (w : World), (callFunc F cap).run Tryd.prog w = .ok (.enter F cap) w)
    (CF : Hid (vld a b = true → vld c d = true → nn x ∧ nn y ∧ ∀ W, Hold4 W → Calls Tryd.prog F #[ivl a b, ivl c d] W fun e w' => e = .returned (ivl x y) ∧ Below W.heap.size W w')) :
    Calls Tryd.prog 17 #[spn a b, spn c d, .func (.func F) #[] #[]] w fun e w' => e = .returned (.tuple #[twoV (vld a b && vld c d) (spn (canon x) (canon y)), .int .i64 (errA (vld a b && vld c d))]) ∧ Below w.heap.size w w' := by
  have R1 := fun W => spanReadX a b W
  have R2 := fun W => spanReadX c d W
  have V1 : Hid (∀ W, Calls Tryd.prog 21 #[ivl a b] W fun e w' => e = .returned (.bool (vld a b)) ∧ Below W.heap.size W w') := fun W => ivlValid ha hb W
  have V2 : Hid (∀ W, Calls Tryd.prog 21 #[ivl c d] W fun e w' => e = .returned (.bool (vld c d)) ∧ Below W.heap.size W w') := fun W => ivlValid hc hd W
  unfold spn ivl at *
  obtain ⟨q0, q1, q2, hs, hb3⟩ := heap3 w (.cells #[.int .i64 a, .int .i64 b] 23) (.cells #[.int .i64 c, .int .i64 d] 23) (.cells #[.int .i64 0, .int .i64 0] 23)
  go_enter Tryd.func17, Tryd.ntmps17
  go_wp2_with fail
  have k0 := blkC q0 0 rfl
  have k1 := blkC q0 1 rfl
  have k2 := blkC q1 0 rfl
  have k3 := blkC q1 1 rfl
  generalize ((w.alloc (.cells #[.int .i64 a, .int .i64 b] 23)).alloc (.cells #[.int .i64 c, .int .i64 d] 23)).alloc (.cells #[.int .i64 0, .int .i64 0] 23) = wx at *
  have hst : ∀ (p : Addr) (n : Nat) (m : Mode) (w : World), (store p (.float .f64 n) m).run Tryd.prog w = stored Tryd.prog w p (.float .f64 n) m := fun p n m w => run_store _ w p _ m rfl
  have hc : (w.heap.size < w.heap.size + 3 ∧ w.heap.size + 1 < w.heap.size + 3 ∧ w.heap.size + 3 ≤ wx.drew.heap.size) ∧ wx.drew.cell? ⟨w.heap.size, 0, none⟩ = some (.int .i64 a) ∧ wx.drew.cell? ⟨w.heap.size, 1, none⟩ = some (.int .i64 b) ∧ wx.drew.cell? ⟨w.heap.size + 1, 0, none⟩ = some (.int .i64 c) ∧ wx.drew.cell? ⟨w.heap.size + 1, 1, none⟩ = some (.int .i64 d) := ⟨⟨by omega, by omega, by show _ ≤ wx.heap.size; omega⟩, k0, k1, k2, k3⟩
  rename_i Q' K haK
  have H : ∀ (gi gj : Nat) (W : World), W.heap[gi]? = some (.cells #[.float .f64 (wd a), .float .f64 (wd b)] 50 (0, 0)) → W.heap[gj]? = some (.cells #[.float .f64 (wd c), .float .f64 (wd d)] 50 (0, 0)) → Below wx.heap.size wx W →
      Exit.then K Q' Exit.normal { tmps := #[.agg #[.int .i64 a, .int .i64 b], .agg #[.int .i64 c, .int .i64 d], .func (.func F) #[] #[], .pointer (some ⟨w.heap.size, 0, none⟩), .pointer (some ⟨w.heap.size + 1, 0, none⟩), undef, .pointer (some ⟨w.heap.size + 1 + 1, 0, none⟩), .int .i64 0, .pointer (some ⟨gi, 0, none⟩), .pointer (some ⟨gj, 0, none⟩), .agg #[.int .i64 a, .int .i64 b], .agg #[.float .f64 (wd a), .float .f64 (wd b)], .agg #[.int .i64 c, .int .i64 d], .agg #[.float .f64 (wd c), .float .f64 (wd d)], undef, undef, undef, undef, undef, undef, undef, undef, undef, undef, undef, undef, undef, undef], defers := [] } W := by
    intro gi gj W hgi hgj hbW
    clear hc k0 k1 k2 k3 q0 q1 R1 R2 hst
    have i0 := blkC hgi 0 rfl
    have i1 := blkC hgi 1 rfl
    have j0 := blkC hgj 0 rfl
    have j1 := blkC hgj 1 rfl
    go_wp2_with fail
    refine (V1.out _).mono ?_
    rintro _ w1 ⟨rfl, hb4⟩
    have hgi1 := (hb4.block _ (Array.getElem?_eq_some_iff.1 hgi).1).trans hgi
    have hgj1 := (hb4.block _ (Array.getElem?_eq_some_iff.1 hgj).1).trans hgj
    clear i0 i1 j0 j1
    have j0 := blkC hgj1 0 rfl
    have j1 := blkC hgj1 1 rfl
    by_cases h1 : vld a b = false
    · rw [h1]
      have hbR := bel_trans hbW hb4
      have d2 := (hbR.block _ (Array.getElem?_eq_some_iff.1 q2).1).trans q2
      have d3 := q_heap_set d2 0 (.int .i64 0)
      have d4 := q_heap_set d3 1 (.int .i64 0)
      have f0 := blkC d2 0 rfl
      have z0 := blkF d2 0
      have f1 := blkC d3 1 rfl
      have z1 := blkF d3 1
      have e0 := blkC d4 0 rfl
      have e1 := blkC d4 1 rfl
      have hbe := ((bel_trans hb3 hbR).setCell (p := ⟨w.heap.size + 1 + 1, 0, none⟩) (show w.heap.size ≤ w.heap.size + 1 + 1 by omega) (.int .i64 0)).setCell (p := ⟨w.heap.size + 1 + 1, 1, none⟩) (show w.heap.size ≤ w.heap.size + 1 + 1 by omega) (.int .i64 0)
      clear d2 d3 d4
      go_wp2
      refine bodyPost_ret (v := .tuple #[.agg #[.int .i64 0, .int .i64 0], .int .i64 1]) (by simp [results, Tryd.results17, go_sem, e0, e1]) rfl ⟨by rw [h1]; rfl, hbe⟩
    replace h1 : vld a b = true := by simpa using h1
    rw [h1]
    go_wp2_with fail
    refine (V2.out _).mono ?_
    rintro _ w2 ⟨rfl, hb5⟩
    have hgi2 := (hb5.block _ (Array.getElem?_eq_some_iff.1 hgi1).1).trans hgi1
    have hgj2 := (hb5.block _ (Array.getElem?_eq_some_iff.1 hgj1).1).trans hgj1
    clear j0 j1
    have i0 := blkC hgi2 0 rfl
    have i1 := blkC hgi2 1 rfl
    have j0 := blkC hgj2 0 rfl
    have j1 := blkC hgj2 1 rfl
    have hbR := bel_trans hbW (bel_trans hb4 hb5)
    by_cases h2 : vld c d = false
    · rw [h2]
      have d2 := (hbR.block _ (Array.getElem?_eq_some_iff.1 q2).1).trans q2
      have d3 := q_heap_set d2 0 (.int .i64 0)
      have d4 := q_heap_set d3 1 (.int .i64 0)
      have f0 := blkC d2 0 rfl
      have z0 := blkF d2 0
      have f1 := blkC d3 1 rfl
      have z1 := blkF d3 1
      have e0 := blkC d4 0 rfl
      have e1 := blkC d4 1 rfl
      have hbe := ((bel_trans hb3 hbR).setCell (p := ⟨w.heap.size + 1 + 1, 0, none⟩) (show w.heap.size ≤ w.heap.size + 1 + 1 by omega) (.int .i64 0)).setCell (p := ⟨w.heap.size + 1 + 1, 1, none⟩) (show w.heap.size ≤ w.heap.size + 1 + 1 by omega) (.int .i64 0)
      clear d2 d3 d4
      go_wp2
      refine bodyPost_ret (v := .tuple #[.agg #[.int .i64 0, .int .i64 0], .int .i64 1]) (by simp [results, Tryd.results17, go_sem, e0, e1]) rfl ⟨by rw [h2, Bool.and_false]; rfl, hbe⟩
    replace h2 : vld c d = true := by simpa using h2
    rw [h2]
    obtain ⟨nx, ny, CF'⟩ := CF.out h1 h2
    have L2 := HH.keeps (bel_trans hb3 hbR)
    have CT := fun W LW => spanTold nx ny W LW
    unfold ivl spn at CT
    go_wp2_with fail
    refine (CF' _ L2).mono ?_
    rintro _ w3 ⟨rfl, hb6⟩
    have L3 := L2.keeps hb6
    go_wp2_with fail
    refine (CT _ L3.env.lays).mono ?_
    rintro _ w4 ⟨rfl, hb7⟩
    replace hbR := bel_trans hbR (bel_trans hb6 hb7)
    have d2 := (hbR.block _ (Array.getElem?_eq_some_iff.1 q2).1).trans q2
    generalize hX : canon x = X at *
    generalize hY : canon y = Y at *
    have d3 := q_heap_set d2 0 (.int .i64 X)
    have d4 := q_heap_set d3 1 (.int .i64 Y)
    have f0 := blkC d2 0 rfl
    have z0 := blkF d2 0
    have f1 := blkC d3 1 rfl
    have z1 := blkF d3 1
    have e0 := blkC d4 0 rfl
    have e1 := blkC d4 1 rfl
    have hbe := ((bel_trans hb3 hbR).setCell (p := ⟨w.heap.size + 1 + 1, 0, none⟩) (show w.heap.size ≤ w.heap.size + 1 + 1 by omega) (.int .i64 X)).setCell (p := ⟨w.heap.size + 1 + 1, 1, none⟩) (show w.heap.size ≤ w.heap.size + 1 + 1 by omega) (.int .i64 Y)
    clear d2 d3 d4 CT CF CF'
    go_wp2
    refine bodyPost_ret (v := .tuple #[.agg #[.int .i64 X, .int .i64 Y], .int .i64 0]) (by simp [results, Tryd.results17, go_sem, e0, e1]) rfl ⟨by rw [h1, h2, hX, hY]; rfl, hbe⟩
  go_region_held3 (fun W => (w.heap.size < w.heap.size + 3 ∧ w.heap.size + 1 < w.heap.size + 3 ∧ w.heap.size + 3 ≤ W.heap.size) ∧ W.cell? ⟨w.heap.size, 0, none⟩ = some (.int .i64 a) ∧ W.cell? ⟨w.heap.size, 1, none⟩ = some (.int .i64 b) ∧ W.cell? ⟨w.heap.size + 1, 0, none⟩ = some (.int .i64 c) ∧ W.cell? ⟨w.heap.size + 1, 1, none⟩ = some (.int .i64 d))
    (first | assumption | (repeat (first | exact hc | refine s4_drew ?_ | refine s4_alloc _ ?_ | refine s4_set (by first | omega | (simp; omega)) ?_)))
    (first
      | (go_at_call 20; have _t := T1; refine (R2 _).mono ?_; rintro _ _ ⟨rfl, rfl⟩)
      | (go_at_call 20; refine (R1 _).mono ?_; rintro _ _ ⟨rfl, rfl⟩; have T1 : True := trivial))
  all_goals
    refine H _ _ _ ?_ ?_ hl6_b
    all_goals first
      | exact hl6_0 hs rfl
      | exact hl6_1 hs rfl
      | exact hl6_2 hs rfl
      | exact hl6_3 hs rfl
      | exact hl6_4 hs rfl
      | exact hl6_5 hs rfl
end Go.Proofs.YtmpioejllfedoaaDoor

/-
  Package span: Join; plumblaw8's alive: it answers true.
-/
namespace Go.Proofs.YtmpioejllfedoaaDoor
open Go Go.RowKit Go.Proofs.YtmpioejllfedoaaDoor.M
set_option linter.unusedSimpArgs false
set_option linter.unusedVariables false

set_option maxRecDepth 100000 in
theorem spanJoin {a b c d : Int} (ha : rng a) (hb : rng b) (hc : rng c) (hd : rng d) (w : World) (L : Lays w) :
    Calls Tryd.prog 25 #[spn a b, spn c d] w fun e w' => e = .returned (.tuple #[twoV (vld a b && vld c d) (spn (canon (minP a c)) (canon (maxP b d))), .int .i64 (errA (vld a b && vld c d))]) ∧ Below w.heap.size w w' := by
  have hE : ∀ (cap : Array Value) (w : World), (callFunc 35 cap).run Tryd.prog w = .ok (.enter 35 cap) w := by
    intro cap w
    simp [go_sem]
  have CJ : Hid (∀ W, Lays W → Calls Tryd.prog 17 #[spn a b, spn c d, .func (.func 35) #[] #[]] W fun e w' => e = .returned (.tuple #[twoV (vld a b && vld c d) (spn (canon (minP a c)) (canon (maxP b d))), .int .i64 (errA (vld a b && vld c d))]) ∧ Below W.heap.size W w') := fun W LW =>
    ofTwo_any _ ha hb hc hd W LW hE (fun h1 h2 => by
      obtain ⟨va, vb, _, _, _⟩ := vld_iff.1 h1
      obtain ⟨vc, vd, _, _, _⟩ := vld_iff.1 h2
      exact ⟨(minP_nn ⟨ha, va⟩ ⟨hc, vc⟩).1, (maxP_nn ⟨hb, vb⟩ ⟨hd, vd⟩).1, fun W' _ => ivlJoined ⟨ha, va⟩ ⟨hb, vb⟩ ⟨hc, vc⟩ ⟨hd, vd⟩ W'⟩)
  have hx : ∃ X Y, twoV (vld a b && vld c d) (spn (canon (minP a c)) (canon (maxP b d))) = .agg #[.int .i64 X, .int .i64 Y] := by
    unfold twoV spn; split
    · exact ⟨_, _, rfl⟩
    · exact ⟨_, _, rfl⟩
  obtain ⟨X, Y, hXY⟩ := hx
  rw [hXY] at CJ ⊢
  clear hXY
  unfold spn at *
  generalize errA (vld a b && vld c d) = E at *
  obtain ⟨q0, q1, q2, hs, hb3⟩ := heap3 w (.cells #[.int .i64 a, .int .i64 b] 23) (.cells #[.int .i64 c, .int .i64 d] 23) (.cells #[.int .i64 0, .int .i64 0] 23)
  have L2 := L.below' hb3
  go_enter Tryd.func25, Tryd.ntmps25
  go_wp2_with fail
  generalize ((w.alloc (.cells #[.int .i64 a, .int .i64 b] 23)).alloc (.cells #[.int .i64 c, .int .i64 d] 23)).alloc (.cells #[.int .i64 0, .int .i64 0] 23) = wx at *
  refine (CJ.out _ L2).mono ?_
  rintro _ w1 ⟨rfl, hb4⟩
  have d2 := (hb4.block _ (Array.getElem?_eq_some_iff.1 q2).1).trans q2
  have d3 := q_heap_set d2 0 (.int .i64 X)
  have d4 := q_heap_set d3 1 (.int .i64 Y)
  have f0 := blkC d2 0 rfl
  have z0 := blkF d2 0
  have f1 := blkC d3 1 rfl
  have z1 := blkF d3 1
  have e0 := blkC d4 0 rfl
  have e1 := blkC d4 1 rfl
  have hbe := ((bel_trans hb3 hb4).setCell (p := ⟨w.heap.size + 1 + 1, 0, none⟩) (show w.heap.size ≤ w.heap.size + 1 + 1 by omega) (.int .i64 X)).setCell (p := ⟨w.heap.size + 1 + 1, 1, none⟩) (show w.heap.size ≤ w.heap.size + 1 + 1 by omega) (.int .i64 Y)
  clear d2 d3 d4 q0 q1 q2
  go_wp2
  refine bodyPost_ret (v := .tuple #[.agg #[.int .i64 X, .int .i64 Y], .int .i64 E]) (by simp [results, Tryd.results25, go_sem, e0, e1]) rfl ⟨rfl, hbe⟩
set_option maxRecDepth 100000 in
theorem besideZ (x : Nat) (w : World) :
    Calls Tryd.prog 51 #[.float .f64 x, .float .f64 0] w fun e w' => e = .returned (.agg #[.float .f64 x, .float .f64 x]) ∧ w' = w.alloc (.cells #[.float .f64 x, .float .f64 x] 50) := by
  have hst : ∀ (p : Addr) (n : Nat) (m : Mode) (w : World), (store p (.float .f64 n) m).run Tryd.prog w = stored Tryd.prog w p (.float .f64 n) m := fun p n m w => run_store _ w p _ m rfl
  have o : FloatKind.f64.format.order 0 0 = some .eq := by decide +kernel
  have hg : (w.alloc (.cells #[.float .f64 x, .float .f64 x] 50)).heap[w.heap.size]? = some (.cells #[.float .f64 x, .float .f64 x] 50 (0, 0)) := hl_last _ _ rfl
  have e0 := blkC hg 0 rfl
  have e1 := blkC hg 1 rfl
  go_enter Tryd.func51, Tryd.ntmps51
  go_wp2
  refine bodyPost_ret (v := .agg #[.float .f64 x, .float .f64 x]) (by simp [results, Tryd.results51, go_sem, e0, e1]) rfl ⟨rfl, rfl⟩
end Go.Proofs.YtmpioejllfedoaaDoor

/-
  Plain mathematics: a binary32's value as a binary64: it is written there without rounding, and greater ones stay greater. No Go text in sight.
-/
namespace Go.Proofs.YtmpioejllfedoaaDoor.M
open Go Ieee
set_option linter.unusedSimpArgs false
set_option linter.unusedVariables false

theorem cut_zero (neg : Bool) (n : Nat) : Toward.even.cut neg n 0 = n := by
  unfold Toward.cut
  have h1 : n % 1 = 0 := Nat.mod_one n
  simp [h1]
theorem dLeast : Ieee.double.leastPlace = -1074 := by decide
end Go.Proofs.YtmpioejllfedoaaDoor.M

/-
  Plain mathematics: what the model's floats are rounded to, by rungs. No Go text in sight.
-/
namespace Go.Proofs.YtmpioejllfedoaaDoor
open Go Go.RowKit Go.Proofs.YtmpioejllfedoaaDoor.M Ieee
set_option linter.unusedSimpArgs false
set_option linter.unusedVariables false

/-- What is left of t in D units. -/
def lefN (t D : Nat) : Int := if t = 0 then 0 else if 2 * t < D then 1 else if 2 * t = D then 2 else 3
theorem left_nat {mag u t D : Nat} {q : Int} (hq : 0 < q) (hm : mag = u * D + t) (ht : t < D) : M.Left ((mag : Int) * q) u ((D : Int) * q) (lefN t D) := by
  have e : (mag : Int) * q = (u : Int) * ((D : Int) * q) + (t : Int) * q := by
    rw [hm]; push_cast; rw [Int.add_mul, Int.mul_assoc]
  have k1 : ∀ a b : Nat, a < b → (a : Int) * q < (b : Int) * q := fun a b h => Int.mul_lt_mul_of_pos_right (by omega) hq
  have t0 : 0 ≤ (t : Int) * q := Int.mul_nonneg (by omega) (Int.le_of_lt hq)
  have t1 := k1 t D ht
  have e2 : ((2 * t : Nat) : Int) * q = 2 * ((t : Int) * q) := by push_cast; rw [Int.mul_assoc]
  have z1 : 2 * t < D → 2 * ((t : Int) * q) < (D : Int) * q := fun h => by rw [← e2]; exact k1 _ _ h
  have z2 : 2 * t = D → 2 * ((t : Int) * q) = (D : Int) * q := fun h => by rw [← e2, h]
  have z3 : D < 2 * t → (D : Int) * q < 2 * ((t : Int) * q) := fun h => by rw [← e2]; exact k1 _ _ h
  have z4 : 0 < t → 0 < (t : Int) * q := fun h => Int.mul_pos (by omega) hq
  have z5 : t = 0 → (t : Int) * q = 0 := fun h => by rw [h]; simp
  obtain ⟨U, hU⟩ : ∃ U, (u : Int) * ((D : Int) * q) = U := ⟨_, rfl⟩
  rw [e, hU]
  generalize (t : Int) * q = T at *
  generalize (D : Int) * q = R at *
  unfold lefN
  by_cases c0 : t = 0
  · rw [if_pos c0]
    have := z5 c0
    exact M.Left.mk' hU (by omega) (by omega) (by constructor <;> intro h <;> omega) (by constructor <;> intro h <;> omega) (by constructor <;> intro h <;> omega) (by constructor <;> intro h <;> omega)
  · have := z4 (by omega)
    rw [if_neg c0]
    by_cases c1 : 2 * t < D
    · rw [if_pos c1]
      have := z1 c1
      exact M.Left.mk' hU (by omega) (by omega) (by constructor <;> intro h <;> omega) (by constructor <;> intro h <;> omega) (by constructor <;> intro h <;> omega) (by constructor <;> intro h <;> omega)
    · rw [if_neg c1]
      by_cases c2 : 2 * t = D
      · rw [if_pos c2]
        have := z2 c2
        exact M.Left.mk' hU (by omega) (by omega) (by constructor <;> intro h <;> omega) (by constructor <;> intro h <;> omega) (by constructor <;> intro h <;> omega) (by constructor <;> intro h <;> omega)
      · rw [if_neg c2]
        have := z3 (by omega)
        exact M.Left.mk' hU (by omega) (by omega) (by constructor <;> intro h <;> omega) (by constructor <;> intro h <;> omega) (by constructor <;> intro h <;> omega) (by constructor <;> intro h <;> omega)
theorem up_lef (neg odd : Bool) (t D : Nat) (ht : t < D) : rUp 0 neg odd (lefN t D) = (decide (D < 2 * t) || (decide (D = 2 * t) && odd)) := by
  unfold rUp lefN
  rw [if_pos rfl]
  by_cases c0 : t = 0
  · rw [if_pos c0, decide_eq_false (p := D < 2 * t) (by omega), decide_eq_false (p := D = 2 * t) (by omega)]
    simp
  · rw [if_neg c0]
    by_cases c1 : 2 * t < D
    · rw [if_pos c1, decide_eq_false (p := D < 2 * t) (by omega), decide_eq_false (p := D = 2 * t) (by omega)]
      simp
    · rw [if_neg c1]
      by_cases c2 : 2 * t = D
      · rw [if_pos c2, decide_eq_false (p := D < 2 * t) (by omega), decide_eq_true (p := D = 2 * t) (by omega)]
        simp
      · rw [if_neg c2, decide_eq_true (p := D < 2 * t) (by omega)]
        simp
/-- A whole number of units, to the nearest. -/
theorem cut_even (neg : Bool) (n d : Nat) (hn : n ≠ 0) : Toward.even.cut neg n d = n / 2 ^ d + (if rUp 0 neg (decide (n / 2 ^ d % 2 = 1)) (lefN (n % 2 ^ d) (2 ^ d)) then 1 else 0) := by
  have h2 : n < 2 ^ (n.log2 + 1) := Nat.lt_log2_self
  have hD := Nat.two_pow_pos d
  rw [up_lef _ _ _ _ (Nat.mod_lt _ hD)]
  unfold Toward.cut
  dsimp only
  by_cases h : d ≤ n.log2 + 2
  · rw [Nat.min_eq_left h, Nat.shiftLeft_eq, Nat.one_mul]
    congr 1
    have e1 : (2 ^ d == 2 * (n % 2 ^ d)) = decide (2 ^ d = 2 * (n % 2 ^ d)) := rfl
    have e2 : (n / 2 ^ d % 2 == 1) = decide (n / 2 ^ d % 2 = 1) := rfl
    rw [e1, e2]
    cases (decide (2 ^ d < 2 * (n % 2 ^ d)) || decide (2 ^ d = 2 * (n % 2 ^ d)) && decide (n / 2 ^ d % 2 = 1)) <;> rfl
  · rw [Nat.min_eq_right (by omega), Nat.shiftLeft_eq, Nat.one_mul]
    have h3 : 2 ^ (n.log2 + 2) = 2 * 2 ^ (n.log2 + 1) := by rw [Nat.pow_succ, Nat.mul_comm]
    have h4 : 2 ^ (n.log2 + 2) ≤ 2 ^ d := Nat.pow_le_pow_right (by decide) (by omega)
    have q1 : n / 2 ^ (n.log2 + 2) = 0 := Nat.div_eq_of_lt (by omega)
    have q2 : n % 2 ^ (n.log2 + 2) = n := Nat.mod_eq_of_lt (by omega)
    have q3 : n / 2 ^ d = 0 := Nat.div_eq_of_lt (by omega)
    have q4 : n % 2 ^ d = n := Nat.mod_eq_of_lt (by omega)
    rw [q1, q2, q3, q4, decide_eq_false (p := 2 ^ d < 2 * n) (by omega), decide_eq_false (p := 2 ^ d = 2 * n) (by omega), decide_eq_false (p := 2 ^ (n.log2 + 2) < 2 * n) (by omega)]
    have e1 : (2 ^ (n.log2 + 2) == 2 * n) = decide (2 ^ (n.log2 + 2) = 2 * n) := rfl
    rw [e1, decide_eq_false (p := 2 ^ (n.log2 + 2) = 2 * n) (by omega)]
    rfl
end Go.Proofs.YtmpioejllfedoaaDoor

/-
  Plain mathematics: the nearest word is the nearest rung's. No Go text in sight.
-/
namespace Go.Proofs.YtmpioejllfedoaaDoor
open Go Go.RowKit Go.Proofs.YtmpioejllfedoaaDoor.M Ieee
set_option linter.unusedSimpArgs false
set_option linter.unusedVariables false

theorem dLeast : Ieee.double.leastPlace = -1074 := by decide
theorem dFrac : Ieee.double.fractionBits = 52 := by decide
theorem dBin : Ieee.double.binade = 4503599627370496 := by decide
/-- The last place that is kept. -/
def lastP (mag : Nat) (place : Int) : Int := max (place + (mag.log2 : Int) - 52) (-1074)
theorem nearest_word (neg : Bool) {mag : Nat} (place : Int) (h : mag ≠ 0) : Ieee.double.nearest neg mag place = Ieee.double.word neg (min ((lastP mag place + 1074).toNat * 4503599627370496 + Toward.even.cut neg (mag * 2 ^ (place - lastP mag place).toNat) (lastP mag place - place).toNat) 9218868437227405312) := by
  unfold Format.nearest
  rw [if_neg h, dLeast, dFrac, dBin, dInf]
  dsimp only
  rw [Nat.shiftLeft_eq, show (lastP mag place + 1074) = (lastP mag place - -1074) by omega]
  rfl
theorem minInf {r : Nat} {up : Bool} {neg : Bool} {left : Int} (hup : rUp 0 neg (decide (r % 2 = 1)) left = up) : ((min (r + (if up = true then 1 else 0)) 9218868437227405312 : Nat) : Int) = rTo 0 neg r left := by
  unfold rTo
  rw [hup]
  by_cases h : (r : Int) < 9218868437227405312
  · rw [if_pos h]
    cases up
    · simp only [Bool.false_eq_true, if_false]; omega
    · simp only [if_true]; omega
  · rw [if_neg h]
    have hb : bRung 0 neg = 9218868437227405312 := by cases neg <;> rfl
    rw [hb]
    split <;> omega
theorem odd_rung (a u : Nat) : decide ((a * 4503599627370496 + u) % 2 = 1) = decide (u % 2 = 1) := by congr 1; apply propext; omega
/-- The nearest word, by the number's rung. -/
theorem nearest_rung (neg : Bool) {mag : Nat} {place : Int} (h : mag ≠ 0) (hp : -4194304 ≤ place) :
    ∃ (r0 : Nat) (left : Int), Rung ((mag : Int) * pw place) r0 left ∧ Ieee.double.nearest neg mag place = Ieee.double.word neg (rTo 0 neg r0 left).toNat := by
  rw [nearest_word neg place h]
  have h1 := Nat.log2_self_le h
  have h2 : mag < 2 ^ (mag.log2 + 1) := Nat.lt_log2_self
  have hL : lastP mag place = max (place + (mag.log2 : Int) - 52) (-1074) := rfl
  obtain ⟨l, hl⟩ : ∃ l, lastP mag place = l := ⟨_, rfl⟩
  rw [hl] at hL ⊢
  have hl0 : -1074 ≤ l := by omega
  have hl1 : place + (mag.log2 : Int) - 52 ≤ l := by omega
  have hl2 : -1074 < l → l = place + (mag.log2 : Int) - 52 := by omega
  obtain ⟨a, ha⟩ : ∃ a : Nat, (l + 1074).toNat = a := ⟨_, rfl⟩
  have hal : l = -1074 + (a : Int) := by omega
  have e52 : (2 : Nat) ^ 52 = 4503599627370496 := by decide
  have e53 : (2 : Nat) ^ 53 = 9007199254740992 := by decide
  rw [ha]
  -- u units of 2^l and what is left
  have main : ∃ (u : Nat) (left : Int), M.Left ((mag : Int) * pw place) u (pw l) left ∧ Toward.even.cut neg (mag * 2 ^ (place - l).toNat) (l - place).toNat = u + (if rUp 0 neg (decide (u % 2 = 1)) left then 1 else 0) ∧ u < 9007199254740992 ∧ (0 < a → 4503599627370496 ≤ u) := by
    by_cases hs : l ≤ place
    · obtain ⟨k, hk⟩ : ∃ k : Nat, (place - l).toNat = k := ⟨_, rfl⟩
      have hpl : place = l + (k : Int) := by omega
      rw [hk, show (l - place).toNat = 0 by omega, cut_zero]
      refine ⟨mag * 2 ^ k, 0, ?_, ?_, ?_, ?_⟩
      · have e : (mag : Int) * pw place = ((mag * 2 ^ k : Nat) : Int) * pw l := by
          rw [hpl, pw_add (by omega), Int.mul_comm (pw l)]
          push_cast
          rw [Int.mul_assoc]
        have := left_nat (mag := mag * 2 ^ k) (u := mag * 2 ^ k) (t := 0) (D := 1) (pw_pos l) (by omega) (by decide)
        rw [e]
        have e1 : ((1 : Nat) : Int) * pw l = pw l := by rw [Int.natCast_one, Int.one_mul]
        rw [e1] at this
        exact this
      · have : rUp 0 neg (decide (mag * 2 ^ k % 2 = 1)) 0 = false := by
          cases hu : rUp 0 neg (decide (mag * 2 ^ k % 2 = 1)) 0
          · rfl
          · exact (rUp_left hu).elim
        rw [this]
        rfl
      · have b1 : mag * 2 ^ k < 2 ^ (mag.log2 + 1) * 2 ^ k := Nat.mul_lt_mul_of_pos_right h2 (Nat.two_pow_pos _)
        rw [← Nat.pow_add] at b1
        have b2 : 2 ^ (mag.log2 + 1 + k) ≤ 2 ^ 53 := Nat.pow_le_pow_right (by decide) (by omega)
        omega
      · intro h0
        have b1 : 2 ^ mag.log2 * 2 ^ k ≤ mag * 2 ^ k := Nat.mul_le_mul_right _ h1
        rw [← Nat.pow_add] at b1
        have b2 : 2 ^ 52 ≤ 2 ^ (mag.log2 + k) := Nat.pow_le_pow_right (by decide) (by have := hl2 (by omega); omega)
        omega
    · obtain ⟨k, hk⟩ : ∃ k : Nat, (l - place).toNat = k := ⟨_, rfl⟩
      have hpl : l = place + (k : Int) := by omega
      rw [hk, show (place - l).toNat = 0 by omega, Nat.pow_zero, Nat.mul_one, cut_even neg mag k h]
      have hD := Nat.two_pow_pos k
      have hdm := Nat.div_add_mod mag (2 ^ k)
      have hml := Nat.mod_lt mag hD
      refine ⟨mag / 2 ^ k, lefN (mag % 2 ^ k) (2 ^ k), ?_, rfl, ?_, ?_⟩
      · have := left_nat (mag := mag) (u := mag / 2 ^ k) (t := mag % 2 ^ k) (D := 2 ^ k) (pw_pos place) (by rw [Nat.mul_comm]; exact hdm.symm) hml
        have e : pw l = ((2 ^ k : Nat) : Int) * pw place := by
          rw [hpl, pw_add hp, Int.mul_comm]
          push_cast
          rfl
        rw [e]
        exact this
      · rw [Nat.div_lt_iff_lt_mul hD, ← e53, ← Nat.pow_add]
        exact Nat.lt_of_lt_of_le h2 (Nat.pow_le_pow_right (by decide) (by omega))
      · intro h0
        rw [Nat.le_div_iff_mul_le hD, ← e52, ← Nat.pow_add]
        exact Nat.le_trans (Nat.pow_le_pow_right (by decide) (by have := hl2 (by omega); omega)) h1
  obtain ⟨u, left, hLeft, hcut, hu1, hu2⟩ := main
  rw [hcut]
  have hV := V_rung Ieee.double a u (by rw [dBin]; omega) (fun q => by rw [dBin]; exact hu2 q)
  rw [dBin] at hV
  have hpw : pw l = 2 ^ a * pw (-1074) := by rw [hal, pw_add (by decide), Int.mul_comm]
  rw [hpw] at hLeft
  refine ⟨a * 4503599627370496 + u, left, left_rung hLeft hV.1 hV.2, ?_⟩
  have hm := minInf (r := a * 4503599627370496 + u) (neg := neg) (left := left) rfl
  rw [odd_rung] at hm
  rw [← hm, Int.toNat_natCast, Nat.add_assoc]
end Go.Proofs.YtmpioejllfedoaaDoor

/-
  Plain mathematics: rounding with the other sign, and that it keeps the order.
-/
namespace Go.Proofs.YtmpioejllfedoaaDoor
open Go Go.RowKit Go.Proofs.YtmpioejllfedoaaDoor.M
set_option linter.unusedSimpArgs false
set_option linter.unusedVariables false

theorem cls_pat {s : Bool} {r : Int} (h0 : 0 ≤ r) (h1 : r ≤ 9218868437227405312) (h : s = true → 0 < r) : cls (patS s r) ≠ 4 := by
  obtain ⟨a, b, _⟩ := patS_facts h0 h1 h
  intro q
  have := (cls_rg a).1.1 q
  omega
theorem key_pat {s : Bool} {r : Int} (h0 : 0 ≤ r) (h1 : r ≤ 9218868437227405312) (h : s = true → 0 < r) : key (patS s r) = sg s r := by
  unfold key patS sg
  cases s
  · simp only [Bool.false_eq_true, if_false]
    rw [if_neg (by omega)]
  · have := h rfl
    simp only [if_true]
    rw [if_pos (by omega)]
    omega
theorem rg_neg {b : Int} (hb : rng b) (h : cls b ≠ 4) : rg (neg b) = rg b ∧ key (neg b) = -key b := by
  unfold rng at hb
  unfold neg
  rw [if_neg h]
  unfold rg key
  by_cases h0 : b < 0
  · rw [if_pos h0, if_neg (by omega), if_pos h0, if_neg (by omega), if_pos h0]; omega
  · rw [if_neg h0, if_pos (by omega), if_neg h0, if_pos (by omega), if_neg h0]; omega
theorem cls_neg {b : Int} (hb : rng b) (h : cls b ≠ 4) : cls (neg b) ≠ 4 := by
  intro q
  have h1 := (cls_rg (rng_neg hb)).1.1 q
  rw [(rg_neg hb h).1] at h1
  exact h ((cls_rg hb).1.2 h1)
theorem less_not {a b : Int} (h : key b ≤ key a) : less a b = false := by
  unfold less
  rw [decide_eq_false (p := key a < key b) (by omega), Bool.and_false, Bool.and_false]
theorem rUp_mono {way : Int} {ng odd : Bool} {A B a b l k : Int} (h0 : l = 0 ↔ A = a) (h2 : l = 2 ↔ 2 * A = a + b) (h3 : l = 3 ↔ a + b < 2 * A) (g0 : k = 0 ↔ B = a) (g2 : k = 2 ↔ 2 * B = a + b) (g3 : k = 3 ↔ a + b < 2 * B) (lo : a ≤ A) (AB : A ≤ B)
    (h : rUp way ng odd l = true) : rUp way ng odd k = true := by
  have nz : l ≠ 0 → k ≠ 0 := fun q e => by
    have e1 := g0.1 e
    exact q (h0.2 (by omega))
  unfold rUp at *
  split at h
  · rename_i e
    rw [if_pos e]
    simp only [Bool.or_eq_true, Bool.and_eq_true, decide_eq_true_eq] at *
    rcases h with h | ⟨h, ho⟩
    · left; exact g3.2 (by have := h3.1 h; omega)
    · have e2 := h2.1 h
      by_cases e3 : 2 * B = a + b
      · right; exact ⟨g2.2 e3, ho⟩
      · left; exact g3.2 (by omega)
  · rename_i e
    rw [if_neg e]
    split at h
    · rename_i e2
      rw [if_pos e2]
      simp only [Bool.and_eq_true, decide_eq_true_eq] at *
      exact ⟨nz h.1, h.2⟩
    · rename_i e2
      rw [if_neg e2]
      split at h
      · rename_i e3
        rw [if_pos e3]
        simp only [Bool.and_eq_true, decide_eq_true_eq] at *
        exact ⟨nz h.1, h.2⟩
      · cases h
theorem rung_le {A B : Int} {r s : Nat} {l k : Int} (h : Rung A r l) (g : Rung B s k) (AB : A ≤ B) : r ≤ s := by
  rcases Nat.lt_or_ge s r with q | q
  · exfalso
    have h1 := h.lo
    have g1 := g.hi
    have e : vS (s + 1) ≤ vS r := by
      rcases Nat.lt_or_eq_of_le (show s + 1 ≤ r from q) with q2 | q2
      · exact Int.le_of_lt (vS_lt q2)
      · rw [q2]; exact Int.le_refl _
    exact absurd (Int.lt_of_lt_of_le g1 (Int.le_trans e (Int.le_trans h1 AB))) (Int.lt_irrefl _)
  · exact q
theorem rTo_mono {way : Int} {ng : Bool} {A B : Int} {r s : Nat} {l k : Int} (h : Rung A r l) (g : Rung B s k) (AB : A ≤ B) : rTo way ng r l ≤ rTo way ng s k := by
  have hrs := rung_le h g AB
  rcases Nat.lt_or_eq_of_le hrs with q | q
  · clear h g
    unfold rTo
    by_cases hs : (s : Int) < 9218868437227405312
    · rw [if_pos hs, if_pos (by omega)]
      split <;> split <;> omega
    · rw [if_neg hs]
      by_cases hr : (r : Int) < 9218868437227405312
      · rw [if_pos hr]
        unfold bRung
        cases hu : rUp way ng (decide (r % 2 = 1)) l
        · simp only [Bool.false_eq_true, if_false]
          split <;> omega
        · rw [if_pos rfl, if_pos (rUp_more hu)]
          omega
      · rw [if_neg hr]
        exact Int.le_refl _
  · subst q
    have lo := h.lo
    have h0 := h.l0
    have h2 := h.l2
    have h3 := h.l3
    have g0 := g.l0
    have g2 := g.l2
    have g3 := g.l3
    have hm := fun odd => @rUp_mono way ng odd A B (vS r) (vS (r + 1)) l k h0 h2 h3 g0 g2 g3 lo AB
    clear h g lo h0 h2 h3 g0 g2 g3
    unfold rTo
    by_cases hr : (r : Int) < 9218868437227405312
    · rw [if_pos hr, if_pos hr]
      cases hu : rUp way ng (decide (r % 2 = 1)) l
      · simp only [Bool.false_eq_true, if_false]
        split <;> omega
      · rw [hm _ hu]
        exact Int.le_refl _
    · rw [if_neg hr, if_neg hr]
      exact Int.le_refl _
theorem vS_nonneg (r : Nat) : 0 ≤ vS r := by
  rcases Nat.eq_zero_or_pos r with h | h
  · subst h; rw [vS_zero]; exact Int.le_refl _
  · have := vS_lt h
    rw [vS_zero] at this
    exact Int.le_of_lt this
theorem sg_key (ng : Bool) {r : Int} (h0 : 0 ≤ r) : sg (ng && decide (0 < r)) r = sg ng r := by
  by_cases h : 0 < r
  · rw [decide_eq_true h, Bool.and_true]
  · obtain rfl : r = 0 := by omega
    cases ng <;> rfl
/-- A pattern that is answered: its place in the order, and that it is a number's. -/
theorem RdOf.key {V : Int} {ng : Bool} {f : Int → Int × Bool} {A : Int} {r0 : Nat} {left : Int} {way : Int} (hf : f way = (patS (ng && decide (0 < rTo way ng r0 left)) (rTo way ng r0 left), decide (left ≠ 0) || decide (9218868437227405312 ≤ (r0 : Int)))) :
    M.key (f way).1 = sg ng (rTo way ng r0 left) ∧ cls (f way).1 ≠ 4 ∧ rng (f way).1 := by
  obtain ⟨g1, g2⟩ := rTo_range way ng r0 left
  rw [hf]
  exact ⟨(key_pat g1 g2 and_pos).trans (sg_key ng g1), cls_pat g1 g2 and_pos, (patS_facts g1 g2 and_pos).1⟩
theorem sg_le {ng mg : Bool} {A B r s : Int} (hA : 0 ≤ A) (hB : 0 ≤ B) (zB : mg = true → 0 < B) (r0 : 0 ≤ r) (s0 : 0 ≤ s) (h : sg ng A ≤ sg mg B) (up : ng = mg → A ≤ B → r ≤ s) (dn : ng = mg → B ≤ A → s ≤ r) : sg ng r ≤ sg mg s := by
  cases ng <;> cases mg
  · exact up rfl h
  · exfalso
    have h' : A ≤ -B := h
    have := zB rfl
    omega
  · show -r ≤ s
    omega
  · have h' : -A ≤ -B := h
    have := dn rfl (by omega)
    show -r ≤ -s
    omega
theorem rd_mono {V U : Int} {ng mg : Bool} {f g : Int → Int × Bool} (h : RdOf V ng f) (k : RdOf U mg g) (hVU : V ≤ U) (way : Int) : less (g way).1 (f way).1 = false := by
  obtain ⟨A, r, l, eV, zA, RA, hf⟩ := h
  obtain ⟨B, s, m, eU, zB, RB, hg⟩ := k
  have kf := (RdOf.key (V := V) (A := A) (hf way)).1
  have kg := (RdOf.key (V := U) (A := B) (hg way)).1
  have hA : 0 ≤ A := Int.le_trans (vS_nonneg r) RA.lo
  have hB : 0 ≤ B := Int.le_trans (vS_nonneg s) RB.lo
  refine less_not ?_
  rw [kf, kg]
  rw [eV, eU] at hVU
  refine sg_le hA hB zB (rTo_range way ng r l).1 (rTo_range way mg s m).1 hVU (fun e AB => ?_) (fun e BA => ?_)
  · subst e; exact rTo_mono RA RB AB
  · subst e; exact rTo_mono RB RA BA
end Go.Proofs.YtmpioejllfedoaaDoor

/-
  Plain mathematics: what binary64 answers, by rungs, where the number is a quotient. No Go text in sight.
-/
namespace Go.Proofs.YtmpioejllfedoaaDoor
open Go Go.RowKit Go.Proofs.YtmpioejllfedoaaDoor.M
set_option linter.unusedSimpArgs false
set_option linter.unusedVariables false

end Go.Proofs.YtmpioejllfedoaaDoor

/-
  Plain mathematics: a quotient's rung, and what RoundQuots asks of it.
-/
namespace Go.Proofs.YtmpioejllfedoaaDoor
open Go Go.RowKit Go.Proofs.YtmpioejllfedoaaDoor.M
set_option linter.unusedSimpArgs false
set_option linter.unusedVariables false

end Go.Proofs.YtmpioejllfedoaaDoor

/-
  Plain mathematics: what Quot answers by Down, and its neighbour above.
-/
namespace Go.Proofs.YtmpioejllfedoaaDoor
open Go Go.RowKit Go.Proofs.YtmpioejllfedoaaDoor.M
set_option linter.unusedSimpArgs false
set_option linter.unusedVariables false

/-- What RoundQuots asks of an answer by Down: U / S is the quotient. -/
structure Quo (U S d : Int) (o : Bool) : Prop where
  rg : rng d
  fin : pok d = true → patV d * S ≤ U ∧ (patV d * S = U ↔ o = false)
  nxt : pok (next d) = true → U < patV (next d) * S
  neg : pok d = false → d < 0
theorem next_pos {r : Int} (h0 : 0 ≤ r) (h1 : r < 9218868437227405312) : next (patS false r) = patS false (r + 1) := by
  have hc := cls_pat (s := false) (r := r) h0 (by omega) (fun h => by cases h)
  unfold next
  rw [if_neg hc]
  show (if r = 9218868437227405312 then r else if r = -9223372036854775808 then 1 else if r < 0 then r - 1 else r + 1) = r + 1
  rw [if_neg (by omega), if_neg (by omega), if_neg (by omega)]
theorem pmag_nz : pmag (-9223372036854775808) = 0 := by decide
theorem patV_neg {r : Nat} (h : (r : Int) < 9218868437227405312) : patV (patS true (r : Int)) = sg true (vS r) := by
  by_cases h0 : r = 0
  · subst h0
    rw [vS_zero]
    show patV (-9223372036854775808) = sg true 0
    unfold patV
    rw [pmag_nz, sg_zero, sg_zero, Int.zero_mul]
  · exact patV_patS h (fun _ => by omega)
theorem pok_pos {r : Int} (h0 : 0 ≤ r) (h1 : r ≤ 9218868437227405312) (h : pok (patS false r) = true) : r < 9218868437227405312 := by
  rw [patS_pok h0 h1 (fun q => by cases q)] at h
  exact of_decide_eq_true h
/-- The cases of an answer by Down. -/
theorem Quo.pos {S A : Int} {r : Nat} {o : Bool} (hr : (r : Int) < 9218868437227405312) (lo : vS r * S ≤ A) (eq : vS r * S = A ↔ o = false) (hi : ((r + 1 : Nat) : Int) < 9218868437227405312 → A < vS (r + 1) * S) : Quo A S (patS false (r : Int)) o := by
  have hv : patV (patS false (r : Int)) = vS r := by
    have := patV_patS (ng := false) hr (fun h => by cases h)
    rw [this]
    unfold sg
    rw [if_neg (by decide)]
  have hnx : next (patS false (r : Int)) = patS false ((r + 1 : Nat) : Int) := by
    rw [next_pos (by omega) hr]; rfl
  refine ⟨(patS_facts (by omega) (by omega) (fun h => by cases h)).1, fun _ => ?_, fun h => ?_, fun h => ?_⟩
  · rw [hv]; exact ⟨lo, eq⟩
  · rw [hnx] at h ⊢
    have h1 := pok_pos (by omega) (by omega) h
    have := patV_patS (ng := false) h1 (fun h => by cases h)
    rw [this]
    unfold sg
    rw [if_neg (by decide)]
    exact hi h1
  · exfalso
    rw [patS_pok (by omega) (by omega) (fun h => by cases h)] at h
    exact absurd hr (of_decide_eq_false h)
end Go.Proofs.YtmpioejllfedoaaDoor

/-
  Plain mathematics: a square root's rung. No Go text in sight.
-/
namespace Go.Proofs.YtmpioejllfedoaaDoor
open Go Go.RowKit Go.Proofs.YtmpioejllfedoaaDoor.M
set_option linter.unusedSimpArgs false
set_option linter.unusedVariables false

/-- X's square root among the rungs. -/
structure RungR (X : Int) (r0 : Nat) (left : Int) : Prop where
  lo : vS r0 * vS r0 ≤ X
  hi : X < vS (r0 + 1) * vS (r0 + 1)
  l0 : left = 0 ↔ X = vS r0 * vS r0
theorem sq_le {a b : Int} (h0 : 0 ≤ a) (h : a ≤ b) : a * a ≤ b * b := Int.mul_le_mul h h h0 (Int.le_trans h0 h)
theorem RungR.unique {X : Int} {r s : Nat} {l k : Int} (h : RungR X r l) (g : RungR X s k) : r = s := by
  have key : ∀ {r s : Nat} {l k : Int}, RungR X r l → RungR X s k → ¬ r < s := fun {r s l k} h g q => by
    have e : vS (r + 1) ≤ vS s := by
      rcases Nat.lt_or_eq_of_le (show r + 1 ≤ s from q) with q2 | q2
      · exact Int.le_of_lt (vS_lt q2)
      · rw [q2]; exact Int.le_refl _
    exact absurd (Int.lt_of_lt_of_le h.hi (Int.le_trans (sq_le (vS_nonneg _) e) g.lo)) (Int.lt_irrefl _)
  rcases Nat.lt_trichotomy r s with q | q | q
  · exact absurd q (key h g)
  · exact q
  · exact absurd q (key g h)
end Go.Proofs.YtmpioejllfedoaaDoor

/-
  Plain mathematics: what Root answers, by the root's rung. No Go text in sight.
-/
namespace Go.Proofs.YtmpioejllfedoaaDoor
open Go Go.RowKit Go.Proofs.YtmpioejllfedoaaDoor.M
set_option linter.unusedSimpArgs false
set_option linter.unusedVariables false

end Go.Proofs.YtmpioejllfedoaaDoor

/-
  Package round: Quot by 0.
-/
namespace Go.Proofs.YtmpioejllfedoaaDoor
open Go Go.RowKit Go.Proofs.YtmpioejllfedoaaDoor.M
set_option linter.unusedSimpArgs false
set_option linter.unusedVariables false

end Go.Proofs.YtmpioejllfedoaaDoor

/-
  Package round: Quot by 0: rounded and Quot.
-/
namespace Go.Proofs.YtmpioejllfedoaaDoor
open Go Go.RowKit Go.Proofs.YtmpioejllfedoaaDoor.M
set_option linter.unusedSimpArgs false
set_option linter.unusedVariables false

end Go.Proofs.YtmpioejllfedoaaDoor

/-
  What RoundQuots asks of the calls: Quot on numbers told by their worth.
-/
namespace Go.Proofs.YtmpioejllfedoaaDoor
open Go Go.RowKit Go.Proofs.YtmpioejllfedoaaDoor.M
set_option linter.unusedSimpArgs false
set_option linter.unusedVariables false

theorem Bd.sg {B : Nat} {V : Int} (g : Bool) (h : Bd B V) : Bd B (M.sg g V) := by
  cases g
  · exact h
  · exact h.neg
theorem next_B {b : Int} {w : World} (hb : rng b) (H : Hold4 w) : Calls Tryd.prog 14 #[.int .i64 b] w fun e w' => e = .returned (.int .i64 (next b)) ∧ Below w.heap.size w w' := by
  refine (bitsNext b w H.env.lays hb).mono ?_
  rintro e w' ⟨h, g⟩
  exact ⟨h, g.be⟩
end Go.Proofs.YtmpioejllfedoaaDoor

/-
  Plain mathematics: what RoundRoots asks of Root's answers.
-/
namespace Go.Proofs.YtmpioejllfedoaaDoor
open Go Go.RowKit Go.Proofs.YtmpioejllfedoaaDoor.M
set_option linter.unusedSimpArgs false
set_option linter.unusedVariables false

theorem patV_rg {b : Int} (hb : rng b) (hp : pok b = true) : ∃ (ng : Bool) (r : Nat), (r : Int) = rg b ∧ (r : Int) < 9218868437227405312 ∧ patV b = sg ng (vS r) := by
  obtain ⟨r0, r1⟩ := rg_parts hb
  have hlt : rg b < 9218868437227405312 := by
    have hne := pparts hp
    have hf : 0 ≤ frc b ∧ frc b < 4503599627370496 := by unfold frc; omega
    have hg : 0 ≤ fld b ∧ fld b < 2048 := by unfold fld; omega
    omega
  obtain ⟨r, hr⟩ : ∃ r : Nat, (r : Int) = rg b := ⟨(rg b).toNat, Int.toNat_of_nonneg r0⟩
  have hs : b = patS (decide (b < 0)) (r : Int) := by
    rw [hr]
    unfold patS rg
    by_cases h : b < 0
    · rw [decide_eq_true h, if_pos rfl, if_pos h]; omega
    · rw [decide_eq_false h, if_neg (by decide), if_neg h]
  refine ⟨decide (b < 0), r, hr, by rw [hr]; exact hlt, ?_⟩
  rw [← hr] at hlt
  cases hd : decide (b < 0)
  · rw [hd] at hs
    rw [hs]
    exact patV_patS hlt (fun h => by cases h)
  · rw [hd] at hs
    rw [hs]
    exact patV_neg hlt
end Go.Proofs.YtmpioejllfedoaaDoor
