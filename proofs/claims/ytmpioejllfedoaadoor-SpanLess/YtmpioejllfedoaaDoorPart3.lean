/-
  Parts of the proof, one behind another.
-/
import Derived.Test.YtmpioejllfedoaaDoorPart2
import Derived.Tactics
import Derived.Tactics2
import Derived.Defers
import Derived.Recover
import Derived.Laws.Pointers
import Derived.WalkLawsBesides
import Derived.Test.YtmpioejllfedoaaDoorPart1
import Derived.Deep.RegionHeld3
import Derived.WideLaws
/-
  Package dyadic: told, by its contract: what is reckoned out is told; where it gave up, ErrLong.
-/
namespace Go.Proofs.YtmpioejllfedoaaDoor
open Go Go.RowKit Go.Proofs.YtmpioejllfedoaaDoor.M
set_option linter.unusedSimpArgs false
set_option linter.unusedVariables false

theorem blkC {w : World} {g : Nat} {xs : Array Value} {t : TypeId} (h : w.heap[g]? = some (.cells xs t (0, 0))) (i : Nat) {v : Value} (hi : xs[i]? = some v) : w.cell? ⟨g, i, none⟩ = some v := by
  rw [cell_of_row w g i xs _ _ h]; exact hi
theorem blkF {w : World} {g : Nat} {xs : Array Value} {t : TypeId} (h : w.heap[g]? = some (.cells xs t (0, 0))) (i : Nat) : w.frozen? ⟨g, i, none⟩ = false := by
  simp [World.frozen?, h]
theorem heap_a2 (w : World) (a b : Obj) : ((w.alloc a).alloc b).heap[w.heap.size]? = some a := by
  show ((w.heap.push a).push b)[w.heap.size]? = some a
  simp [Array.getElem?_push]
theorem heap_b2 (w : World) (a b : Obj) : ((w.alloc a).alloc b).heap[w.heap.size + 1]? = some b := by
  show ((w.heap.push a).push b)[w.heap.size + 1]? = some b
  rw [Array.getElem?_push, if_pos (by simp)]
theorem size2 (w : World) (a b : Obj) : ((w.alloc a).alloc b).heap.size = w.heap.size + 2 := by
  show ((w.heap.push a).push b).size = _
  simp
theorem Out.set_below {B : Nat} {w : World} {v : Value} {n : Nat} {d : Nat → Int} (h : Out B w v n d) {a : Addr} (ha : a.block < B) (u : Value) : Out B (w.setCell a u) v n d := ownsRow_setCell_below h ha u
/-- A number that is read, in its one form. -/
def DNum (w : World) (v : Value) (V : Int) : Prop := ∃ ng s m e, v = .agg #[.bool ng, s, .int .i64 e] ∧ Dy V ng m e ∧ Num w s m
/-- A number that is answered: its list is new memory. -/
def DAns (w w' : World) (V : Int) (v : Value) : Prop := ∃ ng s m e, v = .agg #[.bool ng, s, .int .i64 e] ∧ Dy V ng m e ∧ Ans w w' m s
/-- The zero number. -/
def zeroV : Value := .agg #[.bool false, .slice none 0 0, .int .i64 0]
theorem DAns.below {w w' : World} {V : Int} {v : Value} (h : DAns w w' V v) : Below w.heap.size w w' := by
  obtain ⟨ng, s, m, e, _, _, h3⟩ := h
  exact h3.below
theorem DAns.num {w w' : World} {V : Int} {v : Value} (h : DAns w w' V v) : DNum w' v V := by
  obtain ⟨ng, s, m, e, h1, h2, h3⟩ := h
  exact ⟨ng, s, m, e, h1, h2, h3.num⟩
theorem DAns.from {w0 w w' : World} {V : Int} {v : Value} (h : DAns w w' V v) (hb : Below w0.heap.size w0 w) : DAns w0 w' V v := by
  obtain ⟨ng, s, m, e, h1, h2, h3⟩ := h
  exact ⟨ng, s, m, e, h1, h2, h3.from hb⟩
theorem DAns.stays {w w1 w2 : World} {V : Int} {v : Value} (h : DAns w w1 V v) (hb : Below w1.heap.size w1 w2) : DAns w w2 V v := by
  obtain ⟨ng, s, m, e, h1, h2, h3⟩ := h
  exact ⟨ng, s, m, e, h1, h2, h3.stays hb⟩
theorem DAns.zero {w w' : World} (hb : Below w.heap.size w w') : DAns w w' 0 zeroV := ⟨_, _, _, _, rfl, Dy.zero, Ans.nil hb⟩
theorem DNum.keeps {w w' : World} {v : Value} {V : Int} (h : DNum w v V) (hb : Below w.heap.size w w') : DNum w' v V := by
  obtain ⟨ng, s, m, e, h1, h2, h3⟩ := h
  exact ⟨ng, s, m, e, h1, h2, h3.keeps hb⟩
theorem DNum.zero (w : World) : DNum w zeroV 0 := (DAns.zero (bel_refl w)).num
/-- A number, or ErrLong, as the document says. -/
def DFit (w w' : World) (V : Int) (v : Value) (er : Int) : Prop := Below w.heap.size w w' ∧ ((Dok V ∧ er = 0 ∧ DAns w w' V v) ∨ (¬ Dok V ∧ er = 2 ∧ v = zeroV))
theorem if_nil (w : World) : (binOp .eql 20 Value.nilIface Value.nilIface).run Tryd.prog w = .ok (.bool true) w := by kernel_rfl
theorem if_not (w : World) : (binOp .eql 20 (.iface 31 (.int .i64 2)) Value.nilIface).run Tryd.prog w = .ok (.bool false) w := by kernel_rfl
theorem if_long (w : World) : (binOp .eql 20 (.iface 31 (.int .i64 2)) (.iface 31 (.int .i64 2))).run Tryd.prog w = .ok (.bool true) w := by kernel_rfl
theorem catch_panicking (p : Addr) (x : Value) (older : List PanicEntry) (w : World) (hc : w.cell? p = some x) (hz : w.frozen? p = false) :
    CallsD Tryd.prog 97 #[.pointer (some p)] (.panicking ({ v := .iface 31 (.int .i64 2), recovered := false } :: older)) w fun e u' w' =>
      e = .returned (.tuple #[]) ∧ u' = .panicking ({ v := .iface 31 (.int .i64 2), recovered := true } :: older) ∧ w' = w.setCell p (.int .i64 2) := by
  have h1 := if_not
  have h2 := if_long
  refine callsD_of_wpS Tryd.func97 rfl fun c₀ cs hu => ?_
  apply wpS_seq
  apply wpS_region
  simp [wpOpsS, go_sem, recoverD, hu, Tryd.ntmps97, Exit.thenS]
  refine wpS_of_wp ?_
  go_wp2
  simp [bodyPostS, results, Tryd.results97]
theorem catch_idle (p : Addr) (w : World) :
    CallsD Tryd.prog 97 #[.pointer (some p)] .returning w fun e u' w' => e = .returned (.tuple #[]) ∧ u' = .returning ∧ w' = w := by
  have h1 := if_nil
  refine callsD_of_wpS Tryd.func97 rfl fun c₀ cs hu => ?_
  apply wpS_seq
  apply wpS_region
  simp [wpOpsS, go_sem, recoverD, hu, Tryd.ntmps97, Exit.thenS]
  refine wpS_of_wp ?_
  go_wp2
  cases c₀
  simp_all [bodyPostS, results, Tryd.results97]
set_option maxRecDepth 100000 in
set_option maxHeartbeats 1000000 in
theorem told_no (F : Nat) (cap : Array Value) (w : World) (hE : ∀ w, (callFunc F cap).run Tryd.prog w = .ok (.enter F cap) w) (hF : ∀ W, Below w.heap.size w W → Calls Tryd.prog F cap W fun r W' => r = .panicked [{ v := .iface 31 (.int .i64 2), recovered := false }] ∧ Below W.heap.size W W') :
    Calls Tryd.prog 94 #[.func (.func F) #[] cap] w fun r w' => r = .returned (.tuple #[.agg #[.bool false, .slice none 0 0, .int .i64 0], .int .i64 2]) ∧ Below w.heap.size w w' := by
  have hmf : ∀ (fn : Fn) (first cap : Array Value) (w : World), (Instr.makeFunc fn first cap).run Tryd.prog w = .ok (.func fn first cap) w := fun _ _ _ _ => rfl
  go_enter_defers Tryd.func94, Tryd.ntmps94
  go_wp2_with fail
  refine (hF _ (bel_alloc2 _ _ _)).mono ?_
  rintro r W' ⟨rfl, hb⟩
  have q1 := (hb.block (w.heap.size + 1) (by rw [size2]; omega)).trans (heap_b2 _ _ _)
  have q0 := (hb.block w.heap.size (by rw [size2]; omega)).trans (heap_a2 _ _ _)
  have f0 := blkF q1 0
  have k0 := blkC q1 0 rfl
  go_wp2_with fail
  refine leaves_cons (f := 97) (args := #[.pointer (some ⟨w.heap.size + 1, 0, none⟩)]) (by simp) (by simp [go_sem]) ?_
  refine (catch_panicking ⟨w.heap.size + 1, 0, none⟩ _ [] _ k0 f0).mono ?_
  rintro e u' w'' ⟨rfl, rfl, rfl⟩
  have c0 := blkC q0 0 rfl
  have c1 := blkC q0 1 rfl
  have c2 := blkC q0 2 rfl
  simp [Leaves, settle, results, Tryd.results94, go_sem, c0, c1, c2, k0]
  exact ((bel_alloc2 _ _ _).trans (hb.mono (bel_alloc2 _ _ _).size)).setCell (Nat.le_succ _) _
theorem dans_res {w W w3 : World} {V : Int} {v : Value} (hv : DAns W w3 V v) (hb : Below w.heap.size w W) {g : Nat} (h0 : w.heap.size ≤ g) (h1 : g + 1 < W.heap.size) (a b c x : Value) :
    DAns w ((((w3.setCell ⟨g, 0, none⟩ a).setCell ⟨g, 1, none⟩ b).setCell ⟨g, 2, none⟩ c).setCell ⟨g + 1, 0, none⟩ x) V v := by
  obtain ⟨ng, s, m, e, h2, h3, t, d, hO, hN, hV, hB⟩ := hv
  refine ⟨ng, s, m, e, h2, h3, t, d, ?_, hN, hV, ?_⟩
  · exact ((((hO.set_below (a := ⟨g, 0, none⟩) (by show g < _; omega) a).set_below (a := ⟨g, 1, none⟩) (by show g < _; omega) b).set_below (a := ⟨g, 2, none⟩) (by show g < _; omega) c).set_below (a := ⟨g + 1, 0, none⟩) h1 x).lower hb.size
  · exact ((((hb.trans (hB.mono hb.size)).setCell (p := ⟨g, 0, none⟩) h0 a).setCell (p := ⟨g, 1, none⟩) h0 b).setCell (p := ⟨g, 2, none⟩) h0 c).setCell (p := ⟨g + 1, 0, none⟩) (Nat.le_succ_of_le h0) x
set_option maxRecDepth 100000 in
set_option maxHeartbeats 1000000 in
theorem told_yes (F : Nat) (cap : Array Value) (w : World) (V : Int) (hE : ∀ w, (callFunc F cap).run Tryd.prog w = .ok (.enter F cap) w) (hF : ∀ W, Below w.heap.size w W → Calls Tryd.prog F cap W fun r W' => ∃ v, r = .returned v ∧ DAns W W' V v) :
    Calls Tryd.prog 94 #[.func (.func F) #[] cap] w fun r w' => ∃ v, r = .returned (.tuple #[v, .int .i64 0]) ∧ DAns w w' V v := by
  have hmf : ∀ (fn : Fn) (first cap : Array Value) (w : World), (Instr.makeFunc fn first cap).run Tryd.prog w = .ok (.func fn first cap) w := fun _ _ _ _ => rfl
  go_enter_defers Tryd.func94, Tryd.ntmps94
  go_wp2_with fail
  refine (hF _ (bel_alloc2 _ _ _)).mono ?_
  rintro r W' ⟨v, rfl, hD⟩
  have hb := hD.below
  obtain ⟨ng, s, m, e, rfl, hy, hA⟩ := id hD
  obtain ⟨so, sn, sc, rfl⟩ := hA.num.shape
  have q1 := (hb.block (w.heap.size + 1) (by rw [size2]; omega)).trans (heap_b2 _ _ _)
  have q0 := (hb.block w.heap.size (by rw [size2]; omega)).trans (heap_a2 _ _ _)
  have f0 := blkF q1 0
  have k0 := blkC q1 0 rfl
  have c0 := blkC q0 0 rfl
  have c1 := blkC q0 1 rfl
  have c2 := blkC q0 2 rfl
  have z0 := blkF q0 0
  have z1 := blkF q0 1
  have z2 := blkF q0 2
  go_wp2_with fail
  refine leaves_cons (f := 97) (args := #[.pointer (some ⟨w.heap.size + 1, 0, none⟩)]) (by simp) (by simp [go_sem]) ?_
  refine (catch_idle ⟨w.heap.size + 1, 0, none⟩ _).mono ?_
  rintro e u' w'' ⟨rfl, rfl, rfl⟩
  simp [Leaves, settle, results, Tryd.results94, go_sem, c0, c1, c2, k0]
  exact dans_res (g := w.heap.size) hD (bel_alloc2 _ _ _) (Nat.le_refl _) (by rw [size2]; omega) _ _ _ _
end Go.Proofs.YtmpioejllfedoaaDoor

/-
  Package point: finite, checked, Check, CheckSpace, placeOf, order, Cmp, Same, Tame, by their contracts.
-/
namespace Go.Proofs.YtmpioejllfedoaaDoor
open Go Go.RowKit Go.Proofs.YtmpioejllfedoaaDoor.M
set_option linter.unusedSimpArgs false
set_option linter.unusedVariables false

theorem mathAbs {b : Int} (hb : rng b) (w : World) :
    Calls Tryd.prog 50 #[.float .f64 (wd b)] w fun e w' => e = .returned (.float .f64 (wd (rg b))) ∧ w' = w := by
  have h1 := run_bits64
  have h2 := run_from64
  go_enter Tryd.func50, Tryd.ntmps50
  go_wp2
  go_ret
  exact ⟨ret_float (q_abs hb), rfl⟩
theorem q_two_set {p B g o : Nat} {v x0 x1 : Value} {W : World} (hg : B ≤ g) (h : p < B ∧ B ≤ W.heap.size ∧ W.cell? ⟨p, 0, none⟩ = some x0 ∧ W.cell? ⟨p, 1, none⟩ = some x1) :
    p < B ∧ B ≤ (W.setCell ⟨g, o, none⟩ v).heap.size ∧ (W.setCell ⟨g, o, none⟩ v).cell? ⟨p, 0, none⟩ = some x0 ∧ (W.setCell ⟨g, o, none⟩ v).cell? ⟨p, 1, none⟩ = some x1 := by
  have hw : Wr g W (W.setCell ⟨g, o, none⟩ v) := (Wr.refl g W).setCell o v
  obtain ⟨h1, h2, a0, a1⟩ := h
  have hp : p < W.heap.size := by omega
  have hne : p ≠ g := by omega
  exact ⟨h1, Nat.le_trans h2 hw.size, (hw.cell hp hne).trans a0, (hw.cell hp hne).trans a1⟩
theorem q_heap_set {w : World} {g : Nat} {xs : Array Value} {t : TypeId} (h : w.heap[g]? = some (.cells xs t (0, 0))) (i : Nat) (v : Value) : (w.setCell ⟨g, i, none⟩ v).heap[g]? = some (.cells (xs.setIfInBounds i v) t (0, 0)) := by
  simp [World.setCell, Array.getElem?_modify, h]
end Go.Proofs.YtmpioejllfedoaaDoor

/-
  The document's own answers for chapter 9 (package plumbref9), by contracts: Coordinate, Finite, Zero, Normal, Rank, Cmp, Tame.
-/
namespace Go.Proofs.YtmpioejllfedoaaDoor
open Go Go.RowKit Go.Proofs.YtmpioejllfedoaaDoor.M
set_option linter.unusedSimpArgs false
set_option linter.unusedVariables false

/-- 0 for -0 -/
def q0 (b : Int) : Int := if b = -9223372036854775808 then 0 else b
end Go.Proofs.YtmpioejllfedoaaDoor

/-
  Package point: Cmp, Same, by their contracts; plumblaw9's num and alive.
-/
namespace Go.Proofs.YtmpioejllfedoaaDoor
open Go Go.RowKit Go.Proofs.YtmpioejllfedoaaDoor.M
set_option linter.unusedSimpArgs false
set_option linter.unusedVariables false

theorem q_cell {w w' : World} {p : Addr} {v : Value} (h : w.cell? p = some v) (hb : Below w.heap.size w w') : w'.cell? p = some v :=
  (hb.cell (World.block_lt_of_cell? w _ h)).trans h
theorem Q4.keeps {a b : Nat} {x0 x1 x2 x3 : Value} {W W' : World} (h : W.cell? ⟨a, 0, none⟩ = some x0 ∧ W.cell? ⟨a, 1, none⟩ = some x1 ∧ W.cell? ⟨b, 0, none⟩ = some x2 ∧ W.cell? ⟨b, 1, none⟩ = some x3) (hb : Below W.heap.size W W') :
    W'.cell? ⟨a, 0, none⟩ = some x0 ∧ W'.cell? ⟨a, 1, none⟩ = some x1 ∧ W'.cell? ⟨b, 0, none⟩ = some x2 ∧ W'.cell? ⟨b, 1, none⟩ = some x3 :=
  ⟨q_cell h.1 hb, q_cell h.2.1 hb, q_cell h.2.2.1 hb, q_cell h.2.2.2 hb⟩
end Go.Proofs.YtmpioejllfedoaaDoor

/-
  Package span: read, valid, told, joined, by their contracts.
-/
namespace Go.Proofs.YtmpioejllfedoaaDoor
open Go Go.RowKit Go.Proofs.YtmpioejllfedoaaDoor.M
set_option linter.unusedSimpArgs false
set_option linter.unusedVariables false

/-- an interval by its ends' patterns -/
def ivl (lo hi : Int) : Value := .agg #[.float .f64 (wd lo), .float .f64 (wd hi)]
def spn (lo hi : Int) : Value := .agg #[.int .i64 lo, .int .i64 hi]
set_option maxRecDepth 100000 in
theorem spanReadX (x y : Int) (w : World) :
    Calls Tryd.prog 20 #[spn x y] w fun e w' => e = .returned (ivl x y) ∧ w' = ((w.alloc (.cells #[.int .i64 x, .int .i64 y] 23)).alloc (.cells #[.float .f64 (wd x), .float .f64 (wd y)] 50)).drew := by
  unfold spn ivl
  have hx : Hid ((((w.alloc (.cells #[.int .i64 x, .int .i64 y] 23)).alloc (.cells #[.float .f64 0, .float .f64 0] 50)).setCell ⟨w.heap.size + 1, 0, none⟩ (.float .f64 (wd x))).setCell ⟨w.heap.size + 1, 1, none⟩ (.float .f64 (wd y)) = (w.alloc (.cells #[.int .i64 x, .int .i64 y] 23)).alloc (.cells #[.float .f64 (wd x), .float .f64 (wd y)] 50)) := by
    unfold Hid
    rw [World.setCell_alloc_at _ _ _ _ _ (by simp), World.setCell_alloc_at _ _ _ _ _ (by simp)]
    rfl
  have hb2 := bel_alloc2 w (.cells #[.int .i64 x, .int .i64 y] 23) (.cells #[.float .f64 0, .float .f64 0] 50)
  have q0 := heap_a2 w (.cells #[.int .i64 x, .int .i64 y] 23) (.cells #[.float .f64 0, .float .f64 0] 50)
  have q1 := heap_b2 w (.cells #[.int .i64 x, .int .i64 y] 23) (.cells #[.float .f64 0, .float .f64 0] 50)
  have hs := size2 w (.cells #[.int .i64 x, .int .i64 y] 23) (.cells #[.float .f64 0, .float .f64 0] 50)
  have k0 := blkC q0 0 rfl
  have k1 := blkC q0 1 rfl
  go_enter Tryd.func20, Tryd.ntmps20
  go_wp2_with fail
  generalize hwx : (w.alloc (.cells #[.int .i64 x, .int .i64 y] 23)).alloc (.cells #[.float .f64 0, .float .f64 0] 50) = wx at hb2 q0 q1 hs k0 k1 hx ⊢
  clear hwx
  have hc : w.heap.size < w.heap.size + 1 ∧ w.heap.size + 1 ≤ wx.drew.heap.size ∧ wx.drew.cell? ⟨w.heap.size, 0, none⟩ = some (.int .i64 x) ∧ wx.drew.cell? ⟨w.heap.size, 1, none⟩ = some (.int .i64 y) := ⟨by omega, by show _ ≤ wx.heap.size; omega, k0, k1⟩
  have d1 : wx.drew.heap[w.heap.size + 1]? = some (.cells #[.float .f64 0, .float .f64 0] 50 (0, 0)) := q1
  have d2 : ((wx.setCell ⟨w.heap.size + 1, 0, none⟩ (.float .f64 (wd x))).drew).heap[w.heap.size + 1]? = some (.cells #[.float .f64 (wd x), .float .f64 0] 50 (0, 0)) := q_heap_set d1 0 (.float .f64 (wd x))
  have d3 : (((wx.setCell ⟨w.heap.size + 1, 0, none⟩ (.float .f64 (wd x))).setCell ⟨w.heap.size + 1, 1, none⟩ (.float .f64 (wd y))).drew).heap[w.heap.size + 1]? = some (.cells #[.float .f64 (wd x), .float .f64 (wd y)] 50 (0, 0)) := q_heap_set d2 1 (.float .f64 (wd y))
  have f0 := blkC d1 0 rfl
  have z0 := blkF d1 0
  have f1 := blkC d2 1 rfl
  have z1 := blkF d2 1
  have s0 : (store ⟨w.heap.size + 1, 0, none⟩ (.float .f64 (wd x))).run Tryd.prog wx.drew = .ok () ((wx.setCell ⟨w.heap.size + 1, 0, none⟩ (.float .f64 (wd x))).drew) := by rw [run_store _ _ _ _ _ rfl, f0]; simp only [z0]; rfl
  have s1 : (store ⟨w.heap.size + 1, 1, none⟩ (.float .f64 (wd y))).run Tryd.prog ((wx.setCell ⟨w.heap.size + 1, 0, none⟩ (.float .f64 (wd x))).drew) = .ok () (((wx.setCell ⟨w.heap.size + 1, 0, none⟩ (.float .f64 (wd x))).setCell ⟨w.heap.size + 1, 1, none⟩ (.float .f64 (wd y))).drew) := by rw [run_store _ _ _ _ _ rfl, f1]; simp only [z1]; rfl
  go_region_held3 (fun W => w.heap.size < w.heap.size + 1 ∧ w.heap.size + 1 ≤ W.heap.size ∧ W.cell? ⟨w.heap.size, 0, none⟩ = some (.int .i64 x) ∧ W.cell? ⟨w.heap.size, 1, none⟩ = some (.int .i64 y))
    (first | assumption | (repeat (first | exact hc | refine q_two_set (by omega) ?_)))
    ((go_at_call 36; refine (bitsFloat _ _).mono ?_; rintro _ _ ⟨rfl, rfl⟩))
  have e0 := blkC d3 0 rfl
  have e1 := blkC d3 1 rfl
  clear s0 s1 f0 f1 z0 z1 d1 d2 d3
  generalize (wx.setCell ⟨w.heap.size + 1, 0, none⟩ (.float .f64 (wd x))).setCell ⟨w.heap.size + 1, 1, none⟩ (.float .f64 (wd y)) = wy at *
  go_wp2
  refine bodyPost_ret (v := .agg #[.float .f64 (wd x), .float .f64 (wd y)]) (by simp [results, Tryd.results20, go_sem, e0, e1]) rfl ⟨rfl, by rw [hx.out]⟩
theorem spanRead (x y : Int) (w : World) :
    Calls Tryd.prog 20 #[spn x y] w fun e w' => e = .returned (ivl x y) ∧ Below w.heap.size w w' :=
  (spanReadX x y w).mono fun _ _ ⟨h1, h2⟩ => ⟨h1, by rw [h2]; exact (bel_alloc2 w _ _).drew⟩
theorem isInf_up {p : Int} (h : nn p) (w : World) :
    Calls Tryd.prog 37 #[.float .f64 (wd p), .int .i64 1] w fun e w' => e = .returned (.bool (decide (9218868437227405312 ≤ key p))) ∧ w' = w := by
  have r : rng 9218868437227405311 := by unfold rng; omega
  have c : ¬ cls 9218868437227405311 = 4 := by decide
  have k : key 9218868437227405311 = 9218868437227405311 := by decide
  have e : wd 9218868437227405311 = 9218868437227405311 := by decide
  rcases Int.lt_trichotomy (key p) 9218868437227405311 with g | g | g
  · have o := q_lt h.1 r h.2 c (by rw [k]; exact g)
    rw [e] at o
    rw [decide_eq_false (by omega)]
    go_enter Tryd.func37, Tryd.ntmps37
    go_wp2
    go_ret
    exact ⟨rfl, rfl⟩
  · have o := q_eq h.1 r h.2 c (by rw [k]; exact g)
    rw [e] at o
    rw [decide_eq_false (by omega)]
    go_enter Tryd.func37, Tryd.ntmps37
    go_wp2
    go_ret
    exact ⟨rfl, rfl⟩
  · have o := q_gt h.1 r h.2 c (by rw [k]; exact g)
    rw [e] at o
    rw [decide_eq_true (by omega)]
    go_enter Tryd.func37, Tryd.ntmps37
    go_wp2
    go_ret
    exact ⟨rfl, rfl⟩
theorem neg_wd {p : Int} (h : nn p) : Op.negFloat .f64 (wd p) = wd (neg p) := by
  have hr := h.1
  unfold Op.negFloat
  show wd p ^^^ 2 ^ 63 = _
  unfold neg
  rw [if_neg h.2]
  unfold rng at hr
  by_cases h0 : p < 0
  · rw [if_pos h0]
    have e : wd p = 2 ^ 63 + wd (p + 9223372036854775808) := by unfold wd; omega
    rw [e, xor_top' 63 _ (by unfold wd; omega)]
  · rw [if_neg h0, Nat.xor_comm, xor_top 63 _ (by unfold wd; omega)]
    unfold wd; omega
theorem run_negF {P : Program} {p : Int} (h : nn p) (w : World) : (Op.unary UnOp.neg (.float .f64 (wd p))).run P w = .ok (.float .f64 (wd (neg p))) w := by
  show (pure (Value.float .f64 (Op.negFloat .f64 (wd p))) : Sem Value).run P w = _
  rw [neg_wd h]
  rfl
theorem nn_neg {p : Int} (h : nn p) : nn (neg p) ∧ key (neg p) = - key p := by
  obtain ⟨a, b⟩ := key_neg h.1 h.2
  exact ⟨⟨rng_neg h.1, b⟩, a⟩
theorem isInf_down {p : Int} (h : nn p) (w : World) :
    Calls Tryd.prog 37 #[.float .f64 (wd p), .int .i64 (-1)] w fun e w' => e = .returned (.bool (decide (key p ≤ -9218868437227405312))) ∧ w' = w := by
  have r : rng 9218868437227405311 := by unfold rng; omega
  have c : ¬ cls 9218868437227405311 = 4 := by decide
  have k : key 9218868437227405311 = 9218868437227405311 := by decide
  have e : wd 9218868437227405311 = 9218868437227405311 := by decide
  have hN := fun W => run_negF (P := Tryd.prog) h W
  obtain ⟨g0, g1⟩ := nn_neg h
  rcases Int.lt_trichotomy (key (neg p)) 9218868437227405311 with g | g | g
  · have o := q_lt g0.1 r g0.2 c (by rw [k]; exact g)
    rw [e] at o
    rw [decide_eq_false (by omega)]
    clear g1 g
    go_enter Tryd.func37, Tryd.ntmps37
    go_wp2
    go_ret
    exact ⟨rfl, rfl⟩
  · have o := q_eq g0.1 r g0.2 c (by rw [k]; exact g)
    rw [e] at o
    rw [decide_eq_false (by omega)]
    clear g1 g
    go_enter Tryd.func37, Tryd.ntmps37
    go_wp2
    go_ret
    exact ⟨rfl, rfl⟩
  · have o := q_gt g0.1 r g0.2 c (by rw [k]; exact g)
    rw [e] at o
    rw [decide_eq_true (by omega)]
    clear g1 g
    go_enter Tryd.func37, Tryd.ntmps37
    go_wp2
    go_ret
    exact ⟨rfl, rfl⟩
set_option maxRecDepth 100000 in
theorem ivlValid {lo hi : Int} (hl : rng lo) (hh : rng hi) (w : World) :
    Calls Tryd.prog 21 #[ivl lo hi] w fun e w' => e = .returned (.bool (vld lo hi)) ∧ Below w.heap.size w w' := by
  unfold ivl
  by_cases h4 : cls lo = 4 ∨ cls hi = 4
  · have o := order64_nan hl hh h4
    rw [show vld lo hi = false from decide_eq_false (fun h => by rcases h4 with g | g; exact h.1 g; exact h.2.1 g)]
    go_enter Tryd.func21, Tryd.ntmps21
    go_wp2
    go_ret
    exact ⟨rfl, bel_alloc _ _⟩
  have h1 : ¬ cls lo = 4 := fun h => h4 (.inl h)
  have h2 : ¬ cls hi = 4 := fun h => h4 (.inr h)
  have CU : Hid (∀ W, Calls Tryd.prog 37 #[.float .f64 (wd lo), .int .i64 1] W fun e w' => e = .returned (.bool (decide (9218868437227405312 ≤ key lo))) ∧ w' = W) := fun W => isInf_up ⟨hl, h1⟩ W
  have CD : Hid (∀ W, Calls Tryd.prog 37 #[.float .f64 (wd hi), .int .i64 (-1)] W fun e w' => e = .returned (.bool (decide (key hi ≤ -9218868437227405312))) ∧ w' = W) := fun W => isInf_down ⟨hh, h2⟩ W
  have q0 : (w.alloc (.cells #[.float .f64 (wd lo), .float .f64 (wd hi)] 50)).heap[w.heap.size]? = some (.cells #[.float .f64 (wd lo), .float .f64 (wd hi)] 50 (0, 0)) := by show (w.heap.push _)[w.heap.size]? = _; simp
  have k0 := blkC q0 0 rfl
  have k1 := blkC q0 1 rfl
  have hb := bel_alloc w (.cells #[.float .f64 (wd lo), .float .f64 (wd hi)] 50)
  by_cases g : key hi < key lo
  · have o := q_gt hl hh h1 h2 g
    rw [show vld lo hi = false from decide_eq_false (fun h => by omega)]
    clear CU CD
    go_enter Tryd.func21, Tryd.ntmps21
    go_wp2
    go_ret
    exact ⟨rfl, bel_alloc _ _⟩
  have o : FloatKind.f64.format.order (wd lo) (wd hi) = some .lt ∨ FloatKind.f64.format.order (wd lo) (wd hi) = some .eq := by
    by_cases e : key lo = key hi
    · exact .inr (q_eq hl hh h1 h2 e)
    · exact .inl (q_lt hl hh h1 h2 (by omega))
  by_cases a : 9218868437227405312 ≤ key lo
  · rw [show vld lo hi = false from decide_eq_false (fun h => by omega)]
    rw [decide_eq_true a] at CU
    clear h4 g a CD q0 k0 k1
    rcases o with o | o
    all_goals
      go_enter Tryd.func21, Tryd.ntmps21
      go_wp2_with (go_at_call 37; refine (CU.out _).mono ?_; rintro _ _ ⟨rfl, rfl⟩)
      go_ret
      exact ⟨rfl, hb⟩
  rw [decide_eq_false a] at CU
  by_cases b : key hi ≤ -9218868437227405312
  · rw [show vld lo hi = false from decide_eq_false (fun h => by omega)]
    rw [decide_eq_true b] at CD
    clear h4 g a b q0 k0 k1
    rcases o with o | o
    all_goals
      go_enter Tryd.func21, Tryd.ntmps21
      go_wp2_with fail
      refine (CU.out _).mono ?_
      rintro _ _ ⟨rfl, rfl⟩
      go_wp2_with fail
      refine (CD.out _).mono ?_
      rintro _ _ ⟨rfl, rfl⟩
      go_wp2
      go_ret
      exact ⟨rfl, hb⟩
  · rw [show vld lo hi = true from decide_eq_true ⟨h1, h2, by omega, by omega, by omega⟩]
    rw [decide_eq_false b] at CD
    clear h4 g a b q0 k0 k1
    rcases o with o | o
    all_goals
      go_enter Tryd.func21, Tryd.ntmps21
      go_wp2_with fail
      refine (CU.out _).mono ?_
      rintro _ _ ⟨rfl, rfl⟩
      go_wp2_with fail
      refine (CD.out _).mono ?_
      rintro _ _ ⟨rfl, rfl⟩
      go_wp2
      go_ret
      exact ⟨rfl, hb⟩
end Go.Proofs.YtmpioejllfedoaaDoor

/-
  Package span: the lesser and the greater of two ends; joined, told, by their contracts.
-/
namespace Go.Proofs.YtmpioejllfedoaaDoor
open Go Go.RowKit Go.Proofs.YtmpioejllfedoaaDoor.M
set_option linter.unusedSimpArgs false
set_option linter.unusedVariables false

theorem eq_neg {a b : Int} (ha : nn a) (hb : nn b) (h : key a = key b) : (if (FloatKind.f64.decode (wd a)).neg then wd a else wd b) = wd (if a = b then a else -9223372036854775808) := by
  by_cases e : a = b
  · subst e; rw [if_pos rfl]; split <;> rfl
  · rw [if_neg e]
    rcases key_zeros ha.1 hb.1 h e with ⟨rfl, rfl⟩ | ⟨rfl, rfl⟩
    · rfl
    · rfl
theorem eq_pos {a b : Int} (ha : nn a) (hb : nn b) (h : key a = key b) : (if (FloatKind.f64.decode (wd a)).neg then wd b else wd a) = wd (if a = b then a else 0) := by
  by_cases e : a = b
  · subst e; rw [if_pos rfl]; split <;> rfl
  · rw [if_neg e]
    rcases key_zeros ha.1 hb.1 h e with ⟨rfl, rfl⟩ | ⟨rfl, rfl⟩
    · rfl
    · rfl
theorem run_minF {P : Program} {a b : Int} (ha : nn a) (hb : nn b) (ts : Array TypeId) (t : TypeId) (w : World) : (Builtin.min_ ts t #[.float .f64 (wd a), .float .f64 (wd b)]).run P w = .ok (.float .f64 (wd (minP a b))) w := by
  have hf : (Builtin.min_ ts t #[.float .f64 (wd a), .float .f64 (wd b)]) = (Builtin.min2 (.float .f64 (wd a)) (.float .f64 (wd b))) := by simp [Builtin.min_]
  rw [hf]
  unfold Builtin.min2 minP
  rcases Int.lt_trichotomy (key a) (key b) with h | h | h
  · rw [if_pos h]
    simp only [q_lt ha.1 hb.1 ha.2 hb.2 h]
    rfl
  · rw [if_neg (by omega), if_neg (by omega)]
    simp only [q_eq ha.1 hb.1 ha.2 hb.2 h]
    rw [eq_neg ha hb h]
    rfl
  · rw [if_neg (by omega), if_pos h]
    simp only [q_gt ha.1 hb.1 ha.2 hb.2 h]
    rfl
theorem run_maxF {P : Program} {a b : Int} (ha : nn a) (hb : nn b) (ts : Array TypeId) (t : TypeId) (w : World) : (Builtin.max_ ts t #[.float .f64 (wd a), .float .f64 (wd b)]).run P w = .ok (.float .f64 (wd (maxP a b))) w := by
  have hf : (Builtin.max_ ts t #[.float .f64 (wd a), .float .f64 (wd b)]) = (Builtin.max2 (.float .f64 (wd a)) (.float .f64 (wd b))) := by simp [Builtin.max_]
  rw [hf]
  unfold Builtin.max2 maxP
  rcases Int.lt_trichotomy (key a) (key b) with h | h | h
  · rw [if_pos h]
    simp only [q_lt ha.1 hb.1 ha.2 hb.2 h]
    rfl
  · rw [if_neg (by omega), if_neg (by omega)]
    simp only [q_eq ha.1 hb.1 ha.2 hb.2 h]
    rw [eq_pos ha hb h]
    rfl
  · rw [if_neg (by omega), if_pos h]
    simp only [q_gt ha.1 hb.1 ha.2 hb.2 h]
    rfl
theorem s4_set {a b B g o : Nat} {v x0 x1 x2 x3 : Value} {W : World} (hg : B ≤ g) (h : (a < B ∧ b < B ∧ B ≤ W.heap.size) ∧ W.cell? ⟨a, 0, none⟩ = some x0 ∧ W.cell? ⟨a, 1, none⟩ = some x1 ∧ W.cell? ⟨b, 0, none⟩ = some x2 ∧ W.cell? ⟨b, 1, none⟩ = some x3) :
    (a < B ∧ b < B ∧ B ≤ (W.setCell ⟨g, o, none⟩ v).heap.size) ∧ (W.setCell ⟨g, o, none⟩ v).cell? ⟨a, 0, none⟩ = some x0 ∧ (W.setCell ⟨g, o, none⟩ v).cell? ⟨a, 1, none⟩ = some x1 ∧ (W.setCell ⟨g, o, none⟩ v).cell? ⟨b, 0, none⟩ = some x2 ∧ (W.setCell ⟨g, o, none⟩ v).cell? ⟨b, 1, none⟩ = some x3 := by
  have hw : Wr g W (W.setCell ⟨g, o, none⟩ v) := (Wr.refl g W).setCell o v
  obtain ⟨⟨h1, h2, h3⟩, a0, a1, a2, a3⟩ := h
  exact ⟨⟨h1, h2, Nat.le_trans h3 hw.size⟩, (hw.cell (show a < W.heap.size by omega) (show a ≠ g by omega)).trans a0, (hw.cell (show a < W.heap.size by omega) (show a ≠ g by omega)).trans a1, (hw.cell (show b < W.heap.size by omega) (show b ≠ g by omega)).trans a2, (hw.cell (show b < W.heap.size by omega) (show b ≠ g by omega)).trans a3⟩
theorem heap3 (w : World) (a b c : Obj) : (((w.alloc a).alloc b).alloc c).heap[w.heap.size]? = some a ∧ (((w.alloc a).alloc b).alloc c).heap[w.heap.size + 1]? = some b ∧ (((w.alloc a).alloc b).alloc c).heap[w.heap.size + 2]? = some c ∧ (((w.alloc a).alloc b).alloc c).heap.size = w.heap.size + 3 ∧ Below w.heap.size w (((w.alloc a).alloc b).alloc c) := by
  have h : (((w.alloc a).alloc b).alloc c).heap = ((w.heap.push a).push b).push c := rfl
  rw [h]
  refine ⟨?_, ?_, ?_, by simp, bel_trans (bel_alloc2 w a b) (bel_alloc _ _)⟩
  · simp [Array.getElem?_push]
    omega
  · rw [Array.getElem?_push, if_neg (by simp), Array.getElem?_push, if_pos (by simp)]
  · rw [Array.getElem?_push, if_pos (by simp)]
set_option maxRecDepth 100000 in
theorem ivlJoined {a b c d : Int} (ha : nn a) (hb : nn b) (hc : nn c) (hd : nn d) (w : World) :
    Calls Tryd.prog 35 #[ivl a b, ivl c d] w fun e w' => e = .returned (ivl (minP a c) (maxP b d)) ∧ Below w.heap.size w w' := by
  unfold ivl
  have RM := fun ts t W => run_minF (P := Tryd.prog) ha hc ts t W
  have RX := fun ts t W => run_maxF (P := Tryd.prog) hb hd ts t W
  generalize wd (minP a c) = X at *
  generalize wd (maxP b d) = Y at *
  generalize wd a = A at *
  generalize wd b = B at *
  generalize wd c = C at *
  generalize wd d = D at *
  obtain ⟨q0, q1, q2, hs, hb3⟩ := heap3 w (.cells #[.float .f64 A, .float .f64 B] 50) (.cells #[.float .f64 C, .float .f64 D] 50) (.cells #[.float .f64 0, .float .f64 0] 50)
  have k0 := blkC q0 0 rfl
  have k1 := blkC q0 1 rfl
  have k2 := blkC q1 0 rfl
  have k3 := blkC q1 1 rfl
  replace q2 : (((w.alloc (.cells #[.float .f64 A, .float .f64 B] 50)).alloc (.cells #[.float .f64 C, .float .f64 D] 50)).alloc (.cells #[.float .f64 0, .float .f64 0] 50)).heap[w.heap.size + 1 + 1]? = some (.cells #[.float .f64 0, .float .f64 0] 50 (0, 0)) := q2
  go_enter Tryd.func35, Tryd.ntmps35
  go_wp2_with fail
  clear q0 q1 k0 k1 k2 k3 hs RM RX
  generalize ((w.alloc (.cells #[.float .f64 A, .float .f64 B] 50)).alloc (.cells #[.float .f64 C, .float .f64 D] 50)).alloc (.cells #[.float .f64 0, .float .f64 0] 50) = wx at *
  obtain ⟨g, hg⟩ : ∃ g, w.heap.size + 1 + 1 = g := ⟨_, rfl⟩
  have hwg : w.heap.size ≤ g := by omega
  rw [hg] at q2
  simp only [hg]
  clear hg
  have d2 := q_heap_set q2 0 (.float .f64 X)
  have d3 := q_heap_set d2 1 (.float .f64 Y)
  have f0 := blkC q2 0 rfl
  have z0 := blkF q2 0
  have f1 := blkC d2 1 rfl
  have z1 := blkF d2 1
  have hbe := (hb3.setCell (p := ⟨g, 0, none⟩) hwg (.float .f64 X)).setCell (p := ⟨g, 1, none⟩) hwg (.float .f64 Y)
  have s0 : (store ⟨g, 0, none⟩ (.float .f64 X)).run Tryd.prog wx = .ok () (wx.setCell ⟨g, 0, none⟩ (.float .f64 X)) := by rw [run_store _ _ _ _ _ rfl, f0]; simp only [z0]; rfl
  have s1 : (store ⟨g, 1, none⟩ (.float .f64 Y)).run Tryd.prog (wx.setCell ⟨g, 0, none⟩ (.float .f64 X)) = .ok () ((wx.setCell ⟨g, 0, none⟩ (.float .f64 X)).setCell ⟨g, 1, none⟩ (.float .f64 Y)) := by rw [run_store _ _ _ _ _ rfl, f1]; simp only [z1]; rfl
  have e0 := blkC d3 0 rfl
  have e1 := blkC d3 1 rfl
  clear f0 z0 f1 z1 d2 d3 q2
  simp only [s0, s1, Result.andThen]
  go_wp2
  refine bodyPost_ret (v := .agg #[.float .f64 X, .float .f64 Y]) (by simp [results, Tryd.results35, go_sem, e0, e1]) rfl ⟨rfl, hbe⟩
end Go.Proofs.YtmpioejllfedoaaDoor

/-
  Package point: Normal, by its contract; the document's Normal.
-/
namespace Go.Proofs.YtmpioejllfedoaaDoor
open Go Go.RowKit Go.Proofs.YtmpioejllfedoaaDoor.M
set_option linter.unusedSimpArgs false
set_option linter.unusedVariables false

theorem q_two_keep {p B : Nat} {x0 x1 : Value} {W W' : World} (h : p < B ∧ B ≤ W.heap.size ∧ W.cell? ⟨p, 0, none⟩ = some x0 ∧ W.cell? ⟨p, 1, none⟩ = some x1) (hb : Below W.heap.size W W') :
    p < B ∧ B ≤ W'.heap.size ∧ W'.cell? ⟨p, 0, none⟩ = some x0 ∧ W'.cell? ⟨p, 1, none⟩ = some x1 :=
  ⟨h.1, Nat.le_trans h.2.1 hb.size, q_cell h.2.2.1 hb, q_cell h.2.2.2 hb⟩
theorem Lays.below' {w w' : World} (h : Lays w) (hb : Below w.heap.size w w') : Lays w' :=
  ⟨q_cell h.a0 hb, q_cell h.a1 hb, q_cell h.a2 hb, trivial, trivial, trivial⟩
end Go.Proofs.YtmpioejllfedoaaDoor

/-
  Plain mathematics of rounding: the units that are cut out of a number, what is left, the rung of a float. No Go text in sight.
-/
namespace Go.Proofs.YtmpioejllfedoaaDoor.M
open Go Ieee
set_option linter.unusedSimpArgs false
set_option linter.unusedVariables false

/-- How many units of 2^sh a magnitude holds. -/
def rU (mag : Nat) (sh : Int) : Nat := if sh ≤ 0 then mag * 2 ^ (-sh).toNat else mag / 2 ^ sh.toNat
/-- What is left, held against half a unit: nothing, less, half, more. -/
def rL (mag : Nat) (cut : Bool) (sh : Int) : Int :=
  if sh ≤ 0 then 0 else if mag % 2 ^ sh.toNat = 0 ∧ cut = false then 0 else if 2 * (mag % 2 ^ sh.toNat) < 2 ^ sh.toNat then 1 else if 2 * (mag % 2 ^ sh.toNat) = 2 ^ sh.toNat ∧ cut = false then 2 else 3
/-- The exponent of the units. -/
def rE (size low : Int) (mag : Nat) (exp : Int) : Int := max (exp + (Lib.bitLen mag : Int) - size) low
/-- Does a way raise the units? -/
def rUp (way : Int) (neg odd : Bool) (left : Int) : Bool :=
  if way = 0 then decide (left = 3) || (decide (left = 2) && odd) else if way = 1 then decide (left ≠ 0) && neg else if way = 2 then decide (left ≠ 0) && !neg else false
/-- What is known of a number: mag 2^exp, or more by less than 2^exp. -/
def Held (A : Int) (mag : Nat) (exp : Int) (cut : Bool) : Prop := (mag : Int) * pw exp ≤ A ∧ A < ((mag : Int) + 1) * pw exp ∧ (cut = false ↔ A = (mag : Int) * pw exp)
/-- A number among the units 2^e: u of them, and what is left. -/
structure Left (A : Int) (u : Nat) (q : Int) (left : Int) : Prop where
  lo : (u : Int) * q ≤ A
  hi : A < (u : Int) * q + q
  l0 : left = 0 ↔ A = (u : Int) * q
  l1 : left = 1 ↔ (u : Int) * q < A ∧ 2 * A < 2 * ((u : Int) * q) + q
  l2 : left = 2 ↔ 2 * A = 2 * ((u : Int) * q) + q
  l3 : left = 3 ↔ 2 * ((u : Int) * q) + q < 2 * A
theorem Left.mk' {A U q left : Int} {u : Nat} (hU : (u : Int) * q = U) (lo : U ≤ A) (hi : A < U + q) (l0 : left = 0 ↔ A = U) (l1 : left = 1 ↔ U < A ∧ 2 * A < 2 * U + q) (l2 : left = 2 ↔ 2 * A = 2 * U + q) (l3 : left = 3 ↔ 2 * U + q < 2 * A) : Left A u q left := by
  subst hU
  exact ⟨lo, hi, l0, l1, l2, l3⟩
theorem two_half (n : Nat) (h : 0 < n) : ∃ k, 2 ^ n = 2 * k ∧ 0 < k := ⟨2 ^ (n - 1), by rw [← Nat.pow_succ', Nat.succ_eq_add_one, Nat.sub_add_cancel h], Nat.two_pow_pos _⟩
theorem left_of {A : Int} {mag : Nat} {exp e : Int} {cut : Bool} (h : Held A mag exp cut) (hc : cut = true → 0 < e - exp) (h0 : -4194304 ≤ e) (h1 : -4194304 ≤ exp) : Left A (rU mag (e - exp)) (pw e) (rL mag cut (e - exp)) := by
  obtain ⟨a1, a2, a3⟩ := h
  have hq := pw_pos exp
  have hqe := pw_pos e
  by_cases hs : e - exp ≤ 0
  · have hcf : cut = false := by cases cut; rfl; have := hc rfl; omega
    have hA := a3.1 hcf
    unfold rU rL
    rw [if_pos hs, if_pos hs]
    have e1 : ((mag * 2 ^ (-(e - exp)).toNat : Nat) : Int) * pw e = A := by
      rw [hA, pw_sub (e := exp) (low := e) h0 (by omega), show (exp - e).toNat = (-(e - exp)).toNat by omega]
      push_cast
      rw [Int.mul_assoc]
    exact ⟨by rw [e1]; omega, by rw [e1]; omega, by rw [e1]; simp, by rw [e1]; constructor <;> intro h <;> omega, by rw [e1]; constructor <;> intro h <;> omega, by rw [e1]; constructor <;> intro h <;> omega⟩
  · have hp : pw e = 2 ^ (e - exp).toNat * pw exp := pw_sub h1 (by omega)
    obtain ⟨s, hsn⟩ : ∃ s, (e - exp).toNat = s := ⟨_, rfl⟩
    have hs0 : 0 < s := by omega
    unfold rU rL
    rw [if_neg hs, if_neg hs, hsn]
    rw [hsn] at hp
    obtain ⟨k, hk, hk0⟩ := two_half s hs0
    have hpn : (2 : Int) ^ s = ((2 ^ s : Nat) : Int) := by simp
    rw [hpn, hk] at hp
    rw [hk]
    have hdm := Nat.div_add_mod mag (2 * k)
    have hml := Nat.mod_lt mag (show 0 < 2 * k by omega)
    generalize mag / (2 * k) = u at *
    generalize mag % (2 * k) = t at *
    generalize hQ : pw exp = q at *
    have e1 : (mag : Int) * q = (u : Int) * (((2 * k : Nat) : Int) * q) + (t : Int) * q := by
      rw [← hdm]; push_cast; rw [Int.add_mul]; congr 1; rw [Int.mul_comm (2 * (k : Int)) u, Int.mul_assoc]
    have e2 : ((mag : Int) + 1) * q = (mag : Int) * q + q := by rw [Int.add_mul, Int.one_mul]
    rw [e2, e1] at a2
    rw [e1] at a1 a3
    rw [hp]
    have e3 : ((2 * k : Nat) : Int) * q = 2 * ((k : Int) * q) := by push_cast; rw [Int.mul_assoc]
    have t1 : ∀ x y : Nat, x ≤ y → (x : Int) * q ≤ (y : Int) * q := fun x y h => Int.mul_le_mul_of_nonneg_right (by omega) (by omega)
    have t2 : ∀ x y : Nat, x < y → (x : Int) * q + q ≤ (y : Int) * q := fun x y h => by
      have := t1 (x + 1) y h
      push_cast at this
      rwa [Int.add_mul, Int.one_mul] at this
    have t0 : 0 ≤ (t : Int) * q := Int.mul_nonneg (by omega) (by omega)
    have b1 : (t : Int) * q + q ≤ 2 * ((k : Int) * q) := by rw [← e3]; exact t2 t (2 * k) hml
    rw [e3] at a1 a2 a3 ⊢
    have c1 : t < k → (t : Int) * q + q ≤ (k : Int) * q := t2 t k
    have c2 : t = k → (t : Int) * q = (k : Int) * q := fun h => by rw [h]
    have c3 : k < t → (k : Int) * q + q ≤ (t : Int) * q := t2 k t
    have c4 : t = 0 → (t : Int) * q = 0 := fun h => by rw [h]; simp
    have c5 : 0 < t → q ≤ (t : Int) * q := fun h => by have := t1 1 t h; rwa [Int.natCast_one, Int.one_mul] at this
    clear e1 e2 e3 t1 t2 hp
    obtain ⟨T, hT⟩ : ∃ T, (t : Int) * q = T := ⟨_, rfl⟩
    obtain ⟨K, hK⟩ : ∃ K, (k : Int) * q = K := ⟨_, rfl⟩
    obtain ⟨U, hU⟩ : ∃ U, (u : Int) * (2 * K) = U := ⟨_, rfl⟩
    rw [hT] at c1 c2 c3 c4 c5 t0 b1 a1 a2 a3
    rw [hK] at c1 c2 c3 b1 a1 a2 a3 ⊢
    rw [hU] at a1 a2 a3
    have a3' : cut = true → A ≠ U + T := fun h h2 => by rw [a3.2 h2] at h; cases h
    cases cut
    · have hA := a3.1 rfl
      subst hA
      by_cases z0 : t = 0
      · have := c4 z0
        rw [if_pos ⟨z0, rfl⟩]
        exact Left.mk' hU (by omega) (by omega) (by constructor <;> intro h <;> omega) (by constructor <;> intro h <;> omega) (by constructor <;> intro h <;> omega) (by constructor <;> intro h <;> omega)
      · have := c5 (by omega)
        rw [if_neg (fun h => z0 h.1)]
        by_cases z1 : t < k
        · have := c1 z1
          rw [if_pos (by omega)]
          exact Left.mk' hU (by omega) (by omega) (by constructor <;> intro h <;> omega) (by constructor <;> intro h <;> omega) (by constructor <;> intro h <;> omega) (by constructor <;> intro h <;> omega)
        · rw [if_neg (by omega)]
          by_cases z2 : t = k
          · have := c2 z2
            rw [if_pos ⟨by omega, rfl⟩]
            exact Left.mk' hU (by omega) (by omega) (by constructor <;> intro h <;> omega) (by constructor <;> intro h <;> omega) (by constructor <;> intro h <;> omega) (by constructor <;> intro h <;> omega)
          · have := c3 (by omega)
            rw [if_neg (fun h => z2 (by omega))]
            exact Left.mk' hU (by omega) (by omega) (by constructor <;> intro h <;> omega) (by constructor <;> intro h <;> omega) (by constructor <;> intro h <;> omega) (by constructor <;> intro h <;> omega)
    · have hA := a3' rfl
      rw [if_neg (fun h => by cases h.2)]
      by_cases z1 : t < k
      · have := c1 z1
        rw [if_pos (by omega)]
        exact Left.mk' hU (by omega) (by omega) (by constructor <;> intro h <;> omega) (by constructor <;> intro h <;> omega) (by constructor <;> intro h <;> omega) (by constructor <;> intro h <;> omega)
      · rw [if_neg (by omega), if_neg (fun h => by cases h.2)]
        have hkt : K ≤ T := by
          by_cases z2 : t = k
          · have := c2 z2; omega
          · have := c3 (by omega); omega
        exact Left.mk' hU (by omega) (by omega) (by constructor <;> intro h <;> omega) (by constructor <;> intro h <;> omega) (by constructor <;> intro h <;> omega) (by constructor <;> intro h <;> omega)
/-- How many bits the units have. -/
theorem rU_bits {size low : Int} {mag : Nat} {exp : Int} (hs : 0 < size) (h : mag < 2 ^ 64) (h0 : mag ≠ 0) : rU mag (rE size low mag exp - exp) < 2 ^ size.toNat ∧ (low < rE size low mag exp → 2 ^ (size.toNat - 1) ≤ rU mag (rE size low mag exp - exp)) := by
  obtain ⟨b1, b2, b3, b4⟩ := bitLen_spec mag h h0
  obtain ⟨n, hn⟩ : ∃ n, Lib.bitLen mag = n := ⟨_, rfl⟩
  obtain ⟨z, rfl⟩ : ∃ z : Nat, size = z := ⟨size.toNat, by omega⟩
  unfold rE rU
  rw [hn] at b1 b2 b3 b4 ⊢
  rw [Int.toNat_natCast]
  obtain ⟨e, he⟩ : ∃ e, max (exp + (n : Int) - (z : Int)) low = e := ⟨_, rfl⟩
  have he1 : exp + n - z ≤ e := by omega
  have he2 : low < e → e = exp + n - z := by omega
  rw [he]
  by_cases hse : e - exp ≤ 0
  · rw [if_pos hse]
    obtain ⟨k, hk⟩ : ∃ k, (-(e - exp)).toNat = k := ⟨_, rfl⟩
    rw [hk]
    refine ⟨?_, fun hl => ?_⟩
    · calc mag * 2 ^ k < 2 ^ n * 2 ^ k := Nat.mul_lt_mul_of_pos_right b2 (Nat.two_pow_pos k)
        _ = 2 ^ (n + k) := by rw [Nat.pow_add]
        _ ≤ 2 ^ z := Nat.pow_le_pow_right (by decide) (by omega)
    · have := he2 hl
      calc 2 ^ (z - 1) ≤ 2 ^ (n - 1 + k) := Nat.pow_le_pow_right (by decide) (by omega)
        _ = 2 ^ (n - 1) * 2 ^ k := by rw [Nat.pow_add]
        _ ≤ mag * 2 ^ k := Nat.mul_le_mul_right _ b1
  · rw [if_neg hse]
    obtain ⟨k, hk⟩ : ∃ k, (e - exp).toNat = k := ⟨_, rfl⟩
    rw [hk]
    refine ⟨?_, fun hl => ?_⟩
    · rw [Nat.div_lt_iff_lt_mul (Nat.two_pow_pos k), ← Nat.pow_add]
      exact Nat.lt_of_lt_of_le b2 (Nat.pow_le_pow_right (by decide) (by omega))
    · have := he2 hl
      rw [Nat.le_div_iff_mul_le (Nat.two_pow_pos k), ← Nat.pow_add]
      exact Nat.le_trans (Nat.pow_le_pow_right (by decide) (by omega)) b1
/-- The rung of u units, and of one more. -/
theorem V_rung (f : Format) (a u : Nat) (h : u < 2 * f.binade) (h2 : 0 < a → f.binade ≤ u) : V f (a * f.binade + u) = u * 2 ^ a ∧ V f (a * f.binade + u + 1) = (u + 1) * 2 ^ a := by
  have hB := binade_pos f
  refine ⟨V_parts f a u (by by_cases ha : a = 0 <;> omega), ?_⟩
  by_cases hu : u + 1 < 2 * f.binade
  · rw [Nat.add_assoc]
    exact V_parts f a (u + 1) (by by_cases ha : a = 0 <;> omega)
  · have e : a * f.binade + u + 1 = (a + 1) * f.binade + f.binade := by rw [Nat.add_mul]; omega
    rw [e, V_parts f (a + 1) f.binade (by omega), Nat.pow_succ, show u + 1 = f.binade * 2 by omega, Nat.mul_assoc, Nat.mul_comm (2 ^ a) 2]
/-- Bits of a whole number, by its odd part. -/
theorem jzl_ge {mag : Int} (h0 : 0 < mag) (h : mag < 9223372036854775808) (k : Nat) (hk : 2 ^ k ≤ mag) : (k : Int) + 1 ≤ (jz mag : Int) + jl mag := by
  obtain ⟨m, ez, z63, eo⟩ := jz_spec h0 h
  have hj := jo_le h0 h
  have sp := bitLen_spec (jo mag).toNat (by omega) (by omega)
  have h1 : (jo mag).toNat * 2 ^ jz mag < 2 ^ Lib.bitLen (jo mag).toNat * 2 ^ jz mag := Nat.mul_lt_mul_of_pos_right sp.2.1 (Nat.two_pow_pos _)
  rw [← Nat.pow_add] at h1
  have h2 : (((jo mag).toNat * 2 ^ jz mag : Nat) : Int) = mag := by
    rw [Int.natCast_mul, Int.toNat_of_nonneg (by omega), eo, Int.mul_comm]
    simp only [Int.natCast_pow]
    exact ez.symm
  have h3 : 2 ^ k ≤ (jo mag).toNat * 2 ^ jz mag := by
    have : ((2 ^ k : Nat) : Int) = 2 ^ k := by simp
    omega
  have h4 : 2 ^ k < 2 ^ (Lib.bitLen (jo mag).toNat + jz mag) := by omega
  have := (Nat.pow_lt_pow_iff_right (by decide : 1 < 2)).1 h4
  unfold jl
  omega
theorem pow2_nn (n : Nat) : (0 : Int) ≤ 2 ^ n := Int.le_of_lt (two_pos n)
/-- Join of units: the rung, if it is below the infinite one. -/
theorem join_rung (f : Format) (fr : Nat) (hfr : fr ≤ 60) (hB : f.binade = 2 ^ fr) (top least : Int) (ht : 2 ≤ top) (u : Nat) (e : Int) (h0 : 0 < u) (hu : u ≤ 2 ^ (fr + 1)) (he : least ≤ e) (hn : least < e → 2 ^ fr ≤ u) :
    let rung := (e - least).toNat * 2 ^ fr + u
    jk fr top least (u : Int) e = decide ((rung : Int) < top * 2 ^ fr) ∧ ((rung : Int) < top * 2 ^ fr → jv fr top least (u : Int) e = rung) := by
  intro rung
  have hp60 : 2 ^ (fr + 1) ≤ 2 ^ 61 := Nat.pow_le_pow_right (by decide) (by omega)
  have hu63 : (u : Int) < 9223372036854775808 := by
    have : (2 : Nat) ^ 61 = 2305843009213693952 := by decide
    omega
  have hu0 : (0 : Int) < (u : Int) := by omega
  have hP : 0 < 2 ^ fr := Nat.two_pow_pos fr
  have hPi : ((2 ^ fr : Nat) : Int) = 2 ^ fr := by simp
  have hlo := jl_le hu0 hu63
  have hJ : jgood fr top least (u : Int) e = decide ((rung : Int) < top * 2 ^ fr) := by
    obtain ⟨a, ha⟩ : ∃ a, (e - least).toNat = a := ⟨_, rfl⟩
    have hr : (rung : Int) = (a : Int) * 2 ^ fr + u := by simp only [rung, ha]; push_cast; rfl
    rw [hr]
    by_cases hlt : u < 2 ^ (fr + 1)
    · by_cases hea : (a : Int) ≤ top - 2
      · have g := jgood_small (fr := (fr : Int)) (top := top) (least := least) (exp := e) hu0 hu63 (by omega) (by rw [Int.toNat_natCast]; exact_mod_cast hlt) he (by omega)
        rw [g]
        have : (a : Int) * 2 ^ fr ≤ (top - 2) * 2 ^ fr := Int.mul_le_mul_of_nonneg_right hea (by omega)
        have e2 : (top - 2) * 2 ^ fr = top * 2 ^ fr - 2 * 2 ^ fr := by rw [Int.sub_mul]
        have hu2 : (u : Int) < 2 * 2 ^ fr := by rw [Nat.pow_succ] at hlt; omega
        exact (decide_eq_true (by omega)).symm
      · have hge := hn (by omega)
        have g2 := jzl_ge hu0 hu63 fr (by rw [← hPi]; omega)
        have g : jgood fr top least (u : Int) e = false := by
          unfold jgood jab jsh jsp
          simp only [Bool.and_eq_false_iff, decide_eq_false_iff_not]
          omega
        rw [g]
        have : (top - 1) * 2 ^ fr ≤ (a : Int) * 2 ^ fr := Int.mul_le_mul_of_nonneg_right (by omega) (by omega)
        have e2 : (top - 1) * 2 ^ fr = top * 2 ^ fr - 2 ^ fr := by rw [Int.sub_mul, Int.one_mul]
        exact (decide_eq_false (by omega)).symm
    · have hue : u = 2 ^ (fr + 1) := by omega
      have hpp : 2 ^ (fr + 1) < 2 ^ (fr + 2) := Nat.pow_lt_pow_right (by decide) (by omega)
      have g1 := jzl hu0 hu63 (fr + 2) (by rw [hue]; exact_mod_cast hpp)
      have g2 := jzl_ge hu0 hu63 (fr + 1) (by rw [hue]; simp)
      have hu2 : (u : Int) = 2 * 2 ^ fr := by rw [hue, Nat.pow_succ]; push_cast; omega
      have hjo : jl (u : Int) ≤ fr + 1 := by
        obtain ⟨mm, ez, z63, eo⟩ := jz_spec hu0 hu63
        by_cases hz : jz (u : Int) = 0
        · exfalso
          rw [hz] at ez
          rw [hu2] at ez
          simp at ez
          omega
        · omega
      by_cases hea : (a : Int) ≤ top - 3
      · have g : jgood fr top least (u : Int) e = true := by
          unfold jgood jab jsh jsp
          simp only [Bool.and_eq_true, decide_eq_true_eq]
          omega
        rw [g]
        have : (a : Int) * 2 ^ fr ≤ (top - 3) * 2 ^ fr := Int.mul_le_mul_of_nonneg_right hea (by omega)
        have e2 : (top - 3) * 2 ^ fr = top * 2 ^ fr - 3 * 2 ^ fr := by rw [Int.sub_mul]
        exact (decide_eq_true (by omega)).symm
      · have g : jgood fr top least (u : Int) e = false := by
          unfold jgood jab jsh jsp
          simp only [Bool.and_eq_false_iff, decide_eq_false_iff_not]
          omega
        rw [g]
        have : (top - 2) * 2 ^ fr ≤ (a : Int) * 2 ^ fr := Int.mul_le_mul_of_nonneg_right (by omega) (by omega)
        have e2 : (top - 2) * 2 ^ fr = top * 2 ^ fr - 2 * 2 ^ fr := by rw [Int.sub_mul]
        exact (decide_eq_false (by omega)).symm
  refine ⟨?_, fun hlt => ?_⟩
  · unfold jk
    rw [if_neg (by omega), if_neg (by omega)]
    exact hJ
  · have hg : jgood fr top least (u : Int) e = true := by rw [hJ]; exact decide_eq_true hlt
    have hv := V_join f fr hB top least (u : Int) e hu0 hu63 hg he
    rw [Int.toNat_natCast] at hv
    have hj0 : 0 ≤ jv fr top least (u : Int) e := by
      unfold jv
      rw [if_neg (by omega), if_pos hg]
      have h1 := jo_le hu0 hu63
      have h2 : 0 ≤ jab fr least (u : Int) e := by unfold jab jsh; unfold jgood at hg; simp only [Bool.and_eq_true, decide_eq_true_eq] at hg; omega
      have h3 : (0 : Int) ≤ 2 ^ (fr : Int).toNat := pow2_nn _
      have h4 : (0 : Int) ≤ 2 ^ (jsh fr least (u : Int) e).toNat := pow2_nn _
      have := Int.mul_nonneg h2 h3
      have := Int.mul_nonneg (show 0 ≤ jo (u : Int) by omega) h4
      omega
    have hV : V f rung = u * 2 ^ (e - least).toNat := by
      show V f ((e - least).toNat * 2 ^ fr + u) = _
      rw [← hB]
      by_cases hlt2 : u < 2 ^ (fr + 1)
      · exact (V_rung f (e - least).toNat u (by rw [hB]; rw [Nat.pow_succ] at hlt2; omega) (fun h => by rw [hB]; exact hn (by omega))).1
      · have hue : u = 2 * f.binade - 1 + 1 := by rw [hB]; rw [Nat.pow_succ] at hu hlt2; omega
        have hb := binade_pos f
        have := (V_rung f (e - least).toNat (2 * f.binade - 1) (by omega) (fun h => by omega)).2
        rw [← hue, Nat.add_assoc, ← hue] at this
        exact this
    have := V_inj f (hv.trans hV.symm)
    omega
end Go.Proofs.YtmpioejllfedoaaDoor.M

/-
  Package round: the ways, by their contracts.
-/
namespace Go.Proofs.YtmpioejllfedoaaDoor
open Go Go.RowKit Go.Proofs.YtmpioejllfedoaaDoor.M
set_option linter.unusedSimpArgs false
set_option linter.unusedVariables false

theorem raise1 (ng odd : Bool) (left : Int) (w : World) : Calls Tryd.prog 62 #[.bool ng, .bool odd, .int .i64 left] w fun e w' => e = .returned (.bool (rUp 0 ng odd left)) ∧ w' = w := by
  unfold rUp
  rw [if_pos rfl]
  go_enter Tryd.func62, Tryd.ntmps62
  by_cases h3 : left = 3
  · subst h3
    go_wp2
    go_ret
    exact ⟨by simp, rfl⟩
  · by_cases h2 : left = 2
    · subst h2
      go_wp2
      go_ret
      exact ⟨by simp, rfl⟩
    · go_wp2
      go_ret
      exact ⟨by simp [h2, h3], rfl⟩
theorem raise2 (ng odd : Bool) (left : Int) (w : World) : Calls Tryd.prog 63 #[.bool ng, .bool odd, .int .i64 left] w fun e w' => e = .returned (.bool (rUp 1 ng odd left)) ∧ w' = w := by
  unfold rUp
  rw [if_neg (by decide), if_pos rfl]
  go_enter Tryd.func63, Tryd.ntmps63
  by_cases h0 : left = 0
  · subst h0
    go_wp2
    go_ret
    exact ⟨by simp, rfl⟩
  · go_wp2
    go_ret
    exact ⟨by simp [h0], rfl⟩
theorem raise3 (ng odd : Bool) (left : Int) (w : World) : Calls Tryd.prog 64 #[.bool ng, .bool odd, .int .i64 left] w fun e w' => e = .returned (.bool (rUp 2 ng odd left)) ∧ w' = w := by
  unfold rUp
  rw [if_neg (by decide), if_neg (by decide), if_pos rfl]
  go_enter Tryd.func64, Tryd.ntmps64
  by_cases h0 : left = 0
  · subst h0
    go_wp2
    go_ret
    exact ⟨by simp, rfl⟩
  · go_wp2
    go_ret
    exact ⟨by simp [h0], rfl⟩
theorem raise4 (ng odd : Bool) (left : Int) (w : World) : Calls Tryd.prog 65 #[.bool ng, .bool odd, .int .i64 left] w fun e w' => e = .returned (.bool (rUp 3 ng odd left)) ∧ w' = w := by
  unfold rUp
  rw [if_neg (by decide), if_neg (by decide), if_neg (by decide)]
  go_enter Tryd.func65, Tryd.ntmps65
  go_wp2
  go_ret
  exact ⟨rfl, rfl⟩
/-- The function of a way. -/
def wayF (way : Int) : Nat := if way = 0 then 62 else if way = 1 then 63 else if way = 2 then 64 else 65
def wayV (way : Int) : Value := .agg #[.func (.func (wayF way)) #[] #[]]
set_option maxRecDepth 100000 in
theorem wayOf_any (way : Int) (w : World) : Calls Tryd.prog 44 #[.int .i64 way] w fun e w' => e = .returned (.tuple #[if 0 ≤ way ∧ way ≤ 3 then wayV way else .agg #[.nilFunc], .bool (decide (0 ≤ way ∧ way ≤ 3))]) ∧ Below w.heap.size w w' := by
  have hmf : ∀ (fn : Fn) (first cap : Array Value) (w : World), (Instr.makeFunc fn first cap).run Tryd.prog w = .ok (.func fn first cap) w := fun _ _ _ _ => rfl
  have hst : ∀ (p : Addr) (F : Nat) (m : Mode) (w : World), (store p (.func (.func F) #[] #[]) m).run Tryd.prog w = stored Tryd.prog w p (.func (.func F) #[] #[]) m := fun p F m w => run_store _ w p _ m rfl
  have hsn : ∀ (p : Addr) (m : Mode) (w : World), (store p .nilFunc m).run Tryd.prog w = stored Tryd.prog w p .nilFunc m := fun p m w => run_store _ w p _ m rfl
  have hb2 := bel_alloc2 w (.cells #[.nilFunc] 82) (.cells #[.nilFunc, .nilFunc, .nilFunc, .nilFunc] 104)
  have q0 := heap_a2 w (.cells #[.nilFunc] 82) (.cells #[.nilFunc, .nilFunc, .nilFunc, .nilFunc] 104)
  have q1 := heap_b2 w (.cells #[.nilFunc] 82) (.cells #[.nilFunc, .nilFunc, .nilFunc, .nilFunc] 104)
  have x0 := blkC q1 0 rfl
  have x1 := blkC q1 1 rfl
  have x2 := blkC q1 2 rfl
  have x3 := blkC q1 3 rfl
  have z0 := blkF q1 0
  have z1 := blkF q1 1
  have z2 := blkF q1 2
  have z3 := blkF q1 3
  have y0 := blkC q0 0 rfl
  have y1 := blkF q0 0
  by_cases h0 : way < 0
  · go_enter Tryd.func44, Tryd.ntmps44
    go_wp2
    refine bodyPost_ret (v := .tuple #[.agg #[.nilFunc], .bool false]) (by simp [results, Tryd.results44, go_sem]) rfl ⟨?_, ?_⟩
    · rfl
    · exact bel_alloc2 _ _ _
  by_cases h4 : 4 ≤ way
  · go_enter Tryd.func44, Tryd.ntmps44
    go_wp2
    refine bodyPost_ret (v := .tuple #[.agg #[.nilFunc], .bool false]) (by simp [results, Tryd.results44, go_sem]) rfl ⟨?_, ?_⟩
    · rfl
    · exact bel_alloc2 _ _ _
  rw [if_pos (by omega), show decide (0 ≤ way ∧ way ≤ 3) = true from decide_eq_true (by omega)]
  have hc : way = 0 ∨ way = 1 ∨ way = 2 ∨ way = 3 := by omega
  rcases hc with rfl | rfl | rfl | rfl
  all_goals
    go_enter Tryd.func44, Tryd.ntmps44
    go_wp2
    refine bodyPost_ret (v := .tuple #[wayV _, .bool true]) (by simp [results, Tryd.results44, go_sem, wayV, wayF]; first | done | rfl) rfl ⟨rfl, ?_⟩
    exact bel_alloc2 _ _ _
end Go.Proofs.YtmpioejllfedoaaDoor
