/-
  Parts of the proof, one behind another.
-/
import Derived.Test.YtmpioejllfedoaaGreatDoorPart6
import Derived.Laws.Externs
import Derived.Laws.Cover2
import Derived.Test.YtmpioejllfedoaaGreatDoorPart3
import Derived.Test.YtmpioejllfedoaaGreatDoorPart1
import Derived.Test.YtmpioejllfedoaaGreatDoorPart4
import Derived.Deep.RegionHeld3
import Derived.Deep.AppendLies
import Derived.Deep.RegionLaw
import Derived.Test.YtmpioejllfedoaaGreatDoorPart5
import Derived.Test.YtmpioejllfedoaaGreatDoorRows
import Derived.Test.YtmpioejllfedoaaGreatDoorPart2
import Derived.ProofKit
import Derived.OpenShut
import Derived.ChangeOld
/-
  Package round: sums to the nearest, by their contracts.
-/
namespace Go.Proofs.YtmpioejllfedoaaGreatDoor
open Go Go.RowKit Go.Proofs.YtmpioejllfedoaaGreatDoor.M
set_option linter.unusedSimpArgs false
set_option linter.unusedVariables false

set_option maxRecDepth 100000 in
set_option maxHeartbeats 1000000 in
theorem operate_near (F G : Value) (hF : ∃ f, F = .func f #[] #[]) (hG : ∃ f, G = .func f #[] #[]) (near : Int) (R : Value) (o : Option Addr) (n c : Nat) (w : World) :
    Calls Tryz.prog 110 #[.agg #[F, G], .int .i64 near, .int .i64 0, R, .slice o n c] w fun e w' => e = .returned (.tuple #[.int .i64 near, .int .i64 0]) ∧ Below w.heap.size w w' := by
  obtain ⟨f, rfl⟩ := hF
  obtain ⟨g, rfl⟩ := hG
  have CW := fun W => wayOf_any 0 W
  unfold wayV wayF at CW
  simp only [if_true] at CW
  have hst : ∀ (p : Addr) (F : Nat) (m : Mode) (w : World), (store p (.func (.func F) #[] #[]) m).run Tryz.prog w = stored Tryz.prog w p (.func (.func F) #[] #[]) m := fun p F m w => run_store _ w p _ m rfl
  go_enter Tryz.func110, Tryz.ntmps110
  go_wp2_with fail
  refine (CW _).mono ?_
  rintro _ w2 ⟨rfl, hb2⟩
  have hb1 := bel_alloc w (.cells #[.func f #[] #[], .func g #[] #[]] 136)
  have hbw := bel_trans hb1 hb2
  have q1 := heap_alloc_new w2 (.cells #[.nilFunc] 123)
  have y0 := blkC q1 0 rfl
  have y1 := blkF q1 0
  clear CW
  go_wp2
  all_goals refine bodyPost_ret (v := .tuple #[.int .i64 near, .int .i64 0]) (by simp [results, Tryz.results110, go_sem]) rfl ⟨rfl, ?_⟩
  all_goals exact bel_trans hbw (bel_alloc _ _)
set_option maxRecDepth 100000 in
theorem double_any (w : World) : Calls Tryz.prog 109 #[] w fun e w' => e = .returned (.agg #[.func (.func 21) #[] #[], .func (.func 87) #[] #[]]) ∧ Below w.heap.size w w' := by
  have hmf : ∀ (fn : Fn) (first cap : Array Value) (w : World), (Instr.makeFunc fn first cap).run Tryz.prog w = .ok (.func fn first cap) w := fun _ _ _ _ => rfl
  have hst : ∀ (p : Addr) (F : Nat) (m : Mode) (w : World), (store p (.func (.func F) #[] #[]) m).run Tryz.prog w = stored Tryz.prog w p (.func (.func F) #[] #[]) m := fun p F m w => run_store _ w p _ m rfl
  have q1 := heap_alloc_new w (.cells #[.nilFunc, .nilFunc] 136)
  have x0 := blkC q1 0 rfl
  have x1 := blkC q1 1 rfl
  have z0 := blkF q1 0
  have z1 := blkF q1 1
  go_enter Tryz.func109, Tryz.ntmps109
  go_wp2
  all_goals refine bodyPost_ret (v := .agg #[.func (.func 21) #[] #[], .func (.func 87) #[] #[]]) (by simp [results, Tryz.results109, go_sem]) rfl ⟨rfl, ?_⟩
  all_goals exact bel_alloc _ _
end Go.Proofs.YtmpioejllfedoaaGreatDoor

/-
  Floats made of patterns; 'alive' of plumblaw1: it answers true, in every world that holds the two layouts.
-/
namespace Go.Proofs.YtmpioejllfedoaaGreatDoor
open Go Go.RowKit Go.Proofs.YtmpioejllfedoaaGreatDoor.M
set_option linter.unusedSimpArgs false
set_option linter.unusedVariables false

theorem run_from64 (n : Int) (w : World) : (callFunc 84 #[.int .u64 n]).run Tryz.prog w = .ok (.value (.float .f64 n.toNat)) w := by
  rw [run_callFunc_extern Tryz.func84 (by kernel_rfl) (by kernel_rfl) (by kernel_rfl) (e := Extern.MathFloatBits.float64frombits) (by kernel_rfl)]
  rfl
theorem ret_float {k : FloatKind} {a b : Nat} (h : a = b) : Ending.returned (.float k a) = .returned (.float k b) := by rw [h]
theorem bitsFloat (b : Int) (w : World) :
    Calls Tryz.prog 67 #[.int .i64 b] w fun e w' => e = .returned (.float .f64 (wd b)) ∧ w' = w := by
  have hd := run_from64
  go_enter Tryz.func67, Tryz.ntmps67
  go_wp2
  go_ret
  exact ⟨ret_float (by rw [IntKind.wrap_u64]; rfl), rfl⟩
end Go.Proofs.YtmpioejllfedoaaGreatDoor

/-
  The document's own answers for chapter 1 (package plumbref1), but for Join: each call by a contract over the same plain functions as package bits'.
-/
namespace Go.Proofs.YtmpioejllfedoaaGreatDoor
open Go Go.RowKit Go.Proofs.YtmpioejllfedoaaGreatDoor.M
set_option linter.unusedSimpArgs false
set_option linter.unusedVariables false

theorem hideIt {p : Prop} (h : p) : Hid p := h

end Go.Proofs.YtmpioejllfedoaaGreatDoor

/-
  The document's own answers for chapter 1, on: the calls of 32 bits, the neighbours, the signs, the order.
-/
namespace Go.Proofs.YtmpioejllfedoaaGreatDoor
open Go Go.RowKit Go.Proofs.YtmpioejllfedoaaGreatDoor.M
set_option linter.unusedSimpArgs false
set_option linter.unusedVariables false

end Go.Proofs.YtmpioejllfedoaaGreatDoor

/-
  Float32, Of and Of32 of package bits, Told and Told32 of the document's own answer, by contracts.
-/
namespace Go.Proofs.YtmpioejllfedoaaGreatDoor
open Go Go.RowKit Go.Proofs.YtmpioejllfedoaaGreatDoor.M
set_option linter.unusedSimpArgs false
set_option linter.unusedVariables false

def told (b : Int) : Int := if cls b = 4 then 9221120237041090561 else b
theorem no64 {b : Int} (hb : rng b) : (FloatKind.f64.format.order (wd b) (wd b) != some .eq) = decide (cls b = 4) := by
  have := same_order hb hb
  unfold bne
  rw [this]; unfold same
  by_cases h : cls b = 4 <;> simp [h]
theorem run_bits64 (n : Nat) (w : World) : (callFunc 85 #[.float .f64 n]).run Tryz.prog w = .ok (.value (.int .u64 n)) w := by
  rw [run_callFunc_extern Tryz.func85 (by kernel_rfl) (by kernel_rfl) (by kernel_rfl) (e := Extern.MathFloatBits.float64bits) (by kernel_rfl)]
  rfl
theorem bitsOf (b : Int) (w : World) (hb : rng b) :
    Calls Tryz.prog 69 #[.float .f64 (wd b)] w fun e w' => e = .returned (.int .i64 (told b)) ∧ w' = w := by
  have hd := run_bits64
  have hn := no64 hb
  have hw : Hid (wrap64 (wd b : Int) = b) := by unfold Hid wrap64 wd; unfold rng at hb; omega
  by_cases h : cls b = 4
  · have hn' : (FloatKind.f64.format.order (wd b) (wd b) != some .eq) = true := by rw [hn]; simp [h]
    clear hn
    go_enter Tryz.func69, Tryz.ntmps69
    go_wp2
    go_ret
    exact ⟨b_ret_int (by simp [told, h]), rfl⟩
  · have hn' : (FloatKind.f64.format.order (wd b) (wd b) != some .eq) = false := by rw [hn]; simp [h]
    clear hn
    go_enter Tryz.func69, Tryz.ntmps69
    go_wp2
    go_ret
    exact ⟨b_ret_int (by rw [hw.out]; simp [told, h]), rfl⟩
end Go.Proofs.YtmpioejllfedoaaGreatDoor

/-
  Package round: sums of constants, by their contracts.
-/
namespace Go.Proofs.YtmpioejllfedoaaGreatDoor
open Go Go.RowKit Go.Proofs.YtmpioejllfedoaaGreatDoor.M
set_option linter.unusedSimpArgs false
set_option linter.unusedVariables false

end Go.Proofs.YtmpioejllfedoaaGreatDoor

/-
  plumblaw4.alive, by its contract.
-/
namespace Go.Proofs.YtmpioejllfedoaaGreatDoor
open Go Go.RowKit Go.Proofs.YtmpioejllfedoaaGreatDoor.M
set_option linter.unusedSimpArgs false
set_option linter.unusedVariables false

/-- A small odd number in a list of one. -/
def litR (g : Nat) (x : Int) : NumR := ⟨false, some ⟨g, 0, none⟩, 1, 1, fun _ => x, 0⟩
theorem third (g k : Nat) : qR64 0 (litR g 1) (litR k 3) = (4599676419421066581, true) := by
  have e : qR64 0 (litR g 1) (litR k 3) = qR64 0 (litR 0 1) (litR 0 3) := rfl
  rw [e]
  decide +kernel
end Go.Proofs.YtmpioejllfedoaaGreatDoor

/-
  Package dyadic: Sub, by its contract.
-/
namespace Go.Proofs.YtmpioejllfedoaaGreatDoor
open Go Go.RowKit Go.Proofs.YtmpioejllfedoaaGreatDoor.M
set_option linter.unusedSimpArgs false
set_option linter.unusedVariables false

/-- The number with the other sign (0 too). -/
def NumR.neg (r : NumR) : NumR := ⟨!r.ng, r.ao, r.n, r.cap, r.d, r.e⟩
theorem NumR.neg_V (r : NumR) : r.neg.V = -r.V := by
  show sg (!r.ng) _ * _ = _
  rw [sg_not, Int.neg_mul]; rfl
theorem NumR.neg_sane {r : NumR} (h : Sane r) : Sane r.neg := h
set_option maxRecDepth 100000 in
set_option maxHeartbeats 1000000 in
theorem sub1_any (x y : NumR) (g h : Nat) (w : World) (cg : w.heap[g]? = some (.cells #[.bool x.ng, .slice x.ao x.n x.cap, .int .i64 x.e] 26 (0, 0))) (ch : w.heap[h]? = some (.cells #[.bool y.ng, .slice y.ao y.n y.cap, .int .i64 y.e] 26 (0, 0)))
    (hx : Row w x.ao x.n x.cap x.d) (hy : Row w y.ao y.n y.cap y.d) (sx : Sane x) (sy : Sane y) (hT : Tab w) :
    Calls Tryz.prog 28 #[.pointer (some ⟨g, 0, none⟩), .pointer (some ⟨h, 0, none⟩)] w (DOut w (x.V + y.V)) := by
  obtain ⟨an, ao, n, ca, a, e⟩ := x
  obtain ⟨bn, bo, m, cb, b, f⟩ := y
  simp only at cg ch hx hy
  have hb := bel_alloc w (.cells #[.bool false, .slice none 0 0, .int .i64 0] 26)
  have g0 := heap_past (.cells #[.bool false, .slice none 0 0, .int .i64 0] 26) cg
  have g1 := heap_past (.cells #[.bool false, .slice none 0 0, .int .i64 0] 26) ch
  have k0 := blkC g0 0 rfl
  have k1 := blkC g0 1 rfl
  have k2 := blkC g0 2 rfl
  have j0 := blkC g1 0 rfl
  have j1 := blkC g1 1 rfl
  have j2 := blkC g1 2 rfl
  have hN := fun q => nums2 (w := (w.alloc (.cells #[.bool false, .slice none 0 0, .int .i64 0] 26)).alloc (.cells #[.bool an, .slice ao n ca, .int .i64 e, .bool bn, .slice bo m cb, .int .i64 f] 26)) (g := w.heap.size + 1) (x := ⟨an, ao, n, ca, a, e⟩) (y := ⟨bn, bo, m, cb, b, f⟩) (t := 26) q (hx.keeps (bel_alloc2 _ _ _)) (hy.keeps (bel_alloc2 _ _ _))
  go_enter Tryz.func28, Tryz.ntmps28
  go_wp2_with fail
  refine (total_any _ _ _ _ _ (hN (heap_b2 _ _ _)) (fun i hi => ?_) (by omega) (hT.keeps (bel_alloc2 _ _ _))).mono ?_
  · match i, hi with
    | 0, _ => exact sx
    | 1, _ => exact sy
  rw [sumV2]
  rintro r w7 (⟨hok, v, rfl, hD⟩ | ⟨hno, rfl, hb7⟩)
  · have hb7 := hD.below
    obtain ⟨ng', s', m', e', rfl, hyy, hA⟩ := id hD
    obtain ⟨so, sn, sc, rfl⟩ := hA.num.shape
    have q0 := (hb7.block w.heap.size (by rw [size2]; omega)).trans (heap_a2 _ _ _)
    have x0 := blkC q0 0 rfl
    have x1 := blkC q0 1 rfl
    have x2 := blkC q0 2 rfl
    have z0 := blkF q0 0
    have z1 := blkF q0 1
    have z2 := blkF q0 2
    go_wp2
    refine bodyPost_ret (v := .agg #[.bool ng', .slice so sn sc, .int .i64 e']) (by simp [results, Tryz.results28, go_sem, x0, x1, x2]) rfl ?_
    exact .inl ⟨hok, _, rfl, dans_res3 (g := w.heap.size) hD (bel_alloc2 _ _ _) (Nat.le_refl _) (by rw [size2]; omega) _ _ _⟩
  · exact ⟨rfl, .inr ⟨hno, rfl, bel_trans (bel_alloc2 _ _ _) hb7⟩⟩
set_option maxRecDepth 100000 in
set_option maxHeartbeats 1000000 in
theorem dsub_ok (x y : NumR) (w : World) (hx : Row w x.ao x.n x.cap x.d) (hy : Row w y.ao y.n y.cap y.d) (ox : okR x = true) (oy : okR y = true) (hT : Tab w) :
    Calls Tryz.prog 8 #[x.v, y.v] w fun r w' => ∃ v er, r = .returned (.tuple #[v, .int .i64 er]) ∧ DFit w w' (x.V - y.V) v er := by
  have hmf : ∀ (fn : Fn) (first cap : Array Value) (w : World), (Instr.makeFunc fn first cap).run Tryz.prog w = .ok (.func fn first cap) w := fun _ _ _ _ => rfl
  have hE : ∀ (cap : Array Value) (w : World), (callFunc 28 cap).run Tryz.prog w = .ok (.enter 28 cap) w := by
    intro cap w
    simp [go_sem]
  have hA := allOk2 x y
  rw [ox, oy] at hA
  have hN := fun W q hb => nums2 (w := W) (g := w.heap.size + 3) (x := x) (y := y) (t := 26) q (hx.keeps hb) (hy.keeps hb)
  have hC := fun W hb cg ch => sub1_any x y.neg w.heap.size (w.heap.size + 1) W cg ch (hx.keeps hb) (hy.keeps hb) (okR_sane ox) (NumR.neg_sane (okR_sane oy)) (hT.keeps hb)
  generalize pair2 x y = pr at hA hN
  rw [show x.V - y.V = x.V + y.neg.V by rw [NumR.neg_V]; omega]
  generalize x.V + y.neg.V = V at hC ⊢
  clear ox oy
  obtain ⟨an, ao, n, ca, a, e⟩ := x
  obtain ⟨bn, bo, m, cb, b, f⟩ := y
  unfold NumR.v
  unfold NumR.neg at hC
  simp only at hx hy hN hC ⊢
  go_enter Tryz.func8, Tryz.ntmps8
  go_wp2_with fail
  refine (dvalids_any _ _ _ _ _ (hN _ (h4_3 _ _ _ _ _) (bel_a4 _ _ _ _ _))).mono ?_
  rw [hA]
  rintro r w1 ⟨rfl, hb1⟩
  have hbw := bel_trans (bel_a4 w _ _ _ _) hb1
  have g0 := (hb1.block w.heap.size (by rw [size4]; omega)).trans (h4_0 _ _ _ _ _)
  have g1 := (hb1.block (w.heap.size + 1) (by rw [size4]; omega)).trans (h4_1 _ _ _ _ _)
  have g2 := (hb1.block (w.heap.size + 2) (by rw [size4]; omega)).trans (h4_2 _ _ _ _ _)
  have hs4 : w.heap.size + 4 ≤ w1.heap.size := by have := hb1.size; rw [size4] at this; exact this
  have y0 := blkC g1 0 rfl
  have y1 := blkF g1 0
  go_wp2_with fail
  have hbw' : Below w.heap.size w (w1.setCell ⟨w.heap.size + 1, 0, none⟩ (.bool (!bn))) := hbw.setCell (p := ⟨w.heap.size + 1, 0, none⟩) (Nat.le_succ _) _
  have u0 := (Below.heap_setCell w1 ⟨w.heap.size + 1, 0, none⟩ (.bool (!bn)) w.heap.size (by show w.heap.size ≠ w.heap.size + 1; omega)).trans g0
  have u2 := (Below.heap_setCell w1 ⟨w.heap.size + 1, 0, none⟩ (.bool (!bn)) (w.heap.size + 2) (by show w.heap.size + 2 ≠ w.heap.size + 1; omega)).trans g2
  have u1 := heap_set g1 0 (.bool (!bn))
  have us : (w1.setCell ⟨w.heap.size + 1, 0, none⟩ (.bool (!bn))).heap.size = w1.heap.size := by simp [World.setCell]
  generalize w1.setCell ⟨w.heap.size + 1, 0, none⟩ (.bool (!bn)) = w9 at hbw' u0 u1 u2 us ⊢
  clear hbw g0 g1 g2 hb1 y0 y1
  have hbw := hbw'
  have g0 := u0
  have g1 : w9.heap[w.heap.size + 1]? = some (.cells #[.bool (!bn), .slice bo m cb, .int .i64 f] 26 (0, 0)) := u1
  have g2 := u2
  refine (told_any (V := V) (hE _) (fun W hW => hC W (bel_trans hbw hW) ((hW.block _ (by omega)).trans g0) ((hW.block _ (by omega)).trans g1))).mono ?_
  rintro r w2 ⟨v, er, rfl, hF⟩
  obtain ⟨ng', so, sn, sc, e', rfl⟩ := hF.shape
  have q0 := (hF.1.block (w.heap.size + 2) (by omega)).trans g2
  have x0 := blkC q0 0 rfl
  have x1 := blkC q0 1 rfl
  have x2 := blkC q0 2 rfl
  have z0 := blkF q0 0
  have z1 := blkF q0 1
  have z2 := blkF q0 2
  go_wp2
  refine bodyPost_ret (v := .tuple #[.agg #[.bool ng', .slice so sn sc, .int .i64 e'], .int .i64 er]) (by simp [results, Tryz.results8, go_sem, x0, x1, x2]) rfl ⟨_, _, rfl, ?_⟩
  exact dfit_res (g := w.heap.size + 2) hF hbw (by omega) (by omega) _ _ _
end Go.Proofs.YtmpioejllfedoaaGreatDoor

/-
  Package dyadic: product, Mul, by contracts.
-/
namespace Go.Proofs.YtmpioejllfedoaaGreatDoor
open Go Go.RowKit Go.Proofs.YtmpioejllfedoaaGreatDoor.M
set_option linter.unusedSimpArgs false
set_option linter.unusedVariables false

/-- A product's worth. -/
def mulV (x y : NumR) : Int := sg (x.ng != y.ng) (val x.d x.n * val y.d y.n) * pw (x.e + y.e)
theorem mulV_eq {x y : NumR} (hx : -2097152 ≤ x.e) (hy : -2097152 ≤ y.e) : mulV x y * 2 ^ 4194304 = x.V * y.V := by
  unfold mulV NumR.V
  rw [Int.mul_assoc, ← pw_mul hx hy, ← sg_mul]; grind
set_option maxRecDepth 100000 in
set_option maxHeartbeats 2000000 in
theorem dproduct_any (x y : NumR) (w : World) (hx : Row w x.ao x.n x.cap x.d) (hy : Row w y.ao y.n y.cap y.d) (sx : Sane x) (sy : Sane y) :
    Calls Tryz.prog 31 #[x.v, y.v] w fun r w' => ∃ s, r = .returned (.agg #[.bool (x.ng != y.ng), s, .int .i64 (x.e + y.e)]) ∧ Ans w w' (val x.d x.n * val y.d y.n) s := by
  obtain ⟨an, ao, n, ca, a, e⟩ := x
  obtain ⟨bn, bo, m, cb, b, f⟩ := y
  obtain ⟨s1, s2, s3, s4⟩ := sx
  obtain ⟨t1, t2, t3, t4⟩ := sy
  unfold NumR.v
  simp only at *
  have hw : IntKind.i64.wrap (e + f) = e + f := by rw [wrap_i64_eq]; omega
  have hb3 := bel_a3 w (.cells #[.bool an, .slice ao n ca, .int .i64 e] 26) (.cells #[.bool bn, .slice bo m cb, .int .i64 f] 26) (.cells #[.bool false, .slice none 0 0, .int .i64 0] 26)
  have g0 := h3_0 w (.cells #[.bool an, .slice ao n ca, .int .i64 e] 26) (.cells #[.bool bn, .slice bo m cb, .int .i64 f] 26) (.cells #[.bool false, .slice none 0 0, .int .i64 0] 26)
  have g1 := h3_1 w (.cells #[.bool an, .slice ao n ca, .int .i64 e] 26) (.cells #[.bool bn, .slice bo m cb, .int .i64 f] 26) (.cells #[.bool false, .slice none 0 0, .int .i64 0] 26)
  have g2 := h3_2 w (.cells #[.bool an, .slice ao n ca, .int .i64 e] 26) (.cells #[.bool bn, .slice bo m cb, .int .i64 f] 26) (.cells #[.bool false, .slice none 0 0, .int .i64 0] 26)
  have hs3 := size3 w (.cells #[.bool an, .slice ao n ca, .int .i64 e] 26) (.cells #[.bool bn, .slice bo m cb, .int .i64 f] 26) (.cells #[.bool false, .slice none 0 0, .int .i64 0] 26)
  go_enter Tryz.func31, Tryz.ntmps31
  go_wp2_with fail
  have HX := hx.keeps hb3
  have HY := hy.keeps hb3
  generalize ((w.alloc (.cells #[.bool an, .slice ao n ca, .int .i64 e] 26)).alloc (.cells #[.bool bn, .slice bo m cb, .int .i64 f] 26)).alloc (.cells #[.bool false, .slice none 0 0, .int .i64 0] 26) = wx at hb3 g0 g1 g2 hs3 HX HY ⊢
  have k0 := blkC g0 0 rfl
  have k1 := blkC g0 1 rfl
  have k2 := blkC g0 2 rfl
  have j0 := blkC g1 0 rfl
  have j1 := blkC g1 1 rfl
  have j2 := blkC g1 2 rfl
  have hb1 := bel_refl wx
  have C1 : ∀ W, Below wx.heap.size wx W → Calls Tryz.prog 62 #[.slice ao n ca, .slice bo m cb] W fun r w' => ∃ so sn sc, r = .returned (.slice so sn sc) ∧ Ans W w' (val a n * val b m) (.slice so sn sc) ∧ Below W.heap.size W w' := fun W h => by
    refine (product_any ao bo n m ca cb a b W (HX.keeps h) (HY.keeps h) s1.1 t1.1 (by omega) (by omega)).mono ?_
    rintro r w' ⟨v, rfl, hA⟩
    obtain ⟨so, sn, sc, rfl⟩ := hA.num.shape
    exact ⟨so, sn, sc, rfl, hA, hA.below⟩
  go_region_held3 (fun W => (W.cell? ⟨w.heap.size, 0, none⟩ = some (.bool an) ∧ W.cell? ⟨w.heap.size, 1, none⟩ = some (.slice ao n ca) ∧ W.cell? ⟨w.heap.size, 2, none⟩ = some (.int .i64 e)) ∧ W.cell? ⟨w.heap.size + 1, 0, none⟩ = some (.bool bn) ∧ W.cell? ⟨w.heap.size + 1, 1, none⟩ = some (.slice bo m cb) ∧ W.cell? ⟨w.heap.size + 1, 2, none⟩ = some (.int .i64 f))
    (first | assumption | exact ⟨⟨k0, k1, k2⟩, j0, j1, j2⟩ | exact ⟨keepB (W := wx.drew) ⟨k0, k1, k2⟩ hbv1, keepB (W := wx.drew) ⟨j0, j1, j2⟩ hbv1⟩ | exact ⟨keepS (keepB (W := wx.drew) ⟨k0, k1, k2⟩ hbv1) (by omega) _ _ _, keepS (keepB (W := wx.drew) ⟨j0, j1, j2⟩ hbv1) (by omega) _ _ _⟩)
    (first | (go_at_call 62; refine (C1 _ hb1.drew).mono ?_; rintro y w3 ⟨so, sn, sc, rfl, hv, hbv1⟩; have q0 := (hbv1.block (w.heap.size + 2) (by show _ < wx.heap.size; omega)).trans g2; have x0 := blkC q0 0 rfl; have x1 := blkC q0 1 rfl; have x2 := blkC q0 2 rfl; have z0 := blkF q0 0; have z1 := blkF q0 1; have z2 := blkF q0 2) | fail)
  all_goals go_wp2
  all_goals
    refine bodyPost_ret (v := .agg #[.bool (!(an == bn)), .slice so sn sc, .int .i64 (e + f)]) (by simp [results, Tryz.results31, go_sem, x0, x1, x2]) rfl ⟨_, rfl, ?_⟩
    exact ans_res (g := w.heap.size + 2) (hv.from hb1.drew) hb3 (by omega) (by omega) _ _ _
set_option maxRecDepth 100000 in
set_option maxHeartbeats 1000000 in
theorem mul1_any (x y : NumR) (g h : Nat) (w : World) (cg : w.heap[g]? = some (.cells #[.bool x.ng, .slice x.ao x.n x.cap, .int .i64 x.e] 26 (0, 0))) (ch : w.heap[h]? = some (.cells #[.bool y.ng, .slice y.ao y.n y.cap, .int .i64 y.e] 26 (0, 0)))
    (hx : Row w x.ao x.n x.cap x.d) (hy : Row w y.ao y.n y.cap y.d) (sx : Sane x) (sy : Sane y) (hT : Tab w) :
    Calls Tryz.prog 29 #[.pointer (some ⟨g, 0, none⟩), .pointer (some ⟨h, 0, none⟩)] w (DOut w (mulV x y)) := by
  have hP := fun W hb => dproduct_any x y W (hx.keeps hb) (hy.keeps hb) sx sy
  have hV : mulV x y = sg (x.ng != y.ng) (val x.d x.n * val y.d y.n) * pw (x.e + y.e) := rfl
  have he : -4194304 ≤ x.e + y.e := by have := sx.2.2.1; have := sy.2.2.1; omega
  have hlen : val x.d x.n * val y.d y.n < P 10000 := by
    have a1 := val_lt sx.1.1
    have a2 := val_lt sy.1.1
    have b1 := val_nonneg sx.1.1
    have b2 := val_nonneg sy.1.1
    have c1 : val x.d x.n * val y.d y.n ≤ P x.n * val y.d y.n := Int.mul_le_mul_of_nonneg_right (by omega) b2
    have c2 : P x.n * val y.d y.n < P x.n * P y.n := Int.mul_lt_mul_of_pos_left a2 (P_pos _)
    rw [← P_add] at c2
    have := P_le (show x.n + y.n ≤ 10000 by have := sx.2.1; have := sy.2.1; omega)
    omega
  generalize mulV x y = V at hV ⊢
  unfold NumR.v at hP
  obtain ⟨an, ao, n, ca, a, e⟩ := x
  obtain ⟨bn, bo, m, cb, b, f⟩ := y
  simp only at cg ch hx hy hP hV he hlen
  have hb := bel_alloc w (.cells #[.bool false, .slice none 0 0, .int .i64 0] 26)
  have g0 := heap_past (.cells #[.bool false, .slice none 0 0, .int .i64 0] 26) cg
  have g1 := heap_past (.cells #[.bool false, .slice none 0 0, .int .i64 0] 26) ch
  have k0 := blkC g0 0 rfl
  have k1 := blkC g0 1 rfl
  have k2 := blkC g0 2 rfl
  have j0 := blkC g1 0 rfl
  have j1 := blkC g1 1 rfl
  have j2 := blkC g1 2 rfl
  clear sx sy
  have HV : Hid (V = sg (an != bn) (val a n * val b m) * pw (e + f)) := hV
  clear hV
  go_enter Tryz.func29, Tryz.ntmps29
  go_wp2_with fail
  refine (hP _ hb).mono ?_
  rintro r w3 ⟨s, rfl, hA⟩
  obtain ⟨so, sn, sc, d, rfl, hR, hN, hv⟩ := hA.num
  have hsn : sn ≤ 10000 := hA.num.len hlen
  have hb3 := bel_trans hb hA.below
  go_wp2_with fail
  refine (settle_any (V := V) hR hN.1 (by omega) (hT.keeps hb3) he (by rw [hv]; exact HV.out)).mono ?_
  rintro r w7 (⟨hok, v, rfl, hD⟩ | ⟨hno, rfl, hb7⟩)
  · have hb7 := hD.below
    obtain ⟨ng', s', m', e', rfl, hyy, hA2⟩ := id hD
    obtain ⟨so', sn', sc', rfl⟩ := hA2.num.shape
    have q0 := ((bel_trans hA.below hb7).block w.heap.size (by rw [size1]; omega)).trans (heap_a1 _ _)
    have x0 := blkC q0 0 rfl
    have x1 := blkC q0 1 rfl
    have x2 := blkC q0 2 rfl
    have z0 := blkF q0 0
    have z1 := blkF q0 1
    have z2 := blkF q0 2
    go_wp2
    refine bodyPost_ret (v := .agg #[.bool ng', .slice so' sn' sc', .int .i64 e']) (by simp [results, Tryz.results29, go_sem, x0, x1, x2]) rfl ?_
    exact .inl ⟨hok, _, rfl, dans_res3 (g := w.heap.size) hD hb3 (Nat.le_refl _) (Nat.lt_of_lt_of_le (by rw [size1]; omega) hA.below.size) _ _ _⟩
  · exact ⟨rfl, .inr ⟨hno, rfl, bel_trans hb3 hb7⟩⟩
set_option maxRecDepth 100000 in
set_option maxHeartbeats 1000000 in
theorem dmul_ok (x y : NumR) (w : World) (hx : Row w x.ao x.n x.cap x.d) (hy : Row w y.ao y.n y.cap y.d) (ox : okR x = true) (oy : okR y = true) (hT : Tab w) :
    Calls Tryz.prog 9 #[x.v, y.v] w fun r w' => ∃ v er, r = .returned (.tuple #[v, .int .i64 er]) ∧ DFit w w' (mulV x y) v er := by
  have hmf : ∀ (fn : Fn) (first cap : Array Value) (w : World), (Instr.makeFunc fn first cap).run Tryz.prog w = .ok (.func fn first cap) w := fun _ _ _ _ => rfl
  have hE : ∀ (cap : Array Value) (w : World), (callFunc 29 cap).run Tryz.prog w = .ok (.enter 29 cap) w := by
    intro cap w
    simp [go_sem]
  have hA := allOk2 x y
  rw [ox, oy] at hA
  have hN := fun W q hb => nums2 (w := W) (g := w.heap.size + 3) (x := x) (y := y) (t := 26) q (hx.keeps hb) (hy.keeps hb)
  have hC := fun W hb cg ch => mul1_any x y w.heap.size (w.heap.size + 1) W cg ch (hx.keeps hb) (hy.keeps hb) (okR_sane ox) (okR_sane oy) (hT.keeps hb)
  generalize pair2 x y = pr at hA hN
  generalize mulV x y = V at hC ⊢
  clear ox oy
  obtain ⟨an, ao, n, ca, a, e⟩ := x
  obtain ⟨bn, bo, m, cb, b, f⟩ := y
  unfold NumR.v
  simp only at hx hy hN hC ⊢
  go_enter Tryz.func9, Tryz.ntmps9
  go_wp2_with fail
  refine (dvalids_any _ _ _ _ _ (hN _ (h4_3 _ _ _ _ _) (bel_a4 _ _ _ _ _))).mono ?_
  rw [hA]
  rintro r w1 ⟨rfl, hb1⟩
  have hbw := bel_trans (bel_a4 w _ _ _ _) hb1
  have g0 := (hb1.block w.heap.size (by rw [size4]; omega)).trans (h4_0 _ _ _ _ _)
  have g1 := (hb1.block (w.heap.size + 1) (by rw [size4]; omega)).trans (h4_1 _ _ _ _ _)
  have g2 := (hb1.block (w.heap.size + 2) (by rw [size4]; omega)).trans (h4_2 _ _ _ _ _)
  have hs4 : w.heap.size + 4 ≤ w1.heap.size := by have := hb1.size; rw [size4] at this; exact this
  go_wp2_with fail
  refine (told_any (V := V) (hE _) (fun W hW => hC W (bel_trans hbw hW) ((hW.block _ (by omega)).trans g0) ((hW.block _ (by omega)).trans g1))).mono ?_
  rintro r w2 ⟨v, er, rfl, hF⟩
  obtain ⟨ng', so, sn, sc, e', rfl⟩ := hF.shape
  have q0 := (hF.1.block (w.heap.size + 2) (by omega)).trans g2
  have x0 := blkC q0 0 rfl
  have x1 := blkC q0 1 rfl
  have x2 := blkC q0 2 rfl
  have z0 := blkF q0 0
  have z1 := blkF q0 1
  have z2 := blkF q0 2
  go_wp2
  refine bodyPost_ret (v := .tuple #[.agg #[.bool ng', .slice so sn sc, .int .i64 e'], .int .i64 er]) (by simp [results, Tryz.results9, go_sem, x0, x1, x2]) rfl ⟨_, _, rfl, ?_⟩
  exact dfit_res (g := w.heap.size + 2) hF hbw (by omega) (by omega) _ _ _
end Go.Proofs.YtmpioejllfedoaaGreatDoor

/-
  Package dyadic: Neg, Abs, Sign, Scale, by contracts.
-/
namespace Go.Proofs.YtmpioejllfedoaaGreatDoor
open Go Go.RowKit Go.Proofs.YtmpioejllfedoaaGreatDoor.M
set_option linter.unusedSimpArgs false
set_option linter.unusedVariables false

set_option maxRecDepth 100000 in
set_option maxHeartbeats 1000000 in
theorem dsignF_any (x : NumR) (w : World) (hx : Row w x.ao x.n x.cap x.d) :
    Calls Tryz.prog 19 #[x.v] w fun r w' => r = .returned (.tuple #[.int .i64 (if okR x then sgn x.ng x.n else 0), .int .i64 (if okR x then 0 else 11)]) ∧ Below w.heap.size w w' := by
  have hV := fun W hb => dvalid_any x.ng x.ao x.n x.cap x.d x.e W (hx.keeps hb)
  have hS := fun W => dsign_any x.ng x.ao x.n x.cap x.e W (by have := hx.le; have := hx.max; omega)
  have hk : okN x.ng x.d x.n x.e = okR x := rfl
  rw [hk] at hV
  unfold NumR.v
  generalize okR x = ok at *
  obtain ⟨an, ao, n, ca, a, e⟩ := x
  simp only at *
  cases ok
  · go_enter Tryz.func19, Tryz.ntmps19
    go_wp2_with fail
    refine (hV _ (bel_alloc _ _)).mono ?_
    rintro r w1 ⟨rfl, hb1⟩
    go_wp2
    go_ret2
    exact ⟨rfl, bel_trans (bel_alloc _ _) hb1⟩
  · go_enter Tryz.func19, Tryz.ntmps19
    go_wp2_with fail
    refine (hV _ (bel_alloc _ _)).mono ?_
    rintro r w1 ⟨rfl, hb1⟩
    have g0 := (hb1.block w.heap.size (by rw [size1]; omega)).trans (heap_a1 _ _)
    have k0 := blkC g0 0 rfl
    have k1 := blkC g0 1 rfl
    have k2 := blkC g0 2 rfl
    go_wp2_with fail
    refine (hS _).mono ?_
    rintro r w2 ⟨rfl, hb2⟩
    go_wp2
    go_ret2
    exact ⟨rfl, bel_trans (bel_trans (bel_alloc _ _) hb1) hb2⟩
set_option maxRecDepth 100000 in
set_option maxHeartbeats 1000000 in
theorem withSign_any (ng : Bool) (x : NumR) (w : World) (hx : Row w x.ao x.n x.cap x.d) (sx : Sane x) :
    Calls Tryz.prog 33 #[.bool ng, x.v] w fun r w' => ∃ s, r = .returned (.agg #[.bool (ng && decide (0 < x.n)), s, .int .i64 x.e]) ∧ Ans w w' (val x.d x.n) s := by
  have hC : ∀ W, Below w.heap.size w W → Calls Tryz.prog 64 #[.slice x.ao x.n x.cap] W fun r w' => ∃ so sn sc, r = .returned (.slice so sn sc) ∧ Ans W w' (val x.d x.n) (.slice so sn sc) ∧ Below W.heap.size W w' := fun W hb => by
    refine (clone_num (w := W) (ao := x.ao) (n := x.n) (cap := x.cap) (A := val x.d x.n) ⟨_, _, _, _, rfl, hx.keeps hb, sx.1, rfl⟩ (by have := sx.2.1; omega)).mono ?_
    rintro r w' ⟨v, rfl, hA⟩
    obtain ⟨so, sn, sc, rfl⟩ := hA.num.shape
    exact ⟨so, sn, sc, rfl, hA, hA.below⟩
  obtain ⟨an, ao, n, ca, a, e⟩ := x
  unfold NumR.v
  simp only at *
  have hb2 := bel_alloc2 w (.cells #[.bool an, .slice ao n ca, .int .i64 e] 26) (.cells #[.bool false, .slice none 0 0, .int .i64 0] 26)
  have g0 := heap_a2 w (.cells #[.bool an, .slice ao n ca, .int .i64 e] 26) (.cells #[.bool false, .slice none 0 0, .int .i64 0] 26)
  have g1 := heap_b2 w (.cells #[.bool an, .slice ao n ca, .int .i64 e] 26) (.cells #[.bool false, .slice none 0 0, .int .i64 0] 26)
  have hs := size2 w (.cells #[.bool an, .slice ao n ca, .int .i64 e] 26) (.cells #[.bool false, .slice none 0 0, .int .i64 0] 26)
  have hdn : decide ((0 : Int) < n) = decide (0 < n) := by simp
  cases ng
  ·
    go_enter Tryz.func33, Tryz.ntmps33
    go_wp2_with fail
    generalize (w.alloc (.cells #[.bool an, .slice ao n ca, .int .i64 e] 26)).alloc (.cells #[.bool false, .slice none 0 0, .int .i64 0] 26) = wx at hb2 g0 g1 hs ⊢
    have k0 := blkC g0 0 rfl
    have k1 := blkC g0 1 rfl
    have k2 := blkC g0 2 rfl
    have hb1 := bel_refl wx
    refine wp_region_held_drew (S := fun W => W.cell? ⟨w.heap.size, 0, none⟩ = some (.bool an) ∧ W.cell? ⟨w.heap.size, 1, none⟩ = some (.slice ao n ca) ∧ W.cell? ⟨w.heap.size, 2, none⟩ = some (.int .i64 e)) (by kernel_rfl) ⟨k0, k1, k2⟩ (fun hHeld => ?_)
    refine wpAnyH_take (i := 0) (v := ?_) rfl (by kernel_rfl) (by kernel_rfl) (by kernel_rfl) (fun _ _ _ h => h) (Or.inl ⟨by rfl, ?_⟩) (by assumption) ?_
    rotate_left
    · intro w hSw; (try dsimp only at hSw); go_simp; first | done | with_reducible rfl
    simp only [Act.put, List.setIfInBounds_toArray, List.set_cons_zero, List.set_cons_succ]
    refine wpAnyH_take (i := 1) (v := ?_) rfl (by kernel_rfl) (by kernel_rfl) (by kernel_rfl) (fun _ _ _ h => h) (Or.inl ⟨by rfl, ?_⟩) (by assumption) ?_
    rotate_left
    · intro w hSw; (try dsimp only at hSw); go_simp; first | done | with_reducible rfl
    simp only [Act.put, List.setIfInBounds_toArray, List.set_cons_zero, List.set_cons_succ]
    refine wpAnyH_take (i := 2) (v := undef) rfl (by kernel_rfl) (by kernel_rfl) (by kernel_rfl) (fun _ _ _ h => h) (Or.inr ⟨by rfl, rfl⟩) (by assumption) ?_
    simp only [Act.put, List.setIfInBounds_toArray, List.set_cons_zero, List.set_cons_succ]
    refine wpAnyH_take (i := 3) (v := undef) rfl (by kernel_rfl) (by kernel_rfl) (by kernel_rfl) (fun _ _ _ h => h) (Or.inr ⟨by rfl, rfl⟩) (by assumption) ?_
    simp only [Act.put, List.setIfInBounds_toArray, List.set_cons_zero, List.set_cons_succ]
    refine wpAnyH_take (i := 4) (v := undef) rfl (by kernel_rfl) (by kernel_rfl) (by kernel_rfl) (fun _ _ _ h => h) (Or.inr ⟨by rfl, rfl⟩) (by assumption) ?_
    simp only [Act.put, List.setIfInBounds_toArray, List.set_cons_zero, List.set_cons_succ]
    refine wpAnyH_take (i := 5) (v := undef) rfl (by kernel_rfl) (by kernel_rfl) (by kernel_rfl) (fun _ _ _ h => h) (Or.inr ⟨by rfl, rfl⟩) (by assumption) ?_
    simp only [Act.put, List.setIfInBounds_toArray, List.set_cons_zero, List.set_cons_succ]
    refine wpAnyH_take (i := 6) (v := ?_) rfl (by kernel_rfl) (by kernel_rfl) (by kernel_rfl) (fun _ _ _ h => h) (Or.inl ⟨by rfl, ?_⟩) (by assumption) ?_
    rotate_left
    · intro w hSw; (try dsimp only at hSw); go_simp; first | done | with_reducible rfl
    simp only [Act.put, List.setIfInBounds_toArray, List.set_cons_zero, List.set_cons_succ]
    refine wpAnyH_take (i := 7) (v := ?_) rfl (by kernel_rfl) (by kernel_rfl) (by kernel_rfl) (fun _ _ _ h => h) (Or.inl ⟨by rfl, ?_⟩) (by assumption) ?_
    rotate_left
    · intro w hSw; (try dsimp only at hSw); go_simp; first | done | with_reducible rfl
    simp only [Act.put, List.setIfInBounds_toArray, List.set_cons_zero, List.set_cons_succ]
    refine wpAnyH_take (i := 8) (v := ?_) rfl (by kernel_rfl) (by kernel_rfl) (by kernel_rfl) (fun _ _ _ h => h) (Or.inl ⟨by rfl, ?_⟩) (by assumption) ?_
    rotate_left
    · intro w hSw; (try dsimp only at hSw); go_simp; first | done | with_reducible rfl
    simp only [Act.put, List.setIfInBounds_toArray, List.set_cons_zero, List.set_cons_succ]
    refine wpAnyH_take (i := 10) (v := ?_) rfl (by kernel_rfl) (by kernel_rfl) (by kernel_rfl) (fun _ _ _ h => h) (Or.inl ⟨by rfl, ?_⟩) (by assumption) ?_
    rotate_left
    · intro w hSw; (try dsimp only at hSw); go_simp; first | done | with_reducible rfl
    simp only [Act.put, List.setIfInBounds_toArray, List.set_cons_zero, List.set_cons_succ]
    refine wpAnyH_take (i := 11) (v := ?_) rfl (by kernel_rfl) (by kernel_rfl) (by kernel_rfl) (fun _ _ _ h => h) (Or.inl ⟨by rfl, ?_⟩) (by assumption) ?_
    rotate_left
    · intro w hSw; (try dsimp only at hSw); go_simp; first | done | with_reducible rfl
    simp only [Act.put, List.setIfInBounds_toArray, List.set_cons_zero, List.set_cons_succ]
    refine wpAnyH_ready (rs := [9]) (by kernel_rfl) (by simp) ?_
    refine AllReadyH.cons rfl (fun K hK => ?_) AllReadyH.nil
    go_simp
    refine (hC _ (bel_trans hb2 hb1.drew)).mono ?_
    rintro y w3 ⟨so, sn, sc, rfl, hv, hbv1⟩
    have q0 := (hbv1.block (w.heap.size + 1) (by show _ < wx.heap.size; omega)).trans g1
    have x0 := blkC q0 0 rfl
    have x1 := blkC q0 1 rfl
    have x2 := blkC q0 2 rfl
    have z0 := blkF q0 0
    have z1 := blkF q0 1
    have z2 := blkF q0 2
    refine hK.out _ _ (keepB (W := wx.drew) ⟨k0, k1, k2⟩ hbv1) (fun hHeld2 => ?_)
    clear hK K hHeld
    try simp only [Act.put, List.setIfInBounds_toArray, List.set_cons_zero, List.set_cons_succ]
    refine wpAnyH_take (i := 12) (v := ?_) rfl (by kernel_rfl) (by kernel_rfl) (by kernel_rfl) (fun _ _ _ h => h) (Or.inl ⟨by rfl, ?_⟩) (by assumption) ?_
    rotate_left
    · intro w hSw; (try dsimp only at hSw); go_simp; first | done | with_reducible rfl
    simp only [Act.put, List.setIfInBounds_toArray, List.set_cons_zero, List.set_cons_succ]
    refine wpAnyH_ready (rs := [13]) (by kernel_rfl) (by simp) ?_
    refine AllReadyH.cons rfl (fun K hK => ?_) AllReadyH.nil
    go_simp
    refine hK.out _ _ (keepS hHeld2 (by omega) _ _ _) (fun hHeld3 => ?_)
    clear hK K
    refine wpAnyH_done (by kernel_rfl) ?_ _
    all_goals go_wp2
    all_goals
      refine bodyPost_ret (v := .agg #[.bool false, .slice so sn sc, .int .i64 e]) (by simp [results, Tryz.results33, go_sem, x0, x1, x2]) rfl ⟨_, rfl, ?_⟩
      exact ans_res (g := w.heap.size + 1) (hv.from hb1.drew) hb2 (by omega) (by omega) _ _ _
  ·
    go_enter Tryz.func33, Tryz.ntmps33
    go_wp2_with fail
    generalize (w.alloc (.cells #[.bool an, .slice ao n ca, .int .i64 e] 26)).alloc (.cells #[.bool false, .slice none 0 0, .int .i64 0] 26) = wx at hb2 g0 g1 hs ⊢
    have k0 := blkC g0 0 rfl
    have k1 := blkC g0 1 rfl
    have k2 := blkC g0 2 rfl
    have hb1 := bel_refl wx
    go_region_held3 (fun W => W.cell? ⟨w.heap.size, 0, none⟩ = some (.bool an) ∧ W.cell? ⟨w.heap.size, 1, none⟩ = some (.slice ao n ca) ∧ W.cell? ⟨w.heap.size, 2, none⟩ = some (.int .i64 e))
      (first | assumption | exact ⟨k0, k1, k2⟩ | exact keepB (W := wx.drew) ⟨k0, k1, k2⟩ hbv1 | exact keepS (keepB (W := wx.drew) ⟨k0, k1, k2⟩ hbv1) (by omega) _ _ _)
      (first | (go_at_call 64; refine (hC _ (bel_trans hb2 hb1.drew)).mono ?_; rintro y w3 ⟨so, sn, sc, rfl, hv, hbv1⟩; have q0 := (hbv1.block (w.heap.size + 1) (by show _ < wx.heap.size; omega)).trans g1; have x0 := blkC q0 0 rfl; have x1 := blkC q0 1 rfl; have x2 := blkC q0 2 rfl; have z0 := blkF q0 0; have z1 := blkF q0 1; have z2 := blkF q0 2) | fail)
    all_goals go_wp2
    all_goals
      refine bodyPost_ret (v := .agg #[.bool (decide (0 < n)), .slice so sn sc, .int .i64 e]) (by simp [results, Tryz.results33, go_sem, x0, x1, x2]) rfl ⟨_, rfl, ?_⟩
      exact ans_res (g := w.heap.size + 1) (hv.from hb1.drew) hb2 (by omega) (by omega) _ _ _
theorem neg_dy {x : NumR} (h : okR x = true) : Dy (-x.V) (!x.ng && decide (0 < x.n)) (val x.d x.n) x.e := by
  have hd := (okR_dy h).1
  by_cases h0 : 0 < x.n
  · have hv := val_pos (okR_sane h).1 h0
    have := hd.neg hv
    simpa [h0] using this
  · rcases of_decide_eq_true h with ⟨h1, h2, h3⟩ | ⟨h1, _⟩
    · have hv : val x.d x.n = 0 := by rw [h1]; rfl
      have := hd.eq_zero.2 hv
      rw [this, hv, h3]
      simpa [h0] using Dy.zero
    · omega
set_option maxRecDepth 100000 in
set_option maxHeartbeats 1000000 in
theorem dneg_ok (x : NumR) (w : World) (hx : Row w x.ao x.n x.cap x.d) (ok : okR x = true) :
    Calls Tryz.prog 10 #[x.v] w fun r w' => ∃ v, r = .returned (.tuple #[v, .int .i64 0]) ∧ DAns w w' (-x.V) v := by
  have hV := fun W hb => dvalid_any x.ng x.ao x.n x.cap x.d x.e W (hx.keeps hb)
  have hS := fun W hb => withSign_any (!x.ng) x W (hx.keeps hb) (okR_sane ok)
  have hy : Dy (-x.V) (!x.ng && decide (0 < x.n)) (val x.d x.n) x.e := neg_dy ok
  have hk : okN x.ng x.d x.n x.e = okR x := rfl
  rw [hk, ok] at hV
  clear ok hk
  generalize -x.V = V at hy ⊢
  unfold NumR.v at hS ⊢
  obtain ⟨an, ao, n, ca, a, e⟩ := x
  simp only at *
  go_enter Tryz.func10, Tryz.ntmps10
  go_wp2_with fail
  refine (hV _ (bel_alloc2 _ _ _)).mono ?_
  rintro r w1 ⟨rfl, hb1⟩
  have hbw := bel_trans (bel_alloc2 w _ _) hb1
  have g0 := (hb1.block w.heap.size (by rw [size2]; omega)).trans (heap_a2 _ _ _)
  have g1 := (hb1.block (w.heap.size + 1) (by rw [size2]; omega)).trans (heap_b2 _ _ _)
  have hs2 : w.heap.size + 2 ≤ w1.heap.size := by have := hb1.size; rw [size2] at this; exact this
  have k0 := blkC g0 0 rfl
  have k1 := blkC g0 1 rfl
  have k2 := blkC g0 2 rfl
  go_wp2_with fail
  refine (hS _ hbw).mono ?_
  rintro r w3 ⟨s, rfl, hA⟩
  obtain ⟨so, sn, sc, rfl⟩ := hA.num.shape
  have q0 := (hA.below.block (w.heap.size + 1) (by omega)).trans g1
  have x0 := blkC q0 0 rfl
  have x1 := blkC q0 1 rfl
  have x2 := blkC q0 2 rfl
  have z0 := blkF q0 0
  have z1 := blkF q0 1
  have z2 := blkF q0 2
  generalize hsg : (!an && decide (0 < n)) = sgx at *
  go_wp2
  refine bodyPost_ret (v := .tuple #[.agg #[.bool sgx, .slice so sn sc, .int .i64 e], .int .i64 0]) (by simp [results, Tryz.results10, go_sem, x0, x1, x2]) rfl ⟨_, rfl, ?_⟩
  exact ⟨_, _, _, _, rfl, hy, ans_res (g := w.heap.size + 1) hA hbw (by omega) (by omega) _ _ _⟩
end Go.Proofs.YtmpioejllfedoaaGreatDoor

/-
  Package dyadic: compare, Cmp, by contracts.
-/
namespace Go.Proofs.YtmpioejllfedoaaGreatDoor
open Go Go.RowKit Go.Proofs.YtmpioejllfedoaaGreatDoor.M
set_option linter.unusedSimpArgs false
set_option linter.unusedVariables false

theorem sgn_V {x : NumR} (sx : Sane x) : (sgn x.ng x.n = 0 ∧ x.V = 0 ∧ x.n = 0) ∨ (sgn x.ng x.n = 1 ∧ 0 < x.V ∧ 0 < x.n ∧ x.ng = false) ∨ (sgn x.ng x.n = -1 ∧ x.V < 0 ∧ 0 < x.n ∧ x.ng = true) := by
  by_cases h0 : x.n = 0
  · left
    refine ⟨by simp [sgn, h0], ?_, h0⟩
    show sg x.ng (val x.d x.n) * _ = 0
    rw [h0]
    show sg x.ng 0 * _ = 0
    rw [sg_zero, Int.zero_mul]
  · right
    have hp := Int.mul_pos (val_pos sx.1 (show 0 < x.n by omega)) (pw_pos x.e)
    have hV : x.V = sg x.ng (val x.d x.n) * pw x.e := rfl
    cases hg : x.ng
    · left
      rw [hg] at hV
      exact ⟨by simp [sgn, h0], by rw [hV]; exact hp, by omega, rfl⟩
    · right
      rw [hg] at hV
      refine ⟨by simp [sgn, h0], ?_, by omega, rfl⟩
      rw [hV]
      show -val x.d x.n * pw x.e < 0
      rw [Int.neg_mul]; omega
end Go.Proofs.YtmpioejllfedoaaGreatDoor

/-
  Package dyadic's calls on numbers that are told by their worth.
-/
namespace Go.Proofs.YtmpioejllfedoaaGreatDoor
open Go Go.RowKit Go.Proofs.YtmpioejllfedoaaGreatDoor.M
set_option linter.unusedSimpArgs false
set_option linter.unusedVariables false

/-- A number by its worth, laid open. -/
theorem DNum.open {w : World} {v : Value} {V : Int} (h : DNum w v V) (ok : Dok V) : ∃ x : NumR, v = x.v ∧ Row w x.ao x.n x.cap x.d ∧ okR x = true ∧ x.V = V := by
  obtain ⟨ng, s, m, e, rfl, hy, ao, n, cap, d, rfl, hR, hN, rfl⟩ := h
  refine ⟨⟨ng, ao, n, cap, d, e⟩, rfl, hR, ?_, hy.val.symm⟩
  obtain ⟨o1, o2, o3⟩ := hy.ok.1 ok
  refine decide_eq_true ?_
  by_cases h0 : n = 0
  · left
    have hz : val d n = 0 := by rw [h0]; rfl
    rcases hy.form with ⟨_, f2, f3⟩ | ⟨f1, _⟩
    · exact ⟨h0, f2, f3⟩
    · omega
  · right
    have hp := val_pos hN (show 0 < n by omega)
    rcases hy.form with ⟨f1, _⟩ | ⟨_, f2⟩
    · omega
    · refine ⟨by show 0 < n; omega, ⟨?_, hN⟩, ?_, o2, o3⟩
      · exact Num.len (w := w) (ao := ao) (cap := cap) ⟨_, _, _, _, rfl, hR, hN, rfl⟩ o1
      · obtain ⟨k, hk⟩ : ∃ k, n = 1 + k := ⟨n - 1, by omega⟩
        have := val_split d 1 k
        rw [← hk] at this
        rw [this, show val d 1 = d 0 by show 0 + d 0 * 1 = _; omega, show P 1 = 1073741824 from rfl] at f2
        show d 0 % 2 = 1
        omega
theorem DFit.yes {w w' : World} {V er : Int} {v : Value} (h : DFit w w' V v er) (ok : Dok V) : er = 0 ∧ DAns w w' V v := by
  rcases h.2 with ⟨_, h1, h2⟩ | ⟨hn, _⟩
  · exact ⟨h1, h2⟩
  · exact absurd ok hn
theorem add_D {w : World} {x y : Value} {A B : Int} (hx : DNum w x A) (hy : DNum w y B) (oA : Dok A) (oB : Dok B) (hT : Tab w) :
    Calls Tryz.prog 7 #[x, y] w fun r w' => ∃ v er, r = .returned (.tuple #[v, .int .i64 er]) ∧ DFit w w' (A + B) v er := by
  obtain ⟨x, rfl, hR, ok, rfl⟩ := hx.open oA
  obtain ⟨y, rfl, hR', ok', rfl⟩ := hy.open oB
  exact dadd_ok x y w hR hR' ok ok' hT
theorem sub_D {w : World} {x y : Value} {A B : Int} (hx : DNum w x A) (hy : DNum w y B) (oA : Dok A) (oB : Dok B) (hT : Tab w) :
    Calls Tryz.prog 8 #[x, y] w fun r w' => ∃ v er, r = .returned (.tuple #[v, .int .i64 er]) ∧ DFit w w' (A - B) v er := by
  obtain ⟨x, rfl, hR, ok, rfl⟩ := hx.open oA
  obtain ⟨y, rfl, hR', ok', rfl⟩ := hy.open oB
  exact dsub_ok x y w hR hR' ok ok' hT
theorem mul_D {w : World} {x y : Value} {A B : Int} (hx : DNum w x A) (hy : DNum w y B) (oA : Dok A) (oB : Dok B) (hT : Tab w) :
    Calls Tryz.prog 9 #[x, y] w fun r w' => ∃ v er C, r = .returned (.tuple #[v, .int .i64 er]) ∧ C * 2 ^ 4194304 = A * B ∧ DFit w w' C v er := by
  obtain ⟨x, rfl, hR, ok, rfl⟩ := hx.open oA
  obtain ⟨y, rfl, hR', ok', rfl⟩ := hy.open oB
  refine (dmul_ok x y w hR hR' ok ok' hT).mono ?_
  rintro r w' ⟨v, er, rfl, hF⟩
  exact ⟨v, er, _, rfl, mulV_eq (by have := (okR_sane ok).2.2.1; omega) (by have := (okR_sane ok').2.2.1; omega), hF⟩
theorem sign_D {w : World} {x : Value} {A : Int} (hx : DNum w x A) (oA : Dok A) :
    Calls Tryz.prog 19 #[x] w fun r w' => r = .returned (.tuple #[.int .i64 (ord A 0), .int .i64 0]) ∧ Below w.heap.size w w' := by
  obtain ⟨x, rfl, hR, ok, rfl⟩ := hx.open oA
  have := dsignF_any x w hR
  rw [ok] at this
  have e : sgn x.ng x.n = ord x.V 0 := by
    rcases sgn_V (okR_sane ok) with ⟨a, b, _⟩ | ⟨a, b, _⟩ | ⟨a, b, _⟩
    · rw [a, b, ord_eq rfl]
    · rw [a, ord_gt b]
    · rw [a, ord_lt b]
  rw [← e]
  exact this
theorem neg_D {w : World} {x : Value} {A : Int} (hx : DNum w x A) (oA : Dok A) :
    Calls Tryz.prog 10 #[x] w fun r w' => ∃ v, r = .returned (.tuple #[v, .int .i64 0]) ∧ DAns w w' (-A) v := by
  obtain ⟨x, rfl, hR, ok, rfl⟩ := hx.open oA
  exact dneg_ok x w hR ok
end Go.Proofs.YtmpioejllfedoaaGreatDoor

/-
  Package plumblaw3: alive.
-/
namespace Go.Proofs.YtmpioejllfedoaaGreatDoor
open Go Go.RowKit Go.Proofs.YtmpioejllfedoaaGreatDoor.M
set_option linter.unusedSimpArgs false
set_option linter.unusedVariables false

end Go.Proofs.YtmpioejllfedoaaGreatDoor

/-
  The document's own answers (plumbref2): Shl, Shr, by contracts over the same values.
-/
namespace Go.Proofs.YtmpioejllfedoaaGreatDoor
open Go Go.RowKit Go.Proofs.YtmpioejllfedoaaGreatDoor.M
set_option linter.unusedSimpArgs false
set_option linter.unusedVariables false

end Go.Proofs.YtmpioejllfedoaaGreatDoor

/-
  plumblaw2's Keep: lists of answers that are kept, in memory: what it is (Kp), Add, by its contract.
-/
namespace Go.Proofs.YtmpioejllfedoaaGreatDoor
open Go Go.RowKit Go.Proofs.YtmpioejllfedoaaGreatDoor.M
set_option linter.unusedSimpArgs false
set_option linter.unusedVariables false

/-- One put in another's place. -/
def updV {α : Type} (v : Nat → α) (i : Nat) (x : α) : Nat → α := fun j => if j = i then x else v j
theorem updV_same {α : Type} (v : Nat → α) (i : Nat) (x : α) : updV v i x i = x := by simp [updV]
theorem updV_other {α : Type} (v : Nat → α) {i j : Nat} (x : α) (h : j ≠ i) : updV v i x j = v j := by simp [updV, h]
/-- The first m of v. -/
def valsV (v : Nat → Value) (m : Nat) : List Value := (List.range m).map v
/-- A list of slices that is the call's own. -/
def OutV (B : Nat) (w : World) (x : Value) (m : Nat) (v : Nat → Value) : Prop := w.ownsRow B 24 1 x m (valsV v m)
theorem OutV.shape {B : Nat} {w : World} {x : Value} {m : Nat} {v : Nat → Value} (h : OutV B w x m v) : ∃ xo xc, x = .slice xo m xc ∧ m ≤ xc ∧ xc ≤ 9223372036854775807 ∧ (0 < m → ∃ g, xo = some ⟨g, 0, none⟩) := by
  rcases h.2 with ⟨rfl, rfl⟩ | ⟨g, cap, cur, rfl, hb, hg, hn, hm, _⟩
  · exact ⟨none, 0, rfl, Nat.le_refl _, by decide, fun h => by omega⟩
  · exact ⟨_, cap, rfl, hn, by unfold maxLen at hm; exact hm, fun _ => ⟨g, rfl⟩⟩
theorem OutV.of_block {B : Nat} {w w' : World} {x : Value} {m : Nat} {v : Nat → Value} (h : OutV B w x m v) (hb : ∀ g, x.ownBlock = some g → w'.heap[g]? = w.heap[g]?) : OutV B w' x m v := by
  refine ⟨h.1, ?_⟩
  rcases h.2 with hn | ⟨g, cap, cur, rfl, hbb, hg, rest⟩
  · exact .inl hn
  · exact .inr ⟨g, cap, cur, rfl, hbb, (hb g rfl).trans hg, rest⟩
theorem Out.of_block {B : Nat} {w w' : World} {x : Value} {n : Nat} {d : Nat → Int} (h : Out B w x n d) (hb : ∀ g, x.ownBlock = some g → w'.heap[g]? = w.heap[g]?) : Out B w' x n d := by
  refine ⟨h.1, ?_⟩
  rcases h.2 with hn | ⟨g, cap, cur, rfl, hbb, hg, rest⟩
  · exact .inl hn
  · exact .inr ⟨g, cap, cur, rfl, hbb, (hb g rfl).trans hg, rest⟩
theorem Out.typed {B : Nat} {w : World} {x : Value} {n : Nat} {d : Nat → Int} (h : Out B w x n d) {g : Nat} (hg : x.ownBlock = some g) : ∃ cur z, w.heap[g]? = some (.cells cur 3 z) := by
  rcases h.2 with ⟨rfl, _⟩ | ⟨g', cap, cur, rfl, hbb, hg', rest⟩
  · simp [Value.ownBlock] at hg
  · simp only [Value.ownBlock, Option.some.injEq] at hg; subst hg; exact ⟨cur, _, hg'⟩
theorem OutV.typed {B : Nat} {w : World} {x : Value} {n : Nat} {v : Nat → Value} (h : OutV B w x n v) {g : Nat} (hg : x.ownBlock = some g) : ∃ cur z, w.heap[g]? = some (.cells cur 24 z) := by
  rcases h.2 with ⟨rfl, _⟩ | ⟨g', cap, cur, rfl, hbb, hg', rest⟩
  · simp [Value.ownBlock] at hg
  · simp only [Value.ownBlock, Option.some.injEq] at hg; subst hg; exact ⟨cur, _, hg'⟩
theorem OutV.ge {B : Nat} {w : World} {x : Value} {n : Nat} {v : Nat → Value} (h : OutV B w x n v) {g : Nat} (hg : x.ownBlock = some g) : B ≤ g ∧ g < w.heap.size := by
  rcases h.2 with ⟨rfl, _⟩ | ⟨g', cap, cur, rfl, hbb, hg', rest⟩
  · simp [Value.ownBlock] at hg
  · simp only [Value.ownBlock, Option.some.injEq] at hg; subst hg; exact ⟨hbb, (Array.getElem?_eq_some_iff.1 hg').1⟩
theorem Out.ge {B : Nat} {w : World} {x : Value} {n : Nat} {v : Nat → Int} (h : Out B w x n v) {g : Nat} (hg : x.ownBlock = some g) : B ≤ g ∧ g < w.heap.size := by
  rcases h.2 with ⟨rfl, _⟩ | ⟨g', cap, cur, rfl, hbb, hg', rest⟩
  · simp [Value.ownBlock] at hg
  · simp only [Value.ownBlock, Option.some.injEq] at hg; subst hg; exact ⟨hbb, (Array.getElem?_eq_some_iff.1 hg').1⟩
theorem OutV.alloc {B : Nat} {w : World} {x : Value} {m : Nat} {v : Nat → Value} (h : OutV B w x m v) (o : Obj) : OutV B (w.alloc o) x m v := h.of_block fun g hg => Below.heap_alloc _ _ _ (h.ge hg).2
end Go.Proofs.YtmpioejllfedoaaGreatDoor

/-
  What is kept, with the blocks it lies in (Kept); Keep.Add and answer of a number (An); Lent and Back.
-/
namespace Go.Proofs.YtmpioejllfedoaaGreatDoor
open Go Go.RowKit Go.Proofs.YtmpioejllfedoaaGreatDoor.M
set_option linter.unusedSimpArgs false
set_option linter.unusedVariables false

/-- A number's list, from B on. -/
def An (B : Nat) (w : World) (v : Value) (V : Int) : Prop := ∃ t d, Out B w v t d ∧ Nrm d t ∧ val d t = V
theorem An.keeps {B : Nat} {w w' : World} {v : Value} {V : Int} (h : An B w v V) (k : Below w.heap.size w w') : An B w' v V := by
  obtain ⟨t, d, h1, h2⟩ := h
  exact ⟨t, d, h1.stays k, h2⟩
theorem An.lower {B B' : Nat} {w : World} {v : Value} {V : Int} (h : An B w v V) (hB : B' ≤ B) : An B' w v V := by
  obtain ⟨t, d, h1, h2⟩ := h
  exact ⟨t, d, h1.lower hB, h2⟩
theorem An.nil (B : Nat) (w : World) : An B w (.slice none 0 0) 0 := ⟨0, fun _ => 0, Out.nil _ _ _, ⟨fun i hi => by omega, .inl rfl⟩, rfl⟩
theorem Ans.an {w w' : World} {V : Int} {v : Value} (h : Ans w w' V v) : An w.heap.size w' v V := by
  obtain ⟨t, d, h1, h2, h3, h4⟩ := h
  exact ⟨t, d, h1, h2, h3⟩
theorem An.shape {B : Nat} {w : World} {v : Value} {V : Int} (h : An B w v V) : ∃ ao n cap, v = .slice ao n cap := by
  obtain ⟨t, d, h1, h2⟩ := h
  obtain ⟨ao, cap, e, _⟩ := h1.row
  exact ⟨ao, t, cap, e⟩
theorem An.num {B : Nat} {w : World} {v : Value} {V : Int} (h : An B w v V) : Num w v V := by
  obtain ⟨t, d, h1, h2, h3⟩ := h
  obtain ⟨ao, cap, rfl, hR⟩ := h1.row
  exact ⟨ao, t, cap, d, rfl, hR, h2, h3⟩
theorem An.ge {B : Nat} {w : World} {v : Value} {V : Int} (h : An B w v V) {g : Nat} (hg : v.ownBlock = some g) : B ≤ g ∧ g < w.heap.size := by
  obtain ⟨t, d, h1, h2, h3⟩ := h
  exact h1.ge hg
/-- The blocks behind an Add. -/
def S2 (S : Nat → Prop) (l : Value) (s : Nat) : Nat → Prop := fun g => S g ∨ l.ownBlock = some g ∨ s ≤ g
/-- A list and an error, of a number that may be too long. -/
def FitA (B : Nat) (w : World) (V : Int) (v : Value) (er : Int) : Prop := (V < P 2000 ∧ er = 0 ∧ An B w v V) ∨ (P 2000 ≤ V ∧ er = 2 ∧ v = .slice none 0 0)
theorem FitA.keeps {B : Nat} {w w' : World} {v : Value} {V er : Int} (h : FitA B w V v er) (k : Below w.heap.size w w') : FitA B w' V v er := by
  rcases h with ⟨h1, h2, h3⟩ | h
  · exact .inl ⟨h1, h2, h3.keeps k⟩
  · exact .inr h
theorem FitA.lower {B B' : Nat} {w : World} {v : Value} {V er : Int} (h : FitA B w V v er) (hB : B' ≤ B) : FitA B' w V v er := by
  rcases h with ⟨h1, h2, h3⟩ | h
  · exact .inl ⟨h1, h2, h3.lower hB⟩
  · exact .inr h
theorem FitA.ge {B : Nat} {w : World} {v : Value} {V er : Int} (h : FitA B w V v er) {g : Nat} (hg : v.ownBlock = some g) : B ≤ g ∧ g < w.heap.size := by
  rcases h with ⟨h1, h2, h3⟩ | ⟨_, _, rfl⟩
  · exact h3.ge hg
  · simp [Value.ownBlock] at hg
theorem FitA.shape {B : Nat} {w : World} {v : Value} {V er : Int} (h : FitA B w V v er) : ∃ ao n cap, v = .slice ao n cap := by
  rcases h with ⟨h1, h2, h3⟩ | ⟨_, _, rfl⟩
  · exact h3.shape
  · exact ⟨_, _, _, rfl⟩
/-- A lent list: three marks behind it. -/
def lentD (a : Nat → Int) (n : Nat) : Nat → Int := cat a n (fun i => -71 - (i : Int))
/-- What Lent answers: a block of its own. -/
def LentA (w w' : World) (v : Value) (n : Nat) (a : Nat → Int) : Prop := ∃ g cap, v = .slice (some ⟨g, 0, none⟩) (n + 3) cap ∧ Out w.heap.size w' v (n + 3) (lentD a n) ∧ Below w.heap.size w w'
end Go.Proofs.YtmpioejllfedoaaGreatDoor

/-
  Lent lists: what is read of them, and Back.
-/
namespace Go.Proofs.YtmpioejllfedoaaGreatDoor
open Go Go.RowKit Go.Proofs.YtmpioejllfedoaaGreatDoor.M
set_option linter.unusedSimpArgs false
set_option linter.unusedVariables false

theorem LentA.below {w w' : World} {v : Value} {n : Nat} {a : Nat → Int} (h : LentA w w' v n a) : Below w.heap.size w w' := by
  obtain ⟨g, cap, _, _, hb⟩ := h
  exact hb
theorem LentA.parts {w w' : World} {v : Value} {n : Nat} {a : Nat → Int} (h : LentA w w' v n a) : ∃ g cap, v = .slice (some ⟨g, 0, none⟩) (n + 3) cap ∧ Out w.heap.size w' (.slice (some ⟨g, 0, none⟩) (n + 3) cap) (n + 3) (lentD a n) := by
  obtain ⟨g, cap, rfl, h, _⟩ := h
  exact ⟨g, cap, rfl, h⟩
end Go.Proofs.YtmpioejllfedoaaGreatDoor

/-
  The document's own Low, Pow, Root, by contracts over the same values.
-/
namespace Go.Proofs.YtmpioejllfedoaaGreatDoor
open Go Go.RowKit Go.Proofs.YtmpioejllfedoaaGreatDoor.M
set_option linter.unusedSimpArgs false
set_option linter.unusedVariables false

end Go.Proofs.YtmpioejllfedoaaGreatDoor

/-
  Package plumbref3: Norm, by its contract: the one form of a number, however long.
-/
namespace Go.Proofs.YtmpioejllfedoaaGreatDoor
open Go Go.RowKit Go.Proofs.YtmpioejllfedoaaGreatDoor.M
set_option linter.unusedSimpArgs false
set_option linter.unusedVariables false

end Go.Proofs.YtmpioejllfedoaaGreatDoor

/-
  Package plumblaw3: Norm, num, by contracts: a valid number of any one, not too great.
-/
namespace Go.Proofs.YtmpioejllfedoaaGreatDoor
open Go Go.RowKit Go.Proofs.YtmpioejllfedoaaGreatDoor.M
set_option linter.unusedSimpArgs false
set_option linter.unusedVariables false

end Go.Proofs.YtmpioejllfedoaaGreatDoor

/-
  Plain mathematics: numbers that are not too great have a valid form. No Go text in sight.
-/
namespace Go.Proofs.YtmpioejllfedoaaGreatDoor
open Go Go.RowKit Go.Proofs.YtmpioejllfedoaaGreatDoor.M
set_option linter.unusedSimpArgs false
set_option linter.unusedVariables false

/-- V is a multiple of 2^-B, below 2^B, signs aside. -/
def Bd (B : Nat) (V : Int) : Prop := ∃ m : Int, V = m * pw (-(B : Int)) ∧ -(2 ^ (2 * B)) < m ∧ m < 2 ^ (2 * B)
theorem Bd.ok {B : Nat} {V : Int} (h : Bd B V) (hB : B ≤ 29000) : Dok V := by
  obtain ⟨m, rfl, h1, h2⟩ := h
  by_cases h0 : m = 0
  · rw [h0, Int.zero_mul]; exact dok_zero
  · have key : ∀ (ng : Bool) (M : Int), 0 < M → M < 2 ^ (2 * B) → Dok (sg ng M * pw (-(B : Int))) := fun ng M hM hlt => by
      obtain ⟨l, hl⟩ := isLow_ex hM
      have hy := Dy.of ng hl hM (show -4194304 ≤ -(B : Int) by omega)
      obtain ⟨c1, c2, c3⟩ := isLow_odd hl hM
      have hl2 : l < 2 * B := by
        have h3 : (1 : Int) * 2 ^ l ≤ M / 2 ^ l * 2 ^ l := Int.mul_le_mul_of_nonneg_right (by omega) (Int.le_of_lt (two_pos l))
        rw [c3] at h3
        exact two_lt_iff (by omega)
      refine hy.ok.2 ⟨?_, by omega, by omega⟩
      have h4 : M / 2 ^ l ≤ M := Int.ediv_le_self _ (by omega)
      have h5 : (2 : Int) ^ (2 * B) ≤ 2 ^ (30 * 2000) := two_le (by omega)
      rw [P_two]
      omega
    by_cases hp : 0 < m
    · exact key false m hp h2
    · have := key true (-m) (by omega) (by omega)
      rwa [show sg true (-m) = m by simp [sg]] at this
theorem Bd.up {B C : Nat} {V : Int} (h : Bd B V) (hBC : B ≤ C) (hC : C ≤ 4194304) : Bd C V := by
  obtain ⟨m, rfl, h1, h2⟩ := h
  have hp := two_pos (C - B)
  have e : pw (-(B : Int)) = pw (-(C : Int)) * 2 ^ (C - B) := by
    rw [← pw_add (by omega)]; congr 1; omega
  have hle : (2 : Int) ^ (2 * B) * 2 ^ (C - B) ≤ 2 ^ (2 * C) := by rw [← Int.pow_add]; exact two_le (by omega)
  refine ⟨m * 2 ^ (C - B), by rw [e]; grind, ?_, ?_⟩
  · have : -(2 ^ (2 * B)) * 2 ^ (C - B) < m * 2 ^ (C - B) := Int.mul_lt_mul_of_pos_right h1 hp
    rw [Int.neg_mul] at this
    omega
  · have := Int.mul_lt_mul_of_pos_right h2 hp
    omega
theorem Bd.add {B : Nat} {V W : Int} (h : Bd B V) (k : Bd B W) (hB : B < 4194304) : Bd (B + 1) (V + W) := by
  obtain ⟨m, rfl, h1, h2⟩ := h
  obtain ⟨n, rfl, k1, k2⟩ := k
  have e : pw (-(B : Int)) = pw (-((B + 1 : Nat) : Int)) * 2 := by
    have := pw_add (e := -((B + 1 : Nat) : Int)) (by omega) 1
    rw [Int.pow_succ, Int.pow_zero, Int.one_mul] at this
    rw [← this]; congr 1; omega
  have e2 : (2 : Int) ^ (2 * (B + 1)) = 2 ^ (2 * B) * 4 := by rw [show 2 * (B + 1) = 2 * B + 2 by omega, Int.pow_add]; rfl
  refine ⟨2 * (m + n), by rw [e]; grind, ?_, ?_⟩ <;> rw [e2] <;> omega
theorem Bd.neg {B : Nat} {V : Int} (h : Bd B V) : Bd B (-V) := by
  obtain ⟨m, rfl, h1, h2⟩ := h
  exact ⟨-m, by rw [Int.neg_mul], by omega, by omega⟩
theorem Bd.mul {B : Nat} {V W U : Int} (h : Bd B V) (k : Bd B W) (hU : U * 2 ^ 4194304 = V * W) (hB : B ≤ 1000000) : Bd (2 * B) U := by
  obtain ⟨m, rfl, h1, h2⟩ := h
  obtain ⟨n, rfl, k1, k2⟩ := k
  have e : U = m * n * pw (-((2 * B : Nat) : Int)) := by
    refine scale_inj ?_
    rw [hU, Int.mul_assoc (m * n), show -((2 * B : Nat) : Int) = -(B : Int) + -(B : Int) by omega, ← pw_mul (by omega) (by omega)]; grind
  refine ⟨m * n, e, ?_, ?_⟩
  all_goals
    have hab : (m * n).natAbs < ((2 : Int) ^ (2 * (2 * B))).natAbs := by
      rw [Int.natAbs_mul, show 2 * (2 * B) = 2 * B + 2 * B by omega, Int.pow_add, Int.natAbs_mul]
      exact Nat.mul_lt_mul'' (by have := two_pos (2 * B); omega) (by have := two_pos (2 * B); omega)
    have := two_pos (2 * (2 * B))
    omega
theorem bd_num {ng : Bool} {M e : Int} (h0 : 0 ≤ M) (h1 : M < P 30) (e0 : -3000 < e) (e1 : e < 3000) : Bd 4000 (sg ng M * pw e) := by
  have hs : pw e = pw (-((4000 : Nat) : Int)) * 2 ^ (e + 4000).toNat := by
    rw [← pw_add (by omega)]; congr 1; omega
  have hp := two_pos (e + 4000).toNat
  have hlt : M * 2 ^ (e + 4000).toNat < 2 ^ (2 * 4000) := by
    have a : M * 2 ^ (e + 4000).toNat < P 30 * 2 ^ (e + 4000).toNat := Int.mul_lt_mul_of_pos_right h1 hp
    rw [P_two, ← Int.pow_add] at a
    have b : (2 : Int) ^ (30 * 30 + (e + 4000).toNat) ≤ 2 ^ (2 * 4000) := two_le (by omega)
    omega
  have hn : 0 ≤ M * 2 ^ (e + 4000).toNat := Int.mul_nonneg h0 (Int.le_of_lt hp)
  refine ⟨sg ng (M * 2 ^ (e + 4000).toNat), by rw [hs, sg_sgn, sg_sgn]; grind, ?_, ?_⟩
  all_goals
    generalize M * 2 ^ (e + 4000).toNat = X at *
    generalize (2 : Int) ^ (2 * 4000) = T at *
    cases ng <;> simp only [sg] <;> simp <;> omega
end Go.Proofs.YtmpioejllfedoaaGreatDoor

/-
  What a row gives of its arguments: a slice of ints that came in, as the walks want it.
-/
namespace Go.Proofs.YtmpioejllfedoaaGreatDoor
open Go Go.ChangeShapes Go.WideShapes Go.ChangeAt Go.RowKit Go.Proofs.YtmpioejllfedoaaGreatDoor.M
set_option linter.unusedSimpArgs false
set_option linter.unusedVariables false

theorem rng_of {x : Int} (h : (Lit.int .i64 x).wf = true) : rng x := by
  simp [Lit.wf, IntKind.min, IntKind.max, IntKind.signed, IntKind.bits] at h
  unfold rng; omega
end Go.Proofs.YtmpioejllfedoaaGreatDoor
