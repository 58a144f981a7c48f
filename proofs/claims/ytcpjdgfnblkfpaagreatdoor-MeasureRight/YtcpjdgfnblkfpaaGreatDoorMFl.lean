/-
  Package measure's single operations: apart.Near, productsNear, by their contracts, on tame coordinates.
-/
import Derived.Test.YtcpjdgfnblkfpaaGreatDoorMTm
import Derived.Test.YtcpjdgfnblkfpaaGreatDoorXOi
import Derived.Test.YtcpjdgfnblkfpaaGreatDoorSPr2
namespace Go.Proofs.YtcpjdgfnblkfpaaGreatDoor
open Go Go.RowKit Go.Proofs.YtcpjdgfnblkfpaaGreatDoor.M
set_option linter.unusedSimpArgs false
set_option linter.unusedVariables false

theorem fx_fw {a b : Nat} {x : Int} (h : Fx a b x) : FW x (wd x) := FW.pat (q_fin h.p) h.r
set_option maxRecDepth 100000 in
theorem aNear {p q : Int} (hp : Mz p) (hq : Mz q) (w : World) :
    Calls Tryz.prog 28 #[.int .i64 p, .int .i64 q] w fun r w' => r = .returned (.float .f64 (wd (fsum p (neg q)))) ∧ w' = w := by
  have hd := fun W => run_diffN (P := Tryz.prog) 42 (FW.pat (q_fin hp.2.1) hp.1) (FW.pat (q_fin hq.2.1) hq.1) (q_fin (df_fin hp hq).1) W
  have C1 : Hid (∀ W, Calls Tryz.prog 50 #[.int .i64 p] W fun e w' => e = .returned (.float .f64 (wd p)) ∧ w' = W) := fun W => bitsFloat p W
  have C2 : Hid (∀ W, Calls Tryz.prog 50 #[.int .i64 q] W fun e w' => e = .returned (.float .f64 (wd q)) ∧ w' = W) := fun W => bitsFloat q W
  clear hp hq
  generalize wd p = P at *
  generalize wd q = Q at *
  generalize wd (fsum p (neg q)) = R at *
  go_enter Tryz.func28, Tryz.ntmps28
  go_wp2_with fail
  refine (C1.out _).mono ?_
  rintro _ wz ⟨rfl, hwz⟩
  replace hwz := hwz.symm
  subst hwz
  go_wp2_with fail
  refine (C2.out _).mono ?_
  rintro _ wz ⟨rfl, hwz⟩
  replace hwz := hwz.symm
  subst hwz
  go_wp2
  go_ret
  exact ⟨rfl, rfl⟩
def aP (a b c : Int) : Int := fprod (fsum a (neg b)) (fsum c (neg b))
theorem aP_fx {a b c : Int} (ha : Mz a) (hb : Mz b) (hc : Mz c) : Fx 670 1379 (aP a b c) := ((ha.diff hb).1.prod (hc.diff hb).1 (by decide) (by decide) (by decide)).1
set_option maxRecDepth 100000 in
set_option maxHeartbeats 1000000 in
theorem mProds {ax ay bx by' cx cy : Int} (hax : Mz ax) (hay : Mz ay) (hbx : Mz bx) (hby : Mz by') (hcx : Mz cx) (hcy : Mz cy) (w : World) :
    Calls Tryz.prog 13 #[.agg #[.int .i64 ax, .int .i64 ay], .agg #[.int .i64 bx, .int .i64 by'], .agg #[.int .i64 cx, .int .i64 cy]] w fun r w' => r = .returned (.tuple #[.float .f64 (wd (aP ax bx cx)), .float .f64 (wd (aP ay by' cy))]) ∧ Below w.heap.size w w' := by
  have C1 : Hid (∀ W, Calls Tryz.prog 28 #[.int .i64 ax, .int .i64 bx] W fun r w' => r = .returned (.float .f64 (wd (fsum ax (neg bx)))) ∧ w' = W) := fun W => aNear hax hbx W
  have C2 : Hid (∀ W, Calls Tryz.prog 28 #[.int .i64 cx, .int .i64 bx] W fun r w' => r = .returned (.float .f64 (wd (fsum cx (neg bx)))) ∧ w' = W) := fun W => aNear hcx hbx W
  have C3 : Hid (∀ W, Calls Tryz.prog 28 #[.int .i64 ay, .int .i64 by'] W fun r w' => r = .returned (.float .f64 (wd (fsum ay (neg by')))) ∧ w' = W) := fun W => aNear hay hby W
  have C4 : Hid (∀ W, Calls Tryz.prog 28 #[.int .i64 cy, .int .i64 by'] W fun r w' => r = .returned (.float .f64 (wd (fsum cy (neg by')))) ∧ w' = W) := fun W => aNear hcy hby W
  have hp := fun W => run_prodN (P := Tryz.prog) 42 (fx_fw (hax.diff hbx).1) (fx_fw (hcx.diff hbx).1) (q_fin (aP_fx hax hbx hcx).p) W
  have hq := fun W => run_prodN (P := Tryz.prog) 42 (fx_fw (hay.diff hby).1) (fx_fw (hcy.diff hby).1) (q_fin (aP_fx hay hby hcy).p) W
  clear hax hay hbx hby hcx hcy
  unfold aP
  generalize wd (fprod (fsum ax (neg bx)) (fsum cx (neg bx))) = P at *
  generalize wd (fprod (fsum ay (neg by')) (fsum cy (neg by'))) = Q at *
  generalize wd (fsum ax (neg bx)) = u1 at *
  generalize wd (fsum cx (neg bx)) = v1 at *
  generalize wd (fsum ay (neg by')) = u2 at *
  generalize wd (fsum cy (neg by')) = v2 at *
  have hb0 := bel_a3 w (.cells #[.int .i64 ax, .int .i64 ay] 25) (.cells #[.int .i64 bx, .int .i64 by'] 25) (.cells #[.int .i64 cx, .int .i64 cy] 25)
  have a_k := h3_0 w (.cells #[.int .i64 ax, .int .i64 ay] 25) (.cells #[.int .i64 bx, .int .i64 by'] 25) (.cells #[.int .i64 cx, .int .i64 cy] 25)
  have b_k := h3_1 w (.cells #[.int .i64 ax, .int .i64 ay] 25) (.cells #[.int .i64 bx, .int .i64 by'] 25) (.cells #[.int .i64 cx, .int .i64 cy] 25)
  have c_k := h3_2 w (.cells #[.int .i64 ax, .int .i64 ay] 25) (.cells #[.int .i64 bx, .int .i64 by'] 25) (.cells #[.int .i64 cx, .int .i64 cy] 25)
  go_enter Tryz.func13, Tryz.ntmps13
  go_wp2_with fail
  generalize ((w.alloc (.cells #[.int .i64 ax, .int .i64 ay] 25)).alloc (.cells #[.int .i64 bx, .int .i64 by'] 25)).alloc (.cells #[.int .i64 cx, .int .i64 cy] 25) = x0 at hb0 a_k b_k c_k ⊢
  have f_a0 := blkC a_k 0 rfl
  have f_a1 := blkC a_k 1 rfl
  have f_b0 := blkC b_k 0 rfl
  have f_b1 := blkC b_k 1 rfl
  have f_c0 := blkC c_k 0 rfl
  have f_c1 := blkC c_k 1 rfl
  clear a_k b_k c_k
  go_quiet (first | (go_at_call 28; with_reducible exact Calls.quiet_of_same (C1.out _)) | (go_at_call 28; with_reducible exact Calls.quiet_of_same (C2.out _)))
  go_wp2_with fail
  have hd := bDrewN (bel_refl x0) nq
  have g_a1 := q_cell f_a1 hd
  have g_b1 := q_cell f_b1 hd
  have g_c1 := q_cell f_c1 hd
  have hb1 := bel_trans hb0 hd
  generalize x0.drewN nq = x1 at g_a1 g_b1 g_c1 hb1 ⊢
  clear hd
  clear f_a0 f_a1 f_b0 f_b1 f_c0 f_c1
  go_quiet (first | (go_at_call 28; with_reducible exact Calls.quiet_of_same (C3.out _)) | (go_at_call 28; with_reducible exact Calls.quiet_of_same (C4.out _)))
  go_wp2
  exact bodyPost_ret (v := .tuple #[.float .f64 P, .float .f64 Q]) (by simp [results, Tryz.results13, go_sem]) rfl ⟨rfl, bDrewN hb1 _⟩
end Go.Proofs.YtcpjdgfnblkfpaaGreatDoor
