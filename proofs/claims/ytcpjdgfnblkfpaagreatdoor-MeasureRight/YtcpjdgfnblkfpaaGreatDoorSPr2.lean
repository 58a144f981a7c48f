/-
  Package span: deepProduct, product, by their contracts.
-/
import Derived.Test.YtcpjdgfnblkfpaaGreatDoorSPr
import Derived.Test.YtcpjdgfnblkfpaaGreatDoorSSum2
import Derived.Test.YtcpjdgfnblkfpaaGreatDoorRFma
import Derived.Test.YtcpjdgfnblkfpaaGreatDoorRAdd3
namespace Go.Proofs.YtcpjdgfnblkfpaaGreatDoor
open Go Go.RowKit Go.Proofs.YtcpjdgfnblkfpaaGreatDoor.M
set_option linter.unusedSimpArgs false
set_option linter.unusedVariables false

/-- Two floats are stored into a result's block. -/
theorem fin2 {w w3 : World} (h3 : Below (w.alloc (.cells #[.float .f64 0, .float .f64 0] 98)).heap.size (w.alloc (.cells #[.float .f64 0, .float .f64 0] 98)) w3) (U V : Nat) :
    (store ⟨w.heap.size, 0, none⟩ (.float .f64 U)).run Tryz.prog w3 = .ok () (w3.setCell ⟨w.heap.size, 0, none⟩ (.float .f64 U)) ∧ (store ⟨w.heap.size, 1, none⟩ (.float .f64 V)).run Tryz.prog (w3.setCell ⟨w.heap.size, 0, none⟩ (.float .f64 U)) = .ok () ((w3.setCell ⟨w.heap.size, 0, none⟩ (.float .f64 U)).setCell ⟨w.heap.size, 1, none⟩ (.float .f64 V)) ∧ ((w3.setCell ⟨w.heap.size, 0, none⟩ (.float .f64 U)).setCell ⟨w.heap.size, 1, none⟩ (.float .f64 V)).cell? ⟨w.heap.size, 0, none⟩ = some (.float .f64 U) ∧ ((w3.setCell ⟨w.heap.size, 0, none⟩ (.float .f64 U)).setCell ⟨w.heap.size, 1, none⟩ (.float .f64 V)).cell? ⟨w.heap.size, 1, none⟩ = some (.float .f64 V) ∧ Below w.heap.size w ((w3.setCell ⟨w.heap.size, 0, none⟩ (.float .f64 U)).setCell ⟨w.heap.size, 1, none⟩ (.float .f64 V)) := by
  have hg := q_heap_last w (.cells #[.float .f64 0, .float .f64 0] 98)
  have hba := bel_alloc w (.cells #[.float .f64 0, .float .f64 0] 98)
  have d2 := (h3.block _ (Array.getElem?_eq_some_iff.1 hg).1).trans hg
  have d3 := q_heap_set d2 0 (.float .f64 U)
  have d4 := q_heap_set d3 1 (.float .f64 V)
  have f0 := blkC d2 0 rfl
  have z0 := blkF d2 0
  have f1 := blkC d3 1 rfl
  have z1 := blkF d3 1
  refine ⟨?_, ?_, blkC d4 0 rfl, blkC d4 1 rfl, ?_⟩
  · rw [run_store _ _ _ _ _ rfl, f0]; simp only [z0]; rfl
  · rw [run_store _ _ _ _ _ rfl, f1]; simp only [z1]; rfl
  · exact ((bel_trans hba h3).setCell (p := ⟨w.heap.size, 0, none⟩) (Nat.le_refl _) _).setCell (p := ⟨w.heap.size, 1, none⟩) (Nat.le_refl _) _
set_option maxRecDepth 100000 in
set_option maxHeartbeats 1000000 in
theorem deepProd_any {a b : Int} (ra : rng a) (rb : rng b) (w : World) (H : Hold4 w) :
    Calls Tryz.prog 123 #[.int .i64 a, .int .i64 b] w fun e w' => e = .returned (ivl (mulP 1 a b) (mulP 2 a b)) ∧ Below w.heap.size w w' := by
  have C1 : Hid (∀ W, Hold4 W → Calls Tryz.prog 144 #[.int .i64 a, .int .i64 b, .int .i64 1] W fun e w' => e = .returned (.tuple #[.int .i64 (mulP 1 a b), .int .i64 0]) ∧ Below W.heap.size W w') := fun W h => mul_A ra rb (by omega) h
  have C2 : Hid (∀ W, Hold4 W → Calls Tryz.prog 144 #[.int .i64 a, .int .i64 b, .int .i64 2] W fun e w' => e = .returned (.tuple #[.int .i64 (mulP 2 a b), .int .i64 0]) ∧ Below W.heap.size W w') := fun W h => mul_A ra rb (by omega) h
  unfold ivl
  generalize mulP 1 a b = l at *
  generalize mulP 2 a b = h at *
  have hba := bel_alloc w (.cells #[.float .f64 0, .float .f64 0] 98)
  go_enter Tryz.func123, Tryz.ntmps123
  go_wp2_with fail
  refine (C1.out _ (H.keeps hba)).mono ?_
  rintro _ w1 ⟨rfl, hb1⟩
  have hw1 := bel_trans hba hb1
  go_wp2_with fail
  refine (C2.out _ (H.keeps hw1)).mono ?_
  rintro _ w2 ⟨rfl, hb2⟩
  have hb3 := bel_trans hb1 hb2
  obtain ⟨s0, s1, e0, e1, hbe⟩ := fin2 hb3 (wd l) (wd h)
  have CF : Hid (∀ W, Calls Tryz.prog 50 #[.int .i64 l] W fun e w' => e = .returned (.float .f64 (wd l)) ∧ w' = W) := fun W => bitsFloat l W
  have CG : Hid (∀ W, Calls Tryz.prog 50 #[.int .i64 h] W fun e w' => e = .returned (.float .f64 (wd h)) ∧ w' = W) := fun W => bitsFloat h W
  go_wp2_with fail
  refine (CF.out _).mono ?_
  rintro _ wz ⟨rfl, hwz⟩
  replace hwz := hwz.symm
  subst hwz
  go_wp2_with fail
  refine (CG.out _).mono ?_
  rintro _ wz ⟨rfl, hwz⟩
  replace hwz := hwz.symm
  subst hwz
  go_wp2
  refine bodyPost_ret (v := .agg #[.float .f64 (wd l), .float .f64 (wd h)]) (by simp [results, Tryz.results123, go_sem, e0, e1]) rfl ⟨rfl, hbe⟩
/-- The model's product where it is a number. -/
theorem run_prodN {P : Program} (t : TypeId) {p q : Int} {x y : Nat} (hx : FW p x) (hy : FW q y) (h : cls (fprod p q) ≠ 4) (w : World) : (binOp .mul t (.float .f64 x) (.float .f64 y)).run P w = .ok (.float .f64 (wd (fprod p q))) w := by
  obtain ⟨z, w', hrun, hz⟩ := run_farith (P := P) .mul (.inr (.inr (.inl rfl))) t x y w
  have hf : floatBits .mul .f64 x y = Ieee.double.mul x y := rfl
  rw [hf] at hz
  rcases mul_FW hx hy with ⟨z', e1, e2⟩ | ⟨_, e2⟩
  · rcases hz with ⟨h1, h2⟩ | ⟨h1, _⟩
    · rw [e1] at h1
      cases h1
      rw [hrun, h2, (e2.of h).2.1]
    · rw [e1] at h1; cases h1
  · exact absurd (by rw [e2]; decide) h
theorem key_pos0 {p : Int} (h : nn p) (h0 : rg p ≠ 0) : FloatKind.f64.format.order (wd p) 0 = some .lt ∨ FloatKind.f64.format.order (wd p) 0 = some .gt := by
  have n0 := nn0.1
  have w0 : wd 0 = 0 := by decide
  have k0 : key 0 = 0 := by decide
  have hk : key p ≠ 0 := by
    have := nn_rg h
    unfold key
    unfold rg at h0 this
    split at h0 <;> simp_all <;> omega
  rcases Int.lt_or_gt_of_ne hk with q | q
  · left
    have := q_lt h.1 n0.1 h.2 n0.2 (by rw [k0]; exact q)
    rwa [w0] at this
  · right
    have := q_gt h.1 n0.1 h.2 n0.2 (by rw [k0]; exact q)
    rwa [w0] at this
theorem key_zero0 {p : Int} (h : nn p) (h0 : rg p = 0) : FloatKind.f64.format.order (wd p) 0 = some .eq := by
  have n0 := nn0.1
  have w0 : wd 0 = 0 := by decide
  have k0 : key 0 = 0 := by decide
  have hk : key p = 0 := by
    unfold key
    unfold rg at h0
    split at h0 <;> simp_all
  have := q_eq h.1 n0.1 h.2 n0.2 (by rw [k0]; exact hk)
  rwa [w0] at this
set_option maxRecDepth 100000 in
set_option maxHeartbeats 1000000 in
theorem product_zero {p q : Int} (hp : nn p) (hq : nn q) (h0 : rg p = 0 ∨ rg q = 0) (w : World) :
    Calls Tryz.prog 92 #[.float .f64 (wd p), .float .f64 (wd q)] w fun e w' => e = .returned (ivl 0 0) ∧ Below w.heap.size w w' := by
  have hcv := cv64
  have w0 : wd 0 = 0 := by decide
  unfold ivl
  rw [w0]
  have hba := bel_alloc w (.cells #[.float .f64 0, .float .f64 0] 98)
  obtain ⟨z, w1, hrun, hz, hw1⟩ := run_fprod (P := Tryz.prog) 42 (FW.pat hp.2 hp.1) (FW.pat hq.2 hq.1) (w.alloc (.cells #[.float .f64 0, .float .f64 0] 98))
  have hb1 : Below (w.alloc (.cells #[.float .f64 0, .float .f64 0] 98)).heap.size (w.alloc (.cells #[.float .f64 0, .float .f64 0] 98)) w1 := by
    rcases hw1 with rfl | rfl
    · exact bel_refl _
    · exact (bel_refl _).drew
  obtain ⟨s0, s1, e0, e1, hbe⟩ := fin2 hb1 0 0
  by_cases hp0 : rg p = 0
  · have o := key_zero0 hp hp0
    generalize wd p = x at *
    generalize wd q = y at *
    clear hw1
    go_enter Tryz.func92, Tryz.ntmps92
    go_wp2
    refine bodyPost_ret (v := .agg #[.float .f64 0, .float .f64 0]) (by simp [results, Tryz.results92, go_sem, e0, e1]) rfl ⟨rfl, hbe⟩
  · have hq0 : rg q = 0 := by omega
    have o2 := key_zero0 hq hq0
    rcases key_pos0 hp hp0 with o | o
    all_goals
      generalize wd p = x at *
      generalize wd q = y at *
      clear hw1
      go_enter Tryz.func92, Tryz.ntmps92
      go_wp2
      refine bodyPost_ret (v := .agg #[.float .f64 0, .float .f64 0]) (by simp [results, Tryz.results92, go_sem, e0, e1]) rfl ⟨rfl, hbe⟩
set_option maxRecDepth 100000 in
set_option maxHeartbeats 1000000 in
theorem product_deep {p q : Int} (hp : nn p) (hq : nn q) (p0 : rg p ≠ 0) (q0 : rg q ≠ 0) (hn : nn (fprod p q)) (hd : rg (fprod p q) < 283726776524341248) (w : World) (H : Hold4 w) :
    Calls Tryz.prog 92 #[.float .f64 (wd p), .float .f64 (wd q)] w fun e w' => e = .returned (ivl (mulP 1 p q) (mulP 2 p q)) ∧ Below w.heap.size w w' := by
  have hcv := cv64
  have hba := bel_alloc w (.cells #[.float .f64 0, .float .f64 0] 98)
  have CD : Hid (∀ W, Hold4 W → Calls Tryz.prog 123 #[.int .i64 p, .int .i64 q] W fun e w' => e = .returned (.agg #[.float .f64 (wd (mulP 1 p q)), .float .f64 (wd (mulP 2 p q))]) ∧ Below W.heap.size W w') := fun W h => deepProd_any hp.1 hq.1 W h
  have CP : Hid (∀ W, Calls Tryz.prog 77 #[.float .f64 (wd p)] W fun e w' => e = .returned (.int .i64 p) ∧ w' = W) := fun W => of_FW (FW.pat hp.2 hp.1) W
  have CQ : Hid (∀ W, Calls Tryz.prog 77 #[.float .f64 (wd q)] W fun e w' => e = .returned (.int .i64 q) ∧ w' = W) := fun W => of_FW (FW.pat hq.2 hq.1) W
  have CA : Hid (∀ W, Calls Tryz.prog 14 #[.float .f64 (wd (fprod p q))] W fun e w' => e = .returned (.float .f64 (wd (rg (fprod p q)))) ∧ w' = W) := fun W => mathAbs hn.1 W
  have hrun : ∀ W, (binOp .mul 42 (.float .f64 (wd p)) (.float .f64 (wd q))).run Tryz.prog W = .ok (.float .f64 (wd (fprod p q))) W := fun W => run_prodN _ (FW.pat hp.2 hp.1) (FW.pat hq.2 hq.1) hn.2 W
  have od : FloatKind.f64.format.order (wd (rg (fprod p q))) 283726776524341248 = some .lt := by
    obtain ⟨a1, a2⟩ := q_rg hn.1
    have ca : ¬ cls (rg (fprod p q)) = 4 := by rw [q_cls hn.1]; exact hn.2
    have := q_lt a1 (show rng 283726776524341248 by unfold rng; omega) ca (by decide) (by rw [q_key a2, show key 283726776524341248 = 283726776524341248 by decide]; exact hd)
    rwa [show wd 283726776524341248 = 283726776524341248 by decide] at this
  have o1 := key_pos0 hp p0
  have o2 := key_pos0 hq q0
  unfold ivl
  generalize wd (mulP 1 p q) = U at *
  generalize wd (mulP 2 p q) = V at *
  generalize wd (rg (fprod p q)) = A at *
  generalize wd (fprod p q) = N at *
  generalize wd p = x at *
  generalize wd q = y at *
  rcases o1 with o1 | o1 <;> rcases o2 with o2 | o2
  all_goals
    go_enter Tryz.func92, Tryz.ntmps92
    go_wp2_with fail
    refine (CA.out _).mono ?_
    rintro _ wz ⟨rfl, hwz⟩
    replace hwz := hwz.symm
    subst hwz
    go_wp2_with fail
    refine (CP.out _).mono ?_
    rintro _ wz ⟨rfl, hwz⟩
    replace hwz := hwz.symm
    subst hwz
    go_wp2_with fail
    refine (CQ.out _).mono ?_
    rintro _ wz ⟨rfl, hwz⟩
    replace hwz := hwz.symm
    subst hwz
    go_wp2_with fail
    refine (CD.out _ (H.keeps hba)).mono ?_
    rintro _ w3 ⟨rfl, hb3⟩
    obtain ⟨s0, s1, e0, e1, hbe⟩ := fin2 hb3 U V
    go_wp2
    refine bodyPost_ret (v := .agg #[.float .f64 U, .float .f64 V]) (by simp [results, Tryz.results92, go_sem, e0, e1]) rfl ⟨rfl, hbe⟩
set_option maxRecDepth 100000 in
set_option maxHeartbeats 1000000 in
theorem product_be {p q : Int} (hp : nn p) (hq : nn q) (p0 : rg p ≠ 0) (q0 : rg q ≠ 0) (hn : nn (fprod p q)) (hd : 283726776524341248 ≤ rg (fprod p q)) (w : World) :
    Calls Tryz.prog 92 #[.float .f64 (wd p), .float .f64 (wd q)] w fun e w' => e = .returned (ivl (beLo (fprod p q) (ffma p q (neg (fprod p q)))) (beHi (fprod p q) (ffma p q (neg (fprod p q))))) ∧ Below w.heap.size w w' := by
  have hcv := cv64
  have hba := bel_alloc w (.cells #[.float .f64 0, .float .f64 0] 98)
  have CA : Hid (∀ W, Calls Tryz.prog 14 #[.float .f64 (wd (fprod p q))] W fun e w' => e = .returned (.float .f64 (wd (rg (fprod p q)))) ∧ w' = W) := fun W => mathAbs hn.1 W
  have hrun : ∀ W, (binOp .mul 42 (.float .f64 (wd p)) (.float .f64 (wd q))).run Tryz.prog W = .ok (.float .f64 (wd (fprod p q))) W := fun W => run_prodN _ (FW.pat hp.2 hp.1) (FW.pat hq.2 hq.1) hn.2 W
  have hneg : ∀ W, (Op.unary UnOp.neg (.float .f64 (wd (fprod p q)))).run Tryz.prog W = .ok (.float .f64 (wd (neg (fprod p q)))) W := fun W => run_negF hn W
  have nm := (nn_neg hn).1
  obtain ⟨L, w1, rF, hL, hw1⟩ := run_ffma (FW.pat hp.2 hp.1) (FW.pat hq.2 hq.1) (FW.pat nm.2 nm.1) (w.alloc (.cells #[.float .f64 0, .float .f64 0] 98))
  have hb1 : Below (w.alloc (.cells #[.float .f64 0, .float .f64 0] 98)).heap.size (w.alloc (.cells #[.float .f64 0, .float .f64 0] 98)) w1 := by
    rcases hw1 with rfl | rfl
    · exact bel_refl _
    · exact (bel_refl _).drew
  have CB : Hid (∀ W, Calls Tryz.prog 122 #[.float .f64 (wd (fprod p q)), .float .f64 L] W fun e w' => e = .returned (.agg #[.float .f64 (wd (beLo (fprod p q) (ffma p q (neg (fprod p q))))), .float .f64 (wd (beHi (fprod p q) (ffma p q (neg (fprod p q)))))]) ∧ Below W.heap.size W w') := fun W => beside_any hn hL W
  have od : FloatKind.f64.format.order (wd (rg (fprod p q))) 283726776524341248 = some .gt ∨ FloatKind.f64.format.order (wd (rg (fprod p q))) 283726776524341248 = some .eq := by
    obtain ⟨a1, a2⟩ := q_rg hn.1
    have ca : ¬ cls (rg (fprod p q)) = 4 := by rw [q_cls hn.1]; exact hn.2
    have w9 : wd 283726776524341248 = 283726776524341248 := by decide
    have k9 : key 283726776524341248 = 283726776524341248 := by decide
    by_cases e : rg (fprod p q) = 283726776524341248
    · right
      have := q_eq a1 (show rng 283726776524341248 by unfold rng; omega) ca (by decide) (by rw [q_key a2, k9]; exact e)
      rwa [w9] at this
    · left
      have := q_gt a1 (show rng 283726776524341248 by unfold rng; omega) ca (by decide) (by rw [q_key a2, k9]; omega)
      rwa [w9] at this
  have o1 := key_pos0 hp p0
  have o2 := key_pos0 hq q0
  unfold ivl
  generalize wd (beLo (fprod p q) (ffma p q (neg (fprod p q)))) = U at *
  generalize wd (beHi (fprod p q) (ffma p q (neg (fprod p q)))) = V at *
  generalize wd (rg (fprod p q)) = A at *
  generalize wd (neg (fprod p q)) = M at *
  generalize wd (fprod p q) = N at *
  generalize wd p = x at *
  generalize wd q = y at *
  clear hw1 hL hd
  rcases o1 with o1 | o1 <;> rcases o2 with o2 | o2 <;> rcases od with od | od
  all_goals
    go_enter Tryz.func92, Tryz.ntmps92
    go_wp2_with fail
    refine (CA.out _).mono ?_
    rintro _ wz ⟨rfl, hwz⟩
    replace hwz := hwz.symm
    subst hwz
    go_wp2_with fail
    refine (CB.out _).mono ?_
    rintro _ w3 ⟨rfl, hb3⟩
    obtain ⟨s0, s1, e0, e1, hbe⟩ := fin2 (bel_trans hb1 hb3) U V
    go_wp2
    refine bodyPost_ret (v := .agg #[.float .f64 U, .float .f64 V]) (by simp [results, Tryz.results92, go_sem, e0, e1]) rfl ⟨rfl, hbe⟩
end Go.Proofs.YtcpjdgfnblkfpaaGreatDoor
