/-
  Parts of the proof, one behind another.
-/
import Derived.Test.YtmpioejllfedoaaGreatDoorPart12
import Derived.Test.YtmpioejllfedoaaGreatDoorPart13
import Derived.Test.YtmpioejllfedoaaGreatDoorPart10
import Derived.Test.YtmpioejllfedoaaGreatDoorPart11
import Derived.Test.YtmpioejllfedoaaGreatDoorPart8
import Derived.Test.YtmpioejllfedoaaGreatDoorPart9
/-
  Package span: deepProduct, product, by their contracts.
-/
namespace Go.Proofs.YtmpioejllfedoaaGreatDoor
open Go Go.RowKit Go.Proofs.YtmpioejllfedoaaGreatDoor.M
set_option linter.unusedSimpArgs false
set_option linter.unusedVariables false

/-- Two floats are stored into a result's block. -/
theorem fin2 {w w3 : World} (h3 : Below (w.alloc (.cells #[.float .f64 0, .float .f64 0] 61)).heap.size (w.alloc (.cells #[.float .f64 0, .float .f64 0] 61)) w3) (U V : Nat) :
    (store ⟨w.heap.size, 0, none⟩ (.float .f64 U)).run Tryz.prog w3 = .ok () (w3.setCell ⟨w.heap.size, 0, none⟩ (.float .f64 U)) ∧ (store ⟨w.heap.size, 1, none⟩ (.float .f64 V)).run Tryz.prog (w3.setCell ⟨w.heap.size, 0, none⟩ (.float .f64 U)) = .ok () ((w3.setCell ⟨w.heap.size, 0, none⟩ (.float .f64 U)).setCell ⟨w.heap.size, 1, none⟩ (.float .f64 V)) ∧ ((w3.setCell ⟨w.heap.size, 0, none⟩ (.float .f64 U)).setCell ⟨w.heap.size, 1, none⟩ (.float .f64 V)).cell? ⟨w.heap.size, 0, none⟩ = some (.float .f64 U) ∧ ((w3.setCell ⟨w.heap.size, 0, none⟩ (.float .f64 U)).setCell ⟨w.heap.size, 1, none⟩ (.float .f64 V)).cell? ⟨w.heap.size, 1, none⟩ = some (.float .f64 V) ∧ Below w.heap.size w ((w3.setCell ⟨w.heap.size, 0, none⟩ (.float .f64 U)).setCell ⟨w.heap.size, 1, none⟩ (.float .f64 V)) := by
  have hg := q_heap_last w (.cells #[.float .f64 0, .float .f64 0] 61)
  have hba := bel_alloc w (.cells #[.float .f64 0, .float .f64 0] 61)
  have d2 := (h3.block _ (Array.getElem?_eq_some_iff.1 hg).1).trans hg
  have d3 := q_heap_set d2 0 (.float .f64 U)
  have d4 := q_heap_set d3 1 (.float .f64 V)
  have f0 := blkC d2 0 rfl
  have z0 := blkF d2 0
  have f1 := blkC d3 1 rfl
  have z1 := blkF d3 1
  refine ⟨?_, ?_, blkC d4 0 rfl, blkC d4 1 rfl, ?_⟩
  · rw [run_store _ _ _ _ _ rfl, f0]; simp only [z0]; rfl
  · rw [run_store _ _ _ _ _ rfl, f1]; simp only [z1]; rfl
  · exact ((bel_trans hba h3).setCell (p := ⟨w.heap.size, 0, none⟩) (Nat.le_refl _) _).setCell (p := ⟨w.heap.size, 1, none⟩) (Nat.le_refl _) _
set_option maxRecDepth 100000 in
set_option maxHeartbeats 1000000 in
theorem deepProd_any {a b : Int} (ra : rng a) (rb : rng b) (w : World) (H : Hold4 w) :
    Calls Tryz.prog 82 #[.int .i64 a, .int .i64 b] w fun e w' => e = .returned (ivl (mulP 1 a b) (mulP 2 a b)) ∧ Below w.heap.size w w' := by
  have C1 : Hid (∀ W, Hold4 W → Calls Tryz.prog 98 #[.int .i64 a, .int .i64 b, .int .i64 1] W fun e w' => e = .returned (.tuple #[.int .i64 (mulP 1 a b), .int .i64 0]) ∧ Below W.heap.size W w') := fun W h => mul_A ra rb (by omega) h
  have C2 : Hid (∀ W, Hold4 W → Calls Tryz.prog 98 #[.int .i64 a, .int .i64 b, .int .i64 2] W fun e w' => e = .returned (.tuple #[.int .i64 (mulP 2 a b), .int .i64 0]) ∧ Below W.heap.size W w') := fun W h => mul_A ra rb (by omega) h
  unfold ivl
  generalize mulP 1 a b = l at *
  generalize mulP 2 a b = h at *
  have hba := bel_alloc w (.cells #[.float .f64 0, .float .f64 0] 61)
  go_enter Tryz.func82, Tryz.ntmps82
  go_wp2_with fail
  refine (C1.out _ (H.keeps hba)).mono ?_
  rintro _ w1 ⟨rfl, hb1⟩
  have hw1 := bel_trans hba hb1
  go_wp2_with fail
  refine (C2.out _ (H.keeps hw1)).mono ?_
  rintro _ w2 ⟨rfl, hb2⟩
  have hb3 := bel_trans hb1 hb2
  obtain ⟨s0, s1, e0, e1, hbe⟩ := fin2 hb3 (wd l) (wd h)
  have CF : Hid (∀ W, Calls Tryz.prog 67 #[.int .i64 l] W fun e w' => e = .returned (.float .f64 (wd l)) ∧ w' = W) := fun W => bitsFloat l W
  have CG : Hid (∀ W, Calls Tryz.prog 67 #[.int .i64 h] W fun e w' => e = .returned (.float .f64 (wd h)) ∧ w' = W) := fun W => bitsFloat h W
  go_wp2_with fail
  refine (CF.out _).mono ?_
  rintro _ wz ⟨rfl, hwz⟩
  replace hwz := hwz.symm
  subst hwz
  go_wp2_with fail
  refine (CG.out _).mono ?_
  rintro _ wz ⟨rfl, hwz⟩
  replace hwz := hwz.symm
  subst hwz
  go_wp2
  refine bodyPost_ret (v := .agg #[.float .f64 (wd l), .float .f64 (wd h)]) (by simp [results, Tryz.results82, go_sem, e0, e1]) rfl ⟨rfl, hbe⟩
/-- The model's product where it is a number. -/
theorem run_prodN {P : Program} (t : TypeId) {p q : Int} {x y : Nat} (hx : FW p x) (hy : FW q y) (h : cls (fprod p q) ≠ 4) (w : World) : (binOp .mul t (.float .f64 x) (.float .f64 y)).run P w = .ok (.float .f64 (wd (fprod p q))) w := by
  obtain ⟨z, w', hrun, hz⟩ := run_farith (P := P) .mul (.inr (.inr (.inl rfl))) t x y w
  have hf : floatBits .mul .f64 x y = Ieee.double.mul x y := rfl
  rw [hf] at hz
  rcases mul_FW hx hy with ⟨z', e1, e2⟩ | ⟨_, e2⟩
  · rcases hz with ⟨h1, h2⟩ | ⟨h1, _⟩
    · rw [e1] at h1
      cases h1
      rw [hrun, h2, (e2.of h).2.1]
    · rw [e1] at h1; cases h1
  · exact absurd (by rw [e2]; decide) h
theorem key_pos0 {p : Int} (h : nn p) (h0 : rg p ≠ 0) : FloatKind.f64.format.order (wd p) 0 = some .lt ∨ FloatKind.f64.format.order (wd p) 0 = some .gt := by
  have n0 := nn0.1
  have w0 : wd 0 = 0 := by decide
  have k0 : key 0 = 0 := by decide
  have hk : key p ≠ 0 := by
    have := nn_rg h
    unfold key
    unfold rg at h0 this
    split at h0 <;> simp_all <;> omega
  rcases Int.lt_or_gt_of_ne hk with q | q
  · left
    have := q_lt h.1 n0.1 h.2 n0.2 (by rw [k0]; exact q)
    rwa [w0] at this
  · right
    have := q_gt h.1 n0.1 h.2 n0.2 (by rw [k0]; exact q)
    rwa [w0] at this
theorem key_zero0 {p : Int} (h : nn p) (h0 : rg p = 0) : FloatKind.f64.format.order (wd p) 0 = some .eq := by
  have n0 := nn0.1
  have w0 : wd 0 = 0 := by decide
  have k0 : key 0 = 0 := by decide
  have hk : key p = 0 := by
    unfold key
    unfold rg at h0
    split at h0 <;> simp_all
  have := q_eq h.1 n0.1 h.2 n0.2 (by rw [k0]; exact hk)
  rwa [w0] at this
set_option maxRecDepth 100000 in
set_option maxHeartbeats 1000000 in
theorem product_zero {p q : Int} (hp : nn p) (hq : nn q) (h0 : rg p = 0 ∨ rg q = 0) (w : World) :
    Calls Tryz.prog 66 #[.float .f64 (wd p), .float .f64 (wd q)] w fun e w' => e = .returned (ivl 0 0) ∧ Below w.heap.size w w' := by
  have hcv := cv64
  have w0 : wd 0 = 0 := by decide
  unfold ivl
  rw [w0]
  have hba := bel_alloc w (.cells #[.float .f64 0, .float .f64 0] 61)
  obtain ⟨z, w1, hrun, hz, hw1⟩ := run_fprod (P := Tryz.prog) 59 (FW.pat hp.2 hp.1) (FW.pat hq.2 hq.1) (w.alloc (.cells #[.float .f64 0, .float .f64 0] 61))
  have hb1 : Below (w.alloc (.cells #[.float .f64 0, .float .f64 0] 61)).heap.size (w.alloc (.cells #[.float .f64 0, .float .f64 0] 61)) w1 := by
    rcases hw1 with rfl | rfl
    · exact bel_refl _
    · exact (bel_refl _).drew
  obtain ⟨s0, s1, e0, e1, hbe⟩ := fin2 hb1 0 0
  by_cases hp0 : rg p = 0
  · have o := key_zero0 hp hp0
    generalize wd p = x at *
    generalize wd q = y at *
    clear hw1
    go_enter Tryz.func66, Tryz.ntmps66
    go_wp2
    refine bodyPost_ret (v := .agg #[.float .f64 0, .float .f64 0]) (by simp [results, Tryz.results66, go_sem, e0, e1]) rfl ⟨rfl, hbe⟩
  · have hq0 : rg q = 0 := by omega
    have o2 := key_zero0 hq hq0
    rcases key_pos0 hp hp0 with o | o
    all_goals
      generalize wd p = x at *
      generalize wd q = y at *
      clear hw1
      go_enter Tryz.func66, Tryz.ntmps66
      go_wp2
      refine bodyPost_ret (v := .agg #[.float .f64 0, .float .f64 0]) (by simp [results, Tryz.results66, go_sem, e0, e1]) rfl ⟨rfl, hbe⟩
set_option maxRecDepth 100000 in
set_option maxHeartbeats 1000000 in
theorem product_deep {p q : Int} (hp : nn p) (hq : nn q) (p0 : rg p ≠ 0) (q0 : rg q ≠ 0) (hn : nn (fprod p q)) (hd : rg (fprod p q) < 283726776524341248) (w : World) (H : Hold4 w) :
    Calls Tryz.prog 66 #[.float .f64 (wd p), .float .f64 (wd q)] w fun e w' => e = .returned (ivl (mulP 1 p q) (mulP 2 p q)) ∧ Below w.heap.size w w' := by
  have hcv := cv64
  have hba := bel_alloc w (.cells #[.float .f64 0, .float .f64 0] 61)
  have CD : Hid (∀ W, Hold4 W → Calls Tryz.prog 82 #[.int .i64 p, .int .i64 q] W fun e w' => e = .returned (.agg #[.float .f64 (wd (mulP 1 p q)), .float .f64 (wd (mulP 2 p q))]) ∧ Below W.heap.size W w') := fun W h => deepProd_any hp.1 hq.1 W h
  have CP : Hid (∀ W, Calls Tryz.prog 69 #[.float .f64 (wd p)] W fun e w' => e = .returned (.int .i64 p) ∧ w' = W) := fun W => of_FW (FW.pat hp.2 hp.1) W
  have CQ : Hid (∀ W, Calls Tryz.prog 69 #[.float .f64 (wd q)] W fun e w' => e = .returned (.int .i64 q) ∧ w' = W) := fun W => of_FW (FW.pat hq.2 hq.1) W
  have CA : Hid (∀ W, Calls Tryz.prog 80 #[.float .f64 (wd (fprod p q))] W fun e w' => e = .returned (.float .f64 (wd (rg (fprod p q)))) ∧ w' = W) := fun W => mathAbs hn.1 W
  have hrun : ∀ W, (binOp .mul 59 (.float .f64 (wd p)) (.float .f64 (wd q))).run Tryz.prog W = .ok (.float .f64 (wd (fprod p q))) W := fun W => run_prodN _ (FW.pat hp.2 hp.1) (FW.pat hq.2 hq.1) hn.2 W
  have od : FloatKind.f64.format.order (wd (rg (fprod p q))) 283726776524341248 = some .lt := by
    obtain ⟨a1, a2⟩ := q_rg hn.1
    have ca : ¬ cls (rg (fprod p q)) = 4 := by rw [q_cls hn.1]; exact hn.2
    have := q_lt a1 (show rng 283726776524341248 by unfold rng; omega) ca (by decide) (by rw [q_key a2, show key 283726776524341248 = 283726776524341248 by decide]; exact hd)
    rwa [show wd 283726776524341248 = 283726776524341248 by decide] at this
  have o1 := key_pos0 hp p0
  have o2 := key_pos0 hq q0
  unfold ivl
  generalize wd (mulP 1 p q) = U at *
  generalize wd (mulP 2 p q) = V at *
  generalize wd (rg (fprod p q)) = A at *
  generalize wd (fprod p q) = N at *
  generalize wd p = x at *
  generalize wd q = y at *
  rcases o1 with o1 | o1 <;> rcases o2 with o2 | o2
  all_goals
    go_enter Tryz.func66, Tryz.ntmps66
    go_wp2_with fail
    refine (CA.out _).mono ?_
    rintro _ wz ⟨rfl, hwz⟩
    replace hwz := hwz.symm
    subst hwz
    go_wp2_with fail
    refine (CP.out _).mono ?_
    rintro _ wz ⟨rfl, hwz⟩
    replace hwz := hwz.symm
    subst hwz
    go_wp2_with fail
    refine (CQ.out _).mono ?_
    rintro _ wz ⟨rfl, hwz⟩
    replace hwz := hwz.symm
    subst hwz
    go_wp2_with fail
    refine (CD.out _ (H.keeps hba)).mono ?_
    rintro _ w3 ⟨rfl, hb3⟩
    obtain ⟨s0, s1, e0, e1, hbe⟩ := fin2 hb3 U V
    go_wp2
    refine bodyPost_ret (v := .agg #[.float .f64 U, .float .f64 V]) (by simp [results, Tryz.results66, go_sem, e0, e1]) rfl ⟨rfl, hbe⟩
set_option maxRecDepth 100000 in
set_option maxHeartbeats 1000000 in
theorem product_be {p q : Int} (hp : nn p) (hq : nn q) (p0 : rg p ≠ 0) (q0 : rg q ≠ 0) (hn : nn (fprod p q)) (hd : 283726776524341248 ≤ rg (fprod p q)) (w : World) :
    Calls Tryz.prog 66 #[.float .f64 (wd p), .float .f64 (wd q)] w fun e w' => e = .returned (ivl (beLo (fprod p q) (ffma p q (neg (fprod p q)))) (beHi (fprod p q) (ffma p q (neg (fprod p q))))) ∧ Below w.heap.size w w' := by
  have hcv := cv64
  have hba := bel_alloc w (.cells #[.float .f64 0, .float .f64 0] 61)
  have CA : Hid (∀ W, Calls Tryz.prog 80 #[.float .f64 (wd (fprod p q))] W fun e w' => e = .returned (.float .f64 (wd (rg (fprod p q)))) ∧ w' = W) := fun W => mathAbs hn.1 W
  have hrun : ∀ W, (binOp .mul 59 (.float .f64 (wd p)) (.float .f64 (wd q))).run Tryz.prog W = .ok (.float .f64 (wd (fprod p q))) W := fun W => run_prodN _ (FW.pat hp.2 hp.1) (FW.pat hq.2 hq.1) hn.2 W
  have hneg : ∀ W, (Op.unary UnOp.neg (.float .f64 (wd (fprod p q)))).run Tryz.prog W = .ok (.float .f64 (wd (neg (fprod p q)))) W := fun W => run_negF hn W
  have nm := (nn_neg hn).1
  obtain ⟨L, w1, rF, hL, hw1⟩ := run_ffma (FW.pat hp.2 hp.1) (FW.pat hq.2 hq.1) (FW.pat nm.2 nm.1) (w.alloc (.cells #[.float .f64 0, .float .f64 0] 61))
  have hb1 : Below (w.alloc (.cells #[.float .f64 0, .float .f64 0] 61)).heap.size (w.alloc (.cells #[.float .f64 0, .float .f64 0] 61)) w1 := by
    rcases hw1 with rfl | rfl
    · exact bel_refl _
    · exact (bel_refl _).drew
  have CB : Hid (∀ W, Calls Tryz.prog 81 #[.float .f64 (wd (fprod p q)), .float .f64 L] W fun e w' => e = .returned (.agg #[.float .f64 (wd (beLo (fprod p q) (ffma p q (neg (fprod p q))))), .float .f64 (wd (beHi (fprod p q) (ffma p q (neg (fprod p q)))))]) ∧ Below W.heap.size W w') := fun W => beside_any hn hL W
  have od : FloatKind.f64.format.order (wd (rg (fprod p q))) 283726776524341248 = some .gt ∨ FloatKind.f64.format.order (wd (rg (fprod p q))) 283726776524341248 = some .eq := by
    obtain ⟨a1, a2⟩ := q_rg hn.1
    have ca : ¬ cls (rg (fprod p q)) = 4 := by rw [q_cls hn.1]; exact hn.2
    have w9 : wd 283726776524341248 = 283726776524341248 := by decide
    have k9 : key 283726776524341248 = 283726776524341248 := by decide
    by_cases e : rg (fprod p q) = 283726776524341248
    · right
      have := q_eq a1 (show rng 283726776524341248 by unfold rng; omega) ca (by decide) (by rw [q_key a2, k9]; exact e)
      rwa [w9] at this
    · left
      have := q_gt a1 (show rng 283726776524341248 by unfold rng; omega) ca (by decide) (by rw [q_key a2, k9]; omega)
      rwa [w9] at this
  have o1 := key_pos0 hp p0
  have o2 := key_pos0 hq q0
  unfold ivl
  generalize wd (beLo (fprod p q) (ffma p q (neg (fprod p q)))) = U at *
  generalize wd (beHi (fprod p q) (ffma p q (neg (fprod p q)))) = V at *
  generalize wd (rg (fprod p q)) = A at *
  generalize wd (neg (fprod p q)) = M at *
  generalize wd (fprod p q) = N at *
  generalize wd p = x at *
  generalize wd q = y at *
  clear hw1 hL hd
  rcases o1 with o1 | o1 <;> rcases o2 with o2 | o2 <;> rcases od with od | od
  all_goals
    go_enter Tryz.func66, Tryz.ntmps66
    go_wp2_with fail
    refine (CA.out _).mono ?_
    rintro _ wz ⟨rfl, hwz⟩
    replace hwz := hwz.symm
    subst hwz
    go_wp2_with fail
    refine (CB.out _).mono ?_
    rintro _ w3 ⟨rfl, hb3⟩
    obtain ⟨s0, s1, e0, e1, hbe⟩ := fin2 (bel_trans hb1 hb3) U V
    go_wp2
    refine bodyPost_ret (v := .agg #[.float .f64 U, .float .f64 V]) (by simp [results, Tryz.results66, go_sem, e0, e1]) rfl ⟨rfl, hbe⟩
end Go.Proofs.YtmpioejllfedoaaGreatDoor

/-
  Package point: Normal, by its contract; the document's Normal.
-/
namespace Go.Proofs.YtmpioejllfedoaaGreatDoor
open Go Go.RowKit Go.Proofs.YtmpioejllfedoaaGreatDoor.M
set_option linter.unusedSimpArgs false
set_option linter.unusedVariables false

theorem q_two_keep {p B : Nat} {x0 x1 : Value} {W W' : World} (h : p < B ∧ B ≤ W.heap.size ∧ W.cell? ⟨p, 0, none⟩ = some x0 ∧ W.cell? ⟨p, 1, none⟩ = some x1) (hb : Below W.heap.size W W') :
    p < B ∧ B ≤ W'.heap.size ∧ W'.cell? ⟨p, 0, none⟩ = some x0 ∧ W'.cell? ⟨p, 1, none⟩ = some x1 :=
  ⟨h.1, Nat.le_trans h.2.1 hb.size, q_cell h.2.2.1 hb, q_cell h.2.2.2 hb⟩
theorem Lays.below' {w w' : World} (h : Lays w) (hb : Below w.heap.size w w') : Lays w' :=
  ⟨q_cell h.a0 hb, q_cell h.a1 hb, q_cell h.a2 hb, trivial, trivial, trivial⟩
end Go.Proofs.YtmpioejllfedoaaGreatDoor

/-
  Package span: told, Around, by their contracts.
-/
namespace Go.Proofs.YtmpioejllfedoaaGreatDoor
open Go Go.RowKit Go.Proofs.YtmpioejllfedoaaGreatDoor.M
set_option linter.unusedSimpArgs false
set_option linter.unusedVariables false

set_option maxRecDepth 100000 in
set_option maxHeartbeats 1000000 in
theorem spanTold {lo hi : Int} (hl : nn lo) (hh : nn hi) (w : World) (L : Lays w) :
    Calls Tryz.prog 40 #[ivl lo hi] w fun e w' => e = .returned (spn (canon lo) (canon hi)) ∧ Below w.heap.size w w' := by
  unfold ivl spn
  have CO1 : Hid (∀ W, Calls Tryz.prog 69 #[.float .f64 (wd lo)] W fun e w' => e = .returned (.int .i64 lo) ∧ w' = W) := fun W => by
    have := bitsOf lo W hl.1
    rw [show told lo = lo from if_neg hl.2] at this
    exact this
  have CO2 : Hid (∀ W, Calls Tryz.prog 69 #[.float .f64 (wd hi)] W fun e w' => e = .returned (.int .i64 hi) ∧ w' = W) := fun W => by
    have := bitsOf hi W hh.1
    rw [show told hi = hi from if_neg hh.2] at this
    exact this
  have CX' : Hid (∀ W, Lays W → Calls Tryz.prog 49 #[.int .i64 lo] W fun e w' => e = .returned (.int .i64 (canon lo)) ∧ Gr W w') := fun W LW => bitsCanon lo W LW
  have CY' : Hid (∀ W, Lays W → Calls Tryz.prog 49 #[.int .i64 hi] W fun e w' => e = .returned (.int .i64 (canon hi)) ∧ Gr W w') := fun W LW => bitsCanon hi W LW
  generalize canon lo = X at *
  generalize canon hi = Y at *
  generalize wd lo = A at *
  generalize wd hi = B at *
  have hb2 := bel_alloc2 w (.cells #[.float .f64 A, .float .f64 B] 61) (.cells #[.int .i64 0, .int .i64 0] 23)
  have p0 := heap_a2 w (.cells #[.float .f64 A, .float .f64 B] 61) (.cells #[.int .i64 0, .int .i64 0] 23)
  have p1 := heap_b2 w (.cells #[.float .f64 A, .float .f64 B] 61) (.cells #[.int .i64 0, .int .i64 0] 23)
  have hs := size2 w (.cells #[.float .f64 A, .float .f64 B] 61) (.cells #[.int .i64 0, .int .i64 0] 23)
  have c0 := blkC p0 0 rfl
  have c1 := blkC p0 1 rfl
  have hbd := hb2.drew
  have L1 := L.below' hbd
  clear hl hh
  go_enter Tryz.func40, Tryz.ntmps40
  go_wp2_with fail
  generalize (w.alloc (.cells #[.float .f64 A, .float .f64 B] 61)).alloc (.cells #[.int .i64 0, .int .i64 0] 23) = w1 at *
  have hc : w.heap.size < w.heap.size + 1 ∧ w.heap.size + 1 ≤ w1.drew.heap.size ∧ w1.drew.cell? ⟨w.heap.size, 0, none⟩ = some (.float .f64 A) ∧ w1.drew.cell? ⟨w.heap.size, 1, none⟩ = some (.float .f64 B) := ⟨by omega, by show _ ≤ w1.heap.size; omega, c0, c1⟩
  have hd : w1.drew.heap[w.heap.size + 1]? = some (.cells #[.int .i64 0, .int .i64 0] 23 (0, 0)) := p1
  go_region_held3 (fun W => w.heap.size < w.heap.size + 1 ∧ w.heap.size + 1 ≤ W.heap.size ∧ W.cell? ⟨w.heap.size, 0, none⟩ = some (.float .f64 A) ∧ W.cell? ⟨w.heap.size, 1, none⟩ = some (.float .f64 B))
    (first | assumption | (repeat (first | exact hc | exact hc1 | exact hc2 | refine q_two_set (by omega) ?_)))
    (first
      | (go_at_call 69; have _t := LA; refine (CO2.out _).mono ?_; rintro _ _ ⟨rfl, rfl⟩)
      | (go_at_call 69; refine (CO1.out _).mono ?_; rintro _ _ ⟨rfl, rfl⟩)
      | (go_at_call 49; have _t := LA; refine (CY'.out _ LA).mono ?_; rintro _ w3 ⟨rfl, g3⟩; have hc2 := q_two_keep hc1 g3.be; have d2 := (g3.be.block _ (Array.getElem?_eq_some_iff.1 d1).1).trans d1; have d3 := q_heap_set d2 0 (.int .i64 X); have d4 := q_heap_set d3 1 (.int .i64 Y); have f0 := blkC d2 0 rfl; have z0 := blkF d2 0; have f1 := blkC d3 1 rfl; have z1 := blkF d3 1)
      | (go_at_call 49; refine (CX'.out _ L1).mono ?_; rintro _ w2 ⟨rfl, g2⟩; have LA := L1.grown g2; have hc1 := q_two_keep hc g2.be; have d1 := (g2.be.block _ (Array.getElem?_eq_some_iff.1 hd).1).trans hd))
  have e0 := blkC d4 0 rfl
  have e1 := blkC d4 1 rfl
  have hbe : Below w.heap.size w ((w3.setCell ⟨w.heap.size + 1, 0, none⟩ (.int .i64 X)).setCell ⟨w.heap.size + 1, 1, none⟩ (.int .i64 Y)) := ((bel_trans hbd (bel_trans g2.be g3.be)).setCell (p := ⟨w.heap.size + 1, 0, none⟩) (Nat.le_succ _) _).setCell (p := ⟨w.heap.size + 1, 1, none⟩) (Nat.le_succ _) _
  clear d1 d2 d3 d4 f0 f1 z0 z1 hd hc hc1 hc2
  generalize (w3.setCell ⟨w.heap.size + 1, 0, none⟩ (.int .i64 X)).setCell ⟨w.heap.size + 1, 1, none⟩ (.int .i64 Y) = wy at *
  go_wp2
  refine bodyPost_ret (v := .agg #[.int .i64 X, .int .i64 Y]) (by simp [results, Tryz.results40, go_sem, e0, e1]) rfl ⟨rfl, hbe⟩
set_option maxRecDepth 100000 in
theorem spanValid {lo hi : Int} (hl : rng lo) (hh : rng hi) (w : World) :
    Calls Tryz.prog 45 #[spn lo hi] w fun e w' => e = .returned (.bool (vld lo hi)) ∧ Below w.heap.size w w' := by
  have C1 := fun W => spanRead lo hi W
  have C2 := fun W => ivlValid hl hh W
  unfold spn ivl at *
  have hb := bel_alloc w (.cells #[.int .i64 lo, .int .i64 hi] 23)
  go_enter Tryz.func45, Tryz.ntmps45
  go_wp2_with fail
  generalize w.alloc (.cells #[.int .i64 lo, .int .i64 hi] 23) = wx at *
  refine (C1 _).mono ?_
  rintro _ w1 ⟨rfl, hb1⟩
  go_wp2_with fail
  refine (C2 _).mono ?_
  rintro _ w2 ⟨rfl, hb2⟩
  go_wp2
  go_ret
  exact ⟨rfl, bel_trans hb (bel_trans hb1 hb2)⟩
end Go.Proofs.YtmpioejllfedoaaGreatDoor

/-
  Package span: ofTwo, by its contract, for any function that is handed over.
-/
namespace Go.Proofs.YtmpioejllfedoaaGreatDoor
open Go Go.RowKit Go.Proofs.YtmpioejllfedoaaGreatDoor.M
set_option linter.unusedSimpArgs false
set_option linter.unusedVariables false

/-- an interval, or nothing and an error -/
def twoV (ok : Bool) (v : Value) : Value := if ok then v else .agg #[.int .i64 0, .int .i64 0]
def errA (ok : Bool) : Int := if ok then 0 else 1
theorem hl_last {n : Nat} (w : World) (o : Obj) (h : n = w.heap.size) : (w.alloc o).heap[n]? = some o := by
  subst h
  show (w.heap.push o)[w.heap.size]? = _
  simp
theorem hl6 (w : World) (o0 o1 o2 o3 o4 o5 : Obj) : ((((((w.alloc o0).alloc o1).alloc o2).alloc o3).alloc o4).alloc o5).drew.drew.drew.heap = (((((w.heap.push o0).push o1).push o2).push o3).push o4).push o5 := rfl
theorem hl6_0 {n m : Nat} {w : World} {o0 o1 o2 o3 o4 o5 : Obj} (hs : w.heap.size = m) (h : n = m + 0) : (((((((w.alloc o0).alloc o1).alloc o2).alloc o3).alloc o4).alloc o5).drew.drew.drew).heap[n]? = some o0 := by
  subst hs
  subst h
  rw [hl6]
  rw [Array.getElem?_push, if_neg (by first | (simp; done) | (simp; omega))]
  rw [Array.getElem?_push, if_neg (by first | (simp; done) | (simp; omega))]
  rw [Array.getElem?_push, if_neg (by first | (simp; done) | (simp; omega))]
  rw [Array.getElem?_push, if_neg (by first | (simp; done) | (simp; omega))]
  rw [Array.getElem?_push, if_neg (by first | (simp; done) | (simp; omega))]
  rw [Array.getElem?_push, if_pos (by simp)]
theorem hl6_1 {n m : Nat} {w : World} {o0 o1 o2 o3 o4 o5 : Obj} (hs : w.heap.size = m) (h : n = m + 1) : (((((((w.alloc o0).alloc o1).alloc o2).alloc o3).alloc o4).alloc o5).drew.drew.drew).heap[n]? = some o1 := by
  subst hs
  subst h
  rw [hl6]
  rw [Array.getElem?_push, if_neg (by first | (simp; done) | (simp; omega))]
  rw [Array.getElem?_push, if_neg (by first | (simp; done) | (simp; omega))]
  rw [Array.getElem?_push, if_neg (by first | (simp; done) | (simp; omega))]
  rw [Array.getElem?_push, if_neg (by first | (simp; done) | (simp; omega))]
  rw [Array.getElem?_push, if_pos (by simp)]
theorem hl6_2 {n m : Nat} {w : World} {o0 o1 o2 o3 o4 o5 : Obj} (hs : w.heap.size = m) (h : n = m + 2) : (((((((w.alloc o0).alloc o1).alloc o2).alloc o3).alloc o4).alloc o5).drew.drew.drew).heap[n]? = some o2 := by
  subst hs
  subst h
  rw [hl6]
  rw [Array.getElem?_push, if_neg (by first | (simp; done) | (simp; omega))]
  rw [Array.getElem?_push, if_neg (by first | (simp; done) | (simp; omega))]
  rw [Array.getElem?_push, if_neg (by first | (simp; done) | (simp; omega))]
  rw [Array.getElem?_push, if_pos (by simp)]
theorem hl6_3 {n m : Nat} {w : World} {o0 o1 o2 o3 o4 o5 : Obj} (hs : w.heap.size = m) (h : n = m + 3) : (((((((w.alloc o0).alloc o1).alloc o2).alloc o3).alloc o4).alloc o5).drew.drew.drew).heap[n]? = some o3 := by
  subst hs
  subst h
  rw [hl6]
  rw [Array.getElem?_push, if_neg (by first | (simp; done) | (simp; omega))]
  rw [Array.getElem?_push, if_neg (by first | (simp; done) | (simp; omega))]
  rw [Array.getElem?_push, if_pos (by simp)]
theorem hl6_4 {n m : Nat} {w : World} {o0 o1 o2 o3 o4 o5 : Obj} (hs : w.heap.size = m) (h : n = m + 4) : (((((((w.alloc o0).alloc o1).alloc o2).alloc o3).alloc o4).alloc o5).drew.drew.drew).heap[n]? = some o4 := by
  subst hs
  subst h
  rw [hl6]
  rw [Array.getElem?_push, if_neg (by first | (simp; done) | (simp; omega))]
  rw [Array.getElem?_push, if_pos (by simp)]
theorem hl6_5 {n m : Nat} {w : World} {o0 o1 o2 o3 o4 o5 : Obj} (hs : w.heap.size = m) (h : n = m + 5) : (((((((w.alloc o0).alloc o1).alloc o2).alloc o3).alloc o4).alloc o5).drew.drew.drew).heap[n]? = some o5 := by
  subst hs
  subst h
  rw [hl6]
  rw [Array.getElem?_push, if_pos (by simp)]
theorem hl6_b {w : World} {o0 o1 o2 o3 o4 o5 : Obj} : Below w.heap.size w (((((((w.alloc o0).alloc o1).alloc o2).alloc o3).alloc o4).alloc o5).drew.drew.drew) :=
  (bel_trans (bel_alloc2 w o0 o1) (bel_trans (bel_alloc2 _ o2 o3) (bel_alloc2 _ o4 o5))).drew.drew.drew
theorem s4_keep {a b B : Nat} {x0 x1 x2 x3 : Value} {W W' : World} (h : (a < B ∧ b < B ∧ B ≤ W.heap.size) ∧ W.cell? ⟨a, 0, none⟩ = some x0 ∧ W.cell? ⟨a, 1, none⟩ = some x1 ∧ W.cell? ⟨b, 0, none⟩ = some x2 ∧ W.cell? ⟨b, 1, none⟩ = some x3) (hb : Below W.heap.size W W') :
    (a < B ∧ b < B ∧ B ≤ W'.heap.size) ∧ W'.cell? ⟨a, 0, none⟩ = some x0 ∧ W'.cell? ⟨a, 1, none⟩ = some x1 ∧ W'.cell? ⟨b, 0, none⟩ = some x2 ∧ W'.cell? ⟨b, 1, none⟩ = some x3 :=
  ⟨⟨h.1.1, h.1.2.1, Nat.le_trans h.1.2.2 hb.size⟩, q_cell h.2.1 hb, q_cell h.2.2.1 hb, q_cell h.2.2.2.1 hb, q_cell h.2.2.2.2 hb⟩
theorem s4_alloc {a b B : Nat} {x0 x1 x2 x3 : Value} {W : World} (o : Obj) (h : (a < B ∧ b < B ∧ B ≤ W.heap.size) ∧ W.cell? ⟨a, 0, none⟩ = some x0 ∧ W.cell? ⟨a, 1, none⟩ = some x1 ∧ W.cell? ⟨b, 0, none⟩ = some x2 ∧ W.cell? ⟨b, 1, none⟩ = some x3) :
    (a < B ∧ b < B ∧ B ≤ (W.alloc o).heap.size) ∧ (W.alloc o).cell? ⟨a, 0, none⟩ = some x0 ∧ (W.alloc o).cell? ⟨a, 1, none⟩ = some x1 ∧ (W.alloc o).cell? ⟨b, 0, none⟩ = some x2 ∧ (W.alloc o).cell? ⟨b, 1, none⟩ = some x3 := s4_keep h (bel_alloc _ _)
theorem s4_drew {a b B : Nat} {x0 x1 x2 x3 : Value} {W : World} (h : (a < B ∧ b < B ∧ B ≤ W.heap.size) ∧ W.cell? ⟨a, 0, none⟩ = some x0 ∧ W.cell? ⟨a, 1, none⟩ = some x1 ∧ W.cell? ⟨b, 0, none⟩ = some x2 ∧ W.cell? ⟨b, 1, none⟩ = some x3) :
    (a < B ∧ b < B ∧ B ≤ W.drew.heap.size) ∧ W.drew.cell? ⟨a, 0, none⟩ = some x0 ∧ W.drew.cell? ⟨a, 1, none⟩ = some x1 ∧ W.drew.cell? ⟨b, 0, none⟩ = some x2 ∧ W.drew.cell? ⟨b, 1, none⟩ = some x3 := h
set_option maxRecDepth 100000 in
set_option maxHeartbeats 8000000 in
theorem ofTwo_any (F : Nat) {a b c d x y : Int} (ha : rng a) (hb : rng b) (hc : rng c) (hd : rng d) (w : World) (L : Lays w)
    (hE : ∀ (cap : Array Value) (w : World), (callFunc F cap).run Tryz.prog w = .ok (.enter F cap) w)
    (CF : Hid (vld a b = true → vld c d = true → nn x ∧ nn y ∧ ∀ W, Lays W → Calls Tryz.prog F #[ivl a b, ivl c d] W fun e w' => e = .returned (ivl x y) ∧ Below W.heap.size W w')) :
    Calls Tryz.prog 34 #[spn a b, spn c d, .func (.func F) #[] #[]] w fun e w' => e = .returned (.tuple #[twoV (vld a b && vld c d) (spn (canon x) (canon y)), .int .i64 (errA (vld a b && vld c d))]) ∧ Below w.heap.size w w' := by
  have R1 := fun W => spanReadX a b W
  have R2 := fun W => spanReadX c d W
  have V1 : Hid (∀ W, Calls Tryz.prog 39 #[ivl a b] W fun e w' => e = .returned (.bool (vld a b)) ∧ Below W.heap.size W w') := fun W => ivlValid ha hb W
  have V2 : Hid (∀ W, Calls Tryz.prog 39 #[ivl c d] W fun e w' => e = .returned (.bool (vld c d)) ∧ Below W.heap.size W w') := fun W => ivlValid hc hd W
  unfold spn ivl at *
  obtain ⟨q0, q1, q2, hs, hb3⟩ := heap3 w (.cells #[.int .i64 a, .int .i64 b] 23) (.cells #[.int .i64 c, .int .i64 d] 23) (.cells #[.int .i64 0, .int .i64 0] 23)
  go_enter Tryz.func34, Tryz.ntmps34
  go_wp2_with fail
  have k0 := blkC q0 0 rfl
  have k1 := blkC q0 1 rfl
  have k2 := blkC q1 0 rfl
  have k3 := blkC q1 1 rfl
  generalize ((w.alloc (.cells #[.int .i64 a, .int .i64 b] 23)).alloc (.cells #[.int .i64 c, .int .i64 d] 23)).alloc (.cells #[.int .i64 0, .int .i64 0] 23) = wx at *
  have hst : ∀ (p : Addr) (n : Nat) (m : Mode) (w : World), (store p (.float .f64 n) m).run Tryz.prog w = stored Tryz.prog w p (.float .f64 n) m := fun p n m w => run_store _ w p _ m rfl
  have hc : (w.heap.size < w.heap.size + 3 ∧ w.heap.size + 1 < w.heap.size + 3 ∧ w.heap.size + 3 ≤ wx.drew.heap.size) ∧ wx.drew.cell? ⟨w.heap.size, 0, none⟩ = some (.int .i64 a) ∧ wx.drew.cell? ⟨w.heap.size, 1, none⟩ = some (.int .i64 b) ∧ wx.drew.cell? ⟨w.heap.size + 1, 0, none⟩ = some (.int .i64 c) ∧ wx.drew.cell? ⟨w.heap.size + 1, 1, none⟩ = some (.int .i64 d) := ⟨⟨by omega, by omega, by show _ ≤ wx.heap.size; omega⟩, k0, k1, k2, k3⟩
  rename_i Q' K haK
  have H : ∀ (gi gj : Nat) (W : World), W.heap[gi]? = some (.cells #[.float .f64 (wd a), .float .f64 (wd b)] 61 (0, 0)) → W.heap[gj]? = some (.cells #[.float .f64 (wd c), .float .f64 (wd d)] 61 (0, 0)) → Below wx.heap.size wx W →
      Exit.then K Q' Exit.normal { tmps := #[.agg #[.int .i64 a, .int .i64 b], .agg #[.int .i64 c, .int .i64 d], .func (.func F) #[] #[], .pointer (some ⟨w.heap.size, 0, none⟩), .pointer (some ⟨w.heap.size + 1, 0, none⟩), undef, .pointer (some ⟨w.heap.size + 1 + 1, 0, none⟩), .int .i64 0, .pointer (some ⟨gi, 0, none⟩), .pointer (some ⟨gj, 0, none⟩), .agg #[.int .i64 a, .int .i64 b], .agg #[.float .f64 (wd a), .float .f64 (wd b)], .agg #[.int .i64 c, .int .i64 d], .agg #[.float .f64 (wd c), .float .f64 (wd d)], undef, undef, undef, undef, undef, undef, undef, undef, undef, undef, undef, undef, undef, undef], defers := [] } W := by
    intro gi gj W hgi hgj hbW
    clear hc k0 k1 k2 k3 q0 q1 R1 R2 hst
    have i0 := blkC hgi 0 rfl
    have i1 := blkC hgi 1 rfl
    have j0 := blkC hgj 0 rfl
    have j1 := blkC hgj 1 rfl
    go_wp2_with fail
    refine (V1.out _).mono ?_
    rintro _ w1 ⟨rfl, hb4⟩
    have hgi1 := (hb4.block _ (Array.getElem?_eq_some_iff.1 hgi).1).trans hgi
    have hgj1 := (hb4.block _ (Array.getElem?_eq_some_iff.1 hgj).1).trans hgj
    clear i0 i1 j0 j1
    have j0 := blkC hgj1 0 rfl
    have j1 := blkC hgj1 1 rfl
    by_cases h1 : vld a b = false
    · rw [h1]
      have hbR := bel_trans hbW hb4
      have d2 := (hbR.block _ (Array.getElem?_eq_some_iff.1 q2).1).trans q2
      have d3 := q_heap_set d2 0 (.int .i64 0)
      have d4 := q_heap_set d3 1 (.int .i64 0)
      have f0 := blkC d2 0 rfl
      have z0 := blkF d2 0
      have f1 := blkC d3 1 rfl
      have z1 := blkF d3 1
      have e0 := blkC d4 0 rfl
      have e1 := blkC d4 1 rfl
      have hbe := ((bel_trans hb3 hbR).setCell (p := ⟨w.heap.size + 1 + 1, 0, none⟩) (show w.heap.size ≤ w.heap.size + 1 + 1 by omega) (.int .i64 0)).setCell (p := ⟨w.heap.size + 1 + 1, 1, none⟩) (show w.heap.size ≤ w.heap.size + 1 + 1 by omega) (.int .i64 0)
      clear d2 d3 d4
      go_wp2
      refine bodyPost_ret (v := .tuple #[.agg #[.int .i64 0, .int .i64 0], .int .i64 1]) (by simp [results, Tryz.results34, go_sem, e0, e1]) rfl ⟨by rw [h1]; rfl, hbe⟩
    replace h1 : vld a b = true := by simpa using h1
    rw [h1]
    go_wp2_with fail
    refine (V2.out _).mono ?_
    rintro _ w2 ⟨rfl, hb5⟩
    have hgi2 := (hb5.block _ (Array.getElem?_eq_some_iff.1 hgi1).1).trans hgi1
    have hgj2 := (hb5.block _ (Array.getElem?_eq_some_iff.1 hgj1).1).trans hgj1
    clear j0 j1
    have i0 := blkC hgi2 0 rfl
    have i1 := blkC hgi2 1 rfl
    have j0 := blkC hgj2 0 rfl
    have j1 := blkC hgj2 1 rfl
    have hbR := bel_trans hbW (bel_trans hb4 hb5)
    by_cases h2 : vld c d = false
    · rw [h2]
      have d2 := (hbR.block _ (Array.getElem?_eq_some_iff.1 q2).1).trans q2
      have d3 := q_heap_set d2 0 (.int .i64 0)
      have d4 := q_heap_set d3 1 (.int .i64 0)
      have f0 := blkC d2 0 rfl
      have z0 := blkF d2 0
      have f1 := blkC d3 1 rfl
      have z1 := blkF d3 1
      have e0 := blkC d4 0 rfl
      have e1 := blkC d4 1 rfl
      have hbe := ((bel_trans hb3 hbR).setCell (p := ⟨w.heap.size + 1 + 1, 0, none⟩) (show w.heap.size ≤ w.heap.size + 1 + 1 by omega) (.int .i64 0)).setCell (p := ⟨w.heap.size + 1 + 1, 1, none⟩) (show w.heap.size ≤ w.heap.size + 1 + 1 by omega) (.int .i64 0)
      clear d2 d3 d4
      go_wp2
      refine bodyPost_ret (v := .tuple #[.agg #[.int .i64 0, .int .i64 0], .int .i64 1]) (by simp [results, Tryz.results34, go_sem, e0, e1]) rfl ⟨by rw [h2, Bool.and_false]; rfl, hbe⟩
    replace h2 : vld c d = true := by simpa using h2
    rw [h2]
    obtain ⟨nx, ny, CF'⟩ := CF.out h1 h2
    have L2 := L.below' (bel_trans hb3 hbR)
    have CT := fun W LW => spanTold nx ny W LW
    unfold ivl spn at CT
    go_wp2_with fail
    refine (CF' _ L2).mono ?_
    rintro _ w3 ⟨rfl, hb6⟩
    have L3 := L2.below' hb6
    go_wp2_with fail
    refine (CT _ L3).mono ?_
    rintro _ w4 ⟨rfl, hb7⟩
    replace hbR := bel_trans hbR (bel_trans hb6 hb7)
    have d2 := (hbR.block _ (Array.getElem?_eq_some_iff.1 q2).1).trans q2
    generalize hX : canon x = X at *
    generalize hY : canon y = Y at *
    have d3 := q_heap_set d2 0 (.int .i64 X)
    have d4 := q_heap_set d3 1 (.int .i64 Y)
    have f0 := blkC d2 0 rfl
    have z0 := blkF d2 0
    have f1 := blkC d3 1 rfl
    have z1 := blkF d3 1
    have e0 := blkC d4 0 rfl
    have e1 := blkC d4 1 rfl
    have hbe := ((bel_trans hb3 hbR).setCell (p := ⟨w.heap.size + 1 + 1, 0, none⟩) (show w.heap.size ≤ w.heap.size + 1 + 1 by omega) (.int .i64 X)).setCell (p := ⟨w.heap.size + 1 + 1, 1, none⟩) (show w.heap.size ≤ w.heap.size + 1 + 1 by omega) (.int .i64 Y)
    clear d2 d3 d4 CT CF CF'
    go_wp2
    refine bodyPost_ret (v := .tuple #[.agg #[.int .i64 X, .int .i64 Y], .int .i64 0]) (by simp [results, Tryz.results34, go_sem, e0, e1]) rfl ⟨by rw [h1, h2, hX, hY]; rfl, hbe⟩
  go_region_held3 (fun W => (w.heap.size < w.heap.size + 3 ∧ w.heap.size + 1 < w.heap.size + 3 ∧ w.heap.size + 3 ≤ W.heap.size) ∧ W.cell? ⟨w.heap.size, 0, none⟩ = some (.int .i64 a) ∧ W.cell? ⟨w.heap.size, 1, none⟩ = some (.int .i64 b) ∧ W.cell? ⟨w.heap.size + 1, 0, none⟩ = some (.int .i64 c) ∧ W.cell? ⟨w.heap.size + 1, 1, none⟩ = some (.int .i64 d))
    (first | assumption | (repeat (first | exact hc | refine s4_drew ?_ | refine s4_alloc _ ?_ | refine s4_set (by first | omega | (simp; omega)) ?_)))
    (first
      | (go_at_call 38; have _t := T1; refine (R2 _).mono ?_; rintro _ _ ⟨rfl, rfl⟩)
      | (go_at_call 38; refine (R1 _).mono ?_; rintro _ _ ⟨rfl, rfl⟩; have T1 : True := trivial))
  all_goals
    refine H _ _ _ ?_ ?_ hl6_b
    all_goals first
      | exact hl6_0 hs rfl
      | exact hl6_1 hs rfl
      | exact hl6_2 hs rfl
      | exact hl6_3 hs rfl
      | exact hl6_4 hs rfl
      | exact hl6_5 hs rfl
end Go.Proofs.YtmpioejllfedoaaGreatDoor

/-
  Package span: product of any two ends, by its contract.
-/
namespace Go.Proofs.YtmpioejllfedoaaGreatDoor
open Go Go.RowKit Go.Proofs.YtmpioejllfedoaaGreatDoor.M
set_option linter.unusedSimpArgs false
set_option linter.unusedVariables false

theorem mulP_dir {p q way : Int} (rp : rng p) (rq : rng q) (hp : pok p = true) (hq : pok q = true) (h : prV p q ≠ 0) (hw : way ≠ 0) : mulP way p q = rdP way (prV p q) := by
  unfold mulP
  have n1 : ¬ (way = 0 ∨ (pok p && pok q) = false) := fun k => by
    rcases k with k | k
    · exact hw k
    · rw [hp, hq] at k; cases k
  rw [if_neg n1, if_pos h]
theorem prLo_nn {p q : Int} (hp : nn p) (hq : nn q) : nn (prLo p q) ∧ nn (prHi p q) := by
  unfold prLo prHi
  by_cases h0 : rg p = 0 ∨ rg q = 0
  · rw [if_pos h0, if_pos h0]; exact ⟨nn0.1, nn0.1⟩
  · rw [if_neg h0, if_neg h0]
    by_cases hi : rg p = 9218868437227405312 ∨ rg q = 9218868437227405312
    · rw [if_pos hi, if_pos hi]; exact ⟨patS_nn (by decide) (by decide), patS_nn (by decide) (by decide)⟩
    · rw [if_neg hi, if_neg hi]
      have pp := rg_pat0 hp (fun k => hi (.inl k))
      have pq := rg_pat0 hq (fun k => hi (.inr k))
      have hz := prV_nz hp.1 hq.1 pp pq (fun k => h0 (.inl k)) (fun k => h0 (.inr k))
      exact ⟨⟨(rdP_pat 1 hz).1, (rdP_pat 1 hz).2⟩, ⟨(rdP_pat 2 hz).1, (rdP_pat 2 hz).2⟩⟩
theorem spProduct {p q : Int} (hp : nn p) (hq : nn q) (w : World) (H : Hold4 w) :
    Calls Tryz.prog 66 #[.float .f64 (wd p), .float .f64 (wd q)] w fun e w' => e = .returned (ivl (prLo p q) (prHi p q)) ∧ Below w.heap.size w w' := by
  by_cases h0 : rg p = 0 ∨ rg q = 0
  · have e1 : prLo p q = 0 := by unfold prLo; rw [if_pos h0]
    have e2 : prHi p q = 0 := by unfold prHi; rw [if_pos h0]
    rw [e1, e2]
    exact product_zero hp hq h0 w
  · have p0 : rg p ≠ 0 := fun k => h0 (.inl k)
    have q0 : rg q ≠ 0 := fun k => h0 (.inr k)
    by_cases hi : rg p = 9218868437227405312 ∨ rg q = 9218868437227405312
    · obtain ⟨f1, f2⟩ := pr_infE hp hq p0 q0 hi
      have hn : nn (fprod p q) := by rw [f1]; exact patS_nn (by decide) (by decide)
      have hd : 283726776524341248 ≤ rg (fprod p q) := by rw [f1, (patS_parts (by decide) (by decide)).2.1]; decide
      have := product_be hp hq p0 q0 hn hd w
      rw [f2, f1] at this
      have e1 : prLo p q = patS (xsg p q) 9218868437227405312 := by unfold prLo; rw [if_neg h0, if_pos hi]
      have e2 : prHi p q = patS (xsg p q) 9218868437227405312 := by unfold prHi; rw [if_neg h0, if_pos hi]
      have b1 : beLo (patS (xsg p q) 9218868437227405312) 9221120237041090561 = patS (xsg p q) 9218868437227405312 := by unfold beLo; rw [show less 9221120237041090561 0 = false by decide]; rfl
      have b2 : beHi (patS (xsg p q) 9218868437227405312) 9221120237041090561 = patS (xsg p q) 9218868437227405312 := by unfold beHi; rw [show less 9221120237041090561 0 = false by decide, show less 0 9221120237041090561 = false by decide]; rfl
      rw [b1, b2] at this
      rw [e1, e2]
      exact this
    · have pp := rg_pat0 hp (fun k => hi (.inl k))
      have pq := rg_pat0 hq (fun k => hi (.inr k))
      have hz := prV_nz hp.1 hq.1 pp pq p0 q0
      have e1 : prLo p q = rdP 1 (prV p q) := by unfold prLo; rw [if_neg h0, if_neg hi]
      have e2 : prHi p q = rdP 2 (prV p q) := by unfold prHi; rw [if_neg h0, if_neg hi]
      have hN := fprod_fin hp.1 hq.1 pp pq hz
      have hn : nn (fprod p q) := by rw [hN]; exact ⟨(nearP_pat hz).1, (nearP_pat hz).2⟩
      rw [e1, e2]
      by_cases hd : rg (fprod p q) < 283726776524341248
      · have := product_deep hp hq p0 q0 hn hd w H
        rwa [mulP_dir hp.1 hq.1 pp pq hz (by decide), mulP_dir hp.1 hq.1 pp pq hz (by decide)] at this
      · have := product_be hp hq p0 q0 hn (by omega) w
        obtain ⟨b1, b2⟩ := pr_fin hp.1 hq.1 pp pq p0 q0 (by omega)
        rwa [b1, b2] at this
end Go.Proofs.YtmpioejllfedoaaGreatDoor

/-
  Small laws on worlds that grow.
-/
namespace Go.Proofs.YtmpioejllfedoaaGreatDoor
open Go Go.RowKit Go.Proofs.YtmpioejllfedoaaGreatDoor.M
set_option linter.unusedSimpArgs false
set_option linter.unusedVariables false

theorem al1 {w W : World} (h : Below w.heap.size w W) (o : Obj) : Below w.heap.size w (W.alloc o) := h.alloc h.size o
theorem blk_up {w W : World} (h : Below w.heap.size w W) {g : Nat} {X : Obj} (k : w.heap[g]? = some X) : W.heap[g]? = some X := (h.block _ (Array.getElem?_eq_some_iff.1 k).1).trans k
end Go.Proofs.YtmpioejllfedoaaGreatDoor
