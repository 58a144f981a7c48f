/-
  Package span: sum, by its contract: what the single operations tell, on patterns.
-/
import Derived.Test.YtcpjdgfnblkfpaaGreatDoorSSum
namespace Go.Proofs.YtcpjdgfnblkfpaaGreatDoor
open Go Go.RowKit Go.Proofs.YtcpjdgfnblkfpaaGreatDoor.M
set_option linter.unusedSimpArgs false
set_option linter.unusedVariables false

theorem q_heap_last (w : World) (o : Obj) : (w.alloc o).heap[w.heap.size]? = some o := by
  show (w.heap.push o)[w.heap.size]? = _
  simp
/-- the greater one, signs aside, and the other one -/
def hiM (p q : Int) : Int := if rg p < rg q then q else p
def loM (p q : Int) : Int := if rg p < rg q then p else q
def suN (p q : Int) : Int := fsum (hiM p q) (loM p q)
def suL (p q : Int) : Int := fsum (loM p q) (neg (fsum (suN p q) (neg (hiM p q))))
set_option maxRecDepth 100000 in
set_option maxHeartbeats 1000000 in
theorem sum_core {p q x y n l : Int} (hp : nn p) (hq : nn q) (hx : nn x) (hy : nn y) (hn : nn n) (en : n = fsum x y) (el : l = fsum y (neg (fsum n (neg x)))) (w : World)
    (hsw : (FloatKind.f64.format.order (wd (rg p)) (wd (rg q)) = some .lt ∧ x = q ∧ y = p) ∨ ((FloatKind.f64.format.order (wd (rg p)) (wd (rg q)) = some .gt ∨ FloatKind.f64.format.order (wd (rg p)) (wd (rg q)) = some .eq) ∧ x = p ∧ y = q)) :
    Calls Tryz.prog 90 #[.float .f64 (wd p), .float .f64 (wd q)] w fun e w' => e = .returned (.agg #[.float .f64 (wd (beLo n l)), .float .f64 (wd (beHi n l))]) ∧ Below w.heap.size w w' := by
  have CP : Hid (∀ W, Calls Tryz.prog 14 #[.float .f64 (wd p)] W fun e w' => e = .returned (.float .f64 (wd (rg p))) ∧ w' = W) := fun W => mathAbs hp.1 W
  have CQ : Hid (∀ W, Calls Tryz.prog 14 #[.float .f64 (wd q)] W fun e w' => e = .returned (.float .f64 (wd (rg q))) ∧ w' = W) := fun W => mathAbs hq.1 W
  have fx : FW x (wd x) := .inl ⟨hx.2, hx.1, rfl⟩
  have fy : FW y (wd y) := .inl ⟨hy.2, hy.1, rfl⟩
  have fn : FW n (wd n) := .inl ⟨hn.2, hn.1, rfl⟩
  have h1 : ∀ W, (binOp .add 42 (.float .f64 (wd x)) (.float .f64 (wd y))).run Tryz.prog W = .ok (.float .f64 (wd n)) W := fun W => by rw [en]; exact run_sumN _ fx fy (by rw [← en]; exact hn.2) W
  have hg := q_heap_last w (.cells #[.float .f64 0, .float .f64 0] 98)
  have hba := bel_alloc w (.cells #[.float .f64 0, .float .f64 0] 98)
  obtain ⟨D, W1, r1, fD, hW1⟩ := run_fdiff (P := Tryz.prog) 42 fn fx (w.alloc (.cells #[.float .f64 0, .float .f64 0] 98))
  obtain ⟨L, W2, r2, fL, hW2⟩ := run_fdiff (P := Tryz.prog) 42 fy fD W1
  rw [← el] at fL
  have b1 : Below (w.alloc (.cells #[.float .f64 0, .float .f64 0] 98)).heap.size (w.alloc (.cells #[.float .f64 0, .float .f64 0] 98)) W1 := by
    rcases hW1 with rfl | rfl
    · exact bel_refl _
    · exact (bel_refl _).drew
  have b2 : Below W1.heap.size W1 W2 := by
    rcases hW2 with rfl | rfl
    · exact bel_refl _
    · exact (bel_refl _).drew
  have CB : Hid (∀ W, Calls Tryz.prog 122 #[.float .f64 (wd n), .float .f64 L] W fun e w' => e = .returned (.agg #[.float .f64 (wd (beLo n l)), .float .f64 (wd (beHi n l))]) ∧ Below W.heap.size W w') := fun W => beside_any hn fL W
  generalize wd (beLo n l) = U at *
  generalize wd (beHi n l) = V at *
  clear fx fy fn fD fL hW1 hW2 en el hx hy hn hp hq
  have fin : ∀ (w3 : World), Below W2.heap.size W2 w3 → (store ⟨w.heap.size, 0, none⟩ (.float .f64 U)).run Tryz.prog w3 = .ok () (w3.setCell ⟨w.heap.size, 0, none⟩ (.float .f64 U)) ∧ (store ⟨w.heap.size, 1, none⟩ (.float .f64 V)).run Tryz.prog (w3.setCell ⟨w.heap.size, 0, none⟩ (.float .f64 U)) = .ok () ((w3.setCell ⟨w.heap.size, 0, none⟩ (.float .f64 U)).setCell ⟨w.heap.size, 1, none⟩ (.float .f64 V)) ∧ ((w3.setCell ⟨w.heap.size, 0, none⟩ (.float .f64 U)).setCell ⟨w.heap.size, 1, none⟩ (.float .f64 V)).cell? ⟨w.heap.size, 0, none⟩ = some (.float .f64 U) ∧ ((w3.setCell ⟨w.heap.size, 0, none⟩ (.float .f64 U)).setCell ⟨w.heap.size, 1, none⟩ (.float .f64 V)).cell? ⟨w.heap.size, 1, none⟩ = some (.float .f64 V) ∧ Below w.heap.size w ((w3.setCell ⟨w.heap.size, 0, none⟩ (.float .f64 U)).setCell ⟨w.heap.size, 1, none⟩ (.float .f64 V)) := by
    intro w3 hb3
    have hbb := bel_trans b1 (bel_trans b2 hb3)
    have d2 := (hbb.block _ (Array.getElem?_eq_some_iff.1 hg).1).trans hg
    have d3 := q_heap_set d2 0 (.float .f64 U)
    have d4 := q_heap_set d3 1 (.float .f64 V)
    have f0 := blkC d2 0 rfl
    have z0 := blkF d2 0
    have f1 := blkC d3 1 rfl
    have z1 := blkF d3 1
    refine ⟨?_, ?_, blkC d4 0 rfl, blkC d4 1 rfl, ?_⟩
    · rw [run_store _ _ _ _ _ rfl, f0]; simp only [z0]; rfl
    · rw [run_store _ _ _ _ _ rfl, f1]; simp only [z1]; rfl
    · exact ((bel_trans hba hbb).setCell (p := ⟨w.heap.size, 0, none⟩) (Nat.le_refl _) _).setCell (p := ⟨w.heap.size, 1, none⟩) (Nat.le_refl _) _
  have FIN := hideIt fin
  clear fin b1 b2 hba hg
  rcases hsw with ⟨o, rfl, rfl⟩ | ⟨o | o, rfl, rfl⟩
  all_goals
    go_enter Tryz.func90, Tryz.ntmps90
    go_wp2_with fail
    refine (CP.out _).mono ?_
    rintro _ _ ⟨rfl, rfl⟩
    go_wp2_with fail
    refine (CQ.out _).mono ?_
    rintro _ _ ⟨rfl, rfl⟩
    go_wp2_with fail
    refine (CB.out _).mono ?_
    rintro _ w3 ⟨rfl, hb3⟩
    obtain ⟨s0, s1, e0, e1, hbe⟩ := FIN.out w3 hb3
    go_wp2
    refine bodyPost_ret (v := .agg #[.float .f64 U, .float .f64 V]) (by simp [results, Tryz.results90, go_sem, e0, e1]) rfl ⟨rfl, hbe⟩
theorem spanSum {p q : Int} (hp : nn p) (hq : nn q) (hn : nn (suN p q)) (w : World) :
    Calls Tryz.prog 90 #[.float .f64 (wd p), .float .f64 (wd q)] w fun e w' => e = .returned (ivl (beLo (suN p q) (suL p q)) (beHi (suN p q) (suL p q))) ∧ Below w.heap.size w w' := by
  obtain ⟨a1, a2⟩ := q_rg hp.1
  obtain ⟨b1, b2⟩ := q_rg hq.1
  have ca : ¬ cls (rg p) = 4 := by rw [q_cls hp.1]; exact hp.2
  have cb : ¬ cls (rg q) = 4 := by rw [q_cls hq.1]; exact hq.2
  have ka := q_key a2
  have kb := q_key b2
  by_cases h : rg p < rg q
  · have ex : hiM p q = q := if_pos h
    have ey : loM p q = p := if_pos h
    refine sum_core hp hq hq hp hn (by unfold suN; rw [ex, ey]) (by unfold suL; rw [ex, ey]) w (.inl ⟨q_lt a1 b1 ca cb (by rw [ka, kb]; exact h), rfl, rfl⟩)
  · have ex : hiM p q = p := if_neg h
    have ey : loM p q = q := if_neg h
    refine sum_core hp hq hp hq hn (by unfold suN; rw [ex, ey]) (by unfold suL; rw [ex, ey]) w (.inr ⟨?_, rfl, rfl⟩)
    by_cases e : rg p = rg q
    · exact .inr (q_eq a1 b1 ca cb (by rw [ka, kb]; exact e))
    · exact .inl (q_gt a1 b1 ca cb (by rw [ka, kb]; omega))
end Go.Proofs.YtcpjdgfnblkfpaaGreatDoor
