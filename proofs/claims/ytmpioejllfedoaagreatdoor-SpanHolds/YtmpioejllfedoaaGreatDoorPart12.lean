/-
  Parts of the proof, one behind another.
-/
import Derived.Test.YtmpioejllfedoaaGreatDoorPart10
import Derived.Test.YtmpioejllfedoaaGreatDoorPart1
import Derived.Test.YtmpioejllfedoaaGreatDoorPart8
import Derived.Test.YtmpioejllfedoaaGreatDoorPart11
import Derived.Test.YtmpioejllfedoaaGreatDoorPart9
import Derived.Laws.Externs
/-
  Sums and products of patterns, as whole numbers of the least float: the nearest ones; finite where the exact one is not too great; finite only where both operands are.
-/
namespace Go.Proofs.YtmpioejllfedoaaGreatDoor
open Go Go.RowKit Go.Proofs.YtmpioejllfedoaaGreatDoor.M Ieee
set_option linter.unusedSimpArgs false
set_option linter.unusedVariables false

theorem nan_rng : rng 9221120237041090561 := by unfold rng; decide
theorem pok_of {p : Int} (hp : rng p) (h4 : ¬ cls p = 4) (hi : ¬ rg p = 9218868437227405312) : pok p = true := by
  have := (cls_rg hp).1
  rw [pok_rg hp]
  have : ¬ 9218868437227405312 < rg p := fun c => h4 (this.2 c)
  omega
theorem fin_cls {p : Int} (hp : rng p) (h : pok p = true) : ¬ cls p = 4 ∧ ¬ rg p = 9218868437227405312 := by
  have h1 := (pok_rg hp).1 h
  exact ⟨fun c => by have := (cls_rg hp).1.1 c; omega, by omega⟩
theorem zero_facts (g : Bool) : rng (patS g 0) ∧ pok (patS g 0) = true ∧ iV (patS g 0) = 0 := by
  refine ⟨(patS_parts (by decide) (by decide)).1, ?_, ?_⟩
  · rw [patS_fin (by decide) (by decide)]; decide
  · rw [iV_patS (by decide) (by decide)]
    show sg g (V Ieee.double 0 : Int) = 0
    rw [V_zero]
    exact sg_zero g
/-- What a step tells: a pattern; a nearest float of the exact number, where it is finite; finite, where that number is not too great. -/
structure EStp (S p : Int) : Prop where
  rn : rng p
  nr : pok p = true → Nr S (iV p)
  fin : (S.natAbs : Int) ≤ maxV → pok p = true
theorem stp_zero (g : Bool) : EStp 0 (patS g 0) := by
  obtain ⟨a, b, c⟩ := zero_facts g
  exact ⟨a, fun _ => by rw [c]; exact nr_zero, fun _ => b⟩
theorem stp_near {S : Int} (h : S ≠ 0) : EStp S (nearP (S * pw (-1074))) := by
  obtain ⟨a, b, c⟩ := near_iV h
  exact ⟨a, b, c⟩
theorem k_zero0 {T w : Int} (hw : 0 < w) (d : T * w = 0) : T = 0 := by
  rcases Int.mul_eq_zero.1 d with g | g <;> omega
theorem stp_sum {p q : Int} (hp : rng p) (hq : rng q) (pp : pok p = true) (pq : pok q = true) : EStp (iV p + iV q) (fsum p q) := by
  obtain ⟨a1, a2⟩ := fin_cls hp pp
  obtain ⟨b1, b2⟩ := fin_cls hq pq
  have e : fsum p q = if iV p + iV q = 0 then patS (decide (p < 0) && decide (q < 0)) 0 else nearP ((iV p + iV q) * pw (-1074)) := by
    unfold fsum
    rw [if_neg (fun c => c.elim a1 b1), if_neg a2, if_neg b2, patV_iV hp pp, patV_iV hq pq, ← Int.add_mul]
    have hq := pw_pos (-1074)
    by_cases c : iV p + iV q = 0
    · rw [if_pos c, if_pos (by rw [c, Int.zero_mul])]
    · rw [if_neg c, if_neg (fun d => c (k_zero0 hq d))]
  rw [e]
  by_cases c : iV p + iV q = 0
  · rw [if_pos c, c]; exact stp_zero _
  · rw [if_neg c]; exact stp_near c
theorem neg_facts {q : Int} (hq : rng q) (h : pok q = true) : rng (neg q) ∧ pok (neg q) = true ∧ iV (neg q) = -iV q := by
  obtain ⟨b1, b2⟩ := fin_cls hq h
  have h1 := (pok_rg hq).1 h
  have e : neg q = patS (!decide (q < 0)) (rg q) := by
    unfold neg patS rg
    rw [if_neg b1]
    by_cases c : q < 0
    · rw [if_pos c, if_pos c, decide_eq_true c]; rfl
    · rw [if_neg c, if_neg c, decide_eq_false c]; rfl
  have h0 : 0 ≤ rg q := by unfold rg; unfold rng at hq; split <;> omega
  obtain ⟨c1, c2, c3⟩ := patS_parts (ng := !decide (q < 0)) h0 (by omega)
  refine ⟨by rw [e]; exact c1, by rw [e, patS_fin h0 (by omega)]; exact decide_eq_true h1, ?_⟩
  rw [e, iV_patS h0 (by omega)]
  unfold iV
  rw [sg_not]
theorem neg_rng {q : Int} (hq : rng q) : rng (neg q) := by
  unfold neg rng at *
  split
  · omega
  · split <;> omega
theorem stp_diff {p q : Int} (hp : rng p) (hq : rng q) (pp : pok p = true) (pq : pok q = true) : EStp (iV p - iV q) (fsum p (neg q)) := by
  obtain ⟨a, b, c⟩ := neg_facts hq pq
  have := stp_sum hp a pp b
  rw [c] at this
  exact this
theorem fsum_rng {p q : Int} (hp : rng p) (hq : rng q) : rng (fsum p q) := by
  by_cases h : pok p = true ∧ pok q = true
  · exact (stp_sum hp hq h.1 h.2).rn
  · unfold fsum
    by_cases c4 : cls p = 4 ∨ cls q = 4
    · rw [if_pos c4]; exact nan_rng
    rw [if_neg c4]
    by_cases ci : rg p = 9218868437227405312
    · rw [if_pos ci]; split
      · exact nan_rng
      · exact hp
    rw [if_neg ci]
    by_cases cj : rg q = 9218868437227405312
    · rw [if_pos cj]; exact hq
    exact absurd ⟨pok_of hp (fun c => c4 (.inl c)) ci, pok_of hq (fun c => c4 (.inr c)) cj⟩ h
end Go.Proofs.YtmpioejllfedoaaGreatDoor

/-
  Plain mathematics: which numbers in their one form are floats. No Go text in sight.
-/
namespace Go.Proofs.YtmpioejllfedoaaGreatDoor
open Go Go.RowKit Go.Proofs.YtmpioejllfedoaaGreatDoor.M
set_option linter.unusedSimpArgs false
set_option linter.unusedVariables false

end Go.Proofs.YtmpioejllfedoaaGreatDoor

/-
  Plain mathematics: the end of the law on products that are fused. No Go text in sight.
-/
namespace Go.Proofs.YtmpioejllfedoaaGreatDoor
open Go Go.RowKit Go.Proofs.YtmpioejllfedoaaGreatDoor.M
set_option linter.unusedSimpArgs false
set_option linter.unusedVariables false

theorem patV_opp {p : Int} (rp : rng p) (hp : pok p = true) : patV (neg p) = -patV p := by
  obtain ⟨n1, n2, n3⟩ := neg_facts rp hp
  rw [patV_iV n1 n2, patV_iV rp hp, n3, Int.neg_mul]
end Go.Proofs.YtmpioejllfedoaaGreatDoor

/-
  Package span: sum, by its contract: what the single operations tell, on patterns.
-/
namespace Go.Proofs.YtmpioejllfedoaaGreatDoor
open Go Go.RowKit Go.Proofs.YtmpioejllfedoaaGreatDoor.M
set_option linter.unusedSimpArgs false
set_option linter.unusedVariables false

theorem run_sumN {P : Program} (t : TypeId) {p q : Int} {x y : Nat} (hx : FW p x) (hy : FW q y) (h : cls (fsum p q) ≠ 4) (w : World) :
    (binOp .add t (.float .f64 x) (.float .f64 y)).run P w = .ok (.float .f64 (wd (fsum p q))) w := by
  obtain ⟨z, w', hr, hz⟩ := run_farith (P := P) .add (.inl rfl) t x y w
  have hf : floatBits .add .f64 x y = Ieee.double.add x y := rfl
  rw [hf] at hz
  rcases add_FW hx hy with ⟨z', e1, e2⟩ | ⟨e1, e2⟩
  · rcases hz with ⟨h1, h2⟩ | ⟨h1, _⟩
    · rw [e1] at h1; cases h1
      rw [hr, h2, (e2.of h).2.1]
    · rw [e1] at h1; cases h1
  · exact absurd (by rw [e2]; exact nan_canon) h
theorem fw_order {l : Int} {L : Nat} (h : FW l L) : (less l 0 = true → FloatKind.f64.format.order L 0 = some .lt) ∧ (less 0 l = true → FloatKind.f64.format.order L 0 = some .gt) ∧ (less l 0 = false → less 0 l = false → FloatKind.f64.format.order L 0 = some .eq ∨ FloatKind.f64.format.order L 0 = none) := by
  have n0 := nn0.1
  have k0 : key 0 = 0 := by decide
  have e0 : wd 0 = 0 := by decide
  have c0 : ¬ cls 0 = 4 := by decide
  by_cases h4 : cls l = 4
  · have ho : FloatKind.f64.format.order L 0 = none := by
      rcases h with ⟨a, _, _⟩ | ⟨rfl, hN⟩
      · exact absurd h4 a
      · exact order_nan Ieee.double dOk L 0 (.inl (by rw [dInf, dSign]; exact hN.2))
    have l1 : less l 0 = false := by unfold less; simp [h4]
    have l2 : less 0 l = false := by unfold less; simp [h4]
    exact ⟨fun h => by (rw [l1] at h; cases h), fun h => by (rw [l2] at h; cases h), fun _ _ => .inr ho⟩
  · obtain ⟨hr, rfl, _, _⟩ := h.of h4
    have l1 : less l 0 = decide (key l < 0) := by unfold less; simp [h4, c0, k0]
    have l2 : less 0 l = decide (0 < key l) := by unfold less; simp [h4, c0, k0]
    rw [l1, l2]
    refine ⟨fun g => ?_, fun g => ?_, fun g1 g2 => ?_⟩
    · have := q_lt hr n0.1 h4 n0.2 (by rw [k0]; exact of_decide_eq_true g)
      rwa [e0] at this
    · have := q_gt hr n0.1 h4 n0.2 (by rw [k0]; exact of_decide_eq_true g)
      rwa [e0] at this
    · have g1' := of_decide_eq_false g1
      have g2' := of_decide_eq_false g2
      have := q_eq hr n0.1 h4 n0.2 (by rw [k0]; omega)
      rw [e0] at this
      exact .inl this
/-- the interval beside a float, by what was lost -/
def beLo (n l : Int) : Int := if less l 0 then prev n else n
def beHi (n l : Int) : Int := if less l 0 then n else if less 0 l then next n else n
theorem beside_any {n l : Int} {L : Nat} (hn : nn n) (hl : FW l L) (w : World) :
    Calls Tryz.prog 81 #[.float .f64 (wd n), .float .f64 L] w fun e w' => e = .returned (.agg #[.float .f64 (wd (beLo n l)), .float .f64 (wd (beHi n l))]) ∧ Below w.heap.size w w' := by
  obtain ⟨o1, o2, o3⟩ := fw_order hl
  unfold beLo beHi
  cases h1 : less l 0
  · cases h2 : less 0 l
    · exact (besideSame (wd n) L (o3 h1 h2) w).mono fun _ _ ⟨a, b⟩ => ⟨a, by rw [b]; exact bel_alloc _ _⟩
    · exact (besideUp hn L (o2 h2) w).mono fun _ _ ⟨a, b⟩ => ⟨a, by rw [b]; exact bel_alloc _ _⟩
  · exact (besideDown hn L (o1 h1) w).mono fun _ _ ⟨a, b⟩ => ⟨a, by rw [b]; exact bel_alloc _ _⟩
end Go.Proofs.YtmpioejllfedoaaGreatDoor

/-
  Package span: sum, by its contract: what the single operations tell, on patterns.
-/
namespace Go.Proofs.YtmpioejllfedoaaGreatDoor
open Go Go.RowKit Go.Proofs.YtmpioejllfedoaaGreatDoor.M
set_option linter.unusedSimpArgs false
set_option linter.unusedVariables false

theorem q_heap_last (w : World) (o : Obj) : (w.alloc o).heap[w.heap.size]? = some o := by
  show (w.heap.push o)[w.heap.size]? = _
  simp
/-- the greater one, signs aside, and the other one -/
def hiM (p q : Int) : Int := if rg p < rg q then q else p
def loM (p q : Int) : Int := if rg p < rg q then p else q
def suN (p q : Int) : Int := fsum (hiM p q) (loM p q)
def suL (p q : Int) : Int := fsum (loM p q) (neg (fsum (suN p q) (neg (hiM p q))))
set_option maxRecDepth 100000 in
set_option maxHeartbeats 1000000 in
theorem sum_core {p q x y n l : Int} (hp : nn p) (hq : nn q) (hx : nn x) (hy : nn y) (hn : nn n) (en : n = fsum x y) (el : l = fsum y (neg (fsum n (neg x)))) (w : World)
    (hsw : (FloatKind.f64.format.order (wd (rg p)) (wd (rg q)) = some .lt ∧ x = q ∧ y = p) ∨ ((FloatKind.f64.format.order (wd (rg p)) (wd (rg q)) = some .gt ∨ FloatKind.f64.format.order (wd (rg p)) (wd (rg q)) = some .eq) ∧ x = p ∧ y = q)) :
    Calls Tryz.prog 65 #[.float .f64 (wd p), .float .f64 (wd q)] w fun e w' => e = .returned (.agg #[.float .f64 (wd (beLo n l)), .float .f64 (wd (beHi n l))]) ∧ Below w.heap.size w w' := by
  have CP : Hid (∀ W, Calls Tryz.prog 80 #[.float .f64 (wd p)] W fun e w' => e = .returned (.float .f64 (wd (rg p))) ∧ w' = W) := fun W => mathAbs hp.1 W
  have CQ : Hid (∀ W, Calls Tryz.prog 80 #[.float .f64 (wd q)] W fun e w' => e = .returned (.float .f64 (wd (rg q))) ∧ w' = W) := fun W => mathAbs hq.1 W
  have fx : FW x (wd x) := .inl ⟨hx.2, hx.1, rfl⟩
  have fy : FW y (wd y) := .inl ⟨hy.2, hy.1, rfl⟩
  have fn : FW n (wd n) := .inl ⟨hn.2, hn.1, rfl⟩
  have h1 : ∀ W, (binOp .add 59 (.float .f64 (wd x)) (.float .f64 (wd y))).run Tryz.prog W = .ok (.float .f64 (wd n)) W := fun W => by rw [en]; exact run_sumN _ fx fy (by rw [← en]; exact hn.2) W
  have hg := q_heap_last w (.cells #[.float .f64 0, .float .f64 0] 61)
  have hba := bel_alloc w (.cells #[.float .f64 0, .float .f64 0] 61)
  obtain ⟨D, W1, r1, fD, hW1⟩ := run_fdiff (P := Tryz.prog) 59 fn fx (w.alloc (.cells #[.float .f64 0, .float .f64 0] 61))
  obtain ⟨L, W2, r2, fL, hW2⟩ := run_fdiff (P := Tryz.prog) 59 fy fD W1
  rw [← el] at fL
  have b1 : Below (w.alloc (.cells #[.float .f64 0, .float .f64 0] 61)).heap.size (w.alloc (.cells #[.float .f64 0, .float .f64 0] 61)) W1 := by
    rcases hW1 with rfl | rfl
    · exact bel_refl _
    · exact (bel_refl _).drew
  have b2 : Below W1.heap.size W1 W2 := by
    rcases hW2 with rfl | rfl
    · exact bel_refl _
    · exact (bel_refl _).drew
  have CB : Hid (∀ W, Calls Tryz.prog 81 #[.float .f64 (wd n), .float .f64 L] W fun e w' => e = .returned (.agg #[.float .f64 (wd (beLo n l)), .float .f64 (wd (beHi n l))]) ∧ Below W.heap.size W w') := fun W => beside_any hn fL W
  generalize wd (beLo n l) = U at *
  generalize wd (beHi n l) = V at *
  clear fx fy fn fD fL hW1 hW2 en el hx hy hn hp hq
  have fin : ∀ (w3 : World), Below W2.heap.size W2 w3 → (store ⟨w.heap.size, 0, none⟩ (.float .f64 U)).run Tryz.prog w3 = .ok () (w3.setCell ⟨w.heap.size, 0, none⟩ (.float .f64 U)) ∧ (store ⟨w.heap.size, 1, none⟩ (.float .f64 V)).run Tryz.prog (w3.setCell ⟨w.heap.size, 0, none⟩ (.float .f64 U)) = .ok () ((w3.setCell ⟨w.heap.size, 0, none⟩ (.float .f64 U)).setCell ⟨w.heap.size, 1, none⟩ (.float .f64 V)) ∧ ((w3.setCell ⟨w.heap.size, 0, none⟩ (.float .f64 U)).setCell ⟨w.heap.size, 1, none⟩ (.float .f64 V)).cell? ⟨w.heap.size, 0, none⟩ = some (.float .f64 U) ∧ ((w3.setCell ⟨w.heap.size, 0, none⟩ (.float .f64 U)).setCell ⟨w.heap.size, 1, none⟩ (.float .f64 V)).cell? ⟨w.heap.size, 1, none⟩ = some (.float .f64 V) ∧ Below w.heap.size w ((w3.setCell ⟨w.heap.size, 0, none⟩ (.float .f64 U)).setCell ⟨w.heap.size, 1, none⟩ (.float .f64 V)) := by
    intro w3 hb3
    have hbb := bel_trans b1 (bel_trans b2 hb3)
    have d2 := (hbb.block _ (Array.getElem?_eq_some_iff.1 hg).1).trans hg
    have d3 := q_heap_set d2 0 (.float .f64 U)
    have d4 := q_heap_set d3 1 (.float .f64 V)
    have f0 := blkC d2 0 rfl
    have z0 := blkF d2 0
    have f1 := blkC d3 1 rfl
    have z1 := blkF d3 1
    refine ⟨?_, ?_, blkC d4 0 rfl, blkC d4 1 rfl, ?_⟩
    · rw [run_store _ _ _ _ _ rfl, f0]; simp only [z0]; rfl
    · rw [run_store _ _ _ _ _ rfl, f1]; simp only [z1]; rfl
    · exact ((bel_trans hba hbb).setCell (p := ⟨w.heap.size, 0, none⟩) (Nat.le_refl _) _).setCell (p := ⟨w.heap.size, 1, none⟩) (Nat.le_refl _) _
  have FIN := hideIt fin
  clear fin b1 b2 hba hg
  rcases hsw with ⟨o, rfl, rfl⟩ | ⟨o | o, rfl, rfl⟩
  all_goals
    go_enter Tryz.func65, Tryz.ntmps65
    go_wp2_with fail
    refine (CP.out _).mono ?_
    rintro _ _ ⟨rfl, rfl⟩
    go_wp2_with fail
    refine (CQ.out _).mono ?_
    rintro _ _ ⟨rfl, rfl⟩
    go_wp2_with fail
    refine (CB.out _).mono ?_
    rintro _ w3 ⟨rfl, hb3⟩
    obtain ⟨s0, s1, e0, e1, hbe⟩ := FIN.out w3 hb3
    go_wp2
    refine bodyPost_ret (v := .agg #[.float .f64 U, .float .f64 V]) (by simp [results, Tryz.results65, go_sem, e0, e1]) rfl ⟨rfl, hbe⟩
theorem spanSum {p q : Int} (hp : nn p) (hq : nn q) (hn : nn (suN p q)) (w : World) :
    Calls Tryz.prog 65 #[.float .f64 (wd p), .float .f64 (wd q)] w fun e w' => e = .returned (ivl (beLo (suN p q) (suL p q)) (beHi (suN p q) (suL p q))) ∧ Below w.heap.size w w' := by
  obtain ⟨a1, a2⟩ := q_rg hp.1
  obtain ⟨b1, b2⟩ := q_rg hq.1
  have ca : ¬ cls (rg p) = 4 := by rw [q_cls hp.1]; exact hp.2
  have cb : ¬ cls (rg q) = 4 := by rw [q_cls hq.1]; exact hq.2
  have ka := q_key a2
  have kb := q_key b2
  by_cases h : rg p < rg q
  · have ex : hiM p q = q := if_pos h
    have ey : loM p q = p := if_pos h
    refine sum_core hp hq hq hp hn (by unfold suN; rw [ex, ey]) (by unfold suL; rw [ex, ey]) w (.inl ⟨q_lt a1 b1 ca cb (by rw [ka, kb]; exact h), rfl, rfl⟩)
  · have ex : hiM p q = p := if_neg h
    have ey : loM p q = q := if_neg h
    refine sum_core hp hq hp hq hn (by unfold suN; rw [ex, ey]) (by unfold suL; rw [ex, ey]) w (.inr ⟨?_, rfl, rfl⟩)
    by_cases e : rg p = rg q
    · exact .inr (q_eq a1 b1 ca cb (by rw [ka, kb]; exact e))
    · exact .inl (q_gt a1 b1 ca cb (by rw [ka, kb]; omega))
end Go.Proofs.YtmpioejllfedoaaGreatDoor

/-
  Package eft: the steps on floats, by their contracts: what they tell is told by patterns.
-/
namespace Go.Proofs.YtmpioejllfedoaaGreatDoor
open Go Go.RowKit Go.Proofs.YtmpioejllfedoaaGreatDoor.M Ieee
set_option linter.unusedSimpArgs false
set_option linter.unusedVariables false

/-- The patterns of TwoSum's, FastTwoSum's, Split's, TwoProd's second answers. -/
def sV (p q : Int) : Int := fsum (fsum p q) (neg p)
def fL (p q : Int) : Int := fsum q (neg (fsum (fsum p q) (neg p)))
theorem cv64 (x : Nat) (w : World) : (convert 59 59 (.float .f64 x)).run Tryz.prog w = .ok (.float .f64 x) w := run_convert_float_float w _ _ _ _ _ _ (by rw [Tryz.underlying59]; rfl) Tryz.underlying59 rfl
end Go.Proofs.YtmpioejllfedoaaGreatDoor

/-
  TwoSum, FastTwoSum, Split, TwoProd on patterns: where the second answer is finite nothing gets lost.
-/
namespace Go.Proofs.YtmpioejllfedoaaGreatDoor
open Go Go.RowKit Go.Proofs.YtmpioejllfedoaaGreatDoor.M Ieee
set_option linter.unusedSimpArgs false
set_option linter.unusedVariables false

theorem fl_iV (p : Int) : Fl (iV p) := by
  unfold iV
  cases decide (p < 0)
  · exact fl_V _
  · exact (fl_V _).neg
theorem iV_abs (p : Int) : ((iV p).natAbs : Int) = (V Ieee.double (rg p).toNat : Int) := by
  unfold iV sg
  cases decide (p < 0)
  · simp
  · simp
theorem iV_max {p : Int} (hp : rng p) (h : pok p = true) : ((iV p).natAbs : Int) ≤ maxV := by
  rw [iV_abs]
  have := (pok_rg hp).1 h
  exact V_le (by omega)
theorem back_le {a b h : Int} (ha : Fl a) (hab : b.natAbs ≤ a.natAbs) (n : Nr (a + b) h) : (h - a).natAbs ≤ a.natAbs := by
  have e1 := n.2 _ ha
  have e2 := n.2 _ ha.dbl
  have e3 := n.2 _ fl_zero
  omega
theorem fL_fin {p q : Int} (hp : rng p) (hq : rng q) (pp : pok p = true) (pq : pok q = true) (ph : pok (fsum p q) = true) (hab : (iV q).natAbs ≤ (iV p).natAbs) : pok (fL p q) = true ∧ iV (fsum p q) + iV (fL p q) = iV p + iV q := by
  have rh := fsum_rng hp hq
  have rv : rng (fsum (fsum p q) (neg p)) := fsum_rng rh (neg_rng hp)
  have nh := (stp_sum hp hq pp pq).nr ph
  have sv := stp_diff rh hp ph pp
  have b1 := back_le (fl_iV p) hab nh
  have pv := sv.fin (by have := iV_max hp pp; omega)
  have ev := nr_self (back (fl_iV p) (fl_iV q) hab nh) (sv.nr pv)
  have sl := stp_diff hq rv pq pv
  have e3 := nh.2 _ (fl_iV p)
  have pl := sl.fin (by rw [ev]; have := iV_max hq pq; omega)
  have nl := sl.nr pl
  have e4 := fast_sum (fl_iV p) (fl_iV q) hab nh (sv.nr pv) nl
  exact ⟨pl, by unfold fL; omega⟩
theorem fsum_eqn {p q : Int} (hp : rng p) (hq : rng q) (pp : pok p = true) (pq : pok q = true) : fsum p q = if patV p + patV q = 0 then patS (decide (p < 0) && decide (q < 0)) 0 else nearP (patV p + patV q) := by
  obtain ⟨a1, a2⟩ := fin_cls hp pp
  obtain ⟨b1, b2⟩ := fin_cls hq pq
  unfold fsum
  rw [if_neg (fun c => c.elim a1 b1), if_neg a2, if_neg b2]
end Go.Proofs.YtmpioejllfedoaaGreatDoor

/-
  Package span: sum: what it tells of finite ends: the exact sum lies between, with nothing between but it. Plain mathematics.
-/
namespace Go.Proofs.YtmpioejllfedoaaGreatDoor
open Go Go.RowKit Go.Proofs.YtmpioejllfedoaaGreatDoor.M
set_option linter.unusedSimpArgs false
set_option linter.unusedVariables false

theorem rg_iV {p q : Int} (h : rg p ≤ rg q) (hp : 0 ≤ rg p) : (iV p).natAbs ≤ (iV q).natAbs := by
  have a := iV_abs p
  have b := iV_abs q
  have c := V_le (show (rg p).toNat ≤ (rg q).toNat by omega)
  omega
theorem su_exact {p q : Int} (hp : rng p) (hq : rng q) (pp : pok p = true) (pq : pok q = true) (hf : pok (suN p q) = true) : pok (suL p q) = true ∧ iV (suN p q) + iV (suL p q) = iV p + iV q := by
  by_cases h : rg p < rg q
  · have ex : hiM p q = q := if_pos h
    have ey : loM p q = p := if_pos h
    unfold suL suN at *
    rw [ex, ey] at hf ⊢
    obtain ⟨a, b⟩ := fL_fin hq hp pq pp hf (rg_iV (by omega) (q_rg hp).2)
    exact ⟨a, by unfold fL at b; omega⟩
  · have ex : hiM p q = p := if_neg h
    have ey : loM p q = q := if_neg h
    unfold suL suN at *
    rw [ex, ey] at hf ⊢
    obtain ⟨a, b⟩ := fL_fin hp hq pp pq hf (rg_iV (by omega) (q_rg hq).2)
    exact ⟨a, by unfold fL at b; omega⟩
theorem V_zero_iff {r : Nat} : (V Ieee.double r : Int) = 0 ↔ r = 0 := by
  constructor
  · intro h
    by_cases h0 : r = 0
    · exact h0
    · have := V_lt Ieee.double (show 0 < r by omega)
      rw [V_zero] at this
      omega
  · rintro rfl
    rw [V_zero]
    rfl
/-- the sign of a value -/
theorem iV_key {p : Int} (hp : rng p) : (iV p < 0 ↔ key p < 0) ∧ (0 < iV p ↔ 0 < key p) := by
  have hz := @V_zero_iff (rg p).toNat
  have hr := q_rg hp
  unfold rng at hp
  have hv : (0 : Int) ≤ (V Ieee.double (rg p).toNat : Int) := by omega
  by_cases h : p < 0
  · have e1 : iV p = -(V Ieee.double (rg p).toNat : Int) := by unfold iV sg; simp [h]
    have e2 : key p = -(rg p) := by unfold key rg; rw [if_pos h, if_pos h]
    rw [e1, e2]
    constructor <;> constructor <;> intro g <;> omega
  · have e1 : iV p = (V Ieee.double (rg p).toNat : Int) := by unfold iV sg; simp [h]
    have e2 : key p = rg p := by unfold key rg; rw [if_neg h, if_neg h]
    rw [e1, e2]
    constructor <;> constructor <;> intro g <;> omega
theorem iV_mono {p q : Int} (hp : rng p) (hq : rng q) (h : key p < key q) : iV p < iV q := by
  have rp := q_rg hp
  have rq := q_rg hq
  have ep : iV p = if p < 0 then -(V Ieee.double (rg p).toNat : Int) else (V Ieee.double (rg p).toNat : Int) := by unfold iV sg; by_cases g : p < 0 <;> simp [g]
  have eq' : iV q = if q < 0 then -(V Ieee.double (rg q).toNat : Int) else (V Ieee.double (rg q).toNat : Int) := by unfold iV sg; by_cases g : q < 0 <;> simp [g]
  have kp : key p = if p < 0 then -(rg p) else rg p := by unfold key rg; by_cases g : p < 0 <;> simp [g]
  have kq : key q = if q < 0 then -(rg q) else rg q := by unfold key rg; by_cases g : q < 0 <;> simp [g]
  have zp := @V_zero_iff (rg p).toNat
  have zq := @V_zero_iff (rg q).toNat
  have m1 : rg p < rg q → (V Ieee.double (rg p).toNat : Int) < V Ieee.double (rg q).toNat := fun g => by
    have := V_lt Ieee.double (show (rg p).toNat < (rg q).toNat by omega)
    omega
  have m2 : rg q < rg p → (V Ieee.double (rg q).toNat : Int) < V Ieee.double (rg p).toNat := fun g => by
    have := V_lt Ieee.double (show (rg q).toNat < (rg p).toNat by omega)
    omega
  rw [kp, kq] at h
  rw [ep, eq']
  have hA0 : (0 : Int) ≤ (V Ieee.double (rg p).toNat : Int) := by omega
  have hB0 : (0 : Int) ≤ (V Ieee.double (rg q).toNat : Int) := by omega
  clear ep eq' kp kq
  generalize (V Ieee.double (rg p).toNat : Int) = A at *
  generalize (V Ieee.double (rg q).toNat : Int) = B at *
  by_cases a : p < 0 <;> by_cases b : q < 0 <;> simp only [a, b, if_true, if_false] at h ⊢ <;> omega
/-- below the nearest float: the one before it is not above the exact number -/
theorem nr_prev {n S : Int} (hn : nn n) (hi : ¬ n = -4503599627370496) (hp : rng (prev n)) (h : Nr S (iV n)) (g : S < iV n) : iV (prev n) ≤ S := by
  obtain ⟨k1, _⟩ := key_prev hn.1 hn.2 hi
  have m := iV_mono hp hn.1 (by omega)
  have := h.2 (iV (prev n)) (fl_iV _)
  omega
theorem nr_next {n S : Int} (hn : nn n) (hi : ¬ n = 9218868437227405312) (hp : rng (next n)) (h : Nr S (iV n)) (g : iV n < S) : S ≤ iV (next n) := by
  obtain ⟨k1, _, _, _⟩ := key_next hn.1 hn.2 hi
  have m := iV_mono hn.1 hp (by omega)
  have := h.2 (iV (next n)) (fl_iV _)
  omega
theorem rng_prev' {p : Int} (h : rng p) : rng (prev p) := by unfold prev; exact rng_neg (rng_next (rng_neg h))
/-- What sum tells of finite ends whose sum is finite: the exact sum lies between; it is both ends, or they are neighbours and it lies above the lower and below the upper one, or on one that is not the nearest. -/
theorem su_btw {p q : Int} (hp : rng p) (hq : rng q) (pp : pok p = true) (pq : pok q = true) (hf : pok (suN p q) = true) (hn : nn (suN p q)) :
    iV (beLo (suN p q) (suL p q)) ≤ iV p + iV q ∧ iV p + iV q ≤ iV (beHi (suN p q) (suL p q)) ∧ ((iV (suN p q) = iV p + iV q ∧ beLo (suN p q) (suL p q) = suN p q ∧ beHi (suN p q) (suL p q) = suN p q) ∨ (iV p + iV q < iV (suN p q) ∧ beLo (suN p q) (suL p q) = prev (suN p q) ∧ beHi (suN p q) (suL p q) = suN p q) ∨ (iV (suN p q) < iV p + iV q ∧ beLo (suN p q) (suL p q) = suN p q ∧ beHi (suN p q) (suL p q) = next (suN p q))) := by
  obtain ⟨pl, he⟩ := su_exact hp hq pp pq hf
  have hNr : Nr (iV p + iV q) (iV (suN p q)) := by
    by_cases h : rg p < rg q
    · have ex : hiM p q = q := if_pos h
      have ey : loM p q = p := if_pos h
      unfold suN at hf ⊢
      rw [ex, ey] at hf ⊢
      have := (stp_sum hq hp pq pp).nr hf
      rwa [Int.add_comm] at this
    · have ex : hiM p q = p := if_neg h
      have ey : loM p q = q := if_neg h
      unfold suN at hf ⊢
      rw [ex, ey] at hf ⊢
      exact (stp_sum hp hq pp pq).nr hf
  have i1 : ¬ suN p q = -4503599627370496 := fun e => by rw [e] at hf; revert hf; decide
  have i2 : ¬ suN p q = 9218868437227405312 := fun e => by rw [e] at hf; revert hf; decide
  have rl : rng (suL p q) := by
    unfold suL
    have a1 : rng (hiM p q) := by unfold hiM; split <;> assumption
    have a2 : rng (loM p q) := by unfold loM; split <;> assumption
    exact fsum_rng a2 (rng_neg (fsum_rng hn.1 (rng_neg a1)))
  obtain ⟨kl1, kl2⟩ := iV_key rl
  have c0 : ¬ cls 0 = 4 := by decide
  have k0 : key 0 = 0 := by decide
  have cl := q_fin pl
  have l1 : less (suL p q) 0 = decide (key (suL p q) < 0) := by unfold less; simp [cl, c0, k0]
  have l2 : less 0 (suL p q) = decide (0 < key (suL p q)) := by unfold less; simp [cl, c0, k0]
  unfold beLo beHi
  rw [l1, l2]
  generalize suN p q = n at *
  generalize suL p q = l at *
  by_cases a : key l < 0
  · have al : iV l < 0 := kl1.2 a
    simp only [a, decide_true, if_true]
    exact ⟨nr_prev hn i1 (rng_prev' hn.1) hNr (by omega), by omega, .inr (.inl ⟨by omega, by trivial, by trivial⟩)⟩
  · by_cases b : 0 < key l
    · have bl : 0 < iV l := kl2.2 b
      simp only [a, b, decide_true, decide_false, if_true, if_false, Bool.false_eq_true]
      exact ⟨by omega, nr_next hn i2 (rng_next hn.1) hNr (by omega), .inr (.inr ⟨by omega, by trivial, by trivial⟩)⟩
    · have z1 : ¬ iV l < 0 := fun h => a (kl1.1 h)
      have z2 : ¬ 0 < iV l := fun h => b (kl2.1 h)
      simp only [a, b, decide_false, if_false, Bool.false_eq_true]
      exact ⟨by omega, by omega, .inl ⟨by omega, by trivial, by trivial⟩⟩
end Go.Proofs.YtmpioejllfedoaaGreatDoor

/-
  Package span: sum at infinite ends, and beyond the range. Plain mathematics.
-/
namespace Go.Proofs.YtmpioejllfedoaaGreatDoor
open Go Go.RowKit Go.Proofs.YtmpioejllfedoaaGreatDoor.M
set_option linter.unusedSimpArgs false
set_option linter.unusedVariables false

theorem su_neg {p : Int} (h : nn p) : rg (neg p) = rg p ∧ (decide (neg p < 0) ≠ decide (p < 0)) := by
  have hr := h.1
  unfold rng at hr
  unfold neg
  rw [if_neg h.2]
  unfold rg
  by_cases g : p < 0
  · rw [if_pos g, if_neg (by omega)]
    refine ⟨by rw [if_pos g], ?_⟩
    rw [decide_eq_false (by omega), decide_eq_true g]
    decide
  · rw [if_neg g, if_pos (by omega)]
    refine ⟨by rw [if_neg g]; omega, ?_⟩
    rw [decide_eq_true (by omega), decide_eq_false g]
    decide
theorem fsum_nan (p : Int) : fsum p 9221120237041090561 = 9221120237041090561 := by
  unfold fsum
  rw [if_pos (.inr nan_canon)]
theorem hl_nn {p q : Int} (hp : nn p) (hq : nn q) : nn (hiM p q) ∧ nn (loM p q) ∧ (hiM p q = p ∧ loM p q = q ∨ hiM p q = q ∧ loM p q = p) ∧ rg (loM p q) ≤ rg (hiM p q) := by
  unfold hiM loM
  by_cases h : rg p < rg q
  · rw [if_pos h, if_pos h]; exact ⟨hq, hp, .inr ⟨rfl, rfl⟩, by omega⟩
  · rw [if_neg h, if_neg h]; exact ⟨hp, hq, .inl ⟨rfl, rfl⟩, by omega⟩
/-- An infinite end: that one alone. -/
theorem su_infEnd {p q : Int} (hp : nn p) (hq : nn q) (h : rg (hiM p q) = 9218868437227405312) (hno : ¬ (rg p = 9218868437227405312 ∧ rg q = 9218868437227405312 ∧ decide (p < 0) ≠ decide (q < 0))) :
    suN p q = hiM p q ∧ beLo (suN p q) (suL p q) = hiM p q ∧ beHi (suN p q) (suL p q) = hiM p q := by
  obtain ⟨nx, ny, hxy, _⟩ := hl_nn hp hq
  have hno' : ¬ (rg (loM p q) = 9218868437227405312 ∧ decide (hiM p q < 0) ≠ decide (loM p q < 0)) := by
    rintro ⟨a, b⟩
    rcases hxy with ⟨e1, e2⟩ | ⟨e1, e2⟩
    · rw [e1] at h b; rw [e2] at a b; exact hno ⟨h, a, b⟩
    · rw [e1] at h b; rw [e2] at a b; exact hno ⟨a, h, fun c => b c.symm⟩
  have e1 : suN p q = hiM p q := by
    unfold suN fsum
    rw [if_neg (by rintro (c | c); exact nx.2 c; exact ny.2 c), if_pos h, if_neg hno']
  have e2 : suL p q = 9221120237041090561 := by
    unfold suL
    rw [e1]
    obtain ⟨g1, g2⟩ := su_neg nx
    obtain ⟨n1, _⟩ := nn_neg nx
    have : fsum (hiM p q) (neg (hiM p q)) = 9221120237041090561 := by
      unfold fsum
      rw [if_neg (by rintro (c | c); exact nx.2 c; exact n1.2 c), if_pos h, if_pos ⟨by rw [g1]; exact h, fun c => g2 c.symm⟩]
    rw [this, neg_nan nan_canon]
    exact fsum_nan _
  have l1 : less 9221120237041090561 0 = false := by decide
  have l2 : less 0 9221120237041090561 = false := by decide
  rw [e1, e2]
  unfold beLo beHi
  rw [l1, l2]
  exact ⟨rfl, rfl, rfl⟩
/-- Finite ends, beyond the range: the infinite one and the greatest float. -/
theorem su_over {p q : Int} (hp : nn p) (hq : nn q) (pp : ¬ rg p = 9218868437227405312) (pq : ¬ rg q = 9218868437227405312) (hn : nn (suN p q)) (h : rg (suN p q) = 9218868437227405312) :
    (0 < key (suN p q) → beLo (suN p q) (suL p q) = prev (suN p q) ∧ beHi (suN p q) (suL p q) = suN p q) ∧ (key (suN p q) < 0 → beLo (suN p q) (suL p q) = suN p q ∧ beHi (suN p q) (suL p q) = next (suN p q)) := by
  obtain ⟨nx, ny, hxy, _⟩ := hl_nn hp hq
  have fx : ¬ rg (hiM p q) = 9218868437227405312 := by rcases hxy with ⟨e1, _⟩ | ⟨e1, _⟩ <;> rw [e1] <;> assumption
  have fy : ¬ rg (loM p q) = 9218868437227405312 := by rcases hxy with ⟨_, e1⟩ | ⟨_, e1⟩ <;> rw [e1] <;> assumption
  obtain ⟨n1, _⟩ := nn_neg nx
  obtain ⟨m1, k1⟩ := nn_neg hn
  have e1 : fsum (suN p q) (neg (hiM p q)) = suN p q := by
    unfold fsum
    rw [if_neg (by rintro (c | c); exact hn.2 c; exact n1.2 c), if_pos h, if_neg (by rintro ⟨c, _⟩; rw [(su_neg nx).1] at c; exact fx c)]
  have e2 : suL p q = neg (suN p q) := by
    unfold suL
    rw [e1]
    unfold fsum
    rw [if_neg (by rintro (c | c); exact ny.2 c; exact m1.2 c), if_neg fy, if_pos (by rw [(su_neg hn).1]; exact h)]
  have c0 : ¬ cls 0 = 4 := by decide
  have k0 : key 0 = 0 := by decide
  have l1 : less (suL p q) 0 = decide (0 < key (suN p q)) := by
    rw [e2]; unfold less
    simp only [m1.2, c0, k0, k1, decide_false, Bool.not_false, Bool.true_and]
    exact decide_eq_decide.2 (by omega)
  have l2 : less 0 (suL p q) = decide (key (suN p q) < 0) := by
    rw [e2]; unfold less
    simp only [m1.2, c0, k0, k1, decide_false, Bool.not_false, Bool.true_and]
    exact decide_eq_decide.2 (by omega)
  unfold beLo beHi
  rw [l1, l2]
  refine ⟨fun g => ?_, fun g => ?_⟩
  · rw [decide_eq_true g]; exact ⟨rfl, rfl⟩
  · rw [decide_eq_false (by omega), decide_eq_true g]; exact ⟨rfl, rfl⟩
end Go.Proofs.YtmpioejllfedoaaGreatDoor

/-
  Plain mathematics: the interval around a product of two ends, by the nearest float and what it lost. No Go text in sight.
-/
namespace Go.Proofs.YtmpioejllfedoaaGreatDoor
open Go Go.RowKit Go.Proofs.YtmpioejllfedoaaGreatDoor.M
set_option linter.unusedSimpArgs false
set_option linter.unusedVariables false

/-- The ends of the least interval around a product of two ends (0 times an infinite one: 0). -/
def prLo (p q : Int) : Int := if rg p = 0 ∨ rg q = 0 then 0 else if rg p = 9218868437227405312 ∨ rg q = 9218868437227405312 then patS (xsg p q) 9218868437227405312 else rdP 1 (prV p q)
def prHi (p q : Int) : Int := if rg p = 0 ∨ rg q = 0 then 0 else if rg p = 9218868437227405312 ∨ rg q = 9218868437227405312 then patS (xsg p q) 9218868437227405312 else rdP 2 (prV p q)
theorem nn_rg {p : Int} (h : nn p) : 0 ≤ rg p ∧ rg p ≤ 9218868437227405312 := by
  have := (FW.pat h.2 h.1).of h.2
  exact this.2.2
theorem rg_pat0 {p : Int} (h : nn p) (hf : rg p ≠ 9218868437227405312) : pok p = true := (pok_rg h.1).2 (by have := nn_rg h; omega)
theorem patV_nz {p : Int} (h : rng p) (hp : pok p = true) (h0 : rg p ≠ 0) : patV p ≠ 0 := fun e => by
  have hv := patV_iV h hp
  have hi : iV p = 0 := by
    rcases Int.mul_eq_zero.1 (hv.symm.trans e) with q | q
    · exact q
    · have := pw_pos (-1074); omega
  have h5 := (rg_parts h).1
  unfold iV at hi
  have hV : (V Ieee.double (rg p).toNat : Int) = 0 := by
    cases hd : decide (p < 0) <;> rw [hd] at hi
    · exact hi
    · have : -(V Ieee.double (rg p).toNat : Int) = 0 := hi
      omega
  rcases Nat.eq_zero_or_pos (rg p).toNat with q | q
  · omega
  · have := V_lt Ieee.double q
    omega
theorem prV_nz {p q : Int} (rp : rng p) (rq : rng q) (hp : pok p = true) (hq : pok q = true) (p0 : rg p ≠ 0) (q0 : rg q ≠ 0) : prV p q ≠ 0 := fun e => by
  obtain ⟨_, _, _, _, hC⟩ := prV_parts rp rq hp hq
  rw [e, Int.zero_mul] at hC
  rcases Int.mul_eq_zero.1 hC.symm with h | h
  · exact patV_nz rp hp p0 h
  · exact patV_nz rq hq q0 h
theorem fprod_fin {p q : Int} (rp : rng p) (rq : rng q) (hp : pok p = true) (hq : pok q = true) (h : prV p q ≠ 0) : fprod p q = nearP (prV p q) := by
  have h1 := (pok_rg rp).1 hp
  have h2 := (pok_rg rq).1 hq
  have hz : fsize p q ≠ 0 := fun e => h (by unfold prV; rw [e]; cases xsg p q <;> rfl)
  have n4 : ¬ (cls p = 4 ∨ cls q = 4) := fun k => by rcases k with k | k; exact pok_clsF rp hp k; exact pok_clsF rq hq k
  have i2 : ¬ (rg p = 9218868437227405312 ∨ rg q = 9218868437227405312) := by omega
  unfold fprod
  rw [if_neg n4, if_neg i2, if_neg hz]
  rfl
theorem less_key {l : Int} (h : cls l ≠ 4) : (less l 0 = true ↔ key l < 0) ∧ (less 0 l = true ↔ 0 < key l) := by
  have c0 : ¬ cls 0 = 4 := by decide
  have k0 : key 0 = 0 := by decide
  unfold less
  rw [k0]
  simp [h, c0]
/-- The product of finite ends other than 0, not deep. -/
theorem pr_fin {p q : Int} (rp : rng p) (rq : rng q) (hp : pok p = true) (hq : pok q = true) (p0 : rg p ≠ 0) (q0 : rg q ≠ 0) (hd : 283726776524341248 ≤ rg (fprod p q)) :
    beLo (fprod p q) (ffma p q (neg (fprod p q))) = rdP 1 (prV p q) ∧ beHi (fprod p q) (ffma p q (neg (fprod p q))) = rdP 2 (prV p q) := by
  have hV := prV_nz rp rq hp hq p0 q0
  have hN := fprod_fin rp rq hp hq hV
  rw [hN] at hd ⊢
  obtain ⟨rn, cn⟩ := nearP_pat hV
  cases hf : pok (nearP (prV p q))
  · have hi := dir_inf hV hf
    have hm : ∀ r, rng r → rg r = 9218868437227405312 → cls r ≠ 4 → ffma p q r = r := fun r hr h1 h4 => by
      have h5 := (pok_rg rp).1 hp
      have h6 := (pok_rg rq).1 hq
      have n4 : ¬ (cls p = 4 ∨ cls q = 4 ∨ cls r = 4) := fun k => by rcases k with k | k | k; exact pok_clsF rp hp k; exact pok_clsF rq hq k; exact h4 k
      have i2 : ¬ (rg p = 9218868437227405312 ∨ rg q = 9218868437227405312) := by omega
      unfold ffma
      rw [if_neg n4, if_neg i2, if_pos h1]
    rcases Int.lt_or_gt_of_ne hV with hn | hn
    · obtain ⟨e0, e1, e2⟩ := hi.2 hn
      rw [e0, e1, e2, show neg (-4503599627370496) = 9218868437227405312 by decide, hm _ (by unfold rng; omega) (by decide) (by decide)]
      exact ⟨by decide, by decide⟩
    · obtain ⟨e0, e1, e2⟩ := hi.1 hn
      rw [e0, e1, e2, show neg 9218868437227405312 = -4503599627370496 by decide, hm _ (by unfold rng; omega) (by decide) (by decide)]
      exact ⟨by decide, by decide⟩
  · obtain ⟨d1, d2, d3⟩ := dir_fin hV hf
    have e0 := rdP_near hV
    have hr := (pok_rg rn).1 hf
    obtain ⟨S, hS, hF, hb⟩ := fused_any (way := 0) rp rq hp hq hV (by rw [e0]; exact hd) (.inr ⟨rfl, by rw [e0]; exact hr⟩)
    rw [e0] at hS
    generalize nearP (prV p q) = n at *
    obtain ⟨rm, pm, im⟩ := neg_facts rn hf
    have hfS : fmaS p q (neg n) = prV p q - patV n := by
      rw [fmaS_pr, patV_opp rn hf]
      omega
    by_cases h0 : prV p q - patV n = 0
    · have hl : ffma p q (neg n) = patS (xsg p q && decide (neg n < 0)) 0 := fma_zero rp rq rm hp hq pm (hfS.trans h0)
      have h1 : less (ffma p q (neg n)) 0 = false := by rw [hl]; cases (xsg p q && decide (neg n < 0)) <;> decide
      have h2 : less 0 (ffma p q (neg n)) = false := by rw [hl]; cases (xsg p q && decide (neg n < 0)) <;> decide
      unfold beLo beHi
      rw [h1, h2]
      have := d3 (by omega)
      exact ⟨this.1, this.2⟩
    · have hS0 : S ≠ 0 := fun e => h0 (by rw [hS, e, Int.zero_mul])
      obtain ⟨g1, g2, g3⟩ := near_exact hF hS0 hb
      have hl : ffma p q (neg n) = nearP (S * pw (-1074)) := by
        have h5 := (pok_rg rp).1 hp
        have h6 := (pok_rg rq).1 hq
        have h7 := (pok_rg rm).1 pm
        have n4 : ¬ (cls p = 4 ∨ cls q = 4 ∨ cls (neg n) = 4) := fun k => by rcases k with k | k | k; exact pok_clsF rp hp k; exact pok_clsF rq hq k; exact pok_clsF rm pm k
        have i2 : ¬ (rg p = 9218868437227405312 ∨ rg q = 9218868437227405312) := by omega
        have i3 : ¬ rg (neg n) = 9218868437227405312 := by omega
        unfold ffma
        rw [if_neg n4, if_neg i2, if_neg i3, hfS, if_neg h0, hS]
      rw [hl]
      generalize nearP (S * pw (-1074)) = l at *
      obtain ⟨k1, k2⟩ := iV_key g1
      rw [g3] at k1 k2
      obtain ⟨l1, l2⟩ := less_key (pok_clsF g1 g2)
      have hq2 := pw_pos (-1074)
      unfold beLo beHi
      rcases Int.lt_or_gt_of_ne hS0 with hn | hn
      · have hD : prV p q - patV n < 0 := by rw [hS]; exact Int.mul_neg_of_neg_of_pos hn hq2
        rw [l1.2 (k1.1 hn)]
        clear hS hq2
        have := d1 (by omega)
        exact ⟨this.1, this.2⟩
      · have hD : 0 < prV p q - patV n := by rw [hS]; exact Int.mul_pos hn hq2
        have hno : less l 0 = false := by
          cases h : less l 0
          · rfl
          · have := k1.2 (l1.1 h); omega
        rw [hno, l2.2 (k2.1 hn)]
        clear hS hq2
        have := d2 (by omega)
        exact ⟨this.1, this.2⟩
/-- An infinite end. -/
theorem pr_infE {p q : Int} (hp : nn p) (hq : nn q) (p0 : rg p ≠ 0) (q0 : rg q ≠ 0) (hi : rg p = 9218868437227405312 ∨ rg q = 9218868437227405312) :
    fprod p q = patS (xsg p q) 9218868437227405312 ∧ ffma p q (neg (fprod p q)) = 9221120237041090561 := by
  have n4 : ¬ (cls p = 4 ∨ cls q = 4) := fun k => by rcases k with k | k; exact hp.2 k; exact hq.2 k
  have i2 : ¬ (rg p = 0 ∨ rg q = 0) := by omega
  have e : fprod p q = patS (xsg p q) 9218868437227405312 := by
    unfold fprod
    rw [if_neg n4, if_pos hi, if_neg i2]
  refine ⟨e, ?_⟩
  rw [e]
  have hneg : neg (patS (xsg p q) 9218868437227405312) = patS (!xsg p q) 9218868437227405312 := by cases xsg p q <;> decide
  rw [hneg]
  have c4 : ¬ cls (patS (!xsg p q) 9218868437227405312) = 4 := by cases xsg p q <;> decide
  have r4 : rg (patS (!xsg p q) 9218868437227405312) = 9218868437227405312 := by cases xsg p q <;> decide
  have s4 : decide (patS (!xsg p q) 9218868437227405312 < 0) = !xsg p q := by cases xsg p q <;> decide
  have n5 : ¬ (cls p = 4 ∨ cls q = 4 ∨ cls (patS (!xsg p q) 9218868437227405312) = 4) := fun k => by rcases k with k | k | k; exact hp.2 k; exact hq.2 k; exact c4 k
  have n6 : rg (patS (!xsg p q) 9218868437227405312) = 9218868437227405312 ∧ ¬ xsg p q = decide (patS (!xsg p q) 9218868437227405312 < 0) := ⟨r4, by rw [s4]; cases xsg p q <;> decide⟩
  unfold ffma
  rw [if_neg n5, if_pos hi, if_neg i2, if_pos n6]
end Go.Proofs.YtmpioejllfedoaaGreatDoor

/-
  Plain mathematics: the least interval around a number, and what is told of it. No Go text in sight.
-/
namespace Go.Proofs.YtmpioejllfedoaaGreatDoor
open Go Go.RowKit Go.Proofs.YtmpioejllfedoaaGreatDoor.M
set_option linter.unusedSimpArgs false
set_option linter.unusedVariables false

/-- The ends of the least interval around a number. -/
def cLo (V : Int) : Int := if V = 0 then 0 else canon (rdP 1 V)
def cHi (V : Int) : Int := if V = 0 then 0 else canon (rdP 2 V)
theorem canon_patS {g : Bool} {r : Int} (h0 : 0 ≤ r) (h1 : r ≤ 9218868437227405312) : canon (patS g r) = patS (g && decide (0 < r)) r := by
  obtain ⟨a, b, c⟩ := patS_parts (ng := g) h0 h1
  obtain ⟨d1, d2⟩ := cls_rg a
  rw [b] at d1 d2
  unfold canon
  have n4 : ¬ cls (patS g r) = 4 := fun q => by have := d1.1 q; omega
  rw [if_neg n4]
  by_cases hr : r = 0
  · rw [if_pos (d2.2 hr), hr]
    cases g <;> decide
  · rw [if_neg (fun q => hr (d2.1 q)), decide_eq_true (show 0 < r by omega), Bool.and_true]
/-- What the three ways tell of a number, by its rung. -/
theorem c_rung {V : Int} (h0 : V ≠ 0) : ∃ (g : Bool) (A : Int) (r0 : Nat) (left : Int), V = sg g A ∧ 0 < A ∧ Rung A r0 left ∧ cLo V = patS (g && decide (0 < rTo 1 g r0 left)) (rTo 1 g r0 left) ∧ cHi V = patS (g && decide (0 < rTo 2 g r0 left)) (rTo 2 g r0 left) := by
  obtain ⟨g, A, r0, left, e, hA, hR, _, e1, e2⟩ := dir_cases h0
  have r1 := rTo_range 1 g r0 left
  have r2 := rTo_range 2 g r0 left
  refine ⟨g, A, r0, left, e, hA, hR, ?_, ?_⟩
  · unfold cLo; rw [if_neg h0, e1, canon_patS r1.1 r1.2]
  · unfold cHi; rw [if_neg h0, e2, canon_patS r2.1 r2.2]
theorem around_c {V : Int} {ng : Bool} {f : Int → Int × Bool} (h : RdOf V ng f) : (f 1).1 = cLo V ∧ (f 2).1 = cHi V := by
  obtain ⟨A, r0, left, e, hng, hR, hf⟩ := h
  rw [hf 1, hf 2]
  by_cases h0 : V = 0
  · have hA : A = 0 := by
      rw [h0] at e
      cases ng
      · exact e.symm
      · have : (0 : Int) = -A := e
        omega
    have hn : ng = false := by
      cases ng
      · rfl
      · have := hng rfl; omega
    subst hn
    rw [hA] at hR
    obtain ⟨u1, u2⟩ := hR.unique rung_zero
    subst u1 u2
    unfold cLo cHi
    rw [if_pos h0, if_pos h0]
    have t1 := rTo_zero 1
    have t2 := rTo_zero 2
    refine ⟨?_, ?_⟩
    · simp only [t1]; rfl
    · simp only [t2]; rfl
  · obtain ⟨g, B, s0, l, e', hB, hR', c1, c2⟩ := c_rung h0
    have hA : 0 < A := by
      have hA0 : 0 ≤ A := by
        have := hR.lo
        have hv : 0 ≤ vS r0 := Int.mul_nonneg (by omega) (Int.le_of_lt (pw_pos _))
        omega
      have : A ≠ 0 := fun q => h0 (by rw [e, q]; cases ng <;> rfl)
      omega
    have s1 : decide (V < 0) = ng := by rw [e]; exact sg_lt hA
    have s2 : decide (V < 0) = g := by rw [e']; exact sg_lt hB
    have hg : ng = g := s1.symm.trans s2
    subst hg
    have hAB := sg_inj (e.symm.trans e')
    subst hAB
    obtain ⟨u1, u2⟩ := hR.unique hR'
    subst u1 u2
    exact ⟨c1.symm, c2.symm⟩
theorem prod_c {p q : Int} (rp : rng p) (rq : rng q) (hp : pok p = true) (hq : pok q = true) : canon (prLo p q) = cLo (prV p q) ∧ canon (prHi p q) = cHi (prV p q) := by
  have h1 := (pok_rg rp).1 hp
  have h2 := (pok_rg rq).1 hq
  have i2 : ¬ (rg p = 9218868437227405312 ∨ rg q = 9218868437227405312) := by omega
  by_cases h0 : rg p = 0 ∨ rg q = 0
  · have hz : prV p q = 0 := by
      obtain ⟨_, _, _, _, hC⟩ := prV_parts rp rq hp hq
      have : patV p * patV q = 0 := by
        rcases h0 with h | h
        · have : patV p = 0 := by rw [patV_iV rp hp]; unfold iV; rw [h]; cases decide (p < 0) <;> exact Int.zero_mul _
          rw [this, Int.zero_mul]
        · have : patV q = 0 := by rw [patV_iV rq hq]; unfold iV; rw [h]; cases decide (q < 0) <;> exact Int.zero_mul _
          rw [this, Int.mul_zero]
      rw [this] at hC
      rcases Int.mul_eq_zero.1 hC with k | k
      · exact k
      · exact absurd k (Int.ne_of_gt (two_pos 4194304))
    unfold prLo prHi cLo cHi
    rw [if_pos h0, if_pos h0, if_pos hz, if_pos hz]
    exact ⟨by decide, by decide⟩
  · have hz := prV_nz rp rq hp hq (fun k => h0 (.inl k)) (fun k => h0 (.inr k))
    unfold prLo prHi cLo cHi
    rw [if_neg h0, if_neg h0, if_neg i2, if_neg i2, if_neg hz, if_neg hz]
    exact ⟨rfl, rfl⟩
theorem suN_near {p q : Int} (rp : rng p) (rq : rng q) (hp : pok p = true) (hq : pok q = true) : suN p q = if patV p + patV q = 0 then patS (decide (hiM p q < 0) && decide (loM p q < 0)) 0 else nearP (patV p + patV q) := by
  unfold suN hiM loM
  by_cases h : rg p < rg q
  · rw [if_pos h, if_pos h, fsum_eqn rq rp hq hp, Int.add_comm]
  · rw [if_neg h, if_neg h, fsum_eqn rp rq hp hq]
theorem sum_c {p q : Int} (rp : rng p) (rq : rng q) (hp : pok p = true) (hq : pok q = true) : nn (suN p q) ∧ canon (beLo (suN p q) (suL p q)) = cLo (patV p + patV q) ∧ canon (beHi (suN p q) (suL p q)) = cHi (patV p + patV q) := by
  have hN := suN_near rp rq hp hq
  have hVi : patV p + patV q = (iV p + iV q) * pw (-1074) := by rw [patV_iV rp hp, patV_iV rq hq, Int.add_mul]
  have hq0 := pw_pos (-1074)
  by_cases h0 : patV p + patV q = 0
  · rw [if_pos h0] at hN
    have hnn : nn (suN p q) := by rw [hN]; exact patS_nn (by decide) (by decide)
    have hz : iV p + iV q = 0 := by
      rcases Int.mul_eq_zero.1 (hVi.symm.trans h0) with k | k
      · exact k
      · omega
    have hpok : pok (suN p q) = true := by rw [hN]; cases (decide (hiM p q < 0) && decide (loM p q < 0)) <;> decide
    have hi0 : iV (suN p q) = 0 := by rw [hN]; cases (decide (hiM p q < 0) && decide (loM p q < 0)) <;> decide
    obtain ⟨_, _, hc⟩ := su_btw rp rq hp hq hpok hnn
    rw [hi0, hz] at hc
    refine ⟨hnn, ?_⟩
    rcases hc with ⟨_, b1, b2⟩ | ⟨k, _⟩ | ⟨k, _⟩
    · rw [b1, b2]
      unfold cLo cHi
      rw [if_pos h0, if_pos h0, hN]
      exact ⟨by cases (decide (hiM p q < 0) && decide (loM p q < 0)) <;> decide, by cases (decide (hiM p q < 0) && decide (loM p q < 0)) <;> decide⟩
    · omega
    · omega
  · rw [if_neg h0] at hN
    obtain ⟨g1, g2⟩ := nearP_pat h0
    have hnn : nn (suN p q) := by rw [hN]; exact ⟨g1, g2⟩
    refine ⟨hnn, ?_⟩
    unfold cLo cHi
    rw [if_neg h0, if_neg h0]
    cases hf : pok (nearP (patV p + patV q))
    · have hi := dir_inf h0 hf
      have hr : rg (suN p q) = 9218868437227405312 := by
        rw [hN]
        have k1 := nn_rg (show nn (nearP (patV p + patV q)) from ⟨g1, g2⟩)
        rcases Int.lt_or_le (rg (nearP (patV p + patV q))) 9218868437227405312 with k | k
        · rw [(pok_rg g1).2 k] at hf; cases hf
        · omega
      have h1 := (pok_rg rp).1 hp
      have h2 := (pok_rg rq).1 hq
      obtain ⟨o1, o2⟩ := su_over ⟨rp, pok_clsF rp hp⟩ ⟨rq, pok_clsF rq hq⟩ (by omega) (by omega) hnn hr
      rcases Int.lt_or_gt_of_ne h0 with k | k
      · obtain ⟨e0, e1, e2⟩ := hi.2 k
        obtain ⟨b1, b2⟩ := o2 (by rw [hN, e0]; decide)
        rw [b1, b2, hN, e0, e1, e2]
        exact ⟨by decide, by decide⟩
      · obtain ⟨e0, e1, e2⟩ := hi.1 k
        obtain ⟨b1, b2⟩ := o1 (by rw [hN, e0]; decide)
        rw [b1, b2, hN, e0, e1, e2]
        exact ⟨by decide, by decide⟩
    · obtain ⟨d1, d2, d3⟩ := dir_fin h0 hf
      rw [← hN] at d1 d2 d3 hf
      obtain ⟨_, _, hc⟩ := su_btw rp rq hp hq hf hnn
      have hvn := patV_iV hnn.1 hf
      rw [hvn, hVi] at d1 d2 d3
      rw [hVi]
      generalize pw (-1074) = w at *
      rcases hc with ⟨k, b1, b2⟩ | ⟨k, b1, b2⟩ | ⟨k, b1, b2⟩
      · rw [b1, b2]
        obtain ⟨f1, f2⟩ := d3 (by rw [k])
        rw [← f1, ← f2]
        exact ⟨rfl, rfl⟩
      · rw [b1, b2]
        obtain ⟨f1, f2⟩ := d1 (Int.mul_lt_mul_of_pos_right k hq0)
        rw [← f1, ← f2]
        exact ⟨rfl, rfl⟩
      · rw [b1, b2]
        obtain ⟨f1, f2⟩ := d2 (Int.mul_lt_mul_of_pos_right k hq0)
        rw [← f1, ← f2]
        exact ⟨rfl, rfl⟩
end Go.Proofs.YtmpioejllfedoaaGreatDoor

/-
  Plain mathematics: what dyadic.Float tells of a number, held against the least interval around it. No Go text in sight.
-/
namespace Go.Proofs.YtmpioejllfedoaaGreatDoor
open Go Go.RowKit Go.Proofs.YtmpioejllfedoaaGreatDoor.M
set_option linter.unusedSimpArgs false
set_option linter.unusedVariables false

theorem rung_at (r : Nat) : Rung (vS r) r 0 := by
  have h := vS_lt (show r < r + 1 by omega)
  refine ⟨Int.le_refl _, h, ⟨fun _ => rfl, fun _ => rfl⟩, ⟨fun q => by omega, fun q => by omega⟩, ⟨fun q => by omega, fun q => by omega⟩, ⟨fun q => by omega, fun q => by omega⟩⟩
theorem rTo_at (way : Int) (g : Bool) {r : Nat} (h : (r : Int) < 9218868437227405312) : rTo way g r 0 = (r : Int) := by
  rw [rTo_low way h, (rUp_dn (decide (r % 2 = 1)) 0).2.2.2.2 way g rfl]
  simp
/-- A float's value: both ends are the float. -/
theorem c_at {g : Bool} {r : Nat} (h : (r : Int) < 9218868437227405312) (h0 : 0 < r) : cLo (sg g (vS r)) = patS g (r : Int) ∧ cHi (sg g (vS r)) = patS g (r : Int) := by
  have hp : 0 < vS r := by
    have := vS_lt h0
    have hz : vS 0 = 0 := by unfold vS; rw [V_zero]; exact Int.zero_mul _
    omega
  have hn : sg g (vS r) ≠ 0 := fun q => by
    generalize vS r = y at *
    cases g
    · rw [sgFF] at q; omega
    · rw [sgTT] at q; omega
  obtain ⟨g', A, r0, left, e, hA, hR, c1, c2⟩ := c_rung hn
  have s1 : decide (sg g (vS r) < 0) = g := sg_lt hp
  have s2 : decide (sg g (vS r) < 0) = g' := by rw [e]; exact sg_lt hA
  have hg : g = g' := s1.symm.trans s2
  subst hg
  have hAB := sg_inj e
  rw [← hAB] at hR
  obtain ⟨u1, u2⟩ := hR.unique (rung_at r)
  subst u1 u2
  rw [c1, c2, rTo_at 1 g h, rTo_at 2 g h, decide_eq_true (show (0 : Int) < (r0 : Int) by omega), Bool.and_true]
  exact ⟨rfl, rfl⟩
end Go.Proofs.YtmpioejllfedoaaGreatDoor

/-
  The model's product and sum, rounded once (math.FMA), on patterns.
-/
namespace Go.Proofs.YtmpioejllfedoaaGreatDoor
open Go Go.RowKit Go.Proofs.YtmpioejllfedoaaGreatDoor.M Ieee
set_option linter.unusedSimpArgs false
set_option linter.unusedVariables false

theorem ext_fma (x y z : Nat) : ∃ a b, Extern.MathFMA.fma #[.float .f64 x, .float .f64 y, .float .f64 z] = Option.casesOn (motive := fun _ => Sem Value) (FloatKind.f64.format.fma x y z) (do pure (.float .f64 (← choose (.nanBits .f64 a b)))) (fun r => pure (.float .f64 r)) := by
  cases h1 : Extern.MathFMA.isNaN x with
  | true => exact ⟨x, y, by
      have : Extern.MathFMA.fma #[.float .f64 x, .float .f64 y, .float .f64 z] = Option.casesOn (motive := fun _ => Sem Value) (FloatKind.f64.format.fma x y z) (match (if Extern.MathFMA.isNaN x then (x, y) else if Extern.MathFMA.isNaN y then (y, z) else (z, z)) with | (a, b) => do pure (.float .f64 (← choose (.nanBits .f64 a b)))) (fun r => pure (.float .f64 r)) := by kernel_rfl
      rw [this, h1]; rfl⟩
  | false =>
    cases h2 : Extern.MathFMA.isNaN y with
    | true => exact ⟨y, z, by
        have : Extern.MathFMA.fma #[.float .f64 x, .float .f64 y, .float .f64 z] = Option.casesOn (motive := fun _ => Sem Value) (FloatKind.f64.format.fma x y z) (match (if Extern.MathFMA.isNaN x then (x, y) else if Extern.MathFMA.isNaN y then (y, z) else (z, z)) with | (a, b) => do pure (.float .f64 (← choose (.nanBits .f64 a b)))) (fun r => pure (.float .f64 r)) := by kernel_rfl
        rw [this, h1, h2]; rfl⟩
    | false => exact ⟨z, z, by
        have : Extern.MathFMA.fma #[.float .f64 x, .float .f64 y, .float .f64 z] = Option.casesOn (motive := fun _ => Sem Value) (FloatKind.f64.format.fma x y z) (match (if Extern.MathFMA.isNaN x then (x, y) else if Extern.MathFMA.isNaN y then (y, z) else (z, z)) with | (a, b) => do pure (.float .f64 (← choose (.nanBits .f64 a b)))) (fun r => pure (.float .f64 r)) := by kernel_rfl
        rw [this, h1, h2]; rfl⟩
theorem run_ffma {p q r : Int} {x y z : Nat} (hx : FW p x) (hy : FW q y) (hz : FW r z) (w : World) :
    ∃ t w', (callFunc 83 #[.float .f64 x, .float .f64 y, .float .f64 z]).run Tryz.prog w = .ok (.value (.float .f64 t)) w' ∧ FW (ffma p q r) t ∧ (w' = w ∨ w' = w.drew) := by
  rw [run_callFunc_extern Tryz.func83 (by kernel_rfl) (by kernel_rfl) (by kernel_rfl) (e := Extern.MathFMA.fma) (by kernel_rfl)]
  obtain ⟨a, b, hab⟩ := ext_fma x y z
  rw [hab]
  rcases fma_FW hx hy hz with ⟨t, e1, e2⟩ | ⟨e1, e2⟩
  · refine ⟨t, w, ?_, e2, .inl rfl⟩
    have e1' : FloatKind.f64.format.fma x y z = some t := e1
    rw [e1']
    simp
  · have e1' : FloatKind.f64.format.fma x y z = none := e1
    rw [e1']
    refine ⟨(Question.nanBits .f64 a b).cut (w.tape w.drawn (.nanBits .f64 a b)), w.drew, ?_, ?_, .inr rfl⟩
    · simp
      exact fun hf => absurd (show false = true from hf) (by decide)
    · rw [e2]
      exact FW.nan (nan_cut a b (w.tape w.drawn (.nanBits .f64 a b)))
end Go.Proofs.YtmpioejllfedoaaGreatDoor
