/-
  Parts of the proof, one behind another.
-/
import Derived.Test.YtobolgmjcebfmaaGreatDoorPart13
/-
  Package round: the closure of a sum, by its contract.
-/
namespace Go.Proofs.YtobolgmjcebfmaaGreatDoor
open Go Go.RowKit Go.Proofs.YtobolgmjcebfmaaGreatDoor.M
set_option linter.unusedSimpArgs false
set_option linter.unusedVariables false

set_option maxRecDepth 100000 in
set_option maxHeartbeats 1000000 in
theorem add1_D (g : Nat) (w : World) (q : Nat → NumR) (A B way a b : Int) (ng : Bool) (Q : Nat) (E : Int) (R sd : Bool) (p0 p1 p2 : Addr) (k0 : w.cell? p0 = some (.int .i64 way)) (k1 : w.cell? p1 = some (.int .i64 a)) (k2 : w.cell? p2 = some (.int .i64 b)) (hN : Nums w (some ⟨g, 0, none⟩) 2 2 q) (h0 : DNum w (q 0).v A) (h1 : DNum w (q 1).v B) (oA : Dok A) (oB : Dok B) (oC : Dok (A + B)) (hT : Tab w)
    (CV : ∀ W v, Below w.heap.size w W → DNum W v (A + B) → Calls Tryz.prog 25 #[v, .int .i64 way, .bool (decide (a = 0) && decide (b = 0))] W fun r w' => r = .returned (valV ng Q E R sd) ∧ Below W.heap.size W w') :
    Calls Tryz.prog 43 #[.slice (some ⟨g, 0, none⟩) 2 2, .pointer (some p0), .pointer (some p1), .pointer (some p2)] w fun r w' => r = .returned (.tuple #[valV ng Q E R sd, .int .i64 0]) ∧ Below w.heap.size w w' := by
  have CM : Hid (∀ W, Below w.heap.size w W → Calls Tryz.prog 44 #[(q 0).v, (q 1).v] W fun r w' => ∃ v, r = .returned (.tuple #[v, .int .i64 0]) ∧ DAns W w' (A + B) v) := fun W hb => by
    refine (add_D (h0.keeps hb) (h1.keeps hb) oA oB (hT.keeps hb)).mono ?_
    rintro r w' ⟨v, er, rfl, hF⟩
    obtain ⟨rfl, hA⟩ := hF.yes oC
    exact ⟨v, rfl, hA⟩
  obtain ⟨c0, c1, c2, _⟩ := hN.at 0 (by decide)
  obtain ⟨c3, c4, c5, _⟩ := hN.at 1 (by decide)
  unfold valV NumR.v at *
  clear h0 h1 hN oA oB oC hT
  generalize A + B = C at *
  generalize hnt : (decide (a = 0) && decide (b = 0)) = nt at CV
  have HV : Hid _ := CV
  clear CV
  generalize q 0 = x at *
  generalize q 1 = y at *
  obtain ⟨x_g, x_o, x_n, x_c, x_d, x_e⟩ := x
  obtain ⟨y_g, y_o, y_n, y_c, y_d, y_e⟩ := y
  simp only [Nat.zero_mul, Nat.zero_add, Nat.one_mul] at c0 c1 c2 c3 c4 c5 CM
  have q0 := heap_alloc_new w (.cells #[.bool false, .int .u64 0, .int .i64 0, .bool false, .bool false] 50)
  have hb1 := bel_alloc w (.cells #[.bool false, .int .u64 0, .int .i64 0, .bool false, .bool false] 50)
  have d0 := cell_keeps c0 hb1
  have d1 := cell_keeps c1 hb1
  have d2 := cell_keeps c2 hb1
  have d3 := cell_keeps c3 hb1
  have d4 := cell_keeps c4 hb1
  have d5 := cell_keeps c5 hb1
  have k0 := cell_keeps k0 hb1
  have k1 := cell_keeps k1 hb1
  have k2 := cell_keeps k2 hb1
  clear c0 c1 c2 c3 c4 c5
  go_enter Tryz.func43, Tryz.ntmps43
  go_wp2_with fail
  generalize w.alloc (.cells #[.bool false, .int .u64 0, .int .i64 0, .bool false, .bool false] 50) = x1 at q0 hb1 d0 d1 d2 d3 d4 d5 k0 k1 k2 ⊢
  have KK : ∀ W, Below x1.heap.size x1 W → W.cell? ⟨g, 0, none⟩ = some (.bool x_g) ∧ W.cell? ⟨g, 1, none⟩ = some (.slice x_o x_n x_c) ∧ W.cell? ⟨g, 2, none⟩ = some (.int .i64 x_e) ∧ W.cell? ⟨g, 3, none⟩ = some (.bool y_g) ∧ W.cell? ⟨g, 4, none⟩ = some (.slice y_o y_n y_c) ∧ W.cell? ⟨g, 5, none⟩ = some (.int .i64 y_e) := fun W hb => keep6B (W := x1) ⟨d0, d1, d2, d3, d4, d5⟩ hb
  clear d0 d1 d2 d3 d4 d5
  have i0 : (0 : Int) < 2 := by decide
  have i1 : (1 : Int) < 2 := by decide
  have hx0 := (bel_refl x1).drew
  have hx1 := (bel_alloc x1 (.cells #[.bool false, .slice none 0 0, .int .i64 0] 31)).drew
  go_region_held3 (fun W => W.cell? ⟨g, 0, none⟩ = some (.bool x_g) ∧ W.cell? ⟨g, 1, none⟩ = some (.slice x_o x_n x_c) ∧ W.cell? ⟨g, 2, none⟩ = some (.int .i64 x_e) ∧ W.cell? ⟨g, 3, none⟩ = some (.bool y_g) ∧ W.cell? ⟨g, 4, none⟩ = some (.slice y_o y_n y_c) ∧ W.cell? ⟨g, 5, none⟩ = some (.int .i64 y_e))
    (first | assumption | exact KK _ hx0 | exact KK _ hx1 | exact KK _ hw3 | exact KK _ (bel_trans hw3 (bel_alloc _ _)) | exact KK _ (bel_set3' hw3 (Nat.le_refl _) _ _ _) | fail)
    ((go_at_call 44; refine (CM.out _ (by first | exact hb1.drew | exact bel_trans hb1 hx1)).mono ?_; rintro _ w3 ⟨v, rfl, hD⟩; obtain ⟨n_g, n_o, n_n, n_c, n_e, rfl⟩ := dans_shape hD; have hw3 : Below x1.heap.size x1 w3 := (by first | exact bel_trans hx0 hD.below | exact bel_trans hx1 hD.below); first | (have qz : w3.heap[x1.heap.size]? = some (.cells #[.bool false, .slice none 0 0, .int .i64 0] 31 (0, 0)) := (hD.below.block _ (by first | exact (Array.getElem?_eq_some_iff.1 (heap_a1 x1 (.cells #[.bool false, .slice none 0 0, .int .i64 0] 31))).1)).trans (heap_a1 x1 (.cells #[.bool false, .slice none 0 0, .int .i64 0] 31)); have cz0 := blkC qz 0 rfl; have cz1 := blkC qz 1 rfl; have cz2 := blkC qz 2 rfl; have zz0 := blkF qz 0; have zz1 := blkF qz 1; have zz2 := blkF qz 2) | skip))
  · have hb4 := bel_alloc w3 (.cells #[.bool n_g, .slice n_o n_n n_c, .int .i64 n_e] 31)
    have qn := heap_a1 w3 (.cells #[.bool n_g, .slice n_o n_n n_c, .int .i64 n_e] 31)
    have hw4 := bel_trans hw3 hb4
    have q4 := (hw4.block _ (Array.getElem?_eq_some_iff.1 q0).1).trans q0
    have hD4 := hD.num.keeps hb4
    have hb5 := bel_trans hb1 hw4
    have k0 := cell_keeps k0 hw4
    have k1 := cell_keeps k1 hw4
    have k2 := cell_keeps k2 hw4
    have c0 := blkC qn 0 rfl
    have c1 := blkC qn 1 rfl
    have c2 := blkC qn 2 rfl
    by_cases ha : a = 0
    · by_cases hb : b = 0
      · obtain rfl : nt = true := by rw [← hnt, ha, hb]; rfl
        subst ha hb
        go_wp2_with fail
        refine (HV.out _ _ hb5 hD4).mono ?_
        rintro _ w6 ⟨rfl, hb6⟩
        have p1 := (hb6.block _ (Array.getElem?_eq_some_iff.1 q4).1).trans q4
        have hbw := bel_trans hb5 hb6
        have x0 := blkC p1 0 rfl
        have x1' := blkC p1 1 rfl
        have x2 := blkC p1 2 rfl
        have x3 := blkC p1 3 rfl
        have x4 := blkC p1 4 rfl
        have z0 := blkF p1 0
        have z1 := blkF p1 1
        have z2 := blkF p1 2
        have z3 := blkF p1 3
        have z4 := blkF p1 4
        go_wp2
        all_goals refine bodyPost_ret (v := .tuple #[.agg #[.bool ng, .int .u64 Q, .int .i64 E, .bool R, .bool sd], .int .i64 0]) (by simp [results, Tryz.results43, go_sem, x0, x1', x2, x3, x4]) rfl ⟨rfl, ?_⟩
        all_goals exact (wr5 w6 w.heap.size _ _ _ _ _).below hbw hbw.size (Nat.le_refl _)
      · obtain rfl : nt = false := by rw [← hnt]; simp [hb]
        subst ha
        have hb' : (b == 0) = false := by simpa using hb
        go_wp2_with fail
        refine (HV.out _ _ hb5 hD4).mono ?_
        rintro _ w6 ⟨rfl, hb6⟩
        have p1 := (hb6.block _ (Array.getElem?_eq_some_iff.1 q4).1).trans q4
        have hbw := bel_trans hb5 hb6
        have x0 := blkC p1 0 rfl
        have x1' := blkC p1 1 rfl
        have x2 := blkC p1 2 rfl
        have x3 := blkC p1 3 rfl
        have x4 := blkC p1 4 rfl
        have z0 := blkF p1 0
        have z1 := blkF p1 1
        have z2 := blkF p1 2
        have z3 := blkF p1 3
        have z4 := blkF p1 4
        go_wp2
        all_goals refine bodyPost_ret (v := .tuple #[.agg #[.bool ng, .int .u64 Q, .int .i64 E, .bool R, .bool sd], .int .i64 0]) (by simp [results, Tryz.results43, go_sem, x0, x1', x2, x3, x4]) rfl ⟨rfl, ?_⟩
        all_goals exact (wr5 w6 w.heap.size _ _ _ _ _).below hbw hbw.size (Nat.le_refl _)
    · obtain rfl : nt = false := by rw [← hnt]; simp [ha]
      have ha' : (a == 0) = false := by simpa using ha
      go_wp2_with fail
      refine (HV.out _ _ hb5 hD4).mono ?_
      rintro _ w6 ⟨rfl, hb6⟩
      have p1 := (hb6.block _ (Array.getElem?_eq_some_iff.1 q4).1).trans q4
      have hbw := bel_trans hb5 hb6
      have x0 := blkC p1 0 rfl
      have x1' := blkC p1 1 rfl
      have x2 := blkC p1 2 rfl
      have x3 := blkC p1 3 rfl
      have x4 := blkC p1 4 rfl
      have z0 := blkF p1 0
      have z1 := blkF p1 1
      have z2 := blkF p1 2
      have z3 := blkF p1 3
      have z4 := blkF p1 4
      go_wp2
      all_goals refine bodyPost_ret (v := .tuple #[.agg #[.bool ng, .int .u64 Q, .int .i64 E, .bool R, .bool sd], .int .i64 0]) (by simp [results, Tryz.results43, go_sem, x0, x1', x2, x3, x4]) rfl ⟨rfl, ?_⟩
      all_goals exact (wr5 w6 w.heap.size _ _ _ _ _).below hbw hbw.size (Nat.le_refl _)
  · have hw4 := bel_set3' (o0 := 0) (o1 := 1) (o2 := 2) hw3 (Nat.le_refl _) (.bool n_g) (.slice n_o n_n n_c) (.int .i64 n_e)
    have qn := heap_set (heap_set (heap_set qz 0 (.bool n_g)) 1 (.slice n_o n_n n_c)) 2 (.int .i64 n_e)
    have q4 := (hw4.block _ (Array.getElem?_eq_some_iff.1 q0).1).trans q0
    have hD4 := (dans_res3 hD hx1 (Nat.le_refl _) (Array.getElem?_eq_some_iff.1 (heap_a1 x1 (.cells #[.bool false, .slice none 0 0, .int .i64 0] 31))).1 (.bool n_g) (.slice n_o n_n n_c) (.int .i64 n_e)).num
    have hb5 := bel_trans hb1 hw4
    clear cz0 cz1 cz2 zz0 zz1 zz2 qz
    have k0 := cell_keeps k0 hw4
    have k1 := cell_keeps k1 hw4
    have k2 := cell_keeps k2 hw4
    have c0 := blkC qn 0 rfl
    have c1 := blkC qn 1 rfl
    have c2 := blkC qn 2 rfl
    by_cases ha : a = 0
    · by_cases hb : b = 0
      · obtain rfl : nt = true := by rw [← hnt, ha, hb]; rfl
        subst ha hb
        go_wp2_with fail
        refine (HV.out _ _ hb5 hD4).mono ?_
        rintro _ w6 ⟨rfl, hb6⟩
        have p1 := (hb6.block _ (Array.getElem?_eq_some_iff.1 q4).1).trans q4
        have hbw := bel_trans hb5 hb6
        have x0 := blkC p1 0 rfl
        have x1' := blkC p1 1 rfl
        have x2 := blkC p1 2 rfl
        have x3 := blkC p1 3 rfl
        have x4 := blkC p1 4 rfl
        have z0 := blkF p1 0
        have z1 := blkF p1 1
        have z2 := blkF p1 2
        have z3 := blkF p1 3
        have z4 := blkF p1 4
        go_wp2
        all_goals refine bodyPost_ret (v := .tuple #[.agg #[.bool ng, .int .u64 Q, .int .i64 E, .bool R, .bool sd], .int .i64 0]) (by simp [results, Tryz.results43, go_sem, x0, x1', x2, x3, x4]) rfl ⟨rfl, ?_⟩
        all_goals exact (wr5 w6 w.heap.size _ _ _ _ _).below hbw hbw.size (Nat.le_refl _)
      · obtain rfl : nt = false := by rw [← hnt]; simp [hb]
        subst ha
        have hb' : (b == 0) = false := by simpa using hb
        go_wp2_with fail
        refine (HV.out _ _ hb5 hD4).mono ?_
        rintro _ w6 ⟨rfl, hb6⟩
        have p1 := (hb6.block _ (Array.getElem?_eq_some_iff.1 q4).1).trans q4
        have hbw := bel_trans hb5 hb6
        have x0 := blkC p1 0 rfl
        have x1' := blkC p1 1 rfl
        have x2 := blkC p1 2 rfl
        have x3 := blkC p1 3 rfl
        have x4 := blkC p1 4 rfl
        have z0 := blkF p1 0
        have z1 := blkF p1 1
        have z2 := blkF p1 2
        have z3 := blkF p1 3
        have z4 := blkF p1 4
        go_wp2
        all_goals refine bodyPost_ret (v := .tuple #[.agg #[.bool ng, .int .u64 Q, .int .i64 E, .bool R, .bool sd], .int .i64 0]) (by simp [results, Tryz.results43, go_sem, x0, x1', x2, x3, x4]) rfl ⟨rfl, ?_⟩
        all_goals exact (wr5 w6 w.heap.size _ _ _ _ _).below hbw hbw.size (Nat.le_refl _)
    · obtain rfl : nt = false := by rw [← hnt]; simp [ha]
      have ha' : (a == 0) = false := by simpa using ha
      go_wp2_with fail
      refine (HV.out _ _ hb5 hD4).mono ?_
      rintro _ w6 ⟨rfl, hb6⟩
      have p1 := (hb6.block _ (Array.getElem?_eq_some_iff.1 q4).1).trans q4
      have hbw := bel_trans hb5 hb6
      have x0 := blkC p1 0 rfl
      have x1' := blkC p1 1 rfl
      have x2 := blkC p1 2 rfl
      have x3 := blkC p1 3 rfl
      have x4 := blkC p1 4 rfl
      have z0 := blkF p1 0
      have z1 := blkF p1 1
      have z2 := blkF p1 2
      have z3 := blkF p1 3
      have z4 := blkF p1 4
      go_wp2
      all_goals refine bodyPost_ret (v := .tuple #[.agg #[.bool ng, .int .u64 Q, .int .i64 E, .bool R, .bool sd], .int .i64 0]) (by simp [results, Tryz.results43, go_sem, x0, x1', x2, x3, x4]) rfl ⟨rfl, ?_⟩
      all_goals exact (wr5 w6 w.heap.size _ _ _ _ _).below hbw hbw.size (Nat.le_refl _)
end Go.Proofs.YtobolgmjcebfmaaGreatDoor

/-
  Mathematics of single operations and what they lose, over whole numbers: floats without an upper end (in units of the least one), the nearest one, Sterbenz, the error of a sum, TwoSum, FastTwoSum. No Go text in sight.
-/
namespace Go.Proofs.YtobolgmjcebfmaaGreatDoor.M
set_option linter.unusedVariables false

/-- A float, in units of the least one, with no upper end: 53 bits at most. -/
def Fl (n : Int) : Prop := ∃ k : Nat, (2 ^ k : Int) ∣ n ∧ (n.natAbs : Int) < 9007199254740992 * 2 ^ k
/-- A nearest float. -/
def Nr (S h : Int) : Prop := Fl h ∧ ∀ f, Fl f → (h - S).natAbs ≤ (f - S).natAbs
theorem p2 (k : Nat) : (0 : Int) < 2 ^ k := Int.pow_pos (by decide)
theorem p2s (k : Nat) : (2 : Int) ^ (k + 1) = 2 * 2 ^ k := by rw [Int.pow_succ, Int.mul_comm]
theorem p2dvd {j k : Nat} (h : j ≤ k) : (2 ^ j : Int) ∣ 2 ^ k := ⟨2 ^ (k - j), by rw [← Int.pow_add, Nat.add_sub_cancel' h]⟩
theorem p2le {j k : Nat} (h : j ≤ k) : (2 : Int) ^ j ≤ 2 ^ k := Int.le_of_dvd (p2 k) (p2dvd h)
theorem p2lt {j k : Nat} (h : (2 : Int) ^ j < 2 ^ k) : j < k := by
  rcases Nat.lt_or_ge j k with c | c
  · exact c
  · have := p2le c; omega
theorem Fl.neg {n : Int} (h : Fl n) : Fl (-n) := by
  obtain ⟨k, d, b⟩ := h
  exact ⟨k, (Int.dvd_neg).2 d, by rw [Int.natAbs_neg]; exact b⟩
theorem fl_zero : Fl 0 := ⟨0, ⟨0, by simp⟩, by simp⟩
/-- A multiple of 2^k of at most 53 bits. -/
theorem fl_of {n : Int} {k : Nat} (d : (2 ^ k : Int) ∣ n) (b : (n.natAbs : Int) ≤ 9007199254740992 * 2 ^ k) : Fl n := by
  by_cases c : (n.natAbs : Int) < 9007199254740992 * 2 ^ k
  · exact ⟨k, d, c⟩
  · have e : (n.natAbs : Int) = 9007199254740992 * 2 ^ k := by omega
    refine ⟨k + 1, ?_, ?_⟩
    · rw [← Int.dvd_natAbs, e, p2s]
      exact ⟨4503599627370496, by omega⟩
    · rw [p2s]; have := p2 k; omega
theorem Fl.dbl {n : Int} (h : Fl n) : Fl (2 * n) := by
  obtain ⟨k, ⟨c, rfl⟩, b⟩ := h
  refine ⟨k + 1, ⟨c, by rw [p2s, Int.mul_assoc]⟩, ?_⟩
  rw [p2s]
  omega
theorem Nr.neg {S h : Int} (n : Nr S h) : Nr (-S) (-h) := by
  refine ⟨n.1.neg, fun f hf => ?_⟩
  have := n.2 (-f) hf.neg
  omega
theorem nr_self {S h : Int} (hS : Fl S) (n : Nr S h) : h = S := by
  have := n.2 S hS
  omega
/-- What is no more than either of two floats, is their difference a float. -/
theorem fl_sub {x y : Int} (hx : Fl x) (hy : Fl y) (h1 : (x - y).natAbs ≤ x.natAbs) (h2 : (x - y).natAbs ≤ y.natAbs) : Fl (x - y) := by
  obtain ⟨j, dx, bx⟩ := hx
  obtain ⟨k, dy, by1⟩ := hy
  rcases Nat.le_total j k with c | c
  · exact ⟨j, Int.dvd_sub dx (Int.dvd_trans (p2dvd c) dy), by omega⟩
  · exact ⟨k, Int.dvd_sub (Int.dvd_trans (p2dvd c) dx) dy, by omega⟩
theorem fl_add {x y : Int} (hx : Fl x) (hy : Fl y) (h1 : (x + y).natAbs ≤ x.natAbs) (h2 : (x + y).natAbs ≤ y.natAbs) : Fl (x + y) := by
  have e : x + y = x - -y := by omega
  rw [e]
  exact fl_sub hx hy.neg (by omega) (by omega)
/-- The step back of FastTwoSum is exact. -/
theorem back_pos {a b h : Int} (ha : Fl a) (hb : Fl b) (h0 : 0 ≤ a) (hab : b.natAbs ≤ a.natAbs) (n : Nr (a + b) h) : Fl (h - a) := by
  have ea := n.2 a ha
  have e2 := n.2 (2 * a) ha.dbl
  have ez := n.2 0 fl_zero
  by_cases hs : a ≤ 2 * h
  · exact fl_sub n.1 ha (by omega) (by omega)
  · have hS : Fl (a + b) := by
      obtain ⟨k, ⟨c, hc⟩, ba⟩ := ha
      cases k with
      | zero => exact ⟨0, ⟨a + b, by simp⟩, by simp at ba ⊢; omega⟩
      | succ k =>
        have hf : Fl (2 ^ k * c) := ⟨k, ⟨c, rfl⟩, by rw [p2s] at ba hc; rw [Int.mul_assoc] at hc; omega⟩
        have e3 := n.2 _ hf
        rw [p2s, Int.mul_assoc] at hc
        exact fl_add ⟨k + 1, ⟨c, by rw [p2s, Int.mul_assoc]; exact hc⟩, ba⟩ hb (by omega) (by omega)
    rw [nr_self hS n, show a + b - a = b by omega]
    exact hb
theorem back {a b h : Int} (ha : Fl a) (hb : Fl b) (hab : b.natAbs ≤ a.natAbs) (n : Nr (a + b) h) : Fl (h - a) := by
  rcases Int.le_total 0 a with c | c
  · exact back_pos ha hb c hab n
  · have n2 := n.neg
    rw [show -(a + b) = -a + -b by omega] at n2
    have := (back_pos ha.neg hb.neg (by omega) (by omega) n2).neg
    rwa [show -(-h - -a) = h - a by omega] at this
/-- Where a number lies. -/
theorem binade (S : Int) (h0 : 0 ≤ S) : ∃ k : Nat, S < 9007199254740992 * 2 ^ k ∧ (k = 0 ∨ 4503599627370496 * 2 ^ k ≤ S) := by
  have ex : ∀ n : Nat, S < 9007199254740992 * 2 ^ n → ∃ k : Nat, S < 9007199254740992 * 2 ^ k ∧ (k = 0 ∨ 4503599627370496 * 2 ^ k ≤ S) := by
    intro n
    induction n with
    | zero => intro h; exact ⟨0, h, .inl rfl⟩
    | succ n ih =>
      intro h
      by_cases c : S < 9007199254740992 * 2 ^ n
      · exact ih c
      · exact ⟨n + 1, h, .inr (by rw [p2s]; omega)⟩
  refine ex S.natAbs ?_
  have h1 : S.natAbs < 2 ^ S.natAbs := Nat.lt_two_pow_self
  have h2 : ((2 ^ S.natAbs : Nat) : Int) = 2 ^ S.natAbs := by simp
  have h3 := p2 S.natAbs
  omega
end Go.Proofs.YtobolgmjcebfmaaGreatDoor.M

/-
  Mathematics of Split and TwoProd, over whole numbers. No Go text in sight.
-/
namespace Go.Proofs.YtobolgmjcebfmaaGreatDoor.M
set_option linter.unusedVariables false

/-- A float that is not less than 2^52 units is whole in them. -/
theorem fl_units {h : Int} {i : Nat} (f : Fl h) (c : 4503599627370496 * 2 ^ i ≤ (h.natAbs : Int)) : (2 ^ i : Int) ∣ h := by
  obtain ⟨j, d, b⟩ := f
  have hi := p2 i
  have hj := p2 j
  cases i with
  | zero => exact ⟨h, by simp⟩
  | succ i =>
    rw [p2s] at c
    have : (2 : Int) ^ i < 2 ^ j := by omega
    exact Int.dvd_trans (p2dvd (p2lt this)) d
/-- Split's steps on a float of 53 bits in units of 2^j, the sign aside. -/
structure Spl (a h : Int) (j : Nat) : Prop where
  up : (134217728 * 2 ^ j : Int) ∣ h
  lo : (2 ^ j : Int) ∣ a - h
  top : (h.natAbs : Int) ≤ 9007199254740992 * 2 ^ j
  low : ((a - h).natAbs : Int) ≤ 67108864 * 2 ^ j
theorem Spl.neg {a h : Int} {j : Nat} (s : Spl a h j) : Spl (-a) (-h) j :=
  ⟨(Int.dvd_neg).2 s.up, by rw [show -a - -h = -(a - h) by omega]; exact (Int.dvd_neg).2 s.lo, by rw [Int.natAbs_neg]; exact s.top, by rw [show -a - -h = -(a - h) by omega, Int.natAbs_neg]; exact s.low⟩
end Go.Proofs.YtobolgmjcebfmaaGreatDoor.M

/-
  Mathematics of TwoProd, over whole numbers: scaling, Dekker's steps. No Go text in sight.
-/
namespace Go.Proofs.YtobolgmjcebfmaaGreatDoor.M
set_option linter.unusedVariables false

theorem natAbs_p2 (i : Nat) (t : Int) : ((2 ^ i * t).natAbs : Int) = 2 ^ i * (t.natAbs : Int) := by
  have hi := p2 i
  rw [Int.natAbs_mul, Int.natCast_mul, show ((2 ^ i : Int).natAbs : Int) = 2 ^ i by omega]
theorem Fl.down {i : Nat} {t : Int} (h : Fl (2 ^ i * t)) : Fl t := by
  obtain ⟨k, d, b⟩ := h
  rw [natAbs_p2] at b
  rcases Nat.le_total i k with c | c
  · obtain ⟨e, rfl⟩ : ∃ e, k = i + e := ⟨k - i, by omega⟩
    rw [Int.pow_add] at d b
    refine ⟨e, Int.dvd_of_mul_dvd_mul_left (by have := p2 i; omega) d, ?_⟩
    have e2 : (9007199254740992 : Int) * (2 ^ i * 2 ^ e) = 2 ^ i * (9007199254740992 * 2 ^ e) := by rw [← Int.mul_assoc, ← Int.mul_assoc, Int.mul_comm _ (2 ^ i)]
    rw [e2] at b
    exact Int.lt_of_mul_lt_mul_left b (Int.le_of_lt (p2 i))
  · refine ⟨0, ⟨t, by simp⟩, ?_⟩
    have h1 : (9007199254740992 : Int) * 2 ^ k ≤ 2 ^ i * 9007199254740992 := by rw [Int.mul_comm]; exact Int.mul_le_mul_of_nonneg_right (p2le c) (by decide)
    have h2 := Int.lt_of_mul_lt_mul_left (Int.lt_of_lt_of_le b h1) (Int.le_of_lt (p2 i))
    simpa using h2
theorem Fl.up {t : Int} (h : Fl t) (i : Nat) : Fl (2 ^ i * t) := by
  obtain ⟨k, ⟨c, rfl⟩, b⟩ := h
  refine ⟨i + k, ⟨c, by rw [Int.pow_add, Int.mul_assoc]⟩, ?_⟩
  rw [natAbs_p2, Int.pow_add]
  have e2 : (9007199254740992 : Int) * (2 ^ i * 2 ^ k) = 2 ^ i * (9007199254740992 * 2 ^ k) := by rw [← Int.mul_assoc, ← Int.mul_assoc, Int.mul_comm _ (2 ^ i)]
  rw [e2]
  exact Int.mul_lt_mul_of_pos_left b (p2 i)
end Go.Proofs.YtobolgmjcebfmaaGreatDoor.M

/-
  Patterns and whole numbers: a finite float in units of the least one; the float that a sum, a product is rounded to is a nearest one.
-/
namespace Go.Proofs.YtobolgmjcebfmaaGreatDoor
open Go Go.RowKit Go.Proofs.YtobolgmjcebfmaaGreatDoor.M Ieee
set_option linter.unusedSimpArgs false
set_option linter.unusedVariables false

/-- A finite float in units of the least one. -/
def iV (p : Int) : Int := sg (decide (p < 0)) (V Ieee.double (rg p).toNat : Int)
theorem patV_iV {p : Int} (hp : rng p) (h : pok p = true) : patV p = iV p * pw (-1074) := by
  rw [patV_dec hp h]; unfold iV vS; rw [sg_prod]
theorem nat_two (n k : Nat) : ((n * 2 ^ k : Nat) : Int) = 2 ^ k * (n : Int) := by rw [Int.natCast_mul, Int.mul_comm]; simp
theorem k_ne {S q : Int} (hq : 0 < q) (h : S ≠ 0) : S * q ≠ 0 := fun c => by
  rcases Int.mul_eq_zero.1 c with d | d <;> omega
theorem k_neg {S q : Int} (hq : 0 < q) : decide (S * q < 0) = decide (S < 0) := by
  congr 1
  exact propext (lt_zero_iff hq).symm
theorem k_abs {S q A : Int} (hq : 0 < q) (h : S * q = sg (decide (S < 0)) A) : A = (S.natAbs : Int) * q := by
  have := natAbs_sg (t := S) hq
  rw [this] at h
  exact (sg_inj h).symm
theorem k_back {S h : Int} (n : Nr (S.natAbs : Int) h) : Nr S (sg (decide (S < 0)) h) := by
  by_cases c : S < 0
  · rw [decide_eq_true c]
    have n2 := n.neg
    have e : -(S.natAbs : Int) = S := by omega
    rw [e] at n2
    exact n2
  · rw [decide_eq_false c]
    have e : (S.natAbs : Int) = S := by omega
    rw [e] at n
    exact n
theorem fl_V (r : Nat) : Fl (V Ieee.double r : Int) := by
  unfold V
  rw [dBin]
  by_cases h : r < 4503599627370496
  · rw [if_pos h]
    exact ⟨0, ⟨r, by simp⟩, by simp; omega⟩
  · rw [if_neg h]
    have hm := Nat.mod_lt r (show 0 < 4503599627370496 by decide)
    obtain ⟨n, hn⟩ : ∃ n, 4503599627370496 + r % 4503599627370496 = n := ⟨_, rfl⟩
    rw [hn]
    refine ⟨r / 4503599627370496 - 1, ⟨n, nat_two _ _⟩, ?_⟩
    rw [Int.natAbs_natCast, nat_two, Int.mul_comm]
    exact Int.mul_lt_mul_of_pos_right (by omega) (p2 _)
theorem V_fl {f : Int} (h : Fl f) : ∃ r : Nat, (f.natAbs : Int) = (V Ieee.double r : Int) := by
  obtain ⟨k, b, c⟩ := binade (f.natAbs : Int) (by omega)
  rcases Nat.eq_zero_or_pos k with g | g
  · subst g
    have := V_parts Ieee.double 0 f.natAbs (.inl ⟨rfl, by rw [dBin]; simp at b; omega⟩)
    exact ⟨_, by rw [this]; simp⟩
  · have c2 : 4503599627370496 * 2 ^ k ≤ (f.natAbs : Int) := by
      rcases c with c | c
      · omega
      · exact c
    obtain ⟨t, ht⟩ := fl_units h c2
    have e : (f.natAbs : Int) = 2 ^ k * (t.natAbs : Int) := by rw [ht, natAbs_p2]
    rw [e] at b c2
    have hk := p2 k
    have b2 : (t.natAbs : Int) < 9007199254740992 := Int.lt_of_mul_lt_mul_left (by rw [Int.mul_comm (2 ^ k) 9007199254740992]; exact b) (Int.le_of_lt hk)
    have c3 : 4503599627370496 ≤ (t.natAbs : Int) := Int.le_of_mul_le_mul_left (by rw [Int.mul_comm (2 ^ k) 4503599627370496]; exact c2) hk
    have := V_parts Ieee.double k t.natAbs (.inr ⟨by rw [dBin]; omega, by rw [dBin]; omega⟩)
    exact ⟨_, by rw [this, e]; push_cast; rw [Int.mul_comm]⟩
theorem V_le {r s : Nat} (h : r ≤ s) : (V Ieee.double r : Int) ≤ V Ieee.double s := by
  rcases Nat.lt_or_eq_of_le h with g | g
  · have := V_lt Ieee.double g; omega
  · rw [g]; omega
/-- The rung of the nearest is a nearest float. -/
theorem nr_V {S : Int} {ng : Bool} {r0 : Nat} {left : Int} (h0 : 0 ≤ S) (hR : Rung (S * pw (-1074)) r0 left) (hf : rTo 0 ng r0 left < 9218868437227405312) : Nr S (V Ieee.double (rTo 0 ng r0 left).toNat : Int) := by
  obtain ⟨lo, hi, l0, l1, l2, l3⟩ := hR
  have hq := pw_pos (-1074)
  unfold vS at *
  generalize pw (-1074) = q at *
  have g1 : (V Ieee.double r0 : Int) ≤ S := Int.le_of_mul_le_mul_right lo hq
  have g2 : S < (V Ieee.double (r0 + 1) : Int) := Int.lt_of_mul_lt_mul_right hi (Int.le_of_lt hq)
  have g3 : left = 2 → 2 * S = (V Ieee.double r0 : Int) + V Ieee.double (r0 + 1) := fun c => by
    have := l2.1 c
    rw [← Int.add_mul, ← Int.mul_assoc] at this
    exact Int.eq_of_mul_eq_mul_right (by omega) this
  have g4 : left = 3 → (V Ieee.double r0 : Int) + V Ieee.double (r0 + 1) < 2 * S := fun c => by
    have := l3.1 c
    rw [← Int.add_mul, ← Int.mul_assoc] at this
    exact Int.lt_of_mul_lt_mul_right this (Int.le_of_lt hq)
  have g5 : left ≠ 3 → 2 * S ≤ (V Ieee.double r0 : Int) + V Ieee.double (r0 + 1) := fun c => by
    rcases Int.lt_or_le ((V Ieee.double r0 : Int) + V Ieee.double (r0 + 1)) (2 * S) with d | d
    · have := Int.mul_lt_mul_of_pos_right d hq
      rw [Int.add_mul, Int.mul_assoc] at this
      exact absurd (l3.2 this) c
    · exact d
  clear l0 l1 l2 l3 lo hi
  have far : ∀ f : Int, Fl f → f ≤ V Ieee.double r0 ∨ V Ieee.double (r0 + 1) ≤ f := by
    intro f hf
    obtain ⟨s, hs⟩ := V_fl hf
    rcases Nat.lt_or_ge r0 s with c | c
    · have := V_le (show r0 + 1 ≤ s from c)
      have := V_le (show 0 ≤ r0 by omega)
      omega
    · have := V_le c
      omega
  unfold rTo at hf ⊢
  by_cases hr : (r0 : Int) < 9218868437227405312
  · rw [if_pos hr] at hf ⊢
    cases hu : rUp 0 ng (decide (r0 % 2 = 1)) left
    · rw [if_neg (by decide)]
      have e : ((r0 : Int) + 0).toNat = r0 := by omega
      rw [e]
      have hl : left ≠ 3 := fun c => by
        subst c
        unfold rUp at hu
        simp at hu
      refine ⟨fl_V r0, fun f hf => ?_⟩
      have := far f hf
      have := g5 hl
      omega
    · rw [if_pos rfl]
      have e : ((r0 : Int) + 1).toNat = r0 + 1 := by omega
      rw [e]
      have hl : left = 3 ∨ left = 2 := by
        unfold rUp at hu
        simp at hu
        rcases hu with c | c
        · exact .inl c
        · exact .inr c.1
      refine ⟨fl_V (r0 + 1), fun f hf => ?_⟩
      have := far f hf
      rcases hl with c | c
      · have := g4 c; omega
      · have := g3 c; omega
  · rw [if_neg hr] at hf
    unfold bRung rUp at hf
    simp at hf
/-- The greatest finite float. -/
def maxV : Int := (V Ieee.double 9218868437227405311 : Int)
theorem fin_V {S : Int} {ng : Bool} {r0 : Nat} {left : Int} (h0 : S ≤ maxV) (hR : Rung (S * pw (-1074)) r0 left) : rTo 0 ng r0 left < 9218868437227405312 := by
  obtain ⟨lo, hi, l0, l1, l2, l3⟩ := hR
  have hq := pw_pos (-1074)
  unfold vS at *
  generalize pw (-1074) = q at *
  have g1 : (V Ieee.double r0 : Int) ≤ S := Int.le_of_mul_le_mul_right lo hq
  have hr : r0 ≤ 9218868437227405311 := by
    rcases Nat.lt_or_ge 9218868437227405311 r0 with c | c
    · have := V_lt Ieee.double c
      unfold maxV at h0
      omega
    · exact c
  unfold rTo
  rw [if_pos (by omega)]
  by_cases c : r0 = 9218868437227405311
  · have e : S = (V Ieee.double r0 : Int) := by rw [c] at g1 ⊢; unfold maxV at h0; omega
    have : left = 0 := l0.2 (by rw [e])
    subst this
    rw [if_neg (fun c => rUp_left c)]
    omega
  · split <;> omega
theorem patS_parts {ng : Bool} {r : Int} (h0 : 0 ≤ r) (h1 : r ≤ 9218868437227405312) : rng (patS ng r) ∧ rg (patS ng r) = r ∧ decide (patS ng r < 0) = ng := by
  unfold patS rng rg
  cases ng
  · simp only [Bool.false_eq_true, if_false]
    rw [if_neg (by omega)]
    exact ⟨by omega, rfl, decide_eq_false (by omega)⟩
  · simp only [if_true]
    rw [if_pos (by omega)]
    exact ⟨by omega, by omega, decide_eq_true (by omega)⟩
theorem patS_fin {ng : Bool} {r : Int} (h0 : 0 ≤ r) (h1 : r ≤ 9218868437227405312) : pok (patS ng r) = decide (r < 9218868437227405312) := by
  obtain ⟨a, b, _⟩ := patS_parts (ng := ng) h0 h1
  have := pok_rg a
  rw [b] at this
  cases h : pok (patS ng r)
  · refine (decide_eq_false fun c => ?_).symm
    rw [this.2 c] at h; cases h
  · exact (decide_eq_true (this.1 h)).symm
theorem iV_patS {ng : Bool} {r : Int} (h0 : 0 ≤ r) (h1 : r ≤ 9218868437227405312) : iV (patS ng r) = sg ng (V Ieee.double r.toNat : Int) := by
  obtain ⟨_, b, c⟩ := patS_parts (ng := ng) h0 h1
  unfold iV
  rw [b, c]
/-- The nearest pattern to a whole number of units. -/
theorem near_iV {S : Int} (h : S ≠ 0) : rng (nearP (S * pw (-1074))) ∧ (pok (nearP (S * pw (-1074))) = true → Nr S (iV (nearP (S * pw (-1074))))) ∧ ((S.natAbs : Int) ≤ maxV → pok (nearP (S * pw (-1074))) = true) := by
  have hq := pw_pos (-1074)
  obtain ⟨A, r0, left, e1, hR, e2⟩ := nearP_rung (k_ne hq h)
  rw [k_neg hq] at e1 e2
  have hA := k_abs hq e1
  rw [hA] at hR
  have hrr := rTo_range 0 (decide (S < 0)) r0 left
  rw [e2]
  refine ⟨(patS_parts hrr.1 hrr.2).1, fun hp => ?_, fun hb => ?_⟩
  · rw [patS_fin hrr.1 hrr.2] at hp
    have n := nr_V (ng := decide (S < 0)) (Int.natCast_nonneg _) hR (of_decide_eq_true hp)
    rw [iV_patS hrr.1 hrr.2]
    exact k_back n
  · rw [patS_fin hrr.1 hrr.2]
    exact decide_eq_true (fin_V hb hR)
end Go.Proofs.YtobolgmjcebfmaaGreatDoor

/-
  Plain mathematics: what a product loses when it is rounded, in any way, is a float. No Go text in sight.
-/
namespace Go.Proofs.YtobolgmjcebfmaaGreatDoor
open Go Go.RowKit Go.Proofs.YtobolgmjcebfmaaGreatDoor.M
set_option linter.unusedSimpArgs false
set_option linter.unusedVariables false

/-- The exact product, in the scale. -/
def prV (a b : Int) : Int := sg (xsg a b) (fsize a b)
theorem prV_eq {a b : Int} : prV a b = patV a * patV b / 2 ^ 4194304 := by
  unfold prV fsize
  cases xsg a b
  · rfl
  · show - -_ = _; rw [Int.neg_neg]
theorem prV_parts {a b : Int} (ra : rng a) (rb : rng b) (pa : pok a = true) (pb : pok b = true) :
    ∃ N t : Nat, fsize a b = (N : Int) * pw (-2148 + (t : Int)) ∧ N < 2 ^ 106 ∧ prV a b * 2 ^ 4194304 = patV a * patV b := by
  obtain ⟨m, u, h1, v1⟩ := read_wd ra pa
  obtain ⟨n, v, h2, v2⟩ := read_wd rb pb
  have b1 := log2_fin ra pa h1
  have b2 := log2_fin rb pb h2
  have hpm := pw_mul (a := -1074 + (u : Int)) (b := -1074 + (v : Int)) (by omega) (by omega)
  have hC := fmul_core (g := decide (a < 0)) (h := decide (b < 0)) (x := (m : Int)) (y := (n : Int)) hpm
  rw [← v1, ← v2] at hC
  have hcast : ((m * n : Nat) : Int) = (m : Int) * (n : Int) := by push_cast; rfl
  have hf : fsize a b = ((m * n : Nat) : Int) * pw (-1074 + (u : Int) + (-1074 + (v : Int))) := by rw [hcast]; exact fsize_of (two_pos 4194304) hC
  refine ⟨m * n, u + v, ?_, ?_, ?_⟩
  · rw [hf, show -1074 + (u : Int) + (-1074 + (v : Int)) = -2148 + ((u + v : Nat) : Int) by push_cast; omega]
  · have e : (2 : Nat) ^ 106 = 9007199254740992 * 9007199254740992 := by decide
    rw [e]
    exact Nat.lt_of_le_of_lt (Nat.mul_le_mul_left m (Nat.le_of_lt b2.1)) (Nat.mul_lt_mul_of_pos_right b1.1 (by decide))
  · rw [← hC]
    unfold prV
    rw [hf, hcast]
    rfl
theorem fus_core {N U s t q Z E : Nat} (hE : E = 1074) (hZ : Z = 2 ^ E) (hq : 0 < q) (hN : N < 2 ^ 106) (hU : 4503599627370496 ≤ U) (lo : U * 2 ^ s * (q * Z) ≤ N * (q * 2 ^ t)) : s + 1021 ≤ t := by
  have e52 : (2 : Nat) ^ 52 = 4503599627370496 := by decide
  have hB := Nat.two_pow_pos s
  have hC := Nat.two_pow_pos t
  have hZ0 : 0 < Z := by rw [hZ]; exact Nat.two_pow_pos _
  have l1 : 4503599627370496 * (2 ^ s * Z * q) ≤ U * 2 ^ s * (q * Z) := by
    rw [show U * 2 ^ s * (q * Z) = U * (2 ^ s * Z * q) by generalize (2 : Nat) ^ s = B; grind]
    exact Nat.mul_le_mul_right _ hU
  have l2 : N * (q * 2 ^ t) < 2 ^ 106 * 2 ^ t * q := by
    rw [show 2 ^ 106 * 2 ^ t * q = 2 ^ 106 * (q * 2 ^ t) by generalize (2 : Nat) ^ 106 = A; generalize (2 : Nat) ^ t = B; grind]
    exact Nat.mul_lt_mul_of_pos_right hN (Nat.mul_pos hq hC)
  have l3 : (4503599627370496 * 2 ^ s * Z) * q < (2 ^ 106 * 2 ^ t) * q := by
    have : 4503599627370496 * 2 ^ s * Z * q = 4503599627370496 * (2 ^ s * Z * q) := by generalize (2 : Nat) ^ s = B; grind
    rw [this]
    exact Nat.lt_of_le_of_lt (Nat.le_trans l1 lo) l2
  have l4 := Nat.lt_of_mul_lt_mul_right l3
  rw [← e52, hZ, ← Nat.pow_add, ← Nat.pow_add, ← Nat.pow_add] at l4
  have h3 := (Nat.pow_lt_pow_iff_right (by decide : 1 < 2)).1 l4
  omega
/-- S = N 2^k - V, with V one of the neighbours U 2^s, (U + 1) 2^s. -/
theorem fus_fl {N U s k : Nat} {S : Int} (hk : s ≤ k + 53) (h : S = (N : Int) * 2 ^ k - (U : Int) * 2 ^ s ∨ S = (N : Int) * 2 ^ k - ((U : Int) + 1) * 2 ^ s) (hS : (S.natAbs : Int) < 2 ^ s) : Fl S := by
  rcases Nat.lt_or_ge k s with g | g
  · refine fl_of (k := k) ?_ ?_
    · obtain ⟨d, hd⟩ := p2dvd (Nat.le_of_lt g)
      rcases h with h | h
      · exact ⟨N - U * d, by rw [h, hd]; grind⟩
      · exact ⟨N - (U + 1) * d, by rw [h, hd]; grind⟩
    · have h1 := p2le hk
      rw [Int.pow_add, show (2 : Int) ^ 53 = 9007199254740992 by decide, Int.mul_comm] at h1
      omega
  · obtain ⟨d, hd⟩ := p2dvd g
    have hdv : (2 ^ s : Int) ∣ S := by
      rcases h with h | h
      · exact ⟨N * d - U, by rw [h, hd]; grind⟩
      · exact ⟨N * d - (U + 1), by rw [h, hd]; grind⟩
    have h0 : S = 0 := by
      obtain ⟨c, hc⟩ := hdv
      have hp := p2 s
      rcases Int.lt_trichotomy c 0 with hn | hn | hn
      · have : 2 ^ s * c ≤ 2 ^ s * (-1) := Int.mul_le_mul_of_nonneg_left (by omega) (Int.le_of_lt hp)
        omega
      · rw [hc, hn, Int.mul_zero]
      · have : 2 ^ s * 1 ≤ 2 ^ s * c := Int.mul_le_mul_of_nonneg_left (by omega) (Int.le_of_lt hp)
        omega
    rw [h0]; exact fl_zero
theorem nsn (a b : Int) : -a - -b = -(a - b) := by omega
theorem fus_all {N U s t E : Nat} {z q pt W : Int} (hE : E = 1074) (hz : 0 < z) (et : pt = z * 2 ^ t) (eq : q = z * 2 ^ E) (hN : N < 2 ^ 106) (hU0 : 4503599627370496 ≤ U) (hs0 : 62 ≤ s) (Rlo : (U : Int) * 2 ^ s * q ≤ (N : Int) * pt) (Rhi : (N : Int) * pt < ((U : Int) + 1) * 2 ^ s * q)
    (hW : W = (U : Int) * 2 ^ s ∨ (W = ((U : Int) + 1) * 2 ^ s ∧ (N : Int) * pt ≠ (U : Int) * 2 ^ s * q)) (hmax : (U : Int) * 2 ^ s ≤ maxV) : ∃ S : Int, (N : Int) * pt - W * q = S * q ∧ Fl S ∧ (S.natAbs : Int) ≤ maxV := by
  have hts : s + 1021 ≤ t := by
    obtain ⟨Z, hZ⟩ : ∃ Z : Nat, Z = 2 ^ E := ⟨_, rfl⟩
    have hZi : (2 : Int) ^ E = (Z : Int) := by rw [hZ]; push_cast; rfl
    obtain ⟨n, rfl⟩ : ∃ n : Nat, z = n := ⟨z.toNat, by omega⟩
    rw [et, eq, hZi] at Rlo
    refine fus_core (N := N) (U := U) (q := n) hE hZ (by omega) hN hU0 ?_
    exact_mod_cast Rlo
  obtain ⟨k, rfl⟩ : ∃ k, t = E + k := ⟨t - E, by omega⟩
  have eA : pt = 2 ^ k * q := by
    rw [et, eq, Nat.add_comm, Int.pow_add]
    generalize (2 : Int) ^ E = X
    generalize (2 : Int) ^ k = Y
    grind
  have hq : 0 < q := by rw [eq]; exact Int.mul_pos hz (p2 E)
  clear et eq
  rw [eA, ← Int.mul_assoc] at Rlo Rhi hW
  rw [eA, ← Int.mul_assoc]
  have Rlo := Int.le_of_mul_le_mul_right Rlo hq
  have Rhi := Int.lt_of_mul_lt_mul_right Rhi (Int.le_of_lt hq)
  have hp := p2 s
  have hU2 : 2 ^ s ≤ (U : Int) * 2 ^ s := by
    have := Int.mul_le_mul_of_nonneg_right (show (1 : Int) ≤ U by omega) (Int.le_of_lt hp)
    rwa [Int.one_mul] at this
  have hW2 : W = (U : Int) * 2 ^ s ∨ (W = ((U : Int) + 1) * 2 ^ s ∧ (N : Int) * 2 ^ k ≠ (U : Int) * 2 ^ s) := by
    rcases hW with h | ⟨h, g⟩
    · exact .inl h
    · exact .inr ⟨h, fun e => g (by rw [e])⟩
  clear hW
  have hS : (((N : Int) * 2 ^ k - W).natAbs : Int) < 2 ^ s := by
    rw [Int.add_mul, Int.one_mul] at Rhi hW2
    clear hmax
    generalize (N : Int) * 2 ^ k = x at *
    generalize (2 : Int) ^ s = y at *
    generalize (U : Int) * y = z' at *
    rcases hW2 with hW | ⟨hW, g⟩ <;> omega
  have hF : Fl ((N : Int) * 2 ^ k - W) := fus_fl (N := N) (k := k) (U := U) (s := s) (by omega) (by rcases hW2 with hW | ⟨hW, _⟩; exact .inl (by rw [hW]); exact .inr (by rw [hW])) hS
  refine ⟨(N : Int) * 2 ^ k - W, by rw [Int.sub_mul], hF, ?_⟩
  exact Int.le_trans (Int.le_of_lt hS) (Int.le_trans hU2 hmax)
theorem eq1074 : pw (-1074) = pw (-2148) * 2 ^ 1074 := by
  obtain ⟨E, hE⟩ : ∃ E : Nat, E = 1074 := ⟨_, rfl⟩
  have := pw_add (e := -2148) (by decide) E
  rw [show (-2148 : Int) + (E : Int) = -1074 by rw [hE]; decide] at this
  rw [← hE]
  exact this
theorem fused_fl {a b way : Int} (ra : rng a) (rb : rng b) (pa : pok a = true) (pb : pok b = true) (h : prV a b ≠ 0) (lo : 288230376151711744 ≤ rg (rdP way (prV a b))) (hi : rg (rdP way (prV a b)) ≤ 9209861237972664320) :
    ∃ S : Int, prV a b - patV (rdP way (prV a b)) = S * pw (-1074) ∧ Fl S ∧ (S.natAbs : Int) ≤ maxV := by
  obtain ⟨N, t, hf, hN, hX⟩ := prV_parts ra rb pa pb
  clear hX
  obtain ⟨A, r0, left, e1, hR, e2⟩ := rdP_is way h
  generalize rdP way (prV a b) = p at *
  have hA : A = (N : Int) * pw (-2148 + (t : Int)) ∧ decide (prV a b < 0) = xsg a b := by
    have hp : 0 < fsize a b := by
      have h0 : 0 ≤ fsize a b := by rw [hf]; exact Int.mul_nonneg (by omega) (Int.le_of_lt (pw_pos _))
      have h1 : fsize a b ≠ 0 := fun e => h (by unfold prV; rw [e]; cases xsg a b <;> rfl)
      omega
    have hs : decide (prV a b < 0) = xsg a b := sg_lt hp
    rw [hs] at e1
    exact ⟨(sg_inj e1).symm.trans hf, hs⟩
  obtain ⟨hA, hs⟩ := hA
  rw [hs] at e1 e2
  have hrr := rTo_range way (xsg a b) r0 left
  obtain ⟨rp, hrg, hng⟩ := patS_parts (ng := xsg a b) hrr.1 hrr.2
  rw [← e2] at rp hrg hng
  have hpp : pok p = true := (pok_rg rp).2 (by omega)
  have hr0 : (r0 : Int) < 9218868437227405312 := by
    rcases Int.lt_or_le (r0 : Int) 9218868437227405312 with g | g
    · exact g
    · exfalso
      rw [hrg] at hi
      unfold rTo at hi
      rw [if_neg (by omega)] at hi
      unfold bRung at hi
      split at hi <;> omega
  have hrt : rTo way (xsg a b) r0 left = (r0 : Int) ∨ (rTo way (xsg a b) r0 left = (r0 : Int) + 1 ∧ left ≠ 0) := by
    unfold rTo
    rw [if_pos hr0]
    by_cases hu : rUp way (xsg a b) (decide (r0 % 2 = 1)) left = true
    · right
      rw [if_pos hu]
      exact ⟨rfl, fun e => by rw [e] at hu; exact rUp_left hu⟩
    · left
      rw [if_neg hu]; omega
  obtain ⟨Rlo, Rhi, l0, _, _, _⟩ := hR
  obtain ⟨s, U, hsU, hU0, hU1, hs0, hs1⟩ : ∃ s U : Nat, r0 = s * 4503599627370496 + U ∧ 4503599627370496 ≤ U ∧ U < 9007199254740992 ∧ 62 ≤ s ∧ s ≤ 2045 := by
    refine ⟨r0 / 4503599627370496 - 1, r0 - (r0 / 4503599627370496 - 1) * 4503599627370496, ?_, ?_, ?_, ?_, ?_⟩
    all_goals (rcases hrt with g | ⟨g, _⟩ <;> omega)
  obtain ⟨V0, V1⟩ := V_rung Ieee.double s U (by rw [dBin]; omega) (fun _ => by rw [dBin]; omega)
  rw [dBin, ← hsU] at V0 V1
  have hmax : (U : Int) * 2 ^ s ≤ maxV := by
    have := V_le (show r0 ≤ 9218868437227405311 by omega)
    rw [V0] at this
    push_cast at this
    exact this
  have hrt : ∃ W : Int, (W = (U : Int) * 2 ^ s ∨ (W = ((U : Int) + 1) * 2 ^ s ∧ left ≠ 0)) ∧ (V Ieee.double (rTo way (xsg a b) r0 left).toNat : Int) = W := by
    rcases hrt with g | ⟨g, g2⟩
    · refine ⟨_, .inl ?_, rfl⟩
      rw [g, Int.toNat_natCast, V0]; push_cast; rfl
    · refine ⟨_, .inr ⟨?_, g2⟩, rfl⟩
      rw [g, show ((r0 : Int) + 1).toNat = r0 + 1 by omega, V1]; push_cast; rfl
  obtain ⟨W, hW, hVW⟩ := hrt
  unfold vS at Rlo Rhi l0
  rw [V0] at Rlo l0
  rw [V1] at Rhi
  push_cast at Rlo Rhi l0
  rw [hA] at Rlo Rhi l0
  have hpv : patV p = sg (xsg a b) W * pw (-1074) := by
    rw [patV_iV rp hpp]
    unfold iV
    rw [hng, hrg, hVW]
  obtain ⟨S, h1, h2, h3⟩ := fus_all (E := 1074) rfl (pw_pos (-2148)) (pw_add (by decide) t) eq1074 hN hU0 hs0 Rlo Rhi (by rcases hW with h | ⟨h, g⟩; exact .inl h; exact .inr ⟨h, fun e => g (l0.2 e)⟩) hmax
  refine ⟨sg (xsg a b) S, ?_, ?_, ?_⟩
  · rw [e1, hpv, hA, sg_prod, sg_prod, ← h1]
    cases xsg a b
    · rfl
    · exact nsn _ _
  · cases xsg a b
    · exact h2
    · exact h2.neg
  · have hn : (sg (xsg a b) S).natAbs = S.natAbs := by
      cases xsg a b
      · rfl
      · exact Int.natAbs_neg _
    rw [hn]
    exact h3
end Go.Proofs.YtobolgmjcebfmaaGreatDoor

/-
  Plain mathematics: sums, products, both rounded once: what the three have in common. No Go text in sight.
-/
namespace Go.Proofs.YtobolgmjcebfmaaGreatDoor
open Go Go.RowKit Go.Proofs.YtobolgmjcebfmaaGreatDoor.M
set_option linter.unusedSimpArgs false
set_option linter.unusedVariables false

theorem pw_0s : pw 0 = 2 ^ 4194304 := by
  unfold pw
  rw [show ((0 : Int) + 4194304).toNat = 4194304 from rfl]
theorem patV_one : patV 4607182418800017408 = pw 0 := by
  have h := pw_add (e := -52) (by omega) 52
  rw [show (-52 : Int) + ((52 : Nat) : Int) = 0 by omega, show (2 : Int) ^ 52 = 4503599627370496 by decide] at h
  unfold patV
  rw [show pneg 4607182418800017408 = false by decide, show pmag 4607182418800017408 = 4503599627370496 by decide, show pexp 4607182418800017408 = -52 by decide, h, Int.mul_comm]
  rfl
theorem patV_m0 : patV (-9223372036854775808) = 0 := by
  unfold patV
  rw [show pmag (-9223372036854775808) = 0 by decide, sg_zero, Int.zero_mul]
theorem prV_one (p : Int) : prV p 4607182418800017408 = patV p := by
  rw [prV_eq, patV_one, pw_0s]
  exact Int.mul_ediv_cancel _ (Int.ne_of_gt (two_pos 4194304))
theorem fmaS_pr (p q r : Int) : fmaS p q r = prV p q + patV r := rfl
theorem fmaS_one (p r : Int) : fmaS p 4607182418800017408 r = patV p + patV r := by rw [fmaS_pr, prV_one]
theorem fmaS_m0 (p q : Int) : fmaS p q (-9223372036854775808) = prV p q := by rw [fmaS_pr, patV_m0, Int.add_zero]
theorem xsg_one (p : Int) : xsg p 4607182418800017408 = decide (p < 0) := by
  unfold xsg
  rw [show decide ((4607182418800017408 : Int) < 0) = false by decide]
  cases decide (p < 0) <;> rfl
theorem patS_back {p : Int} (h : rng p) {r : Int} (hr : rg p = r) : patS (decide (p < 0)) r = p := by
  unfold rg at hr
  unfold patS
  by_cases hn : p < 0
  · rw [if_pos hn] at hr; simp [hn]; omega
  · rw [if_neg hn] at hr; simp [hn]; omega
theorem fsum_ffma {p q : Int} (hp : rng p) : fsum p q = ffma p 4607182418800017408 q := by
  have c1 : ¬ cls 4607182418800017408 = 4 := by decide
  have r1 : rg 4607182418800017408 = 4607182418800017408 := by decide
  unfold fsum ffma
  rw [xsg_one, fmaS_one, r1]
  by_cases h4 : cls p = 4 ∨ cls q = 4
  · have n4 : cls p = 4 ∨ cls 4607182418800017408 = 4 ∨ cls q = 4 := by rcases h4 with h | h; exact .inl h; exact .inr (.inr h)
    rw [if_pos h4, if_pos n4]
  · have n4 : ¬ (cls p = 4 ∨ cls 4607182418800017408 = 4 ∨ cls q = 4) := fun h => by rcases h with h | h | h; exact h4 (.inl h); exact c1 h; exact h4 (.inr h)
    rw [if_neg h4, if_neg n4]
    by_cases ip : rg p = 9218868437227405312
    · have i2 : rg p = 9218868437227405312 ∨ (4607182418800017408 : Int) = 9218868437227405312 := .inl ip
      have i3 : ¬ (rg p = 0 ∨ (4607182418800017408 : Int) = 0) := by omega
      rw [if_pos ip, if_pos i2, if_neg i3, patS_back hp ip]
    · have i2 : ¬ (rg p = 9218868437227405312 ∨ (4607182418800017408 : Int) = 9218868437227405312) := by omega
      rw [if_neg ip, if_neg i2]
theorem fprod_ffma {p q : Int} : fprod p q = ffma p q (-9223372036854775808) := by
  have c1 : ¬ cls (-9223372036854775808) = 4 := by decide
  have r1 : rg (-9223372036854775808) = 0 := by decide
  unfold fprod ffma
  rw [fmaS_m0, r1]
  by_cases h4 : cls p = 4 ∨ cls q = 4
  · have n4 : cls p = 4 ∨ cls q = 4 ∨ cls (-9223372036854775808) = 4 := by rcases h4 with h | h; exact .inl h; exact .inr (.inl h)
    rw [if_pos h4, if_pos n4]
  · have n4 : ¬ (cls p = 4 ∨ cls q = 4 ∨ cls (-9223372036854775808) = 4) := fun h => by rcases h with h | h | h; exact h4 (.inl h); exact h4 (.inr h); exact c1 h
    rw [if_neg h4, if_neg n4]
    by_cases ip : rg p = 9218868437227405312 ∨ rg q = 9218868437227405312
    · rw [if_pos ip, if_pos ip]
      by_cases h0 : rg p = 0 ∨ rg q = 0
      · rw [if_pos h0, if_pos h0]
      · have i3 : ¬ ((0 : Int) = 9218868437227405312 ∧ ¬ xsg p q = decide ((-9223372036854775808 : Int) < 0)) := by omega
        rw [if_neg h0, if_neg h0, if_neg i3]
    · have i3 : ¬ ((0 : Int) = 9218868437227405312) := by omega
      rw [if_neg ip, if_neg ip, if_neg i3]
      have hz : fsize p q = 0 ↔ prV p q = 0 := by
        unfold prV
        cases xsg p q
        · exact Iff.rfl
        · show _ ↔ -_ = 0; omega
      by_cases h : fsize p q = 0
      · rw [if_pos h, if_pos (hz.1 h), show decide ((-9223372036854775808 : Int) < 0) = true by decide, Bool.and_true]
      · rw [if_neg h, if_neg (fun e => h (hz.2 e))]
        rfl
theorem pok_clsF {a : Int} (ra : rng a) (h : pok a = true) : cls a ≠ 4 := fun e => by
  have hf := pparts h
  unfold cls at e
  rw [if_neg hf] at e
  split at e
  · split at e <;> omega
  · omega
theorem told_pokF {a : Int} (ra : rng a) (h : pok a = true) : told a = a := by
  unfold told; rw [if_neg (pok_clsF ra h)]
/-- What is exact is not changed. -/
theorem near_exact {S : Int} (hF : Fl S) (h0 : S ≠ 0) (hb : (S.natAbs : Int) ≤ maxV) : rng (nearP (S * pw (-1074))) ∧ pok (nearP (S * pw (-1074))) = true ∧ iV (nearP (S * pw (-1074))) = S := by
  obtain ⟨h1, h2, h3⟩ := near_iV h0
  exact ⟨h1, h3 hb, nr_self hF (h2 (h3 hb))⟩
theorem iV_fl (a : Int) : Fl (iV a) := by
  unfold iV
  cases decide (a < 0)
  · exact fl_V _
  · exact (fl_V _).neg
theorem iV_maxF {a : Int} (ra : rng a) (h : pok a = true) : ((iV a).natAbs : Int) ≤ maxV := by
  have h1 := (pok_rg ra).1 h
  have h0 := (rg_parts ra).1
  have := V_le (show (rg a).toNat ≤ 9218868437227405311 by omega)
  unfold iV
  cases decide (a < 0)
  · show (((V Ieee.double (rg a).toNat : Int)).natAbs : Int) ≤ _
    rw [Int.natAbs_natCast]; exact this
  · show ((-(V Ieee.double (rg a).toNat : Int)).natAbs : Int) ≤ _
    rw [Int.natAbs_neg, Int.natAbs_natCast]; exact this
theorem near_self {a : Int} (ra : rng a) (h : pok a = true) (h0 : patV a ≠ 0) : patV (nearP (patV a)) = patV a := by
  rw [patV_iV ra h] at h0 ⊢
  have hS : iV a ≠ 0 := fun e => h0 (by rw [e, Int.zero_mul])
  obtain ⟨h1, h2, h3⟩ := near_exact (iV_fl a) hS (iV_maxF ra h)
  rw [patV_iV h1 h2, h3]
theorem fprod_one {a : Int} (ra : rng a) (h : pok a = true) : fprod a 4607182418800017408 = 0 ↔ a = 0 := by
  have hc := pok_clsF ra h
  have hr := (pok_rg ra).1 h
  have c1 : ¬ cls 4607182418800017408 = 4 := by decide
  have r1 : rg 4607182418800017408 = 4607182418800017408 := by decide
  have hp := prV_one a
  unfold prV at hp
  unfold fprod
  have n4 : ¬ (cls a = 4 ∨ cls 4607182418800017408 = 4) := fun h => by rcases h with h | h; exact hc h; exact c1 h
  have i2 : ¬ (rg a = 9218868437227405312 ∨ rg 4607182418800017408 = 9218868437227405312) := by omega
  rw [if_neg n4, if_neg i2, hp, xsg_one]
  have hz : fsize a 4607182418800017408 = 0 ↔ patV a = 0 := by
    rw [← hp]
    cases xsg a 4607182418800017408
    · exact Iff.rfl
    · show _ ↔ -_ = 0; omega
  by_cases h0 : patV a = 0
  · rw [if_pos (hz.2 h0)]
    have hv := patV_iV ra h
    have hi : iV a = 0 := by
      rcases Int.mul_eq_zero.1 (hv.symm.trans h0) with q | q
      · exact q
      · have := pw_pos (-1074); omega
    have hg : rg a = 0 := by
      have h5 := (rg_parts ra).1
      unfold iV at hi
      have hV : (V Ieee.double (rg a).toNat : Int) = 0 := by
        cases hd : decide (a < 0) <;> rw [hd] at hi
        · exact hi
        · have : -(V Ieee.double (rg a).toNat : Int) = 0 := hi
          omega
      rcases Nat.eq_zero_or_pos (rg a).toNat with q | q
      · omega
      · have := V_lt Ieee.double q
        omega
    rw [patS_back ra hg]
  · rw [if_neg (fun e => h0 (hz.1 e))]
    constructor
    · intro e
      have := near_self ra h h0
      rw [e] at this
      exfalso
      apply h0
      rw [← this]
      unfold patV
      rw [show pmag 0 = 0 by decide, sg_zero, Int.zero_mul]
    · intro e
      exfalso
      apply h0
      rw [e]
      unfold patV
      rw [show pmag 0 = 0 by decide, sg_zero, Int.zero_mul]
/-- round.Add, Mul, Fma on patterns. -/
def addP (way a b : Int) : Int := if way = 0 ∨ (pok a && pok b) = false then fsum (told a) (told b) else if patV a + patV b ≠ 0 then rdP way (patV a + patV b) else if way = 1 ∧ ¬ (a = 0 ∧ b = 0) then -9223372036854775808 else fsum (told a) (told b)
def mulP (way a b : Int) : Int := if way = 0 ∨ (pok a && pok b) = false then fprod (told a) (told b) else if prV a b ≠ 0 then rdP way (prV a b) else fprod (told a) (told b)
def fmaP (way a b c : Int) : Int := if way = 0 ∨ (pok a && pok b && pok c) = false then ffma (told a) (told b) (told c) else if fmaS a b c ≠ 0 then rdP way (fmaS a b c) else if way = 1 ∧ ¬ (fprod (told a) (told b) = 0 ∧ c = 0) then -9223372036854775808 else ffma (told a) (told b) (told c)
theorem told_rngF {a : Int} (ra : rng a) : rng (told a) := by
  unfold told
  split
  · unfold rng; omega
  · exact ra
theorem fused_add {way a b : Int} (ra : rng a) (rb : rng b) : addP way a b = fmaP way a 4607182418800017408 b := by
  have t1 : told 4607182418800017408 = 4607182418800017408 := by decide
  have p1 : pok 4607182418800017408 = true := by decide
  unfold addP fmaP
  rw [t1, p1, Bool.and_true, fmaS_one, fsum_ffma (told_rngF ra)]
  by_cases h1 : way = 0 ∨ (pok a && pok b) = false
  · rw [if_pos h1, if_pos h1]
  · rw [if_neg h1, if_neg h1]
    have hb : (pok a && pok b) = true := by
      cases hh : (pok a && pok b)
      · exact absurd (.inr hh) h1
      · rfl
    simp only [Bool.and_eq_true] at hb
    rw [told_pokF ra hb.1]
    simp only [fprod_one ra hb.1]
theorem cls_patS0 (g : Bool) : cls (patS g 0) = 0 := by cases g <;> decide
theorem fma_zero {a b c : Int} (ra : rng a) (rb : rng b) (rc : rng c) (pa : pok a = true) (pb : pok b = true) (pc : pok c = true) (h : fmaS a b c = 0) : ffma a b c = patS (xsg a b && decide (c < 0)) 0 := by
  have h1 := (pok_rg ra).1 pa
  have h2 := (pok_rg rb).1 pb
  have h3 := (pok_rg rc).1 pc
  unfold ffma
  have n4 : ¬ (cls a = 4 ∨ cls b = 4 ∨ cls c = 4) := fun q => by rcases q with q | q | q; exact pok_clsF ra pa q; exact pok_clsF rb pb q; exact pok_clsF rc pc q
  have i2 : ¬ (rg a = 9218868437227405312 ∨ rg b = 9218868437227405312) := by omega
  have i3 : ¬ rg c = 9218868437227405312 := by omega
  rw [if_neg n4, if_neg i2, if_neg i3, if_pos h]
theorem fused_mul {way a b : Int} (ra : rng a) (rb : rng b) : mulP way a b = fmaP way a b (-9223372036854775808) ∨ (cls (mulP way a b) = 0 ∧ cls (fmaP way a b (-9223372036854775808)) = 0) := by
  have t1 : told (-9223372036854775808) = -9223372036854775808 := by decide
  have p1 : pok (-9223372036854775808) = true := by decide
  unfold mulP fmaP
  rw [t1, p1, Bool.and_true, fmaS_m0, fprod_ffma]
  by_cases h1 : way = 0 ∨ (pok a && pok b) = false
  · rw [if_pos h1, if_pos h1]; exact .inl rfl
  · rw [if_neg h1, if_neg h1]
    by_cases h2 : prV a b ≠ 0
    · rw [if_pos h2, if_pos h2]; exact .inl rfl
    · right
      rw [if_neg h2, if_neg h2]
      have hb : (pok a && pok b) = true := by
        cases hh : (pok a && pok b)
        · exact absurd (.inr hh) h1
        · rfl
      simp only [Bool.and_eq_true] at hb
      have h0 : fmaS a b (-9223372036854775808) = 0 := by rw [fmaS_m0]; omega
      rw [told_pokF ra hb.1, told_pokF rb hb.2, fma_zero ra rb (by unfold rng; omega) hb.1 hb.2 p1 h0]
      refine ⟨cls_patS0 _, ?_⟩
      split
      · decide
      · exact cls_patS0 _
end Go.Proofs.YtobolgmjcebfmaaGreatDoor

/-
  Package round: sums in all ways, by their contract.
-/
namespace Go.Proofs.YtobolgmjcebfmaaGreatDoor
open Go Go.RowKit Go.Proofs.YtobolgmjcebfmaaGreatDoor.M
set_option linter.unusedSimpArgs false
set_option linter.unusedVariables false

def addF (way near a b : Int) : Int := if patV a + patV b ≠ 0 then rdP way (patV a + patV b) else if way = 1 ∧ ¬ (a = 0 ∧ b = 0) then -9223372036854775808 else near
theorem rowT {w : World} {g : Nat} {a b : Int} (h : w.heap[g]? = some (.cells #[.int .i64 a, .int .i64 b] 3 (0, 0))) : Row w (some ⟨g, 0, none⟩) 2 2 (fun i => if i = 0 then a else b) :=
  ⟨Nat.le_refl _, by decide, (fun h => nomatch h), fun _ => ⟨g, 0, rfl, (Array.getElem?_eq_some_iff.1 h).1, fun i hi => by
    match i, hi with
    | 0, _ => exact blkC h 0 rfl
    | 1, _ => exact blkC h 1 rfl⟩⟩
theorem r64_m0 : (r64 1 true true 0 0 false).1 = -9223372036854775808 := by decide +kernel
theorem mag_pos {m : Int} (h : 0 < m) : (m / 2 ^ vK m).toNat ≠ 0 := by
  have hb := blen_pos h
  have hp := two_pos (vK m)
  have h1 : 2 ^ vK m ≤ m := Int.le_trans (two_le (by unfold vK; omega)) hb.2
  have h2 : 1 ≤ m / 2 ^ vK m := by rw [Int.le_ediv_iff_mul_le hp, Int.one_mul]; exact h1
  omega
theorem mag_lt {m : Int} (h : 0 ≤ m) : (m / 2 ^ vK m).toNat < 18446744073709551616 := by
  have := vK_small h
  omega
theorem exp_in {V : Int} {ng : Bool} {m e : Int} (hy : Dy V ng m e) (ok : Dok V) : -4500000 ≤ e + vK m ∧ e + vK m ≤ 4500000 := by
  obtain ⟨h1, h2, h3⟩ := hy.ok.1 ok
  have h4 : blen m ≤ 30 * 2000 := blen_le (by rw [← P_two]; exact h1)
  unfold vK
  omega
set_option maxRecDepth 100000 in
theorem opAdd (way : Int) (hw : 1 ≤ way ∧ way ≤ 3) (near a b : Int) (pa : pok a = true) (pb : pok b = true) (w : World) (gn ga gb go : Nat) (kn : w.heap[gn]? = some (.cells #[.int .i64 way] 3 (0, 0))) (ka : w.heap[ga]? = some (.cells #[.int .i64 a] 3 (0, 0))) (kb : w.heap[gb]? = some (.cells #[.int .i64 b] 3 (0, 0))) (ko : w.heap[go]? = some (.cells #[.int .i64 a, .int .i64 b] 3 (0, 0))) (H : Hold4 w) :
    Calls Tryz.prog 21 #[.agg #[.func (.func 11) #[] #[], .func (.func 42) #[] #[]], .int .i64 near, .int .i64 way, .func (.func 43) #[] #[.pointer (some ⟨gn, 0, none⟩), .pointer (some ⟨ga, 0, none⟩), .pointer (some ⟨gb, 0, none⟩)], .slice (some ⟨go, 0, none⟩) 2 2] w fun e w' => e = .returned (.tuple #[.int .i64 (addF way near a b), .int .i64 0]) ∧ Below w.heap.size w w' := by
  have hER : ∀ (cap : Array Value) (w : World), (callFunc 43 cap).run Tryz.prog w = .ok (.enter 43 cap) w := by
    intro cap w
    simp [go_sem]
  have ok : Dok (patV a + patV b) := ((patV_bd pa).add (patV_bd pb) (by omega)).ok (by omega)
  obtain ⟨ng, m, e, hy, hm⟩ := id ok
  clear hm
  have hp : ∀ i, i < 2 → pok (if i = 0 then a else b) = true := fun i hi => by split <;> assumption
  have CR : ∀ (ng : Bool) (Q : Nat) (E : Int) (R sd : Bool), (∀ W v, Below w.heap.size w W → DNum W v (patV a + patV b) → Calls Tryz.prog 25 #[v, .int .i64 way, .bool (decide (a = 0) && decide (b = 0))] W fun r w' => r = .returned (valV ng Q E R sd) ∧ Below W.heap.size W w') →
      ∀ W g q, Below w.heap.size w W → Nums W (some ⟨g, 0, none⟩) 2 2 q → (∀ i, i < 2 → Nrm (q i).d (q i).n ∧ Dy (patV (if i = 0 then a else b)) (q i).ng (val (q i).d (q i).n) (q i).e) → Calls Tryz.prog 43 (#[.slice (some ⟨g, 0, none⟩) 2 2] ++ #[.pointer (some ⟨gn, 0, none⟩), .pointer (some ⟨ga, 0, none⟩), .pointer (some ⟨gb, 0, none⟩)]) W fun e w' => e = .returned (.tuple #[valV ng Q E R sd, .int .i64 0]) ∧ Below W.heap.size W w' :=
    fun ng Q E R sd CV W g q hb hN hf => add1_D g W q (patV a) (patV b) way a b ng Q E R sd ⟨gn, 0, none⟩ ⟨ga, 0, none⟩ ⟨gb, 0, none⟩ (cell_keeps (blkC kn 0 rfl) hb) (cell_keeps (blkC ka 0 rfl) hb) (cell_keeps (blkC kb 0 rfl) hb) hN (nums_D hN hf 0 (by decide)) (nums_D hN hf 1 (by decide)) (patV_dok pa) (patV_dok pb) ok (H.keeps hb).tab (fun W' v hb' hv => CV W' v (bel_trans hb hb') hv)
  by_cases hz : patV a + patV b = 0 ∧ way = 1 ∧ (decide (a = 0) && decide (b = 0)) = false
  · obtain ⟨h0, h1, h2⟩ := hz
    have hA : addF way near a b = -9223372036854775808 := by
      unfold addF
      have n1 : ¬ patV a + patV b ≠ 0 := fun q => q h0
      have n2 : way = 1 ∧ ¬ (a = 0 ∧ b = 0) := ⟨h1, fun q => by rw [q.1, q.2] at h2; cases h2⟩
      rw [if_neg n1, if_pos n2]
    have := operate_fin way hw near _ _ go 2 (by decide) (fun i => if i = 0 then a else b) w (rowT ko) hp H true 0 0 false true (by decide) (by omega) hER (CR true 0 0 false true (fun W v hb hv => by
      rw [h0] at hv
      rw [h1, h2]
      exact total_neg hv))
    rw [hA]
    rw [h1, show opT 0 0 true (r64 1 true true 0 0 false).1 near = -9223372036854775808 by unfold opT; rw [r64_m0]; simp] at this
    rw [h1]
    exact this
  · have := operate_fin way hw near _ _ go 2 (by decide) (fun i => if i = 0 then a else b) w (rowT ko) hp H ng _ _ _ false (mag_lt hy.nonneg) (exp_in hy ok) hER (CR ng _ _ _ false (fun W v hb hv => total_val hv ok hy (H.keeps hb).tab hz))
    have hA : addF way near a b = opT 0 (m / 2 ^ vK m).toNat false (r64 way ng true (m / 2 ^ vK m).toNat (e + vK m) (decide (m % 2 ^ vK m ≠ 0))).1 near := by
      unfold addF opT
      by_cases h0 : patV a + patV b = 0
      · have hm0 := hy.eq_zero.1 h0
        have n1 : ¬ patV a + patV b ≠ 0 := fun q => q h0
        have n2 : ¬ (way = 1 ∧ ¬ (a = 0 ∧ b = 0)) := fun q => hz ⟨h0, q.1, by
          by_cases ha : a = 0
          · by_cases hb : b = 0
            · exact absurd ⟨ha, hb⟩ q.2
            · simp [hb]
          · simp [ha]⟩
        have n3 : (0 : Int) ≠ 0 ∨ ((m / 2 ^ vK m).toNat = 0 ∧ false = false) := .inr ⟨by rw [hm0, Int.zero_ediv]; rfl, rfl⟩
        rw [if_neg n1, if_neg n2, if_pos n3]
      · have hm0 : 0 < m := by
          have := hy.nonneg
          have : m ≠ 0 := fun q => h0 (hy.eq_zero.2 q)
          omega
        have n1 : patV a + patV b ≠ 0 := h0
        have n3 : ¬ ((0 : Int) ≠ 0 ∨ ((m / 2 ^ vK m).toNat = 0 ∧ false = false)) := fun q => by
          rcases q with q | q
          · exact q rfl
          · exact mag_pos hm0 q.1
        rw [if_pos n1, if_neg n3, r64_dy hy h0 (by have := (hy.ok.1 ok).2.1; omega)]
    rw [hA]
    exact this
theorem opAdd_inf (way : Int) (hw : 1 ≤ way ∧ way ≤ 3) (near a b : Int) (Rf : Nat) (rc : Array Value) (hp : (pok a && pok b) = false) (w : World) (go : Nat) (ko : w.heap[go]? = some (.cells #[.int .i64 a, .int .i64 b] 3 (0, 0))) (H : Hold4 w) :
    Calls Tryz.prog 21 #[.agg #[.func (.func 11) #[] #[], .func (.func 42) #[] #[]], .int .i64 near, .int .i64 way, .func (.func Rf) #[] rc, .slice (some ⟨go, 0, none⟩) 2 2] w fun e w' => e = .returned (.tuple #[.int .i64 near, .int .i64 0]) ∧ Below w.heap.size w w' := by
  cases h1 : pok a
  · exact operate_inf way hw near Rf rc go 2 (by decide) (fun i => if i = 0 then a else b) w (rowT ko) 0 (by decide) (fun i hi => by omega) h1 H
  · rw [h1] at hp
    exact operate_inf way hw near Rf rc go 2 (by decide) (fun i => if i = 0 then a else b) w (rowT ko) 1 (by decide) (fun i hi => by
      obtain rfl : i = 0 := by omega
      exact h1) hp H
end Go.Proofs.YtobolgmjcebfmaaGreatDoor
