/-
  Parts of the proof, one behind another.
-/
import Derived.Test.YtkieaijmjpckdaaDoorPart8
import Derived.Test.YtkieaijmjpckdaaDoorPart11
import Derived.Test.YtkieaijmjpckdaaDoorPart12
import Derived.Test.YtkieaijmjpckdaaDoorPart7
import Derived.Deep.Strs
/-
  Package plumbref3: Add, by its contract: a sum of numbers within bounds.
-/
namespace Go.Proofs.YtkieaijmjpckdaaDoor
open Go Go.RowKit Go.Proofs.YtkieaijmjpckdaaDoor.M
set_option linter.unusedSimpArgs false
set_option linter.unusedVariables false

/-- The form of a number within bounds. -/
theorem bd_form {K : Nat} {A : Int} {ng : Bool} {m e : Int} (h : Bd K A) (hy : Dy A ng m e) (hK : K ≤ 4194304) (h0 : 0 < m) : -(K : Int) ≤ e ∧ e ≤ K ∧ m * 2 ^ (e + K).toNat < 2 ^ (2 * K) := by
  obtain ⟨c, hc, c1, c2⟩ := h
  have key : ∀ (b : Bool) (C : Int), 0 < C → C < 2 ^ (2 * K) → A = sg b C * pw (-(K : Int)) → -(K : Int) ≤ e ∧ e ≤ K ∧ m * 2 ^ (e + K).toNat < 2 ^ (2 * K) := fun b C hC hlt hA => by
    obtain ⟨l, hl⟩ := isLow_ex hC
    have hy2 := Dy.of b hl hC (show -4194304 ≤ -(K : Int) by omega)
    rw [← hA] at hy2
    obtain ⟨_, rfl, rfl⟩ := hy.unique hy2
    obtain ⟨d1, d2, d3⟩ := isLow_odd hl hC
    have hl2 : l < 2 * K := by
      have h3 : (1 : Int) * 2 ^ l ≤ C / 2 ^ l * 2 ^ l := Int.mul_le_mul_of_nonneg_right (by omega) (Int.le_of_lt (two_pos l))
      rw [d3] at h3
      exact two_lt_iff (by omega)
    refine ⟨by omega, by omega, ?_⟩
    rw [show (-(K : Int) + l + K).toNat = l by omega, d3]
    exact hlt
  by_cases hz : c = 0
  · exfalso
    rw [hz, Int.zero_mul] at hc
    have := hy.eq_zero.1 hc
    omega
  · by_cases hp : 0 < c
    · exact key false c hp c2 (by simpa [sg] using hc)
    · exact key true (-c) (by omega) (by omega) (by simpa [sg] using hc)
theorem bd_shift {K : Nat} {A : Int} {ng : Bool} {m e low : Int} (h : Bd K A) (hy : Dy A ng m e) (hK : K ≤ 4194304) (h0 : 0 < m) (h1 : -(K : Int) ≤ low) (h2 : low ≤ e) : m * 2 ^ (e - low).toNat < 2 ^ (2 * K) := by
  obtain ⟨a, b, c⟩ := bd_form h hy hK h0
  have h3 : (2 : Int) ^ (e - low).toNat ≤ 2 ^ (e + K).toNat := two_le (by omega)
  have h4 : m * 2 ^ (e - low).toNat ≤ m * 2 ^ (e + K).toNat := Int.mul_le_mul_of_nonneg_left h3 (by omega)
  omega
theorem bd_self {K : Nat} {A : Int} {ng : Bool} {m e : Int} (h : Bd K A) (hy : Dy A ng m e) (hK : K ≤ 4194304) (h0 : 0 < m) : m < 2 ^ (2 * K) := by
  obtain ⟨a, b, c⟩ := bd_form h hy hK h0
  have h3 : (1 : Int) ≤ 2 ^ (e + K).toNat := two_pos _
  have h4 : m * 1 ≤ m * 2 ^ (e + K).toNat := Int.mul_le_mul_of_nonneg_left h3 (by omega)
  omega
theorem bd_digits {K : Nat} {d : Nat → Int} {n : Nat} (hK : K ≤ 560000) (hN : Nrm d n) (h : val d n < 2 ^ (2 * K)) : n ≤ 37400 := by
  by_cases h1 : n ≤ 37400
  · exact h1
  · exfalso
    have a := val_top hN.1 (by omega) hN.2
    have b := P_le (show 37400 ≤ n - 1 by omega)
    have c : (2 : Int) ^ (2 * K) ≤ 2 ^ (30 * 37400) := two_le (by omega)
    rw [← P_two] at c
    generalize P 37400 = Y at *
    omega
/-- A sum: its own, or one of the two where the other is 0. -/
def RSum (w w' : World) (A B : Int) (x y v : Value) : Prop := Below w.heap.size w w' ∧ (DAns w w' (A + B) v ∨ (A = 0 ∧ v = y) ∨ (B = 0 ∧ v = x))
theorem RSum.num {w w' : World} {A B : Int} {x y v : Value} (h : RSum w w' A B x y v) (hx : DNum w x A) (hy : DNum w y B) : DNum w' v (A + B) := by
  rcases h.2 with h1 | ⟨rfl, rfl⟩ | ⟨rfl, rfl⟩
  · exact h1.num
  · rw [Int.zero_add]; exact hy.keeps h.1
  · rw [Int.add_zero]; exact hx.keeps h.1
set_option maxRecDepth 100000 in
set_option maxHeartbeats 2000000 in
theorem radd3_left (x y : NumR) (w : World) (hm : x.n ≤ 9223372036854775807) (hm' : y.n ≤ 9223372036854775807) (h : x.n = 0) :
    Calls Tryd.prog 48 #[x.v, y.v] w fun r w' => r = .returned y.v ∧ Below w.heap.size w w' := by
  obtain ⟨an, ao, n, ca, a, e⟩ := x
  obtain ⟨bn, bo, m, cb, b, f⟩ := y
  unfold NumR.v at *
  simp only at *
  subst h
  go_enter Tryd.func48, Tryd.ntmps48
  go_wp2
  refine bodyPost_ret (v := .agg #[.bool bn, .slice bo m cb, .int .i64 f]) (by simp [results, Tryd.results48, go_sem]) rfl ⟨rfl, ?_⟩
  exact bel_a3 _ _ _ _
set_option maxRecDepth 100000 in
set_option maxHeartbeats 2000000 in
theorem radd3_right (x y : NumR) (w : World) (hm : x.n ≤ 9223372036854775807) (hm' : y.n ≤ 9223372036854775807) (h0 : 0 < x.n) (h : y.n = 0) :
    Calls Tryd.prog 48 #[x.v, y.v] w fun r w' => r = .returned x.v ∧ Below w.heap.size w w' := by
  obtain ⟨an, ao, n, ca, a, e⟩ := x
  obtain ⟨bn, bo, m, cb, b, f⟩ := y
  unfold NumR.v at *
  simp only at *
  have hn0 : ((n : Int) == 0) = false := by simp; omega
  subst h
  go_enter Tryd.func48, Tryd.ntmps48
  go_wp2
  refine bodyPost_ret (v := .agg #[.bool an, .slice ao n ca, .int .i64 e]) (by simp [results, Tryd.results48, go_sem]) rfl ⟨rfl, ?_⟩
  exact bel_a3 _ _ _ _
set_option maxRecDepth 100000 in
set_option maxHeartbeats 2000000 in
/-- The sum of two that are not 0, brought to one exponent: A and B units of 2^low. -/
theorem radd3_walk (x y : NumR) (w : World) (hx : Row w x.ao x.n x.cap x.d) (hy : Row w y.ao y.n y.cap y.d) (n0 : 0 < x.n) (m0 : 0 < y.n) (low A B V : Int)
    (hlow : low = min x.e y.e) (hl0 : -600000 ≤ low) (he : x.e ≤ 600000) (hf : y.e ≤ 600000)
    (H1 : ∀ W, Below w.heap.size w W → Calls Tryd.prog 87 #[.slice x.ao x.n x.cap, .int .i64 (x.e - low)] W fun r w' => ∃ so sn sc, r = .returned (.slice so sn sc) ∧ Num w' (.slice so sn sc) A ∧ Below W.heap.size W w')
    (H2 : ∀ W, Below w.heap.size w W → Calls Tryd.prog 87 #[.slice y.ao y.n y.cap, .int .i64 (y.e - low)] W fun r w' => ∃ so sn sc, r = .returned (.slice so sn sc) ∧ Num w' (.slice so sn sc) B ∧ Below W.heap.size W w')
    (H3 : ∀ W p q, Num W p A → Num W q B → Calls Tryd.prog 88 #[p, q] W fun r w' => ∃ so sn sc, r = .returned (.slice so sn sc) ∧ Num w' (.slice so sn sc) (A + B) ∧ Below W.heap.size W w')
    (H4 : ∀ W p q, Num W p A → Num W q B → Calls Tryd.prog 89 #[p, q] W fun r w' => r = .returned (.int .i64 (ord A B)) ∧ Below W.heap.size W w')
    (H5 : ∀ W p q, Num W p A → Num W q B → B ≤ A → Calls Tryd.prog 90 #[p, q] W fun r w' => ∃ so sn sc, r = .returned (.slice so sn sc) ∧ Num w' (.slice so sn sc) (A - B) ∧ Below W.heap.size W w')
    (H6 : ∀ W p q, Num W p A → Num W q B → A ≤ B → Calls Tryd.prog 90 #[q, p] W fun r w' => ∃ so sn sc, r = .returned (.slice so sn sc) ∧ Num w' (.slice so sn sc) (B - A) ∧ Below W.heap.size W w')
    (H7 : ∀ W ng s M, Num W s M → ((x.ng = y.ng ∧ ng = x.ng ∧ M = A + B) ∨ (x.ng ≠ y.ng ∧ B ≤ A ∧ ng = x.ng ∧ M = A - B) ∨ (x.ng ≠ y.ng ∧ A < B ∧ ng = y.ng ∧ M = B - A)) → Calls Tryd.prog 71 #[.bool ng, s, .int .i64 low] W fun r w' => ∃ ng s1 s2 s3 e1, r = .returned (.agg #[.bool ng, .slice s1 s2 s3, .int .i64 e1]) ∧ DAns W w' V (.agg #[.bool ng, .slice s1 s2 s3, .int .i64 e1]) ∧ Below W.heap.size W w') :
    Calls Tryd.prog 48 #[x.v, y.v] w fun r w' => ∃ v, r = .returned v ∧ DAns w w' V v := by
  have hmin : ∀ (ts : Array TypeId) (t : TypeId) (w : World), (Builtin.min_ ts t #[.int .i64 x.e, .int .i64 y.e]).run Tryd.prog w = .ok (.int .i64 low) w := fun ts t w => by rw [run_min_int2, hlow]; congr 2; omega
  have hl1 : low ≤ x.e := by omega
  have hl2 : low ≤ y.e := by omega
  have HH7 : Hid _ := H7
  have hm := hx.max
  have hm' := hy.max
  clear hlow H7
  obtain ⟨an, ao, n, ca, a, e⟩ := x
  obtain ⟨bn, bo, m, cb, b, f⟩ := y
  unfold NumR.v
  simp only at *
  have hn0 : ((n : Int) == 0) = false := by simp; omega
  have hm0 : ((m : Int) == 0) = false := by simp; omega
  have hb3 : Below w.heap.size w (((w.alloc (.cells #[.bool an, .slice ao n ca, .int .i64 e] 31)).alloc (.cells #[.bool bn, .slice bo m cb, .int .i64 f] 31)).alloc (.cells #[.bool false, .slice none 0 0, .int .i64 0] 31)) := bel_a3 _ _ _ _
  have g0 := h3_0 w (.cells #[.bool an, .slice ao n ca, .int .i64 e] 31) (.cells #[.bool bn, .slice bo m cb, .int .i64 f] 31) (.cells #[.bool false, .slice none 0 0, .int .i64 0] 31)
  have g1 := h3_1 w (.cells #[.bool an, .slice ao n ca, .int .i64 e] 31) (.cells #[.bool bn, .slice bo m cb, .int .i64 f] 31) (.cells #[.bool false, .slice none 0 0, .int .i64 0] 31)
  have g2 := h3_2 w (.cells #[.bool an, .slice ao n ca, .int .i64 e] 31) (.cells #[.bool bn, .slice bo m cb, .int .i64 f] 31) (.cells #[.bool false, .slice none 0 0, .int .i64 0] 31)
  go_enter Tryd.func48, Tryd.ntmps48
  go_wp2_with fail
  generalize ((w.alloc (.cells #[.bool an, .slice ao n ca, .int .i64 e] 31)).alloc (.cells #[.bool bn, .slice bo m cb, .int .i64 f] 31)).alloc (.cells #[.bool false, .slice none 0 0, .int .i64 0] 31) = wx at hb3 g0 g1 g2 ⊢
  refine (H1 _ hb3).mono ?_
  rintro r w1 ⟨po, pn, pc, rfl, hP, hb1⟩
  have hbx1 := bel_trans hb3 hb1
  replace g0 := (hb1.block _ (Array.getElem?_eq_some_iff.1 g0).1).trans g0
  replace g1 := (hb1.block _ (Array.getElem?_eq_some_iff.1 g1).1).trans g1
  replace g2 := (hb1.block _ (Array.getElem?_eq_some_iff.1 g2).1).trans g2
  have j1 := blkC g1 1 rfl
  have j2 := blkC g1 2 rfl
  go_wp2_with fail
  clear j1 j2
  refine (H2 _ hbx1).mono ?_
  rintro r w2 ⟨qo, qn, qc, rfl, hQ, hb2⟩
  have hbx2 := bel_trans hbx1 hb2
  replace hP := hP.keeps hb2
  replace g0 := (hb2.block _ (Array.getElem?_eq_some_iff.1 g0).1).trans g0
  replace g1 := (hb2.block _ (Array.getElem?_eq_some_iff.1 g1).1).trans g1
  replace g2 := (hb2.block _ (Array.getElem?_eq_some_iff.1 g2).1).trans g2
  have k0 := blkC g0 0 rfl
  have k1 := blkC g0 1 rfl
  have k2 := blkC g0 2 rfl
  have j0 := blkC g1 0 rfl
  have j1 := blkC g1 1 rfl
  have j2 := blkC g1 2 rfl
  by_cases hng : an = bn
  · subst hng
    have C1 : ∀ W, Below w2.heap.size w2 W → Calls Tryd.prog 88 #[.slice po pn pc, .slice qo qn qc] W fun r w' => ∃ so sn sc, r = .returned (.slice so sn sc) ∧ Num w' (.slice so sn sc) (A + B) ∧ Below W.heap.size W w' := fun W h => H3 W _ _ (hP.keeps h) (hQ.keeps h)
    have C2 : ∀ W so sn sc, Num W (.slice so sn sc) (A + B) → Calls Tryd.prog 71 #[.bool an, .slice so sn sc, .int .i64 low] W fun r w' => ∃ ng s1 s2 s3 e1, r = .returned (.agg #[.bool ng, .slice s1 s2 s3, .int .i64 e1]) ∧ DAns W w' V (.agg #[.bool ng, .slice s1 s2 s3, .int .i64 e1]) ∧ Below W.heap.size W w' := fun W so sn sc hN => HH7.out W an _ _ hN (.inl ⟨rfl, rfl, rfl⟩)
    clear H1 H2 H3 H4 H5 H6 HH7
    have hs3 := (Array.getElem?_eq_some_iff.1 g2).1
    go_wp2_with fail
    have hb1 := bel_refl w2
    go_region_held3 (fun W => (W.cell? ⟨w.heap.size, 0, none⟩ = some (.bool an) ∧ W.cell? ⟨w.heap.size, 1, none⟩ = some (.slice ao n ca) ∧ W.cell? ⟨w.heap.size, 2, none⟩ = some (.int .i64 e)) ∧ W.cell? ⟨w.heap.size + 1, 0, none⟩ = some (.bool an) ∧ W.cell? ⟨w.heap.size + 1, 1, none⟩ = some (.slice bo m cb) ∧ W.cell? ⟨w.heap.size + 1, 2, none⟩ = some (.int .i64 f))
      (first | assumption | exact ⟨⟨k0, k1, k2⟩, j0, j1, j2⟩ | exact keep66 (W := w2.drew) hbv1 ⟨⟨k0, k1, k2⟩, j0, j1, j2⟩ | exact keep66 hbv2 (keep66 (W := w2.drew) hbv1 ⟨⟨k0, k1, k2⟩, j0, j1, j2⟩) | exact ⟨keepS (keep66 hbv2 (keep66 (W := w2.drew) hbv1 ⟨⟨k0, k1, k2⟩, j0, j1, j2⟩)).1 (by omega) _ _ _, keepS (keep66 hbv2 (keep66 (W := w2.drew) hbv1 ⟨⟨k0, k1, k2⟩, j0, j1, j2⟩)).2 (by omega) _ _ _⟩)
      (first | (go_at_call 71; refine (C2 _ _ _ _ hv1).mono ?_; rintro y w4 ⟨ng4, o4, n4, c4, e4, rfl, hv2, hbv2⟩; have q0 := ((bel_trans hbv1 hbv2).block (w.heap.size + 2) (by show _ < w2.heap.size; omega)).trans g2; have x0 := blkC q0 0 rfl; have x1 := blkC q0 1 rfl; have x2 := blkC q0 2 rfl; have z0 := blkF q0 0; have z1 := blkF q0 1; have z2 := blkF q0 2) | (go_at_call 88; refine (C1 _ hb1.drew).mono ?_; rintro y w3 ⟨so, sn, sc, rfl, hv1, hbv1⟩))
    all_goals go_wp2
    all_goals
      refine bodyPost_ret (v := .agg #[.bool ng4, .slice o4 n4 c4, .int .i64 e4]) (by simp [results, Tryd.results48, go_sem, x0, x1, x2]) rfl ⟨_, rfl, ?_⟩
      exact dans_res3 (g := w.heap.size + 2) hv2 (bel_trans hbx2 (bel_trans hb1.drew hbv1)) (by omega) (Nat.lt_of_lt_of_le (show _ < w2.heap.size by omega) hbv1.size) _ _ _
  · have hng' : (an == bn) = false := by simp [hng]
    go_wp2_with fail
    refine (H4 _ _ _ hP hQ).mono ?_
    rintro r w3 ⟨rfl, hb3'⟩
    have hbx3 := bel_trans hbx2 hb3'
    replace hP := hP.keeps hb3'
    replace hQ := hQ.keeps hb3'
    replace g0 := (hb3'.block _ (Array.getElem?_eq_some_iff.1 g0).1).trans g0
    replace g1 := (hb3'.block _ (Array.getElem?_eq_some_iff.1 g1).1).trans g1
    replace g2 := (hb3'.block _ (Array.getElem?_eq_some_iff.1 g2).1).trans g2
    replace k0 := blkC g0 0 rfl
    replace k1 := blkC g0 1 rfl
    replace k2 := blkC g0 2 rfl
    replace j0 := blkC g1 0 rfl
    replace j1 := blkC g1 1 rfl
    replace j2 := blkC g1 2 rfl
    have hs3 := (Array.getElem?_eq_some_iff.1 g2).1
    by_cases hAB : B ≤ A
    · have ho : (0 : Int) ≤ ord A B := by
        rcases Int.lt_trichotomy A B with h | h | h
        · omega
        · rw [ord_eq h]; decide
        · rw [ord_gt h]; decide
      have C1 : ∀ W, Below w3.heap.size w3 W → Calls Tryd.prog 90 #[.slice po pn pc, .slice qo qn qc] W fun r w' => ∃ so sn sc, r = .returned (.slice so sn sc) ∧ Num w' (.slice so sn sc) (A - B) ∧ Below W.heap.size W w' := fun W h => H5 W _ _ (hP.keeps h) (hQ.keeps h) hAB
      have C2 : ∀ W so sn sc, Num W (.slice so sn sc) (A - B) → Calls Tryd.prog 71 #[.bool an, .slice so sn sc, .int .i64 low] W fun r w' => ∃ ng s1 s2 s3 e1, r = .returned (.agg #[.bool ng, .slice s1 s2 s3, .int .i64 e1]) ∧ DAns W w' V (.agg #[.bool ng, .slice s1 s2 s3, .int .i64 e1]) ∧ Below W.heap.size W w' := fun W so sn sc hN => HH7.out W an _ _ hN (.inr (.inl ⟨hng, hAB, rfl, rfl⟩))
      generalize ord A B = oAB at ho ⊢
      clear H1 H2 H3 H4 H5 H6 HH7 hAB
      go_wp2_with fail
      have hb1 := bel_refl w3
      go_region_held3 (fun W => (W.cell? ⟨w.heap.size, 0, none⟩ = some (.bool an) ∧ W.cell? ⟨w.heap.size, 1, none⟩ = some (.slice ao n ca) ∧ W.cell? ⟨w.heap.size, 2, none⟩ = some (.int .i64 e)) ∧ W.cell? ⟨w.heap.size + 1, 0, none⟩ = some (.bool bn) ∧ W.cell? ⟨w.heap.size + 1, 1, none⟩ = some (.slice bo m cb) ∧ W.cell? ⟨w.heap.size + 1, 2, none⟩ = some (.int .i64 f))
        (first | assumption | exact ⟨⟨k0, k1, k2⟩, j0, j1, j2⟩ | exact keep66 (W := w3.drew) hbv1 ⟨⟨k0, k1, k2⟩, j0, j1, j2⟩ | exact keep66 hbv2 (keep66 (W := w3.drew) hbv1 ⟨⟨k0, k1, k2⟩, j0, j1, j2⟩) | exact ⟨keepS (keep66 hbv2 (keep66 (W := w3.drew) hbv1 ⟨⟨k0, k1, k2⟩, j0, j1, j2⟩)).1 (by omega) _ _ _, keepS (keep66 hbv2 (keep66 (W := w3.drew) hbv1 ⟨⟨k0, k1, k2⟩, j0, j1, j2⟩)).2 (by omega) _ _ _⟩)
        (first | (go_at_call 71; refine (C2 _ _ _ _ hv1).mono ?_; rintro y w4 ⟨ng4, o4, n4, c4, e4, rfl, hv2, hbv2⟩; have q0 := ((bel_trans hbv1 hbv2).block (w.heap.size + 2) (by show _ < w3.heap.size; omega)).trans g2; have x0 := blkC q0 0 rfl; have x1 := blkC q0 1 rfl; have x2 := blkC q0 2 rfl; have z0 := blkF q0 0; have z1 := blkF q0 1; have z2 := blkF q0 2) | (go_at_call 90; refine (C1 _ hb1.drew).mono ?_; rintro y w3' ⟨so, sn, sc, rfl, hv1, hbv1⟩))
      all_goals go_wp2
      all_goals
        refine bodyPost_ret (v := .agg #[.bool ng4, .slice o4 n4 c4, .int .i64 e4]) (by simp [results, Tryd.results48, go_sem, x0, x1, x2]) rfl ⟨_, rfl, ?_⟩
        exact dans_res3 (g := w.heap.size + 2) hv2 (bel_trans hbx3 (bel_trans hb1.drew hbv1)) (by omega) (Nat.lt_of_lt_of_le (show _ < w3.heap.size by omega) hbv1.size) _ _ _
    · have ho : ord A B < (0 : Int) := by rw [ord_lt (by omega)]; decide
      have C1 : ∀ W, Below w3.heap.size w3 W → Calls Tryd.prog 90 #[.slice qo qn qc, .slice po pn pc] W fun r w' => ∃ so sn sc, r = .returned (.slice so sn sc) ∧ Num w' (.slice so sn sc) (B - A) ∧ Below W.heap.size W w' := fun W h => H6 W _ _ (hP.keeps h) (hQ.keeps h) (by omega)
      have C2 : ∀ W so sn sc, Num W (.slice so sn sc) (B - A) → Calls Tryd.prog 71 #[.bool bn, .slice so sn sc, .int .i64 low] W fun r w' => ∃ ng s1 s2 s3 e1, r = .returned (.agg #[.bool ng, .slice s1 s2 s3, .int .i64 e1]) ∧ DAns W w' V (.agg #[.bool ng, .slice s1 s2 s3, .int .i64 e1]) ∧ Below W.heap.size W w' := fun W so sn sc hN => HH7.out W bn _ _ hN (.inr (.inr ⟨hng, by omega, rfl, rfl⟩))
      generalize ord A B = oAB at ho ⊢
      clear H1 H2 H3 H4 H5 H6 HH7 hAB
      go_wp2_with fail
      have hb1 := bel_refl w3
      go_region_held3 (fun W => (W.cell? ⟨w.heap.size, 0, none⟩ = some (.bool an) ∧ W.cell? ⟨w.heap.size, 1, none⟩ = some (.slice ao n ca) ∧ W.cell? ⟨w.heap.size, 2, none⟩ = some (.int .i64 e)) ∧ W.cell? ⟨w.heap.size + 1, 0, none⟩ = some (.bool bn) ∧ W.cell? ⟨w.heap.size + 1, 1, none⟩ = some (.slice bo m cb) ∧ W.cell? ⟨w.heap.size + 1, 2, none⟩ = some (.int .i64 f))
        (first | assumption | exact ⟨⟨k0, k1, k2⟩, j0, j1, j2⟩ | exact keep66 (W := w3.drew) hbv1 ⟨⟨k0, k1, k2⟩, j0, j1, j2⟩ | exact keep66 hbv2 (keep66 (W := w3.drew) hbv1 ⟨⟨k0, k1, k2⟩, j0, j1, j2⟩) | exact ⟨keepS (keep66 hbv2 (keep66 (W := w3.drew) hbv1 ⟨⟨k0, k1, k2⟩, j0, j1, j2⟩)).1 (by omega) _ _ _, keepS (keep66 hbv2 (keep66 (W := w3.drew) hbv1 ⟨⟨k0, k1, k2⟩, j0, j1, j2⟩)).2 (by omega) _ _ _⟩)
        (first | (go_at_call 71; refine (C2 _ _ _ _ hv1).mono ?_; rintro y w4 ⟨ng4, o4, n4, c4, e4, rfl, hv2, hbv2⟩; have q0 := ((bel_trans hbv1 hbv2).block (w.heap.size + 2) (by show _ < w3.heap.size; omega)).trans g2; have x0 := blkC q0 0 rfl; have x1 := blkC q0 1 rfl; have x2 := blkC q0 2 rfl; have z0 := blkF q0 0; have z1 := blkF q0 1; have z2 := blkF q0 2) | (go_at_call 90; refine (C1 _ hb1.drew).mono ?_; rintro y w3' ⟨so, sn, sc, rfl, hv1, hbv1⟩))
      all_goals go_wp2
      all_goals
        refine bodyPost_ret (v := .agg #[.bool ng4, .slice o4 n4 c4, .int .i64 e4]) (by simp [results, Tryd.results48, go_sem, x0, x1, x2]) rfl ⟨_, rfl, ?_⟩
        exact dans_res3 (g := w.heap.size + 2) hv2 (bel_trans hbx3 (bel_trans hb1.drew hbv1)) (by omega) (Nat.lt_of_lt_of_le (show _ < w3.heap.size by omega) hbv1.size) _ _ _
/-- Two numbers brought to one exponent. -/
theorem rsum_V {an bn : Bool} {A B low : Int} {ng : Bool} {M : Int} (h : (an = bn ∧ ng = an ∧ M = A + B) ∨ (an ≠ bn ∧ B ≤ A ∧ ng = an ∧ M = A - B) ∨ (an ≠ bn ∧ A < B ∧ ng = bn ∧ M = B - A)) :
    sg ng M * pw low = sg an A * pw low + sg bn B * pw low := by
  rw [← Int.add_mul]
  congr 1
  rcases h with ⟨rfl, rfl, rfl⟩ | ⟨h1, h2, rfl, rfl⟩ | ⟨h1, h2, rfl, rfl⟩
  · cases ng <;> simp [sg] <;> omega
  · cases ng <;> cases bn <;> simp [sg] at * <;> omega
  · cases an <;> cases ng <;> simp [sg] at * <;> omega
theorem Num.digits {w : World} {so : Option Addr} {sn sc : Nat} {M : Int} (h : Num w (.slice so sn sc) M) {K : Nat} (hK : K ≤ 560000) (hM : M < 2 ^ (2 * K) + 2 ^ (2 * K)) : ∃ d, Row w so sn sc d ∧ Nrm d sn ∧ val d sn = M ∧ sn ≤ 37500 := by
  obtain ⟨ao, n, ca, d, e, hR, hN, hv⟩ := h
  simp only [Value.slice.injEq] at e
  obtain ⟨rfl, rfl, rfl⟩ := e
  refine ⟨d, hR, hN, hv, ?_⟩
  by_cases h1 : sn ≤ 37500
  · exact h1
  · exfalso
    have a := val_top hN.1 (by omega) hN.2
    have b := P_le (show 37500 ≤ sn - 1 by omega)
    have c : (2 : Int) ^ (2 * K) ≤ 2 ^ (30 * 37400) := two_le (by omega)
    have c2 : (2 : Int) ^ (30 * 37400) * 2 ≤ 2 ^ (30 * 37500) := by
      rw [← Int.pow_succ]
      exact two_le (by omega)
    rw [← P_two 37500] at c2
    generalize P 37500 = Y at *
    generalize (2 : Int) ^ (30 * 37400) = Z at *
    omega
theorem radd3_any (x y : NumR) (w : World) (hx : Row w x.ao x.n x.cap x.d) (hy : Row w y.ao y.n y.cap y.d) (dx : Dy x.V x.ng (val x.d x.n) x.e) (nx : Nrm x.d x.n) (dy : Dy y.V y.ng (val y.d y.n) y.e) (ny : Nrm y.d y.n) {K : Nat} (hK : K ≤ 560000) (bx : Bd K x.V) (bY : Bd K y.V) :
    Calls Tryd.prog 48 #[x.v, y.v] w fun r w' => ∃ v, r = .returned v ∧ RSum w w' x.V y.V x.v y.v v := by
  by_cases h0 : x.n = 0
  · refine (radd3_left x y w (Nat.le_trans hx.le hx.max) (Nat.le_trans hy.le hy.max) h0).mono ?_
    rintro r w' ⟨rfl, hb⟩
    exact ⟨_, rfl, hb, .inr (.inl ⟨dx.eq_zero.2 (by rw [h0]; rfl), rfl⟩)⟩
  · by_cases h1 : y.n = 0
    · refine (radd3_right x y w (Nat.le_trans hx.le hx.max) (Nat.le_trans hy.le hy.max) (by omega) h1).mono ?_
      rintro r w' ⟨rfl, hb⟩
      exact ⟨_, rfl, hb, .inr (.inr ⟨dy.eq_zero.2 (by rw [h1]; rfl), rfl⟩)⟩
    · have px := val_pos nx (show 0 < x.n by omega)
      have py := val_pos ny (show 0 < y.n by omega)
      obtain ⟨a1, a2, _⟩ := bd_form bx dx (by omega) px
      obtain ⟨b1, b2, _⟩ := bd_form bY dy (by omega) py
      obtain ⟨low, hlow⟩ : ∃ low : Int, low = min x.e y.e := ⟨_, rfl⟩
      have hl0 : -(K : Int) ≤ low := by omega
      have s1 := bd_shift bx dx (by omega) px hl0 (by omega)
      have s2 := bd_shift bY dy (by omega) py hl0 (by omega)
      have v1 := dx.at (low := low) (by omega) (by omega)
      have v2 := dy.at (low := low) (by omega) (by omega)
      have dgx := bd_digits hK nx (bd_self bx dx (by omega) px)
      have dgy := bd_digits hK ny (bd_self bY dy (by omega) py)
      have q1 : 0 ≤ val x.d x.n * 2 ^ (x.e - low).toNat := Int.mul_nonneg (by omega) (Int.le_of_lt (two_pos _))
      have q2 : 0 ≤ val y.d y.n * 2 ^ (y.e - low).toNat := Int.mul_nonneg (by omega) (Int.le_of_lt (two_pos _))
      have e1 : x.e - low = ((x.e - low).toNat : Int) := by omega
      have e2 : y.e - low = ((y.e - low).toNat : Int) := by omega
      have H1 : ∀ W, Below w.heap.size w W → Calls Tryd.prog 87 #[.slice x.ao x.n x.cap, .int .i64 (x.e - low)] W fun r w' => ∃ so sn sc, r = .returned (.slice so sn sc) ∧ Num w' (.slice so sn sc) (val x.d x.n * 2 ^ (x.e - low).toNat) ∧ Below W.heap.size W w' := fun W hb => by
        rw [e1]
        refine (rshl_any x.ao x.n x.cap _ x.d W (hx.keeps hb) nx.1 (by omega) (by omega)).mono ?_
        rintro r w' ⟨v, rfl, hA⟩
        obtain ⟨so, sn, sc, rfl⟩ := hA.num.shape
        exact ⟨so, sn, sc, rfl, by rw [← e1]; exact hA.num, hA.below⟩
      have H2 : ∀ W, Below w.heap.size w W → Calls Tryd.prog 87 #[.slice y.ao y.n y.cap, .int .i64 (y.e - low)] W fun r w' => ∃ so sn sc, r = .returned (.slice so sn sc) ∧ Num w' (.slice so sn sc) (val y.d y.n * 2 ^ (y.e - low).toNat) ∧ Below W.heap.size W w' := fun W hb => by
        rw [e2]
        refine (rshl_any y.ao y.n y.cap _ y.d W (hy.keeps hb) ny.1 (by omega) (by omega)).mono ?_
        rintro r w' ⟨v, rfl, hA⟩
        obtain ⟨so, sn, sc, rfl⟩ := hA.num.shape
        exact ⟨so, sn, sc, rfl, by rw [← e2]; exact hA.num, hA.below⟩
      generalize val x.d x.n * 2 ^ (x.e - low).toNat = A at *
      generalize val y.d y.n * 2 ^ (y.e - low).toNat = B at *
      have dg := fun W so sn sc M (h : Num W (.slice so sn sc) M) hM => h.digits hK hM
      have key : ∀ W p M, Num W p M → M < 2 ^ (2 * K) + 2 ^ (2 * K) → ∃ so sn sc d, p = .slice so sn sc ∧ Row W so sn sc d ∧ Nrm d sn ∧ val d sn = M ∧ sn ≤ 37500 := fun W p M h hM => by
        obtain ⟨so, sn, sc, rfl⟩ := h.shape
        obtain ⟨d, h1, h2, h3, h4⟩ := h.digits hK hM
        exact ⟨so, sn, sc, d, rfl, h1, h2, h3, h4⟩
      refine (radd3_walk x y w hx hy (by omega) (by omega) low A B (x.V + y.V) hlow (by omega) (by omega) (by omega) H1 H2 ?_ ?_ ?_ ?_ ?_).mono ?_
      · intro W p q hp hq
        obtain ⟨po, pn, pc, d, rfl, r1, r2, r3, r4⟩ := key W p A hp (by omega)
        obtain ⟨qo, qn, qc, d', rfl, u1, u2, u3, u4⟩ := key W q B hq (by omega)
        refine (radd_any _ _ _ _ _ _ d d' W r1 u1 r2 u2 (by omega) (by omega)).mono ?_
        rw [r3, u3]
        rintro r w' ⟨v, rfl, hA⟩
        obtain ⟨so, sn, sc, rfl⟩ := hA.num.shape
        exact ⟨so, sn, sc, rfl, hA.num, hA.below⟩
      · intro W p q hp hq
        obtain ⟨po, pn, pc, d, rfl, r1, r2, r3, r4⟩ := key W p A hp (by omega)
        obtain ⟨qo, qn, qc, d', rfl, u1, u2, u3, u4⟩ := key W q B hq (by omega)
        have := rcmp_any po qo pn qn pc qc d d' W r1 u1 r2 u2
        rwa [r3, u3] at this
      · intro W p q hp hq hle
        obtain ⟨po, pn, pc, d, rfl, r1, r2, r3, r4⟩ := key W p A hp (by omega)
        obtain ⟨qo, qn, qc, d', rfl, u1, u2, u3, u4⟩ := key W q B hq (by omega)
        refine (rsub_any _ _ _ _ _ _ d d' W r1 u1 r2 u2 (by omega) (by rw [r3, u3]; exact hle)).mono ?_
        rw [r3, u3]
        rintro r w' ⟨v, rfl, hA⟩
        obtain ⟨so, sn, sc, rfl⟩ := hA.num.shape
        exact ⟨so, sn, sc, rfl, hA.num, hA.below⟩
      · intro W p q hp hq hle
        obtain ⟨po, pn, pc, d, rfl, r1, r2, r3, r4⟩ := key W p A hp (by omega)
        obtain ⟨qo, qn, qc, d', rfl, u1, u2, u3, u4⟩ := key W q B hq (by omega)
        refine (rsub_any _ _ _ _ _ _ d' d W u1 r1 u2 r2 (by omega) (by rw [r3, u3]; exact hle)).mono ?_
        rw [r3, u3]
        rintro r w' ⟨v, rfl, hA⟩
        obtain ⟨so, sn, sc, rfl⟩ := hA.num.shape
        exact ⟨so, sn, sc, rfl, hA.num, hA.below⟩
      · intro W ng s M hs hc
        have hM : M < 2 ^ (2 * K) + 2 ^ (2 * K) := by rcases hc with ⟨_, _, h⟩ | ⟨_, _, _, h⟩ | ⟨_, _, _, h⟩ <;> omega
        obtain ⟨po, pn, pc, d, rfl, r1, r2, r3, r4⟩ := key W s M hs hM
        have hV := rsum_V (low := low) hc
        rw [← v1, ← v2] at hV
        refine (rnorm_any ng po pn pc d low W r1 r2.1 (by omega) (by omega) (by omega)).mono ?_
        rw [r3, hV]
        rintro r w' ⟨v, rfl, hD⟩
        obtain ⟨ng', s, m', e1, rfl, _, hA⟩ := id hD
        obtain ⟨q1, q2, q3, rfl⟩ := hA.num.shape
        exact ⟨ng', q1, q2, q3, e1, rfl, hD, hD.below⟩
      · rintro r w' ⟨v, rfl, hD⟩
        exact ⟨v, rfl, hD.below, .inl hD⟩
/-- A sum, by its worth. -/
theorem radd_D {w : World} {x y : Value} {A B : Int} (hx : DNum w x A) (hy : DNum w y B) {K : Nat} (hK : K ≤ 560000) (bx : Bd K A) (bY : Bd K B) :
    Calls Tryd.prog 48 #[x, y] w fun r w' => ∃ v, r = .returned v ∧ RSum w w' A B x y v := by
  obtain ⟨ng, s, m, e, rfl, dx, ao, n, cap, d, rfl, hR, hN, rfl⟩ := hx
  obtain ⟨ng', s', m', e', rfl, dy, ao', n', cap', d', rfl, hR', hN', rfl⟩ := hy
  obtain rfl : A = (⟨ng, ao, n, cap, d, e⟩ : NumR).V := dx.val
  obtain rfl : B = (⟨ng', ao', n', cap', d', e'⟩ : NumR).V := dy.val
  exact radd3_any ⟨ng, ao, n, cap, d, e⟩ ⟨ng', ao', n', cap', d', e'⟩ w hR hR' dx hN dy hN' hK bx bY
end Go.Proofs.YtkieaijmjpckdaaDoor

/-
  Sums and products of lists of numbers of one's own, by their worth.
-/
namespace Go.Proofs.YtkieaijmjpckdaaDoor
open Go Go.RowKit Go.Proofs.YtkieaijmjpckdaaDoor.M
set_option linter.unusedSimpArgs false
set_option linter.unusedVariables false

def sumF (V : Nat → Int) : Nat → Int | 0 => 0 | m + 1 => sumF V m + V m
theorem sumF_congr {V W : Nat → Int} : ∀ m, (∀ i, i < m → V i = W i) → sumF V m = sumF W m
  | 0, _ => rfl
  | m + 1, h => by rw [sumF, sumF, sumF_congr m fun i hi => h i (by omega), h m (by omega)]
theorem sumF_front (V : Nat → Int) : ∀ m, sumF V (m + 1) = V 0 + sumF (fun i => V (i + 1)) m
  | 0 => by show 0 + V 0 = V 0 + 0; omega
  | m + 1 => by
    have h := sumF_front V m
    show sumF V (m + 1) + V (m + 1) = V 0 + (sumF (fun i => V (i + 1)) m + V (m + 1))
    omega
theorem sumF_rev : ∀ (m : Nat) (V : Nat → Int), sumF (fun i => V (m - 1 - i)) m = sumF V m
  | 0, V => rfl
  | m + 1, V => by
    rw [sumF_front]
    have h1 : sumF (fun i => V (m + 1 - 1 - (i + 1))) m = sumF V m := by
      rw [← sumF_rev m V]
      exact sumF_congr m fun i hi => by congr 1; omega
    rw [h1]
    show V (m + 1 - 1 - 0) + sumF V m = sumF V m + V m
    rw [show m + 1 - 1 - 0 = m by omega]
    omega
theorem sumF_mul (V : Nat → Int) (c : Int) : ∀ m, sumF (fun i => V i * c) m = sumF V m * c
  | 0 => by show (0 : Int) = 0 * c; omega
  | m + 1 => by
    show sumF (fun i => V i * c) m + V m * c = (sumF V m + V m) * c
    rw [sumF_mul V c m, Int.add_mul]
theorem sumF_sq (V : Nat → Int) : ∀ m, 0 ≤ sumF (fun i => V i * V i) m
  | 0 => Int.le_refl _
  | m + 1 => by
    have h := sumF_sq V m
    have h2 : 0 ≤ V m * V m := by
      rcases Int.le_total 0 (V m) with h | h
      · exact Int.mul_nonneg h h
      · have := Int.mul_nonneg (show 0 ≤ -V m by omega) (show 0 ≤ -V m by omega)
        rwa [Int.neg_mul_neg] at this
    show 0 ≤ sumF (fun i => V i * V i) m + V m * V m
    omega
theorem bd_zero (K : Nat) : Bd K 0 := ⟨0, by rw [Int.zero_mul], by have := two_pos (2 * K); omega, by have := two_pos (2 * K); omega⟩
theorem bd_sumF {V : Nat → Int} {K : Nat} (hK : K ≤ 20000) : ∀ m, m ≤ 1000 → (∀ i, i < m → Bd K (V i)) → Bd (K + m) (sumF V m)
  | 0, _, _ => bd_zero _
  | m + 1, hm, h => (bd_sumF hK m (by omega) fun i hi => h i (by omega)).add ((h m (by omega)).up (by omega) (by omega)) (by omega)
theorem pw_zero : pw 0 = 2 ^ 4194304 := by unfold pw; congr 1
/-- The numbers of a list, as they are read. -/
theorem own_nums {B : Nat} {w : World} {x : Value} {m K : Nat} {f : Nat → Value} {V : Nat → Int} (h : OutN B w x m f) (hv : ∀ i, i < m → DNum w (f i) (V i) ∧ Bd K (V i)) (hm : m ≤ 1000) (hK : K ≤ 20000) :
    ∃ xo xc r, x = .slice xo m xc ∧ Nums w xo m xc r ∧ allOk r m = true ∧ (∀ i, i < m → (r i).V = V i ∧ Half (r i) ∧ okR (r i) = true) := by
  have hx : ∀ i, i < m → ∃ y : NumR, f i = y.v ∧ Row w y.ao y.n y.cap y.d ∧ okR y = true ∧ y.V = V i := fun i hi => (hv i hi).1.open ((hv i hi).2.ok (by omega))
  obtain ⟨xo, xc, rfl, hle, hsp⟩ := h.shape
  have hr : ∀ i, i < m → f i = (if hi : i < m then Classical.choose (hx i hi) else default : NumR).v ∧ Row w (if hi : i < m then Classical.choose (hx i hi) else default : NumR).ao (if hi : i < m then Classical.choose (hx i hi) else default : NumR).n (if hi : i < m then Classical.choose (hx i hi) else default : NumR).cap (if hi : i < m then Classical.choose (hx i hi) else default : NumR).d ∧ okR (if hi : i < m then Classical.choose (hx i hi) else default : NumR) = true ∧ (if hi : i < m then Classical.choose (hx i hi) else default : NumR).V = V i := fun i hi => by
    rw [dif_pos hi]
    exact Classical.choose_spec (hx i hi)
  generalize hrr : (fun i => (if hi : i < m then Classical.choose (hx i hi) else default : NumR)) = r
  have hr2 : ∀ i, i < m → f i = (r i).v ∧ Row w (r i).ao (r i).n (r i).cap (r i).d ∧ okR (r i) = true ∧ (r i).V = V i := fun i hi => by rw [← hrr]; exact hr i hi
  obtain ⟨_, _, hN⟩ := h.nums (r := r) (by omega) fun i hi => ⟨(hr2 i hi).1, (hr2 i hi).2.1⟩
  refine ⟨xo, xc, r, rfl, hN, decide_eq_true fun i hi => (hr2 i hi).2.2.1, fun i hi => ⟨(hr2 i hi).2.2.2, ?_, (hr2 i hi).2.2.1⟩⟩
  obtain ⟨_, _, h3, h4⟩ := hr2 i hi
  have hy := (okR_dy h3).1
  unfold Half
  rcases hy.form with ⟨_, _, h0⟩ | ⟨h0, _⟩
  · omega
  · rw [h4] at hy
    have := bd_form (hv i hi).2 hy (by omega) h0
    omega
theorem sumV_F {r : Nat → NumR} {V : Nat → Int} : ∀ m, (∀ i, i < m → (r i).V = V i) → sumV r m = sumF V m
  | 0, _ => rfl
  | m + 1, h => by
    show sumV r m + (r m).V = sumF V m + V m
    rw [sumV_F m fun i hi => h i (by omega), h m (by omega)]
theorem dotV_F {a b : Nat → NumR} {V W : Nat → Int} : ∀ m, (∀ i, i < m → (a i).V = V i ∧ Half (a i)) → (∀ i, i < m → (b i).V = W i ∧ Half (b i)) → dotV a b m * 2 ^ 4194304 = sumF (fun i => V i * W i) m
  | 0, _, _ => by show 0 * _ = (0 : Int); rw [Int.zero_mul]
  | m + 1, h, k => by
    have h1 := h m (by omega)
    have k1 := k m (by omega)
    unfold Half at h1 k1
    show (dotV a b m + mulV (a m) (b m)) * 2 ^ 4194304 = sumF (fun i => V i * W i) m + V m * W m
    rw [Int.add_mul, dotV_F m (fun i hi => h i (by omega)) (fun i hi => k i (by omega)), mulV_eq (by omega) (by omega), h1.1, k1.1]
theorem bd_dotV {a b : Nat → NumR} {V W : Nat → Int} {K : Nat} (hK : K ≤ 10000) : ∀ m, m ≤ 1000 → (∀ i, i < m → (a i).V = V i ∧ Half (a i) ∧ Bd K (V i)) → (∀ i, i < m → (b i).V = W i ∧ Half (b i) ∧ Bd K (W i)) → Bd (2 * K + m) (dotV a b m)
  | 0, _, _, _ => bd_zero _
  | m + 1, hm, h, k => by
    obtain ⟨h1, h2, h3⟩ := h m (by omega)
    obtain ⟨k1, k2, k3⟩ := k m (by omega)
    unfold Half at h2 k2
    have e := mulV_eq (x := a m) (y := b m) (by omega) (by omega)
    rw [h1, k1] at e
    exact (bd_dotV hK m (by omega) (fun i hi => h i (by omega)) (fun i hi => k i (by omega))).add ((h3.mul k3 e (by omega)).up (by omega) (by omega)) (by omega)
theorem sum_own {B : Nat} {w : World} {x : Value} {m K : Nat} {f : Nat → Value} {V : Nat → Int} (h : OutN B w x m f) (hv : ∀ i, i < m → DNum w (f i) (V i) ∧ Bd K (V i)) (hm : m ≤ 1000) (hK : K ≤ 20000) (hT : Tab w) :
    Calls Tryd.prog 18 #[x] w fun r w' => ∃ v, r = .returned (.tuple #[v, .int .i64 0]) ∧ DAns w w' (sumF V m) v := by
  obtain ⟨xo, xc, r, rfl, hN, hA, hr⟩ := own_nums h hv hm hK
  refine (dsum_ok xo m xc r w hN hA (by omega) hT).mono ?_
  rw [sumV_F m fun i hi => (hr i hi).1]
  rintro y w' ⟨v, er, rfl, hF⟩
  obtain ⟨rfl, hD⟩ := hF.yes ((bd_sumF hK m hm fun i hi => (hv i hi).2).ok (by omega))
  exact ⟨v, rfl, hD⟩
theorem dot_own {B B' : Nat} {w : World} {x y : Value} {m K : Nat} {f f' : Nat → Value} {V W : Nat → Int} (h : OutN B w x m f) (hv : ∀ i, i < m → DNum w (f i) (V i) ∧ Bd K (V i)) (h' : OutN B' w y m f') (hv' : ∀ i, i < m → DNum w (f' i) (W i) ∧ Bd K (W i)) (hm : m ≤ 1000) (hK : K ≤ 10000) (hT : Tab w) :
    Calls Tryd.prog 19 #[x, y] w fun r w' => ∃ v D, r = .returned (.tuple #[v, .int .i64 0]) ∧ DAns w w' D v ∧ D * 2 ^ 4194304 = sumF (fun i => V i * W i) m ∧ Dok D := by
  obtain ⟨xo, xc, r, rfl, hN, hA, hr⟩ := own_nums h hv hm (by omega)
  obtain ⟨yo, yc, q, rfl, hN', hA', hq⟩ := own_nums h' hv' hm (by omega)
  refine (ddot_ok xo yo m xc yc r q w hN hN' hA hA' (fun i hi => (hr i hi).2.1) (fun i hi => (hq i hi).2.1) (by omega) hT).mono ?_
  rintro z w' ⟨v, er, rfl, hF⟩
  have hb := bd_dotV hK m hm (fun i hi => ⟨(hr i hi).1, (hr i hi).2.1, (hv i hi).2⟩) (fun i hi => ⟨(hq i hi).1, (hq i hi).2.1, (hv' i hi).2⟩)
  obtain ⟨rfl, hD⟩ := hF.yes (hb.ok (by omega))
  exact ⟨v, _, rfl, hD, dotV_F m (fun i hi => ⟨(hr i hi).1, (hr i hi).2.1⟩) (fun i hi => ⟨(hq i hi).1, (hq i hi).2.1⟩), hb.ok (by omega)⟩
end Go.Proofs.YtkieaijmjpckdaaDoor

/-
  What a row gives: a list of numbers that came in, as the walks want it.
-/
namespace Go.Proofs.YtkieaijmjpckdaaDoor
open Go Go.ChangeShapes Go.WideShapes Go.ChangeAt Go.RowKit Go.Proofs.YtkieaijmjpckdaaDoor.M
set_option linter.unusedSimpArgs false
set_option linter.unusedVariables false

/-- A list of numbers that came in. -/
def IsNums (W : World) (a : Option Addr) (len cap : Nat) (r : Nat → NumR) : Prop := Nums W a len cap r ∧ ∀ i, i < len → rng (r i).e
set_option maxRecDepth 100000 in
theorem nums_of {H : Type} {enc : TypeId × Value → H} {W : World} {fuel : Nat} {a : Option Addr} {len cap : Nat} {x : DataW H × List MemPlace}
    (h : DataW.trod enc Tryd.prog W 0 (fun _ => true) true fuel 35 [.slice a len cap] = some x) (hw : ∀ n ∈ x.1.weights Tryd.prog 35, n ≤ reachBytes) : ∃ r, IsNums W a len cap r := by
  rcases Deep.open_slice Tryd.underlying35 h with ⟨hcs, _⟩ | ⟨p, l, c, m, n, D, Pl, hcs, _, hl, hm, hmm, hx, hel⟩
  · simp at hcs
    obtain ⟨rfl, rfl, rfl⟩ := hcs
    exact ⟨fun _ => default, ⟨Nat.le_refl _, by decide, fun h => by omega⟩, fun i hi => by omega⟩
  · simp at hcs
    obtain ⟨rfl, rfl, rfl⟩ := hcs
    simp only [if_true] at hmm
    subst hmm
    unfold maxLen at hm
    by_cases h0 : len = 0
    · exact ⟨fun _ => default, ⟨hl, by omega, fun h => by omega⟩, fun i hi => by omega⟩
    have each : ∀ i, i < len → ∃ r : NumR, W.cells? 0 (p.add (i * 3)) 3 = some [.bool r.ng, .slice r.ao r.n r.cap, .int .i64 r.e] ∧ Row W r.ao r.n r.cap r.d ∧ rng r.e := by
      intro i hi
      obtain ⟨cs', h1, h2⟩ := hel i (by omega)
      rw [cellsNum] at h1
      obtain ⟨r, rfl, hr⟩ := num_cells h2
      exact ⟨r, h1, hr⟩
    obtain ⟨q, hq⟩ := Deep.choose_lt each
    have cell : ∀ i j, i < len → j < 3 → W.cell? ((p.add (i * 3)).add j) = ([.bool (q i).ng, .slice (q i).ao (q i).n (q i).cap, .int .i64 (q i).e] : List Value)[j]? := by
      intro i j hi hj
      exact (World.cells?_some (hq i hi).1).2.2 j hj
    obtain ⟨b, off, spot⟩ := p
    have h2 : W.cell? ⟨b, off, spot⟩ = some (.bool (q 0).ng) := by simpa [Addr.add] using cell 0 0 (by omega) (by omega)
    have hspot : spot = none := World.cell?_spot h2
    subst hspot
    refine ⟨q, ⟨hl, by omega, fun _ => ⟨b, off, rfl, World.block_lt_of_cell? W _ h2, fun i hi => ?_⟩⟩, fun i hi => (hq i hi).2.2⟩
    have x0 := cell i 0 hi (by omega)
    have x1 := cell i 1 hi (by omega)
    have x2 := cell i 2 hi (by omega)
    rw [add_none, add_none] at x0 x1 x2
    exact ⟨x0, x1, x2, (hq i hi).2.1⟩
end Go.Proofs.YtkieaijmjpckdaaDoor
