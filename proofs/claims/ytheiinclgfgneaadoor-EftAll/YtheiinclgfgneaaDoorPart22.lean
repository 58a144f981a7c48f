/-
  Parts of the proof, one behind another.
-/
import Derived.Test.YtheiinclgfgneaaDoorPart21
import Derived.Test.YtheiinclgfgneaaDoorPart19
import Derived.Test.YtheiinclgfgneaaDoorPart18
import Derived.Test.YtheiinclgfgneaaDoorPart7
import Derived.Laws.MakeOwn
import Derived.Test.YtheiinclgfgneaaDoorPart20
/-
  The model's sum of two words, on patterns.
-/
namespace Go.Proofs.YtheiinclgfgneaaDoor
open Go Go.RowKit Go.Proofs.YtheiinclgfgneaaDoor.M Ieee
set_option linter.unusedSimpArgs false
set_option linter.unusedVariables false

theorem nan_canon : cls 9221120237041090561 = 4 := by decide
theorem FW.nan {x : Nat} (h : NanW x) : FW 9221120237041090561 x := .inr ⟨rfl, h⟩
theorem FW.pat {p : Int} (h : cls p ≠ 4) (hp : rng p) : FW p (wd p) := .inl ⟨h, hp, rfl⟩
theorem FW.read_nan {p : Int} {x : Nat} (h : FW p x) (h4 : cls p = 4) : ∃ s t, Ieee.double.read x = .nan s t := by
  rcases h with ⟨h, _⟩ | ⟨_, h⟩
  · exact absurd h4 h
  · exact M.read_nan Ieee.double dOk x (by rw [dSign, dInf]; exact h.2)
theorem FW.of {p : Int} {x : Nat} (h : FW p x) (h4 : cls p ≠ 4) : rng p ∧ x = wd p ∧ 0 ≤ rg p ∧ rg p ≤ 9218868437227405312 := by
  rcases h with ⟨_, h1, h2⟩ | ⟨h, _⟩
  · obtain ⟨r0, _⟩ := rg_parts h1
    refine ⟨h1, h2, r0, ?_⟩
    rcases Int.lt_or_le 9218868437227405312 (rg p) with g | g
    · exact absurd ((cls_rg h1).1.2 g) h4
    · exact g
  · rw [h] at h4; exact absurd nan_canon h4
theorem nearP_pat {S : Int} (h : S ≠ 0) : rng (nearP S) ∧ cls (nearP S) ≠ 4 := by
  obtain ⟨A, r0, left, _, _, e⟩ := nearP_rung h
  rw [e]
  obtain ⟨g1, g2⟩ := rTo_range 0 (decide (S < 0)) r0 left
  exact patS_rng g1 g2
/-- The words' sum, on patterns. -/
theorem add_FW {p q : Int} {x y : Nat} (hx : FW p x) (hy : FW q y) : (∃ z, Ieee.double.add x y = some z ∧ FW (fsum p q) z) ∨ (Ieee.double.add x y = none ∧ fsum p q = 9221120237041090561) := by
  by_cases h4 : cls p = 4 ∨ cls q = 4
  · right
    refine ⟨?_, by unfold fsum; rw [if_pos h4]⟩
    unfold Format.add
    rcases h4 with h | h
    · obtain ⟨s, t, e⟩ := hx.read_nan h
      rw [e]
      rfl
    · obtain ⟨s, t, e⟩ := hy.read_nan h
      rw [e]
      cases Ieee.double.read x <;> rfl
  · have h4p : cls p ≠ 4 := fun h => h4 (.inl h)
    have h4q : cls q ≠ 4 := fun h => h4 (.inr h)
    obtain ⟨rp, rfl, p0, p1⟩ := hx.of h4p
    obtain ⟨rq, rfl, q0, q1⟩ := hy.of h4q
    unfold fsum
    rw [if_neg h4]
    by_cases ip : rg p = 9218868437227405312
    · rw [if_pos ip]
      have ep := read_inf64 rp ip
      by_cases iq : rg q = 9218868437227405312
      · have eq := read_inf64 rq iq
        by_cases hs : decide (p < 0) = decide (q < 0)
        · left
          refine ⟨wd p, ?_, ?_⟩
          · unfold Format.add
            rw [ep, eq]
            unfold Datum.sum
            dsimp only
            rw [if_pos hs]
            show some (Ieee.double.write (.infinity (decide (p < 0)))) = _
            rw [write_inf64 rp ip]
          · rw [if_neg (fun h => h.2 hs)]
            exact FW.pat h4p rp
        · right
          refine ⟨?_, by rw [if_pos ⟨iq, hs⟩]⟩
          unfold Format.add
          rw [ep, eq]
          unfold Datum.sum
          dsimp only
          rw [if_neg hs]
          rfl
      · left
        obtain ⟨m, u, eq, _⟩ := read_wd rq ((pok_rg rq).2 (by omega))
        refine ⟨wd p, ?_, ?_⟩
        · unfold Format.add
          rw [ep, eq]
          show some (Ieee.double.write (.infinity (decide (p < 0)))) = _
          rw [write_inf64 rp ip]
        · rw [if_neg (fun h => iq h.1)]
          exact FW.pat h4p rp
    · rw [if_neg ip]
      have pp := (pok_rg rp).2 (by omega)
      by_cases iq : rg q = 9218868437227405312
      · left
        rw [if_pos iq]
        have eq := read_inf64 rq iq
        obtain ⟨m, u, ep, _⟩ := read_wd rp pp
        refine ⟨wd q, ?_, FW.pat h4q rq⟩
        unfold Format.add
        rw [ep, eq]
        show some (Ieee.double.write (.infinity (decide (q < 0)))) = _
        rw [write_inf64 rq iq]
      · left
        rw [if_neg iq]
        refine ⟨_, fadd_fin rp rq pp ((pok_rg rq).2 (by omega)), ?_⟩
        by_cases hS : patV p + patV q = 0
        · rw [if_pos hS]
          obtain ⟨g1, g2⟩ := patS_rng (ng := decide (p < 0) && decide (q < 0)) (r := 0) (by decide) (by decide)
          exact FW.pat g2 g1
        · rw [if_neg hS]
          exact FW.pat (nearP_pat hS).2 (nearP_pat hS).1
/-- The model's sum. -/
theorem run_fsum {P : Program} (t : TypeId) {p q : Int} {x y : Nat} (hx : FW p x) (hy : FW q y) (w : World) :
    ∃ z w', (binOp .add t (.float .f64 x) (.float .f64 y)).run P w = .ok (.float .f64 z) w' ∧ FW (fsum p q) z ∧ (w' = w ∨ w' = w.drew) := by
  obtain ⟨z, w', h, hz⟩ := run_farith (P := P) .add (.inl rfl) t x y w
  refine ⟨z, w', h, ?_⟩
  have hf : floatBits .add .f64 x y = Ieee.double.add x y := rfl
  rw [hf] at hz
  rcases add_FW hx hy with ⟨z', e1, e2⟩ | ⟨e1, e2⟩
  · rcases hz with ⟨h1, h2⟩ | ⟨h1, _⟩
    · rw [e1] at h1; cases h1; exact ⟨e2, .inl h2⟩
    · rw [e1] at h1; cases h1
  · rcases hz with ⟨h1, _⟩ | ⟨_, h2, h3⟩
    · rw [e1] at h1; cases h1
    · rw [e2]; exact ⟨FW.nan h2, .inr h3⟩
end Go.Proofs.YtheiinclgfgneaaDoor

/-
  The model's difference and product of two words, on patterns.
-/
namespace Go.Proofs.YtheiinclgfgneaaDoor
open Go Go.RowKit Go.Proofs.YtheiinclgfgneaaDoor.M Ieee
set_option linter.unusedSimpArgs false
set_option linter.unusedVariables false

theorem read_same {x y : Nat} (h1 : x % Ieee.double.signWeight = y % Ieee.double.signWeight) (h2 : (x / Ieee.double.signWeight % 2 == 1) = !(y / Ieee.double.signWeight % 2 == 1)) : Ieee.double.read x = (Ieee.double.read y).opposite := by
  unfold Format.read
  dsimp only
  rw [h1, h2]
  split
  · rfl
  · split
    · rfl
    · split
      · rfl
      · rfl
theorem read_neg {q : Int} (hq : rng q) (h4 : cls q ≠ 4) : Ieee.double.read (wd (neg q)) = (Ieee.double.read (wd q)).opposite := by
  have hn : neg q = if q < 0 then q + 9223372036854775808 else q - 9223372036854775808 := by unfold neg; rw [if_neg h4]
  refine read_same ?_ ?_
  · rw [dSign, hn]
    unfold rng at hq
    unfold wd
    split <;> omega
  · rw [dSign, wd_neg (rng_neg hq), wd_neg hq, hn]
    unfold rng at hq
    by_cases h : q < 0
    · rw [if_pos h, decide_eq_false (p := q + 9223372036854775808 < 0) (by omega), decide_eq_true h]; rfl
    · rw [if_neg h, decide_eq_true (p := q - 9223372036854775808 < 0) (by omega), decide_eq_false h]; rfl
theorem neg_nan {q : Int} (h : cls q = 4) : neg q = 9221120237041090561 := by unfold neg; rw [if_pos h]
/-- The difference is the sum with the other sign. -/
theorem sub_FW {p q : Int} {x y : Nat} (hx : FW p x) (hy : FW q y) : (∃ z, Ieee.double.sub x y = some z ∧ FW (fsum p (neg q)) z) ∨ (Ieee.double.sub x y = none ∧ fsum p (neg q) = 9221120237041090561) := by
  by_cases h4 : cls q = 4
  · right
    refine ⟨?_, by unfold fsum; rw [neg_nan h4, if_pos (.inr nan_canon)]⟩
    obtain ⟨s, t, e⟩ := hy.read_nan h4
    unfold Format.sub
    rw [e]
    cases Ieee.double.read x <;> rfl
  · obtain ⟨rq, rfl, _, _⟩ := hy.of h4
    have hs : Ieee.double.sub x (wd q) = Ieee.double.add x (wd (neg q)) := by
      unfold Format.sub Format.add
      rw [read_neg rq h4]
    rw [hs]
    exact add_FW hx (FW.pat (cls_neg rq h4) (rng_neg rq))
theorem run_fdiff {P : Program} (t : TypeId) {p q : Int} {x y : Nat} (hx : FW p x) (hy : FW q y) (w : World) :
    ∃ z w', (binOp .sub t (.float .f64 x) (.float .f64 y)).run P w = .ok (.float .f64 z) w' ∧ FW (fsum p (neg q)) z ∧ (w' = w ∨ w' = w.drew) := by
  obtain ⟨z, w', h, hz⟩ := run_farith (P := P) .sub (.inr (.inl rfl)) t x y w
  refine ⟨z, w', h, ?_⟩
  have hf : floatBits .sub .f64 x y = Ieee.double.sub x y := rfl
  rw [hf] at hz
  rcases sub_FW hx hy with ⟨z', e1, e2⟩ | ⟨e1, e2⟩
  · rcases hz with ⟨h1, h2⟩ | ⟨h1, _⟩
    · rw [e1] at h1; cases h1; exact ⟨e2, .inl h2⟩
    · rw [e1] at h1; cases h1
  · rcases hz with ⟨h1, _⟩ | ⟨_, h2, h3⟩
    · rw [e1] at h1; cases h1
    · rw [e2]; exact ⟨FW.nan h2, .inr h3⟩
/-- The sign of a product. -/
def xsg (p q : Int) : Bool := decide (p < 0) != decide (q < 0)
/-- A product's size, in the scale. -/
def fsize (p q : Int) : Int := sg (xsg p q) (patV p * patV q / 2 ^ 4194304)
/-- A product, on patterns: to the nearest. -/
def fprod (p q : Int) : Int :=
  if cls p = 4 ∨ cls q = 4 then 9221120237041090561
  else if rg p = 9218868437227405312 ∨ rg q = 9218868437227405312 then (if rg p = 0 ∨ rg q = 0 then 9221120237041090561 else patS (xsg p q) 9218868437227405312)
  else if fsize p q = 0 then patS (xsg p q) 0 else nearP (sg (xsg p q) (fsize p q))
theorem fsize_of {g : Bool} {D Z C : Int} (hZ : 0 < Z) (h : sg g D * Z = C) : sg g (C / Z) = D := by
  rw [← h, Int.mul_ediv_cancel _ (Int.ne_of_gt hZ)]
  cases g
  · rfl
  · exact Int.neg_neg D
theorem nearP_sg {g : Bool} {D : Int} {r0 : Nat} {left : Int} (h0 : 0 < D) (hR : Rung D r0 left) : nearP (sg g D) = patS g (rTo 0 g r0 left) := by
  have hd : decide (sg g D < 0) = g := by
    cases g
    · exact decide_eq_false (by show ¬ D < 0; omega)
    · exact decide_eq_true (by show -D < 0; omega)
  have hn : sg g D ≠ 0 := by
    cases g
    · show D ≠ 0; omega
    · show -D ≠ 0; omega
  obtain ⟨A, s0, k, e1, e2, e3⟩ := nearP_rung hn
  rw [hd] at e1 e3
  have := sg_inj e1
  subst this
  obtain ⟨h1, h2⟩ := hR.unique e2
  subst h1 h2
  exact e3
theorem fmul_fin {p q : Int} (hp : rng p) (hq : rng q) (pp : pok p = true) (pq : pok q = true) : Ieee.double.mul (wd p) (wd q) = some (wd (if fsize p q = 0 then patS (xsg p q) 0 else nearP (sg (xsg p q) (fsize p q)))) := by
  obtain ⟨D, d0, d1, d2, d3⟩ := fmul hp hq pp pq
  have hf : fsize p q = D := fsize_of (two_pos 4194304) d1
  rw [hf]
  by_cases h : D = 0
  · rw [if_pos h]; exact d2 h
  · rw [if_neg h]
    obtain ⟨r0, left, hR, hE⟩ := d3 h
    rw [hE, nearP_sg (by omega) hR]
    rfl
end Go.Proofs.YtheiinclgfgneaaDoor

/-
  The document's single operations (plumbref4): plus of what is not finite, close, times, by their contracts.
-/
namespace Go.Proofs.YtheiinclgfgneaaDoor
open Go Go.RowKit Go.Proofs.YtheiinclgfgneaaDoor.M
set_option linter.unusedSimpArgs false
set_option linter.unusedVariables false

/-- A sum of two of which one is not finite. -/
def plusX (pn pa pi qn qa qi : Bool) : Int := if pa || qa || (pi && qi && (pn != qn)) then 9221120237041090561 else if pi then patS pn 9218868437227405312 else patS qn 9218868437227405312
set_option maxRecDepth 100000 in
set_option maxHeartbeats 4000000 in
theorem rplus_inf (way : Int) (pn pa pi qn qa qi xg yg : Bool) (xo yo : Option Addr) (xn xc yn yc : Nat) (xe ye : Int) (w : World) (h : (pa || qa || pi || qi) = true) :
    Calls Tryd.prog 75 #[k64V, .agg #[.bool pn, .bool pa, .bool pi, .bool xg, .slice xo xn xc, .int .i64 xe], .agg #[.bool qn, .bool qa, .bool qi, .bool yg, .slice yo yn yc, .int .i64 ye], .int .i64 way] w fun x w' => x = .returned (.int .i64 (plusX pn pa pi qn qa qi)) ∧ Below w.heap.size w w' := by
  have SG := fun gg W => rsigned_any gg 9218868437227405312 (by omega) W
  have NA := fun W => rnan_any W
  unfold k64V at *
  unfold plusX
  cases pa
  · cases qa
    · cases pi
      · cases qi
        · cases h
        · go_enter Tryd.func75, Tryd.ntmps75
          go_wp2_with fail
          refine (SG _ _).mono ?_
          rintro _ w1 ⟨rfl, hb1⟩
          go_wp2
          go_ret
          exact ⟨by simp, bel_trans (bel_a3 w _ _ _) hb1⟩
      · cases qi
        · go_enter Tryd.func75, Tryd.ntmps75
          go_wp2_with fail
          refine (SG _ _).mono ?_
          rintro _ w1 ⟨rfl, hb1⟩
          go_wp2
          go_ret
          exact ⟨by simp, bel_trans (bel_a3 w _ _ _) hb1⟩
        · cases pn <;> cases qn
          all_goals
            go_enter Tryd.func75, Tryd.ntmps75
            go_wp2_with fail
            first | refine (SG _ _).mono ?_ | refine (NA _).mono ?_
            rintro _ w1 ⟨rfl, hb1⟩
            go_wp2
            go_ret
            exact ⟨by simp, bel_trans (bel_a3 w _ _ _) hb1⟩
    · go_enter Tryd.func75, Tryd.ntmps75
      go_wp2_with fail
      refine (NA _).mono ?_
      rintro _ w1 ⟨rfl, hb1⟩
      go_wp2
      go_ret
      exact ⟨by simp, bel_trans (bel_a3 w _ _ _) hb1⟩
  · go_enter Tryd.func75, Tryd.ntmps75
    go_wp2_with fail
    refine (NA _).mono ?_
    rintro _ w1 ⟨rfl, hb1⟩
    go_wp2
    go_ret
    exact ⟨by simp, bel_trans (bel_a3 w _ _ _) hb1⟩
/-- What close tells. -/
def CloseR (way : Int) (ng na ni : Bool) (V : Int) (r : Int) : Prop :=
  if na then r = 9221120237041090561 else if ni then r = patS ng 9218868437227405312 else if V = 0 then r = patS ng 0 else RdW way (decide (V < 0)) V.natAbs r
set_option maxRecDepth 100000 in
set_option maxHeartbeats 4000000 in
theorem rclose_any (way : Int) (hw : 0 ≤ way ∧ way ≤ 3) (ng na ni xg : Bool) (xo : Option Addr) (xn xc : Nat) (xe V : Int) (w : World) (hx : DNum w (.agg #[.bool xg, .slice xo xn xc, .int .i64 xe]) V) (ok : Dok V) :
    Calls Tryd.prog 78 #[k64V, .agg #[.bool ng, .bool na, .bool ni, .bool xg, .slice xo xn xc, .int .i64 xe], .int .i64 way] w fun x w' => ∃ r, x = .returned (.int .i64 r) ∧ Below w.heap.size w w' ∧ CloseR way ng na ni V r := by
  have SI := fun gg W => rsigned_any gg 9218868437227405312 (by omega) W
  have SG := fun gg W => rsigned_any gg 0 (by omega) W
  have NA := fun W => rnan_any W
  obtain ⟨zx, mx⟩ := num_len hx
  have hb2 := bel_alloc2 w (.cells #[.int .i64 53, .int .i64 (-1074), .int .i64 1024, .int .i64 9218868437227405312, .int .i64 (-9223372036854775808)] 67) (.cells #[.bool ng, .bool na, .bool ni, .bool xg, .slice xo xn xc, .int .i64 xe] 81)
  have CC := fun (h0 : V ≠ 0) W hW => cut_D way hw (DNum.keeps (w' := W) (hx.keeps hb2) hW) ok h0
  unfold k64V at *
  unfold CloseR
  cases na
  · cases ni
    · by_cases h0 : V = 0
      · have hxn := zx.2 h0
        subst hxn
        simp only [Bool.false_eq_true, if_false, h0, if_true]
        clear CC zx
        go_enter Tryd.func78, Tryd.ntmps78
        go_wp2_with fail
        refine (SG _ _).mono ?_
        rintro _ w1 ⟨rfl, hb1⟩
        go_wp2
        go_ret
        exact ⟨_, rfl, bel_trans hb2 hb1, rfl⟩
      · have hsn : xn ≠ 0 := fun q => h0 (zx.1 q)
        have hsn1 : (0 : Int) < xn := by omega
        have hsn2 : ((xn : Int) == 0) = false := by simp; omega
        simp only [Bool.false_eq_true, if_false, h0]
        have CC' := CC h0
        clear CC zx
        go_enter Tryd.func78, Tryd.ntmps78
        go_wp2_with fail
        refine (CC' _ (bel_refl _)).mono ?_
        rintro _ w1 ⟨p, o, rfl, hb1, hR⟩
        go_wp2
        go_ret
        exact ⟨_, rfl, bel_trans hb2 hb1, hR⟩
    · simp only [Bool.false_eq_true, if_false, if_true]
      clear CC zx
      go_enter Tryd.func78, Tryd.ntmps78
      go_wp2_with fail
      refine (SI _ _).mono ?_
      rintro _ w1 ⟨rfl, hb1⟩
      go_wp2
      go_ret
      exact ⟨_, rfl, bel_trans hb2 hb1, rfl⟩
  · simp only [if_true]
    clear CC zx
    go_enter Tryd.func78, Tryd.ntmps78
    go_wp2_with fail
    refine (NA _).mono ?_
    rintro _ w1 ⟨rfl, hb1⟩
    go_wp2
    go_ret
    exact ⟨_, rfl, bel_trans hb2 hb1, rfl⟩
end Go.Proofs.YtheiinclgfgneaaDoor

/-
  The document's single operations (plumbref4): times, by its contract.
-/
namespace Go.Proofs.YtheiinclgfgneaaDoor
open Go Go.RowKit Go.Proofs.YtheiinclgfgneaaDoor.M
set_option linter.unusedSimpArgs false
set_option linter.unusedVariables false

set_option maxRecDepth 100000 in
set_option maxHeartbeats 4000000 in
theorem rtimes_fin (pn qn : Bool) (x y : NumR) (w : World) (hx : Row w x.ao x.n x.cap x.d) (hy : Row w y.ao y.n y.cap y.d) (sx : Sane x) (sy : Sane y) :
    Calls Tryd.prog 79 #[.agg #[.bool pn, .bool false, .bool false, .bool x.ng, .slice x.ao x.n x.cap, .int .i64 x.e], .agg #[.bool qn, .bool false, .bool false, .bool y.ng, .slice y.ao y.n y.cap, .int .i64 y.e]] w fun r w' => ∃ v, r = .returned v ∧ Below w.heap.size w w' ∧ Pt w' (pn != qn) false false (mulV x y) v := by
  have CM := fun W hW => rmul3_any x y W (Row.keeps (w' := W) hx hW) (Row.keeps (w' := W) hy hW) sx sy
  generalize mulV x y = V at CM ⊢
  obtain ⟨an, ao, n, ca, a, e⟩ := x
  obtain ⟨bn, bo, m, cb, b, f⟩ := y
  unfold NumR.v at CM
  simp only at *
  clear hx hy sx sy
  go_enter Tryd.func79, Tryd.ntmps79
  go_wp2_with fail
  refine (CM _ (bel_a4 w _ _ _ _)).mono ?_
  rintro _ w3 ⟨v, rfl, hD⟩
  obtain ⟨ng', s', m', e', rfl, hyy, hA2⟩ := id hD
  obtain ⟨so', sn', sc', rfl⟩ := hA2.num.shape
  have q1 := (hD.below.block (w.heap.size + 2) (by rw [size4]; omega)).trans (h4_2 _ _ _ _ _)
  have q2 := (hD.below.block (w.heap.size + 3) (by rw [size4]; omega)).trans (h4_3 _ _ _ _ _)
  have x0 := blkC q1 0 rfl
  have f0 := blkF q1 0
  have x1 := blkC q1 1 rfl
  have f1 := blkF q1 1
  have x2 := blkC q1 2 rfl
  have f2 := blkF q1 2
  have x3 := blkC q1 3 rfl
  have f3 := blkF q1 3
  have x4 := blkC q1 4 rfl
  have f4 := blkF q1 4
  have x5 := blkC q1 5 rfl
  have f5 := blkF q1 5
  have y0 := blkC q2 0 rfl
  have y1 := blkC q2 1 rfl
  have y2 := blkC q2 2 rfl
  have y3 := blkC q2 3 rfl
  have y4 := blkC q2 4 rfl
  have y5 := blkC q2 5 rfl
  have g3 := blkF q2 3
  have g4 := blkF q2 4
  have g5 := blkF q2 5
  have hbw := bel_trans (bel_a4 w _ _ _ _) hD.below
  have hDa := hD.dan
  rw [size4] at hDa
  clear hD hA2 hyy CM q1 q2
  go_wp2
  refine bodyPost_ret (v := .agg #[.bool (!(pn == qn)), .bool false, .bool false, .bool ng', .slice so' sn' sc', .int .i64 e']) (by simp [results, Tryd.results79, go_sem, x0, x1, x2, x3, x4, x5]) rfl ⟨_, rfl, ?_, ?_⟩
  · iterate 9 (refine Below.setCell ?_ (by dsimp only; omega) _)
    exact hbw
  · refine ⟨_, _, _, _, _, rfl, DAn.num (B := w.heap.size + 4) ?_⟩
    iterate 9 (refine DAn.set ?_ (by dsimp only; omega) _)
    exact hDa
/-- A product of two of which one is not finite: is it no number? -/
def timesN (pa pi pz qa qi qz : Bool) : Bool := pa || qa || (pi && qz) || (qi && pz)
set_option maxRecDepth 100000 in
set_option maxHeartbeats 4000000 in
theorem rtimes_nan (pn pa pi qn qa qi xg yg : Bool) (xo yo : Option Addr) (xn xc yn yc : Nat) (xe ye : Int) (w : World) (h : (pa || qa) = true) :
    Calls Tryd.prog 79 #[.agg #[.bool pn, .bool pa, .bool pi, .bool xg, .slice xo xn xc, .int .i64 xe], .agg #[.bool qn, .bool qa, .bool qi, .bool yg, .slice yo yn yc, .int .i64 ye]] w fun r w' => ∃ v, r = .returned v ∧ Below w.heap.size w w' ∧ Pt w' (pn != qn) true false 0 v := by
  have key : (pa = true) ∨ (pa = false ∧ qa = true) := by cases pa <;> cases qa <;> simp_all
  rcases key with rfl | ⟨rfl, rfl⟩
  all_goals
    clear h
    go_enter Tryd.func79, Tryd.ntmps79
    go_wp2
    refine bodyPost_ret (v := .agg #[.bool (!(pn == qn)), .bool true, .bool false, .bool false, .slice none 0 0, .int .i64 0]) (by simp [results, Tryd.results79, go_sem]) rfl ⟨_, rfl, ?_, ?_⟩
    · exact bel_a4 w _ _ _ _
    · exact ⟨_, _, _, _, _, rfl, DNum.zero _⟩
set_option maxRecDepth 100000 in
set_option maxHeartbeats 4000000 in
theorem rtimes_inf (pn pi qn qi xg yg : Bool) (xo yo : Option Addr) (xn xc yn yc : Nat) (xe ye : Int) (w : World) (hx : xn ≤ 9223372036854775807) (hy : yn ≤ 9223372036854775807) (h : (pi || qi) = true) :
    Calls Tryd.prog 79 #[.agg #[.bool pn, .bool false, .bool pi, .bool xg, .slice xo xn xc, .int .i64 xe], .agg #[.bool qn, .bool false, .bool qi, .bool yg, .slice yo yn yc, .int .i64 ye]] w fun r w' => ∃ v, r = .returned v ∧ Below w.heap.size w w' ∧ Pt w' (pn != qn) ((pi && !qi && decide (yn = 0)) || (qi && !pi && decide (xn = 0))) (!((pi && !qi && decide (yn = 0)) || (qi && !pi && decide (xn = 0)))) 0 v := by
  have CZ := fun W => rzero_any pn false pi xg xo xn xc xe hx W
  have CY := fun W => rzero_any qn false qi yg yo yn yc ye hy W
  obtain ⟨zx, hzx⟩ : ∃ z, decide (xn = 0) = z := ⟨_, rfl⟩
  obtain ⟨zy, hzy⟩ : ∃ z, decide (yn = 0) = z := ⟨_, rfl⟩
  rw [hzx, hzy]
  rw [hzx] at CZ
  rw [hzy] at CY
  clear hzx hzy
  cases pi <;> cases qi
  · cases h
  · cases zx
    · simp only [Bool.not_false, Bool.not_true, Bool.and_self, Bool.and_false, Bool.and_true, Bool.false_and, Bool.true_and] at CZ CY
      go_enter Tryd.func79, Tryd.ntmps79
      go_wp2_with fail
      refine (CZ _).mono ?_
      rintro _ w1 ⟨rfl, hb1⟩
      have Q0 := (hb1.block _ (Array.getElem?_eq_some_iff.1 (h4_0 _ _ _ _ _)).1).trans (h4_0 _ _ _ _ _)
      have Q1 := (hb1.block _ (Array.getElem?_eq_some_iff.1 (h4_1 _ _ _ _ _)).1).trans (h4_1 _ _ _ _ _)
      have Q2 := (hb1.block _ (Array.getElem?_eq_some_iff.1 (h4_2 _ _ _ _ _)).1).trans (h4_2 _ _ _ _ _)
      have Q3 := (hb1.block _ (Array.getElem?_eq_some_iff.1 (h4_3 _ _ _ _ _)).1).trans (h4_3 _ _ _ _ _)
      have a0 := blkC Q0 0 rfl
      have a1 := blkC Q0 1 rfl
      have a2 := blkC Q0 2 rfl
      have a3 := blkC Q0 3 rfl
      have a4 := blkC Q0 4 rfl
      have a5 := blkC Q0 5 rfl
      have b0 := blkC Q1 0 rfl
      have b1 := blkC Q1 1 rfl
      have b2 := blkC Q1 2 rfl
      have b3 := blkC Q1 3 rfl
      have b4 := blkC Q1 4 rfl
      have b5 := blkC Q1 5 rfl
      have c0 := blkC Q2 0 rfl
      have c1 := blkC Q2 1 rfl
      have c2 := blkC Q2 2 rfl
      have c3 := blkC Q2 3 rfl
      have c4 := blkC Q2 4 rfl
      have c5 := blkC Q2 5 rfl
      have d0 := blkC Q3 0 rfl
      have d1 := blkC Q3 1 rfl
      have d2 := blkC Q3 2 rfl
      have d3 := blkC Q3 3 rfl
      have d4 := blkC Q3 4 rfl
      have d5 := blkC Q3 5 rfl
      have fc0 := blkF Q2 0
      have fc1 := blkF Q2 1
      have fc2 := blkF Q2 2
      have fc3 := blkF Q2 3
      have fc4 := blkF Q2 4
      have fc5 := blkF Q2 5
      have fd1 := blkF Q3 1
      have fd2 := blkF Q3 2
      have hbw := bel_trans (bel_a4 w _ _ _ _) hb1
      clear CZ CY hb1 Q0 Q1 Q2 Q3
      go_wp2
      refine bodyPost_ret (v := .agg #[.bool (!(pn == qn)), .bool false, .bool true, .bool false, .slice none 0 0, .int .i64 0]) (by simp [results, Tryd.results79, go_sem, c0, c1, c2, c3, c4, c5]) rfl ⟨_, rfl, ?_, ?_⟩
      · iterate 7 (refine Below.setCell ?_ (by dsimp only; omega) _)
        exact hbw
      · exact ⟨_, _, _, _, _, rfl, DNum.zero _⟩
    · simp only [Bool.not_false, Bool.not_true, Bool.and_self, Bool.and_false, Bool.and_true, Bool.false_and, Bool.true_and] at CZ CY
      go_enter Tryd.func79, Tryd.ntmps79
      go_wp2_with fail
      refine (CZ _).mono ?_
      rintro _ w1 ⟨rfl, hb1⟩
      have Q0 := (hb1.block _ (Array.getElem?_eq_some_iff.1 (h4_0 _ _ _ _ _)).1).trans (h4_0 _ _ _ _ _)
      have Q1 := (hb1.block _ (Array.getElem?_eq_some_iff.1 (h4_1 _ _ _ _ _)).1).trans (h4_1 _ _ _ _ _)
      have Q2 := (hb1.block _ (Array.getElem?_eq_some_iff.1 (h4_2 _ _ _ _ _)).1).trans (h4_2 _ _ _ _ _)
      have Q3 := (hb1.block _ (Array.getElem?_eq_some_iff.1 (h4_3 _ _ _ _ _)).1).trans (h4_3 _ _ _ _ _)
      have a0 := blkC Q0 0 rfl
      have a1 := blkC Q0 1 rfl
      have a2 := blkC Q0 2 rfl
      have a3 := blkC Q0 3 rfl
      have a4 := blkC Q0 4 rfl
      have a5 := blkC Q0 5 rfl
      have b0 := blkC Q1 0 rfl
      have b1 := blkC Q1 1 rfl
      have b2 := blkC Q1 2 rfl
      have b3 := blkC Q1 3 rfl
      have b4 := blkC Q1 4 rfl
      have b5 := blkC Q1 5 rfl
      have c0 := blkC Q2 0 rfl
      have c1 := blkC Q2 1 rfl
      have c2 := blkC Q2 2 rfl
      have c3 := blkC Q2 3 rfl
      have c4 := blkC Q2 4 rfl
      have c5 := blkC Q2 5 rfl
      have d0 := blkC Q3 0 rfl
      have d1 := blkC Q3 1 rfl
      have d2 := blkC Q3 2 rfl
      have d3 := blkC Q3 3 rfl
      have d4 := blkC Q3 4 rfl
      have d5 := blkC Q3 5 rfl
      have fc0 := blkF Q2 0
      have fc1 := blkF Q2 1
      have fc2 := blkF Q2 2
      have fc3 := blkF Q2 3
      have fc4 := blkF Q2 4
      have fc5 := blkF Q2 5
      have fd1 := blkF Q3 1
      have fd2 := blkF Q3 2
      have hbw := bel_trans (bel_a4 w _ _ _ _) hb1
      clear CZ CY hb1 Q0 Q1 Q2 Q3
      go_wp2
      refine bodyPost_ret (v := .agg #[.bool (!(pn == qn)), .bool true, .bool false, .bool false, .slice none 0 0, .int .i64 0]) (by simp [results, Tryd.results79, go_sem, c0, c1, c2, c3, c4, c5]) rfl ⟨_, rfl, ?_, ?_⟩
      · iterate 7 (refine Below.setCell ?_ (by dsimp only; omega) _)
        exact hbw
      · exact ⟨_, _, _, _, _, rfl, DNum.zero _⟩
  · cases zy
    · simp only [Bool.not_false, Bool.not_true, Bool.and_self, Bool.and_false, Bool.and_true, Bool.false_and, Bool.true_and] at CZ CY
      go_enter Tryd.func79, Tryd.ntmps79
      go_wp2_with fail
      refine (CY _).mono ?_
      rintro _ w1 ⟨rfl, hb1⟩
      have Q0 := (hb1.block _ (Array.getElem?_eq_some_iff.1 (h4_0 _ _ _ _ _)).1).trans (h4_0 _ _ _ _ _)
      have Q1 := (hb1.block _ (Array.getElem?_eq_some_iff.1 (h4_1 _ _ _ _ _)).1).trans (h4_1 _ _ _ _ _)
      have Q2 := (hb1.block _ (Array.getElem?_eq_some_iff.1 (h4_2 _ _ _ _ _)).1).trans (h4_2 _ _ _ _ _)
      have Q3 := (hb1.block _ (Array.getElem?_eq_some_iff.1 (h4_3 _ _ _ _ _)).1).trans (h4_3 _ _ _ _ _)
      have a0 := blkC Q0 0 rfl
      have a1 := blkC Q0 1 rfl
      have a2 := blkC Q0 2 rfl
      have a3 := blkC Q0 3 rfl
      have a4 := blkC Q0 4 rfl
      have a5 := blkC Q0 5 rfl
      have b0 := blkC Q1 0 rfl
      have b1 := blkC Q1 1 rfl
      have b2 := blkC Q1 2 rfl
      have b3 := blkC Q1 3 rfl
      have b4 := blkC Q1 4 rfl
      have b5 := blkC Q1 5 rfl
      have c0 := blkC Q2 0 rfl
      have c1 := blkC Q2 1 rfl
      have c2 := blkC Q2 2 rfl
      have c3 := blkC Q2 3 rfl
      have c4 := blkC Q2 4 rfl
      have c5 := blkC Q2 5 rfl
      have d0 := blkC Q3 0 rfl
      have d1 := blkC Q3 1 rfl
      have d2 := blkC Q3 2 rfl
      have d3 := blkC Q3 3 rfl
      have d4 := blkC Q3 4 rfl
      have d5 := blkC Q3 5 rfl
      have fc0 := blkF Q2 0
      have fc1 := blkF Q2 1
      have fc2 := blkF Q2 2
      have fc3 := blkF Q2 3
      have fc4 := blkF Q2 4
      have fc5 := blkF Q2 5
      have fd1 := blkF Q3 1
      have fd2 := blkF Q3 2
      have hbw := bel_trans (bel_a4 w _ _ _ _) hb1
      clear CZ CY hb1 Q0 Q1 Q2 Q3
      go_wp2
      refine bodyPost_ret (v := .agg #[.bool (!(pn == qn)), .bool false, .bool true, .bool false, .slice none 0 0, .int .i64 0]) (by simp [results, Tryd.results79, go_sem, c0, c1, c2, c3, c4, c5]) rfl ⟨_, rfl, ?_, ?_⟩
      · iterate 7 (refine Below.setCell ?_ (by dsimp only; omega) _)
        exact hbw
      · exact ⟨_, _, _, _, _, rfl, DNum.zero _⟩
    · simp only [Bool.not_false, Bool.not_true, Bool.and_self, Bool.and_false, Bool.and_true, Bool.false_and, Bool.true_and] at CZ CY
      go_enter Tryd.func79, Tryd.ntmps79
      go_wp2_with fail
      refine (CY _).mono ?_
      rintro _ w1 ⟨rfl, hb1⟩
      have Q0 := (hb1.block _ (Array.getElem?_eq_some_iff.1 (h4_0 _ _ _ _ _)).1).trans (h4_0 _ _ _ _ _)
      have Q1 := (hb1.block _ (Array.getElem?_eq_some_iff.1 (h4_1 _ _ _ _ _)).1).trans (h4_1 _ _ _ _ _)
      have Q2 := (hb1.block _ (Array.getElem?_eq_some_iff.1 (h4_2 _ _ _ _ _)).1).trans (h4_2 _ _ _ _ _)
      have Q3 := (hb1.block _ (Array.getElem?_eq_some_iff.1 (h4_3 _ _ _ _ _)).1).trans (h4_3 _ _ _ _ _)
      have a0 := blkC Q0 0 rfl
      have a1 := blkC Q0 1 rfl
      have a2 := blkC Q0 2 rfl
      have a3 := blkC Q0 3 rfl
      have a4 := blkC Q0 4 rfl
      have a5 := blkC Q0 5 rfl
      have b0 := blkC Q1 0 rfl
      have b1 := blkC Q1 1 rfl
      have b2 := blkC Q1 2 rfl
      have b3 := blkC Q1 3 rfl
      have b4 := blkC Q1 4 rfl
      have b5 := blkC Q1 5 rfl
      have c0 := blkC Q2 0 rfl
      have c1 := blkC Q2 1 rfl
      have c2 := blkC Q2 2 rfl
      have c3 := blkC Q2 3 rfl
      have c4 := blkC Q2 4 rfl
      have c5 := blkC Q2 5 rfl
      have d0 := blkC Q3 0 rfl
      have d1 := blkC Q3 1 rfl
      have d2 := blkC Q3 2 rfl
      have d3 := blkC Q3 3 rfl
      have d4 := blkC Q3 4 rfl
      have d5 := blkC Q3 5 rfl
      have fc0 := blkF Q2 0
      have fc1 := blkF Q2 1
      have fc2 := blkF Q2 2
      have fc3 := blkF Q2 3
      have fc4 := blkF Q2 4
      have fc5 := blkF Q2 5
      have fd1 := blkF Q3 1
      have fd2 := blkF Q3 2
      have hbw := bel_trans (bel_a4 w _ _ _ _) hb1
      clear CZ CY hb1 Q0 Q1 Q2 Q3
      go_wp2
      refine bodyPost_ret (v := .agg #[.bool (!(pn == qn)), .bool true, .bool false, .bool false, .slice none 0 0, .int .i64 0]) (by simp [results, Tryd.results79, go_sem, c0, c1, c2, c3, c4, c5]) rfl ⟨_, rfl, ?_, ?_⟩
      · iterate 7 (refine Below.setCell ?_ (by dsimp only; omega) _)
        exact hbw
      · exact ⟨_, _, _, _, _, rfl, DNum.zero _⟩
  · simp only [Bool.not_false, Bool.not_true, Bool.and_self, Bool.and_false, Bool.and_true, Bool.false_and, Bool.true_and] at CZ CY
    go_enter Tryd.func79, Tryd.ntmps79
    go_wp2_with fail
    refine (CY _).mono ?_
    rintro _ w1 ⟨rfl, hb1⟩
    have Q0 := (hb1.block _ (Array.getElem?_eq_some_iff.1 (h4_0 _ _ _ _ _)).1).trans (h4_0 _ _ _ _ _)
    have Q1 := (hb1.block _ (Array.getElem?_eq_some_iff.1 (h4_1 _ _ _ _ _)).1).trans (h4_1 _ _ _ _ _)
    have Q2 := (hb1.block _ (Array.getElem?_eq_some_iff.1 (h4_2 _ _ _ _ _)).1).trans (h4_2 _ _ _ _ _)
    have Q3 := (hb1.block _ (Array.getElem?_eq_some_iff.1 (h4_3 _ _ _ _ _)).1).trans (h4_3 _ _ _ _ _)
    have a0 := blkC Q0 0 rfl
    have a1 := blkC Q0 1 rfl
    have a2 := blkC Q0 2 rfl
    have a3 := blkC Q0 3 rfl
    have a4 := blkC Q0 4 rfl
    have a5 := blkC Q0 5 rfl
    have b0 := blkC Q1 0 rfl
    have b1 := blkC Q1 1 rfl
    have b2 := blkC Q1 2 rfl
    have b3 := blkC Q1 3 rfl
    have b4 := blkC Q1 4 rfl
    have b5 := blkC Q1 5 rfl
    have c0 := blkC Q2 0 rfl
    have c1 := blkC Q2 1 rfl
    have c2 := blkC Q2 2 rfl
    have c3 := blkC Q2 3 rfl
    have c4 := blkC Q2 4 rfl
    have c5 := blkC Q2 5 rfl
    have d0 := blkC Q3 0 rfl
    have d1 := blkC Q3 1 rfl
    have d2 := blkC Q3 2 rfl
    have d3 := blkC Q3 3 rfl
    have d4 := blkC Q3 4 rfl
    have d5 := blkC Q3 5 rfl
    have fc0 := blkF Q2 0
    have fc1 := blkF Q2 1
    have fc2 := blkF Q2 2
    have fc3 := blkF Q2 3
    have fc4 := blkF Q2 4
    have fc5 := blkF Q2 5
    have fd1 := blkF Q3 1
    have fd2 := blkF Q3 2
    have hbw := bel_trans (bel_a4 w _ _ _ _) hb1
    clear CY hb1
    go_wp2_with fail
    refine (CZ _).mono ?_
    rintro _ w2 ⟨rfl, hb2⟩
    have R0 := (hb2.block _ (Array.getElem?_eq_some_iff.1 (Q0)).1).trans (Q0)
    have R1 := (hb2.block _ (Array.getElem?_eq_some_iff.1 (Q1)).1).trans (Q1)
    have R2 := (hb2.block _ (Array.getElem?_eq_some_iff.1 (Q2)).1).trans (Q2)
    have R3 := (hb2.block _ (Array.getElem?_eq_some_iff.1 (Q3)).1).trans (Q3)
    have a0' := blkC R0 0 rfl
    have a1' := blkC R0 1 rfl
    have a2' := blkC R0 2 rfl
    have a3' := blkC R0 3 rfl
    have a4' := blkC R0 4 rfl
    have a5' := blkC R0 5 rfl
    have b0' := blkC R1 0 rfl
    have b1' := blkC R1 1 rfl
    have b2' := blkC R1 2 rfl
    have b3' := blkC R1 3 rfl
    have b4' := blkC R1 4 rfl
    have b5' := blkC R1 5 rfl
    have c0' := blkC R2 0 rfl
    have c1' := blkC R2 1 rfl
    have c2' := blkC R2 2 rfl
    have c3' := blkC R2 3 rfl
    have c4' := blkC R2 4 rfl
    have c5' := blkC R2 5 rfl
    have d0' := blkC R3 0 rfl
    have d1' := blkC R3 1 rfl
    have d2' := blkC R3 2 rfl
    have d3' := blkC R3 3 rfl
    have d4' := blkC R3 4 rfl
    have d5' := blkC R3 5 rfl
    have fc0' := blkF R2 0
    have fc1' := blkF R2 1
    have fc2' := blkF R2 2
    have fc3' := blkF R2 3
    have fc4' := blkF R2 4
    have fc5' := blkF R2 5
    have fd1' := blkF R3 1
    have fd2' := blkF R3 2
    have hbw2 := bel_trans hbw hb2
    clear CZ hb2 hbw Q0 Q1 Q2 Q3 R0 R1 R2 R3
    go_wp2
    refine bodyPost_ret (v := .agg #[.bool (!(pn == qn)), .bool false, .bool true, .bool false, .slice none 0 0, .int .i64 0]) (by simp [results, Tryd.results79, go_sem, c0', c1', c2', c3', c4', c5']) rfl ⟨_, rfl, ?_, ?_⟩
    · iterate 7 (refine Below.setCell ?_ (by dsimp only; omega) _)
      exact hbw2
    · exact ⟨_, _, _, _, _, rfl, DNum.zero _⟩
end Go.Proofs.YtheiinclgfgneaaDoor

/-
  Package dyadic: products, Dot, by contracts.
-/
namespace Go.Proofs.YtheiinclgfgneaaDoor
open Go Go.RowKit Go.Proofs.YtheiinclgfgneaaDoor.M
set_option linter.unusedSimpArgs false
set_option linter.unusedVariables false

/-- A block of N numbers that is the call's own; the first k are those of q. -/
def BlkN (w : World) (g N k : Nat) (q : Nat → NumR) : Prop :=
  ∃ cur : Array Value, w.heap[g]? = some (.cells cur 40 (0, 0)) ∧ cur.size = N * 3 ∧ ∀ i, i < k → (cur[i * 3]? = some (.bool (q i).ng) ∧ cur[i * 3 + 1]? = some (.slice (q i).ao (q i).n (q i).cap) ∧ cur[i * 3 + 2]? = some (.int .i64 (q i).e)) ∧ Row w (q i).ao (q i).n (q i).cap (q i).d
theorem info_num : ∃ i, Tryd.prog.info? 40 = some i ∧ i.zero = some (.agg #[.bool false, .slice none 0 0, .int .i64 0]) ∧ i.size = 3 ∧ i.bytes = 40 := by
  have h : (Tryd.prog.info? 40).map (fun i => (i.zero, i.size, i.bytes)) = some (some (.agg #[.bool false, .slice none 0 0, .int .i64 0]), 3, 40) := by kernel_rfl
  obtain ⟨i, hi, hzz⟩ := Option.map_eq_some_iff.1 h
  simp only [Prod.mk.injEq] at hzz
  exact ⟨i, hi, hzz⟩
def updN (q : Nat → NumR) (k : Nat) (x : NumR) : Nat → NumR := fun j => if j = k then x else q j
theorem updN_same (q : Nat → NumR) (k : Nat) (x : NumR) : updN q k x k = x := by simp [updN]
theorem updN_other (q : Nat → NumR) {k j : Nat} (x : NumR) (h : j ≠ k) : updN q k x j = q j := by simp [updN, h]
theorem keep3W {W w' : World} {b g o0 o1 o2 : Nat} {x y z : Value} (h : W.cell? ⟨b, o0, none⟩ = some x ∧ W.cell? ⟨b, o1, none⟩ = some y ∧ W.cell? ⟨b, o2, none⟩ = some z) (hw : Wr g W w') (hg : b ≠ g) :
    w'.cell? ⟨b, o0, none⟩ = some x ∧ w'.cell? ⟨b, o1, none⟩ = some y ∧ w'.cell? ⟨b, o2, none⟩ = some z :=
  ⟨(hw.cell (World.block_lt_of_cell? W _ h.1) hg).trans h.1, (hw.cell (World.block_lt_of_cell? W _ h.2.1) hg).trans h.2.1, (hw.cell (World.block_lt_of_cell? W _ h.2.2) hg).trans h.2.2⟩
theorem keep3B {W w' : World} {b o0 o1 o2 : Nat} {x y z : Value} (h : W.cell? ⟨b, o0, none⟩ = some x ∧ W.cell? ⟨b, o1, none⟩ = some y ∧ W.cell? ⟨b, o2, none⟩ = some z) (hb : Below W.heap.size W w') :
    w'.cell? ⟨b, o0, none⟩ = some x ∧ w'.cell? ⟨b, o1, none⟩ = some y ∧ w'.cell? ⟨b, o2, none⟩ = some z := ⟨cell_keeps h.1 hb, cell_keeps h.2.1 hb, cell_keeps h.2.2 hb⟩
theorem wr3 (W : World) (g o0 o1 o2 : Nat) (x y z : Value) : Wr g W (((W.setCell ⟨g, o0, none⟩ x).setCell ⟨g, o1, none⟩ y).setCell ⟨g, o2, none⟩ z) := (((Wr.refl g W).setCell o0 x).setCell o1 y).setCell o2 z
theorem Row.wrN {w w' : World} {g : Nat} {ao : Option Addr} {n cap : Nat} {d : Nat → Int} (h : Row w ao n cap d) (hw : Wr g w w') {cur : Array Value} {z : Nat × Nat} (hg : w.heap[g]? = some (.cells cur 40 z)) (ht : ∀ b off, ao = some ⟨b, off, none⟩ → 0 < n → b ≠ g) : Row w' ao n cap d :=
  ⟨h.le, h.max, h.nl, fun hn => by
    obtain ⟨b, off, rfl, hlt, hc⟩ := h.spot hn
    exact ⟨b, off, rfl, Nat.lt_of_lt_of_le hlt hw.size, fun i hi => (hw.cell (p := ⟨b, off + i, none⟩) hlt (ht b off rfl hn)).trans (hc i hi)⟩⟩
theorem Ans.open {w w' : World} {V : Int} {so : Option Addr} {sn sc : Nat} (h : Ans w w' V (.slice so sn sc)) : ∃ d, Row w' so sn sc d ∧ Nrm d sn ∧ val d sn = V ∧ ∀ b off, so = some ⟨b, off, none⟩ → w.heap.size ≤ b := by
  obtain ⟨t, d, hO, hN, hV, _⟩ := h
  have hge := own_ge hO
  obtain ⟨so', sc', e, hR⟩ := hO.row
  simp only [Value.slice.injEq] at e
  obtain ⟨rfl, rfl, rfl⟩ := e
  exact ⟨d, hR, hN, hV, fun b off hb => hge b (by rw [hb]; rfl)⟩
theorem bel_set3' {w0 w : World} {g o0 o1 o2 : Nat} (h : Below w0.heap.size w0 w) (hg : w0.heap.size ≤ g) (x y z : Value) : Below w0.heap.size w0 (((w.setCell ⟨g, o0, none⟩ x).setCell ⟨g, o1, none⟩ y).setCell ⟨g, o2, none⟩ z) := ((h.setCell (p := ⟨g, o0, none⟩) hg x).setCell (p := ⟨g, o1, none⟩) hg y).setCell (p := ⟨g, o2, none⟩) hg z
theorem set3_get {cur : Array Value} {k : Nat} {x y z : Value} (h : k * 3 + 2 < cur.size) (i : Nat) :
    let c := ((cur.setIfInBounds (k * 3) x).setIfInBounds (k * 3 + 1) y).setIfInBounds (k * 3 + 2) z
    (i = k → c[i * 3]? = some x ∧ c[i * 3 + 1]? = some y ∧ c[i * 3 + 2]? = some z) ∧ (i ≠ k → c[i * 3]? = cur[i * 3]? ∧ c[i * 3 + 1]? = cur[i * 3 + 1]? ∧ c[i * 3 + 2]? = cur[i * 3 + 2]?) := by
  intro c
  refine ⟨fun e => ?_, fun e => ?_⟩
  · subst e
    refine ⟨?_, ?_, ?_⟩
    · show (((cur.setIfInBounds (i * 3) x).setIfInBounds (i * 3 + 1) y).setIfInBounds (i * 3 + 2) z)[i * 3]? = some x
      rw [Array.getElem?_setIfInBounds_ne (by omega), Array.getElem?_setIfInBounds_ne (by omega), Array.getElem?_setIfInBounds_self_of_lt (by omega)]
    · show (((cur.setIfInBounds (i * 3) x).setIfInBounds (i * 3 + 1) y).setIfInBounds (i * 3 + 2) z)[i * 3 + 1]? = some y
      rw [Array.getElem?_setIfInBounds_ne (by omega), Array.getElem?_setIfInBounds_self_of_lt (by simp; omega)]
    · show (((cur.setIfInBounds (i * 3) x).setIfInBounds (i * 3 + 1) y).setIfInBounds (i * 3 + 2) z)[i * 3 + 2]? = some z
      rw [Array.getElem?_setIfInBounds_self_of_lt (by simp; omega)]
  · refine ⟨?_, ?_, ?_⟩
    all_goals
      show (((cur.setIfInBounds (k * 3) x).setIfInBounds (k * 3 + 1) y).setIfInBounds (k * 3 + 2) z)[_]? = _
      rw [Array.getElem?_setIfInBounds_ne (by omega), Array.getElem?_setIfInBounds_ne (by omega), Array.getElem?_setIfInBounds_ne (by omega)]
theorem BlkN.step {wr w3 : World} {g N k : Nat} {q : Nat → NumR} (h : BlkN wr g N k q) (hb : Below wr.heap.size wr w3) (x : NumR) (hx : Row w3 x.ao x.n x.cap x.d) (hk : k < N) (hg : ∀ i b' off, i < k → (q i).ao = some ⟨b', off, none⟩ → 0 < (q i).n → g < b') (hg2 : ∀ b' off, x.ao = some ⟨b', off, none⟩ → 0 < x.n → g < b') :
    BlkN (((w3.setCell ⟨g, k * 3, none⟩ (.bool x.ng)).setCell ⟨g, k * 3 + 1, none⟩ (.slice x.ao x.n x.cap)).setCell ⟨g, k * 3 + 2, none⟩ (.int .i64 x.e)) g N (k + 1) (updN q k x) := by
  obtain ⟨cur, hcur, hsz, hc⟩ := h
  have q0 := (hb.block g (Array.getElem?_eq_some_iff.1 hcur).1).trans hcur
  have q1 := heap_set (heap_set (heap_set q0 (k * 3) (.bool x.ng)) (k * 3 + 1) (.slice x.ao x.n x.cap)) (k * 3 + 2) (.int .i64 x.e)
  have hw := wr3 w3 g (k * 3) (k * 3 + 1) (k * 3 + 2) (.bool x.ng) (.slice x.ao x.n x.cap) (.int .i64 x.e)
  refine ⟨_, q1, by simp [hsz], fun i hi => ?_⟩
  have hs := set3_get (cur := cur) (k := k) (x := .bool x.ng) (y := .slice x.ao x.n x.cap) (z := .int .i64 x.e) (by omega) i
  by_cases e : i = k
  · subst e
    rw [updN_same]
    exact ⟨hs.1 rfl, hx.wrN hw q0 fun b' off he hn => by have := hg2 b' off he hn; omega⟩
  · rw [updN_other q x e]
    obtain ⟨s0, s1, s2⟩ := hs.2 e
    obtain ⟨⟨c0, c1, c2⟩, hR⟩ := hc i (by omega)
    refine ⟨⟨s0.trans c0, s1.trans c1, s2.trans c2⟩, (hR.keeps hb).wrN hw q0 fun b' off he hn => ?_⟩
    have := hg i b' off (by omega) he hn
    omega
theorem BlkN.nums {w : World} {g N : Nat} {q : Nat → NumR} (h : BlkN w g N N q) (hN : N ≤ 100000) : Nums w (some ⟨g, 0, none⟩) N N q := by
  obtain ⟨cur, hcur, hsz, hc⟩ := h
  refine ⟨Nat.le_refl _, by omega, fun _ => ⟨g, 0, rfl, (Array.getElem?_eq_some_iff.1 hcur).1, fun i hi => ?_⟩⟩
  obtain ⟨⟨c0, c1, c2⟩, hR⟩ := hc i hi
  rw [Nat.zero_add]
  exact ⟨blkC hcur _ c0, blkC hcur _ c1, blkC hcur _ c2, hR⟩
/-- The sum of the products. -/
def dotV (a b : Nat → NumR) : Nat → Int | 0 => 0 | k + 1 => dotV a b k + mulV (a k) (b k)
theorem sumV_dot {a b q : Nat → NumR} : ∀ n, (∀ i, i < n → (q i).ng = ((a i).ng != (b i).ng) ∧ val (q i).d (q i).n = val (a i).d (a i).n * val (b i).d (b i).n ∧ (q i).e = (a i).e + (b i).e) → sumV q n = dotV a b n
  | 0, _ => rfl
  | k + 1, h => by
    obtain ⟨h1, h2, h3⟩ := h k (by omega)
    show sumV q k + sg (q k).ng (val (q k).d (q k).n) * pw (q k).e = dotV a b k + sg ((a k).ng != (b k).ng) (val (a k).d (a k).n * val (b k).d (b k).n) * pw ((a k).e + (b k).e)
    rw [sumV_dot k fun i hi => h i (by omega), h1, h2, h3]
/-- Numbers whose products can be summed. -/
def Half (x : NumR) : Prop := -500000 ≤ x.e ∧ x.e ≤ 500000
theorem prod_sane {x y q : NumR} (ox : okR x = true) (oy : okR y = true) (hx : Half x) (hy : Half y) (h0 : Nrm q.d q.n) (h2 : val q.d q.n = val x.d x.n * val y.d y.n) (h3 : q.e = x.e + y.e) : Sane q := by
  refine ⟨h0, ?_, ?_, ?_⟩
  · have a := (okR_dy ox).2.1
    have b := (okR_dy oy).2.1
    have a0 := val_nonneg (okR_sane ox).1.1
    have b0 := val_nonneg (okR_sane oy).1.1
    by_cases hq : q.n ≤ 5000
    · exact hq
    · exfalso
      have c := val_top h0.1 (by omega) h0.2
      have d := P_le (show 4000 ≤ q.n - 1 by omega)
      have e : val x.d x.n * val y.d y.n < P 2000 * P 2000 := by
        by_cases hz : val x.d x.n = 0
        · rw [hz, Int.zero_mul]; exact Int.mul_pos (P_pos _) (P_pos _)
        · exact Int.lt_of_lt_of_le (Int.mul_lt_mul_of_pos_left b (by omega)) (Int.mul_le_mul_of_nonneg_right (by omega) (Int.le_of_lt (P_pos _)))
      have f : P 2000 * P 2000 = P 4000 := by rw [P_two 2000, P_two 4000, ← Int.pow_add, show 30 * 2000 + 30 * 2000 = 30 * 4000 from rfl]
      rw [f] at e
      rw [h2] at c
      generalize P 4000 = Y at *
      omega
  · unfold Half at *; omega
  · unfold Half at *; omega
end Go.Proofs.YtheiinclgfgneaaDoor

/-
  The document's single operations (plumbref4): Add, Sub, Mul, by their contracts.
-/
namespace Go.Proofs.YtheiinclgfgneaaDoor
open Go Go.RowKit Go.Proofs.YtheiinclgfgneaaDoor.M
set_option linter.unusedSimpArgs false
set_option linter.unusedVariables false

theorem Pt.keeps {w w' : World} {ng na ni : Bool} {V : Int} {v : Value} (h : Pt w ng na ni V v) (hb : Below w.heap.size w w') : Pt w' ng na ni V v := by
  obtain ⟨xg, xo, xn, xc, xe, h1, h2⟩ := h
  exact ⟨xg, xo, xn, xc, xe, h1, h2.keeps hb⟩
/-- What plus tells of two that were looked at. -/
def PlR (way : Int) (pn pa pi : Bool) (Vp : Int) (qn qa qi : Bool) (Vq : Int) (r : Int) : Prop := if (pa || qa || pi || qi) = true then r = plusX pn pa pi qn qa qi else PlusR way pn qn Vp Vq r
theorem rplus_pt (way : Int) (hw : 0 ≤ way ∧ way ≤ 3) {w : World} {pn pa pi qn qa qi : Bool} {Vp Vq : Int} {p q : Value} (hp : Pt w pn pa pi Vp p) (hq : Pt w qn qa qi Vq q) (bp : Bd 9000 Vp) (bq : Bd 9000 Vq) :
    Calls Tryd.prog 75 #[k64V, p, q, .int .i64 way] w fun x w' => ∃ r, x = .returned (.int .i64 r) ∧ Below w.heap.size w w' ∧ PlR way pn pa pi Vp qn qa qi Vq r := by
  obtain ⟨xg, xo, xn, xc, xe, rfl, hx⟩ := hp
  obtain ⟨yg, yo, yn, yc, ye, rfl, hy⟩ := hq
  unfold PlR
  by_cases h : (pa || qa || pi || qi) = true
  · refine (rplus_inf way pn pa pi qn qa qi xg yg xo yo xn xc yn yc xe ye w h).mono ?_
    rintro x w' ⟨rfl, hb⟩
    exact ⟨_, rfl, hb, by rw [if_pos h]⟩
  · have h2 : pa = false ∧ qa = false ∧ pi = false ∧ qi = false := by cases pa <;> cases qa <;> cases pi <;> cases qi <;> simp_all
    obtain ⟨rfl, rfl, rfl, rfl⟩ := h2
    refine (rplus_X way hw pn qn xg yg xo yo xn xc yn yc xe ye Vp Vq w hx hy bp bq).mono ?_
    rintro x w' ⟨r, rfl, hb, hr⟩
    exact ⟨_, rfl, hb, by rw [if_neg h]; exact hr⟩
theorem patV_bd' (b : Int) : Bd 4000 (patV b) := by
  by_cases h : pok b = true
  · exact patV_bd h
  · rw [(cls_not h).2]
    exact ⟨0, by simp, by have := two_pos (2 * 4000); omega, two_pos _⟩
/-- The cells of a Kind. -/
def K5 (k : Nat) (W : World) : Prop := W.cell? ⟨k, 0, none⟩ = some (.int .i64 53) ∧ W.cell? ⟨k, 1, none⟩ = some (.int .i64 (-1074)) ∧ W.cell? ⟨k, 2, none⟩ = some (.int .i64 1024) ∧ W.cell? ⟨k, 3, none⟩ = some (.int .i64 9218868437227405312) ∧ W.cell? ⟨k, 4, none⟩ = some (.int .i64 (-9223372036854775808))
theorem K5.keeps {k : Nat} {W W' : World} (h : K5 k W) (hb : Below W.heap.size W W') : K5 k W' := by
  obtain ⟨h0, h1, h2, h3, h4⟩ := h
  exact ⟨cell_keeps h0 hb, cell_keeps h1 hb, cell_keeps h2 hb, cell_keeps h3 hb, cell_keeps h4 hb⟩
set_option maxRecDepth 100000 in
set_option maxHeartbeats 4000000 in
theorem radd64_F {way a b : Int} {an aa ai bn ba bi : Bool} {aV bV : Int} {R : Int → Prop} (w : World)
    (LA : ∀ W, Calls Tryd.prog 76 #[(.agg #[.int .i64 53, .int .i64 (-1074), .int .i64 1024, .int .i64 9218868437227405312, .int .i64 (-9223372036854775808)]), .int .i64 a] W fun e w' => ∃ v, e = .returned v ∧ Below W.heap.size W w' ∧ Pt w' an aa ai aV v)
    (LB : ∀ W, Calls Tryd.prog 76 #[(.agg #[.int .i64 53, .int .i64 (-1074), .int .i64 1024, .int .i64 9218868437227405312, .int .i64 (-9223372036854775808)]), .int .i64 b] W fun e w' => ∃ v, e = .returned v ∧ Below W.heap.size W w' ∧ Pt w' bn ba bi bV v)
    (PL : ∀ W p q, Pt W an aa ai aV p → Pt W bn ba bi bV q → Calls Tryd.prog 75 #[(.agg #[.int .i64 53, .int .i64 (-1074), .int .i64 1024, .int .i64 9218868437227405312, .int .i64 (-9223372036854775808)]), p, q, .int .i64 way] W fun x w' => ∃ r, x = .returned (.int .i64 r) ∧ Below W.heap.size W w' ∧ R r) :
    Calls Tryd.prog 63 #[(.agg #[.int .i64 53, .int .i64 (-1074), .int .i64 1024, .int .i64 9218868437227405312, .int .i64 (-9223372036854775808)]), .int .i64 a, .int .i64 b, .int .i64 way] w fun x w' => ∃ r, x = .returned (.int .i64 r) ∧ Below w.heap.size w w' ∧ R r := by
  have hba := bel_alloc w (.cells #[.int .i64 53, .int .i64 (-1074), .int .i64 1024, .int .i64 9218868437227405312, .int .i64 (-9223372036854775808)] 67)
  have q0 := heap_alloc_new w (.cells #[.int .i64 53, .int .i64 (-1074), .int .i64 1024, .int .i64 9218868437227405312, .int .i64 (-9223372036854775808)] 67)
  have a0 := blkC q0 0 rfl
  have a1 := blkC q0 1 rfl
  have a2 := blkC q0 2 rfl
  have a3 := blkC q0 3 rfl
  have a4 := blkC q0 4 rfl
  go_enter Tryd.func63, Tryd.ntmps63
  go_wp2_with fail
  have k5 : K5 w.heap.size (w.alloc (.cells #[.int .i64 53, .int .i64 (-1074), .int .i64 1024, .int .i64 9218868437227405312, .int .i64 (-9223372036854775808)] 67)) := ⟨a0, a1, a2, a3, a4⟩
  clear a0 a1 a2 a3 a4 q0
  generalize w.alloc (.cells #[.int .i64 53, .int .i64 (-1074), .int .i64 1024, .int .i64 9218868437227405312, .int .i64 (-9223372036854775808)] 67) = wx at hba k5 ⊢
  have hdr : Below wx.heap.size wx wx.drew := (bel_refl wx).drew
  go_region_held3 (fun W => W.cell? ⟨w.heap.size, 0, none⟩ = some (.int .i64 53) ∧ W.cell? ⟨w.heap.size, 1, none⟩ = some (.int .i64 (-1074)) ∧ W.cell? ⟨w.heap.size, 2, none⟩ = some (.int .i64 1024) ∧ W.cell? ⟨w.heap.size, 3, none⟩ = some (.int .i64 9218868437227405312) ∧ W.cell? ⟨w.heap.size, 4, none⟩ = some (.int .i64 (-9223372036854775808)))
    (first | assumption | exact k5 | exact K5.keeps k5 hdr | exact k51 | exact k52 | exact k53)
    (first
      | (go_at_call 75; refine (PL _ _ _ (hv1.keeps hb2) hv2).mono ?_; rintro _ w3 ⟨r, rfl, hb3, hR⟩; have k53 := K5.keeps k52 hb3)
      | (go_at_call 76; have _t := hv1; refine (LB _).mono ?_; rintro _ w2 ⟨v2, rfl, hb2, hv2⟩; have k52 := K5.keeps k51 hb2)
      | (go_at_call 76; refine (LA _).mono ?_; rintro _ w1 ⟨v1, rfl, hb1, hv1⟩; have k51 := K5.keeps (K5.keeps k5 hdr) hb1))
  all_goals go_wp2
  all_goals go_ret
  all_goals exact ⟨_, rfl, bel_trans hba (bel_trans hdr (bel_trans hb1 (bel_trans hb2 hb3))), hR⟩
set_option maxRecDepth 100000 in
set_option maxHeartbeats 4000000 in
theorem rmul64_F {way a b : Int} {an aa ai bn ba bi : Bool} {aV bV : Int} {R : Int → Prop} (T : World → Value → Prop) (hT : ∀ W W' v, T W v → Below W.heap.size W W' → T W' v) (w : World)
    (LA : ∀ W, Calls Tryd.prog 76 #[(.agg #[.int .i64 53, .int .i64 (-1074), .int .i64 1024, .int .i64 9218868437227405312, .int .i64 (-9223372036854775808)]), .int .i64 a] W fun e w' => ∃ v, e = .returned v ∧ Below W.heap.size W w' ∧ Pt w' an aa ai aV v)
    (LB : ∀ W, Calls Tryd.prog 76 #[(.agg #[.int .i64 53, .int .i64 (-1074), .int .i64 1024, .int .i64 9218868437227405312, .int .i64 (-9223372036854775808)]), .int .i64 b] W fun e w' => ∃ v, e = .returned v ∧ Below W.heap.size W w' ∧ Pt w' bn ba bi bV v)
    (TI : ∀ W p q, Pt W an aa ai aV p → Pt W bn ba bi bV q → Calls Tryd.prog 79 #[p, q] W fun x w' => ∃ v, x = .returned v ∧ Below W.heap.size W w' ∧ T w' v)
    (CL : ∀ W v, T W v → Calls Tryd.prog 78 #[(.agg #[.int .i64 53, .int .i64 (-1074), .int .i64 1024, .int .i64 9218868437227405312, .int .i64 (-9223372036854775808)]), v, .int .i64 way] W fun x w' => ∃ r, x = .returned (.int .i64 r) ∧ Below W.heap.size W w' ∧ R r) :
    Calls Tryd.prog 71 #[(.agg #[.int .i64 53, .int .i64 (-1074), .int .i64 1024, .int .i64 9218868437227405312, .int .i64 (-9223372036854775808)]), .int .i64 a, .int .i64 b, .int .i64 way] w fun x w' => ∃ r, x = .returned (.int .i64 r) ∧ Below w.heap.size w w' ∧ R r := by
  have hba := bel_alloc w (.cells #[.int .i64 53, .int .i64 (-1074), .int .i64 1024, .int .i64 9218868437227405312, .int .i64 (-9223372036854775808)] 67)
  have q0 := heap_alloc_new w (.cells #[.int .i64 53, .int .i64 (-1074), .int .i64 1024, .int .i64 9218868437227405312, .int .i64 (-9223372036854775808)] 67)
  have a0 := blkC q0 0 rfl
  have a1 := blkC q0 1 rfl
  have a2 := blkC q0 2 rfl
  have a3 := blkC q0 3 rfl
  have a4 := blkC q0 4 rfl
  go_enter Tryd.func71, Tryd.ntmps71
  go_wp2_with fail
  have k5 : K5 w.heap.size (w.alloc (.cells #[.int .i64 53, .int .i64 (-1074), .int .i64 1024, .int .i64 9218868437227405312, .int .i64 (-9223372036854775808)] 67)) := ⟨a0, a1, a2, a3, a4⟩
  clear a0 a1 a2 a3 a4 q0
  generalize w.alloc (.cells #[.int .i64 53, .int .i64 (-1074), .int .i64 1024, .int .i64 9218868437227405312, .int .i64 (-9223372036854775808)] 67) = wx at hba k5 ⊢
  have hdr : Below wx.heap.size wx wx.drew := (bel_refl wx).drew
  go_region_held3 (fun W => W.cell? ⟨w.heap.size, 0, none⟩ = some (.int .i64 53) ∧ W.cell? ⟨w.heap.size, 1, none⟩ = some (.int .i64 (-1074)) ∧ W.cell? ⟨w.heap.size, 2, none⟩ = some (.int .i64 1024) ∧ W.cell? ⟨w.heap.size, 3, none⟩ = some (.int .i64 9218868437227405312) ∧ W.cell? ⟨w.heap.size, 4, none⟩ = some (.int .i64 (-9223372036854775808)))
    (first | assumption | exact k5 | exact K5.keeps k5 hdr | exact k51 | exact k52 | exact k53 | exact k54)
    (first
      | (go_at_call 78; refine (CL _ _ hv3).mono ?_; rintro _ w4 ⟨r, rfl, hb4, hR⟩; have k54 := K5.keeps k53 hb4)
      | (go_at_call 79; refine (TI _ _ _ (hv1.keeps hb2) hv2).mono ?_; rintro _ w3 ⟨v3, rfl, hb3, hv3⟩; have k53 := K5.keeps k52 hb3)
      | (go_at_call 76; have _t := hv1; refine (LB _).mono ?_; rintro _ w2 ⟨v2, rfl, hb2, hv2⟩; have k52 := K5.keeps k51 hb2)
      | (go_at_call 76; refine (LA _).mono ?_; rintro _ w1 ⟨v1, rfl, hb1, hv1⟩; have k51 := K5.keeps (K5.keeps k5 hdr) hb1))
  all_goals go_wp2
  all_goals go_ret
  all_goals exact ⟨_, rfl, bel_trans hba (bel_trans hdr (bel_trans hb1 (bel_trans hb2 (bel_trans hb3 hb4)))), hR⟩
/-- The cells of a Kind and of what was looked at. -/
def K11 (k q : Nat) (n0 n1 n2 n3 : Bool) (xo : Option Addr) (xn xc : Nat) (xe : Int) (W : World) : Prop := (W.cell? ⟨k, 0, none⟩ = some (.int .i64 53) ∧ W.cell? ⟨k, 1, none⟩ = some (.int .i64 (-1074)) ∧ W.cell? ⟨k, 2, none⟩ = some (.int .i64 1024) ∧ W.cell? ⟨k, 3, none⟩ = some (.int .i64 9218868437227405312) ∧ W.cell? ⟨k, 4, none⟩ = some (.int .i64 (-9223372036854775808))) ∧ W.cell? ⟨q, 0, none⟩ = some (.bool n0) ∧ W.cell? ⟨q, 1, none⟩ = some (.bool n1) ∧ W.cell? ⟨q, 2, none⟩ = some (.bool n2) ∧ W.cell? ⟨q, 3, none⟩ = some (.bool n3) ∧ W.cell? ⟨q, 4, none⟩ = some (.slice xo xn xc) ∧ W.cell? ⟨q, 5, none⟩ = some (.int .i64 xe)
theorem K11.keeps {k q : Nat} {n0 n1 n2 n3 : Bool} {xo : Option Addr} {xn xc : Nat} {xe : Int} {W W' : World} (h : K11 k q n0 n1 n2 n3 xo xn xc xe W) (hb : Below W.heap.size W W') : K11 k q n0 n1 n2 n3 xo xn xc xe W' := by
  obtain ⟨⟨h0, h1, h2, h3, h4⟩, g0, g1, g2, g3, g4, g5⟩ := h
  exact ⟨⟨cell_keeps h0 hb, cell_keeps h1 hb, cell_keeps h2 hb, cell_keeps h3 hb, cell_keeps h4 hb⟩, cell_keeps g0 hb, cell_keeps g1 hb, cell_keeps g2 hb, cell_keeps g3 hb, cell_keeps g4 hb, cell_keeps g5 hb⟩
theorem rneg_D {w : World} {xg : Bool} {xo : Option Addr} {xn xc : Nat} {xe V : Int} (hx : DNum w (.agg #[.bool xg, .slice xo xn xc, .int .i64 xe]) V) :
    ∃ yg, DNum w (.agg #[.bool yg, .slice xo xn xc, .int .i64 xe]) (-V) ∧ ∀ W, Calls Tryd.prog 77 #[.agg #[.bool xg, .slice xo xn xc, .int .i64 xe]] W fun r w' => r = .returned (.agg #[.bool yg, .slice xo xn xc, .int .i64 xe]) ∧ Below W.heap.size W w' := by
  obtain ⟨zx, mx⟩ := num_len hx
  refine ⟨if xn = 0 then xg else !xg, ?_, fun W => rneg3_any ⟨xg, xo, xn, xc, fun _ => 0, xe⟩ W mx⟩
  obtain ⟨ng, s, m, e', h1, hy, hN⟩ := hx
  simp only [Value.agg.injEq, Array.mk.injEq, List.cons.injEq, Value.bool.injEq, Value.int.injEq, true_and, and_true] at h1
  obtain ⟨rfl, rfl, rfl⟩ := h1
  by_cases h0 : xn = 0
  · rw [if_pos h0]
    have hV := zx.1 h0
    subst hV
    exact ⟨_, _, m, _, rfl, hy, hN⟩
  · rw [if_neg h0]
    have hm : m ≠ 0 := fun q => h0 (zx.2 (hy.eq_zero.2 q))
    exact ⟨_, _, m, _, rfl, hy.neg (by have := hy.nonneg; omega), hN⟩
set_option maxRecDepth 100000 in
set_option maxHeartbeats 4000000 in
theorem rsub64_F {way a b : Int} {an aa ai bn ba bi : Bool} {aV bV : Int} {R : Int → Prop} (w : World)
    (LA : ∀ W, Calls Tryd.prog 76 #[(.agg #[.int .i64 53, .int .i64 (-1074), .int .i64 1024, .int .i64 9218868437227405312, .int .i64 (-9223372036854775808)]), .int .i64 a] W fun e w' => ∃ v, e = .returned v ∧ Below W.heap.size W w' ∧ Pt w' an aa ai aV v)
    (LB : ∀ W, Calls Tryd.prog 76 #[(.agg #[.int .i64 53, .int .i64 (-1074), .int .i64 1024, .int .i64 9218868437227405312, .int .i64 (-9223372036854775808)]), .int .i64 b] W fun e w' => ∃ v, e = .returned v ∧ Below W.heap.size W w' ∧ Pt w' bn ba bi bV v)
    (PL : ∀ W p q, Pt W an aa ai aV p → Pt W (!bn) ba bi (-bV) q → Calls Tryd.prog 75 #[(.agg #[.int .i64 53, .int .i64 (-1074), .int .i64 1024, .int .i64 9218868437227405312, .int .i64 (-9223372036854775808)]), p, q, .int .i64 way] W fun x w' => ∃ r, x = .returned (.int .i64 r) ∧ Below W.heap.size W w' ∧ R r) :
    Calls Tryd.prog 64 #[(.agg #[.int .i64 53, .int .i64 (-1074), .int .i64 1024, .int .i64 9218868437227405312, .int .i64 (-9223372036854775808)]), .int .i64 a, .int .i64 b, .int .i64 way] w fun x w' => ∃ r, x = .returned (.int .i64 r) ∧ Below w.heap.size w w' ∧ R r := by
  have hba := bel_alloc w (.cells #[.int .i64 53, .int .i64 (-1074), .int .i64 1024, .int .i64 9218868437227405312, .int .i64 (-9223372036854775808)] 67)
  have q0 := heap_alloc_new w (.cells #[.int .i64 53, .int .i64 (-1074), .int .i64 1024, .int .i64 9218868437227405312, .int .i64 (-9223372036854775808)] 67)
  have a0 := blkC q0 0 rfl
  have a1 := blkC q0 1 rfl
  have a2 := blkC q0 2 rfl
  have a3 := blkC q0 3 rfl
  have a4 := blkC q0 4 rfl
  go_enter Tryd.func64, Tryd.ntmps64
  go_wp2_with fail
  refine (LB _).mono ?_
  rintro _ w1 ⟨v, rfl, hb1, hv⟩
  obtain ⟨xg, xo, xn, xc, xe, rfl, hx⟩ := hv
  obtain ⟨zx, mx⟩ := num_len hx
  have p0 := (hb1.block _ (Array.getElem?_eq_some_iff.1 q0).1).trans q0
  have hbw := bel_trans hba hb1
  obtain ⟨yg, hy, CN⟩ := rneg_D hx
  clear a0 a1 a2 a3 a4 q0 hba hb1 hx zx
  go_wp2_with fail
  refine (CN _).mono ?_
  rintro _ w2 ⟨rfl, hb2⟩
  have hq1 := (hb2.block w1.heap.size (by rw [size_alloc]; omega)).trans (heap_a1 w1 (.cells #[.bool (!bn), .bool ba, .bool bi, .bool xg, .slice xo xn xc, .int .i64 xe] 81))
  have hk1 := (hb2.block w.heap.size (by rw [size_alloc]; have := (Array.getElem?_eq_some_iff.1 p0).1; omega)).trans (heap_past (.cells #[.bool (!bn), .bool ba, .bool bi, .bool xg, .slice xo xn xc, .int .i64 xe] 81) p0)
  have hne : w1.heap.size ≠ w.heap.size := by have := (Array.getElem?_eq_some_iff.1 p0).1; omega
  have hbw2 := bel_trans (bel_alloc w1 (.cells #[.bool (!bn), .bool ba, .bool bi, .bool xg, .slice xo xn xc, .int .i64 xe] 81)) hb2
  have f3 := blkF hq1 3
  have f4 := blkF hq1 4
  have f5 := blkF hq1 5
  have y0 := blkC hq1 0 rfl
  have y1 := blkC hq1 1 rfl
  have y2 := blkC hq1 2 rfl
  have y3 := blkC hq1 3 rfl
  have y4 := blkC hq1 4 rfl
  have y5 := blkC hq1 5 rfl
  have t3 := heap_set hq1 3 (.bool yg)
  have t4 := heap_set t3 4 (.slice xo xn xc)
  have t5 := heap_set t4 5 (.int .i64 xe)
  have u3 := (heap_setCell_other w2 ⟨w1.heap.size, 3, none⟩ w.heap.size (.bool yg) (Ne.symm hne)).trans hk1
  have u4 := (heap_setCell_other _ ⟨w1.heap.size, 4, none⟩ w.heap.size (.slice xo xn xc) (Ne.symm hne)).trans u3
  have u5 := (heap_setCell_other _ ⟨w1.heap.size, 5, none⟩ w.heap.size (.int .i64 xe) (Ne.symm hne)).trans u4
  have hbs : Below w1.heap.size w1 (((w2.setCell ⟨w1.heap.size, 3, none⟩ (.bool yg)).setCell ⟨w1.heap.size, 4, none⟩ (.slice xo xn xc)).setCell ⟨w1.heap.size, 5, none⟩ (.int .i64 xe)) := bel_set3' hbw2 (Nat.le_refl _) _ _ _
  have kk : K11 w.heap.size w1.heap.size (!bn) ba bi yg xo xn xc xe (((w2.setCell ⟨w1.heap.size, 3, none⟩ (.bool yg)).setCell ⟨w1.heap.size, 4, none⟩ (.slice xo xn xc)).setCell ⟨w1.heap.size, 5, none⟩ (.int .i64 xe)) :=
    ⟨⟨blkC u5 0 rfl, blkC u5 1 rfl, blkC u5 2 rfl, blkC u5 3 rfl, blkC u5 4 rfl⟩, blkC t5 0 (by simp), blkC t5 1 (by simp), blkC t5 2 (by simp), blkC t5 3 (by simp), blkC t5 4 (by simp), blkC t5 5 (by simp)⟩
  clear t3 t4 t5 u3 u4 u5 hb2 CN LB
  go_wp2_with fail
  clear f3 f4 f5 y0 y1 y2 y3 y4 y5 hq1 hk1 p0
  generalize ((w2.setCell ⟨w1.heap.size, 3, none⟩ (.bool yg)).setCell ⟨w1.heap.size, 4, none⟩ (.slice xo xn xc)).setCell ⟨w1.heap.size, 5, none⟩ (.int .i64 xe) = wx at hbs kk ⊢
  have hdr : Below wx.heap.size wx wx.drew := (bel_refl wx).drew
  have PQ : ∀ W, Below w1.heap.size w1 W → Pt W (!bn) ba bi (-bV) (.agg #[.bool (!bn), .bool ba, .bool bi, .bool yg, .slice xo xn xc, .int .i64 xe]) := fun W hW => ⟨_, _, _, _, _, rfl, hy.keeps hW⟩
  go_region_held3 (fun W => (W.cell? ⟨w.heap.size, 0, none⟩ = some (.int .i64 53) ∧ W.cell? ⟨w.heap.size, 1, none⟩ = some (.int .i64 (-1074)) ∧ W.cell? ⟨w.heap.size, 2, none⟩ = some (.int .i64 1024) ∧ W.cell? ⟨w.heap.size, 3, none⟩ = some (.int .i64 9218868437227405312) ∧ W.cell? ⟨w.heap.size, 4, none⟩ = some (.int .i64 (-9223372036854775808))) ∧ W.cell? ⟨w1.heap.size, 0, none⟩ = some (.bool (!bn)) ∧ W.cell? ⟨w1.heap.size, 1, none⟩ = some (.bool ba) ∧ W.cell? ⟨w1.heap.size, 2, none⟩ = some (.bool bi) ∧ W.cell? ⟨w1.heap.size, 3, none⟩ = some (.bool yg) ∧ W.cell? ⟨w1.heap.size, 4, none⟩ = some (.slice xo xn xc) ∧ W.cell? ⟨w1.heap.size, 5, none⟩ = some (.int .i64 xe))
    (first | assumption | exact kk | exact K11.keeps kk hdr | exact kk1 | exact kk2)
    (first
      | (go_at_call 75; refine (PL _ _ _ hv1 (PQ _ (bel_trans hbs (bel_trans hdr hb3)))).mono ?_; rintro _ w4 ⟨r, rfl, hb4, hR⟩; have kk2 := K11.keeps kk1 hb4)
      | (go_at_call 76; refine (LA _).mono ?_; rintro _ w3 ⟨v1, rfl, hb3, hv1⟩; have kk1 := K11.keeps (K11.keeps kk hdr) hb3))
  all_goals go_wp2
  all_goals go_ret
  all_goals exact ⟨_, rfl, bel_trans hbw (bel_trans hbs (bel_trans hdr (bel_trans hb3 hb4))), hR⟩
end Go.Proofs.YtheiinclgfgneaaDoor
