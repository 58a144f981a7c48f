/-
  Parts of the proof, one behind another.
-/
import Derived.Test.YtheiinclgfgneaaDoorPart9
import Derived.Test.YtheiinclgfgneaaDoorPart18
import Derived.Test.YtheiinclgfgneaaDoorPart7
import Derived.Test.YtheiinclgfgneaaDoorPart5
import Derived.Test.YtheiinclgfgneaaDoorPart8
/-
  The document's single operations (plumbref4): plus, by its contract.
-/
namespace Go.Proofs.YtheiinclgfgneaaDoor
open Go Go.RowKit Go.Proofs.YtheiinclgfgneaaDoor.M
set_option linter.unusedSimpArgs false
set_option linter.unusedVariables false

theorem cut_D (way : Int) (hw : 0 ≤ way ∧ way ≤ 3) {g : Bool} {so : Option Addr} {sn sc : Nat} {e S : Int} {w : World} (h : DNum w (.agg #[.bool g, .slice so sn sc, .int .i64 e]) S) (ok : Dok S) (h0 : S ≠ 0) :
    Calls Tryd.prog 83 #[k64V, .bool g, .slice so sn sc, .int .i64 e, .bool false, .int .i64 way] w fun x w' => ∃ p o, x = .returned (.tuple #[.int .i64 p, .bool o]) ∧ Below w.heap.size w w' ∧ RdW way (decide (S < 0)) S.natAbs p := by
  obtain ⟨ng, s, m, e', h1, hy, ao, n, cap, d, h2, hR, hN, hv⟩ := h
  simp only [Value.agg.injEq, Array.mk.injEq, List.cons.injEq, Value.bool.injEq, Value.int.injEq, true_and, and_true] at h1
  obtain ⟨rfl, rfl, rfl⟩ := h1
  simp only [Value.slice.injEq] at h2
  obtain ⟨rfl, rfl, rfl⟩ := h2
  obtain ⟨k1, k2, k3⟩ := hy.ok.1 ok
  have hm0 : m ≠ 0 := fun q => h0 (hy.eq_zero.2 q)
  have hmp : 0 < m := by have := hy.nonneg; omega
  have hsn : sn ≤ 2000 := by
    have hNN : Num w (.slice so sn sc) m := ⟨_, _, _, _, rfl, hR, hN, hv⟩
    exact hNN.len k1
  have hs0 : 0 < sn := by
    rcases Nat.eq_zero_or_pos sn with q | q
    · subst q
      exact absurd (hv.symm.trans rfl) hm0
    · exact q
  have hng : g = decide (S < 0) := by
    have := hy.neg_iff
    cases g
    · symm; exact decide_eq_false (fun q => by simpa using this.2 q)
    · symm; exact decide_eq_true (this.1 rfl)
  have hA : Held (S.natAbs : Int) (val d sn).toNat e false := by
    have e1 : (((val d sn).toNat : Nat) : Int) = m := by omega
    have e2 := sg_abs hy
    unfold Held
    rw [e1, e2, Int.add_mul, Int.one_mul, e2]
    have := pw_pos e
    refine ⟨Int.le_refl _, by omega, by simp⟩
  refine (cut64_any way hw g so sn sc d e false w hR hN (by omega) hs0 (by omega) hA (fun q => by cases q)).mono ?_
  rintro x w' ⟨p, o, r0, left, rfl, hb, h4, h5, h6⟩
  exact ⟨p, o, rfl, hb, r0, left, h4, by rw [← hng]; exact h5⟩
/-- What a sum of two finite ones is rounded to. -/
def PlusR (way : Int) (pn qn : Bool) (Vp Vq : Int) (r : Int) : Prop :=
  (Vp + Vq = 0 → r = patS (if Vp = 0 ∧ pn = qn then pn else decide (way = 1)) 0) ∧ (Vp + Vq ≠ 0 → RdW way (decide (Vp + Vq < 0)) (Vp + Vq).natAbs r)
theorem num_len {w : World} {g : Bool} {so : Option Addr} {sn sc : Nat} {e S : Int} (h : DNum w (.agg #[.bool g, .slice so sn sc, .int .i64 e]) S) : (sn = 0 ↔ S = 0) ∧ sn ≤ 9223372036854775807 := by
  obtain ⟨ng, s, m, e', h1, hy, ao, n, cap, d, h2, hR, hN, hv⟩ := h
  simp only [Value.agg.injEq, Array.mk.injEq, List.cons.injEq, Value.bool.injEq, Value.int.injEq, true_and, and_true] at h1
  obtain ⟨rfl, rfl, rfl⟩ := h1
  simp only [Value.slice.injEq] at h2
  obtain ⟨rfl, rfl, rfl⟩ := h2
  have hm := hR.max
  have hl := hR.le
  refine ⟨?_, by omega⟩
  rw [hy.eq_zero]
  constructor
  · intro q
    subst q
    exact hv.symm.trans rfl
  · intro q
    rcases Nat.eq_zero_or_pos sn with z | z
    · exact z
    · have h1 := val_top hN.1 z hN.2
      have := P_pos (sn - 1)
      omega
theorem RSum.both {w w' : World} {A B : Int} {x y v : Value} (h : RSum w w' A B x y v) (hx : DNum w x A) (hy : DNum w y B) : DNum w' v (A + B) ∧ Below w.heap.size w w' := by
  obtain ⟨hb, h | ⟨h1, h2⟩ | ⟨h1, h2⟩⟩ := h
  · exact ⟨h.num, hb⟩
  · subst h2; rw [h1, Int.zero_add]; exact ⟨hy.keeps hb, hb⟩
  · subst h2; rw [h1, Int.add_zero]; exact ⟨hx.keeps hb, hb⟩
theorem DNum.shape {w : World} {v : Value} {V : Int} (h : DNum w v V) : ∃ g so sn sc e, v = .agg #[.bool g, .slice so sn sc, .int .i64 e] := by
  obtain ⟨ng, s, m, e', h1, hy, ao, n, cap, d, h2, hR, hN, hv⟩ := h
  subst h2
  exact ⟨_, _, _, _, _, h1⟩
/-- The cells of a Kind and of a number. -/
def C8 (k s : Nat) (g : Bool) (so : Option Addr) (sn sc : Nat) (e : Int) (W : World) : Prop :=
  (W.cell? ⟨k, 0, none⟩ = some (.int .i64 53) ∧ W.cell? ⟨k, 1, none⟩ = some (.int .i64 (-1074)) ∧ W.cell? ⟨k, 2, none⟩ = some (.int .i64 1024) ∧ W.cell? ⟨k, 3, none⟩ = some (.int .i64 9218868437227405312) ∧ W.cell? ⟨k, 4, none⟩ = some (.int .i64 (-9223372036854775808))) ∧
  W.cell? ⟨s, 0, none⟩ = some (.bool g) ∧ W.cell? ⟨s, 1, none⟩ = some (.slice so sn sc) ∧ W.cell? ⟨s, 2, none⟩ = some (.int .i64 e)
theorem C8.keeps {k s : Nat} {g : Bool} {so : Option Addr} {sn sc : Nat} {e : Int} {W W' : World} (h : C8 k s g so sn sc e W) (hb : Below W.heap.size W W') : C8 k s g so sn sc e W' := by
  obtain ⟨⟨h0, h1, h2, h3, h4⟩, h5, h6, h7⟩ := h
  exact ⟨⟨cell_keeps h0 hb, cell_keeps h1 hb, cell_keeps h2 hb, cell_keeps h3 hb, cell_keeps h4 hb⟩, cell_keeps h5 hb, cell_keeps h6 hb, cell_keeps h7 hb⟩
set_option maxRecDepth 100000 in
set_option maxHeartbeats 4000000 in
theorem rplus_X (way : Int) (hw : 0 ≤ way ∧ way ≤ 3) (pn qn xg yg : Bool) (xo yo : Option Addr) (xn xc yn yc : Nat) (xe ye Vp Vq : Int) (w : World) (hx : DNum w (.agg #[.bool xg, .slice xo xn xc, .int .i64 xe]) Vp) (hy : DNum w (.agg #[.bool yg, .slice yo yn yc, .int .i64 ye]) Vq) (bx : Bd 9000 Vp) (bY : Bd 9000 Vq) :
    Calls Tryd.prog 75 #[k64V, .agg #[.bool pn, .bool false, .bool false, .bool xg, .slice xo xn xc, .int .i64 xe], .agg #[.bool qn, .bool false, .bool false, .bool yg, .slice yo yn yc, .int .i64 ye], .int .i64 way] w fun x w' => ∃ r, x = .returned (.int .i64 r) ∧ Below w.heap.size w w' ∧ PlusR way pn qn Vp Vq r := by
  unfold k64V
  have hb3 := bel_a3 w (.cells #[.int .i64 53, .int .i64 (-1074), .int .i64 1024, .int .i64 9218868437227405312, .int .i64 (-9223372036854775808)] 67) (.cells #[.bool pn, .bool false, .bool false, .bool xg, .slice xo xn xc, .int .i64 xe] 81) (.cells #[.bool qn, .bool false, .bool false, .bool yg, .slice yo yn yc, .int .i64 ye] 81)
  have g0 := h3_0 w (.cells #[.int .i64 53, .int .i64 (-1074), .int .i64 1024, .int .i64 9218868437227405312, .int .i64 (-9223372036854775808)] 67) (.cells #[.bool pn, .bool false, .bool false, .bool xg, .slice xo xn xc, .int .i64 xe] 81) (.cells #[.bool qn, .bool false, .bool false, .bool yg, .slice yo yn yc, .int .i64 ye] 81)
  have g1 := h3_1 w (.cells #[.int .i64 53, .int .i64 (-1074), .int .i64 1024, .int .i64 9218868437227405312, .int .i64 (-9223372036854775808)] 67) (.cells #[.bool pn, .bool false, .bool false, .bool xg, .slice xo xn xc, .int .i64 xe] 81) (.cells #[.bool qn, .bool false, .bool false, .bool yg, .slice yo yn yc, .int .i64 ye] 81)
  have g2 := h3_2 w (.cells #[.int .i64 53, .int .i64 (-1074), .int .i64 1024, .int .i64 9218868437227405312, .int .i64 (-9223372036854775808)] 67) (.cells #[.bool pn, .bool false, .bool false, .bool xg, .slice xo xn xc, .int .i64 xe] 81) (.cells #[.bool qn, .bool false, .bool false, .bool yg, .slice yo yn yc, .int .i64 ye] 81)
  have hs3 := size3 w (.cells #[.int .i64 53, .int .i64 (-1074), .int .i64 1024, .int .i64 9218868437227405312, .int .i64 (-9223372036854775808)] 67) (.cells #[.bool pn, .bool false, .bool false, .bool xg, .slice xo xn xc, .int .i64 xe] 81) (.cells #[.bool qn, .bool false, .bool false, .bool yg, .slice yo yn yc, .int .i64 ye] 81)
  obtain ⟨zx, mx⟩ := num_len hx
  obtain ⟨zy, my⟩ := num_len hy
  go_enter Tryd.func75, Tryd.ntmps75
  go_wp2_with fail
  have HX := hx.keeps hb3
  have HY := hy.keeps hb3
  generalize ((w.alloc (.cells #[.int .i64 53, .int .i64 (-1074), .int .i64 1024, .int .i64 9218868437227405312, .int .i64 (-9223372036854775808)] 67)).alloc (.cells #[.bool pn, .bool false, .bool false, .bool xg, .slice xo xn xc, .int .i64 xe] 81)).alloc (.cells #[.bool qn, .bool false, .bool false, .bool yg, .slice yo yn yc, .int .i64 ye] 81) = wx at hb3 g0 g1 g2 hs3 HX HY ⊢
  refine (radd_D HX HY (show 9000 ≤ 560000 by decide) bx bY).mono ?_
  rintro _ w3 ⟨v, rfl, hS⟩
  obtain ⟨hN, hb4⟩ := hS.both HX HY
  obtain ⟨g, so, sn, sc, e, rfl⟩ := hN.shape
  obtain ⟨zs, ms⟩ := num_len hN
  have ok : Dok (Vp + Vq) := (bx.add bY (by decide)).ok (by decide)
  have p0 := (hb4.block w.heap.size (by omega)).trans g0
  have p1 := (hb4.block (w.heap.size + 1) (by omega)).trans g1
  have p2 := (hb4.block (w.heap.size + 2) (by omega)).trans g2
  have P0 := heap_past (.cells #[.bool g, .slice so sn sc, .int .i64 e] 40) p0
  have P1 := heap_past (.cells #[.bool g, .slice so sn sc, .int .i64 e] 40) p1
  have P2 := heap_past (.cells #[.bool g, .slice so sn sc, .int .i64 e] 40) p2
  have Ps := heap_a1 w3 (.cells #[.bool g, .slice so sn sc, .int .i64 e] 40)
  have a0 := blkC P0 0 rfl
  have a1 := blkC P0 1 rfl
  have a2 := blkC P0 2 rfl
  have a3 := blkC P0 3 rfl
  have a4 := blkC P0 4 rfl
  have b0 := blkC P1 0 rfl
  have b1 := blkC P1 1 rfl
  have b2 := blkC P1 2 rfl
  have b3 := blkC P1 3 rfl
  have b4 := blkC P1 4 rfl
  have b5 := blkC P1 5 rfl
  have c0 := blkC P2 0 rfl
  have c1 := blkC P2 1 rfl
  have c2 := blkC P2 2 rfl
  have c3 := blkC P2 3 rfl
  have c4 := blkC P2 4 rfl
  have c5 := blkC P2 5 rfl
  have s0 := blkC Ps 0 rfl
  have s1 := blkC Ps 1 rfl
  have s2 := blkC Ps 2 rfl
  have hbw := bel_trans hb3 hb4
  have hsz : w.heap.size + 3 ≤ w3.heap.size := by have := hb4.size; omega
  have HN : Hid (DNum w3 (.agg #[.bool g, .slice so sn sc, .int .i64 e]) (Vp + Vq)) := hN
  have HOK : Hid (Dok (Vp + Vq)) := ok
  clear hS hN ok HX HY hx hy bx bY hb3 hb4
  by_cases hS0 : Vp + Vq = 0
  · have hsn := zs.2 hS0
    subst hsn
    have hb5 := bel_alloc w3 (.cells #[.bool g, .slice so 0 sc, .int .i64 e] 40)
    have zq : Vp = 0 → Vq = 0 := fun q => by omega
    clear zs
    by_cases hx0 : xn = 0
    · have hy0 := zy.2 (zq (zx.1 hx0))
      have hV0 := zx.1 hx0
      subst hx0 hy0
      have CZ := fun W => rzero_any pn false false xg xo 0 xc xe (by omega) W
      have CY := fun W => rzero_any qn false false yg yo 0 yc ye (by omega) W
      simp only [Bool.not_false, Bool.and_self, decide_true] at CZ CY
      clear zx zy zq HN HOK
      have SG := fun gg W => rsigned_any gg 0 (by omega) W
      unfold k64V at SG
      cases pn <;> cases qn
      all_goals
        go_wp2_with fail
        refine (CZ _).mono ?_
        rintro _ w4 ⟨rfl, hb6⟩
        have Q0 := (hb6.block _ (Array.getElem?_eq_some_iff.1 P0).1).trans P0
        have Q1 := (hb6.block _ (Array.getElem?_eq_some_iff.1 P1).1).trans P1
        have Q2 := (hb6.block _ (Array.getElem?_eq_some_iff.1 P2).1).trans P2
        have a0' := blkC Q0 0 rfl
        have a1' := blkC Q0 1 rfl
        have a2' := blkC Q0 2 rfl
        have a3' := blkC Q0 3 rfl
        have a4' := blkC Q0 4 rfl
        have b0' := blkC Q1 0 rfl
        have b1' := blkC Q1 1 rfl
        have b2' := blkC Q1 2 rfl
        have b3' := blkC Q1 3 rfl
        have b4' := blkC Q1 4 rfl
        have b5' := blkC Q1 5 rfl
        have c0' := blkC Q2 0 rfl
        have c1' := blkC Q2 1 rfl
        have c2' := blkC Q2 2 rfl
        have c3' := blkC Q2 3 rfl
        have c4' := blkC Q2 4 rfl
        have c5' := blkC Q2 5 rfl
        clear P0 P1 P2
        go_wp2_with fail
        refine (CY _).mono ?_
        rintro _ w5 ⟨rfl, hb7⟩
        have R0 := (hb7.block _ (Array.getElem?_eq_some_iff.1 Q0).1).trans Q0
        have R1 := (hb7.block _ (Array.getElem?_eq_some_iff.1 Q1).1).trans Q1
        have R2 := (hb7.block _ (Array.getElem?_eq_some_iff.1 Q2).1).trans Q2
        have a0'' := blkC R0 0 rfl
        have a1'' := blkC R0 1 rfl
        have a2'' := blkC R0 2 rfl
        have a3'' := blkC R0 3 rfl
        have a4'' := blkC R0 4 rfl
        have b0'' := blkC R1 0 rfl
        have b1'' := blkC R1 1 rfl
        have b2'' := blkC R1 2 rfl
        have b3'' := blkC R1 3 rfl
        have b4'' := blkC R1 4 rfl
        have b5'' := blkC R1 5 rfl
        have c0'' := blkC R2 0 rfl
        have c1'' := blkC R2 1 rfl
        have c2'' := blkC R2 2 rfl
        have c3'' := blkC R2 3 rfl
        have c4'' := blkC R2 4 rfl
        have c5'' := blkC R2 5 rfl
        clear Q0 Q1 Q2
        have hbw5 := bel_trans (bel_trans (bel_trans hbw hb5) hb6) hb7
        go_wp2_with fail
        refine (SG _ _).mono ?_
        rintro _ w6 ⟨rfl, hb8⟩
        go_wp2
        go_ret
        refine ⟨_, rfl, bel_trans hbw5 hb8, fun _ => ?_, fun q => absurd hS0 q⟩
      · rw [if_pos ⟨hV0, rfl⟩]
      · rw [if_neg (fun q => by cases q.2)]; rfl
      · rw [if_neg (fun q => by cases q.2)]; rfl
      · rw [if_pos ⟨hV0, rfl⟩]
    · have hV0 : Vp ≠ 0 := fun q => hx0 (zx.2 q)
      have CZ := fun W => rzero_any pn false false xg xo xn xc xe (by omega) W
      rw [decide_eq_false hx0] at CZ
      simp only [Bool.not_false, Bool.and_self, Bool.and_false] at CZ
      have SG := fun gg W => rsigned_any gg 0 (by omega) W
      unfold k64V at SG
      clear zx zy zq HN HOK
      go_wp2_with fail
      refine (CZ _).mono ?_
      rintro _ w4 ⟨rfl, hb6⟩
      have Q0 := (hb6.block _ (Array.getElem?_eq_some_iff.1 P0).1).trans P0
      have Q1 := (hb6.block _ (Array.getElem?_eq_some_iff.1 P1).1).trans P1
      have Q2 := (hb6.block _ (Array.getElem?_eq_some_iff.1 P2).1).trans P2
      have a0' := blkC Q0 0 rfl
      have a1' := blkC Q0 1 rfl
      have a2' := blkC Q0 2 rfl
      have a3' := blkC Q0 3 rfl
      have a4' := blkC Q0 4 rfl
      have b0' := blkC Q1 0 rfl
      have b1' := blkC Q1 1 rfl
      have b2' := blkC Q1 2 rfl
      have b3' := blkC Q1 3 rfl
      have b4' := blkC Q1 4 rfl
      have b5' := blkC Q1 5 rfl
      have c0' := blkC Q2 0 rfl
      have c1' := blkC Q2 1 rfl
      have c2' := blkC Q2 2 rfl
      have c3' := blkC Q2 3 rfl
      have c4' := blkC Q2 4 rfl
      have c5' := blkC Q2 5 rfl
      clear P0 P1 P2
      have hbw5 := bel_trans (bel_trans hbw hb5) hb6
      go_wp2_with fail
      refine (SG _ _).mono ?_
      rintro _ w6 ⟨rfl, hb8⟩
      go_wp2
      go_ret
      refine ⟨_, rfl, bel_trans hbw5 hb8, fun _ => ?_, fun q => absurd hS0 q⟩
      rw [if_neg (fun q => hV0 q.1)]
      rfl
  · have hsn : sn ≠ 0 := fun q => hS0 (zs.1 q)
    have hsn1 : (0 : Int) < sn := by omega
    have hsn2 : ((sn : Int) == 0) = false := by simp; omega
    clear zs zx zy
    have hb5 := bel_alloc w3 (.cells #[.bool g, .slice so sn sc, .int .i64 e] 40)
    go_wp2_with fail
    have HN4 : Hid (DNum (w3.alloc (.cells #[.bool g, .slice so sn sc, .int .i64 e] 40)) (.agg #[.bool g, .slice so sn sc, .int .i64 e]) (Vp + Vq)) := HN.out.keeps hb5
    have K8 : C8 w.heap.size w3.heap.size g so sn sc e (w3.alloc (.cells #[.bool g, .slice so sn sc, .int .i64 e] 40)) := ⟨⟨a0, a1, a2, a3, a4⟩, s0, s1, s2⟩
    have hbw4 := bel_trans hbw hb5
    clear a0 a1 a2 a3 a4 b0 b1 b2 b3 b4 b5 c0 c1 c2 c3 c4 c5 P0 P1 P2 Ps s0 s1 s2 p0 p1 p2 g0 g1 g2 HN
    generalize w3.alloc (.cells #[.bool g, .slice so sn sc, .int .i64 e] 40) = w4 at hb5 HN4 K8 hbw4 ⊢
    have CC : ∀ W, Below w4.heap.size w4 W → Calls Tryd.prog 83 #[.agg #[.int .i64 53, .int .i64 (-1074), .int .i64 1024, .int .i64 9218868437227405312, .int .i64 (-9223372036854775808)], .bool g, .slice so sn sc, .int .i64 e, .bool false, .int .i64 way] W fun x w' => ∃ p o, x = .returned (.tuple #[.int .i64 p, .bool o]) ∧ Below W.heap.size W w' ∧ RdW way (decide (Vp + Vq < 0)) (Vp + Vq).natAbs p := fun W hW => cut_D way hw (HN4.out.keeps hW) HOK.out hS0
    refine (CC _ (bel_refl _)).mono ?_
    rintro _ w5 ⟨p, o, rfl, hb6, hR⟩
    go_wp2
    all_goals go_ret
    all_goals exact ⟨_, rfl, bel_trans hbw4 hb6, fun q => absurd q hS0, fun _ => hR⟩
end Go.Proofs.YtheiinclgfgneaaDoor

/-
  Package plumbref3: Same, by its contract; plumbref1.Finite.
-/
namespace Go.Proofs.YtheiinclgfgneaaDoor
open Go Go.RowKit Go.Proofs.YtheiinclgfgneaaDoor.M
set_option linter.unusedSimpArgs false
set_option linter.unusedVariables false

theorem rfinite_any (b : Int) (w : World) (hb : rng b) :
    Calls Tryd.prog 39 #[.int .i64 b] w fun x w' => x = .returned (.bool (pok b)) ∧ w' = w := by
  have C1 := fun W => refClass b W hb
  by_cases hp : pok b = true
  · have h3 := cls_fin hp
    rw [hp]
    generalize cls b = c at *
    go_enter Tryd.func39, Tryd.ntmps39
    go_wp2_with fail
    refine (C1 _).mono ?_
    rintro _ _ ⟨rfl, rfl⟩
    go_wp2
    go_ret
    exact ⟨ret_bool (by first | (simp; done) | (simp; omega)), rfl⟩
  · have h3 := (cls_not hp).1
    have hp2 : pok b = false := by simpa using hp
    rw [hp2]
    generalize cls b = c at *
    go_enter Tryd.func39, Tryd.ntmps39
    go_wp2_with fail
    refine (C1 _).mono ?_
    rintro _ _ ⟨rfl, rfl⟩
    go_wp2
    go_ret
    exact ⟨ret_bool (by simp; omega), rfl⟩
set_option maxRecDepth 100000 in
set_option maxHeartbeats 4000000 in
theorem rsame3_D {w : World} {x y : Value} {A B : Int} (hx : DNum w x A) (hy : DNum w y B) :
    Calls Tryd.prog 46 #[x, y] w fun r w' => r = .returned (.bool (decide (A = B))) ∧ Below w.heap.size w w' := by
  obtain ⟨g, s, m, e, rfl, dx, ao, n, ca, a, rfl, hR, hN, rfl⟩ := hx
  obtain ⟨g', s', m', e', rfl, dy, bo, n', cb, b, rfl, hR', hN', rfl⟩ := hy
  have hu : A = B → g = g' ∧ val a n = val b n' ∧ e = e' := fun q => by subst q; exact dx.unique dy
  have hm1 := hR.max
  have hl1 := hR.le
  have hm2 := hR'.max
  have hl2 := hR'.le
  have hb2 := bel_alloc2 w (.cells #[.bool g, .slice ao n ca, .int .i64 e] 40) (.cells #[.bool g', .slice bo n' cb, .int .i64 e'] 40)
  by_cases hg : g = g' ∧ e = e' ∧ n = n'
  · obtain ⟨rfl, rfl, rfl⟩ := hg
    have q0 := heap_a2 w (.cells #[.bool g, .slice ao n ca, .int .i64 e] 40) (.cells #[.bool g, .slice bo n cb, .int .i64 e] 40)
    have q1 := heap_b2 w (.cells #[.bool g, .slice ao n ca, .int .i64 e] 40) (.cells #[.bool g, .slice bo n cb, .int .i64 e] 40)
    have HR := hR.keeps hb2
    have HR' := hR'.keeps hb2
    have hAB : (∀ i, i < n → a i = b i) → A = B := fun q => by rw [dx.val, dy.val, val_congr q]
    go_enter Tryd.func46, Tryd.ntmps46
    go_wp2_with fail
    have k1 := blkC q0 1 rfl
    have j1 := blkC q1 1 rfl
    clear q0 q1 hu hR hR'
    generalize (w.alloc (.cells #[.bool g, .slice ao n ca, .int .i64 e] 40)).alloc (.cells #[.bool g, .slice bo n cb, .int .i64 e] 40) = wx at hb2 k1 j1 HR HR' ⊢
    have HNa : Hid (Nrm a n) := hN
    have HNb : Hid (Nrm b n) := hN'
    have HAB : Hid ((∀ i, i < n → a i = b i) → A = B) := hAB
    have HBA : Hid (A = B → ∀ i, i < n → a i = b i) := fun q => val_inj hN.1 hN'.1 (by subst q; exact (dx.unique dy).2.1)
    clear hN hN' hAB dx dy
    go_loopw [5] (fun i wr => ∃ k : Nat, k ≤ n ∧ i = .int .i64 k ∧ Hid (∀ i, i < k → a i = b i) ∧ Below wx.heap.size wx wr) (fun i _ => n - (intOf i).toNat)
    case atStart => exact ⟨0, Nat.zero_le _, rfl, fun i hi => by omega, bel_refl _⟩
    case round =>
      obtain ⟨k, hk, rfl, HS, hbw⟩ := hrel
      have k1' := cell_keeps k1 hbw
      have j1' := cell_keeps j1 hbw
      by_cases hlt : k < n
      · obtain ⟨ba, fa, rfl, hba, hca⟩ := HR.spot (by omega)
        obtain ⟨bb, fb, rfl, hbb, hcb⟩ := HR'.spot (by omega)
        have c1 := (hbw.cell (p := ⟨ba, fa + k, none⟩) hba).trans (hca k (by omega))
        have c2 := (hbw.cell (p := ⟨bb, fb + k, none⟩) hbb).trans (hcb k (by omega))
        clear hca hcb
        by_cases h1 : a k = b k
        · have h2 : (a k == b k) = true := by simpa using h1
          rw [h1] at c1
          go_wp2_with fail
          go_quiet (fail)
          go_wp2
          go_roundw
          case rel => exact ⟨k + 1, by omega, by go_num, fun i hi => by by_cases e : i = k; (· rw [e]; exact h1); (· exact HS.out i (by omega)), bDrewN hbw _⟩
          case measure => simp [intOf]; try omega
        · have h2 : (a k == b k) = false := by simpa using h1
          have hne : A ≠ B := fun q => h1 (HBA.out q k hlt)
          have hdd : Hid (false = decide (A = B)) := (decide_eq_false hne).symm
          clear hne
          go_wp2_with fail
          go_quiet (fail)
          go_wp2
          go_ret
          exact ⟨ret_bool hdd.out, bel_trans hb2 (bDrewN hbw _)⟩
      · obtain rfl : k = n := by omega
        have hdd : Hid (true = decide (A = B)) := (decide_eq_true (HAB.out HS.out)).symm
        go_wp2
        go_ret
        exact ⟨ret_bool hdd.out, bel_trans hb2 hbw⟩
  · have hne : A ≠ B := fun q => hg ⟨(hu q).1, (hu q).2.2, nrm_len hN hN' (hu q).2.1⟩
    rw [decide_eq_false hne]
    by_cases c1 : g = g'
    · subst c1
      by_cases c2 : e = e'
      · subst c2
        have c3 : n ≠ n' := fun q => hg ⟨rfl, rfl, q⟩
        have c4 : ((n : Int) == (n' : Int)) = false := by simp; omega
        clear hu
        go_enter Tryd.func46, Tryd.ntmps46
        go_wp2
        all_goals go_ret
        all_goals exact ⟨rfl, hb2⟩
      · have c4 : (e == e') = false := by simpa using c2
        clear hu
        go_enter Tryd.func46, Tryd.ntmps46
        go_wp2
        all_goals go_ret
        all_goals exact ⟨rfl, hb2⟩
    · have c4 : (g == g') = false := by simpa using c1
      clear hu
      go_enter Tryd.func46, Tryd.ntmps46
      go_wp2
      all_goals go_ret
      all_goals exact ⟨rfl, hb2⟩
end Go.Proofs.YtheiinclgfgneaaDoor

/-
  Plain mathematics: how a number stands to what it is rounded to.
-/
namespace Go.Proofs.YtheiinclgfgneaaDoor
open Go Go.RowKit Go.Proofs.YtheiinclgfgneaaDoor.M
set_option linter.unusedSimpArgs false
set_option linter.unusedVariables false

theorem vS_zero : vS 0 = 0 := by unfold vS; rw [V_zero]; simp
theorem ordP_pat {A : Int} {ng : Bool} {r : Nat} (h : (r : Int) < 9218868437227405312) : ordP A (patS (ng && decide ((0 : Int) < r)) r) = ord A (sg ng (vS r)) := by
  by_cases h0 : r = 0
  · subst h0
    have e : (ng && decide ((0 : Int) < ((0 : Nat) : Int))) = false := by simp
    rw [e, vS_zero]
    have hp : pok (patS false ((0 : Nat) : Int)) = true := by decide
    have hv : patV (patS false ((0 : Nat) : Int)) = 0 := by rw [patV_patS (by decide) (fun q => by cases q), vS_zero]; rfl
    unfold ordP
    rw [if_pos hp, hv]
    cases ng <;> rfl
  · have e : (ng && decide ((0 : Int) < (r : Int))) = ng := by rw [decide_eq_true (by omega), Bool.and_true]
    rw [e]
    have hp : pok (patS ng r) = true := by rw [patS_pok (by omega) (by omega) (fun _ => by omega)]; exact decide_eq_true h
    unfold ordP
    rw [if_pos hp, patV_patS h (fun _ => by omega)]
theorem ordP_inf {A : Int} {ng : Bool} : ordP A (patS (ng && decide ((0 : Int) < 9218868437227405312)) 9218868437227405312) = if ng then 1 else -1 := by
  cases ng <;> rfl
theorem rUp_down (ng odd : Bool) (left : Int) : rUp 1 ng odd left = (decide (left ≠ 0) && ng) := rfl
theorem rUp_up (ng odd : Bool) (left : Int) : rUp 2 ng odd left = (decide (left ≠ 0) && !ng) := rfl
theorem rUp_zero (ng odd : Bool) (left : Int) : rUp 3 ng odd left = false := rfl
/-- The rungs of the four ways, below the infinite one. -/
theorem rTo_fin {ng : Bool} {r0 : Nat} {left : Int} (h : (r0 : Int) < 9218868437227405312) :
    rTo 1 ng r0 left = (if left ≠ 0 ∧ ng = true then ((r0 + 1 : Nat) : Int) else (r0 : Int)) ∧ rTo 2 ng r0 left = (if left ≠ 0 ∧ ng = false then ((r0 + 1 : Nat) : Int) else (r0 : Int)) ∧ rTo 3 ng r0 left = (r0 : Int) ∧ (rTo 0 ng r0 left = (r0 : Int) ∨ (left ≠ 0 ∧ rTo 0 ng r0 left = ((r0 + 1 : Nat) : Int))) := by
  unfold rTo
  simp only [if_pos h]
  refine ⟨?_, ?_, ?_, ?_⟩
  · rw [rUp_down]
    by_cases h0 : left = 0
    · subst h0; simp
    · cases ng <;> simp [h0]
  · rw [rUp_up]
    by_cases h0 : left = 0
    · subst h0; simp
    · cases ng <;> simp [h0]
  · rw [rUp_zero]
    simp
  · cases hu : rUp 0 ng (decide (r0 % 2 = 1)) left
    · left; simp
    · right
      refine ⟨fun hz => ?_, by simp⟩
      rw [hz] at hu
      exact rUp_left hu
theorem rTo_inf {ng : Bool} {r0 : Nat} {left : Int} (h : ¬ (r0 : Int) < 9218868437227405312) :
    rTo 1 ng r0 left = (if ng = true then 9218868437227405312 else 9218868437227405311) ∧ rTo 2 ng r0 left = (if ng = true then 9218868437227405311 else 9218868437227405312) ∧ rTo 3 ng r0 left = 9218868437227405311 ∧ rTo 0 ng r0 left = 9218868437227405312 := by
  unfold rTo
  simp only [if_neg h]
  cases ng <;> decide
end Go.Proofs.YtheiinclgfgneaaDoor

/-
  Plain mathematics: neighbours of patterns; the four ways are neighbours around the number.
-/
namespace Go.Proofs.YtheiinclgfgneaaDoor
open Go Go.RowKit Go.Proofs.YtheiinclgfgneaaDoor.M
set_option linter.unusedSimpArgs false
set_option linter.unusedVariables false

theorem cls_rg {b : Int} (hb : rng b) : (cls b = 4 ↔ 9218868437227405312 < rg b) ∧ (cls b = 0 ↔ rg b = 0) := by
  obtain ⟨h0, h1⟩ := rg_parts hb
  have hf : 0 ≤ frc b ∧ frc b < 4503599627370496 := by unfold frc; omega
  have hg : 0 ≤ fld b ∧ fld b < 2048 := by unfold fld; omega
  generalize rg b = r at *
  unfold cls
  generalize fld b = f at *
  generalize frc b = c at *
  constructor
  · split
    · split <;> constructor <;> intro h <;> omega
    · split
      · split <;> constructor <;> intro h <;> omega
      · constructor <;> intro h <;> omega
  · split
    · split <;> constructor <;> intro h <;> omega
    · split
      · split <;> constructor <;> intro h <;> omega
      · constructor <;> intro h <;> omega
theorem up_pos {r : Int} (h0 : 0 ≤ r) (h1 : r < 9218868437227405312) : canon (next (patS false r)) = r + 1 := by
  have e : patS false r = r := rfl
  rw [e]
  have a1 : rng r := by unfold rng; omega
  have a2 : rng (r + 1) := by unfold rng; omega
  have g1 : rg r = r := by unfold rg; rw [if_neg (by omega)]
  have g2 : rg (r + 1) = r + 1 := by unfold rg; rw [if_neg (by omega)]
  have c1 := cls_rg a1
  have c2 := cls_rg a2
  rw [g1] at c1
  rw [g2] at c2
  have n : next r = r + 1 := by
    unfold next
    rw [if_neg (by rw [c1.1]; omega), if_neg (by omega), if_neg (by omega), if_neg (by omega)]
  rw [n]
  unfold canon
  rw [if_neg (by rw [c2.1]; omega), if_neg (by rw [c2.2]; omega)]
theorem up_neg {r : Int} (h0 : 0 < r) (h1 : r ≤ 9218868437227405312) : canon (next (patS true r)) = patS (decide (0 < r - 1)) (r - 1) := by
  have e : patS true r = r - 9223372036854775808 := rfl
  rw [e]
  have a1 : rng (r - 9223372036854775808) := by unfold rng; omega
  have a2 : rng (r - 9223372036854775808 - 1) := by unfold rng; omega
  have g1 : rg (r - 9223372036854775808) = r := by unfold rg; rw [if_pos (by omega)]; omega
  have g2 : rg (r - 9223372036854775808 - 1) = r - 1 := by unfold rg; rw [if_pos (by omega)]; omega
  have c1 := cls_rg a1
  have c2 := cls_rg a2
  rw [g1] at c1
  rw [g2] at c2
  have n : next (r - 9223372036854775808) = r - 9223372036854775808 - 1 := by
    unfold next
    rw [if_neg (by rw [c1.1]; omega), if_neg (by omega), if_neg (by omega), if_pos (by omega)]
  rw [n]
  unfold canon
  rw [if_neg (by rw [c2.1]; omega)]
  by_cases h : r - 1 = 0
  · rw [if_pos (c2.2.2 h), h]
    rfl
  · rw [if_neg (by rw [c2.2]; exact h), decide_eq_true (by omega)]
    unfold patS
    rw [if_pos rfl]
    omega
end Go.Proofs.YtheiinclgfgneaaDoor

/-
  Plain mathematics: down, up, to 0 and to the nearest are neighbours around the number.
-/
namespace Go.Proofs.YtheiinclgfgneaaDoor
open Go Go.RowKit Go.Proofs.YtheiinclgfgneaaDoor.M
set_option linter.unusedSimpArgs false
set_option linter.unusedVariables false

structure Btw (V : Int) (ng : Bool) (f : Int → Int × Bool) : Prop where
  o2 : (f 2).2 = (f 1).2
  o3 : (f 3).2 = (f 1).2
  o0 : (f 0).2 = (f 1).2
  lo : ¬ ordP V (f 1).1 < 0
  hi : ¬ 0 < ordP V (f 2).1
  ex : (f 1).2 = false → ordP V (f 1).1 = 0 ∧ (f 2).1 = (f 1).1 ∧ (f 3).1 = (f 1).1 ∧ (f 0).1 = (f 1).1
  up : (f 1).2 = true → ordP V (f 1).1 ≠ 0 ∧ canon (next (f 1).1) = (f 2).1 ∧ ((f 0).1 = (f 1).1 ∨ (f 0).1 = (f 2).1) ∧ (ng = false → (f 3).1 = (f 1).1) ∧ (ng = true → (f 3).1 = (f 2).1)
theorem ord_self (a : Int) : ord a a = 0 := by unfold ord; rw [if_neg (by omega), if_neg (by omega)]
/-- What the four ways answer, as rungs: down, up, to 0, to the nearest. -/
theorem Btw.of {V : Int} {ng : Bool} {f : Int → Int × Bool} {o : Bool} {d u z n : Int} (f1 : f 1 = (patS (ng && decide (0 < d)) d, o)) (f2 : f 2 = (patS (ng && decide (0 < u)) u, o)) (f3 : f 3 = (patS (ng && decide (0 < z)) z, o)) (f0 : f 0 = (patS (ng && decide (0 < n)) n, o))
    (lo : ¬ ordP V (patS (ng && decide (0 < d)) d) < 0) (hi : ¬ 0 < ordP V (patS (ng && decide (0 < u)) u)) (ex : o = false → ordP V (patS (ng && decide (0 < d)) d) = 0 ∧ u = d ∧ z = d ∧ n = d)
    (up : o = true → ordP V (patS (ng && decide (0 < d)) d) ≠ 0 ∧ canon (next (patS (ng && decide (0 < d)) d)) = patS (ng && decide (0 < u)) u ∧ (n = d ∨ n = u) ∧ (ng = false → z = d) ∧ (ng = true → z = u)) : Btw V ng f := by
  refine ⟨by rw [f1, f2], by rw [f1, f3], by rw [f1, f0], by rw [f1]; exact lo, by rw [f2]; exact hi, fun h => ?_, fun h => ?_⟩
  · rw [f1] at h
    obtain ⟨a, b, c, e⟩ := ex h
    rw [f1, f2, f3, f0, b, c, e]
    exact ⟨a, rfl, rfl, rfl⟩
  · rw [f1] at h
    obtain ⟨a, b, c, e, g⟩ := up h
    rw [f1, f2, f3, f0]
    refine ⟨a, b, ?_, fun q => by rw [e q], fun q => by rw [g q]⟩
    rcases c with c | c
    · left; rw [c]
    · right; rw [c]
theorem k_top {r : Nat} (h : (r : Int) < 9218868437227405312) (g : ¬ ((r + 1 : Nat) : Int) < 9218868437227405312) : ((r + 1 : Nat) : Int) = 9218868437227405312 := by omega
theorem k_pos (r : Nat) : (0 : Int) < ((r + 1 : Nat) : Int) := by omega
theorem k_le {r : Nat} (h : (r : Int) < 9218868437227405312) : ((r + 1 : Nat) : Int) ≤ 9218868437227405312 := by omega
theorem k_sub (r : Nat) : ((r + 1 : Nat) : Int) - 1 = (r : Int) := by omega
theorem k_one (r : Nat) : ((r + 1 : Nat) : Int) = (r : Int) + 1 := by omega
theorem k_lt {r k : Nat} (hk : (9218868437227405311 : Int) = (k : Int)) (h : ¬ (r : Int) < 9218868437227405312) : k < r := by omega
theorem k_ex : ∃ k : Nat, (9218868437227405311 : Int) = (k : Int) := ⟨9218868437227405311, rfl⟩
theorem k_fin {k : Nat} (hk : (9218868437227405311 : Int) = (k : Int)) : (k : Int) < 9218868437227405312 ∧ (k : Int) + 1 = 9218868437227405312 ∧ (9218868437227405312 : Int) - 1 = (k : Int) := by omega
theorem ord_sg_lt {ng : Bool} {A B : Int} (h : A < B) : ord (sg ng A) (sg ng B) = if ng then 1 else -1 := by
  cases ng
  · exact ord_lt h
  · exact ord_gt (Int.neg_lt_neg h)
theorem ord_sg_gt {ng : Bool} {A B : Int} (h : B < A) : ord (sg ng A) (sg ng B) = if ng then -1 else 1 := by
  cases ng
  · exact ord_gt h
  · exact ord_lt (Int.neg_lt_neg h)
theorem sg_prod (ng : Bool) (a b : Int) : sg ng a * b = sg ng (a * b) := by
  unfold sg
  cases ng
  · rfl
  · exact Int.neg_mul a b
theorem between {x : NumR} (ok : okR x = true) : Btw x.V x.ng (fun way => toR way x) := by
  by_cases h0 : x.n = 0
  · have hz : x.ng = false := by
      have := of_decide_eq_true ok
      rcases this with ⟨_, a, b⟩ | ⟨a, _⟩
      · exact a
      · omega
    have hv : x.V = 0 := by
      have hv : val x.d x.n = 0 := by rw [h0]; rfl
      unfold NumR.V
      rw [hv, sg_zero, Int.zero_mul]
    have hp : ordP x.V (patS (x.ng && decide ((0 : Int) < 0)) 0) = 0 := by
      have := ordP_pat (A := x.V) (ng := x.ng) (r := 0) (by decide)
      rw [vS_zero, hv, hz] at this
      rw [hv, hz]
      exact this
    have hz0 : ∀ way, toR way x = (patS (x.ng && decide ((0 : Int) < 0)) 0, false) := fun way => by
      rw [to_zero ok h0, hz]
      rfl
    exact Btw.of (f := fun way => toR way x) (hz0 1) (hz0 2) (hz0 3) (hz0 0) (by rw [hp]; decide) (by rw [hp]; decide) (fun _ => ⟨hp, rfl, rfl, rfl⟩) (fun h => by cases h)
  · obtain ⟨r0, left, hR, hf⟩ := to_all ok (by omega)
    obtain ⟨A, hA⟩ : ∃ A, val x.d x.n * pw x.e = A := ⟨_, rfl⟩
    rw [hA] at hR
    have hV : x.V = sg x.ng A := by
      unfold NumR.V
      rw [← hA]
      exact sg_prod _ _ _
    clear hA
    have lo := hR.lo
    have hi := hR.hi
    have l0 := hR.l0
    rw [hV]
    by_cases hr : (r0 : Int) < 9218868437227405312
    · obtain ⟨t1, t2, t3, t0⟩ := rTo_fin (ng := x.ng) (left := left) hr
      have ho : (decide (left ≠ 0) || decide (9218868437227405312 ≤ (r0 : Int))) = decide (left ≠ 0) := by rw [decide_eq_false (p := 9218868437227405312 ≤ (r0 : Int)) (Int.not_le.2 hr), Bool.or_false]
      rw [ho] at hf
      have P0 := ordP_pat (A := sg x.ng A) (ng := x.ng) hr
      by_cases hl : left = 0
      · have hAe := l0.1 hl
        have e1 : rTo 1 x.ng r0 left = (r0 : Int) := by rw [t1, if_neg (fun h => h.1 hl)]
        have e2 : rTo 2 x.ng r0 left = (r0 : Int) := by rw [t2, if_neg (fun h => h.1 hl)]
        have e0 : rTo 0 x.ng r0 left = (r0 : Int) := by rcases t0 with h | h; exact h; exact absurd hl h.1
        rw [hAe, ord_self] at P0
        refine Btw.of (f := fun way => toR way x) (hf 1) (hf 2) (hf 3) (hf 0) ?_ ?_ ?_ ?_
        · rw [e1, hAe, P0]; decide
        · rw [e2, hAe, P0]; decide
        · intro _; rw [e1, e2, t3, e0, hAe]; exact ⟨P0, rfl, rfl, rfl⟩
        · intro h; exact absurd hl (of_decide_eq_true h)
      · have hAl : vS r0 < A := by
          rcases Int.lt_or_eq_of_le lo with h | h
          · exact h
          · exact absurd (l0.2 h.symm) hl
        have P1 : ordP (sg x.ng A) (patS (x.ng && decide ((0 : Int) < ((r0 + 1 : Nat) : Int))) ((r0 + 1 : Nat) : Int)) = if x.ng then 1 else -1 := by
          by_cases h1 : ((r0 + 1 : Nat) : Int) < 9218868437227405312
          · rw [ordP_pat h1]
            exact ord_sg_lt hi
          · have e := k_top hr h1
            rw [e]
            exact ordP_inf
        have P0' : ordP (sg x.ng A) (patS (x.ng && decide ((0 : Int) < (r0 : Int))) (r0 : Int)) = if x.ng then -1 else 1 := by
          rw [P0]
          exact ord_sg_gt hAl
        clear hV
        generalize x.ng = ng at *
        cases ng
        · have e1 : rTo 1 false r0 left = (r0 : Int) := by rw [t1, if_neg (fun h => by cases h.2)]
          have e2 : rTo 2 false r0 left = ((r0 + 1 : Nat) : Int) := by rw [t2, if_pos ⟨hl, rfl⟩]
          refine Btw.of (f := fun way => toR way x) (hf 1) (hf 2) (hf 3) (hf 0) ?_ ?_ ?_ ?_
          · rw [e1, P0']; decide
          · rw [e2, P1]; decide
          · intro h; exact absurd hl (by simpa using h)
          · intro _
            rw [e1, e2, t3, P0']
            refine ⟨by decide, ?_, ?_, (fun _ => rfl), (fun h => by cases h)⟩
            · rw [Bool.false_and, Bool.false_and, up_pos (Int.natCast_nonneg _) hr]; exact (k_one r0).symm
            · rcases t0 with h | h
              · exact .inl h
              · exact .inr h.2
        · have e1 : rTo 1 true r0 left = ((r0 + 1 : Nat) : Int) := by rw [t1, if_pos ⟨hl, rfl⟩]
          have e2 : rTo 2 true r0 left = (r0 : Int) := by rw [t2, if_neg (fun h => by cases h.2)]
          refine Btw.of (f := fun way => toR way x) (hf 1) (hf 2) (hf 3) (hf 0) ?_ ?_ ?_ ?_
          · rw [e1, P1]; decide
          · rw [e2, P0']; decide
          · intro h; exact absurd hl (by simpa using h)
          · intro _
            rw [e1, e2, t3, P1]
            refine ⟨by decide, ?_, ?_, (fun h => by cases h), fun _ => rfl⟩
            · rw [Bool.true_and, Bool.true_and, decide_eq_true (p := (0 : Int) < ((r0 + 1 : Nat) : Int)) (k_pos r0), up_neg (k_pos r0) (k_le hr), k_sub]
            · rcases t0 with h | h
              · exact .inr h
              · exact .inl h.2
    · obtain ⟨t1, t2, t3, t0⟩ := rTo_inf (ng := x.ng) (left := left) hr
      have ho : (decide (left ≠ 0) || decide (9218868437227405312 ≤ (r0 : Int))) = true := by rw [decide_eq_true (p := 9218868437227405312 ≤ (r0 : Int)) (Int.not_lt.1 hr), Bool.or_true]
      rw [ho] at hf
      obtain ⟨k, hk⟩ := k_ex
      obtain ⟨hk1, hk2, hk3⟩ := k_fin hk
      have hAl : vS k < A := Int.lt_of_lt_of_le (vS_lt (k_lt hk hr)) lo
      have P0 : ordP (sg x.ng A) (patS (x.ng && decide ((0 : Int) < (k : Int))) (k : Int)) = if x.ng then -1 else 1 := by
        refine (ordP_pat (A := sg x.ng A) (ng := x.ng) hk1).trans ?_
        exact ord_sg_gt hAl
      rw [hk] at t1 t2 t3
      have P1 : ordP (sg x.ng A) (patS (x.ng && decide ((0 : Int) < 9218868437227405312)) 9218868437227405312) = if x.ng then 1 else -1 := ordP_inf
      clear hV hR lo hi l0
      generalize x.ng = ng at *
      cases ng
      · rw [if_neg (by decide)] at t1 t2
        refine Btw.of (f := fun way => toR way x) (hf 1) (hf 2) (hf 3) (hf 0) ?_ ?_ ?_ ?_
        · rw [t1, P0]; decide
        · rw [t2, P1]; decide
        · intro h; cases h
        · intro _
          rw [t1, t2, t3, t0, P0]
          refine ⟨by decide, ?_, .inr rfl, (fun _ => rfl), (fun h => by cases h)⟩
          rw [Bool.false_and, Bool.false_and]
          rw [up_pos (Int.natCast_nonneg _) hk1, hk2]
          rfl
      · rw [if_pos rfl] at t1 t2
        refine Btw.of (f := fun way => toR way x) (hf 1) (hf 2) (hf 3) (hf 0) ?_ ?_ ?_ ?_
        · rw [t1, P1]; decide
        · rw [t2, P0]; decide
        · intro h; cases h
        · intro _
          rw [t1, t2, t3, t0, P1]
          refine ⟨by decide, ?_, .inl rfl, (fun h => by cases h), fun _ => rfl⟩
          rw [Bool.true_and, Bool.true_and]
          rw [decide_eq_true (p := (0 : Int) < 9218868437227405312) (by decide), up_neg (by decide) (Int.le_refl _), hk3]
end Go.Proofs.YtheiinclgfgneaaDoor

/-
  What a row that lists both layouts gives.
-/
namespace Go.Proofs.YtheiinclgfgneaaDoor
open Go Go.ChangeShapes Go.WideShapes Go.ChangeAt Go.RowKit Go.Proofs.YtheiinclgfgneaaDoor.M
set_option linter.unusedSimpArgs false
set_option linter.unusedVariables false

end Go.Proofs.YtheiinclgfgneaaDoor

/-
  Package dyadic: Sum, by its contract.
-/
namespace Go.Proofs.YtheiinclgfgneaaDoor
open Go Go.RowKit Go.Proofs.YtheiinclgfgneaaDoor.M
set_option linter.unusedSimpArgs false
set_option linter.unusedVariables false

theorem allOk_out {r : Nat → NumR} {n : Nat} (h : allOk r n = true) : ∀ i, i < n → okR (r i) = true := of_decide_eq_true h
end Go.Proofs.YtheiinclgfgneaaDoor

/-
  Numbers at the ends of what is valid: which have a valid form, which have none; calls that are known to tell a number or ErrLong.
-/
namespace Go.Proofs.YtheiinclgfgneaaDoor
open Go Go.RowKit Go.Proofs.YtheiinclgfgneaaDoor.M
set_option linter.unusedSimpArgs false
set_option linter.unusedVariables false

theorem P_one : (1 : Int) < P 2000 := by
  have := P2000_big2
  omega
theorem mk_one {ng : Bool} {e : Int} (h : -4194304 ≤ e) : mkV ng 1 e = sg ng 1 * pw e := by
  unfold mkV
  rw [if_neg (by decide), if_neg (by omega)]
theorem dy_one {ng : Bool} {e : Int} (h : -4194304 ≤ e) : Dy (mkV ng 1 e) ng 1 e := ⟨mk_one h, h, .inr ⟨by decide, by decide⟩⟩
theorem dok_one {ng : Bool} {e : Int} (h0 : -1048576 ≤ e) (h1 : e ≤ 1048576) : Dok (mkV ng 1 e) := (dy_one (by omega)).ok.2 ⟨P_one, h0, h1⟩
theorem nok_one {ng : Bool} {e : Int} (h : 1048576 < e ∨ e < -1048576) : ¬ Dok (mkV ng 1 e) := by
  by_cases h0 : e < -4194304
  · unfold mkV
    rw [if_neg (by decide), if_pos h0]
    exact not_dok_one
  · intro hk
    have := (dy_one (ng := ng) (e := e) (by omega)).ok.1 hk
    omega
theorem nok_two {e : Int} (h0 : -4194304 ≤ e) (h : 1048576 ≤ e) : ¬ Dok (mkV false 2 e) := by
  have e1 : mkV false 2 e = mkV false 1 (e + 1) := by
    rw [mk_one (by omega)]
    unfold mkV
    rw [if_neg (by decide), if_neg (by omega)]
    have := pw_add h0 1
    rw [show e + ((1 : Nat) : Int) = e + 1 from rfl] at this
    rw [this]
    simp only [sg]
    grind
  rw [e1]
  exact nok_one (.inl (by omega))
theorem one_sum {a b : Int} (h : b ≤ a) (h0 : -4194304 ≤ b) : mkV false 1 a + mkV false 1 b = (2 ^ (a - b).toNat + 1) * pw b := by
  rw [mk_one (by omega), mk_one (by omega), pw_sub h0 h]
  simp only [sg]
  generalize pw b = Q
  generalize (2 : Int) ^ (a - b).toNat = R
  grind
theorem nok_sum {a b : Int} (h : b + 60000 ≤ a) (h0 : -4194304 ≤ b) : ¬ Dok (mkV false 1 a + mkV false 1 b) := by
  rw [one_sum (by omega) h0]
  have hp := two_pos (a - b).toNat
  have ho : ((2 : Int) ^ (a - b).toNat + 1) % 2 = 1 := by
    obtain ⟨k, hk⟩ : ∃ k, (a - b).toNat = k + 1 := ⟨(a - b).toNat - 1, by omega⟩
    rw [hk, Int.pow_succ]
    omega
  have hd : Dy (((2 : Int) ^ (a - b).toNat + 1) * pw b) false (2 ^ (a - b).toNat + 1) b := ⟨rfl, h0, .inr ⟨by omega, ho⟩⟩
  intro hk
  have h1 := (hd.ok.1 hk).1
  have h2 : (2 : Int) ^ (30 * 2000) ≤ 2 ^ (a - b).toNat := two_le (by omega)
  rw [← P_two] at h2
  omega
theorem twice_one {ng : Bool} {e : Int} (h : -4194304 ≤ e) : mkV ng 1 e + mkV ng 1 e = mkV ng 1 (e + 1) := by
  rw [mk_one h, mk_one (by omega)]
  have := pw_add h 1
  rw [show e + ((1 : Nat) : Int) = e + 1 from rfl] at this
  rw [this]
  generalize pw e = Q
  cases ng <;> simp only [sg] <;> grind
theorem one_lt {a b : Int} (h : b < a) (h0 : -4194304 ≤ b) : mkV false 1 b < mkV false 1 a := by
  have h1 := one_sum (a := a) (b := b) (by omega) h0
  rw [mk_one (by omega), mk_one (by omega)] at *
  rw [pw_sub h0 (show b ≤ a by omega)]
  simp only [sg]
  have hp := pw_pos b
  have h2 : (2 : Int) ≤ 2 ^ (a - b).toNat := by
    have := two_le (show 1 ≤ (a - b).toNat by omega)
    rwa [show (2 : Int) ^ 1 = 2 from rfl] at this
  have h3 : 2 * pw b ≤ 2 ^ (a - b).toNat * pw b := Int.mul_le_mul_of_nonneg_right h2 (by omega)
  simp
  omega
theorem nok_prod {C : Int} (h : C * 2 ^ 4194304 = mkV true 1 (-1048576) * mkV true 1 (-1048576)) : ¬ Dok C := by
  have e : C = mkV false 1 (-2097152) := by
    refine scale_inj ?_
    rw [h, mk_one (by omega), mk_one (by omega)]
    have := pw_mul (a := -1048576) (b := -1048576) (by omega) (by omega)
    rw [show (-1048576 : Int) + -1048576 = -2097152 from rfl] at this
    generalize pw (-1048576) = Q at *
    generalize pw (-2097152) = R at *
    rw [show sg true 1 = -1 from rfl, show sg false 1 = 1 from rfl, Int.one_mul, ← this, show (-1 : Int) * Q = -Q by omega, Int.neg_mul_neg]
  rw [e]
  exact nok_one (.inr (by omega))
theorem dok_low2 : Dok (mkV true 1 (-1048576) + mkV true 1 (-1048576)) := by
  rw [twice_one (by omega)]
  exact dok_one (by omega) (by omega)
theorem nok_high2 : ¬ Dok (mkV false 1 1048576 + mkV false 1 1048576) := by
  rw [twice_one (by omega)]
  exact nok_one (.inl (by omega))
theorem dok_minus {V : Int} (h : Dok V) : Dok (-V) := by
  obtain ⟨ng, m, e, hy, h1⟩ := h
  rcases hy.form with ⟨h2, _, _⟩ | ⟨h2, _⟩
  · rw [hy.eq_zero.2 h2]; exact dok_zero
  · exact (hy.neg h2).ok.2 h1
theorem DFit.no {w w' : World} {V er : Int} {v : Value} (h : DFit w w' V v er) (no : ¬ Dok V) : er = 2 ∧ v = zeroV ∧ Below w.heap.size w w' := by
  rcases h.2 with ⟨ok, _⟩ | ⟨_, h1, h2⟩
  · exact absurd ok no
  · exact ⟨h1, h2, h.1⟩
def trip3 (x y z : NumR) : Nat → NumR := fun i => if i = 0 then x else if i = 1 then y else z
theorem nums3 {w : World} {g : Nat} {x y z : NumR} {t : TypeId} (h : w.heap[g]? = some (.cells #[.bool x.ng, .slice x.ao x.n x.cap, .int .i64 x.e, .bool y.ng, .slice y.ao y.n y.cap, .int .i64 y.e, .bool z.ng, .slice z.ao z.n z.cap, .int .i64 z.e] t (0, 0))) (hx : Row w x.ao x.n x.cap x.d) (hy : Row w y.ao y.n y.cap y.d) (hz : Row w z.ao z.n z.cap z.d) :
    Nums w (some ⟨g, 0, none⟩) 3 3 (trip3 x y z) :=
  ⟨Nat.le_refl _, by decide, fun _ => ⟨g, 0, rfl, (Array.getElem?_eq_some_iff.1 h).1, fun i hi => by
    match i, hi with
    | 0, _ => exact ⟨blkC h 0 rfl, blkC h 1 rfl, blkC h 2 rfl, hx⟩
    | 1, _ => exact ⟨blkC h 3 rfl, blkC h 4 rfl, blkC h 5 rfl, hy⟩
    | 2, _ => exact ⟨blkC h 6 rfl, blkC h 7 rfl, blkC h 8 rfl, hz⟩⟩⟩
theorem DNum.open2 {w : World} {ng : Bool} {so : Option Addr} {sn sc : Nat} {e V : Int} (h : DNum w (.agg #[.bool ng, .slice so sn sc, .int .i64 e]) V) (ok : Dok V) : ∃ d, Row w so sn sc d ∧ okR ⟨ng, so, sn, sc, d, e⟩ = true ∧ (⟨ng, so, sn, sc, d, e⟩ : NumR).V = V := by
  obtain ⟨x, h1, h2, h3, h4⟩ := h.open ok
  obtain ⟨xg, xo, xn, xc, xd, xe⟩ := x
  simp only [NumR.v, Value.agg.injEq, Array.mk.injEq, List.cons.injEq, Value.bool.injEq, Value.int.injEq, Value.slice.injEq, and_true, true_and] at h1
  obtain ⟨rfl, ⟨rfl, rfl, rfl⟩, rfl⟩ := h1
  exact ⟨xd, h2, h3, h4⟩
end Go.Proofs.YtheiinclgfgneaaDoor

/-
  What the laws of package round share: what a row gives, numbers told by their worth, round.To at all ways.
-/
namespace Go.Proofs.YtheiinclgfgneaaDoor
open Go Go.ChangeShapes Go.WideShapes Go.ChangeAt Go.RowKit Go.Proofs.YtheiinclgfgneaaDoor.M
set_option linter.unusedSimpArgs false
set_option linter.unusedVariables false

structure Hold4 (w : World) : Prop where
  lay : Lay64 w
  tab : Tab w
  env : Env w
theorem Hold4.keeps {w w' : World} (h : Hold4 w) (hb : Below w.heap.size w w') : Hold4 w' := ⟨h.lay.keeps hb, h.tab.keeps hb, h.env.keeps hb⟩
theorem P20_30 : P 20 ≤ P 30 := by unfold P; decide
theorem rTo_range (way : Int) (ng : Bool) (r0 : Nat) (left : Int) : 0 ≤ rTo way ng r0 left ∧ rTo way ng r0 left ≤ 9218868437227405312 := by
  unfold rTo
  split
  · split <;> omega
  · unfold bRung
    repeat' split
    all_goals decide
theorem toR_range {x : NumR} (ok : okR x = true) (way : Int) : rng (toR way x).1 := by
  by_cases h0 : x.n = 0
  · rw [to_zero ok h0]; unfold rng; decide
  · obtain ⟨r0, left, _, hf⟩ := to_all ok (by omega)
    rw [hf way]
    obtain ⟨h1, h2⟩ := rTo_range way x.ng r0 left
    exact (patS_facts h1 h2 (fun h => by
      cases hx : x.ng
      · rw [hx] at h; cases h
      · rw [hx, Bool.true_and] at h; exact of_decide_eq_true h)).1
end Go.Proofs.YtheiinclgfgneaaDoor

/-
  Plain mathematics: a number and its rung, for 0 too; which neighbour is nearer.
-/
namespace Go.Proofs.YtheiinclgfgneaaDoor
open Go Go.RowKit Go.Proofs.YtheiinclgfgneaaDoor.M
set_option linter.unusedSimpArgs false
set_option linter.unusedVariables false

/-- What the four ways answer at a number, by its rung. -/
def RdOf (V : Int) (ng : Bool) (f : Int → Int × Bool) : Prop := ∃ (A : Int) (r0 : Nat) (left : Int), V = sg ng A ∧ (ng = true → 0 < A) ∧ Rung A r0 left ∧ ∀ way, f way = (patS (ng && decide (0 < rTo way ng r0 left)) (rTo way ng r0 left), decide (left ≠ 0) || decide (9218868437227405312 ≤ (r0 : Int)))
theorem rung_zero_aux {a b : Int} (h0 : a = 0) (h1 : a < b) : (0 : Int) < b ∧ (((0 : Int) = 0 ↔ (0 : Int) = a) ∧ ((0 : Int) = 1 ↔ a < 0 ∧ 2 * 0 < a + b) ∧ ((0 : Int) = 2 ↔ 2 * 0 = a + b) ∧ ((0 : Int) = 3 ↔ a + b < 2 * 0)) := by
  subst h0
  exact ⟨h1, by omega, by omega, by omega, by omega⟩
theorem rung_zero : Rung 0 0 0 := by
  have h1 := vS_lt (show 0 < 0 + 1 by decide)
  have h0 := vS_zero
  obtain ⟨q, a, b, c, d⟩ := rung_zero_aux h0 h1
  exact ⟨Int.le_of_eq h0, q, a, b, c, d⟩
theorem rTo_zero (way : Int) : rTo way false 0 0 = 0 := by
  unfold rTo
  rw [if_pos (by decide)]
  cases h : rUp way false (decide (0 % 2 = 1)) 0
  · rfl
  · exact (rUp_left h).elim
theorem val_posA {x : NumR} (ok : okR x = true) (h0 : 0 < x.n) : 0 < val x.d x.n * pw x.e := by
  obtain ⟨na, _⟩ := okR_sane ok
  exact Int.mul_pos (val_pos na h0) (pw_pos _)
theorem to_rd {x : NumR} (ok : okR x = true) : RdOf x.V x.ng (fun way => toR way x) := by
  by_cases h0 : x.n = 0
  · have hz : x.ng = false := by
      have := of_decide_eq_true ok
      rcases this with ⟨_, a, b⟩ | ⟨a, _⟩
      · exact a
      · omega
    have hv : x.V = 0 := by
      have hv : val x.d x.n = 0 := by rw [h0]; rfl
      unfold NumR.V
      rw [hv, sg_zero, Int.zero_mul]
    refine ⟨0, 0, 0, by rw [hv, hz]; rfl, (fun h => by rw [hz] at h; cases h), rung_zero, fun way => ?_⟩
    rw [hz, rTo_zero]
    exact to_zero ok h0 way
  · obtain ⟨r0, left, hR, hf⟩ := to_all ok (by omega)
    have hp := val_posA ok (by omega)
    have hV : x.V = sg x.ng (val x.d x.n * pw x.e) := by
      unfold NumR.V
      exact sg_prod _ _ _
    exact ⟨_, r0, left, hV, (fun _ => hp), hR, hf⟩
theorem ord_neg_iff {a b : Int} : ord a b < 0 ↔ a < b := by
  rcases Int.lt_trichotomy a b with h | h | h
  · rw [ord_lt h]; exact ⟨fun _ => h, fun _ => by decide⟩
  · rw [ord_eq h]; exact ⟨fun q => absurd q (by decide), fun q => by omega⟩
  · rw [ord_gt h]; exact ⟨fun q => absurd q (by decide), fun q => by omega⟩
theorem ord_pos_iff {a b : Int} : 0 < ord a b ↔ b < a := by
  rcases Int.lt_trichotomy a b with h | h | h
  · rw [ord_lt h]; exact ⟨fun q => absurd q (by decide), fun q => by omega⟩
  · rw [ord_eq h]; exact ⟨fun q => absurd q (by decide), fun q => by omega⟩
  · rw [ord_gt h]; exact ⟨fun _ => h, fun _ => by decide⟩
theorem ord_zero_iff {a b : Int} : ord a b = 0 ↔ a = b := by
  rcases Int.lt_trichotomy a b with h | h | h
  · rw [ord_lt h]; exact ⟨fun q => absurd q (by decide), fun q => by omega⟩
  · rw [ord_eq h]; exact ⟨fun _ => h, fun _ => rfl⟩
  · rw [ord_gt h]; exact ⟨fun q => absurd q (by decide), fun q => by omega⟩
theorem near_pos {A a b left : Int} (l1 : left = 1 ↔ a < A ∧ 2 * A < a + b) (l2 : left = 2 ↔ 2 * A = a + b) (l3 : left = 3 ↔ a + b < 2 * A) (lo : a < A) :
    (ord (A - a) (b - A) < 0 → left = 1) ∧ (0 < ord (A - a) (b - A) → left = 3) ∧ (ord (A - a) (b - A) = 0 → left = 2) :=
  ⟨fun h => l1.2 ⟨lo, by have := ord_neg_iff.1 h; omega⟩, fun h => l3.2 (by have := ord_pos_iff.1 h; omega), fun h => l2.2 (by have := ord_zero_iff.1 h; omega)⟩
theorem near_neg {A a b left : Int} (l1 : left = 1 ↔ a < A ∧ 2 * A < a + b) (l2 : left = 2 ↔ 2 * A = a + b) (l3 : left = 3 ↔ a + b < 2 * A) (lo : a < A) :
    (ord (-A - -b) (-a - -A) < 0 → left = 3) ∧ (0 < ord (-A - -b) (-a - -A) → left = 1) ∧ (ord (-A - -b) (-a - -A) = 0 → left = 2) :=
  ⟨fun h => l3.2 (by have := ord_neg_iff.1 h; omega), fun h => l1.2 ⟨lo, by have := ord_pos_iff.1 h; omega⟩, fun h => l2.2 (by have := ord_zero_iff.1 h; omega)⟩
theorem near_posS {A a b left : Int} (l1 : left = 1 ↔ a < A ∧ 2 * A < a + b) (l2 : left = 2 ↔ 2 * A = a + b) (l3 : left = 3 ↔ a + b < 2 * A) (lo : a < A) :
    (ord (sg false A - sg false a) (sg false b - sg false A) < 0 → left = 1) ∧ (0 < ord (sg false A - sg false a) (sg false b - sg false A) → left = 3) ∧ (ord (sg false A - sg false a) (sg false b - sg false A) = 0 → left = 2) := near_pos l1 l2 l3 lo
theorem near_negS {A a b left : Int} (l1 : left = 1 ↔ a < A ∧ 2 * A < a + b) (l2 : left = 2 ↔ 2 * A = a + b) (l3 : left = 3 ↔ a + b < 2 * A) (lo : a < A) :
    (ord (sg true A - sg true b) (sg true a - sg true A) < 0 → left = 3) ∧ (0 < ord (sg true A - sg true b) (sg true a - sg true A) → left = 1) ∧ (ord (sg true A - sg true b) (sg true a - sg true A) = 0 → left = 2) := near_neg l1 l2 l3 lo
theorem rTo0_1 {ng : Bool} {r0 : Nat} (h : (r0 : Int) < 9218868437227405312) : rTo 0 ng r0 1 = (r0 : Int) := by
  unfold rTo
  rw [if_pos h]
  simp [rUp]
theorem rTo0_3 {ng : Bool} {r0 : Nat} (h : (r0 : Int) < 9218868437227405312) : rTo 0 ng r0 3 = ((r0 + 1 : Nat) : Int) := by
  unfold rTo
  rw [if_pos h]
  simp [rUp]
theorem rTo0_2 {ng : Bool} {r0 : Nat} (h : (r0 : Int) < 9218868437227405312) : rTo 0 ng r0 2 % 2 = 0 := by
  unfold rTo
  rw [if_pos h]
  by_cases hp : r0 % 2 = 1
  · simp [rUp, hp]; omega
  · simp [rUp, hp]; omega
theorem patS_even {b : Bool} {r : Int} (h : r % 2 = 0) : patS b r % 2 = 0 := by
  unfold patS
  cases b
  · exact h
  · show (r - 9223372036854775808) % 2 = 0; omega
theorem and_pos {ng : Bool} {r : Int} (h : (ng && decide (0 < r)) = true) : 0 < r := by
  cases ng
  · cases h
  · rw [Bool.true_and] at h; exact of_decide_eq_true h
theorem pat_fin {ng : Bool} {r : Int} (h0 : 0 ≤ r) (h1 : r ≤ 9218868437227405312) (h : pok (patS (ng && decide (0 < r)) r) = true) : r < 9218868437227405312 := by
  rw [patS_pok h0 h1 and_pos] at h
  exact of_decide_eq_true h
theorem patV_rung {ng : Bool} {r : Nat} (h : (r : Int) < 9218868437227405312) : patV (patS (ng && decide ((0 : Int) < (r : Int))) (r : Int)) = sg ng (vS r) := by
  rw [patV_patS h (fun q => by have := and_pos q; omega)]
  by_cases h0 : r = 0
  · subst h0
    rw [vS_zero]
    simp [sg]
  · have e : (ng && decide ((0 : Int) < (r : Int))) = ng := by rw [decide_eq_true (by omega), Bool.and_true]
    rw [e]
structure Nea (V : Int) (f : Int → Int × Bool) : Prop where
  lo : ord (V - patV (f 1).1) (patV (f 2).1 - V) < 0 → (f 0).1 = (f 1).1
  hi : 0 < ord (V - patV (f 1).1) (patV (f 2).1 - V) → (f 0).1 = (f 2).1
  ev : ord (V - patV (f 1).1) (patV (f 2).1 - V) = 0 → (f 0).1 % 2 = 0
theorem Nea.of {V : Int} {f : Int → Int × Bool} {d u n p q : Int} {o : Bool} (f1 : f 1 = (d, o)) (f2 : f 2 = (u, o)) (f0 : f 0 = (n, o)) (hd : patV d = p) (hu : patV u = q)
    (lo : ord (V - p) (q - V) < 0 → n = d) (hi : 0 < ord (V - p) (q - V) → n = u) (ev : ord (V - p) (q - V) = 0 → n % 2 = 0) : Nea V f := by
  subst hd hu
  exact ⟨by rw [f1, f2, f0]; exact lo, by rw [f1, f2, f0]; exact hi, by rw [f1, f2, f0]; exact ev⟩
theorem nearest {V : Int} {ng : Bool} {f : Int → Int × Bool} (h : RdOf V ng f) (o : (f 0).2 = true) (pd : pok (f 1).1 = true) (pu : pok (f 2).1 = true) : Nea V f := by
  obtain ⟨A, r0, left, hV, hA, hR, hf⟩ := h
  have f1 := hf 1
  have f2 := hf 2
  have f0 := hf 0
  rw [f1] at pd
  rw [f2] at pu
  rw [f0] at o
  have g1 := rTo_range 1 ng r0 left
  have g2 := rTo_range 2 ng r0 left
  have q1 := pat_fin g1.1 g1.2 pd
  have q2 := pat_fin g2.1 g2.2 pu
  clear pd pu hf g1 g2
  by_cases hr : (r0 : Int) < 9218868437227405312
  · obtain ⟨t1, t2, t3, t0⟩ := rTo_fin (ng := ng) (left := left) hr
    have hl : left ≠ 0 := by
      have o' : (decide (left ≠ 0) || decide (9218868437227405312 ≤ (r0 : Int))) = true := o
      rw [decide_eq_false (p := 9218868437227405312 ≤ (r0 : Int)) (Int.not_le.2 hr), Bool.or_false] at o'
      exact of_decide_eq_true o'
    have hAl : vS r0 < A := by
      rcases Int.lt_or_eq_of_le hR.lo with h | h
      · exact h
      · exact absurd (hR.l0.2 h.symm) hl
    have l1 := hR.l1
    have l2 := hR.l2
    have l3 := hR.l3
    clear hR t3 t0 hA
    have V0 := patV_rung (ng := ng) hr
    cases ng
    · have e1 : rTo 1 false r0 left = (r0 : Int) := by rw [t1, if_neg (fun h => by cases h.2)]
      have e2 : rTo 2 false r0 left = ((r0 + 1 : Nat) : Int) := by rw [t2, if_pos ⟨hl, rfl⟩]
      rw [e1] at f1
      rw [e2] at f2 q2
      have V1 := patV_rung (ng := false) q2
      obtain ⟨n1, n2, n3⟩ := near_posS l1 l2 l3 hAl
      refine Nea.of f1 f2 f0 V0 V1 ?_ ?_ ?_
      · intro h
        rw [hV] at h
        have := n1 h
        subst this
        rw [rTo0_1 hr]
      · intro h
        rw [hV] at h
        have := n2 h
        subst this
        rw [rTo0_3 hr]
      · intro h
        rw [hV] at h
        have := n3 h
        subst this
        exact patS_even (rTo0_2 hr)
    · have e1 : rTo 1 true r0 left = ((r0 + 1 : Nat) : Int) := by rw [t1, if_pos ⟨hl, rfl⟩]
      have e2 : rTo 2 true r0 left = (r0 : Int) := by rw [t2, if_neg (fun h => by cases h.2)]
      rw [e1] at f1 q1
      rw [e2] at f2
      have V1 := patV_rung (ng := true) q1
      obtain ⟨n1, n2, n3⟩ := near_negS l1 l2 l3 hAl
      refine Nea.of f1 f2 f0 V1 V0 ?_ ?_ ?_
      · intro h
        rw [hV] at h
        have := n1 h
        subst this
        rw [rTo0_3 hr]
      · intro h
        rw [hV] at h
        have := n2 h
        subst this
        rw [rTo0_1 hr]
      · intro h
        rw [hV] at h
        have := n3 h
        subst this
        exact patS_even (rTo0_2 hr)
  · exfalso
    obtain ⟨t1, t2, t3, t0⟩ := rTo_inf (ng := ng) (left := left) hr
    rw [t1] at q1
    rw [t2] at q2
    clear f1 f2 f0 o hV hA hR
    cases ng
    · rw [if_neg (by decide)] at q2; omega
    · rw [if_pos rfl] at q1; omega
end Go.Proofs.YtheiinclgfgneaaDoor
