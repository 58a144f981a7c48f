/-
  Parts of the proof, one behind another.
-/
import Derived.Test.YtjlmpgbadgkgmaaGreatDoorPart14
import Derived.Test.YtjlmpgbadgkgmaaGreatDoorPart23
import Derived.Test.YtjlmpgbadgkgmaaGreatDoorPart7
import Derived.Test.YtjlmpgbadgkgmaaGreatDoorPart3
import Derived.Test.YtjlmpgbadgkgmaaGreatDoorPart9
import Derived.Test.YtjlmpgbadgkgmaaGreatDoorPart8
import Derived.Test.YtjlmpgbadgkgmaaGreatDoorPart6
import Derived.Laws.MakeOwn
/-
  The document's single operations (plumbref4): plus, by its contract.
-/
namespace Go.Proofs.YtjlmpgbadgkgmaaGreatDoor
open Go Go.RowKit Go.Proofs.YtjlmpgbadgkgmaaGreatDoor.M
set_option linter.unusedSimpArgs false
set_option linter.unusedVariables false

theorem cut_D (way : Int) (hw : 0 ≤ way ∧ way ≤ 3) {g : Bool} {so : Option Addr} {sn sc : Nat} {e S : Int} {w : World} (h : DNum w (.agg #[.bool g, .slice so sn sc, .int .i64 e]) S) (ok : Dok S) (h0 : S ≠ 0) :
    Calls Tryz.prog 124 #[k64V, .bool g, .slice so sn sc, .int .i64 e, .bool false, .int .i64 way] w fun x w' => ∃ p o, x = .returned (.tuple #[.int .i64 p, .bool o]) ∧ Below w.heap.size w w' ∧ RdW way (decide (S < 0)) S.natAbs p := by
  obtain ⟨ng, s, m, e', h1, hy, ao, n, cap, d, h2, hR, hN, hv⟩ := h
  simp only [Value.agg.injEq, Array.mk.injEq, List.cons.injEq, Value.bool.injEq, Value.int.injEq, true_and, and_true] at h1
  obtain ⟨rfl, rfl, rfl⟩ := h1
  simp only [Value.slice.injEq] at h2
  obtain ⟨rfl, rfl, rfl⟩ := h2
  obtain ⟨k1, k2, k3⟩ := hy.ok.1 ok
  have hm0 : m ≠ 0 := fun q => h0 (hy.eq_zero.2 q)
  have hmp : 0 < m := by have := hy.nonneg; omega
  have hsn : sn ≤ 2000 := by
    have hNN : Num w (.slice so sn sc) m := ⟨_, _, _, _, rfl, hR, hN, hv⟩
    exact hNN.len k1
  have hs0 : 0 < sn := by
    rcases Nat.eq_zero_or_pos sn with q | q
    · subst q
      exact absurd (hv.symm.trans rfl) hm0
    · exact q
  have hng : g = decide (S < 0) := by
    have := hy.neg_iff
    cases g
    · symm; exact decide_eq_false (fun q => by simpa using this.2 q)
    · symm; exact decide_eq_true (this.1 rfl)
  have hA : Held (S.natAbs : Int) (val d sn).toNat e false := by
    have e1 : (((val d sn).toNat : Nat) : Int) = m := by omega
    have e2 := sg_abs hy
    unfold Held
    rw [e1, e2, Int.add_mul, Int.one_mul, e2]
    have := pw_pos e
    refine ⟨Int.le_refl _, by omega, by simp⟩
  refine (cut64_any way hw g so sn sc d e false w hR hN (by omega) hs0 (by omega) hA (fun q => by cases q)).mono ?_
  rintro x w' ⟨p, o, r0, left, rfl, hb, h4, h5, h6⟩
  exact ⟨p, o, rfl, hb, r0, left, h4, by rw [← hng]; exact h5⟩
/-- What a sum of two finite ones is rounded to. -/
def PlusR (way : Int) (pn qn : Bool) (Vp Vq : Int) (r : Int) : Prop :=
  (Vp + Vq = 0 → r = patS (if Vp = 0 ∧ pn = qn then pn else decide (way = 1)) 0) ∧ (Vp + Vq ≠ 0 → RdW way (decide (Vp + Vq < 0)) (Vp + Vq).natAbs r)
theorem num_len {w : World} {g : Bool} {so : Option Addr} {sn sc : Nat} {e S : Int} (h : DNum w (.agg #[.bool g, .slice so sn sc, .int .i64 e]) S) : (sn = 0 ↔ S = 0) ∧ sn ≤ 9223372036854775807 := by
  obtain ⟨ng, s, m, e', h1, hy, ao, n, cap, d, h2, hR, hN, hv⟩ := h
  simp only [Value.agg.injEq, Array.mk.injEq, List.cons.injEq, Value.bool.injEq, Value.int.injEq, true_and, and_true] at h1
  obtain ⟨rfl, rfl, rfl⟩ := h1
  simp only [Value.slice.injEq] at h2
  obtain ⟨rfl, rfl, rfl⟩ := h2
  have hm := hR.max
  have hl := hR.le
  refine ⟨?_, by omega⟩
  rw [hy.eq_zero]
  constructor
  · intro q
    subst q
    exact hv.symm.trans rfl
  · intro q
    rcases Nat.eq_zero_or_pos sn with z | z
    · exact z
    · have h1 := val_top hN.1 z hN.2
      have := P_pos (sn - 1)
      omega
theorem RSum.both {w w' : World} {A B : Int} {x y v : Value} (h : RSum w w' A B x y v) (hx : DNum w x A) (hy : DNum w y B) : DNum w' v (A + B) ∧ Below w.heap.size w w' := by
  obtain ⟨hb, h | ⟨h1, h2⟩ | ⟨h1, h2⟩⟩ := h
  · exact ⟨h.num, hb⟩
  · subst h2; rw [h1, Int.zero_add]; exact ⟨hy.keeps hb, hb⟩
  · subst h2; rw [h1, Int.add_zero]; exact ⟨hx.keeps hb, hb⟩
theorem DNum.shape {w : World} {v : Value} {V : Int} (h : DNum w v V) : ∃ g so sn sc e, v = .agg #[.bool g, .slice so sn sc, .int .i64 e] := by
  obtain ⟨ng, s, m, e', h1, hy, ao, n, cap, d, h2, hR, hN, hv⟩ := h
  subst h2
  exact ⟨_, _, _, _, _, h1⟩
/-- The cells of a Kind and of a number. -/
def C8 (k s : Nat) (g : Bool) (so : Option Addr) (sn sc : Nat) (e : Int) (W : World) : Prop :=
  (W.cell? ⟨k, 0, none⟩ = some (.int .i64 53) ∧ W.cell? ⟨k, 1, none⟩ = some (.int .i64 (-1074)) ∧ W.cell? ⟨k, 2, none⟩ = some (.int .i64 1024) ∧ W.cell? ⟨k, 3, none⟩ = some (.int .i64 9218868437227405312) ∧ W.cell? ⟨k, 4, none⟩ = some (.int .i64 (-9223372036854775808))) ∧
  W.cell? ⟨s, 0, none⟩ = some (.bool g) ∧ W.cell? ⟨s, 1, none⟩ = some (.slice so sn sc) ∧ W.cell? ⟨s, 2, none⟩ = some (.int .i64 e)
theorem C8.keeps {k s : Nat} {g : Bool} {so : Option Addr} {sn sc : Nat} {e : Int} {W W' : World} (h : C8 k s g so sn sc e W) (hb : Below W.heap.size W W') : C8 k s g so sn sc e W' := by
  obtain ⟨⟨h0, h1, h2, h3, h4⟩, h5, h6, h7⟩ := h
  exact ⟨⟨cell_keeps h0 hb, cell_keeps h1 hb, cell_keeps h2 hb, cell_keeps h3 hb, cell_keeps h4 hb⟩, cell_keeps h5 hb, cell_keeps h6 hb, cell_keeps h7 hb⟩
set_option maxRecDepth 100000 in
set_option maxHeartbeats 4000000 in
theorem rplus_X (way : Int) (hw : 0 ≤ way ∧ way ≤ 3) (pn qn xg yg : Bool) (xo yo : Option Addr) (xn xc yn yc : Nat) (xe ye Vp Vq : Int) (w : World) (hx : DNum w (.agg #[.bool xg, .slice xo xn xc, .int .i64 xe]) Vp) (hy : DNum w (.agg #[.bool yg, .slice yo yn yc, .int .i64 ye]) Vq) (bx : Bd 9000 Vp) (bY : Bd 9000 Vq) :
    Calls Tryz.prog 116 #[k64V, .agg #[.bool pn, .bool false, .bool false, .bool xg, .slice xo xn xc, .int .i64 xe], .agg #[.bool qn, .bool false, .bool false, .bool yg, .slice yo yn yc, .int .i64 ye], .int .i64 way] w fun x w' => ∃ r, x = .returned (.int .i64 r) ∧ Below w.heap.size w w' ∧ PlusR way pn qn Vp Vq r := by
  unfold k64V
  have hb3 := bel_a3 w (.cells #[.int .i64 53, .int .i64 (-1074), .int .i64 1024, .int .i64 9218868437227405312, .int .i64 (-9223372036854775808)] 103) (.cells #[.bool pn, .bool false, .bool false, .bool xg, .slice xo xn xc, .int .i64 xe] 108) (.cells #[.bool qn, .bool false, .bool false, .bool yg, .slice yo yn yc, .int .i64 ye] 108)
  have g0 := h3_0 w (.cells #[.int .i64 53, .int .i64 (-1074), .int .i64 1024, .int .i64 9218868437227405312, .int .i64 (-9223372036854775808)] 103) (.cells #[.bool pn, .bool false, .bool false, .bool xg, .slice xo xn xc, .int .i64 xe] 108) (.cells #[.bool qn, .bool false, .bool false, .bool yg, .slice yo yn yc, .int .i64 ye] 108)
  have g1 := h3_1 w (.cells #[.int .i64 53, .int .i64 (-1074), .int .i64 1024, .int .i64 9218868437227405312, .int .i64 (-9223372036854775808)] 103) (.cells #[.bool pn, .bool false, .bool false, .bool xg, .slice xo xn xc, .int .i64 xe] 108) (.cells #[.bool qn, .bool false, .bool false, .bool yg, .slice yo yn yc, .int .i64 ye] 108)
  have g2 := h3_2 w (.cells #[.int .i64 53, .int .i64 (-1074), .int .i64 1024, .int .i64 9218868437227405312, .int .i64 (-9223372036854775808)] 103) (.cells #[.bool pn, .bool false, .bool false, .bool xg, .slice xo xn xc, .int .i64 xe] 108) (.cells #[.bool qn, .bool false, .bool false, .bool yg, .slice yo yn yc, .int .i64 ye] 108)
  have hs3 := size3 w (.cells #[.int .i64 53, .int .i64 (-1074), .int .i64 1024, .int .i64 9218868437227405312, .int .i64 (-9223372036854775808)] 103) (.cells #[.bool pn, .bool false, .bool false, .bool xg, .slice xo xn xc, .int .i64 xe] 108) (.cells #[.bool qn, .bool false, .bool false, .bool yg, .slice yo yn yc, .int .i64 ye] 108)
  obtain ⟨zx, mx⟩ := num_len hx
  obtain ⟨zy, my⟩ := num_len hy
  go_enter Tryz.func116, Tryz.ntmps116
  go_wp2_with fail
  have HX := hx.keeps hb3
  have HY := hy.keeps hb3
  generalize ((w.alloc (.cells #[.int .i64 53, .int .i64 (-1074), .int .i64 1024, .int .i64 9218868437227405312, .int .i64 (-9223372036854775808)] 103)).alloc (.cells #[.bool pn, .bool false, .bool false, .bool xg, .slice xo xn xc, .int .i64 xe] 108)).alloc (.cells #[.bool qn, .bool false, .bool false, .bool yg, .slice yo yn yc, .int .i64 ye] 108) = wx at hb3 g0 g1 g2 hs3 HX HY ⊢
  refine (radd_D HX HY (show 9000 ≤ 560000 by decide) bx bY).mono ?_
  rintro _ w3 ⟨v, rfl, hS⟩
  obtain ⟨hN, hb4⟩ := hS.both HX HY
  obtain ⟨g, so, sn, sc, e, rfl⟩ := hN.shape
  obtain ⟨zs, ms⟩ := num_len hN
  have ok : Dok (Vp + Vq) := (bx.add bY (by decide)).ok (by decide)
  have p0 := (hb4.block w.heap.size (by omega)).trans g0
  have p1 := (hb4.block (w.heap.size + 1) (by omega)).trans g1
  have p2 := (hb4.block (w.heap.size + 2) (by omega)).trans g2
  have P0 := heap_past (.cells #[.bool g, .slice so sn sc, .int .i64 e] 74) p0
  have P1 := heap_past (.cells #[.bool g, .slice so sn sc, .int .i64 e] 74) p1
  have P2 := heap_past (.cells #[.bool g, .slice so sn sc, .int .i64 e] 74) p2
  have Ps := heap_a1 w3 (.cells #[.bool g, .slice so sn sc, .int .i64 e] 74)
  have a0 := blkC P0 0 rfl
  have a1 := blkC P0 1 rfl
  have a2 := blkC P0 2 rfl
  have a3 := blkC P0 3 rfl
  have a4 := blkC P0 4 rfl
  have b0 := blkC P1 0 rfl
  have b1 := blkC P1 1 rfl
  have b2 := blkC P1 2 rfl
  have b3 := blkC P1 3 rfl
  have b4 := blkC P1 4 rfl
  have b5 := blkC P1 5 rfl
  have c0 := blkC P2 0 rfl
  have c1 := blkC P2 1 rfl
  have c2 := blkC P2 2 rfl
  have c3 := blkC P2 3 rfl
  have c4 := blkC P2 4 rfl
  have c5 := blkC P2 5 rfl
  have s0 := blkC Ps 0 rfl
  have s1 := blkC Ps 1 rfl
  have s2 := blkC Ps 2 rfl
  have hbw := bel_trans hb3 hb4
  have hsz : w.heap.size + 3 ≤ w3.heap.size := by have := hb4.size; omega
  have HN : Hid (DNum w3 (.agg #[.bool g, .slice so sn sc, .int .i64 e]) (Vp + Vq)) := hN
  have HOK : Hid (Dok (Vp + Vq)) := ok
  clear hS hN ok HX HY hx hy bx bY hb3 hb4
  by_cases hS0 : Vp + Vq = 0
  · have hsn := zs.2 hS0
    subst hsn
    have hb5 := bel_alloc w3 (.cells #[.bool g, .slice so 0 sc, .int .i64 e] 74)
    have zq : Vp = 0 → Vq = 0 := fun q => by omega
    clear zs
    by_cases hx0 : xn = 0
    · have hy0 := zy.2 (zq (zx.1 hx0))
      have hV0 := zx.1 hx0
      subst hx0 hy0
      have CZ := fun W => rzero_any pn false false xg xo 0 xc xe (by omega) W
      have CY := fun W => rzero_any qn false false yg yo 0 yc ye (by omega) W
      simp only [Bool.not_false, Bool.and_self, decide_true] at CZ CY
      clear zx zy zq HN HOK
      have SG := fun gg W => rsigned_any gg 0 (by omega) W
      unfold k64V at SG
      cases pn <;> cases qn
      all_goals
        go_wp2_with fail
        refine (CZ _).mono ?_
        rintro _ w4 ⟨rfl, hb6⟩
        have Q0 := (hb6.block _ (Array.getElem?_eq_some_iff.1 P0).1).trans P0
        have Q1 := (hb6.block _ (Array.getElem?_eq_some_iff.1 P1).1).trans P1
        have Q2 := (hb6.block _ (Array.getElem?_eq_some_iff.1 P2).1).trans P2
        have a0' := blkC Q0 0 rfl
        have a1' := blkC Q0 1 rfl
        have a2' := blkC Q0 2 rfl
        have a3' := blkC Q0 3 rfl
        have a4' := blkC Q0 4 rfl
        have b0' := blkC Q1 0 rfl
        have b1' := blkC Q1 1 rfl
        have b2' := blkC Q1 2 rfl
        have b3' := blkC Q1 3 rfl
        have b4' := blkC Q1 4 rfl
        have b5' := blkC Q1 5 rfl
        have c0' := blkC Q2 0 rfl
        have c1' := blkC Q2 1 rfl
        have c2' := blkC Q2 2 rfl
        have c3' := blkC Q2 3 rfl
        have c4' := blkC Q2 4 rfl
        have c5' := blkC Q2 5 rfl
        clear P0 P1 P2
        go_wp2_with fail
        refine (CY _).mono ?_
        rintro _ w5 ⟨rfl, hb7⟩
        have R0 := (hb7.block _ (Array.getElem?_eq_some_iff.1 Q0).1).trans Q0
        have R1 := (hb7.block _ (Array.getElem?_eq_some_iff.1 Q1).1).trans Q1
        have R2 := (hb7.block _ (Array.getElem?_eq_some_iff.1 Q2).1).trans Q2
        have a0'' := blkC R0 0 rfl
        have a1'' := blkC R0 1 rfl
        have a2'' := blkC R0 2 rfl
        have a3'' := blkC R0 3 rfl
        have a4'' := blkC R0 4 rfl
        have b0'' := blkC R1 0 rfl
        have b1'' := blkC R1 1 rfl
        have b2'' := blkC R1 2 rfl
        have b3'' := blkC R1 3 rfl
        have b4'' := blkC R1 4 rfl
        have b5'' := blkC R1 5 rfl
        have c0'' := blkC R2 0 rfl
        have c1'' := blkC R2 1 rfl
        have c2'' := blkC R2 2 rfl
        have c3'' := blkC R2 3 rfl
        have c4'' := blkC R2 4 rfl
        have c5'' := blkC R2 5 rfl
        clear Q0 Q1 Q2
        have hbw5 := bel_trans (bel_trans (bel_trans hbw hb5) hb6) hb7
        go_wp2_with fail
        refine (SG _ _).mono ?_
        rintro _ w6 ⟨rfl, hb8⟩
        go_wp2
        go_ret
        refine ⟨_, rfl, bel_trans hbw5 hb8, fun _ => ?_, fun q => absurd hS0 q⟩
      · rw [if_pos ⟨hV0, rfl⟩]
      · rw [if_neg (fun q => by cases q.2)]; rfl
      · rw [if_neg (fun q => by cases q.2)]; rfl
      · rw [if_pos ⟨hV0, rfl⟩]
    · have hV0 : Vp ≠ 0 := fun q => hx0 (zx.2 q)
      have CZ := fun W => rzero_any pn false false xg xo xn xc xe (by omega) W
      rw [decide_eq_false hx0] at CZ
      simp only [Bool.not_false, Bool.and_self, Bool.and_false] at CZ
      have SG := fun gg W => rsigned_any gg 0 (by omega) W
      unfold k64V at SG
      clear zx zy zq HN HOK
      go_wp2_with fail
      refine (CZ _).mono ?_
      rintro _ w4 ⟨rfl, hb6⟩
      have Q0 := (hb6.block _ (Array.getElem?_eq_some_iff.1 P0).1).trans P0
      have Q1 := (hb6.block _ (Array.getElem?_eq_some_iff.1 P1).1).trans P1
      have Q2 := (hb6.block _ (Array.getElem?_eq_some_iff.1 P2).1).trans P2
      have a0' := blkC Q0 0 rfl
      have a1' := blkC Q0 1 rfl
      have a2' := blkC Q0 2 rfl
      have a3' := blkC Q0 3 rfl
      have a4' := blkC Q0 4 rfl
      have b0' := blkC Q1 0 rfl
      have b1' := blkC Q1 1 rfl
      have b2' := blkC Q1 2 rfl
      have b3' := blkC Q1 3 rfl
      have b4' := blkC Q1 4 rfl
      have b5' := blkC Q1 5 rfl
      have c0' := blkC Q2 0 rfl
      have c1' := blkC Q2 1 rfl
      have c2' := blkC Q2 2 rfl
      have c3' := blkC Q2 3 rfl
      have c4' := blkC Q2 4 rfl
      have c5' := blkC Q2 5 rfl
      clear P0 P1 P2
      have hbw5 := bel_trans (bel_trans hbw hb5) hb6
      go_wp2_with fail
      refine (SG _ _).mono ?_
      rintro _ w6 ⟨rfl, hb8⟩
      go_wp2
      go_ret
      refine ⟨_, rfl, bel_trans hbw5 hb8, fun _ => ?_, fun q => absurd hS0 q⟩
      rw [if_neg (fun q => hV0 q.1)]
      rfl
  · have hsn : sn ≠ 0 := fun q => hS0 (zs.1 q)
    have hsn1 : (0 : Int) < sn := by omega
    have hsn2 : ((sn : Int) == 0) = false := by simp; omega
    clear zs zx zy
    have hb5 := bel_alloc w3 (.cells #[.bool g, .slice so sn sc, .int .i64 e] 74)
    go_wp2_with fail
    have HN4 : Hid (DNum (w3.alloc (.cells #[.bool g, .slice so sn sc, .int .i64 e] 74)) (.agg #[.bool g, .slice so sn sc, .int .i64 e]) (Vp + Vq)) := HN.out.keeps hb5
    have K8 : C8 w.heap.size w3.heap.size g so sn sc e (w3.alloc (.cells #[.bool g, .slice so sn sc, .int .i64 e] 74)) := ⟨⟨a0, a1, a2, a3, a4⟩, s0, s1, s2⟩
    have hbw4 := bel_trans hbw hb5
    clear a0 a1 a2 a3 a4 b0 b1 b2 b3 b4 b5 c0 c1 c2 c3 c4 c5 P0 P1 P2 Ps s0 s1 s2 p0 p1 p2 g0 g1 g2 HN
    generalize w3.alloc (.cells #[.bool g, .slice so sn sc, .int .i64 e] 74) = w4 at hb5 HN4 K8 hbw4 ⊢
    have CC : ∀ W, Below w4.heap.size w4 W → Calls Tryz.prog 124 #[.agg #[.int .i64 53, .int .i64 (-1074), .int .i64 1024, .int .i64 9218868437227405312, .int .i64 (-9223372036854775808)], .bool g, .slice so sn sc, .int .i64 e, .bool false, .int .i64 way] W fun x w' => ∃ p o, x = .returned (.tuple #[.int .i64 p, .bool o]) ∧ Below W.heap.size W w' ∧ RdW way (decide (Vp + Vq < 0)) (Vp + Vq).natAbs p := fun W hW => cut_D way hw (HN4.out.keeps hW) HOK.out hS0
    refine (CC _ (bel_refl _)).mono ?_
    rintro _ w5 ⟨p, o, rfl, hb6, hR⟩
    go_wp2
    all_goals go_ret
    all_goals exact ⟨_, rfl, bel_trans hbw4 hb6, fun q => absurd q hS0, fun _ => hR⟩
end Go.Proofs.YtjlmpgbadgkgmaaGreatDoor

/-
  Package plumbref3: Same, by its contract; plumbref1.Finite.
-/
namespace Go.Proofs.YtjlmpgbadgkgmaaGreatDoor
open Go Go.RowKit Go.Proofs.YtjlmpgbadgkgmaaGreatDoor.M
set_option linter.unusedSimpArgs false
set_option linter.unusedVariables false

theorem rfinite_any (b : Int) (w : World) (hb : rng b) :
    Calls Tryz.prog 15 #[.int .i64 b] w fun x w' => x = .returned (.bool (pok b)) ∧ w' = w := by
  have C1 := fun W => refClass b W hb
  by_cases hp : pok b = true
  · have h3 := cls_fin hp
    rw [hp]
    generalize cls b = c at *
    go_enter Tryz.func15, Tryz.ntmps15
    go_wp2_with fail
    refine (C1 _).mono ?_
    rintro _ _ ⟨rfl, rfl⟩
    go_wp2
    go_ret
    exact ⟨ret_bool (by first | (simp; done) | (simp; omega)), rfl⟩
  · have h3 := (cls_not hp).1
    have hp2 : pok b = false := by simpa using hp
    rw [hp2]
    generalize cls b = c at *
    go_enter Tryz.func15, Tryz.ntmps15
    go_wp2_with fail
    refine (C1 _).mono ?_
    rintro _ _ ⟨rfl, rfl⟩
    go_wp2
    go_ret
    exact ⟨ret_bool (by simp; omega), rfl⟩
set_option maxRecDepth 100000 in
set_option maxHeartbeats 4000000 in
theorem rsame3_D {w : World} {x y : Value} {A B : Int} (hx : DNum w x A) (hy : DNum w y B) :
    Calls Tryz.prog 96 #[x, y] w fun r w' => r = .returned (.bool (decide (A = B))) ∧ Below w.heap.size w w' := by
  obtain ⟨g, s, m, e, rfl, dx, ao, n, ca, a, rfl, hR, hN, rfl⟩ := hx
  obtain ⟨g', s', m', e', rfl, dy, bo, n', cb, b, rfl, hR', hN', rfl⟩ := hy
  have hu : A = B → g = g' ∧ val a n = val b n' ∧ e = e' := fun q => by subst q; exact dx.unique dy
  have hm1 := hR.max
  have hl1 := hR.le
  have hm2 := hR'.max
  have hl2 := hR'.le
  have hb2 := bel_alloc2 w (.cells #[.bool g, .slice ao n ca, .int .i64 e] 74) (.cells #[.bool g', .slice bo n' cb, .int .i64 e'] 74)
  by_cases hg : g = g' ∧ e = e' ∧ n = n'
  · obtain ⟨rfl, rfl, rfl⟩ := hg
    have q0 := heap_a2 w (.cells #[.bool g, .slice ao n ca, .int .i64 e] 74) (.cells #[.bool g, .slice bo n cb, .int .i64 e] 74)
    have q1 := heap_b2 w (.cells #[.bool g, .slice ao n ca, .int .i64 e] 74) (.cells #[.bool g, .slice bo n cb, .int .i64 e] 74)
    have HR := hR.keeps hb2
    have HR' := hR'.keeps hb2
    have hAB : (∀ i, i < n → a i = b i) → A = B := fun q => by rw [dx.val, dy.val, val_congr q]
    go_enter Tryz.func96, Tryz.ntmps96
    go_wp2_with fail
    have k1 := blkC q0 1 rfl
    have j1 := blkC q1 1 rfl
    clear q0 q1 hu hR hR'
    generalize (w.alloc (.cells #[.bool g, .slice ao n ca, .int .i64 e] 74)).alloc (.cells #[.bool g, .slice bo n cb, .int .i64 e] 74) = wx at hb2 k1 j1 HR HR' ⊢
    have HNa : Hid (Nrm a n) := hN
    have HNb : Hid (Nrm b n) := hN'
    have HAB : Hid ((∀ i, i < n → a i = b i) → A = B) := hAB
    have HBA : Hid (A = B → ∀ i, i < n → a i = b i) := fun q => val_inj hN.1 hN'.1 (by subst q; exact (dx.unique dy).2.1)
    clear hN hN' hAB dx dy
    go_loopw [5] (fun i wr => ∃ k : Nat, k ≤ n ∧ i = .int .i64 k ∧ Hid (∀ i, i < k → a i = b i) ∧ Below wx.heap.size wx wr) (fun i _ => n - (intOf i).toNat)
    case atStart => exact ⟨0, Nat.zero_le _, rfl, fun i hi => by omega, bel_refl _⟩
    case round =>
      obtain ⟨k, hk, rfl, HS, hbw⟩ := hrel
      have k1' := cell_keeps k1 hbw
      have j1' := cell_keeps j1 hbw
      by_cases hlt : k < n
      · obtain ⟨ba, fa, rfl, hba, hca⟩ := HR.spot (by omega)
        obtain ⟨bb, fb, rfl, hbb, hcb⟩ := HR'.spot (by omega)
        have c1 := (hbw.cell (p := ⟨ba, fa + k, none⟩) hba).trans (hca k (by omega))
        have c2 := (hbw.cell (p := ⟨bb, fb + k, none⟩) hbb).trans (hcb k (by omega))
        clear hca hcb
        by_cases h1 : a k = b k
        · have h2 : (a k == b k) = true := by simpa using h1
          rw [h1] at c1
          go_wp2_with fail
          go_quiet (fail)
          go_wp2
          go_roundw
          case rel => exact ⟨k + 1, by omega, by go_num, fun i hi => by by_cases e : i = k; (· rw [e]; exact h1); (· exact HS.out i (by omega)), bDrewN hbw _⟩
          case measure => simp [intOf]; try omega
        · have h2 : (a k == b k) = false := by simpa using h1
          have hne : A ≠ B := fun q => h1 (HBA.out q k hlt)
          have hdd : Hid (false = decide (A = B)) := (decide_eq_false hne).symm
          clear hne
          go_wp2_with fail
          go_quiet (fail)
          go_wp2
          go_ret
          exact ⟨ret_bool hdd.out, bel_trans hb2 (bDrewN hbw _)⟩
      · obtain rfl : k = n := by omega
        have hdd : Hid (true = decide (A = B)) := (decide_eq_true (HAB.out HS.out)).symm
        go_wp2
        go_ret
        exact ⟨ret_bool hdd.out, bel_trans hb2 hbw⟩
  · have hne : A ≠ B := fun q => hg ⟨(hu q).1, (hu q).2.2, nrm_len hN hN' (hu q).2.1⟩
    rw [decide_eq_false hne]
    by_cases c1 : g = g'
    · subst c1
      by_cases c2 : e = e'
      · subst c2
        have c3 : n ≠ n' := fun q => hg ⟨rfl, rfl, q⟩
        have c4 : ((n : Int) == (n' : Int)) = false := by simp; omega
        clear hu
        go_enter Tryz.func96, Tryz.ntmps96
        go_wp2
        all_goals go_ret
        all_goals exact ⟨rfl, hb2⟩
      · have c4 : (e == e') = false := by simpa using c2
        clear hu
        go_enter Tryz.func96, Tryz.ntmps96
        go_wp2
        all_goals go_ret
        all_goals exact ⟨rfl, hb2⟩
    · have c4 : (g == g') = false := by simpa using c1
      clear hu
      go_enter Tryz.func96, Tryz.ntmps96
      go_wp2
      all_goals go_ret
      all_goals exact ⟨rfl, hb2⟩
end Go.Proofs.YtjlmpgbadgkgmaaGreatDoor

/-
  The document's single operations (plumbref4): plus of what is not finite, close, times, by their contracts.
-/
namespace Go.Proofs.YtjlmpgbadgkgmaaGreatDoor
open Go Go.RowKit Go.Proofs.YtjlmpgbadgkgmaaGreatDoor.M
set_option linter.unusedSimpArgs false
set_option linter.unusedVariables false

/-- A sum of two of which one is not finite. -/
def plusX (pn pa pi qn qa qi : Bool) : Int := if pa || qa || (pi && qi && (pn != qn)) then 9221120237041090561 else if pi then patS pn 9218868437227405312 else patS qn 9218868437227405312
set_option maxRecDepth 100000 in
set_option maxHeartbeats 4000000 in
theorem rplus_inf (way : Int) (pn pa pi qn qa qi xg yg : Bool) (xo yo : Option Addr) (xn xc yn yc : Nat) (xe ye : Int) (w : World) (h : (pa || qa || pi || qi) = true) :
    Calls Tryz.prog 116 #[k64V, .agg #[.bool pn, .bool pa, .bool pi, .bool xg, .slice xo xn xc, .int .i64 xe], .agg #[.bool qn, .bool qa, .bool qi, .bool yg, .slice yo yn yc, .int .i64 ye], .int .i64 way] w fun x w' => x = .returned (.int .i64 (plusX pn pa pi qn qa qi)) ∧ Below w.heap.size w w' := by
  have SG := fun gg W => rsigned_any gg 9218868437227405312 (by omega) W
  have NA := fun W => rnan_any W
  unfold k64V at *
  unfold plusX
  cases pa
  · cases qa
    · cases pi
      · cases qi
        · cases h
        · go_enter Tryz.func116, Tryz.ntmps116
          go_wp2_with fail
          refine (SG _ _).mono ?_
          rintro _ w1 ⟨rfl, hb1⟩
          go_wp2
          go_ret
          exact ⟨by simp, bel_trans (bel_a3 w _ _ _) hb1⟩
      · cases qi
        · go_enter Tryz.func116, Tryz.ntmps116
          go_wp2_with fail
          refine (SG _ _).mono ?_
          rintro _ w1 ⟨rfl, hb1⟩
          go_wp2
          go_ret
          exact ⟨by simp, bel_trans (bel_a3 w _ _ _) hb1⟩
        · cases pn <;> cases qn
          all_goals
            go_enter Tryz.func116, Tryz.ntmps116
            go_wp2_with fail
            first | refine (SG _ _).mono ?_ | refine (NA _).mono ?_
            rintro _ w1 ⟨rfl, hb1⟩
            go_wp2
            go_ret
            exact ⟨by simp, bel_trans (bel_a3 w _ _ _) hb1⟩
    · go_enter Tryz.func116, Tryz.ntmps116
      go_wp2_with fail
      refine (NA _).mono ?_
      rintro _ w1 ⟨rfl, hb1⟩
      go_wp2
      go_ret
      exact ⟨by simp, bel_trans (bel_a3 w _ _ _) hb1⟩
  · go_enter Tryz.func116, Tryz.ntmps116
    go_wp2_with fail
    refine (NA _).mono ?_
    rintro _ w1 ⟨rfl, hb1⟩
    go_wp2
    go_ret
    exact ⟨by simp, bel_trans (bel_a3 w _ _ _) hb1⟩
/-- What close tells. -/
def CloseR (way : Int) (ng na ni : Bool) (V : Int) (r : Int) : Prop :=
  if na then r = 9221120237041090561 else if ni then r = patS ng 9218868437227405312 else if V = 0 then r = patS ng 0 else RdW way (decide (V < 0)) V.natAbs r
set_option maxRecDepth 100000 in
set_option maxHeartbeats 4000000 in
theorem rclose_any (way : Int) (hw : 0 ≤ way ∧ way ≤ 3) (ng na ni xg : Bool) (xo : Option Addr) (xn xc : Nat) (xe V : Int) (w : World) (hx : DNum w (.agg #[.bool xg, .slice xo xn xc, .int .i64 xe]) V) (ok : Dok V) :
    Calls Tryz.prog 119 #[k64V, .agg #[.bool ng, .bool na, .bool ni, .bool xg, .slice xo xn xc, .int .i64 xe], .int .i64 way] w fun x w' => ∃ r, x = .returned (.int .i64 r) ∧ Below w.heap.size w w' ∧ CloseR way ng na ni V r := by
  have SI := fun gg W => rsigned_any gg 9218868437227405312 (by omega) W
  have SG := fun gg W => rsigned_any gg 0 (by omega) W
  have NA := fun W => rnan_any W
  obtain ⟨zx, mx⟩ := num_len hx
  have hb2 := bel_alloc2 w (.cells #[.int .i64 53, .int .i64 (-1074), .int .i64 1024, .int .i64 9218868437227405312, .int .i64 (-9223372036854775808)] 103) (.cells #[.bool ng, .bool na, .bool ni, .bool xg, .slice xo xn xc, .int .i64 xe] 108)
  have CC := fun (h0 : V ≠ 0) W hW => cut_D way hw (DNum.keeps (w' := W) (hx.keeps hb2) hW) ok h0
  unfold k64V at *
  unfold CloseR
  cases na
  · cases ni
    · by_cases h0 : V = 0
      · have hxn := zx.2 h0
        subst hxn
        simp only [Bool.false_eq_true, if_false, h0, if_true]
        clear CC zx
        go_enter Tryz.func119, Tryz.ntmps119
        go_wp2_with fail
        refine (SG _ _).mono ?_
        rintro _ w1 ⟨rfl, hb1⟩
        go_wp2
        go_ret
        exact ⟨_, rfl, bel_trans hb2 hb1, rfl⟩
      · have hsn : xn ≠ 0 := fun q => h0 (zx.1 q)
        have hsn1 : (0 : Int) < xn := by omega
        have hsn2 : ((xn : Int) == 0) = false := by simp; omega
        simp only [Bool.false_eq_true, if_false, h0]
        have CC' := CC h0
        clear CC zx
        go_enter Tryz.func119, Tryz.ntmps119
        go_wp2_with fail
        refine (CC' _ (bel_refl _)).mono ?_
        rintro _ w1 ⟨p, o, rfl, hb1, hR⟩
        go_wp2
        go_ret
        exact ⟨_, rfl, bel_trans hb2 hb1, hR⟩
    · simp only [Bool.false_eq_true, if_false, if_true]
      clear CC zx
      go_enter Tryz.func119, Tryz.ntmps119
      go_wp2_with fail
      refine (SI _ _).mono ?_
      rintro _ w1 ⟨rfl, hb1⟩
      go_wp2
      go_ret
      exact ⟨_, rfl, bel_trans hb2 hb1, rfl⟩
  · simp only [if_true]
    clear CC zx
    go_enter Tryz.func119, Tryz.ntmps119
    go_wp2_with fail
    refine (NA _).mono ?_
    rintro _ w1 ⟨rfl, hb1⟩
    go_wp2
    go_ret
    exact ⟨_, rfl, bel_trans hb2 hb1, rfl⟩
end Go.Proofs.YtjlmpgbadgkgmaaGreatDoor

/-
  The document's single operations (plumbref4): times, by its contract.
-/
namespace Go.Proofs.YtjlmpgbadgkgmaaGreatDoor
open Go Go.RowKit Go.Proofs.YtjlmpgbadgkgmaaGreatDoor.M
set_option linter.unusedSimpArgs false
set_option linter.unusedVariables false

set_option maxRecDepth 100000 in
set_option maxHeartbeats 4000000 in
theorem rtimes_fin (pn qn : Bool) (x y : NumR) (w : World) (hx : Row w x.ao x.n x.cap x.d) (hy : Row w y.ao y.n y.cap y.d) (sx : Sane x) (sy : Sane y) :
    Calls Tryz.prog 120 #[.agg #[.bool pn, .bool false, .bool false, .bool x.ng, .slice x.ao x.n x.cap, .int .i64 x.e], .agg #[.bool qn, .bool false, .bool false, .bool y.ng, .slice y.ao y.n y.cap, .int .i64 y.e]] w fun r w' => ∃ v, r = .returned v ∧ Below w.heap.size w w' ∧ Pt w' (pn != qn) false false (mulV x y) v := by
  have CM := fun W hW => rmul3_any x y W (Row.keeps (w' := W) hx hW) (Row.keeps (w' := W) hy hW) sx sy
  generalize mulV x y = V at CM ⊢
  obtain ⟨an, ao, n, ca, a, e⟩ := x
  obtain ⟨bn, bo, m, cb, b, f⟩ := y
  unfold NumR.v at CM
  simp only at *
  clear hx hy sx sy
  go_enter Tryz.func120, Tryz.ntmps120
  go_wp2_with fail
  refine (CM _ (bel_a4 w _ _ _ _)).mono ?_
  rintro _ w3 ⟨v, rfl, hD⟩
  obtain ⟨ng', s', m', e', rfl, hyy, hA2⟩ := id hD
  obtain ⟨so', sn', sc', rfl⟩ := hA2.num.shape
  have q1 := (hD.below.block (w.heap.size + 2) (by rw [size4]; omega)).trans (h4_2 _ _ _ _ _)
  have q2 := (hD.below.block (w.heap.size + 3) (by rw [size4]; omega)).trans (h4_3 _ _ _ _ _)
  have x0 := blkC q1 0 rfl
  have f0 := blkF q1 0
  have x1 := blkC q1 1 rfl
  have f1 := blkF q1 1
  have x2 := blkC q1 2 rfl
  have f2 := blkF q1 2
  have x3 := blkC q1 3 rfl
  have f3 := blkF q1 3
  have x4 := blkC q1 4 rfl
  have f4 := blkF q1 4
  have x5 := blkC q1 5 rfl
  have f5 := blkF q1 5
  have y0 := blkC q2 0 rfl
  have y1 := blkC q2 1 rfl
  have y2 := blkC q2 2 rfl
  have y3 := blkC q2 3 rfl
  have y4 := blkC q2 4 rfl
  have y5 := blkC q2 5 rfl
  have g3 := blkF q2 3
  have g4 := blkF q2 4
  have g5 := blkF q2 5
  have hbw := bel_trans (bel_a4 w _ _ _ _) hD.below
  have hDa := hD.dan
  rw [size4] at hDa
  clear hD hA2 hyy CM q1 q2
  go_wp2
  refine bodyPost_ret (v := .agg #[.bool (!(pn == qn)), .bool false, .bool false, .bool ng', .slice so' sn' sc', .int .i64 e']) (by simp [results, Tryz.results120, go_sem, x0, x1, x2, x3, x4, x5]) rfl ⟨_, rfl, ?_, ?_⟩
  · iterate 9 (refine Below.setCell ?_ (by dsimp only; omega) _)
    exact hbw
  · refine ⟨_, _, _, _, _, rfl, DAn.num (B := w.heap.size + 4) ?_⟩
    iterate 9 (refine DAn.set ?_ (by dsimp only; omega) _)
    exact hDa
set_option maxRecDepth 100000 in
set_option maxHeartbeats 4000000 in
theorem rtimes_nan (pn pa pi qn qa qi xg yg : Bool) (xo yo : Option Addr) (xn xc yn yc : Nat) (xe ye : Int) (w : World) (h : (pa || qa) = true) :
    Calls Tryz.prog 120 #[.agg #[.bool pn, .bool pa, .bool pi, .bool xg, .slice xo xn xc, .int .i64 xe], .agg #[.bool qn, .bool qa, .bool qi, .bool yg, .slice yo yn yc, .int .i64 ye]] w fun r w' => ∃ v, r = .returned v ∧ Below w.heap.size w w' ∧ Pt w' (pn != qn) true false 0 v := by
  have key : (pa = true) ∨ (pa = false ∧ qa = true) := by cases pa <;> cases qa <;> simp_all
  rcases key with rfl | ⟨rfl, rfl⟩
  all_goals
    clear h
    go_enter Tryz.func120, Tryz.ntmps120
    go_wp2
    refine bodyPost_ret (v := .agg #[.bool (!(pn == qn)), .bool true, .bool false, .bool false, .slice none 0 0, .int .i64 0]) (by simp [results, Tryz.results120, go_sem]) rfl ⟨_, rfl, ?_, ?_⟩
    · exact bel_a4 w _ _ _ _
    · exact ⟨_, _, _, _, _, rfl, DNum.zero _⟩
set_option maxRecDepth 100000 in
set_option maxHeartbeats 4000000 in
theorem rtimes_inf (pn pi qn qi xg yg : Bool) (xo yo : Option Addr) (xn xc yn yc : Nat) (xe ye : Int) (w : World) (hx : xn ≤ 9223372036854775807) (hy : yn ≤ 9223372036854775807) (h : (pi || qi) = true) :
    Calls Tryz.prog 120 #[.agg #[.bool pn, .bool false, .bool pi, .bool xg, .slice xo xn xc, .int .i64 xe], .agg #[.bool qn, .bool false, .bool qi, .bool yg, .slice yo yn yc, .int .i64 ye]] w fun r w' => ∃ v, r = .returned v ∧ Below w.heap.size w w' ∧ Pt w' (pn != qn) ((pi && !qi && decide (yn = 0)) || (qi && !pi && decide (xn = 0))) (!((pi && !qi && decide (yn = 0)) || (qi && !pi && decide (xn = 0)))) 0 v := by
  have CZ := fun W => rzero_any pn false pi xg xo xn xc xe hx W
  have CY := fun W => rzero_any qn false qi yg yo yn yc ye hy W
  obtain ⟨zx, hzx⟩ : ∃ z, decide (xn = 0) = z := ⟨_, rfl⟩
  obtain ⟨zy, hzy⟩ : ∃ z, decide (yn = 0) = z := ⟨_, rfl⟩
  rw [hzx, hzy]
  rw [hzx] at CZ
  rw [hzy] at CY
  clear hzx hzy
  cases pi <;> cases qi
  · cases h
  · cases zx
    · simp only [Bool.not_false, Bool.not_true, Bool.and_self, Bool.and_false, Bool.and_true, Bool.false_and, Bool.true_and] at CZ CY
      go_enter Tryz.func120, Tryz.ntmps120
      go_wp2_with fail
      refine (CZ _).mono ?_
      rintro _ w1 ⟨rfl, hb1⟩
      have Q0 := (hb1.block _ (Array.getElem?_eq_some_iff.1 (h4_0 _ _ _ _ _)).1).trans (h4_0 _ _ _ _ _)
      have Q1 := (hb1.block _ (Array.getElem?_eq_some_iff.1 (h4_1 _ _ _ _ _)).1).trans (h4_1 _ _ _ _ _)
      have Q2 := (hb1.block _ (Array.getElem?_eq_some_iff.1 (h4_2 _ _ _ _ _)).1).trans (h4_2 _ _ _ _ _)
      have Q3 := (hb1.block _ (Array.getElem?_eq_some_iff.1 (h4_3 _ _ _ _ _)).1).trans (h4_3 _ _ _ _ _)
      have a0 := blkC Q0 0 rfl
      have a1 := blkC Q0 1 rfl
      have a2 := blkC Q0 2 rfl
      have a3 := blkC Q0 3 rfl
      have a4 := blkC Q0 4 rfl
      have a5 := blkC Q0 5 rfl
      have b0 := blkC Q1 0 rfl
      have b1 := blkC Q1 1 rfl
      have b2 := blkC Q1 2 rfl
      have b3 := blkC Q1 3 rfl
      have b4 := blkC Q1 4 rfl
      have b5 := blkC Q1 5 rfl
      have c0 := blkC Q2 0 rfl
      have c1 := blkC Q2 1 rfl
      have c2 := blkC Q2 2 rfl
      have c3 := blkC Q2 3 rfl
      have c4 := blkC Q2 4 rfl
      have c5 := blkC Q2 5 rfl
      have d0 := blkC Q3 0 rfl
      have d1 := blkC Q3 1 rfl
      have d2 := blkC Q3 2 rfl
      have d3 := blkC Q3 3 rfl
      have d4 := blkC Q3 4 rfl
      have d5 := blkC Q3 5 rfl
      have fc0 := blkF Q2 0
      have fc1 := blkF Q2 1
      have fc2 := blkF Q2 2
      have fc3 := blkF Q2 3
      have fc4 := blkF Q2 4
      have fc5 := blkF Q2 5
      have fd1 := blkF Q3 1
      have fd2 := blkF Q3 2
      have hbw := bel_trans (bel_a4 w _ _ _ _) hb1
      clear CZ CY hb1 Q0 Q1 Q2 Q3
      go_wp2
      refine bodyPost_ret (v := .agg #[.bool (!(pn == qn)), .bool false, .bool true, .bool false, .slice none 0 0, .int .i64 0]) (by simp [results, Tryz.results120, go_sem, c0, c1, c2, c3, c4, c5]) rfl ⟨_, rfl, ?_, ?_⟩
      · iterate 7 (refine Below.setCell ?_ (by dsimp only; omega) _)
        exact hbw
      · exact ⟨_, _, _, _, _, rfl, DNum.zero _⟩
    · simp only [Bool.not_false, Bool.not_true, Bool.and_self, Bool.and_false, Bool.and_true, Bool.false_and, Bool.true_and] at CZ CY
      go_enter Tryz.func120, Tryz.ntmps120
      go_wp2_with fail
      refine (CZ _).mono ?_
      rintro _ w1 ⟨rfl, hb1⟩
      have Q0 := (hb1.block _ (Array.getElem?_eq_some_iff.1 (h4_0 _ _ _ _ _)).1).trans (h4_0 _ _ _ _ _)
      have Q1 := (hb1.block _ (Array.getElem?_eq_some_iff.1 (h4_1 _ _ _ _ _)).1).trans (h4_1 _ _ _ _ _)
      have Q2 := (hb1.block _ (Array.getElem?_eq_some_iff.1 (h4_2 _ _ _ _ _)).1).trans (h4_2 _ _ _ _ _)
      have Q3 := (hb1.block _ (Array.getElem?_eq_some_iff.1 (h4_3 _ _ _ _ _)).1).trans (h4_3 _ _ _ _ _)
      have a0 := blkC Q0 0 rfl
      have a1 := blkC Q0 1 rfl
      have a2 := blkC Q0 2 rfl
      have a3 := blkC Q0 3 rfl
      have a4 := blkC Q0 4 rfl
      have a5 := blkC Q0 5 rfl
      have b0 := blkC Q1 0 rfl
      have b1 := blkC Q1 1 rfl
      have b2 := blkC Q1 2 rfl
      have b3 := blkC Q1 3 rfl
      have b4 := blkC Q1 4 rfl
      have b5 := blkC Q1 5 rfl
      have c0 := blkC Q2 0 rfl
      have c1 := blkC Q2 1 rfl
      have c2 := blkC Q2 2 rfl
      have c3 := blkC Q2 3 rfl
      have c4 := blkC Q2 4 rfl
      have c5 := blkC Q2 5 rfl
      have d0 := blkC Q3 0 rfl
      have d1 := blkC Q3 1 rfl
      have d2 := blkC Q3 2 rfl
      have d3 := blkC Q3 3 rfl
      have d4 := blkC Q3 4 rfl
      have d5 := blkC Q3 5 rfl
      have fc0 := blkF Q2 0
      have fc1 := blkF Q2 1
      have fc2 := blkF Q2 2
      have fc3 := blkF Q2 3
      have fc4 := blkF Q2 4
      have fc5 := blkF Q2 5
      have fd1 := blkF Q3 1
      have fd2 := blkF Q3 2
      have hbw := bel_trans (bel_a4 w _ _ _ _) hb1
      clear CZ CY hb1 Q0 Q1 Q2 Q3
      go_wp2
      refine bodyPost_ret (v := .agg #[.bool (!(pn == qn)), .bool true, .bool false, .bool false, .slice none 0 0, .int .i64 0]) (by simp [results, Tryz.results120, go_sem, c0, c1, c2, c3, c4, c5]) rfl ⟨_, rfl, ?_, ?_⟩
      · iterate 7 (refine Below.setCell ?_ (by dsimp only; omega) _)
        exact hbw
      · exact ⟨_, _, _, _, _, rfl, DNum.zero _⟩
  · cases zy
    · simp only [Bool.not_false, Bool.not_true, Bool.and_self, Bool.and_false, Bool.and_true, Bool.false_and, Bool.true_and] at CZ CY
      go_enter Tryz.func120, Tryz.ntmps120
      go_wp2_with fail
      refine (CY _).mono ?_
      rintro _ w1 ⟨rfl, hb1⟩
      have Q0 := (hb1.block _ (Array.getElem?_eq_some_iff.1 (h4_0 _ _ _ _ _)).1).trans (h4_0 _ _ _ _ _)
      have Q1 := (hb1.block _ (Array.getElem?_eq_some_iff.1 (h4_1 _ _ _ _ _)).1).trans (h4_1 _ _ _ _ _)
      have Q2 := (hb1.block _ (Array.getElem?_eq_some_iff.1 (h4_2 _ _ _ _ _)).1).trans (h4_2 _ _ _ _ _)
      have Q3 := (hb1.block _ (Array.getElem?_eq_some_iff.1 (h4_3 _ _ _ _ _)).1).trans (h4_3 _ _ _ _ _)
      have a0 := blkC Q0 0 rfl
      have a1 := blkC Q0 1 rfl
      have a2 := blkC Q0 2 rfl
      have a3 := blkC Q0 3 rfl
      have a4 := blkC Q0 4 rfl
      have a5 := blkC Q0 5 rfl
      have b0 := blkC Q1 0 rfl
      have b1 := blkC Q1 1 rfl
      have b2 := blkC Q1 2 rfl
      have b3 := blkC Q1 3 rfl
      have b4 := blkC Q1 4 rfl
      have b5 := blkC Q1 5 rfl
      have c0 := blkC Q2 0 rfl
      have c1 := blkC Q2 1 rfl
      have c2 := blkC Q2 2 rfl
      have c3 := blkC Q2 3 rfl
      have c4 := blkC Q2 4 rfl
      have c5 := blkC Q2 5 rfl
      have d0 := blkC Q3 0 rfl
      have d1 := blkC Q3 1 rfl
      have d2 := blkC Q3 2 rfl
      have d3 := blkC Q3 3 rfl
      have d4 := blkC Q3 4 rfl
      have d5 := blkC Q3 5 rfl
      have fc0 := blkF Q2 0
      have fc1 := blkF Q2 1
      have fc2 := blkF Q2 2
      have fc3 := blkF Q2 3
      have fc4 := blkF Q2 4
      have fc5 := blkF Q2 5
      have fd1 := blkF Q3 1
      have fd2 := blkF Q3 2
      have hbw := bel_trans (bel_a4 w _ _ _ _) hb1
      clear CZ CY hb1 Q0 Q1 Q2 Q3
      go_wp2
      refine bodyPost_ret (v := .agg #[.bool (!(pn == qn)), .bool false, .bool true, .bool false, .slice none 0 0, .int .i64 0]) (by simp [results, Tryz.results120, go_sem, c0, c1, c2, c3, c4, c5]) rfl ⟨_, rfl, ?_, ?_⟩
      · iterate 7 (refine Below.setCell ?_ (by dsimp only; omega) _)
        exact hbw
      · exact ⟨_, _, _, _, _, rfl, DNum.zero _⟩
    · simp only [Bool.not_false, Bool.not_true, Bool.and_self, Bool.and_false, Bool.and_true, Bool.false_and, Bool.true_and] at CZ CY
      go_enter Tryz.func120, Tryz.ntmps120
      go_wp2_with fail
      refine (CY _).mono ?_
      rintro _ w1 ⟨rfl, hb1⟩
      have Q0 := (hb1.block _ (Array.getElem?_eq_some_iff.1 (h4_0 _ _ _ _ _)).1).trans (h4_0 _ _ _ _ _)
      have Q1 := (hb1.block _ (Array.getElem?_eq_some_iff.1 (h4_1 _ _ _ _ _)).1).trans (h4_1 _ _ _ _ _)
      have Q2 := (hb1.block _ (Array.getElem?_eq_some_iff.1 (h4_2 _ _ _ _ _)).1).trans (h4_2 _ _ _ _ _)
      have Q3 := (hb1.block _ (Array.getElem?_eq_some_iff.1 (h4_3 _ _ _ _ _)).1).trans (h4_3 _ _ _ _ _)
      have a0 := blkC Q0 0 rfl
      have a1 := blkC Q0 1 rfl
      have a2 := blkC Q0 2 rfl
      have a3 := blkC Q0 3 rfl
      have a4 := blkC Q0 4 rfl
      have a5 := blkC Q0 5 rfl
      have b0 := blkC Q1 0 rfl
      have b1 := blkC Q1 1 rfl
      have b2 := blkC Q1 2 rfl
      have b3 := blkC Q1 3 rfl
      have b4 := blkC Q1 4 rfl
      have b5 := blkC Q1 5 rfl
      have c0 := blkC Q2 0 rfl
      have c1 := blkC Q2 1 rfl
      have c2 := blkC Q2 2 rfl
      have c3 := blkC Q2 3 rfl
      have c4 := blkC Q2 4 rfl
      have c5 := blkC Q2 5 rfl
      have d0 := blkC Q3 0 rfl
      have d1 := blkC Q3 1 rfl
      have d2 := blkC Q3 2 rfl
      have d3 := blkC Q3 3 rfl
      have d4 := blkC Q3 4 rfl
      have d5 := blkC Q3 5 rfl
      have fc0 := blkF Q2 0
      have fc1 := blkF Q2 1
      have fc2 := blkF Q2 2
      have fc3 := blkF Q2 3
      have fc4 := blkF Q2 4
      have fc5 := blkF Q2 5
      have fd1 := blkF Q3 1
      have fd2 := blkF Q3 2
      have hbw := bel_trans (bel_a4 w _ _ _ _) hb1
      clear CZ CY hb1 Q0 Q1 Q2 Q3
      go_wp2
      refine bodyPost_ret (v := .agg #[.bool (!(pn == qn)), .bool true, .bool false, .bool false, .slice none 0 0, .int .i64 0]) (by simp [results, Tryz.results120, go_sem, c0, c1, c2, c3, c4, c5]) rfl ⟨_, rfl, ?_, ?_⟩
      · iterate 7 (refine Below.setCell ?_ (by dsimp only; omega) _)
        exact hbw
      · exact ⟨_, _, _, _, _, rfl, DNum.zero _⟩
  · simp only [Bool.not_false, Bool.not_true, Bool.and_self, Bool.and_false, Bool.and_true, Bool.false_and, Bool.true_and] at CZ CY
    go_enter Tryz.func120, Tryz.ntmps120
    go_wp2_with fail
    refine (CY _).mono ?_
    rintro _ w1 ⟨rfl, hb1⟩
    have Q0 := (hb1.block _ (Array.getElem?_eq_some_iff.1 (h4_0 _ _ _ _ _)).1).trans (h4_0 _ _ _ _ _)
    have Q1 := (hb1.block _ (Array.getElem?_eq_some_iff.1 (h4_1 _ _ _ _ _)).1).trans (h4_1 _ _ _ _ _)
    have Q2 := (hb1.block _ (Array.getElem?_eq_some_iff.1 (h4_2 _ _ _ _ _)).1).trans (h4_2 _ _ _ _ _)
    have Q3 := (hb1.block _ (Array.getElem?_eq_some_iff.1 (h4_3 _ _ _ _ _)).1).trans (h4_3 _ _ _ _ _)
    have a0 := blkC Q0 0 rfl
    have a1 := blkC Q0 1 rfl
    have a2 := blkC Q0 2 rfl
    have a3 := blkC Q0 3 rfl
    have a4 := blkC Q0 4 rfl
    have a5 := blkC Q0 5 rfl
    have b0 := blkC Q1 0 rfl
    have b1 := blkC Q1 1 rfl
    have b2 := blkC Q1 2 rfl
    have b3 := blkC Q1 3 rfl
    have b4 := blkC Q1 4 rfl
    have b5 := blkC Q1 5 rfl
    have c0 := blkC Q2 0 rfl
    have c1 := blkC Q2 1 rfl
    have c2 := blkC Q2 2 rfl
    have c3 := blkC Q2 3 rfl
    have c4 := blkC Q2 4 rfl
    have c5 := blkC Q2 5 rfl
    have d0 := blkC Q3 0 rfl
    have d1 := blkC Q3 1 rfl
    have d2 := blkC Q3 2 rfl
    have d3 := blkC Q3 3 rfl
    have d4 := blkC Q3 4 rfl
    have d5 := blkC Q3 5 rfl
    have fc0 := blkF Q2 0
    have fc1 := blkF Q2 1
    have fc2 := blkF Q2 2
    have fc3 := blkF Q2 3
    have fc4 := blkF Q2 4
    have fc5 := blkF Q2 5
    have fd1 := blkF Q3 1
    have fd2 := blkF Q3 2
    have hbw := bel_trans (bel_a4 w _ _ _ _) hb1
    clear CY hb1
    go_wp2_with fail
    refine (CZ _).mono ?_
    rintro _ w2 ⟨rfl, hb2⟩
    have R0 := (hb2.block _ (Array.getElem?_eq_some_iff.1 (Q0)).1).trans (Q0)
    have R1 := (hb2.block _ (Array.getElem?_eq_some_iff.1 (Q1)).1).trans (Q1)
    have R2 := (hb2.block _ (Array.getElem?_eq_some_iff.1 (Q2)).1).trans (Q2)
    have R3 := (hb2.block _ (Array.getElem?_eq_some_iff.1 (Q3)).1).trans (Q3)
    have a0' := blkC R0 0 rfl
    have a1' := blkC R0 1 rfl
    have a2' := blkC R0 2 rfl
    have a3' := blkC R0 3 rfl
    have a4' := blkC R0 4 rfl
    have a5' := blkC R0 5 rfl
    have b0' := blkC R1 0 rfl
    have b1' := blkC R1 1 rfl
    have b2' := blkC R1 2 rfl
    have b3' := blkC R1 3 rfl
    have b4' := blkC R1 4 rfl
    have b5' := blkC R1 5 rfl
    have c0' := blkC R2 0 rfl
    have c1' := blkC R2 1 rfl
    have c2' := blkC R2 2 rfl
    have c3' := blkC R2 3 rfl
    have c4' := blkC R2 4 rfl
    have c5' := blkC R2 5 rfl
    have d0' := blkC R3 0 rfl
    have d1' := blkC R3 1 rfl
    have d2' := blkC R3 2 rfl
    have d3' := blkC R3 3 rfl
    have d4' := blkC R3 4 rfl
    have d5' := blkC R3 5 rfl
    have fc0' := blkF R2 0
    have fc1' := blkF R2 1
    have fc2' := blkF R2 2
    have fc3' := blkF R2 3
    have fc4' := blkF R2 4
    have fc5' := blkF R2 5
    have fd1' := blkF R3 1
    have fd2' := blkF R3 2
    have hbw2 := bel_trans hbw hb2
    clear CZ hb2 hbw Q0 Q1 Q2 Q3 R0 R1 R2 R3
    go_wp2
    refine bodyPost_ret (v := .agg #[.bool (!(pn == qn)), .bool false, .bool true, .bool false, .slice none 0 0, .int .i64 0]) (by simp [results, Tryz.results120, go_sem, c0', c1', c2', c3', c4', c5']) rfl ⟨_, rfl, ?_, ?_⟩
    · iterate 7 (refine Below.setCell ?_ (by dsimp only; omega) _)
      exact hbw2
    · exact ⟨_, _, _, _, _, rfl, DNum.zero _⟩
end Go.Proofs.YtjlmpgbadgkgmaaGreatDoor

/-
  Package dyadic: products, Dot, by contracts.
-/
namespace Go.Proofs.YtjlmpgbadgkgmaaGreatDoor
open Go Go.RowKit Go.Proofs.YtjlmpgbadgkgmaaGreatDoor.M
set_option linter.unusedSimpArgs false
set_option linter.unusedVariables false

/-- A block of N numbers that is the call's own; the first k are those of q. -/
def BlkN (w : World) (g N k : Nat) (q : Nat → NumR) : Prop :=
  ∃ cur : Array Value, w.heap[g]? = some (.cells cur 74 (0, 0)) ∧ cur.size = N * 3 ∧ ∀ i, i < k → (cur[i * 3]? = some (.bool (q i).ng) ∧ cur[i * 3 + 1]? = some (.slice (q i).ao (q i).n (q i).cap) ∧ cur[i * 3 + 2]? = some (.int .i64 (q i).e)) ∧ Row w (q i).ao (q i).n (q i).cap (q i).d
def updN (q : Nat → NumR) (k : Nat) (x : NumR) : Nat → NumR := fun j => if j = k then x else q j
theorem updN_same (q : Nat → NumR) (k : Nat) (x : NumR) : updN q k x k = x := by simp [updN]
theorem updN_other (q : Nat → NumR) {k j : Nat} (x : NumR) (h : j ≠ k) : updN q k x j = q j := by simp [updN, h]
theorem wr3 (W : World) (g o0 o1 o2 : Nat) (x y z : Value) : Wr g W (((W.setCell ⟨g, o0, none⟩ x).setCell ⟨g, o1, none⟩ y).setCell ⟨g, o2, none⟩ z) := (((Wr.refl g W).setCell o0 x).setCell o1 y).setCell o2 z
theorem Row.wrN {w w' : World} {g : Nat} {ao : Option Addr} {n cap : Nat} {d : Nat → Int} (h : Row w ao n cap d) (hw : Wr g w w') {cur : Array Value} {z : Nat × Nat} (hg : w.heap[g]? = some (.cells cur 74 z)) (ht : ∀ b off, ao = some ⟨b, off, none⟩ → 0 < n → b ≠ g) : Row w' ao n cap d :=
  ⟨h.le, h.max, h.nl, fun hn => by
    obtain ⟨b, off, rfl, hlt, hc⟩ := h.spot hn
    exact ⟨b, off, rfl, Nat.lt_of_lt_of_le hlt hw.size, fun i hi => (hw.cell (p := ⟨b, off + i, none⟩) hlt (ht b off rfl hn)).trans (hc i hi)⟩⟩
theorem Ans.open {w w' : World} {V : Int} {so : Option Addr} {sn sc : Nat} (h : Ans w w' V (.slice so sn sc)) : ∃ d, Row w' so sn sc d ∧ Nrm d sn ∧ val d sn = V ∧ ∀ b off, so = some ⟨b, off, none⟩ → w.heap.size ≤ b := by
  obtain ⟨t, d, hO, hN, hV, _⟩ := h
  have hge := own_ge hO
  obtain ⟨so', sc', e, hR⟩ := hO.row
  simp only [Value.slice.injEq] at e
  obtain ⟨rfl, rfl, rfl⟩ := e
  exact ⟨d, hR, hN, hV, fun b off hb => hge b (by rw [hb]; rfl)⟩
theorem bel_set3' {w0 w : World} {g o0 o1 o2 : Nat} (h : Below w0.heap.size w0 w) (hg : w0.heap.size ≤ g) (x y z : Value) : Below w0.heap.size w0 (((w.setCell ⟨g, o0, none⟩ x).setCell ⟨g, o1, none⟩ y).setCell ⟨g, o2, none⟩ z) := ((h.setCell (p := ⟨g, o0, none⟩) hg x).setCell (p := ⟨g, o1, none⟩) hg y).setCell (p := ⟨g, o2, none⟩) hg z
theorem set3_get {cur : Array Value} {k : Nat} {x y z : Value} (h : k * 3 + 2 < cur.size) (i : Nat) :
    let c := ((cur.setIfInBounds (k * 3) x).setIfInBounds (k * 3 + 1) y).setIfInBounds (k * 3 + 2) z
    (i = k → c[i * 3]? = some x ∧ c[i * 3 + 1]? = some y ∧ c[i * 3 + 2]? = some z) ∧ (i ≠ k → c[i * 3]? = cur[i * 3]? ∧ c[i * 3 + 1]? = cur[i * 3 + 1]? ∧ c[i * 3 + 2]? = cur[i * 3 + 2]?) := by
  intro c
  refine ⟨fun e => ?_, fun e => ?_⟩
  · subst e
    refine ⟨?_, ?_, ?_⟩
    · show (((cur.setIfInBounds (i * 3) x).setIfInBounds (i * 3 + 1) y).setIfInBounds (i * 3 + 2) z)[i * 3]? = some x
      rw [Array.getElem?_setIfInBounds_ne (by omega), Array.getElem?_setIfInBounds_ne (by omega), Array.getElem?_setIfInBounds_self_of_lt (by omega)]
    · show (((cur.setIfInBounds (i * 3) x).setIfInBounds (i * 3 + 1) y).setIfInBounds (i * 3 + 2) z)[i * 3 + 1]? = some y
      rw [Array.getElem?_setIfInBounds_ne (by omega), Array.getElem?_setIfInBounds_self_of_lt (by simp; omega)]
    · show (((cur.setIfInBounds (i * 3) x).setIfInBounds (i * 3 + 1) y).setIfInBounds (i * 3 + 2) z)[i * 3 + 2]? = some z
      rw [Array.getElem?_setIfInBounds_self_of_lt (by simp; omega)]
  · refine ⟨?_, ?_, ?_⟩
    all_goals
      show (((cur.setIfInBounds (k * 3) x).setIfInBounds (k * 3 + 1) y).setIfInBounds (k * 3 + 2) z)[_]? = _
      rw [Array.getElem?_setIfInBounds_ne (by omega), Array.getElem?_setIfInBounds_ne (by omega), Array.getElem?_setIfInBounds_ne (by omega)]
theorem BlkN.step {wr w3 : World} {g N k : Nat} {q : Nat → NumR} (h : BlkN wr g N k q) (hb : Below wr.heap.size wr w3) (x : NumR) (hx : Row w3 x.ao x.n x.cap x.d) (hk : k < N) (hg : ∀ i b' off, i < k → (q i).ao = some ⟨b', off, none⟩ → 0 < (q i).n → g < b') (hg2 : ∀ b' off, x.ao = some ⟨b', off, none⟩ → 0 < x.n → g < b') :
    BlkN (((w3.setCell ⟨g, k * 3, none⟩ (.bool x.ng)).setCell ⟨g, k * 3 + 1, none⟩ (.slice x.ao x.n x.cap)).setCell ⟨g, k * 3 + 2, none⟩ (.int .i64 x.e)) g N (k + 1) (updN q k x) := by
  obtain ⟨cur, hcur, hsz, hc⟩ := h
  have q0 := (hb.block g (Array.getElem?_eq_some_iff.1 hcur).1).trans hcur
  have q1 := heap_set (heap_set (heap_set q0 (k * 3) (.bool x.ng)) (k * 3 + 1) (.slice x.ao x.n x.cap)) (k * 3 + 2) (.int .i64 x.e)
  have hw := wr3 w3 g (k * 3) (k * 3 + 1) (k * 3 + 2) (.bool x.ng) (.slice x.ao x.n x.cap) (.int .i64 x.e)
  refine ⟨_, q1, by simp [hsz], fun i hi => ?_⟩
  have hs := set3_get (cur := cur) (k := k) (x := .bool x.ng) (y := .slice x.ao x.n x.cap) (z := .int .i64 x.e) (by omega) i
  by_cases e : i = k
  · subst e
    rw [updN_same]
    exact ⟨hs.1 rfl, hx.wrN hw q0 fun b' off he hn => by have := hg2 b' off he hn; omega⟩
  · rw [updN_other q x e]
    obtain ⟨s0, s1, s2⟩ := hs.2 e
    obtain ⟨⟨c0, c1, c2⟩, hR⟩ := hc i (by omega)
    refine ⟨⟨s0.trans c0, s1.trans c1, s2.trans c2⟩, (hR.keeps hb).wrN hw q0 fun b' off he hn => ?_⟩
    have := hg i b' off (by omega) he hn
    omega
end Go.Proofs.YtjlmpgbadgkgmaaGreatDoor
