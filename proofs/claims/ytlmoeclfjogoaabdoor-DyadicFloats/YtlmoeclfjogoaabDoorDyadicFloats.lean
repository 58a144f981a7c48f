/-
  DyadicFloats: for every pattern the law returns true: a float's value is told back; half of the least float, and what has a bit more than a float has, is none. As a card: the library's tables and the layout start as the program's text lays them.
-/
import Derived.Test.YtlmoeclfjogoaabDoorPart10
import Derived.Test.YtlmoeclfjogoaabDoorCards
import Derived.Test.YtlmoeclfjogoaabDoorTie
namespace Go.Proofs.YtlmoeclfjogoaabDoor.dyadicFloats
open Go Go.ChangeShapes Go.WideShapes Go.ChangeAt Go.RowKit Go.Proofs.YtlmoeclfjogoaabDoor Go.Proofs.YtlmoeclfjogoaabDoor.M
set_option linter.unusedSimpArgs false
set_option linter.unusedVariables false

set_option maxRecDepth 100000 in
set_option maxHeartbeats 8000000 in
theorem walk (b : Int) (w : World) (hb : rng b) (H : Hold w) :
    Calls Tryd.prog 5 #[.int .i64 b] w fun e w' => e = .returned (.bool true) ∧ Below w.heap.size w w' := by
  have hform := fun hp ng m e hy => @float_form b hb hp ng m e hy
  have hO := dof_any b w H.lay H.tab
  have hrb : -9223372036854775808 ≤ b ∧ b < 9223372036854775808 := hb
  clear hb
  generalize sg (pneg b) (pmag b) * pw (pexp b) = V at hform hO
  cases hp : pok b
  · rw [hp] at hO
    clear hform
    go_enter Tryd.func5, Tryd.ntmps5
    go_wp2_with fail
    refine hO.mono ?_
    rintro _ y1 ⟨v, er, rfl, hb1, (⟨h, _⟩ | ⟨_, rfl, rfl⟩)⟩
    · cases h
    unfold zeroV
    have x_k := heap_a1 y1 (.cells #[.bool false, .slice none 0 0, .int .i64 0] 24)
    have hb1' := bel_trans hb1 (bel_alloc y1 (.cells #[.bool false, .slice none 0 0, .int .i64 0] 24))
    go_wp2_with fail
    generalize y1.alloc (.cells #[.bool false, .slice none 0 0, .int .i64 0] 24) = x1 at x_k hb1' ⊢
    refine (dalive_any _ (H.lay.keeps hb1') (H.tab.keeps hb1')).mono ?_
    rintro _ y2 ⟨rfl, hw2⟩
    have x_k := (hw2.block _ (Array.getElem?_eq_some_iff.1 x_k).1).trans x_k
    have hb2 := bel_trans hb1' hw2
    have f0 := blkC x_k 0 rfl
    have f1 := blkC x_k 1 rfl
    have f2 := blkC x_k 2 rfl
    go_wp2_with fail
    refine (sameD_yes (A := 0) (DNum.zero _) (DNum.zero _)).mono ?_
    rintro _ y3 ⟨rfl, hw3⟩
    go_wp2
    go_ret
    exact ⟨rfl, bel_trans hb2 hw3⟩
  · rw [hp] at hO
    have hform := hform hp
    go_enter Tryd.func5, Tryd.ntmps5
    go_wp2_with fail
    refine hO.mono ?_
    rintro _ y1 ⟨v, er, rfl, hb1, (⟨_, rfl, hDx⟩ | ⟨h, _⟩)⟩
    · obtain ⟨x_g, xs, xm, x_e, rfl, hy, hAx⟩ := id hDx
      obtain ⟨q1, q2, q3, q4, q5, q6, q7⟩ := hform x_g xm x_e hy
      have ok : Dok V := hy.ok.2 ⟨by have := P2000_big2; omega, by omega, by omega⟩
      obtain ⟨x_o, x_n, x_c, rfl⟩ := hAx.num.shape
      have hzero := hAx.num.zero
      have x_D := hDx.num
      have HJ : Hid (jp x_g xm x_e = b ∨ (b = -9223372036854775808 ∧ jp x_g xm x_e = 0 ∧ xm = 0)) := q6
      have HZ : Hid (xm = 0 → jp x_g xm x_e = 0) := q7
      have FL := fun W (D : DNum W (.agg #[.bool x_g, .slice x_o x_n x_c, .int .i64 x_e]) V) (hb : Below w.heap.size w W) => float_yes D ok (H.lay.keeps hb) (H.tab.keeps hb) hy q1 q5
      have hnn := hy.nonneg
      clear hDx hAx q5 q6 q7 hform hO
      generalize jp x_g xm x_e = c0 at HJ HZ FL
      have x_k := heap_a1 y1 (.cells #[.bool x_g, .slice x_o x_n x_c, .int .i64 x_e] 24)
      have x_D := x_D.keeps (bel_alloc y1 (.cells #[.bool x_g, .slice x_o x_n x_c, .int .i64 x_e] 24))
      have hb2' := bel_trans hb1 (bel_alloc y1 (.cells #[.bool x_g, .slice x_o x_n x_c, .int .i64 x_e] 24))
      go_wp2_with fail
      generalize y1.alloc (.cells #[.bool x_g, .slice x_o x_n x_c, .int .i64 x_e] 24) = x2 at x_k x_D hb2' ⊢
      refine (dalive_any _ (H.lay.keeps hb2') (H.tab.keeps hb2')).mono ?_
      rintro _ y2 ⟨rfl, hw2⟩
      have x_k := (hw2.block _ (Array.getElem?_eq_some_iff.1 x_k).1).trans x_k
      have x_D := x_D.keeps hw2
      have hb2 := bel_trans hb2' hw2
      have f_x0 := blkC x_k 0 rfl
      have f_x1 := blkC x_k 1 rfl
      have f_x2 := blkC x_k 2 rfl
      go_wp2_with fail
      clear f_x0 f_x1 f_x2
      refine (FL _ x_D hb2).mono ?_
      rintro _ y3 ⟨rfl, hw3⟩
      have x_k := (hw3.block _ (Array.getElem?_eq_some_iff.1 x_k).1).trans x_k
      have x_D := x_D.keeps hw3
      have hb3 := bel_trans hb2 hw3
      by_cases hm0 : xm = 0
      · have hn0 : x_n = 0 := hzero.1 hm0
        have hc0 := HZ.out hm0
        subst hn0 hc0
        have hbb : b = 0 ∨ b = -9223372036854775808 := by rcases HJ.out with h | ⟨h, _⟩ <;> omega
        have f0 := blkC x_k 0 rfl
        have f1 := blkC x_k 1 rfl
        have f2 := blkC x_k 2 rfl
        rcases hbb with rfl | rfl
        · go_wp2
          go_ret
          exact ⟨rfl, hb3⟩
        · go_wp2
          go_ret
          exact ⟨rfl, hb3⟩
      · have hn0 : 0 < x_n := by
          by_cases h : x_n = 0
          · exact absurd (hzero.2 h) hm0
          · omega
        have hn1 : ((x_n : Int) == 0) = false := by simp; omega
        have hcb : c0 = b := by
          rcases HJ.out with h | ⟨_, _, h⟩
          · exact h
          · exact absurd h hm0
        subst hcb
        obtain ⟨tm, ty, tk, tok⟩ := tiny_form hy (by omega) q2 q3 q4
        have hhalf := fun C hC => @half_form V C x_g xm x_e hy (by omega) q2 q3 q4 hC
        have ok60 : Dok (pw (x_e - 60)) := by
          have := dok_lit (ng := false) (m := 1) (e := x_e - 60) (by decide) (by decide) (by decide) (by omega) (by omega)
          rwa [show sg false 1 * pw (x_e - 60) = pw (x_e - 60) by show 1 * pw (x_e - 60) = _; rw [Int.one_mul]] at this
        have hmk : mkV false 1 (x_e - 60) = pw (x_e - 60) := by
          unfold mkV
          rw [if_neg (by decide), if_neg (by omega)]
          show 1 * pw (x_e - 60) = _
          rw [Int.one_mul]
        have hw60 : wrap64 (x_e - 60) = x_e - 60 := IntWalk.wrap64_in _ ⟨by omega, by omega⟩
        have hw80 : wrap64 (-1080 - x_e) = -1080 - x_e := IntWalk.wrap64_in _ ⟨by omega, by omega⟩
        have f0 := blkC x_k 0 rfl
        have f1 := blkC x_k 1 rfl
        have f2 := blkC x_k 2 rfl
        have e0 := blkC (heap_past (.cells #[.int .i64 1] 3) x_k) 0 rfl
        have e1 := blkC (heap_past (.cells #[.int .i64 1] 3) x_k) 1 rfl
        have e2 := blkC (heap_past (.cells #[.int .i64 1] 3) x_k) 2 rfl
        go_wp2_with fail
        have lN := num1 y3 1 (by decide) (by decide) rfl
        have x_k := heap_past (.cells #[.int .i64 1] 3) x_k
        have x_D := x_D.keeps (bel_alloc y3 (.cells #[.int .i64 1] 3))
        have hbL := bel_trans hb3 (bel_alloc y3 (.cells #[.int .i64 1] 3))
        clear e0 e1 e2 f0 f1 f2
        generalize y3.alloc (.cells #[.int .i64 1] 3) = xL at lN x_k x_D hbL ⊢
        have hM := make_D false (x_e - 60) lN (by have := P2000_big2; omega) (H.tab.keeps hbL)
        rw [hmk] at hM
        refine hM.mono ?_
        rintro _ y4 ⟨v, er, rfl, hF⟩
        obtain ⟨rfl, h4⟩ := hF.yes ok60
        obtain ⟨t_g, t_o, t_n, t_c, t_e, rfl⟩ := dans_shape h4
        have hw4 := h4.below
        have t_D := h4.num
        clear hF h4 hM lN hmk
        have x_k := (hw4.block _ (Array.getElem?_eq_some_iff.1 x_k).1).trans x_k
        have x_D := x_D.keeps hw4
        have hb4 := bel_trans hbL hw4
        have x_k := heap_past (.cells #[.bool t_g, .slice t_o t_n t_c, .int .i64 t_e] 24) x_k
        have t_k := heap_a1 y4 (.cells #[.bool t_g, .slice t_o t_n t_c, .int .i64 t_e] 24)
        have x_D := x_D.keeps (bel_alloc y4 (.cells #[.bool t_g, .slice t_o t_n t_c, .int .i64 t_e] 24))
        have t_D := t_D.keeps (bel_alloc y4 (.cells #[.bool t_g, .slice t_o t_n t_c, .int .i64 t_e] 24))
        have hb5' := bel_trans hb4 (bel_alloc y4 (.cells #[.bool t_g, .slice t_o t_n t_c, .int .i64 t_e] 24))
        have f_x0 := blkC x_k 0 rfl
        have f_x1 := blkC x_k 1 rfl
        have f_x2 := blkC x_k 2 rfl
        go_wp2_with fail
        clear f_x0 f_x1 f_x2
        generalize y4.alloc (.cells #[.bool t_g, .slice t_o t_n t_c, .int .i64 t_e] 24) = x5 at x_k t_k x_D t_D hb5' ⊢
        refine (add_D x_D t_D ok ok60 (H.tab.keeps hb5')).mono ?_
        rintro _ y5 ⟨v, er, rfl, hF⟩
        obtain ⟨rfl, h5⟩ := hF.yes tok
        obtain ⟨z_g, z_o, z_n, z_c, z_e, rfl⟩ := dans_shape h5
        have hw5 := h5.below
        have z_D := h5.num
        clear hF h5
        have x_k := (hw5.block _ (Array.getElem?_eq_some_iff.1 x_k).1).trans x_k
        have x_D := x_D.keeps hw5
        have t_k := (hw5.block _ (Array.getElem?_eq_some_iff.1 t_k).1).trans t_k
        have t_D := t_D.keeps hw5
        have hb5 := bel_trans hb5' hw5
        have x_k := heap_past (.cells #[.bool z_g, .slice z_o z_n z_c, .int .i64 z_e] 24) x_k
        have t_k := heap_past (.cells #[.bool z_g, .slice z_o z_n z_c, .int .i64 z_e] 24) t_k
        have z_k := heap_a1 y5 (.cells #[.bool z_g, .slice z_o z_n z_c, .int .i64 z_e] 24)
        have x_D := x_D.keeps (bel_alloc y5 (.cells #[.bool z_g, .slice z_o z_n z_c, .int .i64 z_e] 24))
        have t_D := t_D.keeps (bel_alloc y5 (.cells #[.bool z_g, .slice z_o z_n z_c, .int .i64 z_e] 24))
        have z_D := z_D.keeps (bel_alloc y5 (.cells #[.bool z_g, .slice z_o z_n z_c, .int .i64 z_e] 24))
        have hb6' := bel_trans hb5 (bel_alloc y5 (.cells #[.bool z_g, .slice z_o z_n z_c, .int .i64 z_e] 24))
        go_wp2_with fail
        generalize y5.alloc (.cells #[.bool z_g, .slice z_o z_n z_c, .int .i64 z_e] 24) = x6 at x_k t_k z_k x_D t_D z_D hb6' ⊢
        refine (float_no z_D tok (H.lay.keeps hb6') (H.tab.keeps hb6') ty tk).mono ?_
        rintro _ y6 ⟨cz, rfl, hw6⟩
        have x_k := (hw6.block _ (Array.getElem?_eq_some_iff.1 x_k).1).trans x_k
        have x_D := x_D.keeps hw6
        have t_k := (hw6.block _ (Array.getElem?_eq_some_iff.1 t_k).1).trans t_k
        have t_D := t_D.keeps hw6
        have z_k := (hw6.block _ (Array.getElem?_eq_some_iff.1 z_k).1).trans z_k
        have z_D := z_D.keeps hw6
        have hb6 := bel_trans hb6' hw6
        have f_x0 := blkC x_k 0 rfl
        have f_x1 := blkC x_k 1 rfl
        have f_x2 := blkC x_k 2 rfl
        go_wp2_with fail
        clear f_x0 f_x1 f_x2
        refine (scale_D x_D ok (-1080 - x_e) (by omega) (H.tab.keeps hb6)).mono ?_
        rintro _ y7 ⟨v, er, C, rfl, hC, hF⟩
        obtain ⟨hy7, ok7, k7⟩ := hhalf C hC
        obtain ⟨rfl, h7⟩ := hF.yes ok7
        obtain ⟨h_g, h_o, h_n, h_c, h_e, rfl⟩ := dans_shape h7
        have hw7 := h7.below
        have h_D := h7.num
        clear hF h7
        have x_k := (hw7.block _ (Array.getElem?_eq_some_iff.1 x_k).1).trans x_k
        have x_D := x_D.keeps hw7
        have t_k := (hw7.block _ (Array.getElem?_eq_some_iff.1 t_k).1).trans t_k
        have t_D := t_D.keeps hw7
        have z_k := (hw7.block _ (Array.getElem?_eq_some_iff.1 z_k).1).trans z_k
        have z_D := z_D.keeps hw7
        have hb7 := bel_trans hb6 hw7
        have x_k := heap_past (.cells #[.bool h_g, .slice h_o h_n h_c, .int .i64 h_e] 24) x_k
        have t_k := heap_past (.cells #[.bool h_g, .slice h_o h_n h_c, .int .i64 h_e] 24) t_k
        have z_k := heap_past (.cells #[.bool h_g, .slice h_o h_n h_c, .int .i64 h_e] 24) z_k
        have h_k := heap_a1 y7 (.cells #[.bool h_g, .slice h_o h_n h_c, .int .i64 h_e] 24)
        have x_D := x_D.keeps (bel_alloc y7 (.cells #[.bool h_g, .slice h_o h_n h_c, .int .i64 h_e] 24))
        have t_D := t_D.keeps (bel_alloc y7 (.cells #[.bool h_g, .slice h_o h_n h_c, .int .i64 h_e] 24))
        have z_D := z_D.keeps (bel_alloc y7 (.cells #[.bool h_g, .slice h_o h_n h_c, .int .i64 h_e] 24))
        have h_D := h_D.keeps (bel_alloc y7 (.cells #[.bool h_g, .slice h_o h_n h_c, .int .i64 h_e] 24))
        have hb8' := bel_trans hb7 (bel_alloc y7 (.cells #[.bool h_g, .slice h_o h_n h_c, .int .i64 h_e] 24))
        go_wp2_with fail
        generalize y7.alloc (.cells #[.bool h_g, .slice h_o h_n h_c, .int .i64 h_e] 24) = x8 at x_k t_k z_k h_k x_D t_D z_D h_D hb8' ⊢
        refine (float_no h_D ok7 (H.lay.keeps hb8') (H.tab.keeps hb8') hy7 k7).mono ?_
        rintro _ y8 ⟨ch, rfl, hw8⟩
        go_wp2
        go_ret
        exact ⟨rfl, bel_trans hb8' hw8⟩
    · cases h
theorem own : ownKnob Tryd.prog.godebug = none := by kernel_rfl
theorem laidOut : laidOutB Tryd.prog = true := by kernel_rfl
theorem door_met (os : Os) (args : Array Value) : laidMetH Tryd.prog Rows.dyadicFloatsRow.laid ((World.doorLaid Tryd.prog 400 os).forCall (fun _ _ => 0) ⟨#[], args, []⟩).memory :=
  laidMetH_of_parts3 (fuel := 8) (laidMet_of_run' 8 (by kernel_rfl) (by kernel_rfl)) (by kernel_rfl) (by kernel_rfl)
set_option maxRecDepth 100000 in
theorem lifted (os : Os) (started : os.Started) (H : Type) (enc : TypeId × Value → H) :
    ReturnsInHanded {} Tryd.checked os 5 .any (fun w args => (Rows.dyadicFloatsSpec.pre enc Tryd.prog Tryd.f5 [] false w args ∧ laidMetH Tryd.prog Rows.dyadicFloatsRow.laid w) ∧ sizedMet enc Tryd.prog Tryd.f5 (OpenSpec.ofChange Rows.dyadicFloatsSpec) false w args)
      (Rows.dyadicFloatsSpec.post enc Tryd.prog Tryd.f5 false true false false) := by
  refine returnsInHanded_of_change_and (C := Tryd.checked) (X := fun w _ => laidMetH Tryd.prog Rows.dyadicFloatsRow.laid w) (fun _ _ _ hh h => h.of_heap hh) own started (by kernel_rfl) Tryd.func5
    (ChangeSpec.witness_shaped (enc := enc) (C := Tryd.checked) (os := os) (X := fun w _ => laidMetH Tryd.prog Rows.dyadicFloatsRow.laid w) false (World.doorLaid Tryd.prog 400 os) #[.int .i64 0] 8 rfl (World.shaped_of_RefB (by kernel_rfl) (by kernel_rfl)) (by kernel_rfl) (by kernel_rfl) (by kernel_rfl) (door_met os _)) ?_
  intro W base args ds gs before hval0 hW _ _ hL _
  have hval : ∀ (j : Nat) t v, Tryd.f5.params[j]? = some t → args[j]? = some v → Value.okWide Tryd.prog W .any base t v := hval0
  have hW' := hW
  obtain ⟨p, q, hA0, hV, rfl, hfz, hnd⟩ := hW
  have hA : DataW.TrodAll enc Tryd.prog W 0 (fun _ => true) true Tryd.f5.params.toList args.toList ds p := hA0
  rw [Tryd.params5] at hA hval
  obtain ⟨v0, vs0, d0, ds0, p0, q0, hargs, rfl, rfl, h0, r0⟩ := trodAll_cons hA
  obtain ⟨rfl, rfl, rfl⟩ := trodAll_nil r0
  obtain rfl : args = #[v0] := by cases args; simp_all
  obtain ⟨rfl, rfl⟩ := trodVars_none hV
  obtain ⟨a0, rfl, rfl, rfl, w0⟩ := open_int Tryd.underlying3 (hval 0 3 v0 rfl rfl) h0
  clear hA0 hval0
  refine (walk a0 W (rng_of w0) (hold_of hL)).mono fun e W' ⟨he, bel⟩ => ?_
  subst he
  exact ⟨_, rfl, _, _, _, [], _, [], hW', trodAll_mk1 (shut_bool Tryd.underlying4 _), (trodAll_cons_mk (shut_int Tryd.underlying3 w0) trodAll_mk0), rfl, bel.frame _, fun h => by cases h⟩
theorem said : Rows.DyadicFloatsSaid :=
  OpenClaim.holds_of_wide 5 Tryd.f5 rfl rfl rfl rfl rfl rfl rfl ⟨rfl, rfl, rfl, rfl, rfl⟩ rfl rfl rfl rfl rfl (by kernel_rfl) Tryd.func5 (by kernel_rfl)
    (of_decide_eq_true (by kernel_rfl)) (by unfold Func.isWrapper; first | (rw [if_pos (by decide +kernel)]; kernel_rfl) | (rw [if_neg (by decide +kernel)]; exact ⟨rfl, rfl⟩))
    (fun os started H enc _ => lifted os started H enc)
theorem plain (f : FuncId) (fn : Func) (hf : Tryd.pinned.checked.prog.funcNamed Tryd.f5.name = some f) (hfn : Tryd.pinned.checked.prog.funcs[f]? = some fn) :
    true = Tryd.pinned.checked.prog.looks [] ∧ ∀ (j : Nat) t, fn.params[j]? = some t → Tryd.pinned.checked.prog.wantsStandIn t = false := by
  obtain rfl : f = 5 := Option.some.inj ((show Tryd.prog.funcNamed Tryd.f5.name = some 5 by kernel_rfl).symm.trans hf) |>.symm
  obtain rfl : fn = Tryd.f5 := (Option.some.inj (Tryd.func5.symm.trans hfn)).symm
  refine ⟨by kernel_rfl, fun j t ht => ?_⟩
  rw [Tryd.params5] at ht
  obtain rfl : t = 3 := by simpa using Array.mem_of_getElem? ht
  exact (show Tryd.prog.wantsStandIn 3 = false by kernel_rfl)
/-- THE CARD. -/
theorem card : Rows.DyadicFloatsCardSaid :=
  Claim7.holds_tied_plain_at .later [] _ _ _ _ said (fun _ h => by cases h) (by kernel_rfl) (fun _ h => by cases h) dyadicFloats_row_tie rfl ⟨rfl, rfl⟩ (by kernel_rfl) rfl plain (by kernel_rfl)
end Go.Proofs.YtlmoeclfjogoaabDoor.dyadicFloats
namespace Go.Proofs.YtlmoeclfjogoaabDoor
/-- DyadicFloats: the statement as it is given. -/
theorem dyadicFloats_holds : Rows.DyadicFloatsCardSaid := dyadicFloats.card
end Go.Proofs.YtlmoeclfjogoaabDoor
