/-
  RoundBetween: for every number the law returns true: down, up, to 0 and to the nearest are neighbours around the number. As a card: the library's tables and the layouts start as the program's text lays them.
-/
import Derived.Test.YtgplnodgndbdeaaDoorPart14
import Derived.Test.YtgplnodgndbdeaaDoorCards
import Derived.Test.YtgplnodgndbdeaaDoorTie
namespace Go.Proofs.YtgplnodgndbdeaaDoor.roundBetween
open Go Go.ChangeShapes Go.WideShapes Go.ChangeAt Go.RowKit Go.Proofs.YtgplnodgndbdeaaDoor Go.Proofs.YtgplnodgndbdeaaDoor.M
set_option linter.unusedSimpArgs false
set_option linter.unusedVariables false

set_option maxRecDepth 100000 in
set_option maxHeartbeats 8000000 in
theorem walk (l : NumR) (w : World) (hl : Row w l.ao l.n l.cap l.d) (el : rng l.e) (H : Hold4 w) :
    Calls Tryd.prog 3 #[l.v] w fun e w' => e = .returned (.bool true) ∧ Below w.heap.size w w' := by
  have l_N := fun W hb => num4_B l W (hl.keeps hb) el
  unfold NumR.v at *
  obtain ⟨l_g, l_o, l_n, l_c, l_d, l_e⟩ := l
  simp only at *
  clear hl el
  go_enter Tryd.func3, Tryd.ntmps3
  have l_k : (w.alloc (.cells #[.bool l_g, .slice l_o l_n l_c, .int .i64 l_e] 24)).heap[w.heap.size]? = some (.cells #[.bool l_g, .slice l_o l_n l_c, .int .i64 l_e] 24 (0, 0)) := heap_a1 _ _
  have hb0 : Below w.heap.size w (w.alloc (.cells #[.bool l_g, .slice l_o l_n l_c, .int .i64 l_e] 24)) := bel_alloc _ _
  go_wp2_with fail
  generalize (w.alloc (.cells #[.bool l_g, .slice l_o l_n l_c, .int .i64 l_e] 24)) = x0 at l_k hb0 ⊢
  have H := H.keeps hb0
  refine (l_N _ hb0 H.tab).mono ?_
  rintro _ y1 ⟨v, y_V, rfl, h1 , y_B⟩
  obtain ⟨y_g, y_o, y_n, y_c, y_e, rfl⟩ := dans_shape h1
  have hw1 := h1.below
  have y_D := h1.num
  have H := H.keeps hw1
  have l_k := (hw1.block _ (Array.getElem?_eq_some_iff.1 l_k).1).trans l_k
  have hb1 := bel_trans hb0 hw1
  obtain ⟨f, F4, hB, hR⟩ := to_btw y_D (y_B.ok (by omega)) H
  have l_k := heap_past (.cells #[.bool y_g, .slice y_o y_n y_c, .int .i64 y_e] 24) l_k
  have y_k := heap_a1 y1 (.cells #[.bool y_g, .slice y_o y_n y_c, .int .i64 y_e] 24)
  have y_D := y_D.keeps (bel_alloc y1 (.cells #[.bool y_g, .slice y_o y_n y_c, .int .i64 y_e] 24))
  have H := H.keeps (bel_alloc y1 (.cells #[.bool y_g, .slice y_o y_n y_c, .int .i64 y_e] 24))
  have F4 := F4.keeps (bel_alloc y1 (.cells #[.bool y_g, .slice y_o y_n y_c, .int .i64 y_e] 24))
  have hb2' := bel_trans hb1 (bel_alloc y1 (.cells #[.bool y_g, .slice y_o y_n y_c, .int .i64 y_e] 24))
  go_wp2_with fail
  generalize y1.alloc (.cells #[.bool y_g, .slice y_o y_n y_c, .int .i64 y_e] 24) = x2 at l_k y_k y_D H F4 hb2' ⊢
  refine (F4.at 1 (by decide)).mono ?_
  rintro _ y2 ⟨rfl, hw2⟩
  have H := H.keeps hw2
  have F4 := F4.keeps hw2
  have l_k := (hw2.block _ (Array.getElem?_eq_some_iff.1 l_k).1).trans l_k
  have y_k := (hw2.block _ (Array.getElem?_eq_some_iff.1 y_k).1).trans y_k
  have y_D := y_D.keeps hw2
  have hb2 := bel_trans hb2' hw2
  have f_y0 := blkC y_k 0 rfl
  have f_y1 := blkC y_k 1 rfl
  have f_y2 := blkC y_k 2 rfl
  go_wp2_with fail
  clear f_y0 f_y1 f_y2
  refine (F4.at 2 (by decide)).mono ?_
  rintro _ y3 ⟨rfl, hw3⟩
  have H := H.keeps hw3
  have F4 := F4.keeps hw3
  have l_k := (hw3.block _ (Array.getElem?_eq_some_iff.1 l_k).1).trans l_k
  have y_k := (hw3.block _ (Array.getElem?_eq_some_iff.1 y_k).1).trans y_k
  have y_D := y_D.keeps hw3
  have hb3 := bel_trans hb2 hw3
  have f_y0 := blkC y_k 0 rfl
  have f_y1 := blkC y_k 1 rfl
  have f_y2 := blkC y_k 2 rfl
  go_wp2_with fail
  clear f_y0 f_y1 f_y2
  refine (F4.at 3 (by decide)).mono ?_
  rintro _ y4 ⟨rfl, hw4⟩
  have H := H.keeps hw4
  have F4 := F4.keeps hw4
  have l_k := (hw4.block _ (Array.getElem?_eq_some_iff.1 l_k).1).trans l_k
  have y_k := (hw4.block _ (Array.getElem?_eq_some_iff.1 y_k).1).trans y_k
  have y_D := y_D.keeps hw4
  have hb4 := bel_trans hb3 hw4
  have f_y0 := blkC y_k 0 rfl
  have f_y1 := blkC y_k 1 rfl
  have f_y2 := blkC y_k 2 rfl
  go_wp2_with fail
  clear f_y0 f_y1 f_y2
  refine (F4.at 0 (by decide)).mono ?_
  rintro _ y5 ⟨rfl, hw5⟩
  have H := H.keeps hw5
  have F4 := F4.keeps hw5
  have l_k := (hw5.block _ (Array.getElem?_eq_some_iff.1 l_k).1).trans l_k
  have y_k := (hw5.block _ (Array.getElem?_eq_some_iff.1 y_k).1).trans y_k
  have y_D := y_D.keeps hw5
  have hb5 := bel_trans hb4 hw5
  go_wp2_with fail
  refine (alive4 _ H.env H.tab).mono ?_
  rintro _ y6 ⟨rfl, hw6⟩
  have H := H.keeps hw6
  have F4 := F4.keeps hw6
  have l_k := (hw6.block _ (Array.getElem?_eq_some_iff.1 l_k).1).trans l_k
  have y_k := (hw6.block _ (Array.getElem?_eq_some_iff.1 y_k).1).trans y_k
  have y_D := y_D.keeps hw6
  have hb6 := bel_trans hb5 hw6
  obtain ⟨o2, o3, o0, lo, hi, ex, up⟩ := hB
  rw [o2, o3, o0]
  have r1 := hR 1
  have OR := fun W b (D : DNum W (.agg #[.bool y_g, .slice y_o y_n y_c, .int .i64 y_e]) y_V) (H : Hold4 W) => order4 b D (y_B.ok (by omega)) H.lay H.tab
  clear o2 o3 o0 hR F4 l_N
  generalize (f 1).1 = d at *
  generalize (f 2).1 = u at *
  generalize (f 3).1 = z at *
  generalize (f 0).1 = n at *
  generalize (f 1).2 = o at *
  have O1 := fun W D H => OR W d D H
  have O2 := fun W D H => OR W u D H
  clear OR
  generalize ordP y_V d = od at *
  generalize ordP y_V u = ou at *
  have ex : Hid (o = false → od = 0 ∧ u = d ∧ z = d ∧ n = d) := ex
  have up : Hid (o = true → od ≠ 0 ∧ canon (next d) = u ∧ (n = d ∨ n = u) ∧ (y_g = false → z = d) ∧ (y_g = true → z = u)) := up
  have f_y0 := blkC y_k 0 rfl
  have f_y1 := blkC y_k 1 rfl
  have f_y2 := blkC y_k 2 rfl
  go_wp2_with fail
  clear f_y0 f_y1 f_y2
  refine (O1 _ y_D H).mono ?_
  rintro _ y7 ⟨rfl, hw7⟩
  have H := H.keeps hw7
  have l_k := (hw7.block _ (Array.getElem?_eq_some_iff.1 l_k).1).trans l_k
  have y_k := (hw7.block _ (Array.getElem?_eq_some_iff.1 y_k).1).trans y_k
  have y_D := y_D.keeps hw7
  have hb7 := bel_trans hb6 hw7
  have f_y0 := blkC y_k 0 rfl
  have f_y1 := blkC y_k 1 rfl
  have f_y2 := blkC y_k 2 rfl
  go_wp2_with fail
  clear f_y0 f_y1 f_y2
  refine (O2 _ y_D H).mono ?_
  rintro _ y8 ⟨rfl, hw8⟩
  have H := H.keeps hw8
  have l_k := (hw8.block _ (Array.getElem?_eq_some_iff.1 l_k).1).trans l_k
  have y_k := (hw8.block _ (Array.getElem?_eq_some_iff.1 y_k).1).trans y_k
  have y_D := y_D.keeps hw8
  have hb8 := bel_trans hb7 hw8
  cases o
  · obtain ⟨rfl, rfl, rfl, rfl⟩ := ex.out rfl
    clear ex up
    have f_y0 := blkC y_k 0 rfl
    have f_y1 := blkC y_k 1 rfl
    have f_y2 := blkC y_k 2 rfl
    go_wp2_with fail
    clear f_y0 f_y1 f_y2
    refine (O1 _ y_D H).mono ?_
    rintro _ y9 ⟨rfl, hw9⟩
    have H := H.keeps hw9
    have l_k := (hw9.block _ (Array.getElem?_eq_some_iff.1 l_k).1).trans l_k
    have y_k := (hw9.block _ (Array.getElem?_eq_some_iff.1 y_k).1).trans y_k
    have y_D := y_D.keeps hw9
    have hb9 := bel_trans hb8 hw9
    go_wp2
    go_ret
    exact ⟨rfl, hb9⟩
  · obtain ⟨u1, u2, u3, u4, u5⟩ := up.out rfl
    clear ex up
    go_wp2_with fail
    refine ((bitsNext d _ H.env.lays r1).mono fun e w' h => (⟨h.1, h.2.be⟩ : _ ∧ Below _ _ _)).mono ?_
    rintro _ y9 ⟨rfl, hw9⟩
    have H := H.keeps hw9
    have l_k := (hw9.block _ (Array.getElem?_eq_some_iff.1 l_k).1).trans l_k
    have y_k := (hw9.block _ (Array.getElem?_eq_some_iff.1 y_k).1).trans y_k
    have y_D := y_D.keeps hw9
    have hb9 := bel_trans hb8 hw9
    go_wp2_with fail
    refine ((bitsCanon (next d) _ H.env.lays).mono fun e w' h => (⟨h.1, h.2.be⟩ : _ ∧ Below _ _ _)).mono ?_
    rintro _ y10 ⟨rfl, hw10⟩
    have H := H.keeps hw10
    have l_k := (hw10.block _ (Array.getElem?_eq_some_iff.1 l_k).1).trans l_k
    have y_k := (hw10.block _ (Array.getElem?_eq_some_iff.1 y_k).1).trans y_k
    have y_D := y_D.keeps hw10
    have hb10 := bel_trans hb9 hw10
    rw [u2]
    clear u2
    have f_y0 := blkC y_k 0 rfl
    have f_y1 := blkC y_k 1 rfl
    have f_y2 := blkC y_k 2 rfl
    go_wp2_with fail
    clear f_y0 f_y1 f_y2
    refine (O1 _ y_D H).mono ?_
    rintro _ y11 ⟨rfl, hw11⟩
    have H := H.keeps hw11
    have l_k := (hw11.block _ (Array.getElem?_eq_some_iff.1 l_k).1).trans l_k
    have y_k := (hw11.block _ (Array.getElem?_eq_some_iff.1 y_k).1).trans y_k
    have y_D := y_D.keeps hw11
    have hb11 := bel_trans hb10 hw11
    have f0 := blkC y_k 0 rfl
    have u4 : Hid (y_g = false → z = d) := u4
    have u5 : Hid (y_g = true → z = u) := u5
    cases y_g
    · have e := u4.out rfl
      subst e
      rcases u3 with e | e
      · subst e
        go_wp2
        all_goals go_ret
        all_goals exact ⟨rfl, hb11⟩
      · subst e
        go_wp2
        all_goals go_ret
        all_goals exact ⟨rfl, hb11⟩
    · have e := u5.out rfl
      subst e
      rcases u3 with e | e
      · subst e
        go_wp2
        all_goals go_ret
        all_goals exact ⟨rfl, hb11⟩
      · subst e
        go_wp2
        all_goals go_ret
        all_goals exact ⟨rfl, hb11⟩
theorem own : ownKnob Tryd.prog.godebug = none := by kernel_rfl
theorem laidOut : laidOutB Tryd.prog = true := by kernel_rfl
theorem door_met (os : Os) (args : Array Value) : laidMetH Tryd.prog Rows.roundBetweenRow.laid ((World.doorLaid Tryd.prog 400 os).forCall (fun _ _ => 0) ⟨#[], args, []⟩).memory :=
  laidMetH_of_parts3 (fuel := 8) (laidMet_of_run' 8 (by kernel_rfl) (by kernel_rfl)) (by kernel_rfl) (by kernel_rfl)
set_option maxRecDepth 100000 in
theorem lifted (os : Os) (started : os.Started) (H : Type) (enc : TypeId × Value → H) :
    ReturnsInHanded {} Tryd.checked os 3 .any (fun w args => (Rows.roundBetweenSpec.pre enc Tryd.prog Tryd.f3 [] false w args ∧ laidMetH Tryd.prog Rows.roundBetweenRow.laid w) ∧ sizedMet enc Tryd.prog Tryd.f3 (OpenSpec.ofChange Rows.roundBetweenSpec) false w args)
      (Rows.roundBetweenSpec.post enc Tryd.prog Tryd.f3 false true false false) := by
  refine returnsInHanded_of_change_and (C := Tryd.checked) (X := fun w _ => laidMetH Tryd.prog Rows.roundBetweenRow.laid w) (fun _ _ _ hh h => h.of_heap hh) own started (by kernel_rfl) Tryd.func3
    (ChangeSpec.witness_shaped (enc := enc) (C := Tryd.checked) (os := os) (X := fun w _ => laidMetH Tryd.prog Rows.roundBetweenRow.laid w) false (World.doorLaid Tryd.prog 400 os) #[.agg #[.bool false, .slice none 0 0, .int .i64 0]] 8 rfl (World.shaped_of_RefB (by kernel_rfl) (by kernel_rfl)) (by kernel_rfl) (by kernel_rfl) (by kernel_rfl) (door_met os _)) ?_
  intro W base args ds gs before hval0 hW _ _ hL _
  have hval : ∀ (j : Nat) t v, Tryd.f3.params[j]? = some t → args[j]? = some v → Value.okWide Tryd.prog W .any base t v := hval0
  have hW' := hW
  obtain ⟨p, q, hA0, hV, rfl, hfz, hnd⟩ := hW
  have hA : DataW.TrodAll enc Tryd.prog W 0 (fun _ => true) true Tryd.f3.params.toList args.toList ds p := hA0
  rw [Tryd.params3] at hA hval
  obtain ⟨v0, vs0, d0, ds0, p0, q0, hargs, rfl, rfl, h0, r0⟩ := trodAll_cons hA
  obtain ⟨rfl, rfl, rfl⟩ := trodAll_nil r0
  obtain rfl : args = #[v0] := by cases args; simp_all
  obtain ⟨rfl, rfl⟩ := trodVars_none hV
  have k0 := h0
  have lt0 : ∀ x ∈ p0, x.block < W.heap.size := by obtain ⟨m, hm⟩ := k0; exact DataW.trod_lt m _ _ _ hm
  obtain ⟨x0, rfl, w0, g0⟩ := num_of (hval 0 24 v0 rfl rfl) h0
  clear hA0 hval0
  refine (walk x0 W w0 g0 (hold4_of hL)).mono fun e W' ⟨he, bel⟩ => ?_
  subst he
  exact ⟨_, rfl, _, _, _, [], _, [], hW', trodAll_mk1 (shut_bool Tryd.underlying4 _), (trodAll_cons_mk (Below.trod laidOut (by kernel_rfl) (of_decide_eq_true (by kernel_rfl)) k0 bel lt0) trodAll_mk0), rfl, bel.frame _, fun h => by cases h⟩
theorem said : Rows.RoundBetweenSaid :=
  OpenClaim.holds_of_wide 3 Tryd.f3 rfl rfl rfl rfl rfl rfl rfl ⟨rfl, rfl, rfl, rfl, rfl⟩ rfl rfl rfl rfl rfl (by kernel_rfl) Tryd.func3 (by kernel_rfl)
    (of_decide_eq_true (by kernel_rfl)) (by unfold Func.isWrapper; first | (rw [if_pos (by decide +kernel)]; kernel_rfl) | (rw [if_neg (by decide +kernel)]; exact ⟨rfl, rfl⟩))
    (fun os started H enc _ => lifted os started H enc)
theorem plain (f : FuncId) (fn : Func) (hf : Tryd.pinned.checked.prog.funcNamed Tryd.f3.name = some f) (hfn : Tryd.pinned.checked.prog.funcs[f]? = some fn) :
    true = Tryd.pinned.checked.prog.looks [] ∧ ∀ (j : Nat) t, fn.params[j]? = some t → Tryd.pinned.checked.prog.wantsStandIn t = false := by
  obtain rfl : f = 3 := Option.some.inj ((show Tryd.prog.funcNamed Tryd.f3.name = some 3 by kernel_rfl).symm.trans hf) |>.symm
  obtain rfl : fn = Tryd.f3 := (Option.some.inj (Tryd.func3.symm.trans hfn)).symm
  refine ⟨by kernel_rfl, fun j t ht => ?_⟩
  rw [Tryd.params3] at ht
  obtain rfl : t = 24 := by simpa using Array.mem_of_getElem? ht
  exact (show Tryd.prog.wantsStandIn 24 = false by kernel_rfl)
/-- THE CARD. -/
theorem card : Rows.RoundBetweenCardSaid :=
  Claim7.holds_tied_plain_at .later [] _ _ _ _ said (fun _ h => by cases h) (by kernel_rfl) (fun _ h => by cases h) roundBetween_row_tie rfl ⟨rfl, rfl⟩ (by kernel_rfl) rfl plain (by kernel_rfl)
end Go.Proofs.YtgplnodgndbdeaaDoor.roundBetween
namespace Go.Proofs.YtgplnodgndbdeaaDoor
/-- RoundBetween: the statement as it is given. -/
theorem roundBetween_holds : Rows.RoundBetweenCardSaid := roundBetween.card
end Go.Proofs.YtgplnodgndbdeaaDoor
