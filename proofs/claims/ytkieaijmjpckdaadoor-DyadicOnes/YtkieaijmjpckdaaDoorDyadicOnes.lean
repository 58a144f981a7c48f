/-
  Proved: at every number and every int, plumblaw3.DyadicOnes answers true: the calls that take one number answer as the document says, what they answer is new memory, and their arguments are left. As a card: the library's tables and the layout start as the program's text lays them; no other conditions.
-/
import Derived.Test.YtkieaijmjpckdaaDoorPart14
import Derived.Test.YtkieaijmjpckdaaDoorPart15
import Derived.Test.YtkieaijmjpckdaaDoorPart11
import Derived.Test.YtkieaijmjpckdaaDoorCards
import Derived.Test.YtkieaijmjpckdaaDoorTie
namespace Go.Proofs.YtkieaijmjpckdaaDoor.dyadicOnes
open Go Go.ChangeShapes Go.WideShapes Go.ChangeAt Go.RowKit Go.Proofs.YtkieaijmjpckdaaDoor Go.Proofs.YtkieaijmjpckdaaDoor.M
set_option linter.unusedSimpArgs false
set_option linter.unusedVariables false

theorem ones_any {w0 : World} (a : NumR) (ra : Row w0 a.ao a.n a.cap a.d) (hn : a.n ≤ 2100) (he : rng a.e) (i : Int) (hi : rng i) (w : World) (hb0 : Below w0.heap.size w0 w) {k : Nat} {S : Nat → Prop} (hk : Kept w0.heap.size w k S) (hT : Tab w0) (L : Lay64 w0) :
    Calls Tryd.prog 11 #[.pointer (some ⟨k, 0, none⟩), a.v, .int .i64 i] w fun e w' => e = .returned (.bool true) ∧ Below w0.heap.size w0 w' ∧ ∃ S', Kept w0.heap.size w' k S' ∧ Fr w w' := by
  cases ok : okR a
  · exact ones_bad a ra hn he i hi w hb0 hk hT L ok
  · exact ones_ok a ra hn he i hi w hb0 hk hT L ok
set_option maxRecDepth 100000 in
set_option maxHeartbeats 4000000 in
theorem walk (l : NumR) (i : Int) (w : World) (hl : Row w l.ao l.n l.cap l.d) (el : rng l.e) (hi : rng i) (H : Hold w) :
    Calls Tryd.prog 4 #[l.v, .int .i64 i] w fun e w' => e = .returned (.bool true) ∧ Below w.heap.size w w' := by
  have CO : Hid (l.n ≤ 2100 → ∀ W k S, Below w.heap.size w W → Kept w.heap.size W k S → _) := fun hn W k S hb hk => ones_any l hl hn el i hi W hb hk H.tab H.lay
  have CA : Hid (∀ W, Below w.heap.size w W → _) := fun W hb => dalive_any W (H.lay.keeps hb) (H.tab.keeps hb)
  have hle := hl.le
  have hma := hl.max
  unfold NumR.v at *
  obtain ⟨a_g, a_o, a_n, a_c, a_d, a_e⟩ := l
  simp only at *
  clear hl el
  have hb2 := bel_alloc2 w (.cells #[.bool a_g, .slice a_o a_n a_c, .int .i64 a_e] 31) (.cells #[.slice none 0 0, .slice none 0 0] 26)
  have a_k := heap_a2 w (.cells #[.bool a_g, .slice a_o a_n a_c, .int .i64 a_e] 31) (.cells #[.slice none 0 0, .slice none 0 0] 26)
  have HK : Hid (Kept w.heap.size ((w.alloc (.cells #[.bool a_g, .slice a_o a_n a_c, .int .i64 a_e] 31)).alloc (.cells #[.slice none 0 0, .slice none 0 0] 26)) (w.heap.size + 1) (fun _ => False)) := by
    have := kept_new (w.alloc (.cells #[.bool a_g, .slice a_o a_n a_c, .int .i64 a_e] 31)) (B := w.heap.size) (bel_alloc _ _).size
    rwa [size1] at this
  go_enter Tryd.func4, Tryd.ntmps4
  go_wp2_with fail
  generalize (w.alloc (.cells #[.bool a_g, .slice a_o a_n a_c, .int .i64 a_e] 31)).alloc (.cells #[.slice none 0 0, .slice none 0 0] 26) = wx at hb2 a_k HK ⊢
  refine (CA.out _ hb2).mono ?_
  rintro _ w1 ⟨rfl, hb1⟩
  have hbw := bel_trans hb2 hb1
  have HK1 : Hid (Kept w.heap.size w1 (w.heap.size + 1) (fun _ => False)) := HK.out.keeps hb1
  replace a_k := (hb1.block _ (Array.getElem?_eq_some_iff.1 a_k).1).trans a_k
  have f_a0 := blkC a_k 0 rfl
  have f_a1 := blkC a_k 1 rfl
  have f_a2 := blkC a_k 2 rfl
  by_cases h21 : 2100 < a_n
  · go_wp2_with fail
    refine (apart_kept HK1.out hbw.size).mono ?_
    rintro _ w2 ⟨rfl, hb3⟩
    go_wp2
    go_ret
    exact ⟨rfl, hbw.trans hb3⟩
  · go_wp2_with fail
    refine (CO.out (by omega) _ _ _ hbw HK1.out).mono ?_
    rintro _ w2 ⟨rfl, hb3, S', hk3, _⟩
    have HK3 : Hid (Kept w.heap.size w2 (w.heap.size + 1) S') := hk3
    clear hk3
    go_wp2_with fail
    refine (apart_kept HK3.out hb3.size).mono ?_
    rintro _ w4 ⟨rfl, hb4⟩
    go_wp2
    go_ret
    exact ⟨rfl, hb3.trans hb4⟩
theorem own : ownKnob Tryd.prog.godebug = none := by kernel_rfl
theorem laidOut : laidOutB Tryd.prog = true := by kernel_rfl
theorem door_met (os : Os) (args : Array Value) : laidMetH Tryd.prog Rows.dyadicOnesRow.laid ((World.doorLaid Tryd.prog 400 os).forCall (fun _ _ => 0) ⟨#[], args, []⟩).memory :=
  laidMetH_of_parts3 (fuel := 8) (laidMet_of_run' 8 (by kernel_rfl) (by kernel_rfl)) (by kernel_rfl) (by kernel_rfl)
set_option maxRecDepth 100000 in
theorem lifted (os : Os) (started : os.Started) (H : Type) (enc : TypeId × Value → H) :
    ReturnsInHanded {} Tryd.checked os 4 .any (fun w args => (Rows.dyadicOnesSpec.pre enc Tryd.prog Tryd.f4 [] false w args ∧ laidMetH Tryd.prog Rows.dyadicOnesRow.laid w) ∧ sizedMet enc Tryd.prog Tryd.f4 (OpenSpec.ofChange Rows.dyadicOnesSpec) false w args)
      (Rows.dyadicOnesSpec.post enc Tryd.prog Tryd.f4 false true false false) := by
  refine returnsInHanded_of_change_and (C := Tryd.checked) (X := fun w _ => laidMetH Tryd.prog Rows.dyadicOnesRow.laid w) (fun _ _ _ hh h => h.of_heap hh) own started (by kernel_rfl) Tryd.func4
    (ChangeSpec.witness_shaped (enc := enc) (C := Tryd.checked) (os := os) (X := fun w _ => laidMetH Tryd.prog Rows.dyadicOnesRow.laid w) false (World.doorLaid Tryd.prog 400 os) #[.agg #[.bool false, .slice none 0 0, .int .i64 0], .int .i64 0] 8 rfl (World.shaped_of_RefB (by kernel_rfl) (by kernel_rfl)) (by kernel_rfl) (by kernel_rfl) (by kernel_rfl) (door_met os _)) ?_
  intro W base args ds gs before hval0 hW _ _ hL _
  have hval : ∀ (j : Nat) t v, Tryd.f4.params[j]? = some t → args[j]? = some v → Value.okWide Tryd.prog W .any base t v := hval0
  have hW' := hW
  obtain ⟨p, q, hA0, hV, rfl, hfz, hnd⟩ := hW
  have hA : DataW.TrodAll enc Tryd.prog W 0 (fun _ => true) true Tryd.f4.params.toList args.toList ds p := hA0
  rw [Tryd.params4] at hA hval
  obtain ⟨v0, vs0, d0, ds0, p0, q0, hargs, rfl, rfl, h0, r0⟩ := trodAll_cons hA
  obtain ⟨v1, vs1, d1, ds1, p1, q1, rfl, rfl, rfl, h1, r1⟩ := trodAll_cons r0
  obtain ⟨rfl, rfl, rfl⟩ := trodAll_nil r1
  obtain rfl : args = #[v0, v1] := by cases args; simp_all
  obtain ⟨rfl, rfl⟩ := trodVars_none hV
  have k0 := h0
  have lt0 : ∀ x ∈ p0, x.block < W.heap.size := by obtain ⟨m, hm⟩ := k0; exact DataW.trod_lt m _ _ _ hm
  obtain ⟨x0, rfl, w0, g0⟩ := num_of (hval 0 31 v0 rfl rfl) h0
  obtain ⟨a1, rfl, rfl, rfl, w1⟩ := open_int Tryd.underlying3 (hval 1 3 v1 rfl rfl) h1
  clear hA0 hval0
  refine (walk x0 a1 W w0 g0 (rng_of w1) (hold_of hL)).mono fun e W' ⟨he, bel⟩ => ?_
  subst he
  exact ⟨_, rfl, _, _, _, [], _, [], hW', trodAll_mk1 (shut_bool Tryd.underlying4 _), (trodAll_cons_mk (Below.trod laidOut (by kernel_rfl) (of_decide_eq_true (by kernel_rfl)) k0 bel lt0) (trodAll_cons_mk (shut_int Tryd.underlying3 w1) trodAll_mk0)), rfl, bel.frame _, fun h => by cases h⟩
theorem said : Rows.DyadicOnesSaid :=
  OpenClaim.holds_of_wide 4 Tryd.f4 rfl rfl rfl rfl rfl rfl rfl ⟨rfl, rfl, rfl, rfl, rfl⟩ rfl rfl rfl rfl rfl (by kernel_rfl) Tryd.func4 (by kernel_rfl)
    (of_decide_eq_true (by kernel_rfl)) (by unfold Func.isWrapper; first | (rw [if_pos (by decide +kernel)]; kernel_rfl) | (rw [if_neg (by decide +kernel)]; exact ⟨rfl, rfl⟩))
    (fun os started H enc _ => lifted os started H enc)
theorem plain (f : FuncId) (fn : Func) (hf : Tryd.pinned.checked.prog.funcNamed Tryd.f4.name = some f) (hfn : Tryd.pinned.checked.prog.funcs[f]? = some fn) :
    true = Tryd.pinned.checked.prog.looks [] ∧ ∀ (j : Nat) t, fn.params[j]? = some t → Tryd.pinned.checked.prog.wantsStandIn t = false := by
  obtain rfl : f = 4 := Option.some.inj ((show Tryd.prog.funcNamed Tryd.f4.name = some 4 by kernel_rfl).symm.trans hf) |>.symm
  obtain rfl : fn = Tryd.f4 := (Option.some.inj (Tryd.func4.symm.trans hfn)).symm
  refine ⟨by kernel_rfl, fun j t ht => ?_⟩
  rw [Tryd.params4] at ht
  have ht2 : t = 31 ∨ t = 3 := by simpa using Array.mem_of_getElem? ht
  rcases ht2 with rfl | rfl
  · exact (show Tryd.prog.wantsStandIn 31 = false by kernel_rfl)
  · exact (show Tryd.prog.wantsStandIn 3 = false by kernel_rfl)
/-- THE CARD. -/
theorem card : Rows.DyadicOnesCardSaid :=
  Claim7.holds_tied_plain_at .later [] _ _ _ _ said (fun _ h => by cases h) (by kernel_rfl) (fun _ h => by cases h) dyadicOnes_row_tie rfl ⟨rfl, rfl⟩ (by kernel_rfl) rfl plain (by kernel_rfl)
end Go.Proofs.YtkieaijmjpckdaaDoor.dyadicOnes
namespace Go.Proofs.YtkieaijmjpckdaaDoor
/-- DyadicOnes: the statement as it is given. -/
theorem dyadicOnes_holds : Rows.DyadicOnesCardSaid := dyadicOnes.card
end Go.Proofs.YtkieaijmjpckdaaDoor
