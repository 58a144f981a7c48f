/-
  Proved: at any two ints, plumblaw1.BitsNext answers true: a number's next one is greater, the one ahead of that is the same value, and no number lies between the two; where the two layouts lie as the program's text lays them.
-/
import Derived.Test.YthppkpbfdgfcaabDoorCards
import Derived.Test.YthppkpbfdgfcaabDoorTie
import Derived.Test.YthppkpbfdgfcaabDoorLaid
import Derived.Test.YthppkpbfdgfcaabDoorOrder
import Derived.Test.YthppkpbfdgfcaabDoorMathN
import Derived.OpenShut
namespace Go.Proofs.YthppkpbfdgfcaabDoor.bitsNext
open Go Go.ChangeShapes Go.WideShapes Go.ChangeAt Go.RowKit Go.Proofs.YthppkpbfdgfcaabDoor Go.Proofs.YthppkpbfdgfcaabDoor.M
set_option linter.unusedSimpArgs false
set_option linter.unusedVariables false

theorem walk (b c : Int) (hb : rng b) (hc : rng c) (w : World) (L : Lays w) :
    Calls Tryd.prog 6 #[.int .i64 b, .int .i64 c] w fun e w' => e = .returned (.bool true) ∧ Grown w w' := by
  have rn := rng_next hb
  have rp : rng (prev (next b)) := rng_neg (rng_next (rng_neg rn))
  by_cases h4 : cls b = 4
  · have hn : cls (next b) = 4 := by unfold next; rw [if_pos h4]; decide
    go_enter Tryd.func6, Tryd.ntmps6
    go_wp2_with fail
    refine (Go.Proofs.YthppkpbfdgfcaabDoor.bitsNext _ _ L hb).mono ?_
    rintro e w1 ⟨rfl, g1⟩
    have L1 := L.grown g1
    go_wp2_with fail
    refine (alive _ L1).mono ?_
    rintro e w2 ⟨rfl, g2⟩
    have L2 := L1.grown g2
    go_wp2_with fail
    refine (bitsClass _ _ L2).mono ?_
    rintro e w3 ⟨rfl, g3⟩
    have L3 := L2.grown g3
    go_wp2_with fail
    refine (bitsClass _ _ L3).mono ?_
    rintro e w4 ⟨rfl, g4⟩
    have L4 := L3.grown g4
    go_wp2_with fail
    refine (bitsClass _ _ L4).mono ?_
    rintro e w5 ⟨rfl, g5⟩
    go_wp2
    go_ret
    exact ⟨rfl, gTrans (gTrans (gTrans (gTrans g1 g2) g3) g4) g5⟩
  · have h4' : (cls b == 4) = false := by simpa using h4
    by_cases hi : b = 9218868437227405312
    · subst hi
      have hn := next_inf
      go_enter Tryd.func6, Tryd.ntmps6
      go_wp2_with fail
      refine (Go.Proofs.YthppkpbfdgfcaabDoor.bitsNext _ _ L hb).mono ?_
      rintro e w1 ⟨rfl, g1⟩
      have L1 := L.grown g1
      go_wp2_with fail
      refine (alive _ L1).mono ?_
      rintro e w2 ⟨rfl, g2⟩
      have L2 := L1.grown g2
      go_wp2_with fail
      refine (bitsClass _ _ L2).mono ?_
      rintro e w3 ⟨rfl, g3⟩
      have L3 := L2.grown g3
      go_wp2_with fail
      refine (bitsClass _ _ L3).mono ?_
      rintro e w4 ⟨rfl, g4⟩
      have L4 := L3.grown g4
      go_wp2_with fail
      refine (bitsClass _ _ L4).mono ?_
      rintro e w5 ⟨rfl, g5⟩
      go_wp2
      go_ret
      exact ⟨rfl, gTrans (gTrans (gTrans (gTrans g1 g2) g3) g4) g5⟩
    · have hi' : (b == 9218868437227405312) = false := by simpa using hi
      obtain ⟨n1, n2, n3, n4⟩ := next_facts (c := c) hb h4 hi
      cases hl : less b c
      · clear n3
        go_enter Tryd.func6, Tryd.ntmps6
        go_wp2_with fail
        refine (Go.Proofs.YthppkpbfdgfcaabDoor.bitsNext _ _ L hb).mono ?_
        rintro e w1 ⟨rfl, g1⟩
        have L1 := L.grown g1
        go_wp2_with fail
        refine (alive _ L1).mono ?_
        rintro e w2 ⟨rfl, g2⟩
        have L2 := L1.grown g2
        go_wp2_with fail
        refine (bitsClass _ _ L2).mono ?_
        rintro e w3 ⟨rfl, g3⟩
        have L3 := L2.grown g3
        go_wp2_with fail
        refine (bitsLess _ _ _ hb rn).mono ?_
        rintro e w0 ⟨rfl, rfl⟩
        go_wp2_with fail
        refine (bitsPrev _ _ L3 rn).mono ?_
        rintro e w4 ⟨rfl, g4⟩
        have L4 := L3.grown g4
        go_wp2_with fail
        refine (bitsSame _ _ _ rp hb).mono ?_
        rintro e w0 ⟨rfl, rfl⟩
        go_wp2_with fail
        refine (bitsLess _ _ _ hb hc).mono ?_
        rintro e w0 ⟨rfl, rfl⟩
        go_wp2_with fail
        refine (bitsOrd _ _ _ L4 hb rn).mono ?_
        rintro e w5 ⟨rfl, g5⟩
        go_wp2
        go_ret
        exact ⟨rfl, gTrans (gTrans (gTrans (gTrans g1 g2) g3) g4) g5⟩
      · have n3' : less c (next b) = false := by rw [hl] at n3; simpa using n3
        clear n3
        go_enter Tryd.func6, Tryd.ntmps6
        go_wp2_with fail
        refine (Go.Proofs.YthppkpbfdgfcaabDoor.bitsNext _ _ L hb).mono ?_
        rintro e w1 ⟨rfl, g1⟩
        have L1 := L.grown g1
        go_wp2_with fail
        refine (alive _ L1).mono ?_
        rintro e w2 ⟨rfl, g2⟩
        have L2 := L1.grown g2
        go_wp2_with fail
        refine (bitsClass _ _ L2).mono ?_
        rintro e w3 ⟨rfl, g3⟩
        have L3 := L2.grown g3
        go_wp2_with fail
        refine (bitsLess _ _ _ hb rn).mono ?_
        rintro e w0 ⟨rfl, rfl⟩
        go_wp2_with fail
        refine (bitsPrev _ _ L3 rn).mono ?_
        rintro e w4 ⟨rfl, g4⟩
        have L4 := L3.grown g4
        go_wp2_with fail
        refine (bitsSame _ _ _ rp hb).mono ?_
        rintro e w0 ⟨rfl, rfl⟩
        go_wp2_with fail
        refine (bitsLess _ _ _ hb hc).mono ?_
        rintro e w0 ⟨rfl, rfl⟩
        go_wp2_with fail
        refine (bitsLess _ _ _ hc rn).mono ?_
        rintro e w0 ⟨rfl, rfl⟩
        go_wp2_with fail
        refine (bitsOrd _ _ _ L4 hb rn).mono ?_
        rintro e w5 ⟨rfl, g5⟩
        go_wp2
        go_ret
        exact ⟨rfl, gTrans (gTrans (gTrans (gTrans g1 g2) g3) g4) g5⟩
theorem own : ownKnob Tryd.prog.godebug = none := by kernel_rfl
theorem door_met (os : Os) (args : Array Value) : laidMetH Tryd.prog Rows.bitsNextRow.laid ((World.doorLaid Tryd.prog 400 os).forCall (fun _ _ => 0) ⟨#[], args, []⟩).memory :=
  laidMetH_of_parts3 (fuel := 8) (laidMet_of_run' 8 (by kernel_rfl) (by kernel_rfl)) (by kernel_rfl) (by kernel_rfl)
set_option maxRecDepth 100000 in
theorem lifted (os : Os) (started : os.Started) (H : Type) (enc : TypeId × Value → H) :
    ReturnsInHanded {} Tryd.checked os 6 .any (fun w args => (Rows.bitsNextSpec.pre enc Tryd.prog Tryd.f6 [] false w args ∧ laidMetH Tryd.prog Rows.bitsNextRow.laid w) ∧ sizedMet enc Tryd.prog Tryd.f6 (OpenSpec.ofChange Rows.bitsNextSpec) false w args)
      (Rows.bitsNextSpec.post enc Tryd.prog Tryd.f6 false true false false) := by
  refine returnsInHanded_of_change_and (C := Tryd.checked) (X := fun w _ => laidMetH Tryd.prog Rows.bitsNextRow.laid w) (fun _ _ _ hh h => h.of_heap hh) own started (by kernel_rfl) Tryd.func6
    (ChangeSpec.witness_shaped (enc := enc) (C := Tryd.checked) (os := os) (X := fun w _ => laidMetH Tryd.prog Rows.bitsNextRow.laid w) false (World.doorLaid Tryd.prog 400 os) #[.int .i64 0, .int .i64 0] 8 rfl (World.shaped_of_RefB (by kernel_rfl) (by kernel_rfl)) (by kernel_rfl) (by kernel_rfl) (by kernel_rfl) (door_met os _)) ?_
  intro W base args ds gs before hval0 hW _ _ hL _
  have hval : ∀ (j : Nat) t v, Tryd.f6.params[j]? = some t → args[j]? = some v → Value.okWide Tryd.prog W .any base t v := hval0
  have hW' := hW
  obtain ⟨p, q, hA0, hV, rfl, hfz, hnd⟩ := hW
  have hA : DataW.TrodAll enc Tryd.prog W 0 (fun _ => true) true Tryd.f6.params.toList args.toList ds p := hA0
  rw [Tryd.params6] at hA hval
  obtain ⟨v0, vs0, d0, ds0, p0, q0, hargs, rfl, rfl, h0, r0⟩ := trodAll_cons hA
  obtain ⟨v1, vs1, d1, ds1, p1, q1, rfl, rfl, rfl, h1, r1⟩ := trodAll_cons r0
  obtain ⟨rfl, rfl, rfl⟩ := trodAll_nil r1
  obtain rfl : args = #[v0, v1] := by cases args; simp_all
  obtain ⟨rfl, rfl⟩ := trodVars_none hV
  obtain ⟨a0, rfl, rfl, rfl, w0⟩ := open_int Tryd.underlying3 (hval 0 3 v0 rfl rfl) h0
  obtain ⟨a1, rfl, rfl, rfl, w1⟩ := open_int Tryd.underlying3 (hval 1 3 v1 rfl rfl) h1
  clear hA0 hval0
  simp only [List.append_nil] at hW'
  refine (walk a0 a1 (rng_of w0) (rng_of w1) W (lays_of hL)).mono fun e W' ⟨he, hg⟩ => ?_
  subst he
  exact ⟨_, rfl, post_of_same (pa := []) (pv := []) hW' (fun _ _ _ => trodAll_cons_mk (shut_bool Tryd.underlying4 _) trodAll_mk0) (fun sp _ => (trodAll_cons_mk (shut_int Tryd.underlying3 w0) (trodAll_cons_mk (shut_int Tryd.underlying3 w1) trodAll_mk0))) (fun _ _ => rfl) rfl
    (hg.frame _) hg.2.1 (ok_one (by kernel_rfl) rfl (okWide_bool_mk Tryd.underlying4 _))⟩
theorem said : Rows.BitsNextSaid :=
  OpenClaim.holds_of_wide 6 Tryd.f6 rfl rfl rfl rfl rfl rfl rfl ⟨rfl, rfl, rfl, rfl, rfl⟩ rfl rfl rfl rfl rfl (by kernel_rfl) Tryd.func6 (by kernel_rfl)
    (of_decide_eq_true (by kernel_rfl)) (by unfold Func.isWrapper; first | (rw [if_pos (by decide +kernel)]; kernel_rfl) | (rw [if_neg (by decide +kernel)]; exact ⟨rfl, rfl⟩))
    (fun os started H enc _ => lifted os started H enc)
theorem plain (f : FuncId) (fn : Func) (hf : Tryd.pinned.checked.prog.funcNamed Tryd.f6.name = some f) (hfn : Tryd.pinned.checked.prog.funcs[f]? = some fn) :
    false = Tryd.pinned.checked.prog.looks [] ∧ ∀ (j : Nat) t, fn.params[j]? = some t → Tryd.pinned.checked.prog.wantsStandIn t = false := by
  obtain rfl : f = 6 := Option.some.inj ((show Tryd.prog.funcNamed Tryd.f6.name = some 6 by kernel_rfl).symm.trans hf) |>.symm
  obtain rfl : fn = Tryd.f6 := (Option.some.inj (Tryd.func6.symm.trans hfn)).symm
  refine ⟨by kernel_rfl, fun j t ht => ?_⟩
  rw [Tryd.params6] at ht
  obtain rfl : t = 3 := by simpa using Array.mem_of_getElem? ht
  exact (show Tryd.prog.wantsStandIn 3 = false by kernel_rfl)
/-- THE CARD. -/
theorem card : Rows.BitsNextCardSaid :=
  Claim7.holds_tied_plain_at .later [] _ _ _ _ said (fun _ h => by cases h) (by kernel_rfl) (fun _ h => by cases h) bitsNext_row_tie rfl ⟨rfl, rfl⟩ (by kernel_rfl) rfl plain (by kernel_rfl)
end Go.Proofs.YthppkpbfdgfcaabDoor.bitsNext
namespace Go.Proofs.YthppkpbfdgfcaabDoor
/-- BitsNext: the statement as it is given. -/
theorem bitsNext_holds : Rows.BitsNextCardSaid := bitsNext.card
end Go.Proofs.YthppkpbfdgfcaabDoor
