/-
  Proved: at every int, plumblaw1.BitsUlp answers true: Ulp is 2 to the exponent of Parts, and within one power of 2 the neighbour away from 0 lies just so far; where the two layouts and the library's table of trailing zeros lie as the program's text lays them.
-/
import Derived.Test.YthppkpbfdgfcaabDoorCards
import Derived.Test.YthppkpbfdgfcaabDoorTie
import Derived.Test.YthppkpbfdgfcaabDoorLaidTab
import Derived.Test.YthppkpbfdgfcaabDoorAlive
import Derived.Test.YthppkpbfdgfcaabDoorUlp
import Derived.Test.YthppkpbfdgfcaabDoorMathV
import Derived.OpenShut
namespace Go.Proofs.YthppkpbfdgfcaabDoor.bitsUlp
open Go Go.ChangeShapes Go.WideShapes Go.ChangeAt Go.RowKit Go.Proofs.YthppkpbfdgfcaabDoor Go.Proofs.YthppkpbfdgfcaabDoor.M
set_option linter.unusedSimpArgs false
set_option linter.unusedVariables false

theorem rng_abs {b : Int} (h : rng b) : rng (abs b) := by
  unfold rng abs at *; repeat' split
  all_goals omega
theorem walk (b : Int) (hb : rng b) (w : World) (E : Env w) :
    Calls Tryd.prog 7 #[.int .i64 b] w fun e w' => e = .returned (.bool true) ∧ Grown w w' := by
  have r1 := rng_one
  have r2 := rng_pexp b
  have ra := rng_abs hb
  cases hp : pok b
  · go_enter Tryd.func7, Tryd.ntmps7
    go_wp2_with fail
    refine (bitsParts _ _ E.lays).mono ?_
    rintro e w1 ⟨rfl, g1⟩
    have E1 := E.grown g1
    go_wp2_with fail
    refine (alive _ E1.lays).mono ?_
    rintro e w2 ⟨rfl, g2⟩
    have E2 := E1.grown g2
    go_wp2_with fail
    refine (alive _ E2.lays).mono ?_
    rintro e w3 ⟨rfl, g3⟩
    have E3 := E2.grown g3
    go_wp2
    go_ret
    exact ⟨rfl, gTrans (gTrans g1 g2) g3⟩
  · have hm := pmag_le hp
    have r3 : rng (pmag b + 1) := by unfold rng; omega
    have j1 := join_one hp
    have u1 : ulp b = jp false 1 (pexp b) := by unfold ulp; rw [if_pos hp]
    cases hk : jk 52 2047 (-1074) (pmag b + 1) (pexp b)
    · go_enter Tryd.func7, Tryd.ntmps7
      go_wp2_with fail
      refine (bitsParts _ _ E.lays).mono ?_
      rintro e w1 ⟨rfl, g1⟩
      have E1 := E.grown g1
      go_wp2_with fail
      refine (alive _ E1.lays).mono ?_
      rintro e w2 ⟨rfl, g2⟩
      have E2 := E1.grown g2
      go_wp2_with fail
      refine (bitsJoin _ _ _ _ E2 r1 r2).mono ?_
      rintro e w3 ⟨rfl, g3⟩
      have E3 := E2.grown g3
      go_wp2_with fail
      refine (bitsAbs _ _ E3.lays hb).mono ?_
      rintro e w4 ⟨rfl, g4⟩
      have E4 := E3.grown g4
      go_wp2_with fail
      refine (bitsJoin _ _ _ _ E4 r3 r2).mono ?_
      rintro e w5 ⟨rfl, g5⟩
      have E5 := E4.grown g5
      go_wp2_with fail
      refine (Go.Proofs.YthppkpbfdgfcaabDoor.bitsUlp _ _ E5 hb).mono ?_
      rintro e w6 ⟨rfl, g6⟩
      have E6 := E5.grown g6
      go_wp2
      go_ret
      exact ⟨rfl, gTrans (gTrans (gTrans (gTrans (gTrans g1 g2) g3) g4) g5) g6⟩
    · have hn := join_next hb hp hk
      go_enter Tryd.func7, Tryd.ntmps7
      go_wp2_with fail
      refine (bitsParts _ _ E.lays).mono ?_
      rintro e w1 ⟨rfl, g1⟩
      have E1 := E.grown g1
      go_wp2_with fail
      refine (alive _ E1.lays).mono ?_
      rintro e w2 ⟨rfl, g2⟩
      have E2 := E1.grown g2
      go_wp2_with fail
      refine (bitsJoin _ _ _ _ E2 r1 r2).mono ?_
      rintro e w3 ⟨rfl, g3⟩
      have E3 := E2.grown g3
      go_wp2_with fail
      refine (bitsAbs _ _ E3.lays hb).mono ?_
      rintro e w4 ⟨rfl, g4⟩
      have E4 := E3.grown g4
      go_wp2_with fail
      refine (bitsJoin _ _ _ _ E4 r3 r2).mono ?_
      rintro e w5 ⟨rfl, g5⟩
      have E5 := E4.grown g5
      go_wp2_with fail
      refine (Go.Proofs.YthppkpbfdgfcaabDoor.bitsUlp _ _ E5 hb).mono ?_
      rintro e w6 ⟨rfl, g6⟩
      have E6 := E5.grown g6
      go_wp2_with fail
      refine (bitsNext _ _ E6.lays ra).mono ?_
      rintro e w7 ⟨rfl, g7⟩
      have E7 := E6.grown g7
      go_wp2
      go_ret
      exact ⟨rfl, gTrans (gTrans (gTrans (gTrans (gTrans (gTrans g1 g2) g3) g4) g5) g6) g7⟩
theorem own : ownKnob Tryd.prog.godebug = none := by kernel_rfl
theorem door_met (os : Os) (args : Array Value) : laidMetH Tryd.prog Rows.bitsUlpRow.laid ((World.doorLaid Tryd.prog 400 os).forCall (fun _ _ => 0) ⟨#[], args, []⟩).memory :=
  laidMetH_of_parts3 (fuel := 8) (laidMet_of_run' 8 (by kernel_rfl) (by kernel_rfl)) (by kernel_rfl) (by kernel_rfl)
set_option maxRecDepth 100000 in
theorem lifted (os : Os) (started : os.Started) (H : Type) (enc : TypeId × Value → H) :
    ReturnsInHanded {} Tryd.checked os 7 .any (fun w args => (Rows.bitsUlpSpec.pre enc Tryd.prog Tryd.f7 [] false w args ∧ laidMetH Tryd.prog Rows.bitsUlpRow.laid w) ∧ sizedMet enc Tryd.prog Tryd.f7 (OpenSpec.ofChange Rows.bitsUlpSpec) false w args)
      (Rows.bitsUlpSpec.post enc Tryd.prog Tryd.f7 false true false false) := by
  refine returnsInHanded_of_change_and (C := Tryd.checked) (X := fun w _ => laidMetH Tryd.prog Rows.bitsUlpRow.laid w) (fun _ _ _ hh h => h.of_heap hh) own started (by kernel_rfl) Tryd.func7
    (ChangeSpec.witness_shaped (enc := enc) (C := Tryd.checked) (os := os) (X := fun w _ => laidMetH Tryd.prog Rows.bitsUlpRow.laid w) false (World.doorLaid Tryd.prog 400 os) #[.int .i64 0] 8 rfl (World.shaped_of_RefB (by kernel_rfl) (by kernel_rfl)) (by kernel_rfl) (by kernel_rfl) (by kernel_rfl) (door_met os _)) ?_
  intro W base args ds gs before hval0 hW _ _ hL _
  have hval : ∀ (j : Nat) t v, Tryd.f7.params[j]? = some t → args[j]? = some v → Value.okWide Tryd.prog W .any base t v := hval0
  have hW' := hW
  obtain ⟨p, q, hA0, hV, rfl, hfz, hnd⟩ := hW
  have hA : DataW.TrodAll enc Tryd.prog W 0 (fun _ => true) true Tryd.f7.params.toList args.toList ds p := hA0
  rw [Tryd.params7] at hA hval
  obtain ⟨v0, vs0, d0, ds0, p0, q0, hargs, rfl, rfl, h0, r0⟩ := trodAll_cons hA
  obtain ⟨rfl, rfl, rfl⟩ := trodAll_nil r0
  obtain rfl : args = #[v0] := by cases args; simp_all
  obtain ⟨rfl, rfl⟩ := trodVars_none hV
  obtain ⟨a0, rfl, rfl, rfl, w0⟩ := open_int Tryd.underlying3 (hval 0 3 v0 rfl rfl) h0
  clear hA0 hval0
  simp only [List.append_nil] at hW'
  refine (walk a0 (rng_of w0) W (env_of hL)).mono fun e W' ⟨he, hg⟩ => ?_
  subst he
  exact ⟨_, rfl, post_of_same (pa := []) (pv := []) hW' (fun _ _ _ => trodAll_cons_mk (shut_bool Tryd.underlying4 _) trodAll_mk0) (fun sp _ => (trodAll_cons_mk (shut_int Tryd.underlying3 w0) trodAll_mk0)) (fun _ _ => rfl) rfl
    (hg.frame _) hg.2.1 (ok_one (by kernel_rfl) rfl (okWide_bool_mk Tryd.underlying4 _))⟩
theorem said : Rows.BitsUlpSaid :=
  OpenClaim.holds_of_wide 7 Tryd.f7 rfl rfl rfl rfl rfl rfl rfl ⟨rfl, rfl, rfl, rfl, rfl⟩ rfl rfl rfl rfl rfl (by kernel_rfl) Tryd.func7 (by kernel_rfl)
    (of_decide_eq_true (by kernel_rfl)) (by unfold Func.isWrapper; first | (rw [if_pos (by decide +kernel)]; kernel_rfl) | (rw [if_neg (by decide +kernel)]; exact ⟨rfl, rfl⟩))
    (fun os started H enc _ => lifted os started H enc)
theorem plain (f : FuncId) (fn : Func) (hf : Tryd.pinned.checked.prog.funcNamed Tryd.f7.name = some f) (hfn : Tryd.pinned.checked.prog.funcs[f]? = some fn) :
    false = Tryd.pinned.checked.prog.looks [] ∧ ∀ (j : Nat) t, fn.params[j]? = some t → Tryd.pinned.checked.prog.wantsStandIn t = false := by
  obtain rfl : f = 7 := Option.some.inj ((show Tryd.prog.funcNamed Tryd.f7.name = some 7 by kernel_rfl).symm.trans hf) |>.symm
  obtain rfl : fn = Tryd.f7 := (Option.some.inj (Tryd.func7.symm.trans hfn)).symm
  refine ⟨by kernel_rfl, fun j t ht => ?_⟩
  rw [Tryd.params7] at ht
  obtain rfl : t = 3 := by simpa using Array.mem_of_getElem? ht
  exact (show Tryd.prog.wantsStandIn 3 = false by kernel_rfl)
/-- THE CARD. -/
theorem card : Rows.BitsUlpCardSaid :=
  Claim7.holds_tied_plain_at .later [] _ _ _ _ said (fun _ h => by cases h) (by kernel_rfl) (fun _ h => by cases h) bitsUlp_row_tie rfl ⟨rfl, rfl⟩ (by kernel_rfl) rfl plain (by kernel_rfl)
end Go.Proofs.YthppkpbfdgfcaabDoor.bitsUlp
namespace Go.Proofs.YthppkpbfdgfcaabDoor
/-- BitsUlp: the statement as it is given. -/
theorem bitsUlp_holds : Rows.BitsUlpCardSaid := bitsUlp.card
end Go.Proofs.YthppkpbfdgfcaabDoor
