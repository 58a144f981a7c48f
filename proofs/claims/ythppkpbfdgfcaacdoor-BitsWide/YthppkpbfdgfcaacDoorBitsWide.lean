/-
  Proved: at every int, plumblaw1.BitsWide answers true: a binary32's value is a binary64's too, and its neighbour in 32 bits is no nearer than in 64; where the two layouts and the library's table of trailing zeros lie as the program's text lays them.
-/
import Derived.Test.YthppkpbfdgfcaacDoorCards
import Derived.Test.YthppkpbfdgfcaacDoorTie
import Derived.Test.YthppkpbfdgfcaacDoorLaidTab
import Derived.Test.YthppkpbfdgfcaacDoorAlive
import Derived.Test.YthppkpbfdgfcaacDoorLess
import Derived.Test.YthppkpbfdgfcaacDoorMathW
import Derived.OpenShut
namespace Go.Proofs.YthppkpbfdgfcaacDoor.bitsWide
open Go Go.ChangeShapes Go.WideShapes Go.ChangeAt Go.RowKit Go.Proofs.YthppkpbfdgfcaacDoor Go.Proofs.YthppkpbfdgfcaacDoor.M
set_option linter.unusedSimpArgs false
set_option linter.unusedVariables false

theorem conv (b : Int) (hp : pok32 b = true) (w : World) : (convert 28 27 (.float .f32 b.toNat)).run Tryd.prog w = .ok (.float .f64 (wd (wide b))) w :=
  run_convert_float_float w 28 27 .f32 .f64 b.toNat _ (by rw [Tryd.underlying28]; rfl) Tryd.underlying27 (conv_wide hp)
theorem same_word {x : Int} (hx : rng x) (h4 : ¬ cls x = 4) : (FloatKind.f64.format.order (wd x) (wd x) != some .eq) = false := by
  have := same_order hx hx
  unfold bne
  rw [this]; unfold same; simp [h4]
theorem walk (b : Int) (hb : rng b) (w : World) (E : Env w) :
    Calls Tryd.prog 3 #[.int .i64 b] w fun e w' => e = .returned (.bool true) ∧ Grown w w' := by
  have r1 := rng_pmag32 b
  have r2 := rng_pexp32 b
  cases hp : pok32 b
  · go_enter Tryd.func3, Tryd.ntmps3
    go_wp2_with fail
    refine (bitsParts32 _ _ E.lays).mono ?_
    rintro e w1 ⟨rfl, g1⟩
    have E1 := E.grown g1
    go_wp2_with fail
    refine (alive _ E1.lays).mono ?_
    rintro e w2 ⟨rfl, g2⟩
    have E2 := E1.grown g2
    go_wp2_with fail
    refine (alive _ E2.lays).mono ?_
    rintro e w3 ⟨rfl, g3⟩
    have E3 := E2.grown g3
    go_wp2
    go_ret
    exact ⟨rfl, gTrans (gTrans g1 g2) g3⟩
  · have r3 := rng_pmag32 (next32 b)
    have r4 := rng_pexp32 (next32 b)
    have hi : in32 b = true := by obtain ⟨x, y, _⟩ := pparts32 hp; exact decide_eq_true ⟨x, y⟩
    obtain ⟨k1, k2, k3, k4⟩ := wide_key hp
    have rw' := rng_next k1
    have hcv := conv b hp
    have hne := same_word k1 k2
    have hk := (widened hp).1
    obtain ⟨q1, q2⟩ := join_parts32 hp
    have ew : jp (pneg32 b) (pmag32 b) (pexp32 b) = wide b := rfl
    clear k3 k4 k2
    cases hn : pok32 (next32 b)
    · have h3 := next32_not hp hn
      go_enter Tryd.func3, Tryd.ntmps3
      go_wp2_with fail
      refine (bitsParts32 _ _ E.lays).mono ?_
      rintro e w1 ⟨rfl, g1⟩
      have E1 := E.grown g1
      go_wp2_with fail
      refine (alive _ E1.lays).mono ?_
      rintro e w2 ⟨rfl, g2⟩
      have E2 := E1.grown g2
      go_wp2_with fail
      refine (bitsJoin _ _ _ _ E2 r1 r2).mono ?_
      rintro e w3 ⟨rfl, g3⟩
      have E3 := E2.grown g3
      go_wp2_with fail
      refine (bitsJoin32 _ _ _ _ E3 r1 r2).mono ?_
      rintro e w4 ⟨rfl, g4⟩
      have E4 := E3.grown g4
      go_wp2_with fail
      refine (bitsFloat32 _ _ hi).mono ?_
      rintro e w0 ⟨rfl, rfl⟩
      go_wp2_with fail
      refine (bitsFloat _ _).mono ?_
      rintro e w0 ⟨rfl, rfl⟩
      go_wp2_with fail
      refine (bitsNext32 _ _ E4.lays hb).mono ?_
      rintro e w5 ⟨rfl, g5⟩
      have E5 := E4.grown g5
      go_wp2_with fail
      refine (bitsParts32 _ _ E5.lays).mono ?_
      rintro e w6 ⟨rfl, g6⟩
      have E6 := E5.grown g6
      go_wp2_with fail
      refine (bitsClass32 _ _ E6.lays).mono ?_
      rintro e w7 ⟨rfl, g7⟩
      have E7 := E6.grown g7
      go_wp2
      go_ret
      exact ⟨rfl, gTrans (gTrans (gTrans (gTrans (gTrans (gTrans g1 g2) g3) g4) g5) g6) g7⟩
    · obtain ⟨m1, _, _, _⟩ := wide_key hn
      have hk' := (widened hn).1
      have ew' : jp (pneg32 (next32 b)) (pmag32 (next32 b)) (pexp32 (next32 b)) = wide (next32 b) := rfl
      have hl := wide_next hp hn
      go_enter Tryd.func3, Tryd.ntmps3
      go_wp2_with fail
      refine (bitsParts32 _ _ E.lays).mono ?_
      rintro e w1 ⟨rfl, g1⟩
      have E1 := E.grown g1
      go_wp2_with fail
      refine (alive _ E1.lays).mono ?_
      rintro e w2 ⟨rfl, g2⟩
      have E2 := E1.grown g2
      go_wp2_with fail
      refine (bitsJoin _ _ _ _ E2 r1 r2).mono ?_
      rintro e w3 ⟨rfl, g3⟩
      have E3 := E2.grown g3
      go_wp2_with fail
      refine (bitsJoin32 _ _ _ _ E3 r1 r2).mono ?_
      rintro e w4 ⟨rfl, g4⟩
      have E4 := E3.grown g4
      go_wp2_with fail
      refine (bitsFloat32 _ _ hi).mono ?_
      rintro e w0 ⟨rfl, rfl⟩
      go_wp2_with fail
      refine (bitsFloat _ _).mono ?_
      rintro e w0 ⟨rfl, rfl⟩
      go_wp2_with fail
      refine (bitsNext32 _ _ E4.lays hb).mono ?_
      rintro e w5 ⟨rfl, g5⟩
      have E5 := E4.grown g5
      go_wp2_with fail
      refine (bitsParts32 _ _ E5.lays).mono ?_
      rintro e w6 ⟨rfl, g6⟩
      have E6 := E5.grown g6
      go_wp2_with fail
      refine (bitsJoin _ _ _ _ E6 r3 r4).mono ?_
      rintro e w7 ⟨rfl, g7⟩
      have E7 := E6.grown g7
      go_wp2_with fail
      refine (bitsNext _ _ E7.lays k1).mono ?_
      rintro e w8 ⟨rfl, g8⟩
      have E8 := E7.grown g8
      go_wp2_with fail
      refine (bitsLess1 _ _ _ m1 rw').mono ?_
      rintro e w0 ⟨rfl, rfl⟩
      go_wp2
      go_ret
      exact ⟨rfl, gTrans (gTrans (gTrans (gTrans (gTrans (gTrans (gTrans g1 g2) g3) g4) g5) g6) g7) g8⟩
theorem own : ownKnob Tryd.prog.godebug = none := by kernel_rfl
theorem door_met (os : Os) (args : Array Value) : laidMetH Tryd.prog Rows.bitsWideRow.laid ((World.doorLaid Tryd.prog 400 os).forCall (fun _ _ => 0) ⟨#[], args, []⟩).memory :=
  laidMetH_of_parts3 (fuel := 8) (laidMet_of_run' 8 (by kernel_rfl) (by kernel_rfl)) (by kernel_rfl) (by kernel_rfl)
set_option maxRecDepth 100000 in
theorem lifted (os : Os) (started : os.Started) (H : Type) (enc : TypeId × Value → H) :
    ReturnsInHanded {} Tryd.checked os 3 .any (fun w args => (Rows.bitsWideSpec.pre enc Tryd.prog Tryd.f3 [] false w args ∧ laidMetH Tryd.prog Rows.bitsWideRow.laid w) ∧ sizedMet enc Tryd.prog Tryd.f3 (OpenSpec.ofChange Rows.bitsWideSpec) false w args)
      (Rows.bitsWideSpec.post enc Tryd.prog Tryd.f3 false true false false) := by
  refine returnsInHanded_of_change_and (C := Tryd.checked) (X := fun w _ => laidMetH Tryd.prog Rows.bitsWideRow.laid w) (fun _ _ _ hh h => h.of_heap hh) own started (by kernel_rfl) Tryd.func3
    (ChangeSpec.witness_shaped (enc := enc) (C := Tryd.checked) (os := os) (X := fun w _ => laidMetH Tryd.prog Rows.bitsWideRow.laid w) false (World.doorLaid Tryd.prog 400 os) #[.int .i64 0] 8 rfl (World.shaped_of_RefB (by kernel_rfl) (by kernel_rfl)) (by kernel_rfl) (by kernel_rfl) (by kernel_rfl) (door_met os _)) ?_
  intro W base args ds gs before hval0 hW _ _ hL _
  have hval : ∀ (j : Nat) t v, Tryd.f3.params[j]? = some t → args[j]? = some v → Value.okWide Tryd.prog W .any base t v := hval0
  have hW' := hW
  obtain ⟨p, q, hA0, hV, rfl, hfz, hnd⟩ := hW
  have hA : DataW.TrodAll enc Tryd.prog W 0 (fun _ => true) true Tryd.f3.params.toList args.toList ds p := hA0
  rw [Tryd.params3] at hA hval
  obtain ⟨v0, vs0, d0, ds0, p0, q0, hargs, rfl, rfl, h0, r0⟩ := trodAll_cons hA
  obtain ⟨rfl, rfl, rfl⟩ := trodAll_nil r0
  obtain rfl : args = #[v0] := by cases args; simp_all
  obtain ⟨rfl, rfl⟩ := trodVars_none hV
  obtain ⟨a0, rfl, rfl, rfl, w0⟩ := open_int Tryd.underlying3 (hval 0 3 v0 rfl rfl) h0
  clear hA0 hval0
  simp only [List.append_nil] at hW'
  refine (walk a0 (rng_of w0) W (env_of hL)).mono fun e W' ⟨he, hg⟩ => ?_
  subst he
  exact ⟨_, rfl, post_of_same (pa := []) (pv := []) hW' (fun _ _ _ => trodAll_cons_mk (shut_bool Tryd.underlying4 _) trodAll_mk0) (fun sp _ => (trodAll_cons_mk (shut_int Tryd.underlying3 w0) trodAll_mk0)) (fun _ _ => rfl) rfl
    (hg.frame _) hg.2.1 (ok_one (by kernel_rfl) rfl (okWide_bool_mk Tryd.underlying4 _))⟩
theorem said : Rows.BitsWideSaid :=
  OpenClaim.holds_of_wide 3 Tryd.f3 rfl rfl rfl rfl rfl rfl rfl ⟨rfl, rfl, rfl, rfl, rfl⟩ rfl rfl rfl rfl rfl (by kernel_rfl) Tryd.func3 (by kernel_rfl)
    (of_decide_eq_true (by kernel_rfl)) (by unfold Func.isWrapper; first | (rw [if_pos (by decide +kernel)]; kernel_rfl) | (rw [if_neg (by decide +kernel)]; exact ⟨rfl, rfl⟩))
    (fun os started H enc _ => lifted os started H enc)
theorem plain (f : FuncId) (fn : Func) (hf : Tryd.pinned.checked.prog.funcNamed Tryd.f3.name = some f) (hfn : Tryd.pinned.checked.prog.funcs[f]? = some fn) :
    false = Tryd.pinned.checked.prog.looks [] ∧ ∀ (j : Nat) t, fn.params[j]? = some t → Tryd.pinned.checked.prog.wantsStandIn t = false := by
  obtain rfl : f = 3 := Option.some.inj ((show Tryd.prog.funcNamed Tryd.f3.name = some 3 by kernel_rfl).symm.trans hf) |>.symm
  obtain rfl : fn = Tryd.f3 := (Option.some.inj (Tryd.func3.symm.trans hfn)).symm
  refine ⟨by kernel_rfl, fun j t ht => ?_⟩
  rw [Tryd.params3] at ht
  obtain rfl : t = 3 := by simpa using Array.mem_of_getElem? ht
  exact (show Tryd.prog.wantsStandIn 3 = false by kernel_rfl)
/-- THE CARD. -/
theorem card : Rows.BitsWideCardSaid :=
  Claim7.holds_tied_plain_at .later [] _ _ _ _ said (fun _ h => by cases h) (by kernel_rfl) (fun _ h => by cases h) bitsWide_row_tie rfl ⟨rfl, rfl⟩ (by kernel_rfl) rfl plain (by kernel_rfl)
end Go.Proofs.YthppkpbfdgfcaacDoor.bitsWide
namespace Go.Proofs.YthppkpbfdgfcaacDoor
/-- BitsWide: the statement as it is given. -/
theorem bitsWide_holds : Rows.BitsWideCardSaid := bitsWide.card
end Go.Proofs.YthppkpbfdgfcaacDoor
