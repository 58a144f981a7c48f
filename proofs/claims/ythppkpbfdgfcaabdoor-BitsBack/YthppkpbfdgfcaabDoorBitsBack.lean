/-
  Proved: at every int, plumblaw1.BitsBack answers true: what bits.Parts tells is joined again to the same pattern, in both widths; the sign turned twice is the sign; what is not finite has no parts; where the two layouts and the library's table of trailing zeros lie as the program's text lays them.
-/
import Derived.Test.YthppkpbfdgfcaabDoorCards
import Derived.Test.YthppkpbfdgfcaabDoorTie
import Derived.Test.YthppkpbfdgfcaabDoorLaidTab
import Derived.Test.YthppkpbfdgfcaabDoorAlive
import Derived.Test.YthppkpbfdgfcaabDoorMathV
import Derived.OpenShut
namespace Go.Proofs.YthppkpbfdgfcaabDoor.bitsBack
open Go Go.ChangeShapes Go.WideShapes Go.ChangeAt Go.RowKit Go.Proofs.YthppkpbfdgfcaabDoor Go.Proofs.YthppkpbfdgfcaabDoor.M
set_option linter.unusedSimpArgs false
set_option linter.unusedVariables false

theorem not_pok {b : Int} (h : pok b = false) : pneg b = false ∧ pmag b = 0 ∧ pexp b = 0 := by
  have hf : fld b = 2047 := by simpa [pok] using h
  simp [pneg, pmag, pexp, h, hf]

theorem way101 (b : Int) (hb : rng b) (w : World) (E : Env w) (hp : pok b = true) (h3 : cls b < 3) (hjk : jk 52 2047 (-1074) (pmag b) (pexp b) = true) (hjp : jp (pneg b) (pmag b) (pexp b) = b) (nn : neg (neg b) = b) (hq : pok32 b = true) (q3 : cls32 b < 3) (qjk : jk 23 255 (-149) (pmag32 b) (pexp32 b) = true) (qjp : jp32 (pneg32 b) (pmag32 b) (pexp32 b) = b) :
    Calls Tryd.prog 5 #[.int .i64 b] w fun e w' => e = .returned (.bool true) ∧ Grown w w' := by
  have r1 := rng_pmag b
  have r2 := rng_pexp' b
  have r3 := rng_pmag32 b
  have r4 := rng_pexp32 b
  have r5 := rng_neg hb
  have r0 : rng 0 := by unfold rng; omega
  go_enter Tryd.func5, Tryd.ntmps5
  go_wp2_with fail
  refine (bitsParts _ _ E.lays).mono ?_
  rintro e w1 ⟨rfl, g1⟩
  have E1 := E.grown g1
  go_wp2_with fail
  refine (Go.Proofs.YthppkpbfdgfcaabDoor.bitsJoin _ _ _ _ E1 r1 r2).mono ?_
  rintro e w2 ⟨rfl, g2⟩
  have E2 := E1.grown g2
  go_wp2_with fail
  refine (bitsClass _ _ E2.lays).mono ?_
  rintro e w3 ⟨rfl, g3⟩
  have E3 := E2.grown g3
  go_wp2_with fail
  refine (alive _ E3.lays).mono ?_
  rintro e w4 ⟨rfl, g4⟩
  have E4 := E3.grown g4
  go_wp2_with fail
  refine (bitsNeg _ _ E4.lays hb).mono ?_
  rintro e w5 ⟨rfl, g5⟩
  have E5 := E4.grown g5
  go_wp2_with fail
  refine (bitsNeg _ _ E5.lays r5).mono ?_
  rintro e w6 ⟨rfl, g6⟩
  have E6 := E5.grown g6
  go_wp2_with fail
  refine (bitsParts32 _ _ E6.lays).mono ?_
  rintro e w7 ⟨rfl, g7⟩
  have E7 := E6.grown g7
  go_wp2_with fail
  refine (bitsJoin32 _ _ _ _ E7 r3 r4).mono ?_
  rintro e w8 ⟨rfl, g8⟩
  have E8 := E7.grown g8
  go_wp2_with fail
  refine (bitsClass32 _ _ E8.lays).mono ?_
  rintro e w9 ⟨rfl, g9⟩
  have E9 := E8.grown g9
  go_wp2
  go_ret
  exact ⟨rfl, (gTrans (gTrans (gTrans (gTrans (gTrans (gTrans (gTrans (gTrans g1 g2) g3) g4) g5) g6) g7) g8) g9)⟩

theorem way100 (b : Int) (hb : rng b) (w : World) (E : Env w) (hp : pok b = true) (h3 : cls b < 3) (hjk : jk 52 2047 (-1074) (pmag b) (pexp b) = true) (hjp : jp (pneg b) (pmag b) (pexp b) = b) (nn : neg (neg b) = b) (hq : pok32 b = false) (q3 : 3 ≤ cls32 b) :
    Calls Tryd.prog 5 #[.int .i64 b] w fun e w' => e = .returned (.bool true) ∧ Grown w w' := by
  have r1 := rng_pmag b
  have r2 := rng_pexp' b
  have r3 := rng_pmag32 b
  have r4 := rng_pexp32 b
  have r5 := rng_neg hb
  have r0 : rng 0 := by unfold rng; omega
  have q3b : decide (cls32 b < 3) = false := by simp; omega
  go_enter Tryd.func5, Tryd.ntmps5
  go_wp2_with fail
  refine (bitsParts _ _ E.lays).mono ?_
  rintro e w1 ⟨rfl, g1⟩
  have E1 := E.grown g1
  go_wp2_with fail
  refine (Go.Proofs.YthppkpbfdgfcaabDoor.bitsJoin _ _ _ _ E1 r1 r2).mono ?_
  rintro e w2 ⟨rfl, g2⟩
  have E2 := E1.grown g2
  go_wp2_with fail
  refine (bitsClass _ _ E2.lays).mono ?_
  rintro e w3 ⟨rfl, g3⟩
  have E3 := E2.grown g3
  go_wp2_with fail
  refine (alive _ E3.lays).mono ?_
  rintro e w4 ⟨rfl, g4⟩
  have E4 := E3.grown g4
  go_wp2_with fail
  refine (bitsNeg _ _ E4.lays hb).mono ?_
  rintro e w5 ⟨rfl, g5⟩
  have E5 := E4.grown g5
  go_wp2_with fail
  refine (bitsNeg _ _ E5.lays r5).mono ?_
  rintro e w6 ⟨rfl, g6⟩
  have E6 := E5.grown g6
  go_wp2_with fail
  refine (bitsParts32 _ _ E6.lays).mono ?_
  rintro e w7 ⟨rfl, g7⟩
  have E7 := E6.grown g7
  go_wp2_with fail
  refine (bitsJoin32 _ _ _ _ E7 r3 r4).mono ?_
  rintro e w8 ⟨rfl, g8⟩
  have E8 := E7.grown g8
  go_wp2_with fail
  refine (bitsClass32 _ _ E8.lays).mono ?_
  rintro e w9 ⟨rfl, g9⟩
  have E9 := E8.grown g9
  go_wp2
  go_ret
  exact ⟨rfl, (gTrans (gTrans (gTrans (gTrans (gTrans (gTrans (gTrans (gTrans g1 g2) g3) g4) g5) g6) g7) g8) g9)⟩

theorem way011 (b : Int) (hb : rng b) (w : World) (E : Env w) (hp : pok b = false) (f1 : pneg b = false) (f2 : pmag b = 0) (f3 : pexp b = 0) (h4 : cls b = 4) (hq : pok32 b = true) (q3 : cls32 b < 3) (qjk : jk 23 255 (-149) (pmag32 b) (pexp32 b) = true) (qjp : jp32 (pneg32 b) (pmag32 b) (pexp32 b) = b) :
    Calls Tryd.prog 5 #[.int .i64 b] w fun e w' => e = .returned (.bool true) ∧ Grown w w' := by
  have r1 := rng_pmag b
  have r2 := rng_pexp' b
  have r3 := rng_pmag32 b
  have r4 := rng_pexp32 b
  have r5 := rng_neg hb
  have r0 : rng 0 := by unfold rng; omega
  go_enter Tryd.func5, Tryd.ntmps5
  go_wp2_with fail
  refine (bitsParts _ _ E.lays).mono ?_
  rintro e w1 ⟨rfl, g1⟩
  have E1 := E.grown g1
  go_wp2_with fail
  refine (Go.Proofs.YthppkpbfdgfcaabDoor.bitsJoin _ _ _ _ E1 r0 r0).mono ?_
  rintro e w2 ⟨rfl, g2⟩
  have E2 := E1.grown g2
  go_wp2_with fail
  refine (bitsClass _ _ E2.lays).mono ?_
  rintro e w3 ⟨rfl, g3⟩
  have E3 := E2.grown g3
  go_wp2_with fail
  refine (alive _ E3.lays).mono ?_
  rintro e w4 ⟨rfl, g4⟩
  have E4 := E3.grown g4
  go_wp2_with fail
  refine (bitsParts32 _ _ E4.lays).mono ?_
  rintro e w5 ⟨rfl, g5⟩
  have E5 := E4.grown g5
  go_wp2_with fail
  refine (bitsJoin32 _ _ _ _ E5 r3 r4).mono ?_
  rintro e w6 ⟨rfl, g6⟩
  have E6 := E5.grown g6
  go_wp2_with fail
  refine (bitsClass32 _ _ E6.lays).mono ?_
  rintro e w7 ⟨rfl, g7⟩
  have E7 := E6.grown g7
  go_wp2
  go_ret
  exact ⟨rfl, (gTrans (gTrans (gTrans (gTrans (gTrans (gTrans g1 g2) g3) g4) g5) g6) g7)⟩

theorem way010 (b : Int) (hb : rng b) (w : World) (E : Env w) (hp : pok b = false) (f1 : pneg b = false) (f2 : pmag b = 0) (f3 : pexp b = 0) (h4 : cls b = 4) (hq : pok32 b = false) (q3 : 3 ≤ cls32 b) :
    Calls Tryd.prog 5 #[.int .i64 b] w fun e w' => e = .returned (.bool true) ∧ Grown w w' := by
  have r1 := rng_pmag b
  have r2 := rng_pexp' b
  have r3 := rng_pmag32 b
  have r4 := rng_pexp32 b
  have r5 := rng_neg hb
  have r0 : rng 0 := by unfold rng; omega
  have q3b : decide (cls32 b < 3) = false := by simp; omega
  go_enter Tryd.func5, Tryd.ntmps5
  go_wp2_with fail
  refine (bitsParts _ _ E.lays).mono ?_
  rintro e w1 ⟨rfl, g1⟩
  have E1 := E.grown g1
  go_wp2_with fail
  refine (Go.Proofs.YthppkpbfdgfcaabDoor.bitsJoin _ _ _ _ E1 r0 r0).mono ?_
  rintro e w2 ⟨rfl, g2⟩
  have E2 := E1.grown g2
  go_wp2_with fail
  refine (bitsClass _ _ E2.lays).mono ?_
  rintro e w3 ⟨rfl, g3⟩
  have E3 := E2.grown g3
  go_wp2_with fail
  refine (alive _ E3.lays).mono ?_
  rintro e w4 ⟨rfl, g4⟩
  have E4 := E3.grown g4
  go_wp2_with fail
  refine (bitsParts32 _ _ E4.lays).mono ?_
  rintro e w5 ⟨rfl, g5⟩
  have E5 := E4.grown g5
  go_wp2_with fail
  refine (bitsJoin32 _ _ _ _ E5 r3 r4).mono ?_
  rintro e w6 ⟨rfl, g6⟩
  have E6 := E5.grown g6
  go_wp2_with fail
  refine (bitsClass32 _ _ E6.lays).mono ?_
  rintro e w7 ⟨rfl, g7⟩
  have E7 := E6.grown g7
  go_wp2
  go_ret
  exact ⟨rfl, (gTrans (gTrans (gTrans (gTrans (gTrans (gTrans g1 g2) g3) g4) g5) g6) g7)⟩

theorem way001 (b : Int) (hb : rng b) (w : World) (E : Env w) (hp : pok b = false) (f1 : pneg b = false) (f2 : pmag b = 0) (f3 : pexp b = 0) (h4 : cls b = 3) (nn : neg (neg b) = b) (hq : pok32 b = true) (q3 : cls32 b < 3) (qjk : jk 23 255 (-149) (pmag32 b) (pexp32 b) = true) (qjp : jp32 (pneg32 b) (pmag32 b) (pexp32 b) = b) :
    Calls Tryd.prog 5 #[.int .i64 b] w fun e w' => e = .returned (.bool true) ∧ Grown w w' := by
  have r1 := rng_pmag b
  have r2 := rng_pexp' b
  have r3 := rng_pmag32 b
  have r4 := rng_pexp32 b
  have r5 := rng_neg hb
  have r0 : rng 0 := by unfold rng; omega
  go_enter Tryd.func5, Tryd.ntmps5
  go_wp2_with fail
  refine (bitsParts _ _ E.lays).mono ?_
  rintro e w1 ⟨rfl, g1⟩
  have E1 := E.grown g1
  go_wp2_with fail
  refine (Go.Proofs.YthppkpbfdgfcaabDoor.bitsJoin _ _ _ _ E1 r0 r0).mono ?_
  rintro e w2 ⟨rfl, g2⟩
  have E2 := E1.grown g2
  go_wp2_with fail
  refine (bitsClass _ _ E2.lays).mono ?_
  rintro e w3 ⟨rfl, g3⟩
  have E3 := E2.grown g3
  go_wp2_with fail
  refine (alive _ E3.lays).mono ?_
  rintro e w4 ⟨rfl, g4⟩
  have E4 := E3.grown g4
  go_wp2_with fail
  refine (bitsNeg _ _ E4.lays hb).mono ?_
  rintro e w5 ⟨rfl, g5⟩
  have E5 := E4.grown g5
  go_wp2_with fail
  refine (bitsNeg _ _ E5.lays r5).mono ?_
  rintro e w6 ⟨rfl, g6⟩
  have E6 := E5.grown g6
  go_wp2_with fail
  refine (bitsParts32 _ _ E6.lays).mono ?_
  rintro e w7 ⟨rfl, g7⟩
  have E7 := E6.grown g7
  go_wp2_with fail
  refine (bitsJoin32 _ _ _ _ E7 r3 r4).mono ?_
  rintro e w8 ⟨rfl, g8⟩
  have E8 := E7.grown g8
  go_wp2_with fail
  refine (bitsClass32 _ _ E8.lays).mono ?_
  rintro e w9 ⟨rfl, g9⟩
  have E9 := E8.grown g9
  go_wp2
  go_ret
  exact ⟨rfl, (gTrans (gTrans (gTrans (gTrans (gTrans (gTrans (gTrans (gTrans g1 g2) g3) g4) g5) g6) g7) g8) g9)⟩

theorem way000 (b : Int) (hb : rng b) (w : World) (E : Env w) (hp : pok b = false) (f1 : pneg b = false) (f2 : pmag b = 0) (f3 : pexp b = 0) (h4 : cls b = 3) (nn : neg (neg b) = b) (hq : pok32 b = false) (q3 : 3 ≤ cls32 b) :
    Calls Tryd.prog 5 #[.int .i64 b] w fun e w' => e = .returned (.bool true) ∧ Grown w w' := by
  have r1 := rng_pmag b
  have r2 := rng_pexp' b
  have r3 := rng_pmag32 b
  have r4 := rng_pexp32 b
  have r5 := rng_neg hb
  have r0 : rng 0 := by unfold rng; omega
  have q3b : decide (cls32 b < 3) = false := by simp; omega
  go_enter Tryd.func5, Tryd.ntmps5
  go_wp2_with fail
  refine (bitsParts _ _ E.lays).mono ?_
  rintro e w1 ⟨rfl, g1⟩
  have E1 := E.grown g1
  go_wp2_with fail
  refine (Go.Proofs.YthppkpbfdgfcaabDoor.bitsJoin _ _ _ _ E1 r0 r0).mono ?_
  rintro e w2 ⟨rfl, g2⟩
  have E2 := E1.grown g2
  go_wp2_with fail
  refine (bitsClass _ _ E2.lays).mono ?_
  rintro e w3 ⟨rfl, g3⟩
  have E3 := E2.grown g3
  go_wp2_with fail
  refine (alive _ E3.lays).mono ?_
  rintro e w4 ⟨rfl, g4⟩
  have E4 := E3.grown g4
  go_wp2_with fail
  refine (bitsNeg _ _ E4.lays hb).mono ?_
  rintro e w5 ⟨rfl, g5⟩
  have E5 := E4.grown g5
  go_wp2_with fail
  refine (bitsNeg _ _ E5.lays r5).mono ?_
  rintro e w6 ⟨rfl, g6⟩
  have E6 := E5.grown g6
  go_wp2_with fail
  refine (bitsParts32 _ _ E6.lays).mono ?_
  rintro e w7 ⟨rfl, g7⟩
  have E7 := E6.grown g7
  go_wp2_with fail
  refine (bitsJoin32 _ _ _ _ E7 r3 r4).mono ?_
  rintro e w8 ⟨rfl, g8⟩
  have E8 := E7.grown g8
  go_wp2_with fail
  refine (bitsClass32 _ _ E8.lays).mono ?_
  rintro e w9 ⟨rfl, g9⟩
  have E9 := E8.grown g9
  go_wp2
  go_ret
  exact ⟨rfl, (gTrans (gTrans (gTrans (gTrans (gTrans (gTrans (gTrans (gTrans g1 g2) g3) g4) g5) g6) g7) g8) g9)⟩

theorem walk (b : Int) (hb : rng b) (w : World) (E : Env w) :
    Calls Tryd.prog 5 #[.int .i64 b] w fun e w' => e = .returned (.bool true) ∧ Grown w w' := by
  have k3 := pok_cls b
  have k32 := pok32_cls b
  have cl := cls_le b
  cases hp : pok b
  · obtain ⟨f1, f2, f3⟩ := not_pok hp
    rw [hp] at k3
    have k3' : ¬ cls b < 3 := of_decide_eq_false k3.symm
    cases hq : pok32 b
    · rw [hq] at k32
      have q3' : ¬ cls32 b < 3 := of_decide_eq_false k32.symm
      by_cases h4 : cls b = 4
      · exact way010 b hb w E hp f1 f2 f3 h4 hq (by omega)
      · exact way000 b hb w E hp f1 f2 f3 (by omega) (neg_neg hb h4) hq (by omega)
    · rw [hq] at k32
      have q3' : cls32 b < 3 := of_decide_eq_true k32.symm
      obtain ⟨q1, q2⟩ := join_parts32 hq
      by_cases h4 : cls b = 4
      · exact way011 b hb w E hp f1 f2 f3 h4 hq q3' q1 q2
      · exact way001 b hb w E hp f1 f2 f3 (by omega) (neg_neg hb h4) hq q3' q1 q2
  · rw [hp] at k3
    have k3' : cls b < 3 := of_decide_eq_true k3.symm
    obtain ⟨p1, p2⟩ := join_parts hb hp
    cases hq : pok32 b
    · rw [hq] at k32
      have q3' : ¬ cls32 b < 3 := of_decide_eq_false k32.symm
      exact way100 b hb w E hp k3' p1 p2 (neg_neg hb (by omega)) hq (by omega)
    · rw [hq] at k32
      have q3' : cls32 b < 3 := of_decide_eq_true k32.symm
      obtain ⟨q1, q2⟩ := join_parts32 hq
      exact way101 b hb w E hp k3' p1 p2 (neg_neg hb (by omega)) hq q3' q1 q2
theorem own : ownKnob Tryd.prog.godebug = none := by kernel_rfl
theorem door_met (os : Os) (args : Array Value) : laidMetH Tryd.prog Rows.bitsBackRow.laid ((World.doorLaid Tryd.prog 400 os).forCall (fun _ _ => 0) ⟨#[], args, []⟩).memory :=
  laidMetH_of_parts3 (fuel := 8) (laidMet_of_run' 8 (by kernel_rfl) (by kernel_rfl)) (by kernel_rfl) (by kernel_rfl)
set_option maxRecDepth 100000 in
theorem lifted (os : Os) (started : os.Started) (H : Type) (enc : TypeId × Value → H) :
    ReturnsInHanded {} Tryd.checked os 5 .any (fun w args => (Rows.bitsBackSpec.pre enc Tryd.prog Tryd.f5 [] false w args ∧ laidMetH Tryd.prog Rows.bitsBackRow.laid w) ∧ sizedMet enc Tryd.prog Tryd.f5 (OpenSpec.ofChange Rows.bitsBackSpec) false w args)
      (Rows.bitsBackSpec.post enc Tryd.prog Tryd.f5 false true false false) := by
  refine returnsInHanded_of_change_and (C := Tryd.checked) (X := fun w _ => laidMetH Tryd.prog Rows.bitsBackRow.laid w) (fun _ _ _ hh h => h.of_heap hh) own started (by kernel_rfl) Tryd.func5
    (ChangeSpec.witness_shaped (enc := enc) (C := Tryd.checked) (os := os) (X := fun w _ => laidMetH Tryd.prog Rows.bitsBackRow.laid w) false (World.doorLaid Tryd.prog 400 os) #[.int .i64 0] 8 rfl (World.shaped_of_RefB (by kernel_rfl) (by kernel_rfl)) (by kernel_rfl) (by kernel_rfl) (by kernel_rfl) (door_met os _)) ?_
  intro W base args ds gs before hval0 hW _ _ hL _
  have hval : ∀ (j : Nat) t v, Tryd.f5.params[j]? = some t → args[j]? = some v → Value.okWide Tryd.prog W .any base t v := hval0
  have hW' := hW
  obtain ⟨p, q, hA0, hV, rfl, hfz, hnd⟩ := hW
  have hA : DataW.TrodAll enc Tryd.prog W 0 (fun _ => true) true Tryd.f5.params.toList args.toList ds p := hA0
  rw [Tryd.params5] at hA hval
  obtain ⟨v0, vs0, d0, ds0, p0, q0, hargs, rfl, rfl, h0, r0⟩ := trodAll_cons hA
  obtain ⟨rfl, rfl, rfl⟩ := trodAll_nil r0
  obtain rfl : args = #[v0] := by cases args; simp_all
  obtain ⟨rfl, rfl⟩ := trodVars_none hV
  obtain ⟨a0, rfl, rfl, rfl, w0⟩ := open_int Tryd.underlying3 (hval 0 3 v0 rfl rfl) h0
  clear hA0 hval0
  simp only [List.append_nil] at hW'
  refine (walk a0 (rng_of w0) W (env_of hL)).mono fun e W' ⟨he, hg⟩ => ?_
  subst he
  exact ⟨_, rfl, post_of_same (pa := []) (pv := []) hW' (fun _ _ _ => trodAll_cons_mk (shut_bool Tryd.underlying4 _) trodAll_mk0) (fun sp _ => (trodAll_cons_mk (shut_int Tryd.underlying3 w0) trodAll_mk0)) (fun _ _ => rfl) rfl
    (hg.frame _) hg.2.1 (ok_one (by kernel_rfl) rfl (okWide_bool_mk Tryd.underlying4 _))⟩
theorem said : Rows.BitsBackSaid :=
  OpenClaim.holds_of_wide 5 Tryd.f5 rfl rfl rfl rfl rfl rfl rfl ⟨rfl, rfl, rfl, rfl, rfl⟩ rfl rfl rfl rfl rfl (by kernel_rfl) Tryd.func5 (by kernel_rfl)
    (of_decide_eq_true (by kernel_rfl)) (by unfold Func.isWrapper; first | (rw [if_pos (by decide +kernel)]; kernel_rfl) | (rw [if_neg (by decide +kernel)]; exact ⟨rfl, rfl⟩))
    (fun os started H enc _ => lifted os started H enc)
theorem plain (f : FuncId) (fn : Func) (hf : Tryd.pinned.checked.prog.funcNamed Tryd.f5.name = some f) (hfn : Tryd.pinned.checked.prog.funcs[f]? = some fn) :
    false = Tryd.pinned.checked.prog.looks [] ∧ ∀ (j : Nat) t, fn.params[j]? = some t → Tryd.pinned.checked.prog.wantsStandIn t = false := by
  obtain rfl : f = 5 := Option.some.inj ((show Tryd.prog.funcNamed Tryd.f5.name = some 5 by kernel_rfl).symm.trans hf) |>.symm
  obtain rfl : fn = Tryd.f5 := (Option.some.inj (Tryd.func5.symm.trans hfn)).symm
  refine ⟨by kernel_rfl, fun j t ht => ?_⟩
  rw [Tryd.params5] at ht
  obtain rfl : t = 3 := by simpa using Array.mem_of_getElem? ht
  exact (show Tryd.prog.wantsStandIn 3 = false by kernel_rfl)
/-- THE CARD. -/
theorem card : Rows.BitsBackCardSaid :=
  Claim7.holds_tied_plain_at .later [] _ _ _ _ said (fun _ h => by cases h) (by kernel_rfl) (fun _ h => by cases h) bitsBack_row_tie rfl ⟨rfl, rfl⟩ (by kernel_rfl) rfl plain (by kernel_rfl)
end Go.Proofs.YthppkpbfdgfcaabDoor.bitsBack
namespace Go.Proofs.YthppkpbfdgfcaabDoor
/-- BitsBack: the statement as it is given. -/
theorem bitsBack_holds : Rows.BitsBackCardSaid := bitsBack.card
end Go.Proofs.YthppkpbfdgfcaabDoor
