/-
  Proved: at every int, plumblaw9.PointTame answers true: point.Tame tells what the document's own answer tells.
-/
import Derived.Test.YtgfmjcekgpjloaaQTop
import Derived.Test.YtgfmjcekgpjloaaQShut
namespace Go.Proofs.Ytgfmjcekgpjloaa.pointTame
open Go Go.ChangeShapes Go.WideShapes Go.ChangeAt Go.RowKit Go.Proofs.Ytgfmjcekgpjloaa Go.Proofs.Ytgfmjcekgpjloaa.M
set_option linter.unusedSimpArgs false
set_option linter.unusedVariables false

set_option maxRecDepth 100000 in
theorem walk (b : Int) (w : World) (hb : rng b) :
    Calls Try.prog 4 #[.int .i64 b] w fun e w' => e = .returned (.bool true) ∧ Below w.heap.size w w' := by
  have C1 : Hid (∀ W, Calls Try.prog 12 #[.int .i64 b] W fun e w' => e = .returned (.bool (tame b)) ∧ w' = W) := fun W => Go.Proofs.Ytgfmjcekgpjloaa.pointTame hb W
  have C2 : Hid (∀ W, Calls Try.prog 13 #[.int .i64 b] W fun e w' => e = .returned (.bool (tame b)) ∧ w' = W) := fun W => q_refTame hb W
  generalize tame b = t at *
  go_enter Try.func4, Try.ntmps4
  go_wp2_with fail
  refine (alive9 _).mono ?_
  rintro _ w1 ⟨rfl, hb1⟩
  go_wp2_with (first
    | (go_at_call 12; refine (C1.out _).mono ?_; rintro _ _ ⟨rfl, rfl⟩)
    | (go_at_call 13; refine (C2.out _).mono ?_; rintro _ _ ⟨rfl, rfl⟩))
  go_ret
  exact ⟨by first | rfl | (cases t <;> rfl), hb1⟩
theorem own : ownKnob Try.prog.godebug = none := by kernel_rfl
theorem laidOut : laidOutB Try.prog = true := by kernel_rfl
set_option maxRecDepth 100000 in
theorem lifted (os : Os) (started : os.Started) (H : Type) (enc : TypeId × Value → H) :
    ReturnsInHanded {} Try.checked os 4 .any (Rows.pointTameSpec.pre6 enc Try.prog Try.f4 Rows.pointTameRow.domain false) (Rows.pointTameSpec.post enc Try.prog Try.f4 false true false false) := by
  refine returnsInHanded_of_change (C := Try.checked) own started (by kernel_rfl) Try.func4
    (ChangeSpec.witness6 (enc := enc) (C := Try.checked) false ⟨#[], #[.int .i64 0], []⟩ 8 (by kernel_rfl) (by kernel_rfl) (by kernel_rfl) (by kernel_rfl)) ?_
  intro W base args ds gs before hval0 hW hcnd _
  have hval : ∀ (j : Nat) t v, Try.f4.params[j]? = some t → args[j]? = some v → Value.okWide Try.prog W .any base t v := hval0
  have hW' := hW
  obtain ⟨p, q, hA0, hV, rfl, hfz, hnd⟩ := hW
  have hA : DataW.TrodAll enc Try.prog W 0 (fun _ => true) true Try.f4.params.toList args.toList ds p := hA0
  rw [Try.params4] at hA hval
  obtain ⟨v0, vs0, d0, ds0, p0, q0, hargs, rfl, rfl, h0, r0⟩ := trodAll_cons hA
  obtain ⟨rfl, rfl, rfl⟩ := trodAll_nil r0
  obtain rfl : args = #[v0] := by cases args; simp_all
  obtain ⟨rfl, rfl⟩ := trodVars_none hV
  obtain ⟨a0, rfl, rfl, rfl, w0⟩ := open_int Try.underlying3 (hval 0 3 v0 rfl rfl) h0
  clear hA0 hval0
  refine (walk a0 W (rng_of w0)).mono fun e W' ⟨he, bel⟩ => ?_
  subst he
  exact ⟨_, rfl, _, _, _, [], _, [], hW', trodAll_mk1 (shut_bool Try.underlying4 _), (trodAll_cons_mk (shut_int Try.underlying3 w0) trodAll_mk0), rfl, bel.frame _, fun h => by cases h⟩
theorem said : Rows.PointTameSaid :=
  OpenClaim.holds_of_wide 4 Try.f4 rfl rfl rfl rfl rfl rfl rfl ⟨rfl, rfl, rfl, rfl, rfl⟩ rfl rfl rfl rfl rfl (by kernel_rfl) Try.func4 (by kernel_rfl)
    (of_decide_eq_true (by kernel_rfl)) (by unfold Func.isWrapper; first | (rw [if_pos (by decide +kernel)]; kernel_rfl) | (rw [if_neg (by decide +kernel)]; exact ⟨rfl, rfl⟩))
    (fun os started H enc _ => lifted os started H enc)
end Go.Proofs.Ytgfmjcekgpjloaa.pointTame
namespace Go.Proofs.Ytgfmjcekgpjloaa
/-- PointTame: the statement as it is given. -/
theorem pointTame_holds : Rows.PointTameSaid := pointTame.said
end Go.Proofs.Ytgfmjcekgpjloaa
