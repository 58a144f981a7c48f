/-
  Proved: at every three points and int, plumblaw9.PointLaws answers true: the order of points goes on and turns, -0 is 0, and a coordinate more by one bit comes later.
-/
import Derived.Test.YtgfmjcekgpjloaaQLw1
import Derived.Test.YtgfmjcekgpjloaaQLw2
import Derived.Test.YtgfmjcekgpjloaaQLw3
import Derived.Test.YtgfmjcekgpjloaaQLw4
import Derived.Test.YtgfmjcekgpjloaaQLw5
import Derived.Test.YtgfmjcekgpjloaaQLw6
import Derived.Test.YtgfmjcekgpjloaaQLw7
namespace Go.Proofs.Ytgfmjcekgpjloaa.pointLaws
open Go Go.ChangeShapes Go.WideShapes Go.ChangeAt Go.RowKit Go.Proofs.Ytgfmjcekgpjloaa Go.Proofs.Ytgfmjcekgpjloaa.M
set_option linter.unusedSimpArgs false
set_option linter.unusedVariables false

theorem walk (ax ay bx by' cx cy n : Int) (w : World) (hax : rng ax) (hay : rng ay) (hbx : rng bx) (hby : rng by') (hcx : rng cx) (hcy : rng cy) (hn : rng n) :
    Calls Try.prog 5 #[.agg #[.int .i64 ax, .int .i64 ay], .agg #[.int .i64 bx, .int .i64 by'], .agg #[.int .i64 cx, .int .i64 cy], .int .i64 n] w fun e w' => e = .returned (.bool true) ∧ Below w.heap.size w w' := by
  have C1 : Hid (∀ W, Calls Try.prog 8 #[.agg #[.int .i64 ax, .int .i64 ay], .agg #[.int .i64 bx, .int .i64 by']] W fun e w' => e = .returned (.tuple #[.int .i64 (cmpF ((pok ax && pok ay) && (pok bx && pok by')) (pcmp ax ay bx by')), .int .i64 (errF ((pok ax && pok ay) && (pok bx && pok by')))]) ∧ Below W.heap.size W w') := fun W => pointCmp hax hay hbx hby W
  have C2 : Hid (∀ W, Calls Try.prog 8 #[.agg #[.int .i64 bx, .int .i64 by'], .agg #[.int .i64 cx, .int .i64 cy]] W fun e w' => e = .returned (.tuple #[.int .i64 (cmpF ((pok bx && pok by') && (pok cx && pok cy)) (pcmp bx by' cx cy)), .int .i64 (errF ((pok bx && pok by') && (pok cx && pok cy)))]) ∧ Below W.heap.size W w') := fun W => pointCmp hbx hby hcx hcy W
  have C3 : Hid (∀ W, Calls Try.prog 8 #[.agg #[.int .i64 ax, .int .i64 ay], .agg #[.int .i64 cx, .int .i64 cy]] W fun e w' => e = .returned (.tuple #[.int .i64 (cmpF ((pok ax && pok ay) && (pok cx && pok cy)) (pcmp ax ay cx cy)), .int .i64 (errF ((pok ax && pok ay) && (pok cx && pok cy)))]) ∧ Below W.heap.size W w') := fun W => pointCmp hax hay hcx hcy W
  have C4 : Hid (∀ W, Calls Try.prog 8 #[.agg #[.int .i64 bx, .int .i64 by'], .agg #[.int .i64 ax, .int .i64 ay]] W fun e w' => e = .returned (.tuple #[.int .i64 (cmpF ((pok bx && pok by') && (pok ax && pok ay)) (- pcmp ax ay bx by')), .int .i64 (errF ((pok bx && pok by') && (pok ax && pok ay)))]) ∧ Below W.heap.size W w') := fun W => by
    rw [← pcmp_back]; exact pointCmp hbx hby hax hay W
  obtain ⟨t1, t2⟩ := pcmp_trans ax ay bx by' cx cy
  have v1 := pcmp_any ax ay bx by'
  have v2 := pcmp_any bx by' cx cy
  generalize pcmp ax ay bx by' = R1 at *
  generalize pcmp bx by' cx cy = R2 at *
  generalize pcmp ax ay cx cy = R3 at *
  generalize (pok ax && pok ay) = P at *
  generalize (pok bx && pok by') = Q at *
  generalize (pok cx && pok cy) = S at *
  have e0 : errF true = 0 := rfl
  have e1 : errF false = 10 := rfl
  have f : ∀ R, cmpF true R = R := fun _ => rfl
  cases hPQ : (P && Q)
  · rw [hPQ, e1] at C1
    exact wB1 ax ay bx by' cx cy n _ _ _ _ _ _ _ w hn C1 C2 C3 C4
  cases hQS : (Q && S)
  · rw [hPQ, e0] at C1
    rw [hQS, e1] at C2
    exact wB2 ax ay bx by' cx cy n _ _ _ _ _ _ w hn C1 C2 C3 C4
  obtain ⟨hP, hQ⟩ := Bool.and_eq_true_iff.1 hPQ
  obtain ⟨_, hS⟩ := Bool.and_eq_true_iff.1 hQS
  subst hP hQ hS
  rw [Bool.and_true, e0, f] at C1 C2 C3
  rw [Bool.and_true, f] at C4
  rcases v1 with rfl | rfl | rfl
  · rcases v2 with h2 | h2 | h2
    · exact wA5 ax ay bx by' cx cy n _ _ _ w (by omega) (by omega) (by omega) hn C1 C2 C3 C4
    · exact wA5 ax ay bx by' cx cy n _ _ _ w (by omega) (by omega) (by omega) hn C1 C2 C3 C4
    · subst h2; exact wA3 ax ay bx by' cx cy n _ _ w hn C1 C2 C3 C4
  · rcases v2 with h2 | h2 | h2
    · exact wA4 ax ay bx by' cx cy n _ _ _ w (by omega) (by omega) hn C1 C2 C3 C4
    · exact wA4 ax ay bx by' cx cy n _ _ _ w (by omega) (by omega) hn C1 C2 C3 C4
    · subst h2; exact wA2 ax ay bx by' cx cy n _ _ w hn C1 C2 C3 C4
  · exact wA1 ax ay bx by' cx cy n _ _ _ w hn C1 C2 C3 C4
theorem own : ownKnob Try.prog.godebug = none := by kernel_rfl
theorem laidOut : laidOutB Try.prog = true := by kernel_rfl
set_option maxRecDepth 100000 in
theorem lifted (os : Os) (started : os.Started) (H : Type) (enc : TypeId × Value → H) :
    ReturnsInHanded {} Try.checked os 5 .any (Rows.pointLawsSpec.pre6 enc Try.prog Try.f5 Rows.pointLawsRow.domain false) (Rows.pointLawsSpec.post enc Try.prog Try.f5 false true false false) := by
  refine returnsInHanded_of_change (C := Try.checked) own started (by kernel_rfl) Try.func5
    (ChangeSpec.witness6 (enc := enc) (C := Try.checked) false ⟨#[], #[.agg #[.int .i64 0, .int .i64 0], .agg #[.int .i64 0, .int .i64 0], .agg #[.int .i64 0, .int .i64 0], .int .i64 0], []⟩ 8 (by kernel_rfl) (by kernel_rfl) (by kernel_rfl) (by kernel_rfl)) ?_
  intro W base args ds gs before hval0 hW hcnd _
  have hval : ∀ (j : Nat) t v, Try.f5.params[j]? = some t → args[j]? = some v → Value.okWide Try.prog W .any base t v := hval0
  have hW' := hW
  obtain ⟨p, q, hA0, hV, rfl, hfz, hnd⟩ := hW
  have hA : DataW.TrodAll enc Try.prog W 0 (fun _ => true) true Try.f5.params.toList args.toList ds p := hA0
  rw [Try.params5] at hA hval
  obtain ⟨v0, vs0, d0, ds0, p0, q0, hargs, rfl, rfl, h0, r0⟩ := trodAll_cons hA
  obtain ⟨v1, vs1, d1, ds1, p1, q1, rfl, rfl, rfl, h1, r1⟩ := trodAll_cons r0
  obtain ⟨v2, vs2, d2, ds2, p2, q2, rfl, rfl, rfl, h2, r2⟩ := trodAll_cons r1
  obtain ⟨v3, vs3, d3, ds3, p3, q3, rfl, rfl, rfl, h3, r3⟩ := trodAll_cons r2
  obtain ⟨rfl, rfl, rfl⟩ := trodAll_nil r3
  obtain rfl : args = #[v0, v1, v2, v3] := by cases args; simp_all
  obtain ⟨rfl, rfl⟩ := trodVars_none hV
  have k0 := h0
  have lt0 : ∀ x ∈ p0, x.block < W.heap.size := by obtain ⟨m, hm⟩ := k0; exact DataW.trod_lt m _ _ _ hm
  obtain ⟨x0, y0, rfl, w0, g0⟩ := point_of (hval 0 23 v0 rfl rfl) h0
  have k1 := h1
  have lt1 : ∀ x ∈ p1, x.block < W.heap.size := by obtain ⟨m, hm⟩ := k1; exact DataW.trod_lt m _ _ _ hm
  obtain ⟨x1, y1, rfl, w1, g1⟩ := point_of (hval 1 23 v1 rfl rfl) h1
  have k2 := h2
  have lt2 : ∀ x ∈ p2, x.block < W.heap.size := by obtain ⟨m, hm⟩ := k2; exact DataW.trod_lt m _ _ _ hm
  obtain ⟨x2, y2, rfl, w2, g2⟩ := point_of (hval 2 23 v2 rfl rfl) h2
  obtain ⟨a3, rfl, rfl, rfl, w3⟩ := open_int Try.underlying3 (hval 3 3 v3 rfl rfl) h3
  clear hA0 hval0
  refine (walk x0 y0 x1 y1 x2 y2 a3 W w0 g0 w1 g1 w2 g2 (rng_of w3)).mono fun e W' ⟨he, bel⟩ => ?_
  subst he
  exact ⟨_, rfl, _, _, _, [], _, [], hW', trodAll_mk1 (shut_bool Try.underlying4 _), (trodAll_cons_mk (Below.trod laidOut (by kernel_rfl) (of_decide_eq_true (by kernel_rfl)) k0 bel lt0) (trodAll_cons_mk (Below.trod laidOut (by kernel_rfl) (of_decide_eq_true (by kernel_rfl)) k1 bel lt1) (trodAll_cons_mk (Below.trod laidOut (by kernel_rfl) (of_decide_eq_true (by kernel_rfl)) k2 bel lt2) (trodAll_cons_mk (shut_int Try.underlying3 w3) trodAll_mk0)))), rfl, bel.frame _, fun h => by cases h⟩
theorem said : Rows.PointLawsSaid :=
  OpenClaim.holds_of_wide 5 Try.f5 rfl rfl rfl rfl rfl rfl rfl ⟨rfl, rfl, rfl, rfl, rfl⟩ rfl rfl rfl rfl rfl (by kernel_rfl) Try.func5 (by kernel_rfl)
    (of_decide_eq_true (by kernel_rfl)) (by unfold Func.isWrapper; first | (rw [if_pos (by decide +kernel)]; kernel_rfl) | (rw [if_neg (by decide +kernel)]; exact ⟨rfl, rfl⟩))
    (fun os started H enc _ => lifted os started H enc)
end Go.Proofs.Ytgfmjcekgpjloaa.pointLaws
namespace Go.Proofs.Ytgfmjcekgpjloaa
/-- PointLaws: the statement as it is given. -/
theorem pointLaws_holds : Rows.PointLawsSaid := pointLaws.said
end Go.Proofs.Ytgfmjcekgpjloaa
