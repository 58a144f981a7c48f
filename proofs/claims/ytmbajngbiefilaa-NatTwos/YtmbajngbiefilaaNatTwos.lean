/-
  Proved: at every two lists, plumblaw2.NatTwos answers true: the calls that take two lists answer as the document says, what they answer is new memory, and their arguments are left; no conditions.
-/
import Derived.Test.YtmbajngbiefilaaNShut
import Derived.Test.YtmbajngbiefilaaNTwo
import Derived.Test.YtmbajngbiefilaaNKeep1
namespace Go.Proofs.Ytmbajngbiefilaa.natTwos
open Go Go.ChangeShapes Go.WideShapes Go.ChangeAt Go.RowKit Go.Proofs.Ytmbajngbiefilaa Go.Proofs.Ytmbajngbiefilaa.M
set_option linter.unusedSimpArgs false
set_option linter.unusedVariables false

set_option maxRecDepth 100000 in
set_option maxHeartbeats 4000000 in
theorem walk (a0 : Option Addr) (l0 c0 : Nat) (z0 : Nat → Int) (a1 : Option Addr) (l1 c1 : Nat) (z1 : Nat → Int) (w : World)
    (h0 : Row w a0 l0 c0 z0) (_ : ∀ i, i < l0 → rng (z0 i)) (h1 : Row w a1 l1 c1 z1) (_ : ∀ i, i < l1 → rng (z1 i)) :
    Calls Try.prog 3 #[.slice a0 l0 c0, .slice a1 l1 c1] w fun e w' => e = .returned (.bool true) ∧ Below w.heap.size w w' := by
  have hk := kept_new w (Nat.le_refl _)
  have hl0 := h0.le
  have hm0 := h0.max
  have hl1 := h1.le
  have hm1 := h1.max
  have HK : Hid (Kept w.heap.size (w.alloc (.cells #[.slice none 0 0, .slice none 0 0] 26)) w.heap.size (fun _ => False)) := hk
  clear hk
  have hA : ∀ W : World, Below w.heap.size w W → Calls Try.prog 7 #[] W fun e w' => e = .returned (.bool true) ∧ Below w.heap.size w w' ∧ Below W.heap.size W w' := fun W hW => (alive_any W).mono fun _ _ h => ⟨h.1, hW.trans (h.2.mono hW.size), h.2⟩
  by_cases g0 : 2100 < l0
  · go_enter Try.func3, Try.ntmps3
    go_wp2_with fail
    refine (hA _ (bel_alloc _ _)).mono ?_
    rintro e w2 ⟨rfl, hb, _⟩
    go_wp2
    go_ret
    exact ⟨rfl, hb⟩
  · by_cases g1 : 2100 < l1
    · go_enter Try.func3, Try.ntmps3
      go_wp2_with fail
      refine (hA _ (bel_alloc _ _)).mono ?_
      rintro e w2 ⟨rfl, hb, _⟩
      go_wp2
      go_ret
      exact ⟨rfl, hb⟩
    · obtain ⟨p, hp⟩ : ∃ p : Nat, p = l0 * l1 := ⟨_, rfl⟩
      have ep : (l0 : Int) * (l1 : Int) = (p : Int) := by rw [hp]; simp
      have hpl : p ≤ 4410000 := by rw [hp]; exact Nat.mul_le_mul (show l0 ≤ 2100 by omega) (show l1 ≤ 2100 by omega)
      clear hp
      by_cases g2 : 40000 < p
      · go_enter Try.func3, Try.ntmps3
        go_wp2_with fail
        refine (hA _ (bel_alloc _ _)).mono ?_
        rintro e w2 ⟨rfl, hb, _⟩
        go_wp2
        go_ret
        exact ⟨rfl, hb⟩
      · go_enter Try.func3, Try.ntmps3
        go_wp2_with fail
        refine (hA _ (bel_alloc _ _)).mono ?_
        rintro e w2 ⟨rfl, hb, hb'⟩
        have HK2 : Hid (Kept w.heap.size w2 w.heap.size (fun _ => False)) := HK.out.keeps hb'
        go_wp2_with fail
        refine (two_any h0 h1 (by omega) (by omega) _ hb HK2.out).mono ?_
        rintro e w3 ⟨rfl, hb3, S, hk3, _⟩
        go_wp2_with fail
        refine (apart_kept hk3 hb3.size).mono ?_
        rintro e w4 ⟨rfl, hb4⟩
        go_wp2
        go_ret
        exact ⟨rfl, hb3.trans hb4⟩
theorem own : ownKnob Try.prog.godebug = none := by kernel_rfl
theorem laidOut : laidOutB Try.prog = true := by kernel_rfl
set_option maxRecDepth 100000 in
theorem lifted (os : Os) (started : os.Started) (H : Type) (enc : TypeId × Value → H) :
    ReturnsInHanded {} Try.checked os 3 .any (Rows.natTwosSpec.pre6 enc Try.prog Try.f3 Rows.natTwosRow.domain false) (Rows.natTwosSpec.post enc Try.prog Try.f3 false true false false) := by
  refine returnsInHanded_of_change (C := Try.checked) own started (by kernel_rfl) Try.func3
    (ChangeSpec.witness6 (enc := enc) (C := Try.checked) false ⟨#[], #[.slice none 0 0, .slice none 0 0], []⟩ 8 (by kernel_rfl) (by kernel_rfl) (by kernel_rfl) (by kernel_rfl)) ?_
  intro W base args ds gs before hval0 hW hcnd _
  have hval : ∀ (j : Nat) t v, Try.f3.params[j]? = some t → args[j]? = some v → Value.okWide Try.prog W .any base t v := hval0
  have hW' := hW
  obtain ⟨p, q, hA0, hV, rfl, hfz, hnd⟩ := hW
  have hA : DataW.TrodAll enc Try.prog W 0 (fun _ => true) true Try.f3.params.toList args.toList ds p := hA0
  rw [Try.params3] at hA hval
  obtain ⟨v0, vs0, d0, ds0, p0, q0, hargs, rfl, rfl, h0, r0⟩ := trodAll_cons hA
  obtain ⟨v1, vs1, d1, ds1, p1, q1, rfl, rfl, rfl, h1, r1⟩ := trodAll_cons r0
  obtain ⟨rfl, rfl, rfl⟩ := trodAll_nil r1
  obtain rfl : args = #[v0, v1] := by cases args; simp_all
  obtain ⟨rfl, rfl⟩ := trodVars_none hV
  obtain ⟨a0, l0, c0, rfl⟩ := okWide_slice Try.underlying22 (hval 0 22 v0 rfl rfl)
  have k0 := h0
  have lt0 : ∀ x ∈ p0, x.block < W.heap.size := by obtain ⟨m, hm⟩ := k0; exact DataW.trod_lt m _ _ _ hm
  obtain ⟨z0, w0, g0⟩ := row_of h0
  obtain ⟨a1, l1, c1, rfl⟩ := okWide_slice Try.underlying22 (hval 1 22 v1 rfl rfl)
  have k1 := h1
  have lt1 : ∀ x ∈ p1, x.block < W.heap.size := by obtain ⟨m, hm⟩ := k1; exact DataW.trod_lt m _ _ _ hm
  obtain ⟨z1, w1, g1⟩ := row_of h1
  clear hA0 hval0
  refine (walk a0 l0 c0 z0 a1 l1 c1 z1 W w0 g0 w1 g1).mono fun e W' ⟨he, bel⟩ => ?_
  subst he
  exact ⟨_, rfl, _, _, _, [], _, [], hW', trodAll_mk1 (shut_bool Try.underlying4 _), (trodAll_cons_mk (Below.trod laidOut (by kernel_rfl) (of_decide_eq_true (by kernel_rfl)) k0 bel lt0) (trodAll_cons_mk (Below.trod laidOut (by kernel_rfl) (of_decide_eq_true (by kernel_rfl)) k1 bel lt1) trodAll_mk0)), rfl, bel.frame _, fun h => by cases h⟩
theorem said : Rows.NatTwosSaid :=
  OpenClaim.holds_of_wide 3 Try.f3 rfl rfl rfl rfl rfl rfl rfl ⟨rfl, rfl, rfl, rfl, rfl⟩ rfl rfl rfl rfl rfl (by kernel_rfl) Try.func3 (by kernel_rfl)
    (of_decide_eq_true (by kernel_rfl)) (by unfold Func.isWrapper; first | (rw [if_pos (by decide +kernel)]; kernel_rfl) | (rw [if_neg (by decide +kernel)]; exact ⟨rfl, rfl⟩))
    (fun os started H enc _ => lifted os started H enc)
end Go.Proofs.Ytmbajngbiefilaa.natTwos
namespace Go.Proofs.Ytmbajngbiefilaa
/-- NatTwos: the statement as it is given. -/
theorem natTwos_holds : Rows.NatTwosSaid := natTwos.said
end Go.Proofs.Ytmbajngbiefilaa
