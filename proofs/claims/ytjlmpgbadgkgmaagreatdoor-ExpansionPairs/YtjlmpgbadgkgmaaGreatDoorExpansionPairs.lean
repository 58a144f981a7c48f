/-
  ExpansionPairs: for any two lists of patterns the law returns true: Sum, Diff and Product tell the document's lists and errors; what they tell lies in memory of its own. As a card: the library's tables and the layout of package bits start as the program's text lays them.
-/
import Derived.Test.YtjlmpgbadgkgmaaGreatDoorPart29
import Derived.Test.YtjlmpgbadgkgmaaGreatDoorPart7
import Derived.Test.YtjlmpgbadgkgmaaGreatDoorPart11
import Derived.Test.YtjlmpgbadgkgmaaGreatDoorCards
import Derived.Test.YtjlmpgbadgkgmaaGreatDoorTie
namespace Go.Proofs.YtjlmpgbadgkgmaaGreatDoor.expansionPairs
open Go Go.ChangeShapes Go.WideShapes Go.ChangeAt Go.RowKit Go.Proofs.YtjlmpgbadgkgmaaGreatDoor Go.Proofs.YtjlmpgbadgkgmaaGreatDoor.M
set_option linter.unusedSimpArgs false
set_option linter.unusedVariables false

set_option maxRecDepth 100000 in
theorem walk (a0 : Option Addr) (l0 c0 : Nat) (z0 : Nat → Int) (a1 : Option Addr) (l1 c1 : Nat) (z1 : Nat → Int) (w : World) (h0 : Row w a0 l0 c0 z0) (hz0 : ∀ i, i < l0 → rng (z0 i)) (h1 : Row w a1 l1 c1 z1) (hz1 : ∀ i, i < l1 → rng (z1 i)) (H : Hold4 w) :
    Calls Tryz.prog 4 #[.slice a0 l0 c0, .slice a1 l1 c1] w fun e w' => e = .returned (.bool true) ∧ Below w.heap.size w w' := by
  have HK : Hid (KeptE w.heap.size (w.alloc (.cells #[.slice none 0 0, .slice none 0 0] 26)) w.heap.size (fun _ => False)) := keptE_new w (Nat.le_refl _)
  have hl0 := h0.le
  have hm0 := h0.max
  have hl1 := h1.le
  have hm1 := h1.max
  have hA : ∀ W : World, Below w.heap.size w W → Calls Tryz.prog 5 #[] W fun e w' => e = .returned (.bool true) ∧ Below w.heap.size w w' ∧ Below W.heap.size W w' := fun W hW => (alive7 W (H.keeps hW)).mono fun _ _ h => ⟨h.1, hW.trans (h.2.mono hW.size), h.2⟩
  by_cases g0 : l0 ≤ 120 ∧ l1 ≤ 120 ∧ l0 * l1 ≤ 400
  · obtain ⟨g1, g2, g3⟩ := g0
    have hprod : wrap64 ((l0 : Int) * (l1 : Int)) = ((l0 * l1 : Nat) : Int) := by
      rw [← Int.natCast_mul]
      exact IntWalk.wrap64_in _ ⟨by omega, by omega⟩
    have q1 : ¬ (400 : Int) < ((l0 * l1 : Nat) : Int) := by omega
    have q2 : ¬ (120 : Int) < (l0 : Int) := by omega
    have q3 : ¬ (120 : Int) < (l1 : Int) := by omega
    have g3' : l1 * l0 ≤ 400 := by rw [Nat.mul_comm]; exact g3
    have HO : Hid (∀ (W : World) S, Below w.heap.size w W → KeptE w.heap.size W w.heap.size S → Calls Tryz.prog 8 #[.pointer (some ⟨w.heap.size, 0, none⟩), .slice a0 l0 c0, .slice a1 l1 c1] W fun e w' => e = .returned (.bool true) ∧ Below w.heap.size w w' ∧ ∃ S', KeptE w.heap.size w' w.heap.size S') :=
      fun W S hb hk => pairs_any w W hb H h0 h1 hz0 hz1 g1 g2 g3 hk
    have HP : Hid (∀ (W : World) S, Below w.heap.size w W → KeptE w.heap.size W w.heap.size S → Calls Tryz.prog 8 #[.pointer (some ⟨w.heap.size, 0, none⟩), .slice a1 l1 c1, .slice a0 l0 c0] W fun e w' => e = .returned (.bool true) ∧ Below w.heap.size w w' ∧ ∃ S', KeptE w.heap.size w' w.heap.size S') :=
      fun W S hb hk => pairs_any w W hb H h1 h0 hz1 hz0 g2 g1 g3' hk
    clear H hz0 hz1 g3 g3'
    generalize ((l0 * l1 : Nat) : Int) = pr at *
    go_enter Tryz.func4, Tryz.ntmps4
    go_wp2_with fail
    refine (hA _ (bel_alloc _ _)).mono ?_
    rintro e w2 ⟨rfl, hb, hb'⟩
    have HK2 : Hid (KeptE w.heap.size w2 w.heap.size (fun _ => False)) := HK.out.keeps hb'
    go_wp2_with fail
    refine (HO.out _ _ hb HK2.out).mono ?_
    rintro e w3 ⟨rfl, hb3, S, hk3⟩
    go_wp2_with fail
    refine (HP.out _ _ hb3 hk3).mono ?_
    rintro e w4 ⟨rfl, hb4, S', hk4⟩
    go_wp2_with fail
    refine (apart_keptE hk4 hb4.size).mono ?_
    rintro e w5 ⟨rfl, hb5⟩
    go_wp2
    go_ret
    exact ⟨rfl, hb4.trans hb5⟩
  · by_cases q1 : (400 : Int) < wrap64 ((l0 : Int) * (l1 : Int))
    · go_enter Tryz.func4, Tryz.ntmps4
      go_wp2_with fail
      refine (hA _ (bel_alloc _ _)).mono ?_
      rintro e w2 ⟨rfl, hb, hb'⟩
      go_wp2
      go_ret
      exact ⟨rfl, hb⟩
    · by_cases q2 : (120 : Int) < (l0 : Int)
      · go_enter Tryz.func4, Tryz.ntmps4
        go_wp2_with fail
        refine (hA _ (bel_alloc _ _)).mono ?_
        rintro e w2 ⟨rfl, hb, hb'⟩
        go_wp2
        go_ret
        exact ⟨rfl, hb⟩
      · have q3 : (120 : Int) < (l1 : Int) := by
          by_cases e : l1 ≤ 120
          · exfalso
            have : l0 * l1 ≤ 120 * 120 := Nat.mul_le_mul (by omega) e
            rw [← Int.natCast_mul, IntWalk.wrap64_in _ ⟨by omega, by omega⟩] at q1
            exact g0 ⟨by omega, e, by omega⟩
          · omega
        go_enter Tryz.func4, Tryz.ntmps4
        go_wp2_with fail
        refine (hA _ (bel_alloc _ _)).mono ?_
        rintro e w2 ⟨rfl, hb, hb'⟩
        go_wp2
        go_ret
        exact ⟨rfl, hb⟩
theorem own : ownKnob Tryz.prog.godebug = none := by kernel_rfl
theorem laidOut : laidOutB Tryz.prog = true := by kernel_rfl
theorem door_met (os : Os) (args : Array Value) : laidMetH Tryz.prog Rows.expansionPairsRow.laid ((World.doorLaid Tryz.prog 400 os).forCall (fun _ _ => 0) ⟨#[], args, []⟩).memory :=
  laidMetH_of_parts3 (fuel := 8) (laidMet_of_run' 8 (by kernel_rfl) (by kernel_rfl)) (by kernel_rfl) (by kernel_rfl)
set_option maxRecDepth 100000 in
theorem lifted (os : Os) (started : os.Started) (H : Type) (enc : TypeId × Value → H) :
    ReturnsInHanded {} Tryz.checked os 4 .any (fun w args => (Rows.expansionPairsSpec.pre enc Tryz.prog Tryz.f4 [] false w args ∧ laidMetH Tryz.prog Rows.expansionPairsRow.laid w) ∧ sizedMet enc Tryz.prog Tryz.f4 (OpenSpec.ofChange Rows.expansionPairsSpec) false w args)
      (Rows.expansionPairsSpec.post enc Tryz.prog Tryz.f4 false true false false) := by
  refine returnsInHanded_of_change_and (C := Tryz.checked) (X := fun w _ => laidMetH Tryz.prog Rows.expansionPairsRow.laid w) (fun _ _ _ hh h => h.of_heap hh) own started (by kernel_rfl) Tryz.func4
    (ChangeSpec.witness_shaped (enc := enc) (C := Tryz.checked) (os := os) (X := fun w _ => laidMetH Tryz.prog Rows.expansionPairsRow.laid w) false (World.doorLaid Tryz.prog 400 os) #[.slice none 0 0, .slice none 0 0] 8 rfl (World.shaped_of_RefB (by kernel_rfl) (by kernel_rfl)) (by kernel_rfl) (by kernel_rfl) (by kernel_rfl) (door_met os _)) ?_
  intro W base args ds gs before hval0 hW _ _ hL _
  have hval : ∀ (j : Nat) t v, Tryz.f4.params[j]? = some t → args[j]? = some v → Value.okWide Tryz.prog W .any base t v := hval0
  have hW' := hW
  obtain ⟨p, q, hA0, hV, rfl, hfz, hnd⟩ := hW
  have hA : DataW.TrodAll enc Tryz.prog W 0 (fun _ => true) true Tryz.f4.params.toList args.toList ds p := hA0
  rw [Tryz.params4] at hA hval
  obtain ⟨v0, vs0, d0, ds0, p0, q0, hargs, rfl, rfl, h0, r0⟩ := trodAll_cons hA
  obtain ⟨v1, vs1, d1, ds1, p1, q1, rfl, rfl, rfl, h1, r1⟩ := trodAll_cons r0
  obtain ⟨rfl, rfl, rfl⟩ := trodAll_nil r1
  obtain rfl : args = #[v0, v1] := by cases args; simp_all
  obtain ⟨rfl, rfl⟩ := trodVars_none hV
  obtain ⟨a0, l0, c0, rfl⟩ := okWide_slice Tryz.underlying22 (hval 0 22 v0 rfl rfl)
  have k0 := h0
  have lt0 : ∀ x ∈ p0, x.block < W.heap.size := by obtain ⟨m, hm⟩ := k0; exact DataW.trod_lt m _ _ _ hm
  obtain ⟨z0, w0, g0⟩ := row_of h0
  obtain ⟨a1, l1, c1, rfl⟩ := okWide_slice Tryz.underlying22 (hval 1 22 v1 rfl rfl)
  have k1 := h1
  have lt1 : ∀ x ∈ p1, x.block < W.heap.size := by obtain ⟨m, hm⟩ := k1; exact DataW.trod_lt m _ _ _ hm
  obtain ⟨z1, w1, g1⟩ := row_of h1
  clear hA0 hval0
  refine (walk a0 l0 c0 z0 a1 l1 c1 z1 W w0 g0 w1 g1 (hold6_of hL)).mono fun e W' ⟨he, bel⟩ => ?_
  subst he
  exact ⟨_, rfl, _, _, _, [], _, [], hW', trodAll_mk1 (shut_bool Tryz.underlying4 _), (trodAll_cons_mk (Below.trod laidOut (by kernel_rfl) (of_decide_eq_true (by kernel_rfl)) k0 bel lt0) (trodAll_cons_mk (Below.trod laidOut (by kernel_rfl) (of_decide_eq_true (by kernel_rfl)) k1 bel lt1) trodAll_mk0)), rfl, bel.frame _, fun h => by cases h⟩
theorem said : Rows.ExpansionPairsSaid :=
  OpenClaim.holds_of_wide 4 Tryz.f4 rfl rfl rfl rfl rfl rfl rfl ⟨rfl, rfl, rfl, rfl, rfl⟩ rfl rfl rfl rfl rfl (by kernel_rfl) Tryz.func4 (by kernel_rfl)
    (of_decide_eq_true (by kernel_rfl)) (by unfold Func.isWrapper; first | (rw [if_pos (by decide +kernel)]; kernel_rfl) | (rw [if_neg (by decide +kernel)]; exact ⟨rfl, rfl⟩))
    (fun os started H enc _ => lifted os started H enc)
theorem plain (f : FuncId) (fn : Func) (hf : Tryz.pinned.checked.prog.funcNamed Tryz.f4.name = some f) (hfn : Tryz.pinned.checked.prog.funcs[f]? = some fn) :
    true = Tryz.pinned.checked.prog.looks [] ∧ ∀ (j : Nat) t, fn.params[j]? = some t → Tryz.pinned.checked.prog.wantsStandIn t = false := by
  obtain rfl : f = 4 := Option.some.inj ((show Tryz.prog.funcNamed Tryz.f4.name = some 4 by kernel_rfl).symm.trans hf) |>.symm
  obtain rfl : fn = Tryz.f4 := (Option.some.inj (Tryz.func4.symm.trans hfn)).symm
  refine ⟨by kernel_rfl, fun j t ht => ?_⟩
  rw [Tryz.params4] at ht
  obtain rfl : t = 22 := by simpa using Array.mem_of_getElem? ht
  exact (show Tryz.prog.wantsStandIn 22 = false by kernel_rfl)
/-- THE CARD. -/
theorem card : Rows.ExpansionPairsCardSaid :=
  Claim7.holds_tied_plain_at .later [] _ _ _ _ said (fun _ h => by cases h) (by kernel_rfl) (fun _ h => by cases h) expansionPairs_row_tie rfl ⟨rfl, rfl⟩ (by kernel_rfl) rfl plain (by kernel_rfl)
end Go.Proofs.YtjlmpgbadgkgmaaGreatDoor.expansionPairs
namespace Go.Proofs.YtjlmpgbadgkgmaaGreatDoor
/-- ExpansionPairs: the statement as it is given. -/
theorem expansionPairs_holds : Rows.ExpansionPairsCardSaid := expansionPairs.card
end Go.Proofs.YtjlmpgbadgkgmaaGreatDoor
