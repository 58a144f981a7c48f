/-
  ExpansionFloats: for any list of patterns and any pattern the law returns true: Of, Grow and Scale tell the document's lists and errors; what they tell lies in memory of its own. As a card: the library's tables and the layout of package bits start as the program's text lays them.
-/
import Derived.Test.YtjlmpgbadgkgmaaGreatDoorPart32
import Derived.Test.YtjlmpgbadgkgmaaGreatDoorPart9
import Derived.Test.YtjlmpgbadgkgmaaGreatDoorPart14
import Derived.Test.YtjlmpgbadgkgmaaGreatDoorCards
import Derived.Test.YtjlmpgbadgkgmaaGreatDoorTie
namespace Go.Proofs.YtjlmpgbadgkgmaaGreatDoor.expansionFloats
open Go Go.ChangeShapes Go.WideShapes Go.ChangeAt Go.RowKit Go.Proofs.YtjlmpgbadgkgmaaGreatDoor Go.Proofs.YtjlmpgbadgkgmaaGreatDoor.M
set_option linter.unusedSimpArgs false
set_option linter.unusedVariables false

set_option maxRecDepth 100000 in
theorem walk (a0 : Option Addr) (l0 c0 : Nat) (z0 : Nat → Int) (x : Int) (w : World) (h0 : Row w a0 l0 c0 z0) (hz : ∀ i, i < l0 → rng (z0 i)) (hx : rng x) (H : Hold4 w) :
    Calls Tryz.prog 3 #[.slice a0 l0 c0, .int .i64 x] w fun e w' => e = .returned (.bool true) ∧ Below w.heap.size w w' := by
  have HK : Hid (KeptE w.heap.size (w.alloc (.cells #[.slice none 0 0, .slice none 0 0] 26)) w.heap.size (fun _ => False)) := keptE_new w (Nat.le_refl _)
  have hl0 := h0.le
  have hm0 := h0.max
  have hA : ∀ W : World, Below w.heap.size w W → Calls Tryz.prog 5 #[] W fun e w' => e = .returned (.bool true) ∧ Below w.heap.size w w' ∧ Below W.heap.size W w' := fun W hW => (alive7 W (H.keeps hW)).mono fun _ _ h => ⟨h.1, hW.trans (h.2.mono hW.size), h.2⟩
  by_cases g0 : 500 < l0
  · go_enter Tryz.func3, Tryz.ntmps3
    go_wp2_with fail
    refine (hA _ (bel_alloc _ _)).mono ?_
    rintro e w2 ⟨rfl, hb, hb'⟩
    have HK2 : Hid (KeptE w.heap.size w2 w.heap.size (fun _ => False)) := HK.out.keeps hb'
    go_wp2_with fail
    refine (apart_keptE HK2.out hb.size).mono ?_
    rintro e w4 ⟨rfl, hb4⟩
    go_wp2
    go_ret
    exact ⟨rfl, hb.trans hb4⟩
  · have HO : Hid (∀ (W : World), Below w.heap.size w W → KeptE w.heap.size W w.heap.size (fun _ => False) → Calls Tryz.prog 6 #[.pointer (some ⟨w.heap.size, 0, none⟩), .slice a0 l0 c0, .int .i64 x] W fun e w' => e = .returned (.bool true) ∧ Below w.heap.size w w' ∧ ∃ S', KeptE w.heap.size w' w.heap.size S') :=
      fun W hb hk => floats_any w W hb H h0 hz hx (by omega) hk
    clear hx H hz
    go_enter Tryz.func3, Tryz.ntmps3
    go_wp2_with fail
    refine (hA _ (bel_alloc _ _)).mono ?_
    rintro e w2 ⟨rfl, hb, hb'⟩
    have HK2 : Hid (KeptE w.heap.size w2 w.heap.size (fun _ => False)) := HK.out.keeps hb'
    go_wp2_with fail
    refine (HO.out _ hb HK2.out).mono ?_
    rintro e w3 ⟨rfl, hb3, S, hk3⟩
    go_wp2_with fail
    refine (apart_keptE hk3 hb3.size).mono ?_
    rintro e w4 ⟨rfl, hb4⟩
    go_wp2
    go_ret
    exact ⟨rfl, hb3.trans hb4⟩
theorem own : ownKnob Tryz.prog.godebug = none := by kernel_rfl
theorem laidOut : laidOutB Tryz.prog = true := by kernel_rfl
theorem door_met (os : Os) (args : Array Value) : laidMetH Tryz.prog Rows.expansionFloatsRow.laid ((World.doorLaid Tryz.prog 400 os).forCall (fun _ _ => 0) ⟨#[], args, []⟩).memory :=
  laidMetH_of_parts3 (fuel := 8) (laidMet_of_run' 8 (by kernel_rfl) (by kernel_rfl)) (by kernel_rfl) (by kernel_rfl)
set_option maxRecDepth 100000 in
theorem lifted (os : Os) (started : os.Started) (H : Type) (enc : TypeId × Value → H) :
    ReturnsInHanded {} Tryz.checked os 3 .any (fun w args => (Rows.expansionFloatsSpec.pre enc Tryz.prog Tryz.f3 [] false w args ∧ laidMetH Tryz.prog Rows.expansionFloatsRow.laid w) ∧ sizedMet enc Tryz.prog Tryz.f3 (OpenSpec.ofChange Rows.expansionFloatsSpec) false w args)
      (Rows.expansionFloatsSpec.post enc Tryz.prog Tryz.f3 false true false false) := by
  refine returnsInHanded_of_change_and (C := Tryz.checked) (X := fun w _ => laidMetH Tryz.prog Rows.expansionFloatsRow.laid w) (fun _ _ _ hh h => h.of_heap hh) own started (by kernel_rfl) Tryz.func3
    (ChangeSpec.witness_shaped (enc := enc) (C := Tryz.checked) (os := os) (X := fun w _ => laidMetH Tryz.prog Rows.expansionFloatsRow.laid w) false (World.doorLaid Tryz.prog 400 os) #[.slice none 0 0, .int .i64 0] 8 rfl (World.shaped_of_RefB (by kernel_rfl) (by kernel_rfl)) (by kernel_rfl) (by kernel_rfl) (by kernel_rfl) (door_met os _)) ?_
  intro W base args ds gs before hval0 hW _ _ hL _
  have hval : ∀ (j : Nat) t v, Tryz.f3.params[j]? = some t → args[j]? = some v → Value.okWide Tryz.prog W .any base t v := hval0
  have hW' := hW
  obtain ⟨p, q, hA0, hV, rfl, hfz, hnd⟩ := hW
  have hA : DataW.TrodAll enc Tryz.prog W 0 (fun _ => true) true Tryz.f3.params.toList args.toList ds p := hA0
  rw [Tryz.params3] at hA hval
  obtain ⟨v0, vs0, d0, ds0, p0, q0, hargs, rfl, rfl, h0, r0⟩ := trodAll_cons hA
  obtain ⟨v1, vs1, d1, ds1, p1, q1, rfl, rfl, rfl, h1, r1⟩ := trodAll_cons r0
  obtain ⟨rfl, rfl, rfl⟩ := trodAll_nil r1
  obtain rfl : args = #[v0, v1] := by cases args; simp_all
  obtain ⟨rfl, rfl⟩ := trodVars_none hV
  obtain ⟨a0, l0, c0, rfl⟩ := okWide_slice Tryz.underlying22 (hval 0 22 v0 rfl rfl)
  have k0 := h0
  have lt0 : ∀ x ∈ p0, x.block < W.heap.size := by obtain ⟨m, hm⟩ := k0; exact DataW.trod_lt m _ _ _ hm
  obtain ⟨z0, w0, g0⟩ := row_of h0
  obtain ⟨a1, rfl, rfl, rfl, w1⟩ := open_int Tryz.underlying3 (hval 1 3 v1 rfl rfl) h1
  clear hA0 hval0
  refine (walk a0 l0 c0 z0 a1 W w0 g0 (rng_of w1) (hold6_of hL)).mono fun e W' ⟨he, bel⟩ => ?_
  subst he
  exact ⟨_, rfl, _, _, _, [], _, [], hW', trodAll_mk1 (shut_bool Tryz.underlying4 _), (trodAll_cons_mk (Below.trod laidOut (by kernel_rfl) (of_decide_eq_true (by kernel_rfl)) k0 bel lt0) (trodAll_cons_mk (shut_int Tryz.underlying3 w1) trodAll_mk0)), rfl, bel.frame _, fun h => by cases h⟩
theorem said : Rows.ExpansionFloatsSaid :=
  OpenClaim.holds_of_wide 3 Tryz.f3 rfl rfl rfl rfl rfl rfl rfl ⟨rfl, rfl, rfl, rfl, rfl⟩ rfl rfl rfl rfl rfl (by kernel_rfl) Tryz.func3 (by kernel_rfl)
    (of_decide_eq_true (by kernel_rfl)) (by unfold Func.isWrapper; first | (rw [if_pos (by decide +kernel)]; kernel_rfl) | (rw [if_neg (by decide +kernel)]; exact ⟨rfl, rfl⟩))
    (fun os started H enc _ => lifted os started H enc)
theorem plain (f : FuncId) (fn : Func) (hf : Tryz.pinned.checked.prog.funcNamed Tryz.f3.name = some f) (hfn : Tryz.pinned.checked.prog.funcs[f]? = some fn) :
    true = Tryz.pinned.checked.prog.looks [] ∧ ∀ (j : Nat) t, fn.params[j]? = some t → Tryz.pinned.checked.prog.wantsStandIn t = false := by
  obtain rfl : f = 3 := Option.some.inj ((show Tryz.prog.funcNamed Tryz.f3.name = some 3 by kernel_rfl).symm.trans hf) |>.symm
  obtain rfl : fn = Tryz.f3 := (Option.some.inj (Tryz.func3.symm.trans hfn)).symm
  refine ⟨by kernel_rfl, fun j t ht => ?_⟩
  rw [Tryz.params3] at ht
  have ht2 : t = 22 ∨ t = 3 := by simpa using Array.mem_of_getElem? ht
  rcases ht2 with rfl | rfl
  · exact (show Tryz.prog.wantsStandIn 22 = false by kernel_rfl)
  · exact (show Tryz.prog.wantsStandIn 3 = false by kernel_rfl)
/-- THE CARD. -/
theorem card : Rows.ExpansionFloatsCardSaid :=
  Claim7.holds_tied_plain_at .later [] _ _ _ _ said (fun _ h => by cases h) (by kernel_rfl) (fun _ h => by cases h) expansionFloats_row_tie rfl ⟨rfl, rfl⟩ (by kernel_rfl) rfl plain (by kernel_rfl)
end Go.Proofs.YtjlmpgbadgkgmaaGreatDoor.expansionFloats
namespace Go.Proofs.YtjlmpgbadgkgmaaGreatDoor
/-- ExpansionFloats: the statement as it is given. -/
theorem expansionFloats_holds : Rows.ExpansionFloatsCardSaid := expansionFloats.card
end Go.Proofs.YtjlmpgbadgkgmaaGreatDoor
