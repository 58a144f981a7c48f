/-
  EftAll: for every script of asks the law returns true: what package eft tells, asked in any order, is what the document says. As a card: the library's tables and the layout of package bits start as the program's text lays them.
-/
import Derived.Test.YtheiinclgfgneaaDoorPart26
import Derived.Test.YtheiinclgfgneaaDoorCards
import Derived.Test.YtheiinclgfgneaaDoorTie
namespace Go.Proofs.YtheiinclgfgneaaDoor.eftAll
open Go Go.ChangeShapes Go.WideShapes Go.ChangeAt Go.RowKit Go.Proofs.YtheiinclgfgneaaDoor Go.Proofs.YtheiinclgfgneaaDoor.M
set_option linter.unusedSimpArgs false
set_option linter.unusedVariables false

set_option maxRecDepth 100000 in
set_option maxHeartbeats 4000000 in
theorem walk (a : Option Addr) (len cap : Nat) (r : Nat → Int × Int) (w : World) (hs : IsAsks6 w a len cap r) (H : Hold4 w) :
    Calls Tryd.prog 5 #[.slice a len cap] w fun e w' => e = .returned (.bool true) ∧ Below w.heap.size w w' := by
  have HA : Hid (∀ W : World, Below w.heap.size w W → Calls Tryd.prog 6 #[] W fun e w' => e = .returned (.bool true) ∧ Below W.heap.size W w') := fun W hW => alive6 W (H.keeps hW)
  have HSM : Hid (∀ x y W, rng x → rng y → Below w.heap.size w W → Calls Tryd.prog 7 #[.int .i64 x, .int .i64 y] W fun e w' => e = .returned (.bool true) ∧ Below W.heap.size W w') := fun x y W hx hy hW => summed_any x y hx hy W (H.keeps hW)
  have HMU : Hid (∀ x y W, rng x → rng y → Below w.heap.size w W → Calls Tryd.prog 8 #[.int .i64 x, .int .i64 y] W fun e w' => e = .returned (.bool true) ∧ Below W.heap.size W w') := fun x y W hx hy hW => multiplied_any x y hx hy W (H.keeps hW)
  have HC : Hid (∀ i, i < len → ∃ b off, a = some ⟨b, off, none⟩ ∧ b < w.heap.size ∧ w.cell? ⟨b, off + i * 2, none⟩ = some (.int .i64 (r i).1) ∧ w.cell? ⟨b, off + i * 2 + 1, none⟩ = some (.int .i64 (r i).2) ∧ rng (r i).1 ∧ rng (r i).2) := fun i hi => by
    rcases hs with h | ⟨b, off, h1, _, _, h2, h3⟩
    · omega
    · exact ⟨b, off, h1, h2, h3 i hi⟩
  have hl : len ≤ cap ∨ len = 0 := by
    rcases hs with h | ⟨b, off, h1, h2, _⟩
    · exact .inr h
    · exact .inl h2
  have hm : len ≤ 9223372036854775807 := by
    rcases hs with h | ⟨b, off, h1, h2, h3, _⟩
    · omega
    · omega
  clear hs H
  go_enter Tryd.func5, Tryd.ntmps5
  go_wp2
  go_loopw [3] (fun iv wr => ∃ j : Nat, iv = .int .i64 j ∧ j ≤ len ∧ j ≤ 60 ∧ Hid (Below w.heap.size w wr)) (fun iv _ => len - (intOf iv).toNat)
  case atStart => exact ⟨0, rfl, Nat.zero_le _, by omega, bel_refl _⟩
  case round =>
    obtain ⟨j, rfl, hj, hj60, HB⟩ := hrel
    by_cases c1 : j < len
    · by_cases c2 : j < 60
      · obtain ⟨b, off, rfl, hbl, d0, d1, r0, r1⟩ := HC.out j c1
        have k0 := (HB.out.cell (p := ⟨b, off + j * 2, none⟩) hbl).trans d0
        have k1 := (HB.out.cell (p := ⟨b, off + j * 2 + 1, none⟩) hbl).trans d1
        clear d0 d1
        have S1 : ∀ W, Below w.heap.size w W → Calls Tryd.prog 7 #[.int .i64 (r j).1, .int .i64 (r j).2] W fun e w' => e = .returned (.bool true) ∧ Below W.heap.size W w' := fun W hW => HSM.out _ _ W r0 r1 hW
        have M1 : ∀ W, Below w.heap.size w W → Calls Tryd.prog 8 #[.int .i64 (r j).2, .int .i64 (r j).1] W fun e w' => e = .returned (.bool true) ∧ Below W.heap.size W w' := fun W hW => HMU.out _ _ W r1 r0 hW
        clear r0 r1
        generalize (r j).1 = x at *
        generalize (r j).2 = y at *
        go_wp2_with fail
        have hdr : Below wr.heap.size wr wr.drew := (bel_refl wr).drew
        have kd0 := cell_keeps k0 hdr
        have kd1 := cell_keeps k1 hdr
        go_region_held3 (fun W => W.cell? ⟨b, off + j * 2, none⟩ = some (.int .i64 x) ∧ W.cell? ⟨b, off + j * 2 + 1, none⟩ = some (.int .i64 y))
          (first | assumption | exact ⟨k0, k1⟩ | exact ⟨kd0, kd1⟩ | exact ⟨cell_keeps kd0 hb1, cell_keeps kd1 hb1⟩ | exact ⟨cell_keeps (cell_keeps kd0 hb1) hb2, cell_keeps (cell_keeps kd1 hb1) hb2⟩)
          (first
            | (go_at_call 8; refine (M1 _ (bel_trans HB.out (bel_trans hdr hb1))).mono ?_; rintro _ w2 ⟨rfl, hb2⟩)
            | (go_at_call 7; refine (S1 _ (bel_trans HB.out hdr)).mono ?_; rintro _ w1 ⟨rfl, hb1⟩))
        all_goals go_wp2
        all_goals
          go_roundw
          case rel => exact ⟨j + 1, by go_num, by omega, by omega, bel_trans HB.out (bel_trans hdr (bel_trans hb1 hb2))⟩
          case measure => simp [intOf]; omega
      · go_wp2_with fail
        refine (HA.out _ HB.out).mono ?_
        rintro e w2 ⟨rfl, hb⟩
        go_wp2
        go_ret
        exact ⟨rfl, bel_trans HB.out hb⟩
    · obtain rfl : j = len := by omega
      go_wp2_with fail
      refine (HA.out _ HB.out).mono ?_
      rintro e w2 ⟨rfl, hb⟩
      go_wp2
      go_ret
      exact ⟨rfl, bel_trans HB.out hb⟩
theorem own : ownKnob Tryd.prog.godebug = none := by kernel_rfl
theorem laidOut : laidOutB Tryd.prog = true := by kernel_rfl
theorem door_met (os : Os) (args : Array Value) : laidMetH Tryd.prog Rows.eftAllRow.laid ((World.doorLaid Tryd.prog 400 os).forCall (fun _ _ => 0) ⟨#[], args, []⟩).memory :=
  laidMetH_of_parts3 (fuel := 8) (laidMet_of_run' 8 (by kernel_rfl) (by kernel_rfl)) (by kernel_rfl) (by kernel_rfl)
set_option maxRecDepth 100000 in
theorem lifted (os : Os) (started : os.Started) (H : Type) (enc : TypeId × Value → H) :
    ReturnsInHanded {} Tryd.checked os 5 .any (fun w args => (Rows.eftAllSpec.pre enc Tryd.prog Tryd.f5 [] false w args ∧ laidMetH Tryd.prog Rows.eftAllRow.laid w) ∧ sizedMet enc Tryd.prog Tryd.f5 (OpenSpec.ofChange Rows.eftAllSpec) false w args)
      (Rows.eftAllSpec.post enc Tryd.prog Tryd.f5 false true false false) := by
  refine returnsInHanded_of_change_and (C := Tryd.checked) (X := fun w _ => laidMetH Tryd.prog Rows.eftAllRow.laid w) (fun _ _ _ hh h => h.of_heap hh) own started (by kernel_rfl) Tryd.func5
    (ChangeSpec.witness_shaped (enc := enc) (C := Tryd.checked) (os := os) (X := fun w _ => laidMetH Tryd.prog Rows.eftAllRow.laid w) false (World.doorLaid Tryd.prog 400 os) #[.slice none 0 0] 8 rfl (World.shaped_of_RefB (by kernel_rfl) (by kernel_rfl)) (by kernel_rfl) (by kernel_rfl) (by kernel_rfl) (door_met os _)) ?_
  intro W base args ds gs before hval0 hW _ hsz hL _
  have hval : ∀ (j : Nat) t v, Tryd.f5.params[j]? = some t → args[j]? = some v → Value.okWide Tryd.prog W .any base t v := hval0
  have hW' := hW
  obtain ⟨p, q, hA0, hV, rfl, hfz, hnd⟩ := hW
  have hA : DataW.TrodAll enc Tryd.prog W 0 (fun _ => true) true Tryd.f5.params.toList args.toList ds p := hA0
  rw [Tryd.params5] at hA hval
  obtain ⟨v0, vs0, d0, ds0, p0, q0, hargs, rfl, rfl, h0, r0⟩ := trodAll_cons hA
  obtain ⟨rfl, rfl, rfl⟩ := trodAll_nil r0
  obtain rfl : args = #[v0] := by cases args; simp_all
  obtain ⟨rfl, rfl⟩ := trodVars_none hV
  obtain ⟨a0, l0, c0, rfl⟩ := okWide_slice Tryd.underlying24 (hval 0 24 v0 rfl rfl)
  have k0 := h0
  have lt0 : ∀ x ∈ p0, x.block < W.heap.size := by obtain ⟨m, hm⟩ := k0; exact DataW.trod_lt m _ _ _ hm
  obtain ⟨fu0, hf0⟩ := h0
  obtain ⟨z0, w0⟩ := ask6_of (by simpa [Value.cells] using hf0) (fun n hn => of_decide_eq_true (List.all_eq_true.1 hsz n (DataW.weights_mem_each (j := 0) (t := 24) (by kernel_rfl) rfl n hn)))
  clear hA0 hval0
  refine (walk a0 l0 c0 z0 W w0 (hold6_of hL)).mono fun e W' ⟨he, bel⟩ => ?_
  subst he
  exact ⟨_, rfl, _, _, _, [], _, [], hW', trodAll_mk1 (shut_bool Tryd.underlying4 _), (trodAll_cons_mk (Below.trod laidOut (by kernel_rfl) (of_decide_eq_true (by kernel_rfl)) k0 bel lt0) trodAll_mk0), rfl, bel.frame _, fun h => by cases h⟩
theorem said : Rows.EftAllSaid :=
  OpenClaim.holds_of_wide 5 Tryd.f5 rfl rfl rfl rfl rfl rfl rfl ⟨rfl, rfl, rfl, rfl, rfl⟩ rfl rfl rfl rfl rfl (by kernel_rfl) Tryd.func5 (by kernel_rfl)
    (of_decide_eq_true (by kernel_rfl)) (by unfold Func.isWrapper; first | (rw [if_pos (by decide +kernel)]; kernel_rfl) | (rw [if_neg (by decide +kernel)]; exact ⟨rfl, rfl⟩))
    (fun os started H enc _ => lifted os started H enc)
theorem plain (f : FuncId) (fn : Func) (hf : Tryd.pinned.checked.prog.funcNamed Tryd.f5.name = some f) (hfn : Tryd.pinned.checked.prog.funcs[f]? = some fn) :
    false = Tryd.pinned.checked.prog.looks [] ∧ ∀ (j : Nat) t, fn.params[j]? = some t → Tryd.pinned.checked.prog.wantsStandIn t = false := by
  obtain rfl : f = 5 := Option.some.inj ((show Tryd.prog.funcNamed Tryd.f5.name = some 5 by kernel_rfl).symm.trans hf) |>.symm
  obtain rfl : fn = Tryd.f5 := (Option.some.inj (Tryd.func5.symm.trans hfn)).symm
  refine ⟨by kernel_rfl, fun j t ht => ?_⟩
  rw [Tryd.params5] at ht
  obtain rfl : t = 24 := by simpa using Array.mem_of_getElem? ht
  exact (show Tryd.prog.wantsStandIn 24 = false by kernel_rfl)
/-- THE CARD. -/
theorem card : Rows.EftAllCardSaid :=
  Claim7.holds_tied_plain_at .later [] _ _ _ _ said (fun _ h => by cases h) (by kernel_rfl) (fun _ h => by cases h) eftAll_row_tie rfl ⟨rfl, rfl⟩ (by kernel_rfl) rfl plain (by kernel_rfl)
end Go.Proofs.YtheiinclgfgneaaDoor.eftAll
namespace Go.Proofs.YtheiinclgfgneaaDoor
/-- EftAll: the statement as it is given. -/
theorem eftAll_holds : Rows.EftAllCardSaid := eftAll.card
end Go.Proofs.YtheiinclgfgneaaDoor
