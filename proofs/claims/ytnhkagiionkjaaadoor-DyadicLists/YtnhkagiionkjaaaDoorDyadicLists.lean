/-
  Proved: at every two lists of numbers, plumblaw3.DyadicLists answers true: Sum and Dot answer as the document says, what they answer is new memory, and their arguments are left. As a card: the library's tables and the layout start as the program's text lays them; no other conditions.
-/
import Derived.Test.YtnhkagiionkjaaaDoorPart13
import Derived.Test.YtnhkagiionkjaaaDoorPart9
import Derived.Test.YtnhkagiionkjaaaDoorPart14
import Derived.Test.YtnhkagiionkjaaaDoorCards
import Derived.Test.YtnhkagiionkjaaaDoorTie
namespace Go.Proofs.YtnhkagiionkjaaaDoor.dyadicLists
open Go Go.ChangeShapes Go.WideShapes Go.ChangeAt Go.RowKit Go.Proofs.YtnhkagiionkjaaaDoor Go.Proofs.YtnhkagiionkjaaaDoor.M
set_option linter.unusedSimpArgs false
set_option linter.unusedVariables false

set_option maxRecDepth 100000 in
set_option maxHeartbeats 4000000 in
theorem walk (ao : Option Addr) (n ca : Nat) (a : Nat → NumR) (bo : Option Addr) (m cb : Nat) (b : Nat → NumR) (w : World) (ha' : IsNums w ao n ca a) (hb' : IsNums w bo m cb b) (H : Hold w) :
    Calls Tryd.prog 3 #[.slice ao n ca, .slice bo m cb] w fun e w' => e = .returned (.bool true) ∧ Below w.heap.size w w' := by
  have ha := ha'.1
  have hb := hb'.1
  have hT : Tab w := H.tab
  have CA : Hid (∀ W, Below w.heap.size w W → _) := fun W hb => dalive_any W (H.lay.keeps hb) (H.tab.keeps hb)
  have CL1 : Hid (∀ W, Below w.heap.size w W → _) := fun W hb => light_any ao n ca a W (ha.keeps hb)
  have CL2 : Hid (∀ W, Below w.heap.size w W → _) := fun W h2 => light_any bo m cb b W (hb.keeps h2)
  have C1 : Hid ((∀ i, i < n → Lgt (a i)) → (∀ i, i < m → Lgt (b i)) → n ≤ 500 → m ≤ 500 → ∀ W k S, Below w.heap.size w W → Kept w.heap.size W k S → _) := fun h1 h2 hn hm W k S h3 hk => lists_any ao bo n m ca cb a b ha hb h1 h2 hn hm W h3 hk hT
  have C2 : Hid ((∀ i, i < n → Lgt (a i)) → (∀ i, i < m → Lgt (b i)) → n ≤ 500 → m ≤ 500 → ∀ W k S, Below w.heap.size w W → Kept w.heap.size W k S → _) := fun h1 h2 hn hm W k S h3 hk => lists_any bo ao m n cb ca b a hb ha h2 h1 hm hn W h3 hk hT
  have hal := ha.le
  have ham := ha.max
  have hbl := hb.le
  have hbm := hb.max
  clear ha hb ha' hb' H hT
  have hb3 := bel_alloc w (.cells #[.slice none 0 0, .slice none 0 0] 26)
  have HK : Hid (Kept w.heap.size (w.alloc (.cells #[.slice none 0 0, .slice none 0 0] 26)) w.heap.size (fun _ => False)) := kept_new w (Nat.le_refl _)
  go_enter Tryd.func3, Tryd.ntmps3
  go_wp2_with fail
  generalize w.alloc (.cells #[.slice none 0 0, .slice none 0 0] 26) = wx at hb3 HK ⊢
  refine (CL1.out _ hb3).mono ?_
  rintro _ w1 ⟨la, rfl, hb1, hla⟩
  have hbw := bel_trans hb3 hb1
  have HK1 : Hid (Kept w.heap.size w1 w.heap.size (fun _ => False)) := HK.out.keeps hb1
  clear HK CL1 hb1 hb3
  cases la
  · clear hla
    go_wp2_with fail
    refine (CA.out _ hbw).mono ?_
    rintro _ w2 ⟨rfl, hb2⟩
    go_wp2
    go_ret
    exact ⟨rfl, bel_trans hbw hb2⟩
  · have HLa : Hid (∀ i, i < n → Lgt (a i)) := (hla rfl).2
    clear hla
    go_wp2_with fail
    refine (CL2.out _ hbw).mono ?_
    rintro _ w2 ⟨lb, rfl, hb2, hlb⟩
    have hbw2 := bel_trans hbw hb2
    have HK2 : Hid (Kept w.heap.size w2 w.heap.size (fun _ => False)) := HK1.out.keeps hb2
    clear HK1 CL2 hb2 hbw
    cases lb
    · clear hlb
      go_wp2_with fail
      refine (CA.out _ hbw2).mono ?_
      rintro _ w3 ⟨rfl, hb2⟩
      go_wp2
      go_ret
      exact ⟨rfl, bel_trans hbw2 hb2⟩
    · have HLb : Hid (∀ i, i < m → Lgt (b i)) := (hlb rfl).2
      clear hlb
      by_cases hn : n ≤ 500
      · by_cases hm : m ≤ 500
        · have K1 : Hid _ := C1.out HLa.out HLb.out hn hm
          have K2 : Hid _ := C2.out HLa.out HLb.out hn hm
          clear C1 C2
          go_wp2_with fail
          refine (CA.out _ hbw2).mono ?_
          rintro _ w3 ⟨rfl, hb2⟩
          have hbw3 := bel_trans hbw2 hb2
          have HK3 : Hid (Kept w.heap.size w3 w.heap.size (fun _ => False)) := HK2.out.keeps hb2
          clear HK2 hb2
          go_wp2_with fail
          refine (K1.out _ _ _ hbw3 HK3.out).mono ?_
          rintro _ w4 ⟨rfl, hbw4, ⟨S4, hk4⟩, _⟩
          have HK4 : Hid (Kept w.heap.size w4 w.heap.size S4) := hk4
          clear hk4
          go_wp2_with fail
          refine (K2.out _ _ _ hbw4 HK4.out).mono ?_
          rintro _ w5 ⟨rfl, hbw5, ⟨S5, hk5⟩, _⟩
          have HK5 : Hid (Kept w.heap.size w5 w.heap.size S5) := hk5
          clear hk5
          go_wp2_with fail
          refine (apart_kept HK5.out hbw5.size).mono ?_
          rintro _ w6 ⟨rfl, hb6⟩
          go_wp2
          go_ret
          exact ⟨rfl, hbw5.trans hb6⟩
        · go_wp2_with fail
          refine (CA.out _ hbw2).mono ?_
          rintro _ w3 ⟨rfl, hb2⟩
          go_wp2
          go_ret
          exact ⟨rfl, bel_trans hbw2 hb2⟩
      · go_wp2_with fail
        refine (CA.out _ hbw2).mono ?_
        rintro _ w3 ⟨rfl, hb2⟩
        go_wp2
        go_ret
        exact ⟨rfl, bel_trans hbw2 hb2⟩
theorem own : ownKnob Tryd.prog.godebug = none := by kernel_rfl
theorem laidOut : laidOutB Tryd.prog = true := by kernel_rfl
theorem door_met (os : Os) (args : Array Value) : laidMetH Tryd.prog Rows.dyadicListsRow.laid ((World.doorLaid Tryd.prog 400 os).forCall (fun _ _ => 0) ⟨#[], args, []⟩).memory :=
  laidMetH_of_parts3 (fuel := 8) (laidMet_of_run' 8 (by kernel_rfl) (by kernel_rfl)) (by kernel_rfl) (by kernel_rfl)
set_option maxRecDepth 100000 in
theorem lifted (os : Os) (started : os.Started) (H : Type) (enc : TypeId × Value → H) :
    ReturnsInHanded {} Tryd.checked os 3 .any (fun w args => (Rows.dyadicListsSpec.pre enc Tryd.prog Tryd.f3 [] false w args ∧ laidMetH Tryd.prog Rows.dyadicListsRow.laid w) ∧ sizedMet enc Tryd.prog Tryd.f3 (OpenSpec.ofChange Rows.dyadicListsSpec) false w args)
      (Rows.dyadicListsSpec.post enc Tryd.prog Tryd.f3 false true false false) := by
  refine returnsInHanded_of_change_and (C := Tryd.checked) (X := fun w _ => laidMetH Tryd.prog Rows.dyadicListsRow.laid w) (fun _ _ _ hh h => h.of_heap hh) own started (by kernel_rfl) Tryd.func3
    (ChangeSpec.witness_shaped (enc := enc) (C := Tryd.checked) (os := os) (X := fun w _ => laidMetH Tryd.prog Rows.dyadicListsRow.laid w) false (World.doorLaid Tryd.prog 400 os) #[.slice none 0 0, .slice none 0 0] 8 rfl (World.shaped_of_RefB (by kernel_rfl) (by kernel_rfl)) (by kernel_rfl) (by kernel_rfl) (by kernel_rfl) (door_met os _)) ?_
  intro W base args ds gs before hval0 hW _ hsz hL _
  have hval : ∀ (j : Nat) t v, Tryd.f3.params[j]? = some t → args[j]? = some v → Value.okWide Tryd.prog W .any base t v := hval0
  have hW' := hW
  obtain ⟨p, q, hA0, hV, rfl, hfz, hnd⟩ := hW
  have hA : DataW.TrodAll enc Tryd.prog W 0 (fun _ => true) true Tryd.f3.params.toList args.toList ds p := hA0
  rw [Tryd.params3] at hA hval
  obtain ⟨v0, vs0, d0, ds0, p0, q0, hargs, rfl, rfl, h0, r0⟩ := trodAll_cons hA
  obtain ⟨v1, vs1, d1, ds1, p1, q1, rfl, rfl, rfl, h1, r1⟩ := trodAll_cons r0
  obtain ⟨rfl, rfl, rfl⟩ := trodAll_nil r1
  obtain rfl : args = #[v0, v1] := by cases args; simp_all
  obtain ⟨rfl, rfl⟩ := trodVars_none hV
  obtain ⟨a0, l0, c0, rfl⟩ := okWide_slice Tryd.underlying22 (hval 0 22 v0 rfl rfl)
  have k0 := h0
  have lt0 : ∀ x ∈ p0, x.block < W.heap.size := by obtain ⟨m, hm⟩ := k0; exact DataW.trod_lt m _ _ _ hm
  obtain ⟨fu0, hf0⟩ := h0
  obtain ⟨z0, w0⟩ := nums_of (by simpa [Value.cells] using hf0) (fun n hn => of_decide_eq_true (List.all_eq_true.1 hsz n (DataW.weights_mem_each (j := 0) (t := 22) (by kernel_rfl) rfl n hn)))
  obtain ⟨a1, l1, c1, rfl⟩ := okWide_slice Tryd.underlying22 (hval 1 22 v1 rfl rfl)
  have k1 := h1
  have lt1 : ∀ x ∈ p1, x.block < W.heap.size := by obtain ⟨m, hm⟩ := k1; exact DataW.trod_lt m _ _ _ hm
  obtain ⟨fu1, hf1⟩ := h1
  obtain ⟨z1, w1⟩ := nums_of (by simpa [Value.cells] using hf1) (fun n hn => of_decide_eq_true (List.all_eq_true.1 hsz n (DataW.weights_mem_each (j := 1) (t := 22) (by kernel_rfl) rfl n hn)))
  clear hA0 hval0
  refine (walk a0 l0 c0 z0 a1 l1 c1 z1 W w0 w1 (hold_of hL)).mono fun e W' ⟨he, bel⟩ => ?_
  subst he
  exact ⟨_, rfl, _, _, _, [], _, [], hW', trodAll_mk1 (shut_bool Tryd.underlying4 _), (trodAll_cons_mk (Below.trod laidOut (by kernel_rfl) (of_decide_eq_true (by kernel_rfl)) k0 bel lt0) (trodAll_cons_mk (Below.trod laidOut (by kernel_rfl) (of_decide_eq_true (by kernel_rfl)) k1 bel lt1) trodAll_mk0)), rfl, bel.frame _, fun h => by cases h⟩
theorem said : Rows.DyadicListsSaid :=
  OpenClaim.holds_of_wide 3 Tryd.f3 rfl rfl rfl rfl rfl rfl rfl ⟨rfl, rfl, rfl, rfl, rfl⟩ rfl rfl rfl rfl rfl (by kernel_rfl) Tryd.func3 (by kernel_rfl)
    (of_decide_eq_true (by kernel_rfl)) (by unfold Func.isWrapper; first | (rw [if_pos (by decide +kernel)]; kernel_rfl) | (rw [if_neg (by decide +kernel)]; exact ⟨rfl, rfl⟩))
    (fun os started H enc _ => lifted os started H enc)
theorem plain (f : FuncId) (fn : Func) (hf : Tryd.pinned.checked.prog.funcNamed Tryd.f3.name = some f) (hfn : Tryd.pinned.checked.prog.funcs[f]? = some fn) :
    true = Tryd.pinned.checked.prog.looks [] ∧ ∀ (j : Nat) t, fn.params[j]? = some t → Tryd.pinned.checked.prog.wantsStandIn t = false := by
  obtain rfl : f = 3 := Option.some.inj ((show Tryd.prog.funcNamed Tryd.f3.name = some 3 by kernel_rfl).symm.trans hf) |>.symm
  obtain rfl : fn = Tryd.f3 := (Option.some.inj (Tryd.func3.symm.trans hfn)).symm
  refine ⟨by kernel_rfl, fun j t ht => ?_⟩
  rw [Tryd.params3] at ht
  obtain rfl : t = 22 := by simpa using Array.mem_of_getElem? ht
  exact (show Tryd.prog.wantsStandIn 22 = false by kernel_rfl)
/-- THE CARD. -/
theorem card : Rows.DyadicListsCardSaid :=
  Claim7.holds_tied_plain_at .later [] _ _ _ _ said (fun _ h => by cases h) (by kernel_rfl) (fun _ h => by cases h) dyadicLists_row_tie rfl ⟨rfl, rfl⟩ (by kernel_rfl) rfl plain (by kernel_rfl)
end Go.Proofs.YtnhkagiionkjaaaDoor.dyadicLists
namespace Go.Proofs.YtnhkagiionkjaaaDoor
/-- DyadicLists: the statement as it is given. -/
theorem dyadicLists_holds : Rows.DyadicListsCardSaid := dyadicLists.card
end Go.Proofs.YtnhkagiionkjaaaDoor
