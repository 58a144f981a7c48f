/-
  Proved: at every two numbers, plumblaw3.DyadicTwos answers true: the calls that take two numbers answer as the document says, what they answer is new memory, and their arguments are left. As a card: the library's tables and the layout start as the program's text lays them; no other conditions.
-/
import Derived.Test.YtkieaijmjpckdaaDoorPart13
import Derived.Test.YtkieaijmjpckdaaDoorPart14
import Derived.Test.YtkieaijmjpckdaaDoorPart15
import Derived.Test.YtkieaijmjpckdaaDoorPart11
import Derived.Test.YtkieaijmjpckdaaDoorCards
import Derived.Test.YtkieaijmjpckdaaDoorTie
namespace Go.Proofs.YtkieaijmjpckdaaDoor.dyadicTwos
open Go Go.ChangeShapes Go.WideShapes Go.ChangeAt Go.RowKit Go.Proofs.YtkieaijmjpckdaaDoor Go.Proofs.YtkieaijmjpckdaaDoor.M
set_option linter.unusedSimpArgs false
set_option linter.unusedVariables false

theorem twos_any {w0 : World} (a b : NumR) (ra : Row w0 a.ao a.n a.cap a.d) (rb : Row w0 b.ao b.n b.cap b.d) (la : Lgt a) (lb : Lgt b) (w : World) (hb0 : Below w0.heap.size w0 w) {k : Nat} {S : Nat → Prop} (hk : Kept w0.heap.size w k S) (hT : Tab w0) :
    Calls Tryd.prog 13 #[.pointer (some ⟨k, 0, none⟩), a.v, b.v] w fun e w' => e = .returned (.bool true) ∧ Below w0.heap.size w0 w' ∧ ∃ S', Kept w0.heap.size w' k S' ∧ Fr w w' := by
  cases oa : okR a
  · exact twos_bad1 a b ra rb la.1 lb.1 w hb0 hk hT oa
  · cases ob : okR b
    · exact twos_bad2 a b ra rb la.1 lb.1 w hb0 hk hT oa ob
    · exact twos_ok a b ra rb la.1 lb.1 w hb0 hk hT oa ob (la.2 oa) (lb.2 ob)
set_option maxRecDepth 100000 in
set_option maxHeartbeats 4000000 in
theorem walk (l m : NumR) (w : World) (hl : Row w l.ao l.n l.cap l.d) (el : rng l.e) (hm : Row w m.ao m.n m.cap m.d) (em : rng m.e) (H : Hold w) :
    Calls Tryd.prog 5 #[l.v, m.v] w fun e w' => e = .returned (.bool true) ∧ Below w.heap.size w w' := by
  have CO : Hid (Lgt l → Lgt m → ∀ W k S, Below w.heap.size w W → Kept w.heap.size W k S → _) := fun h1 h2 W k S hb hk => twos_any l m hl hm h1 h2 W hb hk H.tab
  have CO2 : Hid (Lgt l → Lgt m → ∀ W k S, Below w.heap.size w W → Kept w.heap.size W k S → _) := fun h1 h2 W k S hb hk => twos_any m l hm hl h2 h1 W hb hk H.tab
  have CA : Hid (∀ W, Below w.heap.size w W → _) := fun W hb => dalive_any W (H.lay.keeps hb) (H.tab.keeps hb)
  have CL : Hid (∀ W g, Below w.heap.size w W → W.heap[g]? = some (.cells #[.bool l.ng, .slice l.ao l.n l.cap, .int .i64 l.e, .bool m.ng, .slice m.ao m.n m.cap, .int .i64 m.e] 31 (0, 0)) → Calls Tryd.prog 12 #[.slice (some ⟨g, 0, none⟩) 2 2] W fun x w' => ∃ b, x = .returned (.bool b) ∧ Below W.heap.size W w' ∧ (b = true → Lgt l ∧ Lgt m)) := fun W g hb hg => by
    refine (light_any _ _ _ _ W (nums2 hg (hl.keeps hb) (hm.keeps hb))).mono ?_
    rintro x w' ⟨b, rfl, h1, h2⟩
    exact ⟨b, rfl, h1, fun h => ⟨(h2 h).2 0 (by decide), (h2 h).2 1 (by decide)⟩⟩
  have hle := hl.le
  have hma := hl.max
  have hle' := hm.le
  have hma' := hm.max
  have HN : Hid (Lgt l → Lgt m → l.n ≤ 2100 ∧ m.n ≤ 2100) := fun h1 h2 => ⟨h1.1, h2.1⟩
  unfold NumR.v at *
  generalize Lgt l = Ll at *
  generalize Lgt m = Lm at *
  obtain ⟨a_g, a_o, a_n, a_c, a_d, a_e⟩ := l
  obtain ⟨b_g, b_o, b_n, b_c, b_d, b_e⟩ := m
  simp only at *
  clear hl el hm em
  have hb3 : Below w.heap.size w ((((w.alloc (.cells #[.bool a_g, .slice a_o a_n a_c, .int .i64 a_e] 31)).alloc (.cells #[.bool b_g, .slice b_o b_n b_c, .int .i64 b_e] 31)).alloc (.cells #[.slice none 0 0, .slice none 0 0] 26)).alloc (.cells #[.bool a_g, .slice a_o a_n a_c, .int .i64 a_e, .bool b_g, .slice b_o b_n b_c, .int .i64 b_e] 31)) := bel_a4 _ _ _ _ _
  have a_k := h4_0 w (.cells #[.bool a_g, .slice a_o a_n a_c, .int .i64 a_e] 31) (.cells #[.bool b_g, .slice b_o b_n b_c, .int .i64 b_e] 31) (.cells #[.slice none 0 0, .slice none 0 0] 26) (.cells #[.bool a_g, .slice a_o a_n a_c, .int .i64 a_e, .bool b_g, .slice b_o b_n b_c, .int .i64 b_e] 31)
  have b_k := h4_1 w (.cells #[.bool a_g, .slice a_o a_n a_c, .int .i64 a_e] 31) (.cells #[.bool b_g, .slice b_o b_n b_c, .int .i64 b_e] 31) (.cells #[.slice none 0 0, .slice none 0 0] 26) (.cells #[.bool a_g, .slice a_o a_n a_c, .int .i64 a_e, .bool b_g, .slice b_o b_n b_c, .int .i64 b_e] 31)
  have l_k := h4_3 w (.cells #[.bool a_g, .slice a_o a_n a_c, .int .i64 a_e] 31) (.cells #[.bool b_g, .slice b_o b_n b_c, .int .i64 b_e] 31) (.cells #[.slice none 0 0, .slice none 0 0] 26) (.cells #[.bool a_g, .slice a_o a_n a_c, .int .i64 a_e, .bool b_g, .slice b_o b_n b_c, .int .i64 b_e] 31)
  have HK : Hid (Kept w.heap.size ((((w.alloc (.cells #[.bool a_g, .slice a_o a_n a_c, .int .i64 a_e] 31)).alloc (.cells #[.bool b_g, .slice b_o b_n b_c, .int .i64 b_e] 31)).alloc (.cells #[.slice none 0 0, .slice none 0 0] 26)).alloc (.cells #[.bool a_g, .slice a_o a_n a_c, .int .i64 a_e, .bool b_g, .slice b_o b_n b_c, .int .i64 b_e] 31)) (w.heap.size + 2) (fun _ => False)) := by
    have := kept_new ((w.alloc (.cells #[.bool a_g, .slice a_o a_n a_c, .int .i64 a_e] 31)).alloc (.cells #[.bool b_g, .slice b_o b_n b_c, .int .i64 b_e] 31)) (B := w.heap.size) (bel_alloc2 _ _ _).size
    rw [size2] at this
    exact this.keeps (bel_alloc _ _)
  go_enter Tryd.func5, Tryd.ntmps5
  go_wp2_with fail
  generalize (((w.alloc (.cells #[.bool a_g, .slice a_o a_n a_c, .int .i64 a_e] 31)).alloc (.cells #[.bool b_g, .slice b_o b_n b_c, .int .i64 b_e] 31)).alloc (.cells #[.slice none 0 0, .slice none 0 0] 26)).alloc (.cells #[.bool a_g, .slice a_o a_n a_c, .int .i64 a_e, .bool b_g, .slice b_o b_n b_c, .int .i64 b_e] 31) = wx at hb3 a_k b_k l_k HK ⊢
  refine (CL.out _ _ hb3 l_k).mono ?_
  rintro _ w1 ⟨lb, rfl, hb1, hlb⟩
  have hbw := bel_trans hb3 hb1
  have HK1 : Hid (Kept w.heap.size w1 (w.heap.size + 2) (fun _ => False)) := HK.out.keeps hb1
  replace a_k := (hb1.block _ (Array.getElem?_eq_some_iff.1 a_k).1).trans a_k
  replace b_k := (hb1.block _ (Array.getElem?_eq_some_iff.1 b_k).1).trans b_k
  clear l_k HK CL
  cases lb
  · clear hlb
    go_wp2_with fail
    refine (CA.out _ hbw).mono ?_
    rintro _ w2 ⟨rfl, hb2⟩
    go_wp2
    go_ret
    exact ⟨rfl, bel_trans hbw hb2⟩
  · obtain ⟨hLl, hLm⟩ := hlb rfl
    obtain ⟨hn, hm⟩ := HN.out hLl hLm
    have HC1 : Hid _ := CO.out hLl hLm
    have HC2 : Hid _ := CO2.out hLl hLm
    obtain ⟨pp, hp⟩ : ∃ p : Nat, p = a_n * b_n := ⟨_, rfl⟩
    have ep : (a_n : Int) * (b_n : Int) = (pp : Int) := by rw [hp]; simp
    have hpl : pp ≤ 4410000 := by rw [hp]; exact Nat.mul_le_mul hn hm
    clear hp CO CO2 HN hLl hLm hlb
    have f_a0 := blkC a_k 0 rfl
    have f_a1 := blkC a_k 1 rfl
    have f_a2 := blkC a_k 2 rfl
    have f_b0 := blkC b_k 0 rfl
    have f_b1 := blkC b_k 1 rfl
    have f_b2 := blkC b_k 2 rfl
    by_cases g2 : 100000 < pp
    · go_wp2_with fail
      refine (CA.out _ hbw).mono ?_
      rintro _ w2 ⟨rfl, hb2⟩
      go_wp2
      go_ret
      exact ⟨rfl, bel_trans hbw hb2⟩
    · go_wp2_with fail
      clear f_a0 f_a1 f_a2 f_b0 f_b1 f_b2
      refine (CA.out _ hbw).mono ?_
      rintro _ w2 ⟨rfl, hb2⟩
      have hbw2 := bel_trans hbw hb2
      have HK2 : Hid (Kept w.heap.size w2 (w.heap.size + 2) (fun _ => False)) := HK1.out.keeps hb2
      replace a_k := (hb2.block _ (Array.getElem?_eq_some_iff.1 a_k).1).trans a_k
      replace b_k := (hb2.block _ (Array.getElem?_eq_some_iff.1 b_k).1).trans b_k
      have f_a0 := blkC a_k 0 rfl
      have f_a1 := blkC a_k 1 rfl
      have f_a2 := blkC a_k 2 rfl
      have f_b0 := blkC b_k 0 rfl
      have f_b1 := blkC b_k 1 rfl
      have f_b2 := blkC b_k 2 rfl
      go_wp2_with fail
      clear f_a0 f_a1 f_a2 f_b0 f_b1 f_b2
      refine (HC1.out _ _ _ hbw2 HK2.out).mono ?_
      rintro _ w3 ⟨rfl, hbw3, S3, hk3, fr3⟩
      have HK3 : Hid (Kept w.heap.size w3 (w.heap.size + 2) S3) := hk3
      replace a_k := (fr3 _ _ _ _ (by decide) (by decide) a_k).trans a_k
      replace b_k := (fr3 _ _ _ _ (by decide) (by decide) b_k).trans b_k
      have f_a0 := blkC a_k 0 rfl
      have f_a1 := blkC a_k 1 rfl
      have f_a2 := blkC a_k 2 rfl
      have f_b0 := blkC b_k 0 rfl
      have f_b1 := blkC b_k 1 rfl
      have f_b2 := blkC b_k 2 rfl
      clear fr3 hk3
      go_wp2_with fail
      clear f_a0 f_a1 f_a2 f_b0 f_b1 f_b2
      refine (HC2.out _ _ _ hbw3 HK3.out).mono ?_
      rintro _ w4 ⟨rfl, hbw4, S4, hk4, fr4⟩
      have HK4 : Hid (Kept w.heap.size w4 (w.heap.size + 2) S4) := hk4
      clear fr4 hk4
      go_wp2_with fail
      refine (apart_kept HK4.out hbw4.size).mono ?_
      rintro _ w5 ⟨rfl, hb5⟩
      go_wp2
      go_ret
      exact ⟨rfl, hbw4.trans hb5⟩
theorem own : ownKnob Tryd.prog.godebug = none := by kernel_rfl
theorem laidOut : laidOutB Tryd.prog = true := by kernel_rfl
theorem door_met (os : Os) (args : Array Value) : laidMetH Tryd.prog Rows.dyadicTwosRow.laid ((World.doorLaid Tryd.prog 400 os).forCall (fun _ _ => 0) ⟨#[], args, []⟩).memory :=
  laidMetH_of_parts3 (fuel := 8) (laidMet_of_run' 8 (by kernel_rfl) (by kernel_rfl)) (by kernel_rfl) (by kernel_rfl)
set_option maxRecDepth 100000 in
theorem lifted (os : Os) (started : os.Started) (H : Type) (enc : TypeId × Value → H) :
    ReturnsInHanded {} Tryd.checked os 5 .any (fun w args => (Rows.dyadicTwosSpec.pre enc Tryd.prog Tryd.f5 [] false w args ∧ laidMetH Tryd.prog Rows.dyadicTwosRow.laid w) ∧ sizedMet enc Tryd.prog Tryd.f5 (OpenSpec.ofChange Rows.dyadicTwosSpec) false w args)
      (Rows.dyadicTwosSpec.post enc Tryd.prog Tryd.f5 false true false false) := by
  refine returnsInHanded_of_change_and (C := Tryd.checked) (X := fun w _ => laidMetH Tryd.prog Rows.dyadicTwosRow.laid w) (fun _ _ _ hh h => h.of_heap hh) own started (by kernel_rfl) Tryd.func5
    (ChangeSpec.witness_shaped (enc := enc) (C := Tryd.checked) (os := os) (X := fun w _ => laidMetH Tryd.prog Rows.dyadicTwosRow.laid w) false (World.doorLaid Tryd.prog 400 os) #[.agg #[.bool false, .slice none 0 0, .int .i64 0], .agg #[.bool false, .slice none 0 0, .int .i64 0]] 8 rfl (World.shaped_of_RefB (by kernel_rfl) (by kernel_rfl)) (by kernel_rfl) (by kernel_rfl) (by kernel_rfl) (door_met os _)) ?_
  intro W base args ds gs before hval0 hW _ _ hL _
  have hval : ∀ (j : Nat) t v, Tryd.f5.params[j]? = some t → args[j]? = some v → Value.okWide Tryd.prog W .any base t v := hval0
  have hW' := hW
  obtain ⟨p, q, hA0, hV, rfl, hfz, hnd⟩ := hW
  have hA : DataW.TrodAll enc Tryd.prog W 0 (fun _ => true) true Tryd.f5.params.toList args.toList ds p := hA0
  rw [Tryd.params5] at hA hval
  obtain ⟨v0, vs0, d0, ds0, p0, q0, hargs, rfl, rfl, h0, r0⟩ := trodAll_cons hA
  obtain ⟨v1, vs1, d1, ds1, p1, q1, rfl, rfl, rfl, h1, r1⟩ := trodAll_cons r0
  obtain ⟨rfl, rfl, rfl⟩ := trodAll_nil r1
  obtain rfl : args = #[v0, v1] := by cases args; simp_all
  obtain ⟨rfl, rfl⟩ := trodVars_none hV
  have k0 := h0
  have lt0 : ∀ x ∈ p0, x.block < W.heap.size := by obtain ⟨m, hm⟩ := k0; exact DataW.trod_lt m _ _ _ hm
  obtain ⟨x0, rfl, w0, g0⟩ := num_of (hval 0 31 v0 rfl rfl) h0
  have k1 := h1
  have lt1 : ∀ x ∈ p1, x.block < W.heap.size := by obtain ⟨m, hm⟩ := k1; exact DataW.trod_lt m _ _ _ hm
  obtain ⟨x1, rfl, w1, g1⟩ := num_of (hval 1 31 v1 rfl rfl) h1
  clear hA0 hval0
  refine (walk x0 x1 W w0 g0 w1 g1 (hold_of hL)).mono fun e W' ⟨he, bel⟩ => ?_
  subst he
  exact ⟨_, rfl, _, _, _, [], _, [], hW', trodAll_mk1 (shut_bool Tryd.underlying4 _), (trodAll_cons_mk (Below.trod laidOut (by kernel_rfl) (of_decide_eq_true (by kernel_rfl)) k0 bel lt0) (trodAll_cons_mk (Below.trod laidOut (by kernel_rfl) (of_decide_eq_true (by kernel_rfl)) k1 bel lt1) trodAll_mk0)), rfl, bel.frame _, fun h => by cases h⟩
theorem said : Rows.DyadicTwosSaid :=
  OpenClaim.holds_of_wide 5 Tryd.f5 rfl rfl rfl rfl rfl rfl rfl ⟨rfl, rfl, rfl, rfl, rfl⟩ rfl rfl rfl rfl rfl (by kernel_rfl) Tryd.func5 (by kernel_rfl)
    (of_decide_eq_true (by kernel_rfl)) (by unfold Func.isWrapper; first | (rw [if_pos (by decide +kernel)]; kernel_rfl) | (rw [if_neg (by decide +kernel)]; exact ⟨rfl, rfl⟩))
    (fun os started H enc _ => lifted os started H enc)
theorem plain (f : FuncId) (fn : Func) (hf : Tryd.pinned.checked.prog.funcNamed Tryd.f5.name = some f) (hfn : Tryd.pinned.checked.prog.funcs[f]? = some fn) :
    true = Tryd.pinned.checked.prog.looks [] ∧ ∀ (j : Nat) t, fn.params[j]? = some t → Tryd.pinned.checked.prog.wantsStandIn t = false := by
  obtain rfl : f = 5 := Option.some.inj ((show Tryd.prog.funcNamed Tryd.f5.name = some 5 by kernel_rfl).symm.trans hf) |>.symm
  obtain rfl : fn = Tryd.f5 := (Option.some.inj (Tryd.func5.symm.trans hfn)).symm
  refine ⟨by kernel_rfl, fun j t ht => ?_⟩
  rw [Tryd.params5] at ht
  obtain rfl : t = 31 := by simpa using Array.mem_of_getElem? ht
  exact (show Tryd.prog.wantsStandIn 31 = false by kernel_rfl)
/-- THE CARD. -/
theorem card : Rows.DyadicTwosCardSaid :=
  Claim7.holds_tied_plain_at .later [] _ _ _ _ said (fun _ h => by cases h) (by kernel_rfl) (fun _ h => by cases h) dyadicTwos_row_tie rfl ⟨rfl, rfl⟩ (by kernel_rfl) rfl plain (by kernel_rfl)
end Go.Proofs.YtkieaijmjpckdaaDoor.dyadicTwos
namespace Go.Proofs.YtkieaijmjpckdaaDoor
/-- DyadicTwos: the statement as it is given. -/
theorem dyadicTwos_holds : Rows.DyadicTwosCardSaid := dyadicTwos.card
end Go.Proofs.YtkieaijmjpckdaaDoor
