/-
  Proved: at every sign, list, exponent and pattern, plumblaw3.DyadicMakes answers true: Make, Of, Of32 answer as the document says, what they answer is new memory, and the list is left. As a card: the library's tables and the layouts start as the program's text lays them; no other conditions.
-/
import Derived.Test.YtkieaijmjpckdaaDoorPart12
import Derived.Test.YtkieaijmjpckdaaDoorPart13
import Derived.Test.YtkieaijmjpckdaaDoorPart14
import Derived.Test.YtkieaijmjpckdaaDoorPart15
import Derived.Test.YtkieaijmjpckdaaDoorCards
import Derived.Test.YtkieaijmjpckdaaDoorTie
namespace Go.Proofs.YtkieaijmjpckdaaDoor.dyadicMakes
open Go Go.ChangeShapes Go.WideShapes Go.ChangeAt Go.RowKit Go.Proofs.YtkieaijmjpckdaaDoor Go.Proofs.YtkieaijmjpckdaaDoor.M
set_option linter.unusedSimpArgs false
set_option linter.unusedVariables false

theorem cls_ok (b : Int) : decide (cls b < 3) = pok b := by
  unfold cls pok
  by_cases h : fld b = 2047
  · simp [h]
    by_cases h1 : frc b = 0 <;> simp [h1]
  · simp [h]
    by_cases h1 : fld b = 0
    · simp [h1]
      by_cases h2 : frc b = 0 <;> simp [h2]
    · simp [h1]
theorem cls32_ok (b : Int) : decide (cls32 b < 3) = pok32 b := by
  unfold cls32 pok32 in32
  by_cases h0 : b < 0 ∨ 4294967296 ≤ b
  · rw [if_pos h0]
    have : ¬ (0 ≤ b ∧ b < 4294967296) := by omega
    simp [this]
  · rw [if_neg h0]
    have : (0 ≤ b ∧ b < 4294967296) := by omega
    by_cases h : fld32 b = 255
    · simp [h]
      by_cases h1 : frc32 b = 0 <;> simp [h1]
    · simp [h]
      by_cases h1 : fld32 b = 0
      · simp [h1, this]
        by_cases h2 : frc32 b = 0 <;> simp [h2]
      · simp [h1, this]
theorem refFinite (b : Int) (w : World) (hb : rng b) :
    Calls Tryd.prog 30 #[.int .i64 b] w fun e w' => e = .returned (.bool (pok b)) ∧ w' = w := by
  rw [← cls_ok]
  go_enter Tryd.func30, Tryd.ntmps30
  go_wp2_with fail
  refine (refClass b w hb).mono ?_
  rintro e w' ⟨rfl, rfl⟩
  go_wp2
  go_ret
  exact ⟨rfl, rfl⟩
theorem made_any {w0 : World} (ng : Bool) (a_o : Option Addr) (a_n a_c : Nat) (a_d : Nat → Int) (ex b : Int) (ra : Row w0 a_o a_n a_c a_d) (hn : a_n ≤ 2100) (hb : rng b) (w : World) (hb0 : Below w0.heap.size w0 w) {k : Nat} {S : Nat → Prop} (hk : Kept w0.heap.size w k S) (H : Hold2 w0) :
    Calls Tryd.prog 9 #[.pointer (some ⟨k, 0, none⟩), .bool ng, .slice a_o a_n a_c, .int .i64 ex, .int .i64 b] w fun e w' => e = .returned (.bool true) ∧ Below w0.heap.size w0 w' ∧ ∃ S', Kept w0.heap.size w' k S' ∧ Fr w w' := by
  have CF := fun W => refFinite b W hb
  have CL := fun W => refClass32 b W
  have hcl := cls32_ok b
  have D64 : pok b = true → Dok (sg (pneg b) (pmag b) * pw (pexp b)) := fun h => by
    obtain ⟨i0, i1, i2, i3⟩ := pmag_in h
    exact dok_small i0 (by omega) i2 i3
  have D32 : pok32 b = true → Dok (sg (pneg32 b) (pmag32 b) * pw (pexp32 b)) := fun h => by
    obtain ⟨i0, i1, i2, i3⟩ := pmag32_in h
    exact dok_small i0 (by omega) (by omega) (by omega)
  have CY : pok b = true → ∀ W, Below w0.heap.size w0 W → Calls Tryd.prog 22 #[.int .i64 b] W fun r w' => ∃ v, r = .returned (.tuple #[v, .int .i64 0]) ∧ DAns W w' (sg (pneg b) (pmag b) * pw (pexp b)) v := fun hp W hW => by
    refine (dof_any b W (H.lay.keeps hW) (H.tab.keeps hW)).mono ?_
    rintro r w' ⟨v, er, rfl, _, ⟨_, rfl, h⟩ | ⟨h, _⟩⟩
    · exact ⟨v, rfl, h⟩
    · rw [hp] at h; cases h
  have CN : pok b = false → ∀ W, Below w0.heap.size w0 W → Calls Tryd.prog 22 #[.int .i64 b] W fun r w' => r = .returned (.tuple #[zeroV, .int .i64 10]) ∧ Below W.heap.size W w' := fun hp W hW => by
    refine (dof_any b W (H.lay.keeps hW) (H.tab.keeps hW)).mono ?_
    rintro r w' ⟨v, er, rfl, hbe, ⟨h, _⟩ | ⟨_, rfl, rfl⟩⟩
    · rw [hp] at h; cases h
    · exact ⟨rfl, hbe⟩
  have CY2 : pok32 b = true → ∀ W, Below w0.heap.size w0 W → Calls Tryd.prog 29 #[.int .i64 b] W fun r w' => ∃ v, r = .returned (.tuple #[v, .int .i64 0]) ∧ DAns W w' (sg (pneg32 b) (pmag32 b) * pw (pexp32 b)) v := fun hp W hW => by
    refine (dof32_any b W (H.lay32.keeps hW) (H.tab.keeps hW)).mono ?_
    rintro r w' ⟨v, er, rfl, _, ⟨_, rfl, h⟩ | ⟨h, _⟩⟩
    · exact ⟨v, rfl, h⟩
    · rw [hp] at h; cases h
  have CN2 : pok32 b = false → ∀ W, Below w0.heap.size w0 W → Calls Tryd.prog 29 #[.int .i64 b] W fun r w' => r = .returned (.tuple #[zeroV, .int .i64 10]) ∧ Below W.heap.size W w' := fun hp W hW => by
    refine (dof32_any b W (H.lay32.keeps hW) (H.tab.keeps hW)).mono ?_
    rintro r w' ⟨v, er, rfl, hbe, ⟨h, _⟩ | ⟨_, rfl, rfl⟩⟩
    · rw [hp] at h; cases h
    · exact ⟨rfl, hbe⟩
  have RY : pok b = true → ∀ W, Below w0.heap.size w0 W → Calls Tryd.prog 33 #[.int .i64 b] W fun r w' => ∃ v, r = .returned v ∧ DAns W w' (sg (pneg b) (pmag b) * pw (pexp b)) v := fun hp W _ => rof_any b W hb hp
  have RY2 : pok32 b = true → ∀ W, Below w0.heap.size w0 W → Calls Tryd.prog 34 #[.int .i64 b] W fun r w' => ∃ v, r = .returned v ∧ DAns W w' (sg (pneg32 b) (pmag32 b) * pw (pexp32 b)) v := fun hp W _ => rof32_any b W hb hp
  generalize sg (pneg b) (pmag b) * pw (pexp b) = V64 at *
  generalize sg (pneg32 b) (pmag32 b) * pw (pexp32 b) = V32 at *
  generalize cls32 b = cl at *
  have fin : ∀ {MV er : Int}, ((∀ W cb cc, Below w0.heap.size w0 W → Row W (some ⟨cb, 0, none⟩) a_n cc a_d → Calls Tryd.prog 15 #[.bool ng, .slice (some ⟨cb, 0, none⟩) a_n cc, .int .i64 ex] W fun r w' => r = .returned (.tuple #[zeroV, .int .i64 er]) ∧ Below W.heap.size W w') ∧ (∀ W, Below w0.heap.size w0 W → Calls Tryd.prog 26 #[.bool ng, .slice a_o a_n a_c, .int .i64 ex] W fun r w' => r = .returned (.tuple #[zeroV, .int .i64 er]) ∧ Below W.heap.size W w')) ∨
      ((∀ W cb cc, Below w0.heap.size w0 W → Row W (some ⟨cb, 0, none⟩) a_n cc a_d → Calls Tryd.prog 15 #[.bool ng, .slice (some ⟨cb, 0, none⟩) a_n cc, .int .i64 ex] W fun r w' => ∃ v, r = .returned (.tuple #[v, .int .i64 0]) ∧ DAns W w' MV v) ∧ (∀ W, Below w0.heap.size w0 W → Calls Tryd.prog 26 #[.bool ng, .slice a_o a_n a_c, .int .i64 ex] W fun r w' => ∃ v, r = .returned (.tuple #[v, .int .i64 0]) ∧ DAns W w' MV v) ∧ Dok MV) →
      Calls Tryd.prog 9 #[.pointer (some ⟨k, 0, none⟩), .bool ng, .slice a_o a_n a_c, .int .i64 ex, .int .i64 b] w fun e w' => e = .returned (.bool true) ∧ Below w0.heap.size w0 w' ∧ ∃ S', Kept w0.heap.size w' k S' ∧ Fr w w' := fun {MV er} h => by
    rcases h with ⟨h1, h2⟩ | ⟨h1, h2, h3⟩
    · cases p1 : pok b <;> cases p2 : pok32 b <;> rw [p1] at CF <;> rw [p2] at hcl
      · exact made_z00 ng a_o a_n a_c a_d ex b (MV := MV) (V64 := V64) (V32 := V32) ra hn w hb0 hk h1 h2 CF CL hcl (CN p1) (CN2 p2)
      · exact made_z01 ng a_o a_n a_c a_d ex b (MV := MV) (V64 := V64) ra hn w hb0 hk h1 h2 CF CL hcl (CN p1) (CY2 p2) (RY2 p2) (D32 p2)
      · exact made_z10 ng a_o a_n a_c a_d ex b (MV := MV) (V32 := V32) ra hn w hb0 hk h1 h2 CF CL hcl (CY p1) (RY p1) (D64 p1) (CN2 p2)
      · exact made_z11 ng a_o a_n a_c a_d ex b (MV := MV) ra hn w hb0 hk h1 h2 CF CL hcl (CY p1) (RY p1) (D64 p1) (CY2 p2) (RY2 p2) (D32 p2)
    · cases p1 : pok b <;> cases p2 : pok32 b <;> rw [p1] at CF <;> rw [p2] at hcl
      · exact made_g00 ng a_o a_n a_c a_d ex b (er := er) (V64 := V64) (V32 := V32) ra hn w hb0 hk h1 h2 h3 CF CL hcl (CN p1) (CN2 p2)
      · exact made_g01 ng a_o a_n a_c a_d ex b (er := er) (V64 := V64) ra hn w hb0 hk h1 h2 h3 CF CL hcl (CN p1) (CY2 p2) (RY2 p2) (D32 p2)
      · exact made_g10 ng a_o a_n a_c a_d ex b (er := er) (V32 := V32) ra hn w hb0 hk h1 h2 h3 CF CL hcl (CY p1) (RY p1) (D64 p1) (CN2 p2)
      · exact made_g11 ng a_o a_n a_c a_d ex b (er := er) ra hn w hb0 hk h1 h2 h3 CF CL hcl (CY p1) (RY p1) (D64 p1) (CY2 p2) (RY2 p2) (D32 p2)
  cases ok : okB a_d a_n
  · exact fin (MV := 0) (er := 11) (.inl ⟨fun W cb cc hW hR => dmake_bad ng _ _ _ a_d ex W hR ok, fun W hW => rmake3_bad ng _ _ _ a_d ex W (ra.keeps hW) ok⟩)
  · by_cases hD : Dok (mkV ng (val a_d a_n) ex)
    · refine fin (MV := mkV ng (val a_d a_n) ex) (er := 0) (.inr ⟨fun W cb cc hW hR => ?_, fun W hW => ?_, hD⟩)
      · refine (dmake_all ng _ _ _ a_d ex W hR ok (H.tab.keeps hW)).mono ?_
        rintro r w' ⟨v, er, rfl, hF⟩
        obtain ⟨rfl, h⟩ := hF.yes hD
        exact ⟨v, rfl, h⟩
      · refine (rmake3_any ng _ _ _ a_d ex W (ra.keeps hW) ok).mono ?_
        rintro r w' ⟨v, er, rfl, hF⟩
        obtain ⟨rfl, h⟩ := DFit.yes hF hD
        exact ⟨v, rfl, h⟩
    · refine fin (MV := 0) (er := 2) (.inl ⟨fun W cb cc hW hR => ?_, fun W hW => ?_⟩)
      · refine (dmake_all ng _ _ _ a_d ex W hR ok (H.tab.keeps hW)).mono ?_
        rintro r w' ⟨v, er, rfl, hF⟩
        rcases hF.2 with ⟨h, _⟩ | ⟨_, rfl, rfl⟩
        · exact absurd h hD
        · exact ⟨rfl, hF.1⟩
      · refine (rmake3_any ng _ _ _ a_d ex W (ra.keeps hW) ok).mono ?_
        rintro r w' ⟨v, er, rfl, hF⟩
        rcases hF.2 with ⟨h, _⟩ | ⟨_, rfl, rfl⟩
        · exact absurd h hD
        · exact ⟨rfl, hF.1⟩
set_option maxRecDepth 100000 in
set_option maxHeartbeats 4000000 in
theorem walk (ng : Bool) (a_o : Option Addr) (a_n a_c : Nat) (a_d : Nat → Int) (ex b : Int) (w : World) (ra : Row w a_o a_n a_c a_d) (_ : ∀ i, i < a_n → rng (a_d i)) (hex : rng ex) (hb : rng b) (H : Hold2 w) :
    Calls Tryd.prog 3 #[.bool ng, .slice a_o a_n a_c, .int .i64 ex, .int .i64 b] w fun e w' => e = .returned (.bool true) ∧ Below w.heap.size w w' := by
  have CO : Hid (a_n ≤ 2100 → ∀ W k S, Below w.heap.size w W → Kept w.heap.size W k S → _) := fun hn W k S hW hk => made_any ng a_o a_n a_c a_d ex b ra hn hb W hW hk H
  have CA : Hid (∀ W, Below w.heap.size w W → _) := fun W hb => dalive_any W (H.lay.keeps hb) (H.tab.keeps hb)
  have hle := ra.le
  have hma := ra.max
  clear ra
  have hb2 := bel_alloc w (.cells #[.slice none 0 0, .slice none 0 0] 26)
  have HK : Hid (Kept w.heap.size (w.alloc (.cells #[.slice none 0 0, .slice none 0 0] 26)) w.heap.size (fun _ => False)) := kept_new w (Nat.le_refl _)
  go_enter Tryd.func3, Tryd.ntmps3
  go_wp2_with fail
  generalize w.alloc (.cells #[.slice none 0 0, .slice none 0 0] 26) = wx at hb2 HK ⊢
  refine (CA.out _ hb2).mono ?_
  rintro _ w1 ⟨rfl, hb1⟩
  have hbw := bel_trans hb2 hb1
  have HK1 : Hid (Kept w.heap.size w1 w.heap.size (fun _ => False)) := HK.out.keeps hb1
  by_cases h21 : 2100 < a_n
  · go_wp2_with fail
    refine (apart_kept HK1.out hbw.size).mono ?_
    rintro _ w2 ⟨rfl, hb3⟩
    go_wp2
    go_ret
    exact ⟨rfl, hbw.trans hb3⟩
  · go_wp2_with fail
    refine (CO.out (by omega) _ _ _ hbw HK1.out).mono ?_
    rintro _ w2 ⟨rfl, hb3, S', hk3, _⟩
    have HK3 : Hid (Kept w.heap.size w2 w.heap.size S') := hk3
    clear hk3
    go_wp2_with fail
    refine (apart_kept HK3.out hb3.size).mono ?_
    rintro _ w4 ⟨rfl, hb4⟩
    go_wp2
    go_ret
    exact ⟨rfl, hb3.trans hb4⟩
theorem own : ownKnob Tryd.prog.godebug = none := by kernel_rfl
theorem laidOut : laidOutB Tryd.prog = true := by kernel_rfl
theorem door_met (os : Os) (args : Array Value) : laidMetH Tryd.prog Rows.dyadicMakesRow.laid ((World.doorLaid Tryd.prog 400 os).forCall (fun _ _ => 0) ⟨#[], args, []⟩).memory :=
  laidMetH_of_parts3 (fuel := 8) (laidMet_of_run' 8 (by kernel_rfl) (by kernel_rfl)) (by kernel_rfl) (by kernel_rfl)
set_option maxRecDepth 100000 in
theorem lifted (os : Os) (started : os.Started) (H : Type) (enc : TypeId × Value → H) :
    ReturnsInHanded {} Tryd.checked os 3 .any (fun w args => (Rows.dyadicMakesSpec.pre enc Tryd.prog Tryd.f3 [] false w args ∧ laidMetH Tryd.prog Rows.dyadicMakesRow.laid w) ∧ sizedMet enc Tryd.prog Tryd.f3 (OpenSpec.ofChange Rows.dyadicMakesSpec) false w args)
      (Rows.dyadicMakesSpec.post enc Tryd.prog Tryd.f3 false true false false) := by
  refine returnsInHanded_of_change_and (C := Tryd.checked) (X := fun w _ => laidMetH Tryd.prog Rows.dyadicMakesRow.laid w) (fun _ _ _ hh h => h.of_heap hh) own started (by kernel_rfl) Tryd.func3
    (ChangeSpec.witness_shaped (enc := enc) (C := Tryd.checked) (os := os) (X := fun w _ => laidMetH Tryd.prog Rows.dyadicMakesRow.laid w) false (World.doorLaid Tryd.prog 400 os) #[.bool false, .slice none 0 0, .int .i64 0, .int .i64 0] 8 rfl (World.shaped_of_RefB (by kernel_rfl) (by kernel_rfl)) (by kernel_rfl) (by kernel_rfl) (by kernel_rfl) (door_met os _)) ?_
  intro W base args ds gs before hval0 hW _ _ hL _
  have hval : ∀ (j : Nat) t v, Tryd.f3.params[j]? = some t → args[j]? = some v → Value.okWide Tryd.prog W .any base t v := hval0
  have hW' := hW
  obtain ⟨p, q, hA0, hV, rfl, hfz, hnd⟩ := hW
  have hA : DataW.TrodAll enc Tryd.prog W 0 (fun _ => true) true Tryd.f3.params.toList args.toList ds p := hA0
  rw [Tryd.params3] at hA hval
  obtain ⟨v0, vs0, d0, ds0, p0, q0, hargs, rfl, rfl, h0, r0⟩ := trodAll_cons hA
  obtain ⟨v1, vs1, d1, ds1, p1, q1, rfl, rfl, rfl, h1, r1⟩ := trodAll_cons r0
  obtain ⟨v2, vs2, d2, ds2, p2, q2, rfl, rfl, rfl, h2, r2⟩ := trodAll_cons r1
  obtain ⟨v3, vs3, d3, ds3, p3, q3, rfl, rfl, rfl, h3, r3⟩ := trodAll_cons r2
  obtain ⟨rfl, rfl, rfl⟩ := trodAll_nil r3
  obtain rfl : args = #[v0, v1, v2, v3] := by cases args; simp_all
  obtain ⟨rfl, rfl⟩ := trodVars_none hV
  obtain ⟨a0, rfl, rfl, rfl⟩ := open_bool Tryd.underlying4 (hval 0 4 v0 rfl rfl) h0
  obtain ⟨a1, l1, c1, rfl⟩ := okWide_slice Tryd.underlying22 (hval 1 22 v1 rfl rfl)
  have k1 := h1
  have lt1 : ∀ x ∈ p1, x.block < W.heap.size := by obtain ⟨m, hm⟩ := k1; exact DataW.trod_lt m _ _ _ hm
  obtain ⟨z1, w1, g1⟩ := row_of h1
  obtain ⟨a2, rfl, rfl, rfl, w2⟩ := open_int Tryd.underlying3 (hval 2 3 v2 rfl rfl) h2
  obtain ⟨a3, rfl, rfl, rfl, w3⟩ := open_int Tryd.underlying3 (hval 3 3 v3 rfl rfl) h3
  clear hA0 hval0
  refine (walk a0 a1 l1 c1 z1 a2 a3 W w1 g1 (rng_of w2) (rng_of w3) (hold2_of hL)).mono fun e W' ⟨he, bel⟩ => ?_
  subst he
  exact ⟨_, rfl, _, _, _, [], _, [], hW', trodAll_mk1 (shut_bool Tryd.underlying4 _), (trodAll_cons_mk (shut_bool Tryd.underlying4 _) (trodAll_cons_mk (Below.trod laidOut (by kernel_rfl) (of_decide_eq_true (by kernel_rfl)) k1 bel lt1) (trodAll_cons_mk (shut_int Tryd.underlying3 w2) (trodAll_cons_mk (shut_int Tryd.underlying3 w3) trodAll_mk0)))), rfl, bel.frame _, fun h => by cases h⟩
theorem said : Rows.DyadicMakesSaid :=
  OpenClaim.holds_of_wide 3 Tryd.f3 rfl rfl rfl rfl rfl rfl rfl ⟨rfl, rfl, rfl, rfl, rfl⟩ rfl rfl rfl rfl rfl (by kernel_rfl) Tryd.func3 (by kernel_rfl)
    (of_decide_eq_true (by kernel_rfl)) (by unfold Func.isWrapper; first | (rw [if_pos (by decide +kernel)]; kernel_rfl) | (rw [if_neg (by decide +kernel)]; exact ⟨rfl, rfl⟩))
    (fun os started H enc _ => lifted os started H enc)
theorem plain (f : FuncId) (fn : Func) (hf : Tryd.pinned.checked.prog.funcNamed Tryd.f3.name = some f) (hfn : Tryd.pinned.checked.prog.funcs[f]? = some fn) :
    true = Tryd.pinned.checked.prog.looks [] ∧ ∀ (j : Nat) t, fn.params[j]? = some t → Tryd.pinned.checked.prog.wantsStandIn t = false := by
  obtain rfl : f = 3 := Option.some.inj ((show Tryd.prog.funcNamed Tryd.f3.name = some 3 by kernel_rfl).symm.trans hf) |>.symm
  obtain rfl : fn = Tryd.f3 := (Option.some.inj (Tryd.func3.symm.trans hfn)).symm
  refine ⟨by kernel_rfl, fun j t ht => ?_⟩
  rw [Tryd.params3] at ht
  have ht2 : t = 4 ∨ t = 22 ∨ t = 3 := by simpa using Array.mem_of_getElem? ht
  rcases ht2 with rfl | rfl | rfl
  · exact (show Tryd.prog.wantsStandIn 4 = false by kernel_rfl)
  · exact (show Tryd.prog.wantsStandIn 22 = false by kernel_rfl)
  · exact (show Tryd.prog.wantsStandIn 3 = false by kernel_rfl)
/-- THE CARD. -/
theorem card : Rows.DyadicMakesCardSaid :=
  Claim7.holds_tied_plain_at .later [] _ _ _ _ said (fun _ h => by cases h) (by kernel_rfl) (fun _ h => by cases h) dyadicMakes_row_tie rfl ⟨rfl, rfl⟩ (by kernel_rfl) rfl plain (by kernel_rfl)
end Go.Proofs.YtkieaijmjpckdaaDoor.dyadicMakes
namespace Go.Proofs.YtkieaijmjpckdaaDoor
/-- DyadicMakes: the statement as it is given. -/
theorem dyadicMakes_holds : Rows.DyadicMakesCardSaid := dyadicMakes.card
end Go.Proofs.YtkieaijmjpckdaaDoor
