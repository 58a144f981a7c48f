/-
  MeasureRight: for every three patterns the law returns true: of (x, 0), (0, 0), (0, y) the angle is right; of (x, 0), (0, 0), (z, y) it has z's sign (x above 0). As a card: the library's tables and the layout of package bits start as the program's text lays them.
-/
import Derived.Test.YtcpjdgfnblkfpaaGreatDoorPart27
import Derived.Test.YtcpjdgfnblkfpaaGreatDoorPart12
import Derived.Test.YtcpjdgfnblkfpaaGreatDoorCards
import Derived.Test.YtcpjdgfnblkfpaaGreatDoorTie
namespace Go.Proofs.YtcpjdgfnblkfpaaGreatDoor.measureRight
open Go Go.ChangeShapes Go.WideShapes Go.ChangeAt Go.RowKit Go.Proofs.YtcpjdgfnblkfpaaGreatDoor Go.Proofs.YtcpjdgfnblkfpaaGreatDoor.M
set_option linter.unusedSimpArgs false
set_option linter.unusedVariables false

theorem r0 : rng 0 := by unfold rng; decide
theorem i0 : iV 0 = 0 := iV_nought r0 (by decide)
theorem x_pos {x : Int} (hx : rng x) (h : 0 < x) : 0 < iV x := by
  have k : key x = x := by unfold key; rw [if_neg (by omega)]
  exact (iV_key hx).2.2 (by rw [k]; exact h)
theorem dot_right (x y : Int) : ord (dotX x 0 0 0 0 y) 0 = 0 := by
  unfold dotX
  rw [i0, Int.sub_self, Int.mul_zero, Int.zero_mul, Int.add_zero]
  decide
theorem dot_z {x y z : Int} (hx : rng x) (hz : rng z) (h : 0 < x) : ord (dotX x 0 0 0 z y) 0 = pcmp z 0 0 0 := by
  unfold dotX
  rw [i0, Int.sub_self, Int.zero_mul, Int.add_zero, Int.sub_zero, Int.sub_zero, Int.mul_comm, ord_mulP (x_pos hx h), ← sgP_iV hz]
  have k0 : key 0 = 0 := by decide
  unfold sgP pcmp ord cmp
  rw [k0]
  rcases Int.lt_trichotomy (key z) 0 with g | g | g
  · have g1 : ¬ key z = 0 := by omega
    simp [g, g1]
  · simp [g]
  · have g1 : ¬ key z = 0 := by omega
    have g2 : ¬ key z < 0 := by omega
    simp [g, g1, g2]
set_option maxRecDepth 100000 in
set_option maxHeartbeats 2000000 in
theorem walk (x y z : Int) (w : World) (rx : rng x) (ry : rng y) (rz : rng z) (H : Hold4 w) :
    Calls Tryz.prog 3 #[.int .i64 x, .int .i64 y, .int .i64 z] w fun e w' => e = .returned (.bool true) ∧ Below w.heap.size w w' := by
  have CG : Hid (∀ W g, W.heap[g]? = some (.cells #[.int .i64 x, .int .i64 y, .int .i64 z, .int .i64 0] 25) → Calls Tryz.prog 5 #[.slice (some ⟨g, 0, none⟩) 2 2] W fun x' w' => x' = .returned (.bool (ptok x y && ptok z 0)) ∧ Below W.heap.size W w') := fun W g h => by
    have := lgood_any _ _ _ _ _ W (pts2 W h) (rng2 rx rz) (rng2 ry r0)
    rw [allB2 ptok] at this
    exact this
  by_cases hok : (ptok x y && ptok z 0) = true
  · by_cases hx : 0 < x
    · obtain ⟨⟨p1, p2'⟩, p3, p4⟩ : (pok x = true ∧ pok y = true) ∧ pok z = true ∧ pok 0 = true := by unfold ptok at hok; simpa using hok
      have CA : Hid (∀ W, Hold4 W → Calls Tryz.prog 6 #[.agg #[.int .i64 x, .int .i64 0], .agg #[.int .i64 0, .int .i64 0], .agg #[.int .i64 0, .int .i64 y]] W fun r w' => r = .returned (.tuple #[.agg #[.int .i64 0, .int .i64 (anSt x 0 0 0 0 y)], .int .i64 0]) ∧ Below W.heap.size W w') := fun W h => by
        have := mAngle_ok rx r0 r0 r0 r0 ry p1 p4 p4 p4 p4 p2' W h
        rw [dot_right] at this
        exact this
      have CB : Hid (∀ W, Hold4 W → Calls Tryz.prog 6 #[.agg #[.int .i64 x, .int .i64 0], .agg #[.int .i64 0, .int .i64 0], .agg #[.int .i64 z, .int .i64 y]] W fun r w' => r = .returned (.tuple #[.agg #[.int .i64 (pcmp z 0 0 0), .int .i64 (anSt x 0 0 0 z y)], .int .i64 0]) ∧ Below W.heap.size W w') := fun W h => by
        have := mAngle_ok rx r0 r0 r0 rz ry p1 p4 p4 p4 p3 p2' W h
        rw [dot_z rx rz hx] at this
        exact this
      have CC : Hid (∀ W, Calls Tryz.prog 7 #[.agg #[.int .i64 z, .int .i64 0], .agg #[.int .i64 0, .int .i64 0]] W fun e w' => e = .returned (.int .i64 (pcmp z 0 0 0)) ∧ Below W.heap.size W w') := fun W => q_refCmp rz r0 r0 r0 W
      rw [hok] at CG
      have hxx : decide (x ≤ 0) = false := decide_eq_false (by omega)
      clear rx ry rz hok p1 p2' p3 p4 hx
      generalize pcmp z 0 0 0 = s at *
      generalize anSt x 0 0 0 0 y = t1 at *
      generalize anSt x 0 0 0 z y = t2 at *
      go_enter Tryz.func3, Tryz.ntmps3
      go_wp2_with fail
      refine (alive13 _ H).mono ?_
      rintro _ y1 ⟨rfl, hw1⟩
      have H := H.keeps hw1
      go_wp2_with fail
      refine (CG.out _ _ (heap_a1 _ _)).mono ?_
      rintro _ y2 ⟨rfl, hw2⟩
      have hb2 := bel_trans hw1 (bel_trans (bel_alloc _ _) hw2)
      have H := H.keeps (bel_trans (bel_alloc _ _) hw2)
      clear hw1 hw2
      go_wp2_with fail
      refine (CA.out _ H).mono ?_
      rintro _ y3 ⟨rfl, hw3⟩
      have v_k := heap_a1 y3 (.cells #[.int .i64 0, .int .i64 t1] 28)
      have hb3 := bel_trans (bel_trans hb2 hw3) (bel_alloc y3 (.cells #[.int .i64 0, .int .i64 t1] 28))
      have H := (H.keeps hw3).keeps (bel_alloc y3 (.cells #[.int .i64 0, .int .i64 t1] 28))
      go_wp2_with fail
      generalize y3.alloc (.cells #[.int .i64 0, .int .i64 t1] 28) = x3 at v_k hb3 H ⊢
      refine (CB.out _ H).mono ?_
      rintro _ y4 ⟨rfl, hw4⟩
      have v_k := heap_past (.cells #[.int .i64 s, .int .i64 t2] 28) (blk_on hw4 v_k)
      have u_k := heap_a1 y4 (.cells #[.int .i64 s, .int .i64 t2] 28)
      have hb4 := bel_trans (bel_trans hb3 hw4) (bel_alloc y4 (.cells #[.int .i64 s, .int .i64 t2] 28))
      go_wp2_with fail
      generalize y4.alloc (.cells #[.int .i64 s, .int .i64 t2] 28) = x4 at v_k u_k hb4 ⊢
      refine (CC.out _).mono ?_
      rintro _ y5 ⟨rfl, hw5⟩
      have v_k := blkC (blk_on hw5 v_k) 0 rfl
      have u_k := blkC (blk_on hw5 u_k) 0 rfl
      have hb5 := bel_trans hb4 hw5
      go_wp2_with (go_at_call 8; refine (mnum _ _).mono ?_; rintro _ wz ⟨rfl, hwz⟩; replace hwz := hwz.symm; subst hwz)
      all_goals go_ret
      all_goals exact ⟨ret_bool (by simp), hb5⟩
    · have hxx : decide (x ≤ 0) = true := decide_eq_true (by omega)
      rw [hok] at CG
      clear rx ry rz hok hx
      go_enter Tryz.func3, Tryz.ntmps3
      go_wp2_with fail
      refine (alive13 _ H).mono ?_
      rintro _ y1 ⟨rfl, hw1⟩
      go_wp2_with fail
      refine (CG.out _ _ (heap_a1 _ _)).mono ?_
      rintro _ y2 ⟨rfl, hw2⟩
      have hb2 := bel_trans hw1 (bel_trans (bel_alloc _ _) hw2)
      go_wp2
      all_goals go_ret
      all_goals exact ⟨rfl, hb2⟩
  · have hok' : (ptok x y && ptok z 0) = false := by simpa using hok
    rw [hok'] at CG
    clear rx ry rz hok hok'
    go_enter Tryz.func3, Tryz.ntmps3
    go_wp2_with fail
    refine (alive13 _ H).mono ?_
    rintro _ y1 ⟨rfl, hw1⟩
    go_wp2_with fail
    refine (CG.out _ _ (heap_a1 _ _)).mono ?_
    rintro _ y2 ⟨rfl, hw2⟩
    have hb2 := bel_trans hw1 (bel_trans (bel_alloc _ _) hw2)
    go_wp2
    all_goals go_ret
    all_goals exact ⟨rfl, hb2⟩
theorem own : ownKnob Tryz.prog.godebug = none := by kernel_rfl
theorem laidOut : laidOutB Tryz.prog = true := by kernel_rfl
theorem door_met (os : Os) (args : Array Value) : laidMetH Tryz.prog Rows.measureRightRow.laid ((World.doorLaid Tryz.prog 400 os).forCall (fun _ _ => 0) ⟨#[], args, []⟩).memory :=
  laidMetH_of_parts3 (fuel := 8) (laidMet_of_run' 8 (by kernel_rfl) (by kernel_rfl)) (by kernel_rfl) (by kernel_rfl)
set_option maxRecDepth 100000 in
theorem lifted (os : Os) (started : os.Started) (H : Type) (enc : TypeId × Value → H) :
    ReturnsInHanded {} Tryz.checked os 3 .any (fun w args => (Rows.measureRightSpec.pre enc Tryz.prog Tryz.f3 [] false w args ∧ laidMetH Tryz.prog Rows.measureRightRow.laid w) ∧ sizedMet enc Tryz.prog Tryz.f3 (OpenSpec.ofChange Rows.measureRightSpec) false w args)
      (Rows.measureRightSpec.post enc Tryz.prog Tryz.f3 false true false false) := by
  refine returnsInHanded_of_change_and (C := Tryz.checked) (X := fun w _ => laidMetH Tryz.prog Rows.measureRightRow.laid w) (fun _ _ _ hh h => h.of_heap hh) own started (by kernel_rfl) Tryz.func3
    (ChangeSpec.witness_shaped (enc := enc) (C := Tryz.checked) (os := os) (X := fun w _ => laidMetH Tryz.prog Rows.measureRightRow.laid w) false (World.doorLaid Tryz.prog 400 os) #[.int .i64 0, .int .i64 0, .int .i64 0] 8 rfl (World.shaped_of_RefB (by kernel_rfl) (by kernel_rfl)) (by kernel_rfl) (by kernel_rfl) (by kernel_rfl) (door_met os _)) ?_
  intro W base args ds gs before hval0 hW _ _ hL _
  have hval : ∀ (j : Nat) t v, Tryz.f3.params[j]? = some t → args[j]? = some v → Value.okWide Tryz.prog W .any base t v := hval0
  have hW' := hW
  obtain ⟨p, q, hA0, hV, rfl, hfz, hnd⟩ := hW
  have hA : DataW.TrodAll enc Tryz.prog W 0 (fun _ => true) true Tryz.f3.params.toList args.toList ds p := hA0
  rw [Tryz.params3] at hA hval
  obtain ⟨v0, vs0, d0, ds0, p0, q0, hargs, rfl, rfl, h0, r0⟩ := trodAll_cons hA
  obtain ⟨v1, vs1, d1, ds1, p1, q1, rfl, rfl, rfl, h1, r1⟩ := trodAll_cons r0
  obtain ⟨v2, vs2, d2, ds2, p2, q2, rfl, rfl, rfl, h2, r2⟩ := trodAll_cons r1
  obtain ⟨rfl, rfl, rfl⟩ := trodAll_nil r2
  obtain rfl : args = #[v0, v1, v2] := by cases args; simp_all
  obtain ⟨rfl, rfl⟩ := trodVars_none hV
  obtain ⟨a0, rfl, rfl, rfl, w0⟩ := open_int Tryz.underlying3 (hval 0 3 v0 rfl rfl) h0
  obtain ⟨a1, rfl, rfl, rfl, w1⟩ := open_int Tryz.underlying3 (hval 1 3 v1 rfl rfl) h1
  obtain ⟨a2, rfl, rfl, rfl, w2⟩ := open_int Tryz.underlying3 (hval 2 3 v2 rfl rfl) h2
  clear hA0 hval0
  refine (walk a0 a1 a2 W (rng_of w0) (rng_of w1) (rng_of w2) (hold6_of hL)).mono fun e W' ⟨he, bel⟩ => ?_
  subst he
  exact ⟨_, rfl, _, _, _, [], _, [], hW', trodAll_mk1 (shut_bool Tryz.underlying4 _), (trodAll_cons_mk (shut_int Tryz.underlying3 w0) (trodAll_cons_mk (shut_int Tryz.underlying3 w1) (trodAll_cons_mk (shut_int Tryz.underlying3 w2) trodAll_mk0))), rfl, bel.frame _, fun h => by cases h⟩
theorem said : Rows.MeasureRightSaid :=
  OpenClaim.holds_of_wide 3 Tryz.f3 rfl rfl rfl rfl rfl rfl rfl ⟨rfl, rfl, rfl, rfl, rfl⟩ rfl rfl rfl rfl rfl (by kernel_rfl) Tryz.func3 (by kernel_rfl)
    (of_decide_eq_true (by kernel_rfl)) (by unfold Func.isWrapper; first | (rw [if_pos (by decide +kernel)]; kernel_rfl) | (rw [if_neg (by decide +kernel)]; exact ⟨rfl, rfl⟩))
    (fun os started H enc _ => lifted os started H enc)
theorem plain (f : FuncId) (fn : Func) (hf : Tryz.pinned.checked.prog.funcNamed Tryz.f3.name = some f) (hfn : Tryz.pinned.checked.prog.funcs[f]? = some fn) :
    true = Tryz.pinned.checked.prog.looks [] ∧ ∀ (j : Nat) t, fn.params[j]? = some t → Tryz.pinned.checked.prog.wantsStandIn t = false := by
  obtain rfl : f = 3 := Option.some.inj ((show Tryz.prog.funcNamed Tryz.f3.name = some 3 by kernel_rfl).symm.trans hf) |>.symm
  obtain rfl : fn = Tryz.f3 := (Option.some.inj (Tryz.func3.symm.trans hfn)).symm
  refine ⟨by kernel_rfl, fun j t ht => ?_⟩
  rw [Tryz.params3] at ht
  obtain rfl : t = 3 := by simpa using Array.mem_of_getElem? ht
  exact (show Tryz.prog.wantsStandIn 3 = false by kernel_rfl)
/-- THE CARD. -/
theorem card : Rows.MeasureRightCardSaid :=
  Claim7.holds_tied_plain_at .later [] _ _ _ _ said (fun _ h => by cases h) (by kernel_rfl) (fun _ h => by cases h) measureRight_row_tie rfl ⟨rfl, rfl⟩ (by kernel_rfl) rfl plain (by kernel_rfl)
end Go.Proofs.YtcpjdgfnblkfpaaGreatDoor.measureRight
namespace Go.Proofs.YtcpjdgfnblkfpaaGreatDoor
/-- MeasureRight: the statement as it is given. -/
theorem measureRight_holds : Rows.MeasureRightCardSaid := measureRight.card
end Go.Proofs.YtcpjdgfnblkfpaaGreatDoor
