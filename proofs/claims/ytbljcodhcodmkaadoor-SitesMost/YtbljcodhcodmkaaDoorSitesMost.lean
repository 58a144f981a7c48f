/-
  SitesMost: for every int the law returns true: so many points, one beside the other (up to 65,540), put into a set: up to MaxSites numbers are given, no more; then ErrMany, but for a place that is taken, also when one was dropped; From and From32 likewise. As a card: the layouts of package bits start as the program's text lays them.
-/
import Derived.Test.YtbljcodhcodmkaaDoorTRw
import Derived.Test.YtbljcodhcodmkaaDoorLaid
import Derived.Test.YtbljcodhcodmkaaDoorNShut
import Derived.Test.YtbljcodhcodmkaaDoorCards
import Derived.Test.YtbljcodhcodmkaaDoorTie
namespace Go.Proofs.YtbljcodhcodmkaaDoor.sitesMost
open Go Go.ChangeShapes Go.WideShapes Go.ChangeAt Go.RowKit Go.Proofs.YtbljcodhcodmkaaDoor Go.Proofs.YtbljcodhcodmkaaDoor.M
set_option linter.unusedSimpArgs false
set_option linter.unusedVariables false

theorem fdel_none (f : Int → Int → Option Int) (x y : Int) : fdel f x y x y = none := if_pos ⟨rfl, rfl⟩
set_option maxRecDepth 100000 in
set_option maxHeartbeats 8000000 in
theorem walk (many : Int) (w : World) (hr : rng many) (L : Lays w) :
    Calls Tryd.prog 4 #[.int .i64 many] w fun e w' => e = .returned (.bool true) ∧ Below w.heap.size w w' := by
  have HL : Hid (∀ W, Below w.heap.size w W → Lays W) := fun W hb => L.below' hb
  have CV : Hid (∀ W, Below w.heap.size w W → Calls Tryd.prog 5 #[] W fun r w' => r = .returned (.bool true) ∧ Below W.heap.size W w') := fun W hb => live15 W (L.below' hb)
  clear L
  by_cases hneg : many < 0
  · have d1 : decide (many < 0) = true := decide_eq_true hneg
    go_enter Tryd.func4, Tryd.ntmps4
    go_wp2_with fail
    refine (CV.out _ (bel_refl _)).mono ?_
    rintro _ u1 ⟨rfl, hu1⟩
    go_wp2_with fail
    refine (CV.out _ hu1).mono ?_
    rintro _ u2 ⟨rfl, hu2⟩
    go_wp2
    go_ret
    exact ⟨rfl, bel_trans hu1 hu2⟩
  have d1 : decide (many < 0) = false := decide_eq_false hneg
  by_cases hbig : 65540 < many
  · have d2 : decide (65540 < many) = true := decide_eq_true hbig
    go_enter Tryd.func4, Tryd.ntmps4
    go_wp2_with fail
    refine (CV.out _ (bel_refl _)).mono ?_
    rintro _ u1 ⟨rfl, hu1⟩
    go_wp2_with fail
    refine (CV.out _ hu1).mono ?_
    rintro _ u2 ⟨rfl, hu2⟩
    go_wp2
    go_ret
    exact ⟨rfl, bel_trans hu1 hu2⟩
  obtain ⟨M, hMM⟩ : ∃ M : Nat, many = (M : Int) := ⟨many.toNat, by omega⟩
  have HMM : Hid (many = (M : Int)) := hMM
  have hM : Hid (M ≤ 65540) := by show M ≤ 65540; omega
  have d2 : decide (65540 < many) = false := decide_eq_false hbig
  have d3 : ¬ 65540 < many := hbig
  clear hMM
  go_enter Tryd.func4, Tryd.ntmps4
  go_wp2_with fail
  refine (CV.out _ (bel_refl _)).mono ?_
  rintro _ u1 ⟨rfl, hu1⟩
  have CN : Hid (Calls Tryd.prog 6 #[] u1 fun r w' => r = .returned (.pointer (some ⟨u1.heap.size, 0, none⟩)) ∧ SetR u1.heap.size w' u1.heap.size 0 0 (fun _ => 0) (fun _ => 0) (fun _ => false) (fun _ _ => none) ∧ Below u1.heap.size u1 w') := tNew u1
  go_wp2_with fail
  refine CN.out.mono ?_
  rintro _ u2 ⟨rfl, S2, hu2⟩
  have HS2 := hideIt S2
  have hB2 : u1.heap.size ≤ u2.heap.size := hu2.size
  have hwB : w.heap.size ≤ u1.heap.size := hu1.size
  have hbw2 : Below w.heap.size w u2 := hu1.trans (hu2.mono hwB)
  clear S2 CN
  generalize u1.heap.size = B at *
  obtain ⟨g, hgB⟩ : ∃ g, g = B := ⟨B, rfl⟩
  rw [← hgB] at HS2
  have HS3 : Hid (SetR B u2 g 0 0 (fun _ => 0) (fun _ => 0) (fun _ => false) (fun _ _ => none)) := by
    have := HS2.out
    rwa [hgB] at this ⊢
  rw [← hgB]
  clear hgB HS2 hu1 hu2 hr hneg hbig
  go_wp2_with fail
  go_loopw [4] (fun iv wr => ∃ (k n : Nat) (px py : Nat → Int) (al : Nat → Bool) (f : Int → Int → Option Int), k ≤ M ∧ iv = .int .i64 k ∧ Hid (n = min k 65536) ∧ B ≤ wr.heap.size ∧ Hid (SetR B wr g n n px py al f) ∧ Hid (Ch cW n px py al) ∧ Hid (Below w.heap.size w wr)) (fun iv _ => M - (intOf iv).toNat)
  case atStart => exact ⟨0, 0, _, _, _, _, Nat.zero_le _, rfl, rfl, hB2, HS3, Ch.nil _ _ _ _, hbw2⟩
  case round =>
    obtain ⟨k, n, px, py, al, f, hk, rfl, HN, hBr, HS, HC, HW⟩ := hrel
    clear HS3 hbw2
    obtain ⟨z, hz⟩ : ∃ z : Int, (k : Int) = z := ⟨_, rfl⟩
    have HZ : Hid ((k : Int) = z) := hz
    have z0 : 0 ≤ z := by omega
    have z1 : z ≤ 65540 := by have := hM.out; omega
    rw [hz]
    by_cases hlt : k < M
    · have i1 : z < many := by have := HMM.out; omega
      by_cases hl6 : k < 65536
      · have en : n = k := by have := HN.out; omega
        subst en
        have i2 : z < 65536 := by omega
        have i3 : ¬ 65536 ≤ z := by omega
        have HL6 : Hid (n < 65536) := hl6
        have HLT : Hid (n < M) := hlt
        have CA : Hid (Calls Tryd.prog 7 #[.pointer (some ⟨g, 0, none⟩), .agg #[.int .i64 (4607182418800017408 + z), .int .i64 0]] wr fun r w' => r = .returned (.tuple #[.int .i64 z, .int .i64 0]) ∧ ∃ px' py' al' f', SetR B w' g (n + 1) (n + 1) px' py' al' f' ∧ Ch cW (n + 1) px' py' al' ∧ FrS B wr w') := by
          have := addC HS.out HC.out okW (HL.out _ HW.out) hBr hl6
          rw [show cW n = 4607182418800017408 + z by rw [← HZ.out]; rfl, HZ.out] at this
          exact this
        clear hz hk hlt hl6 HN
        go_wp2_with fail
        refine CA.out.mono ?_
        rintro _ v1 ⟨rfl, px', py', al', f', S1, C1, F1⟩
        have HS1 := hideIt S1
        have HC1 := hideIt C1
        have HW1 : Hid (Below w.heap.size w v1) := HW.out.trans ((F1.below hBr).mono hwB)
        have hB1 := Nat.le_trans hBr F1.size
        clear S1 C1 F1 CA HS HC HW
        go_wp2
        go_roundw
        case rel => exact ⟨n + 1, n + 1, px', py', al', f', by have := HLT.out; omega, (by rw [← HZ.out]; go_num), (by have := HL6.out; show n + 1 = min (n + 1) 65536; omega), hB1, HS1.out, HC1.out, HW1.out⟩
        case measure => have := HLT.out; have := HZ.out; simp [intOf]; omega
      · have en : n = 65536 := by have := HN.out; omega
        have i2 : ¬ z < 65536 := by omega
        have i3 : 65536 ≤ z := by omega
        have HLT : Hid (k < M) := hlt
        have CA : Hid (Calls Tryd.prog 7 #[.pointer (some ⟨g, 0, none⟩), .agg #[.int .i64 (4607182418800017408 + z), .int .i64 0]] wr fun r w' => r = .returned (.tuple #[.int .i64 0, .int .i64 22]) ∧ Below wr.heap.size wr w') := by
          have := addC_many HS.out HC.out okW (HL.out _ HW.out) en (j := k) (by omega) (by have := hM.out; omega)
          rw [show cW k = 4607182418800017408 + z by rw [← HZ.out]; rfl] at this
          exact this
        have HE : Hid (n = 65536) := en
        have HK6 : Hid (65536 ≤ k) := by show 65536 ≤ k; omega
        clear en hz hk hlt hl6 HN
        go_wp2_with fail
        refine CA.out.mono ?_
        rintro _ v1 ⟨rfl, hv1⟩
        have HS1 := hideIt (HS.out.keeps hv1)
        have HW1 : Hid (Below w.heap.size w v1) := HW.out.trans (hv1.mono (Nat.le_trans hwB hBr))
        have hB1 := Nat.le_trans hBr hv1.size
        clear CA HS HW
        go_wp2
        go_roundw
        case rel => exact ⟨k + 1, n, px, py, al, f, by have := HLT.out; omega, (by rw [← HZ.out]; go_num), (by have := HE.out; have := HK6.out; show n = min (k + 1) 65536; omega), hB1, HS1.out, HC.out, HW1.out⟩
        case measure => have := HLT.out; have := HZ.out; simp [intOf]; omega
    · have ek : k = M := by omega
      subst ek
      have i1 : ¬ z < many := by have := HMM.out; omega
      by_cases h6 : 65536 < k
      · have i2 : 65536 < many := by have := HMM.out; omega
        have H6 : Hid (65536 < k) := h6
        have en : n = 65536 := by have := HN.out; omega
        subst en
        have CR : Hid (Calls Tryd.prog 14 #[.int .i64 many] wr fun r w' => ∃ a b, r = .returned (.tuple #[a, b]) ∧ OutQ wr.heap.size w' a k cW (fun _ => 0) ∧ OutQ wr.heap.size w' b k xN (fun _ => 0) ∧ Below wr.heap.size wr w') := by
          have := tRow k hM.out wr
          rw [← HMM.out] at this
          exact this
        clear HN hz hk hlt h6
        go_wp2_with fail
        refine CR.out.mono ?_
        rintro _ v1 ⟨a, b, rfl, hA, hBb, hv1⟩
        obtain ⟨ao, ac, rfl, PA, hA0⟩ := hA.pts
        obtain ⟨bo, bc, rfl, PB, hB0⟩ := hBb.pts
        obtain ⟨ga, rfl⟩ := hA0 (by have := H6.out; omega)
        obtain ⟨gb, rfl⟩ := hB0 (by have := H6.out; omega)
        have hla := PA.le
        have hma := PA.max
        have hlb := PB.le
        have hmb := PB.max
        have HPA := hideIt PA
        have HPB := hideIt PB
        have j1 : (65536 : Int) ≤ (ac : Int) := by have := H6.out; omega
        have j2 : (65536 : Int) ≤ (bc : Int) := by have := H6.out; omega
        have hw1 : Below w.heap.size w v1 := HW.out.trans (hv1.mono (Nat.le_trans hwB hBr))
        clear hA hBb PA PB CR hA0 hB0
        have C1 : Hid (Calls Tryd.prog 15 #[.slice (some ⟨ga, 0, none⟩) k ac] v1 fun r w' => GaR v1 k r w') := tFrom v1 hM.out HPA.out (HL.out _ hw1)
        go_wp2_with fail
        refine C1.out.mono ?_
        rintro _ v2 ⟨q2, hv2⟩
        obtain ⟨_, rfl⟩ := q2.resolve_left (fun q => by have := q.1; have := H6.out; omega)
        have hw2 := hw1.trans (hv2.mono hw1.size)
        have C2 : Hid (Calls Tryd.prog 16 #[.slice (some ⟨gb, 0, none⟩) k bc] v2 fun r w' => GaR v2 k r w') := tFrom32 v2 hM.out (HPB.out.keeps hv2) (HL.out _ hw2)
        go_wp2_with fail
        refine C2.out.mono ?_
        rintro _ v3 ⟨q3, hv3⟩
        obtain ⟨_, rfl⟩ := q3.resolve_left (fun q => by have := q.1; have := H6.out; omega)
        have hw3 := hw2.trans (hv3.mono hw2.size)
        have hv23 := bel_trans hv2 hv3
        have C3 : Hid (Calls Tryd.prog 15 #[.slice (some ⟨ga, 0, none⟩) 65536 ac] v3 fun r w' => GaR v3 65536 r w') := tFrom v3 (by omega) ((HPA.out.keeps hv23).take (by have := H6.out; omega)) (HL.out _ hw3)
        go_wp2_with fail
        refine C3.out.mono ?_
        rintro _ v4 ⟨q4, hv4⟩
        obtain ⟨_, g4, px4, py4, al4, f4, rfl, S4⟩ := q4.resolve_right (fun q => by have := q.1; omega)
        have hw4 := hw3.trans (hv4.mono hw3.size)
        have hv24 := bel_trans hv23 hv4
        have HS4 := hideIt S4
        have C4 : Hid (Calls Tryd.prog 16 #[.slice (some ⟨gb, 0, none⟩) 65536 bc] v4 fun r w' => GaR v4 65536 r w') := tFrom32 v4 (by omega) ((HPB.out.keeps hv24).take (by have := H6.out; omega)) (HL.out _ hw4)
        clear S4
        go_wp2_with fail
        refine C4.out.mono ?_
        rintro _ v5 ⟨q5, hv5⟩
        obtain ⟨_, g5, px5, py5, al5, f5, rfl, S5⟩ := q5.resolve_right (fun q => by have := q.1; omega)
        have hw5 := hw4.trans (hv5.mono hw4.size)
        have hv25 := bel_trans hv24 hv5
        have L4 : Hid (Calls Tryd.prog 17 #[.pointer (some ⟨g4, 0, none⟩)] v5 fun r w' => r = .returned (.int .i64 65536) ∧ Below v5.heap.size v5 w') := tLen (HS4.out.keeps hv5)
        have L5 : Hid (∀ W, Below v5.heap.size v5 W → Calls Tryd.prog 17 #[.pointer (some ⟨g5, 0, none⟩)] W fun r w' => r = .returned (.int .i64 65536) ∧ Below W.heap.size W w') := fun W hb => tLen (S5.keeps hb)
        have n1 : ∀ (W : World), (binOp .neq 25 (.pointer none) (.pointer none)).run Tryd.prog W = .ok (.bool false) W := fun _ => by kernel_rfl
        clear S5 C1 C2 C3 C4 HPA HPB HS4
        go_wp2_with fail
        refine L4.out.mono ?_
        rintro _ v6 ⟨rfl, hv6⟩
        go_wp2_with fail
        refine (L5.out _ hv6).mono ?_
        rintro _ v7 ⟨rfl, hv7⟩
        have hv67 := bel_trans hv6 hv7
        have hr7 := bel_trans hv1 (bel_trans hv25 hv67)
        have hw7 := HW.out.trans (hr7.mono (Nat.le_trans hwB hBr))
        have hB7 := Nat.le_trans hBr hr7.size
        have HS7 : Hid (SetR B v7 g 65536 65536 px py al f) := HS.out.keeps hr7
        have x7 : px 7 = 4607182418800017415 := HC.out.x 7 (by omega)
        have y7 : py 7 = 0 := HC.out.y 7 (by omega)
        have a7 : al 7 = true := HC.out.a 7 (by omega)
        have f7 := HS7.out.stF.fnd 7 (by omega) a7
        rw [x7, y7] at f7
        have CS : Hid (Calls Tryd.prog 7 #[.pointer (some ⟨g, 0, none⟩), .agg #[.int .i64 4607182418800017415, .int .i64 0]] v7 fun r w' => r = .returned (.tuple #[.int .i64 7, .int .i64 20]) ∧ Below v7.heap.size v7 w') := tAdd_same HS7.out (HL.out _ hw7) (by unfold rng; omega) (by unfold rng; omega) (by decide) (by rw [show q0 4607182418800017415 = 4607182418800017415 by decide, show q0 0 = 0 by decide]; exact f7)
        clear f7 HC HS HW L4 L5 hv1 hv2 hv3 hv4 hv5 hv6 hv7 hv23 hv24 hv25 hv67 hr7 hw1 hw2 hw3 hw4 hw5
        go_wp2_with fail
        refine CS.out.mono ?_
        rintro _ v8 ⟨rfl, hv8⟩
        have hw8 := hw7.trans (hv8.mono hw7.size)
        have hB8 := Nat.le_trans hB7 hv8.size
        have CD : Hid (Calls Tryd.prog 11 #[.pointer (some ⟨g, 0, none⟩), .int .i64 7] v8 fun r w' => r = .returned (.int .i64 0) ∧ SetR B w' g 65536 65535 px py (updT al 7 false) (fdel f 4607182418800017415 0) ∧ FrS B v8 w') := by
          have := tDrop_ok (HS7.out.keeps hv8) hB8 (i := 7) (by omega) a7
          rw [x7, y7] at this
          exact this
        clear x7 y7 a7
        go_wp2_with fail
        refine CD.out.mono ?_
        rintro _ v9 ⟨rfl, S9, F9⟩
        have hw9 := hw8.trans ((F9.below hB8).mono hwB)
        have hB9 := Nat.le_trans hB8 F9.size
        have HS9 := hideIt S9
        have CM : Hid (Calls Tryd.prog 7 #[.pointer (some ⟨g, 0, none⟩), .agg #[.int .i64 4607182418800017415, .int .i64 0]] v9 fun r w' => r = .returned (.tuple #[.int .i64 0, .int .i64 22]) ∧ Below v9.heap.size v9 w') := tAdd_many S9 (HL.out _ hw9) (by unfold rng; omega) (by unfold rng; omega) (by decide) (by rw [show q0 4607182418800017415 = 4607182418800017415 by decide, show q0 0 = 0 by decide]; exact fdel_none _ _ _) rfl
        clear S9 CS CD
        go_wp2_with fail
        refine CM.out.mono ?_
        rintro _ v10 ⟨rfl, hv10⟩
        have L9 : Hid (Calls Tryd.prog 17 #[.pointer (some ⟨g, 0, none⟩)] v10 fun r w' => r = .returned (.int .i64 65535) ∧ Below v10.heap.size v10 w') := tLen (HS9.out.keeps hv10)
        have G9 : Hid (∀ W, Below v10.heap.size v10 W → Calls Tryd.prog 12 #[.pointer (some ⟨g, 0, none⟩)] W fun r w' => r = .returned (.int .i64 65536) ∧ Below W.heap.size W w') := fun W hb => tGiven ((HS9.out.keeps hv10).keeps hb)
        go_wp2_with fail
        refine L9.out.mono ?_
        rintro _ v11 ⟨rfl, hv11⟩
        go_wp2_with fail
        refine (G9.out _ hv11).mono ?_
        rintro _ v12 ⟨rfl, hv12⟩
        go_wp2
        go_ret
        exact ⟨rfl, hw9.trans ((bel_trans hv10 (bel_trans hv11 hv12)).mono hw9.size)⟩
      · have i2 : ¬ 65536 < many := by have := HMM.out; omega
        have en : n = k := by have := HN.out; omega
        subst en
        have L1 : Hid (Calls Tryd.prog 17 #[.pointer (some ⟨g, 0, none⟩)] wr fun r w' => r = .returned (.int .i64 many) ∧ Below wr.heap.size wr w') := by
          have := tLen HS.out
          rw [← HMM.out] at this
          exact this
        have G1 : Hid (∀ W, Below wr.heap.size wr W → Calls Tryd.prog 12 #[.pointer (some ⟨g, 0, none⟩)] W fun r w' => r = .returned (.int .i64 many) ∧ Below W.heap.size W w') := fun W hb => by
          have := tGiven (HS.out.keeps hb)
          rw [← HMM.out] at this
          exact this
        clear hz hk hlt h6 HN
        go_wp2_with fail
        refine L1.out.mono ?_
        rintro _ v1 ⟨rfl, hv1⟩
        go_wp2_with fail
        refine (G1.out _ hv1).mono ?_
        rintro _ v2 ⟨rfl, hv2⟩
        go_wp2
        go_ret
        exact ⟨rfl, HW.out.trans ((bel_trans hv1 hv2).mono (Nat.le_trans hwB hBr))⟩
theorem own : ownKnob Tryd.prog.godebug = none := by kernel_rfl
theorem laidOut : laidOutB Tryd.prog = true := by kernel_rfl
theorem door_met (os : Os) (args : Array Value) : laidMetH Tryd.prog Rows.sitesMostRow.laid ((World.doorLaid Tryd.prog 400 os).forCall (fun _ _ => 0) ⟨#[], args, []⟩).memory :=
  laidMetH_of_parts3 (fuel := 8) (laidMet_of_run' 8 (by kernel_rfl) (by kernel_rfl)) (by kernel_rfl) (by kernel_rfl)
set_option maxRecDepth 100000 in
theorem lifted (os : Os) (started : os.Started) (H : Type) (enc : TypeId × Value → H) :
    ReturnsInHanded {} Tryd.checked os 4 .any (fun w args => (Rows.sitesMostSpec.pre enc Tryd.prog Tryd.f4 [] false w args ∧ laidMetH Tryd.prog Rows.sitesMostRow.laid w) ∧ sizedMet enc Tryd.prog Tryd.f4 (OpenSpec.ofChange Rows.sitesMostSpec) false w args)
      (Rows.sitesMostSpec.post enc Tryd.prog Tryd.f4 false true false false) := by
  refine returnsInHanded_of_change_and (C := Tryd.checked) (X := fun w _ => laidMetH Tryd.prog Rows.sitesMostRow.laid w) (fun _ _ _ hh h => h.of_heap hh) own started (by kernel_rfl) Tryd.func4
    (ChangeSpec.witness_shaped (enc := enc) (C := Tryd.checked) (os := os) (X := fun w _ => laidMetH Tryd.prog Rows.sitesMostRow.laid w) false (World.doorLaid Tryd.prog 400 os) #[.int .i64 0] 8 rfl (World.shaped_of_RefB (by kernel_rfl) (by kernel_rfl)) (by kernel_rfl) (by kernel_rfl) (by kernel_rfl) (door_met os _)) ?_
  intro W base args ds gs before hval0 hW _ _ hL _
  have hval : ∀ (j : Nat) t v, Tryd.f4.params[j]? = some t → args[j]? = some v → Value.okWide Tryd.prog W .any base t v := hval0
  have hW' := hW
  obtain ⟨p, q, hA0, hV, rfl, hfz, hnd⟩ := hW
  have hA : DataW.TrodAll enc Tryd.prog W 0 (fun _ => true) true Tryd.f4.params.toList args.toList ds p := hA0
  rw [Tryd.params4] at hA hval
  obtain ⟨v0, vs0, d0, ds0, p0, q0, hargs, rfl, rfl, h0, r0⟩ := trodAll_cons hA
  obtain ⟨rfl, rfl, rfl⟩ := trodAll_nil r0
  obtain rfl : args = #[v0] := by cases args; simp_all
  obtain ⟨rfl, rfl⟩ := trodVars_none hV
  obtain ⟨a0, rfl, rfl, rfl, w0⟩ := open_int Tryd.underlying3 (hval 0 3 v0 rfl rfl) h0
  clear hA0 hval0
  refine (walk a0 W (rng_of w0) (lays_of hL)).mono fun e W' ⟨he, bel⟩ => ?_
  subst he
  exact ⟨_, rfl, _, _, _, [], _, [], hW', trodAll_mk1 (shut_bool Tryd.underlying4 _), (trodAll_cons_mk (shut_int Tryd.underlying3 w0) trodAll_mk0), rfl, bel.frame _, fun h => by cases h⟩
theorem said : Rows.SitesMostSaid :=
  OpenClaim.holds_of_wide 4 Tryd.f4 rfl rfl rfl rfl rfl rfl rfl ⟨rfl, rfl, rfl, rfl, rfl⟩ rfl rfl rfl rfl rfl (by kernel_rfl) Tryd.func4 (by kernel_rfl)
    (of_decide_eq_true (by kernel_rfl)) (by unfold Func.isWrapper; first | (rw [if_pos (by decide +kernel)]; kernel_rfl) | (rw [if_neg (by decide +kernel)]; exact ⟨rfl, rfl⟩))
    (fun os started H enc _ => lifted os started H enc)
theorem plain (f : FuncId) (fn : Func) (hf : Tryd.pinned.checked.prog.funcNamed Tryd.f4.name = some f) (hfn : Tryd.pinned.checked.prog.funcs[f]? = some fn) :
    false = Tryd.pinned.checked.prog.looks [] ∧ ∀ (j : Nat) t, fn.params[j]? = some t → Tryd.pinned.checked.prog.wantsStandIn t = false := by
  obtain rfl : f = 4 := Option.some.inj ((show Tryd.prog.funcNamed Tryd.f4.name = some 4 by kernel_rfl).symm.trans hf) |>.symm
  obtain rfl : fn = Tryd.f4 := (Option.some.inj (Tryd.func4.symm.trans hfn)).symm
  refine ⟨by kernel_rfl, fun j t ht => ?_⟩
  rw [Tryd.params4] at ht
  obtain rfl : t = 3 := by simpa using Array.mem_of_getElem? ht
  exact (show Tryd.prog.wantsStandIn 3 = false by kernel_rfl)
/-- THE CARD. -/
theorem card : Rows.SitesMostCardSaid :=
  Claim7.holds_tied_plain_at .later [] _ _ _ _ said (fun _ h => by cases h) (by kernel_rfl) (fun _ h => by cases h) sitesMost_row_tie rfl ⟨rfl, rfl⟩ (by kernel_rfl) rfl plain (by kernel_rfl)
end Go.Proofs.YtbljcodhcodmkaaDoor.sitesMost
namespace Go.Proofs.YtbljcodhcodmkaaDoor
/-- SitesMost: the statement as it is given. -/
theorem sitesMost_holds : Rows.SitesMostCardSaid := sitesMost.card
end Go.Proofs.YtbljcodhcodmkaaDoor
