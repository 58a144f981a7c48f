/-
  SitesNumbers: for every list of points and every list of ints the law returns true: of a set of sites that is filled from the points, some of its sites taken away by the ints, numbers are given one behind the other, and never again; nothing is told with -0. As a card: the layout of package bits starts as the program's text lays it.
-/
import Derived.Test.YtejbjaddfjelaaaDoorTLive
import Derived.Test.YtejbjaddfjelaaaDoorTShut
import Derived.Test.YtejbjaddfjelaaaDoorLaid
import Derived.Test.YtejbjaddfjelaaaDoorNShut
import Derived.Test.YtejbjaddfjelaaaDoorCards
import Derived.Test.YtejbjaddfjelaaaDoorTie
namespace Go.Proofs.YtejbjaddfjelaaaDoor.sitesNumbers
open Go Go.ChangeShapes Go.WideShapes Go.ChangeAt Go.RowKit Go.Proofs.YtejbjaddfjelaaaDoor Go.Proofs.YtejbjaddfjelaaaDoor.M
set_option linter.unusedSimpArgs false
set_option linter.unusedVariables false

theorem laysC_of {W : World} (h : laidMetH Tryd.prog [("plumb/bits.binary64", Rows.laid_plumb_bits_binary64)] W) : Lays W := by
  rw [MakeChecks.laidMetH_plain _ _ _ (by kernel_rfl)] at h
  obtain ⟨a0, a1, a2⟩ := three g64 g64Type h
  exact ⟨a0, a1, a2, trivial, trivial, trivial⟩
theorem pcmp_q0 (x y : Int) : pcmp (q0 x) (q0 y) x y = 0 := by
  have k : ∀ b : Int, key (q0 b) = key b := fun b => by
    unfold q0
    split
    · rename_i h; rw [h]; decide
    · rfl
  unfold pcmp
  rw [k, k, if_pos rfl]
  unfold cmp
  simp
theorem q0_ne {x : Int} (h : q0 x = x) : ¬ x = -9223372036854775808 := fun e => by rw [e] at h; revert h; decide
theorem fdel_at (f : Int → Int → Option Int) (x y : Int) : fdel f x y x y = none := if_pos ⟨rfl, rfl⟩
set_option maxRecDepth 100000 in
set_option maxHeartbeats 8000000 in
theorem walk (a0 : Option Addr) (l0 c0 : Nat) (z0 : Nat → Int × Int) (a1 : Option Addr) (l1 c1 : Nat) (z1 : Nat → Int) (w : World) (h0 : IsPts w a0 l0 c0 z0) (h1 : Row w a1 l1 c1 z1) (hz1 : ∀ i, i < l1 → rng (z1 i)) (L : Lays w) :
    Calls Tryd.prog 3 #[.slice a0 l0 c0, .slice a1 l1 c1] w fun e w' => e = .returned (.bool true) ∧ Below w.heap.size w w' := by
  have HL : Hid (∀ W, Below w.heap.size w W → Lays W) := fun W hb => L.below' hb
  have CV : Hid (∀ W, Below w.heap.size w W → Calls Tryd.prog 4 #[] W fun r w' => r = .returned (.bool true) ∧ Below W.heap.size W w') := fun W hb => live15 W (L.below' hb)
  have hla := h0.pts.le
  have hma := h0.pts.max
  have hlb := h1.le
  have hmb := h1.max
  have HP : Hid (IsPts w a0 l0 c0 z0) := h0
  have HR : Hid (Row w a1 l1 c1 z1) := h1
  have HZ : Hid (∀ i, i < l1 → rng (z1 i)) := hz1
  clear h0 h1 hz1 L
  by_cases hbig : 400 < l0
  · have b1 : (400 : Int) < (l0 : Int) := by omega
    go_enter Tryd.func3, Tryd.ntmps3
    go_wp2_with fail
    refine (CV.out _ (bel_refl _)).mono ?_
    rintro _ u1 ⟨rfl, hu1⟩
    go_wp2_with fail
    refine (CV.out _ hu1).mono ?_
    rintro _ u2 ⟨rfl, hu2⟩
    go_wp2
    go_ret
    exact ⟨rfl, bel_trans hu1 hu2⟩
  have b1 : ¬ (400 : Int) < (l0 : Int) := by omega
  go_enter Tryd.func3, Tryd.ntmps3
  go_wp2_with fail
  refine (CV.out _ (bel_refl _)).mono ?_
  rintro _ u1 ⟨rfl, hu1⟩
  have CN : Hid (Calls Tryd.prog 5 #[] u1 fun r w' => r = .returned (.pointer (some ⟨u1.heap.size, 0, none⟩)) ∧ SetR u1.heap.size w' u1.heap.size 0 0 (fun _ => 0) (fun _ => 0) (fun _ => false) (fun _ _ => none) ∧ Below u1.heap.size u1 w') := tNew u1
  go_wp2_with fail
  refine CN.out.mono ?_
  rintro _ u2 ⟨rfl, S2, hu2⟩
  have HS2 := hideIt S2
  have hB2 : u1.heap.size ≤ u2.heap.size := hu2.size
  have hwB : w.heap.size ≤ u1.heap.size := hu1.size
  have hbw2 : Below w.heap.size w u2 := hu1.trans (hu2.mono hwB)
  clear S2 CN
  generalize u1.heap.size = B at *
  obtain ⟨g, hgB⟩ : ∃ g, g = B := ⟨B, rfl⟩
  rw [← hgB] at HS2
  have HS3 : Hid (SetR B u2 g 0 0 (fun _ => 0) (fun _ => 0) (fun _ => false) (fun _ _ => none)) := by
    have := HS2.out
    rwa [hgB] at this ⊢
  rw [← hgB]
  clear hgB HS2 hu1 hu2
  go_wp2_with fail
  go_loopw [6, 7] (fun gv iv wr => ∃ (k n s : Nat) (px py : Nat → Int) (al : Nat → Bool) (f : Int → Int → Option Int), k ≤ l0 ∧ iv = .int .i64 k ∧ gv = .int .i64 n ∧ n ≤ 2 * k ∧ B ≤ wr.heap.size ∧ Hid (SetR B wr g n s px py al f) ∧ Hid (Below w.heap.size w wr)) (fun _ iv _ => l0 - (intOf iv).toNat)
  case atStart => exact ⟨0, 0, 0, _, _, _, _, Nat.zero_le _, rfl, rfl, Nat.zero_le _, hB2, HS3, hbw2⟩
  case round =>
    obtain ⟨k, n, s, px, py, al, f, hk, rfl, rfl, hn, hBr, HS, HW⟩ := hrel
    clear HS3 hbw2
    by_cases hlt : k < l0
    · have i0 : (0 : Int) ≤ (k : Int) := by omega
      have i1 : (k : Int) < (l0 : Int) := by omega
      obtain ⟨ba, oa, rfl, hba, hca⟩ := HP.out.pts.spot (by omega)
      have HCA : Hid (∀ W, Below w.heap.size w W → W.cell? ⟨ba, oa + k * 2, none⟩ = some (.int .i64 (z0 k).1) ∧ W.cell? ⟨ba, oa + k * 2 + 1, none⟩ = some (.int .i64 (z0 k).2)) := fun W hb => ⟨(hb.cell (p := ⟨ba, oa + k * 2, none⟩) hba).trans (hca k hlt).1, (hb.cell (p := ⟨ba, oa + k * 2 + 1, none⟩) hba).trans (hca k hlt).2⟩
      obtain ⟨rx, ry⟩ := HP.out.rg k hlt
      clear hca
      generalize (z0 k).1 = x at *
      generalize (z0 k).2 = y at *
      obtain ⟨x0, x1⟩ := HCA.out _ HW.out
      have CC : Hid (∀ W, Calls Tryd.prog 9 #[.agg #[.int .i64 x, .int .i64 y]] W fun e w' => e = .returned (.int .i64 (errF (pok x && pok y))) ∧ Below W.heap.size W w') := fun W => pointCheck rx ry W
      cases hp : (pok x && pok y)
      · have CA : Hid (Calls Tryd.prog 6 #[.pointer (some ⟨g, 0, none⟩), .agg #[.int .i64 x, .int .i64 y]] wr fun r w' => r = .returned (.tuple #[.int .i64 0, .int .i64 10]) ∧ Below wr.heap.size wr w') := tAdd_bad HS.out (HL.out _ HW.out) rx ry hp
        rw [hp] at CC
        go_wp2_with fail
        refine CA.out.mono ?_
        rintro _ v1 ⟨rfl, hv1⟩
        have HS1 := hideIt (HS.out.keeps hv1)
        have HW1 := hideIt (HW.out.trans (hv1.mono (Nat.le_trans hwB hBr)))
        have hBv := Nat.le_trans hBr hv1.size
        obtain ⟨x0, x1⟩ := HCA.out _ HW1.out
        go_wp2_with fail
        refine (CC.out _).mono ?_
        rintro _ v4 ⟨rfl, hv4⟩
        have HS4 : Hid (SetR B v4 g n s px py al f) := HS1.out.keeps hv4
        have HW4 : Hid (Below w.heap.size w v4) := HW1.out.trans (hv4.mono (Nat.le_trans hwB hBv))
        have hB4 := Nat.le_trans hBv hv4.size
        clear HS1 HW1 hBv HS HW CA CC
        by_cases hd : k < l1
        · have d1 : (k : Int) < (l1 : Int) := by omega
          obtain ⟨bd, od, rfl, hbd, hcd⟩ := HR.out.spot (by omega)
          have HCD : Hid (∀ W, Below w.heap.size w W → W.cell? ⟨bd, od + k, none⟩ = some (.int .i64 (z1 k))) := fun W hb => (hb.cell (p := ⟨bd, od + k, none⟩) hbd).trans (hcd k hd)
          clear hcd
          have x2 := HCD.out _ HW4.out
          by_cases hneg : 0 ≤ z1 k
          · obtain ⟨j, hj⟩ : ∃ j : Nat, z1 k = (j : Int) := ⟨(z1 k).toNat, by omega⟩
            rw [hj] at HCD x2 hneg
            clear hj
            by_cases hjn : j < n
            · have d2 : (j : Int) < (n : Int) := by omega
              cases haj : al j
              · have CT : Hid (Calls Tryd.prog 7 #[.pointer (some ⟨g, 0, none⟩), .int .i64 (j : Int)] v4 fun r w' => r = .returned (.tuple #[.agg #[.int .i64 0, .int .i64 0], .int .i64 21]) ∧ Below v4.heap.size v4 w') := tAt_gone HS4.out hjn haj
                go_wp2_with fail
                clear x2
                refine CT.out.mono ?_
                rintro _ v5 ⟨rfl, hv5⟩
                have hv6 := bel_trans hv5 (bel_alloc v5 (.cells #[.int .i64 0, .int .i64 0] 31))
                have x2 := HCD.out _ (HW4.out.trans (hv6.mono (Nat.le_trans hwB hB4)))
                have CD : Hid (Calls Tryd.prog 10 #[.pointer (some ⟨g, 0, none⟩), .int .i64 (j : Int)] (v5.alloc (.cells #[.int .i64 0, .int .i64 0] 31)) fun r w' => r = .returned (.int .i64 21) ∧ Below (v5.alloc (.cells #[.int .i64 0, .int .i64 0] 31)).heap.size (v5.alloc (.cells #[.int .i64 0, .int .i64 0] 31)) w') := tDrop_gone (HS4.out.keeps hv6) hjn haj
                go_wp2_with fail
                clear x2
                refine CD.out.mono ?_
                rintro _ v7 ⟨rfl, hv7⟩
                have hv8 := bel_trans hv6 hv7
                have hB8 := Nat.le_trans hB4 hv8.size
                have HS8 := hideIt (HS4.out.keeps hv8)
                have HW8 := hideIt (HW4.out.trans (hv8.mono (Nat.le_trans hwB hB4)))
                clear CT CD haj hv5 hv6 hv7
                have CG : Hid (Calls Tryd.prog 11 #[.pointer (some ⟨g, 0, none⟩)] v7 fun r w' => r = .returned (.int .i64 (n : Int)) ∧ Below v7.heap.size v7 w') := tGiven (HS8.out)
                go_wp2_with fail
                refine CG.out.mono ?_
                rintro _ e1 ⟨rfl, he1⟩
                go_wp2
                go_roundw
                case rel => exact ⟨k + 1, n, s, _, _, _, _, by omega, by go_num, (by first | rfl | go_num), by omega, Nat.le_trans hB8 he1.size, HS8.out.keeps he1, HW8.out.trans (he1.mono (Nat.le_trans hwB hB8))⟩
                case measure => simp [intOf]; omega
              · have CT : Hid (Calls Tryd.prog 7 #[.pointer (some ⟨g, 0, none⟩), .int .i64 (j : Int)] v4 fun r w' => r = .returned (.tuple #[.agg #[.int .i64 (px j), .int .i64 (py j)], .int .i64 0]) ∧ Below v4.heap.size v4 w') := tAt_ok HS4.out hjn haj
                obtain ⟨r1, r2, o1, o2, e1, e2⟩ := HS4.out.stF.nrm j hjn
                go_wp2_with fail
                clear x2
                refine CT.out.mono ?_
                rintro _ v5 ⟨rfl, hv5⟩
                have p_k := t_new v5 (.cells #[.int .i64 (px j), .int .i64 (py j)] 31)
                have hv6 := bel_trans hv5 (bel_alloc v5 (.cells #[.int .i64 (px j), .int .i64 (py j)] 31))
                have hB6 := Nat.le_trans hB4 hv6.size
                have HW6 := hideIt (HW4.out.trans (hv6.mono (Nat.le_trans hwB hB4)))
                have x2 := HCD.out _ HW6.out
                have CD : Hid (Calls Tryd.prog 10 #[.pointer (some ⟨g, 0, none⟩), .int .i64 (j : Int)] (v5.alloc (.cells #[.int .i64 (px j), .int .i64 (py j)] 31)) fun r w' => r = .returned (.int .i64 0) ∧ SetR B w' g (n) (s - 1) px py (updT al j false) (fdel f (px j) (py j)) ∧ FrS B (v5.alloc (.cells #[.int .i64 (px j), .int .i64 (py j)] 31)) w') := tDrop_ok (HS4.out.keeps hv6) hB6 hjn haj
                clear CT haj hv5
                go_wp2_with fail
                clear x2
                generalize v5.heap.size = pb at *
                generalize v5.alloc (.cells #[.int .i64 (px j), .int .i64 (py j)] 31) = v6 at *
                refine CD.out.mono ?_
                rintro _ v7 ⟨rfl, S7, F7⟩
                have p_7 := F7.blk p_k (by decide) (by decide)
                have hB7 := Nat.le_trans hB6 F7.size
                have HW7 : Hid (Below w.heap.size w v7) := HW6.out.trans ((F7.below hB6).mono hwB)
                have CA : Hid (Calls Tryd.prog 6 #[.pointer (some ⟨g, 0, none⟩), .agg #[.int .i64 (px j), .int .i64 (py j)]] v7 fun r w' => ∃ px9 py9 al9 f9 s9, r = .returned (.tuple #[.int .i64 (n : Int), .int .i64 0]) ∧ SetR B w' g (n + 1) s9 px9 py9 al9 f9 ∧ FrS B v7 w') := by
                  have := tAdd_new S7 (HL.out _ HW7.out) r1 r2 hB7 (by rw [o1, o2]; rfl) (by rw [e1, e2]; exact fdel_at _ _ _) (by omega)
                  refine this.mono ?_
                  rintro r w' ⟨rfl, q1, q2⟩
                  exact ⟨_, _, _, _, _, by first | rfl | (rw [HNI]), q1, q2⟩
                obtain ⟨m0, m1, _, _⟩ := t_blkC p_7
                clear S7 F7 p_k p_7 e1 e2 o1 o2 r1 r2
                generalize px j = X at *
                generalize py j = Y at *
                go_wp2_with fail
                clear m0 m1
                refine CA.out.mono ?_
                rintro _ v8 ⟨px9, py9, al9, f9, s9, rfl, S8, F8⟩
                have HS8 := hideIt S8
                have HW8 : Hid (Below w.heap.size w v8) := HW7.out.trans ((F8.below hB7).mono hwB)
                have hB8 := Nat.le_trans hB7 F8.size
                clear S8 F8 CA CD
                go_wp2_with fail
                have CG : Hid (Calls Tryd.prog 11 #[.pointer (some ⟨g, 0, none⟩)] v8 fun r w' => r = .returned (.int .i64 ((n : Int) + 1)) ∧ Below v8.heap.size v8 w') := by have := tGiven (HS8.out); rwa [show ((n + 1 : Nat) : Int) = (n : Int) + 1 from by omega] at this
                go_wp2_with fail
                refine CG.out.mono ?_
                rintro _ e1 ⟨rfl, he1⟩
                go_wp2
                go_roundw
                case rel => exact ⟨k + 1, n + 1, s9, _, _, _, _, by omega, by go_num, (by first | rfl | go_num), by omega, Nat.le_trans hB8 he1.size, HS8.out.keeps he1, HW8.out.trans (he1.mono (Nat.le_trans hwB hB8))⟩
                case measure => simp [intOf]; omega
            · have d2 : ¬ (j : Int) < (n : Int) := by omega
              have CG : Hid (Calls Tryd.prog 11 #[.pointer (some ⟨g, 0, none⟩)] v4 fun r w' => r = .returned (.int .i64 (n : Int)) ∧ Below v4.heap.size v4 w') := tGiven (HS4.out)
              go_wp2_with fail
              refine CG.out.mono ?_
              rintro _ e1 ⟨rfl, he1⟩
              go_wp2
              go_roundw
              case rel => exact ⟨k + 1, n, s, _, _, _, _, by omega, by go_num, (by first | rfl | go_num), by omega, Nat.le_trans hB4 he1.size, HS4.out.keeps he1, HW4.out.trans (he1.mono (Nat.le_trans hwB hB4))⟩
              case measure => simp [intOf]; omega
          · have d2 : ¬ (0 : Int) ≤ z1 k := hneg
            generalize z1 k = zk at *
            have CG : Hid (Calls Tryd.prog 11 #[.pointer (some ⟨g, 0, none⟩)] v4 fun r w' => r = .returned (.int .i64 (n : Int)) ∧ Below v4.heap.size v4 w') := tGiven (HS4.out)
            go_wp2_with fail
            refine CG.out.mono ?_
            rintro _ e1 ⟨rfl, he1⟩
            go_wp2
            go_roundw
            case rel => exact ⟨k + 1, n, s, _, _, _, _, by omega, by go_num, (by first | rfl | go_num), by omega, Nat.le_trans hB4 he1.size, HS4.out.keeps he1, HW4.out.trans (he1.mono (Nat.le_trans hwB hB4))⟩
            case measure => simp [intOf]; omega
        · have d1 : ¬ (k : Int) < (l1 : Int) := by omega
          have CG : Hid (Calls Tryd.prog 11 #[.pointer (some ⟨g, 0, none⟩)] v4 fun r w' => r = .returned (.int .i64 (n : Int)) ∧ Below v4.heap.size v4 w') := tGiven (HS4.out)
          go_wp2_with fail
          refine CG.out.mono ?_
          rintro _ e1 ⟨rfl, he1⟩
          go_wp2
          go_roundw
          case rel => exact ⟨k + 1, n, s, _, _, _, _, by omega, by go_num, (by first | rfl | go_num), by omega, Nat.le_trans hB4 he1.size, HS4.out.keeps he1, HW4.out.trans (he1.mono (Nat.le_trans hwB hB4))⟩
          case measure => simp [intOf]; omega
      · have CA0 := hp
        cases hf : f (q0 x) (q0 y) with
        | some v =>
          have CA : Hid (Calls Tryd.prog 6 #[.pointer (some ⟨g, 0, none⟩), .agg #[.int .i64 x, .int .i64 y]] wr fun r w' => r = .returned (.tuple #[.int .i64 v, .int .i64 20]) ∧ Below wr.heap.size wr w') := tAdd_same HS.out (HL.out _ HW.out) rx ry hp hf
          obtain ⟨i, hi, rfl, hai, hxi, hyi⟩ := HS.out.stF.back _ _ _ hf
          have CT : Hid (∀ W, Below wr.heap.size wr W → Calls Tryd.prog 7 #[.pointer (some ⟨g, 0, none⟩), .int .i64 (i : Int)] W fun r w' => r = .returned (.tuple #[.agg #[.int .i64 (q0 x), .int .i64 (q0 y)], .int .i64 0]) ∧ Below W.heap.size W w') := fun W hb => by
            have := tAt_ok (HS.out.keeps hb) hi hai
            rwa [hxi, hyi] at this
          obtain ⟨ox, oy⟩ := Bool.and_eq_true_iff.1 hp
          have CM : Hid (∀ W, Calls Tryd.prog 8 #[.agg #[.int .i64 (q0 x), .int .i64 (q0 y)], .agg #[.int .i64 x, .int .i64 y]] W fun e w' => e = .returned (.tuple #[.bool true, .int .i64 0]) ∧ Below W.heap.size W w') := fun W => by
            have := pointSame (q0_rng rx) (q0_rng ry) rx ry W
            rw [q0_pok ox, q0_pok oy, ox, oy, pcmp_q0] at this
            exact this
          clear hxi hyi ox oy hf CA0 hp CC hai
          go_wp2_with fail
          refine CA.out.mono ?_
          rintro _ v1 ⟨rfl, hv1⟩
          go_wp2_with fail
          refine (CT.out _ hv1).mono ?_
          rintro _ v2 ⟨rfl, hv2⟩
          have hv2' := bel_trans hv1 hv2
          have p_k := t_new v2 (.cells #[.int .i64 (q0 x), .int .i64 (q0 y)] 31)
          have hv3 := bel_trans hv2' (bel_alloc v2 (.cells #[.int .i64 (q0 x), .int .i64 (q0 y)] 31))
          obtain ⟨p0, p1, _, _⟩ := t_blkC p_k
          obtain ⟨x0, x1⟩ := HCA.out _ (HW.out.trans (hv3.mono (Nat.le_trans hwB hBr)))
          clear p_k
          go_wp2_with fail
          generalize v2.alloc (.cells #[.int .i64 (q0 x), .int .i64 (q0 y)] 31) = v3 at *
          have KK : ∀ W, Below v3.heap.size v3 W → W.cell? ⟨v2.heap.size, 0, none⟩ = some (.int .i64 (q0 x)) ∧ W.cell? ⟨v2.heap.size, 1, none⟩ = some (.int .i64 (q0 y)) ∧ W.cell? ⟨ba, oa + k * 2, none⟩ = some (.int .i64 x) ∧ W.cell? ⟨ba, oa + k * 2 + 1, none⟩ = some (.int .i64 y) := fun W hb => ⟨q_cell p0 hb, q_cell p1 hb, q_cell x0 hb, q_cell x1 hb⟩
          have hC0 := (bel_refl v3).drew
          go_region_held3 (fun W => W.cell? ⟨v2.heap.size, 0, none⟩ = some (.int .i64 (q0 x)) ∧ W.cell? ⟨v2.heap.size, 1, none⟩ = some (.int .i64 (q0 y)) ∧ W.cell? ⟨ba, oa + k * 2, none⟩ = some (.int .i64 x) ∧ W.cell? ⟨ba, oa + k * 2 + 1, none⟩ = some (.int .i64 y)) (with_reducible first | assumption | exact KK _ hC0 | exact KK _ hC1 | fail)
            ((go_at_call 8; refine (CM.out _).mono ?_; rintro _ v4 ⟨rfl, hv4⟩; have hC1 := bel_trans hC0 hv4))
          all_goals
            have hv5 := bel_trans hv3 (bel_trans hC0 hv4)
            have HS4 : Hid (SetR B v4 g n s px py al f) := HS.out.keeps hv5
            have HW4 : Hid (Below w.heap.size w v4) := HW.out.trans (hv5.mono (Nat.le_trans hwB hBr))
            have hB4 := Nat.le_trans hBr hv5.size
            clear HS HW CA CT CM
            by_cases hd : k < l1
            · have d1 : (k : Int) < (l1 : Int) := by omega
              obtain ⟨bd, od, rfl, hbd, hcd⟩ := HR.out.spot (by omega)
              have HCD : Hid (∀ W, Below w.heap.size w W → W.cell? ⟨bd, od + k, none⟩ = some (.int .i64 (z1 k))) := fun W hb => (hb.cell (p := ⟨bd, od + k, none⟩) hbd).trans (hcd k hd)
              clear hcd
              have x2 := HCD.out _ HW4.out
              by_cases hneg : 0 ≤ z1 k
              · obtain ⟨j, hj⟩ : ∃ j : Nat, z1 k = (j : Int) := ⟨(z1 k).toNat, by omega⟩
                rw [hj] at HCD x2 hneg
                clear hj
                by_cases hjn : j < n
                · have d2 : (j : Int) < (n : Int) := by omega
                  cases haj : al j
                  · have CT : Hid (Calls Tryd.prog 7 #[.pointer (some ⟨g, 0, none⟩), .int .i64 (j : Int)] v4 fun r w' => r = .returned (.tuple #[.agg #[.int .i64 0, .int .i64 0], .int .i64 21]) ∧ Below v4.heap.size v4 w') := tAt_gone HS4.out hjn haj
                    go_wp2_with fail
                    clear x2
                    refine CT.out.mono ?_
                    rintro _ v5 ⟨rfl, hv5⟩
                    have hv6 := bel_trans hv5 (bel_alloc v5 (.cells #[.int .i64 0, .int .i64 0] 31))
                    have x2 := HCD.out _ (HW4.out.trans (hv6.mono (Nat.le_trans hwB hB4)))
                    have CD : Hid (Calls Tryd.prog 10 #[.pointer (some ⟨g, 0, none⟩), .int .i64 (j : Int)] (v5.alloc (.cells #[.int .i64 0, .int .i64 0] 31)) fun r w' => r = .returned (.int .i64 21) ∧ Below (v5.alloc (.cells #[.int .i64 0, .int .i64 0] 31)).heap.size (v5.alloc (.cells #[.int .i64 0, .int .i64 0] 31)) w') := tDrop_gone (HS4.out.keeps hv6) hjn haj
                    go_wp2_with fail
                    clear x2
                    refine CD.out.mono ?_
                    rintro _ v7 ⟨rfl, hv7⟩
                    have hv8 := bel_trans hv6 hv7
                    have hB8 := Nat.le_trans hB4 hv8.size
                    have HS8 := hideIt (HS4.out.keeps hv8)
                    have HW8 := hideIt (HW4.out.trans (hv8.mono (Nat.le_trans hwB hB4)))
                    clear CT CD haj hv5 hv6 hv7
                    have CG : Hid (Calls Tryd.prog 11 #[.pointer (some ⟨g, 0, none⟩)] v7 fun r w' => r = .returned (.int .i64 (n : Int)) ∧ Below v7.heap.size v7 w') := tGiven (HS8.out)
                    go_wp2_with fail
                    refine CG.out.mono ?_
                    rintro _ e1 ⟨rfl, he1⟩
                    go_wp2
                    go_roundw
                    case rel => exact ⟨k + 1, n, s, _, _, _, _, by omega, by go_num, (by first | rfl | go_num), by omega, Nat.le_trans hB8 he1.size, HS8.out.keeps he1, HW8.out.trans (he1.mono (Nat.le_trans hwB hB8))⟩
                    case measure => simp [intOf]; omega
                  · have CT : Hid (Calls Tryd.prog 7 #[.pointer (some ⟨g, 0, none⟩), .int .i64 (j : Int)] v4 fun r w' => r = .returned (.tuple #[.agg #[.int .i64 (px j), .int .i64 (py j)], .int .i64 0]) ∧ Below v4.heap.size v4 w') := tAt_ok HS4.out hjn haj
                    obtain ⟨r1, r2, o1, o2, e1, e2⟩ := HS4.out.stF.nrm j hjn
                    go_wp2_with fail
                    clear x2
                    refine CT.out.mono ?_
                    rintro _ v5 ⟨rfl, hv5⟩
                    have p_k := t_new v5 (.cells #[.int .i64 (px j), .int .i64 (py j)] 31)
                    have hv6 := bel_trans hv5 (bel_alloc v5 (.cells #[.int .i64 (px j), .int .i64 (py j)] 31))
                    have hB6 := Nat.le_trans hB4 hv6.size
                    have HW6 := hideIt (HW4.out.trans (hv6.mono (Nat.le_trans hwB hB4)))
                    have x2 := HCD.out _ HW6.out
                    have CD : Hid (Calls Tryd.prog 10 #[.pointer (some ⟨g, 0, none⟩), .int .i64 (j : Int)] (v5.alloc (.cells #[.int .i64 (px j), .int .i64 (py j)] 31)) fun r w' => r = .returned (.int .i64 0) ∧ SetR B w' g (n) (s - 1) px py (updT al j false) (fdel f (px j) (py j)) ∧ FrS B (v5.alloc (.cells #[.int .i64 (px j), .int .i64 (py j)] 31)) w') := tDrop_ok (HS4.out.keeps hv6) hB6 hjn haj
                    clear CT haj hv5
                    go_wp2_with fail
                    clear x2
                    generalize v5.heap.size = pb at *
                    generalize v5.alloc (.cells #[.int .i64 (px j), .int .i64 (py j)] 31) = v6 at *
                    refine CD.out.mono ?_
                    rintro _ v7 ⟨rfl, S7, F7⟩
                    have p_7 := F7.blk p_k (by decide) (by decide)
                    have hB7 := Nat.le_trans hB6 F7.size
                    have HW7 : Hid (Below w.heap.size w v7) := HW6.out.trans ((F7.below hB6).mono hwB)
                    have CA : Hid (Calls Tryd.prog 6 #[.pointer (some ⟨g, 0, none⟩), .agg #[.int .i64 (px j), .int .i64 (py j)]] v7 fun r w' => ∃ px9 py9 al9 f9 s9, r = .returned (.tuple #[.int .i64 (n : Int), .int .i64 0]) ∧ SetR B w' g (n + 1) s9 px9 py9 al9 f9 ∧ FrS B v7 w') := by
                      have := tAdd_new S7 (HL.out _ HW7.out) r1 r2 hB7 (by rw [o1, o2]; rfl) (by rw [e1, e2]; exact fdel_at _ _ _) (by omega)
                      refine this.mono ?_
                      rintro r w' ⟨rfl, q1, q2⟩
                      exact ⟨_, _, _, _, _, by first | rfl | (rw [HNI]), q1, q2⟩
                    obtain ⟨m0, m1, _, _⟩ := t_blkC p_7
                    clear S7 F7 p_k p_7 e1 e2 o1 o2 r1 r2
                    generalize px j = X at *
                    generalize py j = Y at *
                    go_wp2_with fail
                    clear m0 m1
                    refine CA.out.mono ?_
                    rintro _ v8 ⟨px9, py9, al9, f9, s9, rfl, S8, F8⟩
                    have HS8 := hideIt S8
                    have HW8 : Hid (Below w.heap.size w v8) := HW7.out.trans ((F8.below hB7).mono hwB)
                    have hB8 := Nat.le_trans hB7 F8.size
                    clear S8 F8 CA CD
                    go_wp2_with fail
                    have CG : Hid (Calls Tryd.prog 11 #[.pointer (some ⟨g, 0, none⟩)] v8 fun r w' => r = .returned (.int .i64 ((n : Int) + 1)) ∧ Below v8.heap.size v8 w') := by have := tGiven (HS8.out); rwa [show ((n + 1 : Nat) : Int) = (n : Int) + 1 from by omega] at this
                    go_wp2_with fail
                    refine CG.out.mono ?_
                    rintro _ e1 ⟨rfl, he1⟩
                    go_wp2
                    go_roundw
                    case rel => exact ⟨k + 1, n + 1, s9, _, _, _, _, by omega, by go_num, (by first | rfl | go_num), by omega, Nat.le_trans hB8 he1.size, HS8.out.keeps he1, HW8.out.trans (he1.mono (Nat.le_trans hwB hB8))⟩
                    case measure => simp [intOf]; omega
                · have d2 : ¬ (j : Int) < (n : Int) := by omega
                  have CG : Hid (Calls Tryd.prog 11 #[.pointer (some ⟨g, 0, none⟩)] v4 fun r w' => r = .returned (.int .i64 (n : Int)) ∧ Below v4.heap.size v4 w') := tGiven (HS4.out)
                  go_wp2_with fail
                  refine CG.out.mono ?_
                  rintro _ e1 ⟨rfl, he1⟩
                  go_wp2
                  go_roundw
                  case rel => exact ⟨k + 1, n, s, _, _, _, _, by omega, by go_num, (by first | rfl | go_num), by omega, Nat.le_trans hB4 he1.size, HS4.out.keeps he1, HW4.out.trans (he1.mono (Nat.le_trans hwB hB4))⟩
                  case measure => simp [intOf]; omega
              · have d2 : ¬ (0 : Int) ≤ z1 k := hneg
                generalize z1 k = zk at *
                have CG : Hid (Calls Tryd.prog 11 #[.pointer (some ⟨g, 0, none⟩)] v4 fun r w' => r = .returned (.int .i64 (n : Int)) ∧ Below v4.heap.size v4 w') := tGiven (HS4.out)
                go_wp2_with fail
                refine CG.out.mono ?_
                rintro _ e1 ⟨rfl, he1⟩
                go_wp2
                go_roundw
                case rel => exact ⟨k + 1, n, s, _, _, _, _, by omega, by go_num, (by first | rfl | go_num), by omega, Nat.le_trans hB4 he1.size, HS4.out.keeps he1, HW4.out.trans (he1.mono (Nat.le_trans hwB hB4))⟩
                case measure => simp [intOf]; omega
            · have d1 : ¬ (k : Int) < (l1 : Int) := by omega
              have CG : Hid (Calls Tryd.prog 11 #[.pointer (some ⟨g, 0, none⟩)] v4 fun r w' => r = .returned (.int .i64 (n : Int)) ∧ Below v4.heap.size v4 w') := tGiven (HS4.out)
              go_wp2_with fail
              refine CG.out.mono ?_
              rintro _ e1 ⟨rfl, he1⟩
              go_wp2
              go_roundw
              case rel => exact ⟨k + 1, n, s, _, _, _, _, by omega, by go_num, (by first | rfl | go_num), by omega, Nat.le_trans hB4 he1.size, HS4.out.keeps he1, HW4.out.trans (he1.mono (Nat.le_trans hwB hB4))⟩
              case measure => simp [intOf]; omega
        | none =>
          have CA : Hid (Calls Tryd.prog 6 #[.pointer (some ⟨g, 0, none⟩), .agg #[.int .i64 x, .int .i64 y]] wr fun r w' => r = .returned (.tuple #[.int .i64 n, .int .i64 0]) ∧ SetR B w' g (n + 1) (s + 1) (updT px n (q0 x)) (updT py n (q0 y)) (updT al n true) (fput f (q0 x) (q0 y) n) ∧ FrS B wr w') := tAdd_new HS.out (HL.out _ HW.out) rx ry hBr hp hf (by omega)
          clear hf CA0 hp CC
          go_wp2_with fail
          refine CA.out.mono ?_
          rintro _ v4 ⟨rfl, S4, F4⟩
          have HS4 := hideIt S4
          have HW4 : Hid (Below w.heap.size w v4) := HW.out.trans ((F4.below hBr).mono hwB)
          have hB4 := Nat.le_trans hBr F4.size
          clear S4 F4 CA HS HW hBr
          have hn' : n + 1 ≤ 2 * k + 1 := by omega
          have HNI : ((n + 1 : Nat) : Int) = (n : Int) + 1 := by omega
          generalize updT px n (q0 x) = px' at *
          generalize updT py n (q0 y) = py' at *
          generalize updT al n true = al' at *
          generalize fput f (q0 x) (q0 y) n = f' at *
          by_cases hd : k < l1
          · have d1 : (k : Int) < (l1 : Int) := by omega
            obtain ⟨bd, od, rfl, hbd, hcd⟩ := HR.out.spot (by omega)
            have HCD : Hid (∀ W, Below w.heap.size w W → W.cell? ⟨bd, od + k, none⟩ = some (.int .i64 (z1 k))) := fun W hb => (hb.cell (p := ⟨bd, od + k, none⟩) hbd).trans (hcd k hd)
            clear hcd
            have x2 := HCD.out _ HW4.out
            by_cases hneg : 0 ≤ z1 k
            · obtain ⟨j, hj⟩ : ∃ j : Nat, z1 k = (j : Int) := ⟨(z1 k).toNat, by omega⟩
              rw [hj] at HCD x2 hneg
              clear hj
              by_cases hjn : j < n + 1
              · have d2 : (j : Int) < ((n : Int) + 1) := by omega
                cases haj : al' j
                · have CT : Hid (Calls Tryd.prog 7 #[.pointer (some ⟨g, 0, none⟩), .int .i64 (j : Int)] v4 fun r w' => r = .returned (.tuple #[.agg #[.int .i64 0, .int .i64 0], .int .i64 21]) ∧ Below v4.heap.size v4 w') := tAt_gone HS4.out hjn haj
                  go_wp2_with fail
                  clear x2
                  refine CT.out.mono ?_
                  rintro _ v5 ⟨rfl, hv5⟩
                  have hv6 := bel_trans hv5 (bel_alloc v5 (.cells #[.int .i64 0, .int .i64 0] 31))
                  have x2 := HCD.out _ (HW4.out.trans (hv6.mono (Nat.le_trans hwB hB4)))
                  have CD : Hid (Calls Tryd.prog 10 #[.pointer (some ⟨g, 0, none⟩), .int .i64 (j : Int)] (v5.alloc (.cells #[.int .i64 0, .int .i64 0] 31)) fun r w' => r = .returned (.int .i64 21) ∧ Below (v5.alloc (.cells #[.int .i64 0, .int .i64 0] 31)).heap.size (v5.alloc (.cells #[.int .i64 0, .int .i64 0] 31)) w') := tDrop_gone (HS4.out.keeps hv6) hjn haj
                  go_wp2_with fail
                  clear x2
                  refine CD.out.mono ?_
                  rintro _ v7 ⟨rfl, hv7⟩
                  have hv8 := bel_trans hv6 hv7
                  have hB8 := Nat.le_trans hB4 hv8.size
                  have HS8 := hideIt (HS4.out.keeps hv8)
                  have HW8 := hideIt (HW4.out.trans (hv8.mono (Nat.le_trans hwB hB4)))
                  clear CT CD haj hv5 hv6 hv7
                  have CG : Hid (Calls Tryd.prog 11 #[.pointer (some ⟨g, 0, none⟩)] v7 fun r w' => r = .returned (.int .i64 ((n : Int) + 1)) ∧ Below v7.heap.size v7 w') := by have := tGiven (HS8.out); rwa [HNI] at this
                  go_wp2_with fail
                  refine CG.out.mono ?_
                  rintro _ e1 ⟨rfl, he1⟩
                  go_wp2
                  go_roundw
                  case rel => exact ⟨k + 1, n + 1, (s + 1), _, _, _, _, by omega, by go_num, (by first | rfl | go_num), by omega, Nat.le_trans hB8 he1.size, HS8.out.keeps he1, HW8.out.trans (he1.mono (Nat.le_trans hwB hB8))⟩
                  case measure => simp [intOf]; omega
                · have CT : Hid (Calls Tryd.prog 7 #[.pointer (some ⟨g, 0, none⟩), .int .i64 (j : Int)] v4 fun r w' => r = .returned (.tuple #[.agg #[.int .i64 (px' j), .int .i64 (py' j)], .int .i64 0]) ∧ Below v4.heap.size v4 w') := tAt_ok HS4.out hjn haj
                  obtain ⟨r1, r2, o1, o2, e1, e2⟩ := HS4.out.stF.nrm j hjn
                  go_wp2_with fail
                  clear x2
                  refine CT.out.mono ?_
                  rintro _ v5 ⟨rfl, hv5⟩
                  have p_k := t_new v5 (.cells #[.int .i64 (px' j), .int .i64 (py' j)] 31)
                  have hv6 := bel_trans hv5 (bel_alloc v5 (.cells #[.int .i64 (px' j), .int .i64 (py' j)] 31))
                  have hB6 := Nat.le_trans hB4 hv6.size
                  have HW6 := hideIt (HW4.out.trans (hv6.mono (Nat.le_trans hwB hB4)))
                  have x2 := HCD.out _ HW6.out
                  have CD : Hid (Calls Tryd.prog 10 #[.pointer (some ⟨g, 0, none⟩), .int .i64 (j : Int)] (v5.alloc (.cells #[.int .i64 (px' j), .int .i64 (py' j)] 31)) fun r w' => r = .returned (.int .i64 0) ∧ SetR B w' g (n + 1) ((s + 1) - 1) px' py' (updT al' j false) (fdel f' (px' j) (py' j)) ∧ FrS B (v5.alloc (.cells #[.int .i64 (px' j), .int .i64 (py' j)] 31)) w') := tDrop_ok (HS4.out.keeps hv6) hB6 hjn haj
                  clear CT haj hv5
                  go_wp2_with fail
                  clear x2
                  generalize v5.heap.size = pb at *
                  generalize v5.alloc (.cells #[.int .i64 (px' j), .int .i64 (py' j)] 31) = v6 at *
                  refine CD.out.mono ?_
                  rintro _ v7 ⟨rfl, S7, F7⟩
                  have p_7 := F7.blk p_k (by decide) (by decide)
                  have hB7 := Nat.le_trans hB6 F7.size
                  have HW7 : Hid (Below w.heap.size w v7) := HW6.out.trans ((F7.below hB6).mono hwB)
                  have CA : Hid (Calls Tryd.prog 6 #[.pointer (some ⟨g, 0, none⟩), .agg #[.int .i64 (px' j), .int .i64 (py' j)]] v7 fun r w' => ∃ px9 py9 al9 f9 s9, r = .returned (.tuple #[.int .i64 ((n : Int) + 1), .int .i64 0]) ∧ SetR B w' g (n + 1 + 1) s9 px9 py9 al9 f9 ∧ FrS B v7 w') := by
                    have := tAdd_new S7 (HL.out _ HW7.out) r1 r2 hB7 (by rw [o1, o2]; rfl) (by rw [e1, e2]; exact fdel_at _ _ _) (by omega)
                    refine this.mono ?_
                    rintro r w' ⟨rfl, q1, q2⟩
                    exact ⟨_, _, _, _, _, by first | rfl | (rw [HNI]), q1, q2⟩
                  obtain ⟨m0, m1, _, _⟩ := t_blkC p_7
                  clear S7 F7 p_k p_7 e1 e2 o1 o2 r1 r2
                  generalize px' j = X at *
                  generalize py' j = Y at *
                  go_wp2_with fail
                  clear m0 m1
                  refine CA.out.mono ?_
                  rintro _ v8 ⟨px9, py9, al9, f9, s9, rfl, S8, F8⟩
                  have HS8 := hideIt S8
                  have HW8 : Hid (Below w.heap.size w v8) := HW7.out.trans ((F8.below hB7).mono hwB)
                  have hB8 := Nat.le_trans hB7 F8.size
                  clear S8 F8 CA CD
                  go_wp2_with fail
                  have CG : Hid (Calls Tryd.prog 11 #[.pointer (some ⟨g, 0, none⟩)] v8 fun r w' => r = .returned (.int .i64 ((n : Int) + 1 + 1)) ∧ Below v8.heap.size v8 w') := by have := tGiven (HS8.out); rwa [show ((n + 1 + 1 : Nat) : Int) = (n : Int) + 1 + 1 from by omega] at this
                  go_wp2_with fail
                  refine CG.out.mono ?_
                  rintro _ e1 ⟨rfl, he1⟩
                  go_wp2
                  go_roundw
                  case rel => exact ⟨k + 1, n + 1 + 1, s9, _, _, _, _, by omega, by go_num, (by first | rfl | go_num), by omega, Nat.le_trans hB8 he1.size, HS8.out.keeps he1, HW8.out.trans (he1.mono (Nat.le_trans hwB hB8))⟩
                  case measure => simp [intOf]; omega
              · have d2 : ¬ (j : Int) < ((n : Int) + 1) := by omega
                have CG : Hid (Calls Tryd.prog 11 #[.pointer (some ⟨g, 0, none⟩)] v4 fun r w' => r = .returned (.int .i64 ((n : Int) + 1)) ∧ Below v4.heap.size v4 w') := by have := tGiven (HS4.out); rwa [HNI] at this
                go_wp2_with fail
                refine CG.out.mono ?_
                rintro _ e1 ⟨rfl, he1⟩
                go_wp2
                go_roundw
                case rel => exact ⟨k + 1, n + 1, (s + 1), _, _, _, _, by omega, by go_num, (by first | rfl | go_num), by omega, Nat.le_trans hB4 he1.size, HS4.out.keeps he1, HW4.out.trans (he1.mono (Nat.le_trans hwB hB4))⟩
                case measure => simp [intOf]; omega
            · have d2 : ¬ (0 : Int) ≤ z1 k := hneg
              generalize z1 k = zk at *
              have CG : Hid (Calls Tryd.prog 11 #[.pointer (some ⟨g, 0, none⟩)] v4 fun r w' => r = .returned (.int .i64 ((n : Int) + 1)) ∧ Below v4.heap.size v4 w') := by have := tGiven (HS4.out); rwa [HNI] at this
              go_wp2_with fail
              refine CG.out.mono ?_
              rintro _ e1 ⟨rfl, he1⟩
              go_wp2
              go_roundw
              case rel => exact ⟨k + 1, n + 1, (s + 1), _, _, _, _, by omega, by go_num, (by first | rfl | go_num), by omega, Nat.le_trans hB4 he1.size, HS4.out.keeps he1, HW4.out.trans (he1.mono (Nat.le_trans hwB hB4))⟩
              case measure => simp [intOf]; omega
          · have d1 : ¬ (k : Int) < (l1 : Int) := by omega
            have CG : Hid (Calls Tryd.prog 11 #[.pointer (some ⟨g, 0, none⟩)] v4 fun r w' => r = .returned (.int .i64 ((n : Int) + 1)) ∧ Below v4.heap.size v4 w') := by have := tGiven (HS4.out); rwa [HNI] at this
            go_wp2_with fail
            refine CG.out.mono ?_
            rintro _ e1 ⟨rfl, he1⟩
            go_wp2
            go_roundw
            case rel => exact ⟨k + 1, n + 1, (s + 1), _, _, _, _, by omega, by go_num, (by first | rfl | go_num), by omega, Nat.le_trans hB4 he1.size, HS4.out.keeps he1, HW4.out.trans (he1.mono (Nat.le_trans hwB hB4))⟩
            case measure => simp [intOf]; omega
    · obtain rfl : k = l0 := by omega
      have i1 : ¬ (k : Int) < (k : Int) := by omega
      have CP : Hid (Calls Tryd.prog 12 #[.pointer (some ⟨g, 0, none⟩)] wr fun r w' => ∃ b, r = .returned (.slice (some ⟨b, 0, none⟩) n n) ∧ PtS w' (some ⟨b, 0, none⟩) n n px py ∧ Below wr.heap.size wr w') := tPoints HS.out
      have HNR := hideIt HS.out.stF.nrm
      go_wp2_with fail
      refine CP.out.mono ?_
      rintro _ v1 ⟨b, rfl, hPt, hv1⟩
      have HPT := hideIt hPt
      have HW1 : Hid (Below w.heap.size w v1) := HW.out.trans (hv1.mono (Nat.le_trans hwB hBr))
      have hB1 := Nat.le_trans hBr hv1.size
      clear hPt CP HS HW
      go_wp2_with fail
      go_loopw [19] (fun iv wr2 => ∃ j : Nat, j ≤ n ∧ iv = .int .i64 j ∧ Below v1.heap.size v1 wr2) (fun iv _ => n - (intOf iv).toNat)
      case atStart => exact ⟨0, Nat.zero_le _, rfl, bel_refl _⟩
      case round =>
        obtain ⟨j, hj, rfl, hb2⟩ := hrel
        by_cases hjl : j < n
        · have j0 : (0 : Int) ≤ (j : Int) := by omega
          have j1 : (j : Int) < (n : Int) := by omega
          obtain ⟨b', o', e, hlt', hc⟩ := HPT.out.spot (by omega)
          simp only [Option.some.injEq, Addr.mk.injEq, and_true] at e
          obtain ⟨rfl, rfl⟩ := e
          obtain ⟨q1, q2⟩ := hc j hjl
          have q1 := q_cell q1 hb2
          have q2 := q_cell q2 hb2
          rw [Nat.zero_add] at q1 q2
          obtain ⟨r1, r2, o1, o2, e1, e2⟩ := HNR.out j hjl
          have m1 := q0_ne e1
          have m2 := q0_ne e2
          have CK : Hid (∀ W, Calls Tryd.prog 9 #[.agg #[.int .i64 (px j), .int .i64 (py j)]] W fun e w' => e = .returned (.int .i64 0) ∧ Below W.heap.size W w') := fun W => by
            have := pointCheck r1 r2 W
            rw [o1, o2] at this
            exact this
          clear hc hlt' e1 e2 o1 o2 r1 r2
          generalize px j = X at *
          generalize py j = Y at *
          have m3 : (X == -9223372036854775808) = false := by simp [m1]
          have m4 : (Y == -9223372036854775808) = false := by simp [m2]
          have m5 : decide (X = -9223372036854775808) = false := decide_eq_false m1
          have m6 : decide (Y = -9223372036854775808) = false := decide_eq_false m2
          clear m1 m2
          go_wp2_with fail
          refine (CK.out _).mono ?_
          rintro _ v2 ⟨rfl, hv2⟩
          go_wp2
          go_roundw
          case rel => exact ⟨j + 1, by omega, by go_num, bel_trans hb2 hv2⟩
          case measure => simp [intOf]; omega
        · obtain rfl : j = n := by omega
          have j1 : ¬ (j : Int) < (j : Int) := by omega
          go_wp2
          go_ret
          exact ⟨rfl, HW1.out.trans (hb2.mono (Nat.le_trans hwB hB1))⟩
theorem own : ownKnob Tryd.prog.godebug = none := by kernel_rfl
theorem laidOut : laidOutB Tryd.prog = true := by kernel_rfl
theorem door_met (os : Os) (args : Array Value) : laidMetH Tryd.prog Rows.sitesNumbersRow.laid ((World.doorLaid Tryd.prog 400 os).forCall (fun _ _ => 0) ⟨#[], args, []⟩).memory :=
  laidMetH_of_parts3 (fuel := 8) (laidMet_of_run' 8 (by kernel_rfl) (by kernel_rfl)) (by kernel_rfl) (by kernel_rfl)
set_option maxRecDepth 100000 in
theorem lifted (os : Os) (started : os.Started) (H : Type) (enc : TypeId × Value → H) :
    ReturnsInHanded {} Tryd.checked os 3 .any (fun w args => (Rows.sitesNumbersSpec.pre enc Tryd.prog Tryd.f3 [] false w args ∧ laidMetH Tryd.prog Rows.sitesNumbersRow.laid w) ∧ sizedMet enc Tryd.prog Tryd.f3 (OpenSpec.ofChange Rows.sitesNumbersSpec) false w args)
      (Rows.sitesNumbersSpec.post enc Tryd.prog Tryd.f3 false true false false) := by
  refine returnsInHanded_of_change_and (C := Tryd.checked) (X := fun w _ => laidMetH Tryd.prog Rows.sitesNumbersRow.laid w) (fun _ _ _ hh h => h.of_heap hh) own started (by kernel_rfl) Tryd.func3
    (ChangeSpec.witness_shaped (enc := enc) (C := Tryd.checked) (os := os) (X := fun w _ => laidMetH Tryd.prog Rows.sitesNumbersRow.laid w) false (World.doorLaid Tryd.prog 400 os) #[.slice none 0 0, .slice none 0 0] 8 rfl (World.shaped_of_RefB (by kernel_rfl) (by kernel_rfl)) (by kernel_rfl) (by kernel_rfl) (by kernel_rfl) (door_met os _)) ?_
  intro W base args ds gs before hval0 hW _ hsz hL _
  have hval : ∀ (j : Nat) t v, Tryd.f3.params[j]? = some t → args[j]? = some v → Value.okWide Tryd.prog W .any base t v := hval0
  have hW' := hW
  obtain ⟨p, q, hA0, hV, rfl, hfz, hnd⟩ := hW
  have hA : DataW.TrodAll enc Tryd.prog W 0 (fun _ => true) true Tryd.f3.params.toList args.toList ds p := hA0
  rw [Tryd.params3] at hA hval
  obtain ⟨v0, vs0, d0, ds0, p0, q0, hargs, rfl, rfl, h0, r0⟩ := trodAll_cons hA
  obtain ⟨v1, vs1, d1, ds1, p1, q1, rfl, rfl, rfl, h1, r1⟩ := trodAll_cons r0
  obtain ⟨rfl, rfl, rfl⟩ := trodAll_nil r1
  obtain rfl : args = #[v0, v1] := by cases args; simp_all
  obtain ⟨rfl, rfl⟩ := trodVars_none hV
  obtain ⟨a0, l0, c0, rfl⟩ := okWide_slice Tryd.underlying22 (hval 0 22 v0 rfl rfl)
  have k0 := h0
  have lt0 : ∀ x ∈ p0, x.block < W.heap.size := by obtain ⟨m, hm⟩ := k0; exact DataW.trod_lt m _ _ _ hm
  obtain ⟨fu0, hf0⟩ := h0
  obtain ⟨z0, w0⟩ := pts_of (by simpa [Value.cells] using hf0) (fun n hn => of_decide_eq_true (List.all_eq_true.1 hsz n (DataW.weights_mem_each (j := 0) (t := 22) (by kernel_rfl) rfl n hn)))
  obtain ⟨a1, l1, c1, rfl⟩ := okWide_slice Tryd.underlying23 (hval 1 23 v1 rfl rfl)
  have k1 := h1
  have lt1 : ∀ x ∈ p1, x.block < W.heap.size := by obtain ⟨m, hm⟩ := k1; exact DataW.trod_lt m _ _ _ hm
  obtain ⟨z1, w1, g1⟩ := row_of h1
  clear hA0 hval0
  refine (walk a0 l0 c0 z0 a1 l1 c1 z1 W w0 w1 g1 (laysC_of hL)).mono fun e W' ⟨he, bel⟩ => ?_
  subst he
  exact ⟨_, rfl, _, _, _, [], _, [], hW', trodAll_mk1 (shut_bool Tryd.underlying4 _), (trodAll_cons_mk (Below.trod laidOut (by kernel_rfl) (of_decide_eq_true (by kernel_rfl)) k0 bel lt0) (trodAll_cons_mk (Below.trod laidOut (by kernel_rfl) (of_decide_eq_true (by kernel_rfl)) k1 bel lt1) trodAll_mk0)), rfl, bel.frame _, fun h => by cases h⟩
theorem said : Rows.SitesNumbersSaid :=
  OpenClaim.holds_of_wide 3 Tryd.f3 rfl rfl rfl rfl rfl rfl rfl ⟨rfl, rfl, rfl, rfl, rfl⟩ rfl rfl rfl rfl rfl (by kernel_rfl) Tryd.func3 (by kernel_rfl)
    (of_decide_eq_true (by kernel_rfl)) (by unfold Func.isWrapper; first | (rw [if_pos (by decide +kernel)]; kernel_rfl) | (rw [if_neg (by decide +kernel)]; exact ⟨rfl, rfl⟩))
    (fun os started H enc _ => lifted os started H enc)
theorem plain (f : FuncId) (fn : Func) (hf : Tryd.pinned.checked.prog.funcNamed Tryd.f3.name = some f) (hfn : Tryd.pinned.checked.prog.funcs[f]? = some fn) :
    false = Tryd.pinned.checked.prog.looks [] ∧ ∀ (j : Nat) t, fn.params[j]? = some t → Tryd.pinned.checked.prog.wantsStandIn t = false := by
  obtain rfl : f = 3 := Option.some.inj ((show Tryd.prog.funcNamed Tryd.f3.name = some 3 by kernel_rfl).symm.trans hf) |>.symm
  obtain rfl : fn = Tryd.f3 := (Option.some.inj (Tryd.func3.symm.trans hfn)).symm
  refine ⟨by kernel_rfl, fun j t ht => ?_⟩
  rw [Tryd.params3] at ht
  have ht2 : t = 22 ∨ t = 23 := by simpa using Array.mem_of_getElem? ht
  rcases ht2 with rfl | rfl
  · exact (show Tryd.prog.wantsStandIn 22 = false by kernel_rfl)
  · exact (show Tryd.prog.wantsStandIn 23 = false by kernel_rfl)
/-- THE CARD. -/
theorem card : Rows.SitesNumbersCardSaid :=
  Claim7.holds_tied_plain_at .later [] _ _ _ _ said (fun _ h => by cases h) (by kernel_rfl) (fun _ h => by cases h) sitesNumbers_row_tie rfl ⟨rfl, rfl⟩ (by kernel_rfl) rfl plain (by kernel_rfl)
end Go.Proofs.YtejbjaddfjelaaaDoor.sitesNumbers
namespace Go.Proofs.YtejbjaddfjelaaaDoor
/-- SitesNumbers: the statement as it is given. -/
theorem sitesNumbers_holds : Rows.SitesNumbersCardSaid := sitesNumbers.card
end Go.Proofs.YtejbjaddfjelaaaDoor
