/-
  RoundWhole's walk, case A.
-/
import Derived.Test.YteobbaefodckfaaDoorPart16
namespace Go.Proofs.YteobbaefodckfaaDoor.roundWhole
open Go Go.RowKit Go.Proofs.YteobbaefodckfaaDoor Go.Proofs.YteobbaefodckfaaDoor.M
set_option linter.unusedSimpArgs false
set_option linter.unusedVariables false

set_option maxRecDepth 100000 in
set_option maxHeartbeats 40000000 in
theorem walkA (n b : Int) (w : World) (hn : rng n) (hb : rng b) (H : Hold4 w) (c : n < 9007199254740992) (c' : -9007199254740992 < n) :
    Calls Tryd.prog 3 #[.int .i64 n, .int .i64 b] w fun e w' => e = .returned (.bool true) ∧ Below w.heap.size w w' := by
  obtain ⟨d, hd, rd, pd, k, kV, rk, kn, ks⟩ := from_down hn
  obtain ⟨t1, t2⟩ := ti_whole (way := 0) rd pd kV rk
  have C1 := fromInt_ok n 1 hn (by decide) w H
  rw [← hd] at C1
  have C2 : Hid (∀ W, Hold4 W → Calls Tryd.prog 5 #[.int .i64 d, .int .i64 0] W fun e w' => e = .returned (.tuple #[.int .i64 k, .bool true, .int .i64 0]) ∧ Below W.heap.size W w') := fun W HW => by
    have := toInt_ok d 0 rd (by decide) pd W HW
    rw [t1, t2] at this
    exact this
  have HH : Hid (Hold4 w) := H
  have ck := ks c c'
  have hkn : ¬ n < k := by omega
  have cl := fun W (L : Lays W) => bitsClass b W L
  clear ks kV t1 t2 rd pd hd H
  unfold rng at hn rk
  go_enter Tryd.func3, Tryd.ntmps3
  go_wp2_with fail
  refine C1.mono ?_
  rintro _ w1 ⟨rfl, b1⟩
  have H1 : Hid (Hold4 w1) := HH.out.keeps b1
  clear C1 HH
  go_wp2_with fail
  refine (C2.out _ H1.out).mono ?_
  rintro _ w2 ⟨rfl, b2⟩
  have H2 : Hid (Hold4 w2) := H1.out.keeps b2
  have hb2 := bel_trans b1 b2
  clear C2 H1 b1 b2
  go_wp2_with fail
  refine (alive4 _ H2.out.env H2.out.tab).mono ?_
  rintro _ w3 ⟨rfl, b3⟩
  have H3 : Hid (Hold4 w3) := H2.out.keeps b3
  have hb3 := bel_trans hb2 b3
  clear H2 b3 hb2
  have CF := fun W => bitsFloat b W
  have CO : Hid (∀ (way : Int) (W : World), 0 ≤ way ∧ way ≤ 3 → Hold4 W → Calls Tryd.prog 5 #[.int .i64 b, .int .i64 way] W fun e w' => e = .returned (.tuple #[.int .i64 (if pok b then tiN (pneg b) (tiU way b) else 0), .bool (pok b && tiB (pneg b) (tiU way b)), .int .i64 0]) ∧ Below W.heap.size W w') := fun way W hw HW => by
    cases hp : pok b
    · exact toInt_no b way hb hw hp W HW
    · have := toInt_ok b way hb hw hp W HW
      simpa using this
  obtain ⟨p, hpE⟩ : ∃ p, (if pok b then tiN (pneg b) (tiU 1 b) else 0) = p := ⟨_, rfl⟩
  obtain ⟨q, hqE⟩ : ∃ p, (if pok b then tiN (pneg b) (tiU 2 b) else 0) = p := ⟨_, rfl⟩
  obtain ⟨z, hzE⟩ : ∃ p, (if pok b then tiN (pneg b) (tiU 3 b) else 0) = p := ⟨_, rfl⟩
  obtain ⟨m, hmE⟩ : ∃ p, (if pok b then tiN (pneg b) (tiU 0 b) else 0) = p := ⟨_, rfl⟩
  obtain ⟨pB, hpB⟩ : ∃ p, (pok b && tiB (pneg b) (tiU 1 b)) = p := ⟨_, rfl⟩
  obtain ⟨qB, hqB⟩ : ∃ p, (pok b && tiB (pneg b) (tiU 2 b)) = p := ⟨_, rfl⟩
  obtain ⟨zB, hzB⟩ : ∃ p, (pok b && tiB (pneg b) (tiU 3 b)) = p := ⟨_, rfl⟩
  obtain ⟨mB, hmB⟩ : ∃ p, (pok b && tiB (pneg b) (tiU 0 b)) = p := ⟨_, rfl⟩
  have D1 := fun W HW => CO.out 1 W (by decide) HW
  have D2 := fun W HW => CO.out 2 W (by decide) HW
  have D3 := fun W HW => CO.out 3 W (by decide) HW
  have D0 := fun W HW => CO.out 0 W (by decide) HW
  rw [hpE, hpB] at D1
  rw [hqE, hqB] at D2
  rw [hzE, hzB] at D3
  rw [hmE, hmB] at D0
  have E1 : Hid (∀ W, Hold4 W → _) := D1
  have E2 : Hid (∀ W, Hold4 W → _) := D2
  have E3 : Hid (∀ W, Hold4 W → _) := D3
  have E0 : Hid (∀ W, Hold4 W → _) := D0
  have T1 : Hid ((if pok b then tiN (pneg b) (tiU 1 b) else 0) = p ∧ (if pok b then tiN (pneg b) (tiU 2 b) else 0) = q ∧ (if pok b then tiN (pneg b) (tiU 3 b) else 0) = z ∧ (if pok b then tiN (pneg b) (tiU 0 b) else 0) = m) := ⟨hpE, hqE, hzE, hmE⟩
  have T2 : Hid ((pok b && tiB (pneg b) (tiU 1 b)) = pB ∧ (pok b && tiB (pneg b) (tiU 2 b)) = qB ∧ (pok b && tiB (pneg b) (tiU 3 b)) = zB ∧ (pok b && tiB (pneg b) (tiU 0 b)) = mB) := ⟨hpB, hqB, hzB, hmB⟩
  clear D1 D2 D3 D0 CO hpE hqE hzE hmE hpB hqB hzB hmB
  subst ck
  go_wp2_with fail
  refine (E1.out _ H3.out).mono ?_
  rintro _ w4 ⟨rfl, b4⟩
  have H4 : Hid (Hold4 w4) := H3.out.keeps b4
  have hb4 := bel_trans hb3 b4
  clear H3 E1 b4 hb3
  go_wp2_with fail
  refine (E2.out _ H4.out).mono ?_
  rintro _ w5 ⟨rfl, b5⟩
  have H5 : Hid (Hold4 w5) := H4.out.keeps b5
  have hb5 := bel_trans hb4 b5
  clear H4 E2 b5 hb4
  go_wp2_with fail
  refine (E3.out _ H5.out).mono ?_
  rintro _ w6 ⟨rfl, b6⟩
  have H6 : Hid (Hold4 w6) := H5.out.keeps b6
  have hb6 := bel_trans hb5 b6
  clear H5 E3 b6 hb5
  go_wp2_with fail
  refine (E0.out _ H6.out).mono ?_
  rintro _ w7 ⟨rfl, b7⟩
  have H7 : Hid (Hold4 w7) := H6.out.keeps b7
  have hb7 := bel_trans hb6 b7
  clear H6 E0 b7 hb6
  go_wp2_with fail
  refine (cl _ H7.out.env.lays).mono ?_
  rintro _ w8 ⟨rfl, g8⟩
  have hb8 := bel_trans hb7 g8.be
  clear H7 g8 cl hb7
  cases hp : pok b
  · have hcl := cls_no hp
    have e1 : pB = false := by rw [← T2.out.1, hp]; rfl
    have e2 : qB = false := by rw [← T2.out.2.1, hp]; rfl
    have e3 : zB = false := by rw [← T2.out.2.2.1, hp]; rfl
    have e0 : mB = false := by rw [← T2.out.2.2.2, hp]; rfl
    subst e1 e2 e3 e0
    clear T1 T2
    go_wp2
    all_goals go_ret
    all_goals exact ⟨rfl, hb8⟩
  · have hcl := cls_ok hp
    have e1 : tiB (pneg b) (tiU 1 b) = pB := by have := T2.out.1; rw [hp] at this; exact this
    have e2 : tiB (pneg b) (tiU 2 b) = qB := by have := T2.out.2.1; rw [hp] at this; exact this
    have e3 : tiB (pneg b) (tiU 3 b) = zB := by have := T2.out.2.2.1; rw [hp] at this; exact this
    have e0 : tiB (pneg b) (tiU 0 b) = mB := by have := T2.out.2.2.2; rw [hp] at this; exact this
    have n1 : tiN (pneg b) (tiU 1 b) = p := by have := T1.out.1; rw [hp] at this; exact this
    have n2 : tiN (pneg b) (tiU 2 b) = q := by have := T1.out.2.1; rw [hp] at this; exact this
    have n3 : tiN (pneg b) (tiU 3 b) = z := by have := T1.out.2.2.1; rw [hp] at this; exact this
    have n0 : tiN (pneg b) (tiU 0 b) = m := by have := T1.out.2.2.2; rw [hp] at this; exact this
    clear T1 T2
    cases pB
    · have : p = 0 := by rw [← n1]; unfold tiN; rw [e1]; rfl
      subst this
      clear e1 e2 e3 e0 n1 n2 n3 n0
      go_wp2
      all_goals go_ret
      all_goals exact ⟨rfl, hb8⟩
    · cases qB
      · have : q = 0 := by rw [← n2]; unfold tiN; rw [e2]; rfl
        subst this
        clear e1 e2 e3 e0 n1 n2 n3 n0
        go_wp2
        all_goals go_ret
        all_goals exact ⟨rfl, hb8⟩
      · obtain ⟨z1, z2, W4⟩ := whole_law hb hp e1 e2
        rw [z1] at e3
        rw [z2] at e0
        subst e3 e0
        have rP := tiN_rng (pneg b) (tiU 1 b)
        have rQ := tiN_rng (pneg b) (tiU 2 b)
        rw [n1] at rP
        rw [n2] at rQ
        rw [n1, n2, n3, n0] at W4
        clear e1 e2 n1 n2 n3 n0 z1 z2
        obtain ⟨v1, v2, v3, v4, v5, v6, v7, v8, v9, v10⟩ := W4
        obtain ⟨xp, ep, o1, o1'⟩ := int_word hb hp v3
        obtain ⟨xq, eq, _, o2⟩ := int_word hb hp v4
        have o3 := zero_word hb hp
        have k1 : ∀ w : World, (convert 3 29 (.int .i64 p)).run Tryd.prog w = .ok (.float .f64 xp) w := fun w => by rw [cvi, ep]
        have k2 : ∀ w : World, (convert 3 29 (.int .i64 q)).run Tryd.prog w = .ok (.float .f64 xq) w := fun w => by rw [cvi, eq]
        have u1 : IntKind.i64.wrap (q - p) = q - p := by unfold rng at rP rQ; rw [wrap_i64_eq]; omega
        clear rP rQ v3 v4 v5 v6
        by_cases hqp : q = p
        · have hX := v9 hqp
          subst hqp
          have ex : xq = xp := by rw [← ep, ← eq]
          subst ex
          clear k1
          have ez : z = q := by rcases v7 with g | g <;> exact g.1
          have em : m = q := by rcases v8 with g | g <;> exact g
          subst ez em
          rw [hX, cmp_E] at o1 o1'
          have hs := cmp_3 (patV b)
          clear v7 v8 v9 v10 hX o2 ep eq
          have g1 : FloatKind.f64.format.order xq (wd b) = some .eq := o1
          have g2 : FloatKind.f64.format.order (wd b) xq = some .eq := o1'
          generalize wd b = xb at *
          rcases hs with g | g | g
          · rw [g] at o3
            have g3 : FloatKind.f64.format.order xb 0 = some .lt := o3
            clear g o3 o1 o1'
            go_wp2_with fail
            refine (CF _).mono ?_
            rintro _ _ ⟨rfl, rfl⟩
            go_wp2
            all_goals go_ret
            all_goals first | exact ⟨rfl, hb8⟩ | exact ⟨by simp [hqp], hb8⟩
          · rw [g] at o3
            have g3 : FloatKind.f64.format.order xb 0 = some .eq := o3
            clear g o3 o1 o1'
            go_wp2_with fail
            refine (CF _).mono ?_
            rintro _ _ ⟨rfl, rfl⟩
            go_wp2
            all_goals go_ret
            all_goals first | exact ⟨rfl, hb8⟩ | exact ⟨by simp [hqp], hb8⟩
          · rw [g] at o3
            have g3 : FloatKind.f64.format.order xb 0 = some .gt := o3
            clear g o3 o1 o1'
            go_wp2_with fail
            refine (CF _).mono ?_
            rintro _ _ ⟨rfl, rfl⟩
            go_wp2
            all_goals go_ret
            all_goals first | exact ⟨rfl, hb8⟩ | exact ⟨by simp [hqp], hb8⟩
        · obtain ⟨s1, s2⟩ := v10 hqp
          have s3 := cmp_nz (pw_pos 0) v1 s1 s2
          rw [cmp_L s1] at o1
          rw [cmp_L s2] at o2
          have g1 : FloatKind.f64.format.order xp (wd b) = some .lt := o1
          have g2 : FloatKind.f64.format.order (wd b) xq = some .lt := o2
          rcases v7 with ⟨e, g⟩ | ⟨e, g⟩
          · rw [cmp_G (cmp_pz s3 g)] at o3
            have g3 : FloatKind.f64.format.order (wd b) 0 = some .gt := o3
            subst e
            clear g v9 v10 s1 s2 s3 o1 o1' o2 o3 ep eq
            generalize wd b = xb at *
            rcases v8 with e | e
            · subst e
              go_wp2_with fail
              refine (CF _).mono ?_
              rintro _ _ ⟨rfl, rfl⟩
              go_wp2
              all_goals go_ret
              all_goals first | exact ⟨rfl, hb8⟩ | exact ⟨by simp [hqp], hb8⟩
            · subst e
              go_wp2_with fail
              refine (CF _).mono ?_
              rintro _ _ ⟨rfl, rfl⟩
              go_wp2
              all_goals go_ret
              all_goals first | exact ⟨rfl, hb8⟩ | exact ⟨by simp [hqp], hb8⟩
          · rw [cmp_L (cmp_mz s3 g)] at o3
            have g3 : FloatKind.f64.format.order (wd b) 0 = some .lt := o3
            subst e
            clear g v9 v10 s1 s2 s3 o1 o1' o2 o3 ep eq
            generalize wd b = xb at *
            rcases v8 with e | e
            · subst e
              go_wp2_with fail
              refine (CF _).mono ?_
              rintro _ _ ⟨rfl, rfl⟩
              go_wp2
              all_goals go_ret
              all_goals first | exact ⟨rfl, hb8⟩ | exact ⟨by simp [hqp], hb8⟩
            · subst e
              go_wp2_with fail
              refine (CF _).mono ?_
              rintro _ _ ⟨rfl, rfl⟩
              go_wp2
              all_goals go_ret
              all_goals first | exact ⟨rfl, hb8⟩ | exact ⟨by simp [hqp], hb8⟩
end Go.Proofs.YteobbaefodckfaaDoor.roundWhole
