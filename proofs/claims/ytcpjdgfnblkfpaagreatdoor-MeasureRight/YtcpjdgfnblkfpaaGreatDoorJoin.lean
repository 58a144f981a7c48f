/-
  Package bits' Join: the method join of both layouts, by contracts.
-/
import Derived.Test.YtcpjdgfnblkfpaaGreatDoorMathBits
import Derived.Test.YtcpjdgfnblkfpaaGreatDoorMathJ
namespace Go.Proofs.YtcpjdgfnblkfpaaGreatDoor
open Go Go.RowKit Go.Proofs.YtcpjdgfnblkfpaaGreatDoor.M
set_option linter.unusedSimpArgs false
set_option linter.unusedVariables false

theorem keepIt {p : Prop} (h : p) : Hid p := h
theorem trailingI (mag : Int) (h0 : 0 < mag) (h : mag < 9223372036854775808) (w : World) (hT : b_Tab w) :
    Calls Tryz.prog 134 #[.int .u64 mag] w fun e w' => e = .returned (.int .i64 (jz mag)) ∧ w' = w := by
  obtain ⟨n, rfl⟩ := Int.eq_ofNat_of_zero_le (Int.le_of_lt h0)
  exact b_trailing n (by omega) (by omega) w hT
theorem len64J (mag : Int) (w : World) (h0 : 1 ≤ jo mag) (h1 : jo mag ≤ mag) (h : mag < 9223372036854775808) :
    Calls Tryz.prog 136 #[.int .u64 (jo mag)] w fun e w' => e = .returned (.int .i64 (jl mag)) ∧ w' = w :=
  b_len64 (jo mag) w (by omega) (by omega)
theorem far64 (exp : Int) (w : World) (h : rng exp) :
    Calls Tryz.prog 171 #[.agg #[.int .i64 52, .int .i64 2047, .int .i64 (-1074)], .int .i64 exp] w fun e w' => e = .returned (.bool (decide (1025 < exp))) ∧ w' = w.alloc (.cells #[.int .i64 52, .int .i64 2047, .int .i64 (-1074)] 142) := by
  unfold rng at h
  go_enter Tryz.func171, Tryz.ntmps171
  go_wp2
  go_ret
  exact ⟨rfl, rfl⟩
set_option maxHeartbeats 1000000 in
theorem join64 (mag exp : Int) (w : World) (hT : b_Tab w) (hm : rng mag) (he : rng exp) :
    Calls Tryz.prog 168 #[.agg #[.int .i64 52, .int .i64 2047, .int .i64 (-1074)], .int .i64 mag, .int .i64 exp] w fun e w' => e = .returned (.tuple #[.int .i64 (jv 52 2047 (-1074) mag exp), .bool (jk 52 2047 (-1074) mag exp)]) ∧ Gr w w' := by
  have he0 := he
  unfold rng at hm he
  rcases Int.lt_trichotomy mag 0 with h | h | h
  · have hn : (mag == 0) = false := by simp; omega
    go_enter Tryz.func168, Tryz.ntmps168
    go_wp2
    go_ret2
    exact ⟨ret_ib (by simp [jv]; omega) (by simp [jk]; omega), (Gr.refl _).alloc _ _⟩
  · subst h
    go_enter Tryz.func168, Tryz.ntmps168
    go_wp2
    go_ret2
    exact ⟨ret_ib (by simp [jv]) (by simp [jk]), (Gr.refl _).alloc _ _⟩
  · have hn : (mag == 0) = false := by simp; omega
    have hz := jz_spec h hm.2
    by_cases hf : 1025 < exp
    · have hk := keepIt (jgood_far h hm.2 hf)
      go_enter Tryz.func168, Tryz.ntmps168
      go_wp2_with (go_at_call 171; refine (far64 _ _ he0).mono ?_; rintro e w1 ⟨rfl, rfl⟩)
      go_ret2
      exact ⟨ret_ib (by simp [jv, hk.out]) (by simp [jk, hk.out]; omega), ((Gr.refl _).alloc _ _).alloc _ _⟩
    · obtain ⟨m, -, hz63, -⟩ := hz
      have hj := jo_le h hm.2
      have hL := jl_le h hm.2
      have eo : mag / 2 ^ jz mag = jo mag := rfl
      by_cases s1 : 53 - jl mag < 0
      · have hk : Hid (jgood 52 2047 (-1074) mag exp = false) := by unfold Hid jgood jsp; simp; omega
        go_enter Tryz.func168, Tryz.ntmps168
        go_wp2_with (go_at_call 171; refine (far64 _ _ he0).mono ?_; rintro e w1 ⟨rfl, rfl⟩)
        refine (trailingI mag h hm.2 _ (hT.grown (((Gr.refl _).alloc _ _).alloc _ _))).mono ?_
        rintro e w1 ⟨rfl, rfl⟩
        go_wp2
        go_quiet ((go_at_call 136; exact Calls.quiet_of_same (len64J _ _ hj.1 hj.2 hm.2)))
        go_wp2
        go_ret2
        exact ⟨ret_ib (by simp [jv, hk.out]) (by simp [jk, hk.out]; omega), gDrewN (((Gr.refl _).alloc _ _).alloc _ _) _⟩
      · by_cases s2 : exp + jz mag < -1074
        · have hk : Hid (jgood 52 2047 (-1074) mag exp = false) := by unfold Hid jgood jsp; simp; omega
          go_enter Tryz.func168, Tryz.ntmps168
          go_wp2_with (go_at_call 171; refine (far64 _ _ he0).mono ?_; rintro e w1 ⟨rfl, rfl⟩)
          refine (trailingI mag h hm.2 _ (hT.grown (((Gr.refl _).alloc _ _).alloc _ _))).mono ?_
          rintro e w1 ⟨rfl, rfl⟩
          go_wp2
          go_quiet ((go_at_call 136; exact Calls.quiet_of_same (len64J _ _ hj.1 hj.2 hm.2)))
          go_wp2
          go_ret2
          exact ⟨ret_ib (by simp [jv, hk.out]) (by simp [jk, hk.out]; omega), gDrewN (((Gr.refl _).alloc _ _).alloc _ _) _⟩
        · obtain ⟨s, hs⟩ : ∃ s : Nat, min (53 - jl mag) (exp + ↑(jz mag) + 1074) = (s : Int) := ⟨(min (53 - jl mag) (exp + ↑(jz mag) + 1074)).toNat, by omega⟩
          have hsl : (s : Int) ≤ 52 := by omega
          have hsj : Hid (jsh 52 (-1074) mag exp = s) := by unfold Hid jsh jsp; omega
          by_cases s3 : 2045 < exp + ↑(jz mag) - ↑s + 1074
          · have hk : Hid (jgood 52 2047 (-1074) mag exp = false) := by unfold Hid jgood jab; rw [hsj.out]; simp; omega
            go_enter Tryz.func168, Tryz.ntmps168
            go_wp2_with (go_at_call 171; refine (far64 _ _ he0).mono ?_; rintro e w1 ⟨rfl, rfl⟩)
            refine (trailingI mag h hm.2 _ (hT.grown (((Gr.refl _).alloc _ _).alloc _ _))).mono ?_
            rintro e w1 ⟨rfl, rfl⟩
            go_wp2
            go_quiet ((go_at_call 136; exact Calls.quiet_of_same (len64J _ _ hj.1 hj.2 hm.2)))
            go_wp2
            go_ret2
            exact ⟨ret_ib (by simp [jv, hk.out]) (by simp [jk, hk.out]; omega), gDrewN (((Gr.refl _).alloc _ _).alloc _ _) _⟩
          · have hk : Hid (jgood 52 2047 (-1074) mag exp = true) := by unfold Hid jgood jab jsp; rw [hsj.out]; simp; omega
            have hb := jshift_lt (fr := 52) h hm.2 (by omega) s (by unfold jsp; omega)
            have hb2 : jo mag * 2 ^ s < 9007199254740992 := hb.2
            have hb1 := hb.1
            clear hb
            go_enter Tryz.func168, Tryz.ntmps168
            go_wp2_with (go_at_call 171; refine (far64 _ _ he0).mono ?_; rintro e w1 ⟨rfl, rfl⟩)
            refine (trailingI mag h hm.2 _ (hT.grown (((Gr.refl _).alloc _ _).alloc _ _))).mono ?_
            rintro e w1 ⟨rfl, rfl⟩
            go_wp2
            go_quiet ((go_at_call 136; exact Calls.quiet_of_same (len64J _ _ hj.1 hj.2 hm.2)))
            go_wp2
            go_quiet (fail)
            go_wp2
            go_ret2
            refine ⟨ret_ib ?_ (by simp [jk, hk.out]; omega), gDrewN (gDrewN (((Gr.refl _).alloc _ _).alloc _ _) _) _⟩
            unfold jv jab
            rw [if_neg (by omega), if_pos hk.out, hsj.out]
            rfl
theorem far32 (exp : Int) (w : World) (h : rng exp) :
    Calls Tryz.prog 171 #[.agg #[.int .i64 23, .int .i64 255, .int .i64 (-149)], .int .i64 exp] w fun e w' => e = .returned (.bool (decide (129 < exp))) ∧ w' = w.alloc (.cells #[.int .i64 23, .int .i64 255, .int .i64 (-149)] 142) := by
  unfold rng at h
  go_enter Tryz.func171, Tryz.ntmps171
  go_wp2
  go_ret
  exact ⟨rfl, rfl⟩
set_option maxHeartbeats 1000000 in
theorem join32 (mag exp : Int) (w : World) (hT : b_Tab w) (hm : rng mag) (he : rng exp) :
    Calls Tryz.prog 168 #[.agg #[.int .i64 23, .int .i64 255, .int .i64 (-149)], .int .i64 mag, .int .i64 exp] w fun e w' => e = .returned (.tuple #[.int .i64 (jv 23 255 (-149) mag exp), .bool (jk 23 255 (-149) mag exp)]) ∧ Gr w w' := by
  have he0 := he
  unfold rng at hm he
  rcases Int.lt_trichotomy mag 0 with h | h | h
  · have hn : (mag == 0) = false := by simp; omega
    go_enter Tryz.func168, Tryz.ntmps168
    go_wp2
    go_ret2
    exact ⟨ret_ib (by simp [jv]; omega) (by simp [jk]; omega), (Gr.refl _).alloc _ _⟩
  · subst h
    go_enter Tryz.func168, Tryz.ntmps168
    go_wp2
    go_ret2
    exact ⟨ret_ib (by simp [jv]) (by simp [jk]), (Gr.refl _).alloc _ _⟩
  · have hn : (mag == 0) = false := by simp; omega
    have hz := jz_spec h hm.2
    by_cases hf : 129 < exp
    · have hk := keepIt (jgood_far32 h hm.2 hf)
      go_enter Tryz.func168, Tryz.ntmps168
      go_wp2_with (go_at_call 171; refine (far32 _ _ he0).mono ?_; rintro e w1 ⟨rfl, rfl⟩)
      go_ret2
      exact ⟨ret_ib (by simp [jv, hk.out]) (by simp [jk, hk.out]; omega), ((Gr.refl _).alloc _ _).alloc _ _⟩
    · obtain ⟨m, -, hz63, -⟩ := hz
      have hj := jo_le h hm.2
      have hL := jl_le h hm.2
      have eo : mag / 2 ^ jz mag = jo mag := rfl
      by_cases s1 : 24 - jl mag < 0
      · have hk : Hid (jgood 23 255 (-149) mag exp = false) := by unfold Hid jgood jsp; simp; omega
        go_enter Tryz.func168, Tryz.ntmps168
        go_wp2_with (go_at_call 171; refine (far32 _ _ he0).mono ?_; rintro e w1 ⟨rfl, rfl⟩)
        refine (trailingI mag h hm.2 _ (hT.grown (((Gr.refl _).alloc _ _).alloc _ _))).mono ?_
        rintro e w1 ⟨rfl, rfl⟩
        go_wp2
        go_quiet ((go_at_call 136; exact Calls.quiet_of_same (len64J _ _ hj.1 hj.2 hm.2)))
        go_wp2
        go_ret2
        exact ⟨ret_ib (by simp [jv, hk.out]) (by simp [jk, hk.out]; omega), gDrewN (((Gr.refl _).alloc _ _).alloc _ _) _⟩
      · by_cases s2 : exp + jz mag < -149
        · have hk : Hid (jgood 23 255 (-149) mag exp = false) := by unfold Hid jgood jsp; simp; omega
          go_enter Tryz.func168, Tryz.ntmps168
          go_wp2_with (go_at_call 171; refine (far32 _ _ he0).mono ?_; rintro e w1 ⟨rfl, rfl⟩)
          refine (trailingI mag h hm.2 _ (hT.grown (((Gr.refl _).alloc _ _).alloc _ _))).mono ?_
          rintro e w1 ⟨rfl, rfl⟩
          go_wp2
          go_quiet ((go_at_call 136; exact Calls.quiet_of_same (len64J _ _ hj.1 hj.2 hm.2)))
          go_wp2
          go_ret2
          exact ⟨ret_ib (by simp [jv, hk.out]) (by simp [jk, hk.out]; omega), gDrewN (((Gr.refl _).alloc _ _).alloc _ _) _⟩
        · obtain ⟨s, hs⟩ : ∃ s : Nat, min (24 - jl mag) (exp + ↑(jz mag) + 149) = (s : Int) := ⟨(min (24 - jl mag) (exp + ↑(jz mag) + 149)).toNat, by omega⟩
          have hsl : (s : Int) ≤ 23 := by omega
          have hsj : Hid (jsh 23 (-149) mag exp = s) := by unfold Hid jsh jsp; omega
          by_cases s3 : 253 < exp + ↑(jz mag) - ↑s + 149
          · have hk : Hid (jgood 23 255 (-149) mag exp = false) := by unfold Hid jgood jab; rw [hsj.out]; simp; omega
            go_enter Tryz.func168, Tryz.ntmps168
            go_wp2_with (go_at_call 171; refine (far32 _ _ he0).mono ?_; rintro e w1 ⟨rfl, rfl⟩)
            refine (trailingI mag h hm.2 _ (hT.grown (((Gr.refl _).alloc _ _).alloc _ _))).mono ?_
            rintro e w1 ⟨rfl, rfl⟩
            go_wp2
            go_quiet ((go_at_call 136; exact Calls.quiet_of_same (len64J _ _ hj.1 hj.2 hm.2)))
            go_wp2
            go_ret2
            exact ⟨ret_ib (by simp [jv, hk.out]) (by simp [jk, hk.out]; omega), gDrewN (((Gr.refl _).alloc _ _).alloc _ _) _⟩
          · have hk : Hid (jgood 23 255 (-149) mag exp = true) := by unfold Hid jgood jab jsp; rw [hsj.out]; simp; omega
            have hb := jshift_lt (fr := 23) h hm.2 (by omega) s (by unfold jsp; omega)
            have hb2 : jo mag * 2 ^ s < 16777216 := hb.2
            have hb1 := hb.1
            clear hb
            go_enter Tryz.func168, Tryz.ntmps168
            go_wp2_with (go_at_call 171; refine (far32 _ _ he0).mono ?_; rintro e w1 ⟨rfl, rfl⟩)
            refine (trailingI mag h hm.2 _ (hT.grown (((Gr.refl _).alloc _ _).alloc _ _))).mono ?_
            rintro e w1 ⟨rfl, rfl⟩
            go_wp2
            go_quiet ((go_at_call 136; exact Calls.quiet_of_same (len64J _ _ hj.1 hj.2 hm.2)))
            go_wp2
            go_quiet (fail)
            go_wp2
            go_ret2
            refine ⟨ret_ib ?_ (by simp [jk, hk.out]; omega), gDrewN (gDrewN (((Gr.refl _).alloc _ _).alloc _ _) _) _⟩
            unfold jv jab
            rw [if_neg (by omega), if_pos hk.out, hsj.out]
            rfl
/-- What the world holds: the layouts, and the library's table. -/
structure Env (w : World) : Prop where
  lays : Lays w
  tab : b_Tab w
theorem Env.grown {w w' : World} (h : Env w) (g : Gr w w') : Env w' := ⟨h.lays.grown g, h.tab.grown g⟩
theorem bitsJoin (neg : Bool) (mag exp : Int) (w : World) (E : Env w) (hm : rng mag) (he : rng exp) :
    Calls Tryz.prog 159 #[.bool neg, .int .i64 mag, .int .i64 exp] w fun e w' => e = .returned (.tuple #[.int .i64 (jp neg mag exp), .bool (jk 52 2047 (-1074) mag exp)]) ∧ Gr w w' := by
  have hT := E.tab
  obtain ⟨a0, a1, a2, b0, b1, b2⟩ := E.lays
  have hb := jv_le (mag := mag) (exp := exp) hm
  have ho := or_i64_sign (jv 52 2047 (-1074) mag exp) (by omega) (by omega)
  have Ho := keepIt ho
  clear ho
  cases hk : jk 52 2047 (-1074) mag exp
  all_goals
    have HK := keepIt hk
    cases neg
    all_goals
      go_enter Tryz.func159, Tryz.ntmps159
      go_wp2_with (go_at_call 168; refine (join64 _ _ _ hT hm he).mono ?_; rintro e w1 ⟨rfl, hg⟩)
      go_ret2
      exact ⟨ret_ib (by simp [jp, HK.out, Ho.out]) (by simp [HK.out]), hg⟩
end Go.Proofs.YtcpjdgfnblkfpaaGreatDoor
