/-
  The document's own Join and Join32: the two loops of shifted, then the pattern; by contracts over the same plain functions as package bits' join.
-/
import Derived.Test.YthppkpbfdgfcaabDoorMathBits
import Derived.Test.YthppkpbfdgfcaabDoorMathJ
namespace Go.Proofs.YthppkpbfdgfcaabDoor
open Go Go.RowKit Go.Proofs.YthppkpbfdgfcaabDoor.M
set_option linter.unusedSimpArgs false
set_option linter.unusedVariables false

theorem keepRef {p : Prop} (h : p) : Hid p := h
theorem go_int {k : IntKind} {a b : Int} (h : a = b) : Value.int k a = .int k b := by rw [h]
set_option maxHeartbeats 1000000 in
theorem shifted64 (mag exp : Int) (w : World) (h0 : 0 < mag) (h : mag < 9223372036854775808) (e0 : -2000 ≤ exp) (e1 : exp ≤ 2000) :
    Calls Tryd.prog 69 #[.int .i64 mag, .int .i64 exp, .int .i64 (-1074), .int .i64 53] w fun e w' => e = .returned (.tuple #[.int .i64 (sm 52 (-1074) mag exp), .int .i64 (se 52 (-1074) mag exp), .bool (sk 52 (-1074) mag exp)]) ∧ w' = w := by
  have hj := jo_le h0 h
  have hL := jl_le h0 h
  have hz63 : jz mag < 63 := by obtain ⟨_, _, a, _⟩ := jz_spec h0 h; exact a
  have hodd := halved_end h0 h
  go_enter Tryd.func69, Tryd.ntmps69
  go_wp2
  go_loop [0, 1] (fun a b => ∃ k : Nat, k ≤ jz mag ∧ a = .int .i64 (mag / 2 ^ k) ∧ b = .int .i64 (exp + k)) (fun _ b => (exp + jz mag - intOf b).toNat)
  case atStart => exact ⟨0, Nat.zero_le _, by simp, by simp⟩
  case round =>
    obtain ⟨k, hk, rfl, rfl⟩ := hrel
    by_cases hlt : k < jz mag
    · obtain ⟨a1, a2, a3, a4⟩ := halved h0 h k hlt
      have b1 : (mag / 2 ^ k % 2 == 0) = true := by simp [a1]
      have A2 := keepRef a2
      clear a2 a1
      go_wp2
      go_round
      case rel => exact ⟨k + 1, hlt, go_int A2.out, go_int (by omega)⟩
      case measure => simp [intOf]; omega
    · have hke : k = jz mag := by omega
      subst hke
      have eo : mag / 2 ^ jz mag = jo mag := rfl
      have b1 : (jo mag % 2 == 0) = false := by simp [hodd]
      have hd0 := doubled (fr := 53) h0 h (by omega) 0
      have hd1 : jo mag < 9007199254740992 ↔ 0 ≤ jsp 52 mag := by
        have e : jo mag * 2 ^ 0 = jo mag := by simp
        rw [e, show (2 : Int) ^ (53 : Int).toNat = 9007199254740992 by decide] at hd0
        rw [hd0]; unfold jsp; omega
      clear hd0 hodd
      by_cases s1 : jo mag < 9007199254740992
      · have sp := hd1.1 s1
        clear hd1
        by_cases s2 : exp + jz mag < -1074
        · have hk : Hid (sk 52 (-1074) mag exp = false) := by unfold Hid sk; simp; omega
          go_wp2
          go_ret3
          exact ⟨ret_ttt (by simp [sm, hk.out]) (by simp [se, hk.out]) (by simp [hk.out]), rfl⟩
        · have hk : Hid (sk 52 (-1074) mag exp = true) := by unfold Hid sk; simp; omega
          obtain ⟨s, hs⟩ : ∃ s : Nat, jsh 52 (-1074) mag exp = (s : Int) := ⟨(jsh 52 (-1074) mag exp).toNat, by unfold jsh; omega⟩
          have hs' : Hid (jsh 52 (-1074) mag exp = (s : Int)) := hs
          have hsd : Hid ((s : Int) = min (jsp 52 mag) (exp + jz mag + 1074)) := by unfold Hid; rw [← hs]; unfold jsh; omega
          clear hs
          go_wp2
          go_loop [0, 1] (fun a b => ∃ j : Nat, j ≤ s ∧ a = .int .i64 (jo mag * 2 ^ j) ∧ b = .int .i64 (exp + jz mag - j)) (fun _ b => (intOf b + 1074).toNat)
          case atStart => exact ⟨0, Nat.zero_le _, by simp, by simp⟩
          case round =>
            obtain ⟨j, hjs, rfl, rfl⟩ := hrel
            have hd := doubled (fr := 52) h0 h (by omega) j
            rw [show (2 : Int) ^ (52 : Int).toNat = 4503599627370496 by decide] at hd
            have hb := jshift_lt (fr := 52) h0 h (by omega) j (by have := hsd.out; omega)
            have hb1 := hb.1
            have hb2 : jo mag * 2 ^ j < 9007199254740992 := hb.2
            clear hb
            by_cases hlt : j < s
            · have c1 : jo mag * 2 ^ j < 4503599627370496 := hd.2 (by have := hsd.out; omega)
              have c2 : -1074 < exp + jz mag - j := by have := hsd.out; omega
              have e2 : Hid (jo mag * 2 ^ j + jo mag * 2 ^ j = jo mag * 2 ^ (j + 1)) := by
                unfold Hid; rw [Int.pow_succ, ← Int.mul_assoc]; omega
              clear hd
              go_wp2
              go_round
              case rel => exact ⟨j + 1, hlt, go_int e2.out, go_int (by omega)⟩
              case measure => simp [intOf]; omega
            · have hje : j = s := by omega
              subst hje
              have fin : ¬ (-1074 < exp + jz mag - j ∧ jo mag * 2 ^ j < 4503599627370496) := by
                rw [hd]; have := hsd.out; omega
              clear hd
              by_cases c2 : -1074 < exp + jz mag - j
              all_goals
                go_wp2
                go_ret3
                exact ⟨ret_ttt (by simp [sm, hk.out, hs'.out]) (by simp [se, hk.out, hs'.out]) (by simp [hk.out]), rfl⟩
      · have hk : Hid (sk 52 (-1074) mag exp = false) := by unfold Hid sk; simp; omega
        clear hd1
        go_wp2
        go_ret3
        exact ⟨ret_ttt (by simp [sm, hk.out]) (by simp [se, hk.out]) (by simp [hk.out]), rfl⟩
set_option maxHeartbeats 1000000 in
theorem shifted32 (mag exp : Int) (w : World) (h0 : 0 < mag) (h : mag < 9223372036854775808) (e0 : -2000 ≤ exp) (e1 : exp ≤ 2000) :
    Calls Tryd.prog 69 #[.int .i64 mag, .int .i64 exp, .int .i64 (-149), .int .i64 24] w fun e w' => e = .returned (.tuple #[.int .i64 (sm 23 (-149) mag exp), .int .i64 (se 23 (-149) mag exp), .bool (sk 23 (-149) mag exp)]) ∧ w' = w := by
  have hj := jo_le h0 h
  have hL := jl_le h0 h
  have hz63 : jz mag < 63 := by obtain ⟨_, _, a, _⟩ := jz_spec h0 h; exact a
  have hodd := halved_end h0 h
  go_enter Tryd.func69, Tryd.ntmps69
  go_wp2
  go_loop [0, 1] (fun a b => ∃ k : Nat, k ≤ jz mag ∧ a = .int .i64 (mag / 2 ^ k) ∧ b = .int .i64 (exp + k)) (fun _ b => (exp + jz mag - intOf b).toNat)
  case atStart => exact ⟨0, Nat.zero_le _, by simp, by simp⟩
  case round =>
    obtain ⟨k, hk, rfl, rfl⟩ := hrel
    by_cases hlt : k < jz mag
    · obtain ⟨a1, a2, a3, a4⟩ := halved h0 h k hlt
      have b1 : (mag / 2 ^ k % 2 == 0) = true := by simp [a1]
      have A2 := keepRef a2
      clear a2 a1
      go_wp2
      go_round
      case rel => exact ⟨k + 1, hlt, go_int A2.out, go_int (by omega)⟩
      case measure => simp [intOf]; omega
    · have hke : k = jz mag := by omega
      subst hke
      have eo : mag / 2 ^ jz mag = jo mag := rfl
      have b1 : (jo mag % 2 == 0) = false := by simp [hodd]
      have hd0 := doubled (fr := 24) h0 h (by omega) 0
      have hd1 : jo mag < 16777216 ↔ 0 ≤ jsp 23 mag := by
        have e : jo mag * 2 ^ 0 = jo mag := by simp
        rw [e, show (2 : Int) ^ (24 : Int).toNat = 16777216 by decide] at hd0
        rw [hd0]; unfold jsp; omega
      clear hd0 hodd
      by_cases s1 : jo mag < 16777216
      · have sp := hd1.1 s1
        clear hd1
        by_cases s2 : exp + jz mag < -149
        · have hk : Hid (sk 23 (-149) mag exp = false) := by unfold Hid sk; simp; omega
          go_wp2
          go_ret3
          exact ⟨ret_ttt (by simp [sm, hk.out]) (by simp [se, hk.out]) (by simp [hk.out]), rfl⟩
        · have hk : Hid (sk 23 (-149) mag exp = true) := by unfold Hid sk; simp; omega
          obtain ⟨s, hs⟩ : ∃ s : Nat, jsh 23 (-149) mag exp = (s : Int) := ⟨(jsh 23 (-149) mag exp).toNat, by unfold jsh; omega⟩
          have hs' : Hid (jsh 23 (-149) mag exp = (s : Int)) := hs
          have hsd : Hid ((s : Int) = min (jsp 23 mag) (exp + jz mag + 149)) := by unfold Hid; rw [← hs]; unfold jsh; omega
          clear hs
          go_wp2
          go_loop [0, 1] (fun a b => ∃ j : Nat, j ≤ s ∧ a = .int .i64 (jo mag * 2 ^ j) ∧ b = .int .i64 (exp + jz mag - j)) (fun _ b => (intOf b + 149).toNat)
          case atStart => exact ⟨0, Nat.zero_le _, by simp, by simp⟩
          case round =>
            obtain ⟨j, hjs, rfl, rfl⟩ := hrel
            have hd := doubled (fr := 23) h0 h (by omega) j
            rw [show (2 : Int) ^ (23 : Int).toNat = 8388608 by decide] at hd
            have hb := jshift_lt (fr := 23) h0 h (by omega) j (by have := hsd.out; omega)
            have hb1 := hb.1
            have hb2 : jo mag * 2 ^ j < 16777216 := hb.2
            clear hb
            by_cases hlt : j < s
            · have c1 : jo mag * 2 ^ j < 8388608 := hd.2 (by have := hsd.out; omega)
              have c2 : -149 < exp + jz mag - j := by have := hsd.out; omega
              have e2 : Hid (jo mag * 2 ^ j + jo mag * 2 ^ j = jo mag * 2 ^ (j + 1)) := by
                unfold Hid; rw [Int.pow_succ, ← Int.mul_assoc]; omega
              clear hd
              go_wp2
              go_round
              case rel => exact ⟨j + 1, hlt, go_int e2.out, go_int (by omega)⟩
              case measure => simp [intOf]; omega
            · have hje : j = s := by omega
              subst hje
              have fin : ¬ (-149 < exp + jz mag - j ∧ jo mag * 2 ^ j < 8388608) := by
                rw [hd]; have := hsd.out; omega
              clear hd
              by_cases c2 : -149 < exp + jz mag - j
              all_goals
                go_wp2
                go_ret3
                exact ⟨ret_ttt (by simp [sm, hk.out, hs'.out]) (by simp [se, hk.out, hs'.out]) (by simp [hk.out]), rfl⟩
      · have hk : Hid (sk 23 (-149) mag exp = false) := by unfold Hid sk; simp; omega
        clear hd1
        go_wp2
        go_ret3
        exact ⟨ret_ttt (by simp [sm, hk.out]) (by simp [se, hk.out]) (by simp [hk.out]), rfl⟩
set_option maxHeartbeats 1000000 in
theorem refJoin (neg : Bool) (mag exp : Int) (w : World) (hm : rng mag) (he : rng exp) :
    Calls Tryd.prog 48 #[.bool neg, .int .i64 mag, .int .i64 exp] w fun e w' => e = .returned (.tuple #[.int .i64 (jp neg mag exp), .bool (jk 52 2047 (-1074) mag exp)]) ∧ w' = w := by
  unfold rng at hm he
  rcases Int.lt_trichotomy mag 0 with h | h | h
  · have hk : Hid (jk 52 2047 (-1074) mag exp = false) := by unfold Hid jk; rw [if_pos h]
    have hv : Hid (jp neg mag exp = 0) := by unfold Hid jp; rw [hk.out]; simp [jv]; omega
    cases neg
    all_goals
      go_enter Tryd.func48, Tryd.ntmps48
      go_wp2
      go_ret2
      exact ⟨ret_ib hv.out.symm hk.out.symm, rfl⟩
  · subst h
    cases neg
    all_goals
      go_enter Tryd.func48, Tryd.ntmps48
      go_wp2
      all_goals go_ret2
      all_goals exact ⟨ret_ib (by simp [jp, jk, jv]) (by simp [jk]), rfl⟩
  · have hn : (mag == 0) = false := by simp; omega
    by_cases f1 : 2000 < exp
    · have hg := jgood_far h hm.2 (exp := exp) (by omega)
      have hk : Hid (jk 52 2047 (-1074) mag exp = false) := by unfold Hid jk; rw [if_neg (by omega), if_neg (by omega), hg]
      have hv : Hid (jp neg mag exp = 0) := by unfold Hid jp; rw [hk.out]; simp [jv, hg]
      clear hg
      cases neg
      all_goals
        go_enter Tryd.func48, Tryd.ntmps48
        go_wp2
        go_ret2
        exact ⟨ret_ib hv.out.symm hk.out.symm, rfl⟩
    · by_cases f2 : exp < -2000
      · have hg := jgood_near h hm.2 f2
        have hk : Hid (jk 52 2047 (-1074) mag exp = false) := by unfold Hid jk; rw [if_neg (by omega), if_neg (by omega), hg]
        have hv : Hid (jp neg mag exp = 0) := by unfold Hid jp; rw [hk.out]; simp [jv, hg]
        clear hg
        cases neg
        all_goals
          go_enter Tryd.func48, Tryd.ntmps48
          go_wp2
          go_ret2
          exact ⟨ret_ib hv.out.symm hk.out.symm, rfl⟩
      · have hgs := jgood_sk mag exp
        by_cases g1 : sk 52 (-1074) mag exp = true
        · by_cases g2 : se 52 (-1074) mag exp ≤ 971
          · obtain ⟨b1, b2, b3, b4⟩ := jv_sm h hm.2 g1 g2
            have hk : Hid (jk 52 2047 (-1074) mag exp = true) := by unfold Hid jk; rw [if_neg (by omega), if_neg (by omega), hgs, g1]; simpa using g2
            have hv : Hid (jv 52 2047 (-1074) mag exp = (if sm 52 (-1074) mag exp < 4503599627370496 then sm 52 (-1074) mag exp else (se 52 (-1074) mag exp + 1075) * 4503599627370496 + sm 52 (-1074) mag exp - 4503599627370496)) := b4
            clear b4 hgs
            by_cases g3 : sm 52 (-1074) mag exp < 4503599627370496
            all_goals
              cases neg
              all_goals
                go_enter Tryd.func48, Tryd.ntmps48
                go_wp2_with (go_at_call 69; refine (shifted64 mag exp _ h hm.2 (by omega) (by omega)).mono ?_; rintro e w1 ⟨rfl, rfl⟩)
                go_ret2
                refine ⟨ret_ib ?_ hk.out.symm, rfl⟩
                unfold jp
                rw [hk.out, hv.out]
                simp
                omega
          · have hg : jgood 52 2047 (-1074) mag exp = false := by rw [hgs, g1]; simpa using g2
            have hk : Hid (jk 52 2047 (-1074) mag exp = false) := by unfold Hid jk; rw [if_neg (by omega), if_neg (by omega), hg]
            have hv : Hid (jp neg mag exp = 0) := by unfold Hid jp; rw [hk.out]; simp [jv, hg]
            clear hg hgs
            cases neg
            all_goals
              go_enter Tryd.func48, Tryd.ntmps48
              go_wp2_with (go_at_call 69; refine (shifted64 mag exp _ h hm.2 (by omega) (by omega)).mono ?_; rintro e w1 ⟨rfl, rfl⟩)
              go_ret2
              exact ⟨ret_ib hv.out.symm hk.out.symm, rfl⟩
        · have g1' : sk 52 (-1074) mag exp = false := by simpa using g1
          have hg : jgood 52 2047 (-1074) mag exp = false := by rw [hgs, g1']; rfl
          have hk : Hid (jk 52 2047 (-1074) mag exp = false) := by unfold Hid jk; rw [if_neg (by omega), if_neg (by omega), hg]
          have hv : Hid (jp neg mag exp = 0) := by unfold Hid jp; rw [hk.out]; simp [jv, hg]
          clear hg hgs g1
          cases neg
          all_goals
            go_enter Tryd.func48, Tryd.ntmps48
            go_wp2_with (go_at_call 69; refine (shifted64 mag exp _ h hm.2 (by omega) (by omega)).mono ?_; rintro e w1 ⟨rfl, rfl⟩)
            go_ret2
            exact ⟨ret_ib hv.out.symm hk.out.symm, rfl⟩
set_option maxHeartbeats 1000000 in
theorem refJoin32 (neg : Bool) (mag exp : Int) (w : World) (hm : rng mag) (he : rng exp) :
    Calls Tryd.prog 49 #[.bool neg, .int .i64 mag, .int .i64 exp] w fun e w' => e = .returned (.tuple #[.int .i64 (jp32 neg mag exp), .bool (jk 23 255 (-149) mag exp)]) ∧ w' = w := by
  unfold rng at hm he
  rcases Int.lt_trichotomy mag 0 with h | h | h
  · have hk : Hid (jk 23 255 (-149) mag exp = false) := by unfold Hid jk; rw [if_pos h]
    have hv : Hid (jp32 neg mag exp = 0) := by unfold Hid jp32; rw [hk.out]; simp [jv]; omega
    cases neg
    all_goals
      go_enter Tryd.func49, Tryd.ntmps49
      go_wp2
      go_ret2
      exact ⟨ret_ib hv.out.symm hk.out.symm, rfl⟩
  · subst h
    cases neg
    all_goals
      go_enter Tryd.func49, Tryd.ntmps49
      go_wp2
      all_goals go_ret2
      all_goals exact ⟨ret_ib (by simp [jp32, jk, jv]) (by simp [jk]), rfl⟩
  · have hn : (mag == 0) = false := by simp; omega
    by_cases f1 : 2000 < exp
    · have hg := jgood_far32 h hm.2 (exp := exp) (by omega)
      have hk : Hid (jk 23 255 (-149) mag exp = false) := by unfold Hid jk; rw [if_neg (by omega), if_neg (by omega), hg]
      have hv : Hid (jp32 neg mag exp = 0) := by unfold Hid jp32; rw [hk.out]; simp [jv, hg]
      clear hg
      cases neg
      all_goals
        go_enter Tryd.func49, Tryd.ntmps49
        go_wp2
        go_ret2
        exact ⟨ret_ib hv.out.symm hk.out.symm, rfl⟩
    · by_cases f2 : exp < -2000
      · have hg := jgood_near32 h hm.2 f2
        have hk : Hid (jk 23 255 (-149) mag exp = false) := by unfold Hid jk; rw [if_neg (by omega), if_neg (by omega), hg]
        have hv : Hid (jp32 neg mag exp = 0) := by unfold Hid jp32; rw [hk.out]; simp [jv, hg]
        clear hg
        cases neg
        all_goals
          go_enter Tryd.func49, Tryd.ntmps49
          go_wp2
          go_ret2
          exact ⟨ret_ib hv.out.symm hk.out.symm, rfl⟩
      · have hgs := jgood_sk32 mag exp
        by_cases g1 : sk 23 (-149) mag exp = true
        · by_cases g2 : se 23 (-149) mag exp ≤ 104
          · obtain ⟨b1, b2, b3, b4⟩ := jv_sm32 h hm.2 g1 g2
            have hk : Hid (jk 23 255 (-149) mag exp = true) := by unfold Hid jk; rw [if_neg (by omega), if_neg (by omega), hgs, g1]; simpa using g2
            have hv : Hid (jv 23 255 (-149) mag exp = (if sm 23 (-149) mag exp < 8388608 then sm 23 (-149) mag exp else (se 23 (-149) mag exp + 150) * 8388608 + sm 23 (-149) mag exp - 8388608)) := b4
            clear b4 hgs
            by_cases g3 : sm 23 (-149) mag exp < 8388608
            all_goals
              cases neg
              all_goals
                go_enter Tryd.func49, Tryd.ntmps49
                go_wp2_with (go_at_call 69; refine (shifted32 mag exp _ h hm.2 (by omega) (by omega)).mono ?_; rintro e w1 ⟨rfl, rfl⟩)
                go_ret2
                refine ⟨ret_ib ?_ hk.out.symm, rfl⟩
                unfold jp32
                rw [hk.out, hv.out]
                simp
                omega
          · have hg : jgood 23 255 (-149) mag exp = false := by rw [hgs, g1]; simpa using g2
            have hk : Hid (jk 23 255 (-149) mag exp = false) := by unfold Hid jk; rw [if_neg (by omega), if_neg (by omega), hg]
            have hv : Hid (jp32 neg mag exp = 0) := by unfold Hid jp32; rw [hk.out]; simp [jv, hg]
            clear hg hgs
            cases neg
            all_goals
              go_enter Tryd.func49, Tryd.ntmps49
              go_wp2_with (go_at_call 69; refine (shifted32 mag exp _ h hm.2 (by omega) (by omega)).mono ?_; rintro e w1 ⟨rfl, rfl⟩)
              go_ret2
              exact ⟨ret_ib hv.out.symm hk.out.symm, rfl⟩
        · have g1' : sk 23 (-149) mag exp = false := by simpa using g1
          have hg : jgood 23 255 (-149) mag exp = false := by rw [hgs, g1']; rfl
          have hk : Hid (jk 23 255 (-149) mag exp = false) := by unfold Hid jk; rw [if_neg (by omega), if_neg (by omega), hg]
          have hv : Hid (jp32 neg mag exp = 0) := by unfold Hid jp32; rw [hk.out]; simp [jv, hg]
          clear hg hgs g1
          cases neg
          all_goals
            go_enter Tryd.func49, Tryd.ntmps49
            go_wp2_with (go_at_call 69; refine (shifted32 mag exp _ h hm.2 (by omega) (by omega)).mono ?_; rintro e w1 ⟨rfl, rfl⟩)
            go_ret2
            exact ⟨ret_ib hv.out.symm hk.out.symm, rfl⟩
end Go.Proofs.YthppkpbfdgfcaabDoor
