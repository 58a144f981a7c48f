/-
  Parts of the proof, one behind another.
-/
import Derived.Test.YtnhkagiionkjaaaGreatDoorPart9
import Derived.Test.YtnhkagiionkjaaaGreatDoorPart10
import Derived.Test.YtnhkagiionkjaaaGreatDoorPart1
import Ieee.Arith
import GoSem.Core.Float
import Derived.Test.YtnhkagiionkjaaaGreatDoorPart11
/-
  The document's own Join and Join32: the two loops of shifted, then the pattern; by contracts over the same plain functions as package bits' join.
-/
namespace Go.Proofs.YtnhkagiionkjaaaGreatDoor
open Go Go.RowKit Go.Proofs.YtnhkagiionkjaaaGreatDoor.M
set_option linter.unusedSimpArgs false
set_option linter.unusedVariables false

theorem keepRef {p : Prop} (h : p) : Hid p := h
theorem go_int {k : IntKind} {a b : Int} (h : a = b) : Value.int k a = .int k b := by rw [h]
set_option maxHeartbeats 1000000 in
theorem shifted64 (mag exp : Int) (w : World) (h0 : 0 < mag) (h : mag < 9223372036854775808) (e0 : -2000 ≤ exp) (e1 : exp ≤ 2000) :
    Calls Tryz.prog 104 #[.int .i64 mag, .int .i64 exp, .int .i64 (-1074), .int .i64 53] w fun e w' => e = .returned (.tuple #[.int .i64 (sm 52 (-1074) mag exp), .int .i64 (se 52 (-1074) mag exp), .bool (sk 52 (-1074) mag exp)]) ∧ w' = w := by
  have hj := jo_le h0 h
  have hL := jl_le h0 h
  have hz63 : jz mag < 63 := by obtain ⟨_, _, a, _⟩ := jz_spec h0 h; exact a
  have hodd := halved_end h0 h
  go_enter Tryz.func104, Tryz.ntmps104
  go_wp2
  go_loop [0, 1] (fun a b => ∃ k : Nat, k ≤ jz mag ∧ a = .int .i64 (mag / 2 ^ k) ∧ b = .int .i64 (exp + k)) (fun _ b => (exp + jz mag - intOf b).toNat)
  case atStart => exact ⟨0, Nat.zero_le _, by simp, by simp⟩
  case round =>
    obtain ⟨k, hk, rfl, rfl⟩ := hrel
    by_cases hlt : k < jz mag
    · obtain ⟨a1, a2, a3, a4⟩ := halved h0 h k hlt
      have b1 : (mag / 2 ^ k % 2 == 0) = true := by simp [a1]
      have A2 := keepRef a2
      clear a2 a1
      go_wp2
      go_round
      case rel => exact ⟨k + 1, hlt, go_int A2.out, go_int (by omega)⟩
      case measure => simp [intOf]; omega
    · have hke : k = jz mag := by omega
      subst hke
      have eo : mag / 2 ^ jz mag = jo mag := rfl
      have b1 : (jo mag % 2 == 0) = false := by simp [hodd]
      have hd0 := doubled (fr := 53) h0 h (by omega) 0
      have hd1 : jo mag < 9007199254740992 ↔ 0 ≤ jsp 52 mag := by
        have e : jo mag * 2 ^ 0 = jo mag := by simp
        rw [e, show (2 : Int) ^ (53 : Int).toNat = 9007199254740992 by decide] at hd0
        rw [hd0]; unfold jsp; omega
      clear hd0 hodd
      by_cases s1 : jo mag < 9007199254740992
      · have sp := hd1.1 s1
        clear hd1
        by_cases s2 : exp + jz mag < -1074
        · have hk : Hid (sk 52 (-1074) mag exp = false) := by unfold Hid sk; simp; omega
          go_wp2
          go_ret3
          exact ⟨ret_ttt (by simp [sm, hk.out]) (by simp [se, hk.out]) (by simp [hk.out]), rfl⟩
        · have hk : Hid (sk 52 (-1074) mag exp = true) := by unfold Hid sk; simp; omega
          obtain ⟨s, hs⟩ : ∃ s : Nat, jsh 52 (-1074) mag exp = (s : Int) := ⟨(jsh 52 (-1074) mag exp).toNat, by unfold jsh; omega⟩
          have hs' : Hid (jsh 52 (-1074) mag exp = (s : Int)) := hs
          have hsd : Hid ((s : Int) = min (jsp 52 mag) (exp + jz mag + 1074)) := by unfold Hid; rw [← hs]; unfold jsh; omega
          clear hs
          go_wp2
          go_loop [0, 1] (fun a b => ∃ j : Nat, j ≤ s ∧ a = .int .i64 (jo mag * 2 ^ j) ∧ b = .int .i64 (exp + jz mag - j)) (fun _ b => (intOf b + 1074).toNat)
          case atStart => exact ⟨0, Nat.zero_le _, by simp, by simp⟩
          case round =>
            obtain ⟨j, hjs, rfl, rfl⟩ := hrel
            have hd := doubled (fr := 52) h0 h (by omega) j
            rw [show (2 : Int) ^ (52 : Int).toNat = 4503599627370496 by decide] at hd
            have hb := jshift_lt (fr := 52) h0 h (by omega) j (by have := hsd.out; omega)
            have hb1 := hb.1
            have hb2 : jo mag * 2 ^ j < 9007199254740992 := hb.2
            clear hb
            by_cases hlt : j < s
            · have c1 : jo mag * 2 ^ j < 4503599627370496 := hd.2 (by have := hsd.out; omega)
              have c2 : -1074 < exp + jz mag - j := by have := hsd.out; omega
              have e2 : Hid (jo mag * 2 ^ j + jo mag * 2 ^ j = jo mag * 2 ^ (j + 1)) := by
                unfold Hid; rw [Int.pow_succ, ← Int.mul_assoc]; omega
              clear hd
              go_wp2
              go_round
              case rel => exact ⟨j + 1, hlt, go_int e2.out, go_int (by omega)⟩
              case measure => simp [intOf]; omega
            · have hje : j = s := by omega
              subst hje
              have fin : ¬ (-1074 < exp + jz mag - j ∧ jo mag * 2 ^ j < 4503599627370496) := by
                rw [hd]; have := hsd.out; omega
              clear hd
              by_cases c2 : -1074 < exp + jz mag - j
              all_goals
                go_wp2
                go_ret3
                exact ⟨ret_ttt (by simp [sm, hk.out, hs'.out]) (by simp [se, hk.out, hs'.out]) (by simp [hk.out]), rfl⟩
      · have hk : Hid (sk 52 (-1074) mag exp = false) := by unfold Hid sk; simp; omega
        clear hd1
        go_wp2
        go_ret3
        exact ⟨ret_ttt (by simp [sm, hk.out]) (by simp [se, hk.out]) (by simp [hk.out]), rfl⟩
set_option maxHeartbeats 1000000 in
theorem shifted32 (mag exp : Int) (w : World) (h0 : 0 < mag) (h : mag < 9223372036854775808) (e0 : -2000 ≤ exp) (e1 : exp ≤ 2000) :
    Calls Tryz.prog 104 #[.int .i64 mag, .int .i64 exp, .int .i64 (-149), .int .i64 24] w fun e w' => e = .returned (.tuple #[.int .i64 (sm 23 (-149) mag exp), .int .i64 (se 23 (-149) mag exp), .bool (sk 23 (-149) mag exp)]) ∧ w' = w := by
  have hj := jo_le h0 h
  have hL := jl_le h0 h
  have hz63 : jz mag < 63 := by obtain ⟨_, _, a, _⟩ := jz_spec h0 h; exact a
  have hodd := halved_end h0 h
  go_enter Tryz.func104, Tryz.ntmps104
  go_wp2
  go_loop [0, 1] (fun a b => ∃ k : Nat, k ≤ jz mag ∧ a = .int .i64 (mag / 2 ^ k) ∧ b = .int .i64 (exp + k)) (fun _ b => (exp + jz mag - intOf b).toNat)
  case atStart => exact ⟨0, Nat.zero_le _, by simp, by simp⟩
  case round =>
    obtain ⟨k, hk, rfl, rfl⟩ := hrel
    by_cases hlt : k < jz mag
    · obtain ⟨a1, a2, a3, a4⟩ := halved h0 h k hlt
      have b1 : (mag / 2 ^ k % 2 == 0) = true := by simp [a1]
      have A2 := keepRef a2
      clear a2 a1
      go_wp2
      go_round
      case rel => exact ⟨k + 1, hlt, go_int A2.out, go_int (by omega)⟩
      case measure => simp [intOf]; omega
    · have hke : k = jz mag := by omega
      subst hke
      have eo : mag / 2 ^ jz mag = jo mag := rfl
      have b1 : (jo mag % 2 == 0) = false := by simp [hodd]
      have hd0 := doubled (fr := 24) h0 h (by omega) 0
      have hd1 : jo mag < 16777216 ↔ 0 ≤ jsp 23 mag := by
        have e : jo mag * 2 ^ 0 = jo mag := by simp
        rw [e, show (2 : Int) ^ (24 : Int).toNat = 16777216 by decide] at hd0
        rw [hd0]; unfold jsp; omega
      clear hd0 hodd
      by_cases s1 : jo mag < 16777216
      · have sp := hd1.1 s1
        clear hd1
        by_cases s2 : exp + jz mag < -149
        · have hk : Hid (sk 23 (-149) mag exp = false) := by unfold Hid sk; simp; omega
          go_wp2
          go_ret3
          exact ⟨ret_ttt (by simp [sm, hk.out]) (by simp [se, hk.out]) (by simp [hk.out]), rfl⟩
        · have hk : Hid (sk 23 (-149) mag exp = true) := by unfold Hid sk; simp; omega
          obtain ⟨s, hs⟩ : ∃ s : Nat, jsh 23 (-149) mag exp = (s : Int) := ⟨(jsh 23 (-149) mag exp).toNat, by unfold jsh; omega⟩
          have hs' : Hid (jsh 23 (-149) mag exp = (s : Int)) := hs
          have hsd : Hid ((s : Int) = min (jsp 23 mag) (exp + jz mag + 149)) := by unfold Hid; rw [← hs]; unfold jsh; omega
          clear hs
          go_wp2
          go_loop [0, 1] (fun a b => ∃ j : Nat, j ≤ s ∧ a = .int .i64 (jo mag * 2 ^ j) ∧ b = .int .i64 (exp + jz mag - j)) (fun _ b => (intOf b + 149).toNat)
          case atStart => exact ⟨0, Nat.zero_le _, by simp, by simp⟩
          case round =>
            obtain ⟨j, hjs, rfl, rfl⟩ := hrel
            have hd := doubled (fr := 23) h0 h (by omega) j
            rw [show (2 : Int) ^ (23 : Int).toNat = 8388608 by decide] at hd
            have hb := jshift_lt (fr := 23) h0 h (by omega) j (by have := hsd.out; omega)
            have hb1 := hb.1
            have hb2 : jo mag * 2 ^ j < 16777216 := hb.2
            clear hb
            by_cases hlt : j < s
            · have c1 : jo mag * 2 ^ j < 8388608 := hd.2 (by have := hsd.out; omega)
              have c2 : -149 < exp + jz mag - j := by have := hsd.out; omega
              have e2 : Hid (jo mag * 2 ^ j + jo mag * 2 ^ j = jo mag * 2 ^ (j + 1)) := by
                unfold Hid; rw [Int.pow_succ, ← Int.mul_assoc]; omega
              clear hd
              go_wp2
              go_round
              case rel => exact ⟨j + 1, hlt, go_int e2.out, go_int (by omega)⟩
              case measure => simp [intOf]; omega
            · have hje : j = s := by omega
              subst hje
              have fin : ¬ (-149 < exp + jz mag - j ∧ jo mag * 2 ^ j < 8388608) := by
                rw [hd]; have := hsd.out; omega
              clear hd
              by_cases c2 : -149 < exp + jz mag - j
              all_goals
                go_wp2
                go_ret3
                exact ⟨ret_ttt (by simp [sm, hk.out, hs'.out]) (by simp [se, hk.out, hs'.out]) (by simp [hk.out]), rfl⟩
      · have hk : Hid (sk 23 (-149) mag exp = false) := by unfold Hid sk; simp; omega
        clear hd1
        go_wp2
        go_ret3
        exact ⟨ret_ttt (by simp [sm, hk.out]) (by simp [se, hk.out]) (by simp [hk.out]), rfl⟩
set_option maxHeartbeats 1000000 in
theorem refJoin (neg : Bool) (mag exp : Int) (w : World) (hm : rng mag) (he : rng exp) :
    Calls Tryz.prog 73 #[.bool neg, .int .i64 mag, .int .i64 exp] w fun e w' => e = .returned (.tuple #[.int .i64 (jp neg mag exp), .bool (jk 52 2047 (-1074) mag exp)]) ∧ w' = w := by
  unfold rng at hm he
  rcases Int.lt_trichotomy mag 0 with h | h | h
  · have hk : Hid (jk 52 2047 (-1074) mag exp = false) := by unfold Hid jk; rw [if_pos h]
    have hv : Hid (jp neg mag exp = 0) := by unfold Hid jp; rw [hk.out]; simp [jv]; omega
    cases neg
    all_goals
      go_enter Tryz.func73, Tryz.ntmps73
      go_wp2
      go_ret2
      exact ⟨ret_ib hv.out.symm hk.out.symm, rfl⟩
  · subst h
    cases neg
    all_goals
      go_enter Tryz.func73, Tryz.ntmps73
      go_wp2
      all_goals go_ret2
      all_goals exact ⟨ret_ib (by simp [jp, jk, jv]) (by simp [jk]), rfl⟩
  · have hn : (mag == 0) = false := by simp; omega
    by_cases f1 : 2000 < exp
    · have hg := jgood_far h hm.2 (exp := exp) (by omega)
      have hk : Hid (jk 52 2047 (-1074) mag exp = false) := by unfold Hid jk; rw [if_neg (by omega), if_neg (by omega), hg]
      have hv : Hid (jp neg mag exp = 0) := by unfold Hid jp; rw [hk.out]; simp [jv, hg]
      clear hg
      cases neg
      all_goals
        go_enter Tryz.func73, Tryz.ntmps73
        go_wp2
        go_ret2
        exact ⟨ret_ib hv.out.symm hk.out.symm, rfl⟩
    · by_cases f2 : exp < -2000
      · have hg := jgood_near h hm.2 f2
        have hk : Hid (jk 52 2047 (-1074) mag exp = false) := by unfold Hid jk; rw [if_neg (by omega), if_neg (by omega), hg]
        have hv : Hid (jp neg mag exp = 0) := by unfold Hid jp; rw [hk.out]; simp [jv, hg]
        clear hg
        cases neg
        all_goals
          go_enter Tryz.func73, Tryz.ntmps73
          go_wp2
          go_ret2
          exact ⟨ret_ib hv.out.symm hk.out.symm, rfl⟩
      · have hgs := jgood_sk mag exp
        by_cases g1 : sk 52 (-1074) mag exp = true
        · by_cases g2 : se 52 (-1074) mag exp ≤ 971
          · obtain ⟨b1, b2, b3, b4⟩ := jv_sm h hm.2 g1 g2
            have hk : Hid (jk 52 2047 (-1074) mag exp = true) := by unfold Hid jk; rw [if_neg (by omega), if_neg (by omega), hgs, g1]; simpa using g2
            have hv : Hid (jv 52 2047 (-1074) mag exp = (if sm 52 (-1074) mag exp < 4503599627370496 then sm 52 (-1074) mag exp else (se 52 (-1074) mag exp + 1075) * 4503599627370496 + sm 52 (-1074) mag exp - 4503599627370496)) := b4
            clear b4 hgs
            by_cases g3 : sm 52 (-1074) mag exp < 4503599627370496
            all_goals
              cases neg
              all_goals
                go_enter Tryz.func73, Tryz.ntmps73
                go_wp2_with (go_at_call 104; refine (shifted64 mag exp _ h hm.2 (by omega) (by omega)).mono ?_; rintro e w1 ⟨rfl, rfl⟩)
                go_ret2
                refine ⟨ret_ib ?_ hk.out.symm, rfl⟩
                unfold jp
                rw [hk.out, hv.out]
                simp
                omega
          · have hg : jgood 52 2047 (-1074) mag exp = false := by rw [hgs, g1]; simpa using g2
            have hk : Hid (jk 52 2047 (-1074) mag exp = false) := by unfold Hid jk; rw [if_neg (by omega), if_neg (by omega), hg]
            have hv : Hid (jp neg mag exp = 0) := by unfold Hid jp; rw [hk.out]; simp [jv, hg]
            clear hg hgs
            cases neg
            all_goals
              go_enter Tryz.func73, Tryz.ntmps73
              go_wp2_with (go_at_call 104; refine (shifted64 mag exp _ h hm.2 (by omega) (by omega)).mono ?_; rintro e w1 ⟨rfl, rfl⟩)
              go_ret2
              exact ⟨ret_ib hv.out.symm hk.out.symm, rfl⟩
        · have g1' : sk 52 (-1074) mag exp = false := by simpa using g1
          have hg : jgood 52 2047 (-1074) mag exp = false := by rw [hgs, g1']; rfl
          have hk : Hid (jk 52 2047 (-1074) mag exp = false) := by unfold Hid jk; rw [if_neg (by omega), if_neg (by omega), hg]
          have hv : Hid (jp neg mag exp = 0) := by unfold Hid jp; rw [hk.out]; simp [jv, hg]
          clear hg hgs g1
          cases neg
          all_goals
            go_enter Tryz.func73, Tryz.ntmps73
            go_wp2_with (go_at_call 104; refine (shifted64 mag exp _ h hm.2 (by omega) (by omega)).mono ?_; rintro e w1 ⟨rfl, rfl⟩)
            go_ret2
            exact ⟨ret_ib hv.out.symm hk.out.symm, rfl⟩
end Go.Proofs.YtnhkagiionkjaaaGreatDoor

/-
  Plain mathematics of floats: the order of words is the order of signed rungs; less, same and the order of all patterns. No Go text in sight.
-/
namespace Go.Proofs.YtnhkagiionkjaaaGreatDoor.M
open Go Ieee
set_option linter.unusedSimpArgs false
set_option linter.unusedVariables false

/-- the magnitude of a rung, in units of the least place -/
def V (f : Format) (r : Nat) : Nat := if r < f.binade then r else (f.binade + r % f.binade) * 2 ^ (r / f.binade - 1)

theorem binade_pos (f : Format) : 0 < f.binade := Nat.two_pow_pos _
theorem V_succ (f : Format) (r : Nat) : V f r < V f (r + 1) := by
  have hB := binade_pos f
  unfold V
  generalize hBd : f.binade = B at *
  clear hBd
  by_cases h1 : r + 1 < B
  · rw [if_pos (by omega), if_pos h1]; omega
  · rw [if_neg h1]
    by_cases h2 : r < B
    · have : r + 1 = B := by omega
      rw [if_pos h2, this, Nat.mod_self, Nat.div_self hB]; simp; omega
    · rw [if_neg h2]
      have hq : 1 ≤ r / B := (Nat.one_le_div_iff hB).2 (by omega)
      have hd := Nat.div_add_mod r B
      have hm := Nat.mod_lt r hB
      have hp : 0 < 2 ^ (r / B - 1) := Nat.two_pow_pos _
      by_cases h3 : r % B + 1 < B
      · have e1 : (r + 1) % B = r % B + 1 := by
          rw [Nat.add_mod, Nat.mod_eq_of_lt (show 1 < B by omega)]; exact Nat.mod_eq_of_lt h3
        have e2 : (r + 1) / B = r / B := by
          have := Nat.div_add_mod (r + 1) B
          rw [e1] at this
          have h4 : B * ((r + 1) / B) = B * (r / B) := by omega
          exact Nat.eq_of_mul_eq_mul_left hB h4
        rw [e1, e2]
        exact Nat.mul_lt_mul_of_pos_right (by omega) hp
      · have h4 : r % B + 1 = B := by omega
        have e0 : r + 1 = B * (r / B + 1) := by rw [Nat.mul_add, Nat.mul_one]; omega
        have e1 : (r + 1) % B = 0 := by rw [e0]; exact Nat.mul_mod_right _ _
        have e2 : (r + 1) / B = r / B + 1 := by rw [e0]; exact Nat.mul_div_cancel_left _ hB
        rw [e1, e2]
        have e3 : 2 ^ (r / B + 1 - 1) = 2 * 2 ^ (r / B - 1) := by
          rw [show r / B + 1 - 1 = (r / B - 1) + 1 by omega, Nat.pow_succ, Nat.mul_comm]
        rw [e3, Nat.add_zero, ← Nat.mul_assoc]
        exact Nat.mul_lt_mul_of_pos_right (by omega) hp
theorem V_lt (f : Format) {r s : Nat} (h : r < s) : V f r < V f s := by
  induction s with
  | zero => omega
  | succ s ih =>
    rcases Nat.lt_or_ge r s with h1 | h1
    · exact Nat.lt_trans (ih h1) (V_succ f s)
    · have : r = s := by omega
      subst this
      exact V_succ f r
theorem V_lt_iff (f : Format) (r s : Nat) : V f r < V f s ↔ r < s := by
  constructor
  · intro h
    rcases Nat.lt_trichotomy r s with h1 | h1 | h1
    · exact h1
    · subst h1; omega
    · have := V_lt f h1; omega
  · exact V_lt f
theorem V_zero (f : Format) : V f 0 = 0 := by unfold V; rw [if_pos (binade_pos f)]

/-- a finite word's reading: its magnitude in units of the least place is V of its rung -/
theorem read_finite (f : Format) (x : Nat) (h : x % f.signWeight < f.infRung) :
    ∃ m u : Nat, f.read x = .number (x / f.signWeight % 2 == 1) m (f.leastPlace + u) ∧ m * 2 ^ u = V f (x % f.signWeight) := by
  unfold Format.read V
  dsimp only
  by_cases h1 : x % f.signWeight < f.binade
  · rw [if_pos h1, if_pos h1]
    exact ⟨x % f.signWeight, 0, by simp, by simp⟩
  · rw [if_neg h1, if_pos h, if_neg h1]
    exact ⟨_, _, rfl, rfl⟩
theorem read_inf (f : Format) (hI : f.binade ≤ f.infRung) (x : Nat) (h : x % f.signWeight = f.infRung) : f.read x = .infinity (x / f.signWeight % 2 == 1) := by
  unfold Format.read
  dsimp only
  rw [h, if_neg (by omega), if_neg (by omega), if_pos rfl]
theorem read_nan (f : Format) (hI : f.binade ≤ f.infRung) (x : Nat) (h : f.infRung < x % f.signWeight) : ∃ s t, f.read x = .nan s t := by
  unfold Format.read
  dsimp only
  rw [if_neg (by omega), if_neg (by omega), if_neg (by omega)]
  exact ⟨_, _, rfl⟩
theorem order_nan (f : Format) (hI : f.binade ≤ f.infRung) (x y : Nat) (h : f.infRung < x % f.signWeight ∨ f.infRung < y % f.signWeight) : f.order x y = none := by
  unfold Format.order
  rcases h with h | h
  · obtain ⟨s, t, e⟩ := read_nan f hI x h
    rw [e]; rfl
  · obtain ⟨s, t, e⟩ := read_nan f hI y h
    rw [e]; cases f.read x <;> rfl
theorem compare_scale (x y k : Int) (hk : 0 < k) : compare (x * k) (y * k) = compare x y := by
  simp only [compare, compareOfLessAndEq]
  have h1 : x * k < y * k ↔ x < y := ⟨fun h => Int.lt_of_mul_lt_mul_right h (Int.le_of_lt hk), fun h => Int.mul_lt_mul_of_pos_right h hk⟩
  have h2 : x * k = y * k ↔ x = y := ⟨fun h => Int.eq_of_mul_eq_mul_right (by omega) h, fun h => by rw [h]⟩
  simp only [h1, h2]
theorem signed_scale (s : Bool) (m u k : Nat) : signed s m u * ((2 ^ k : Nat) : Int) = signed s m (u + k) := by
  unfold signed
  have e : ((m <<< u : Nat) : Int) * ((2 ^ k : Nat) : Int) = ((m <<< (u + k) : Nat) : Int) := by
    rw [Nat.shiftLeft_eq, Nat.shiftLeft_eq, Nat.pow_add, ← Nat.mul_assoc]
    exact (Int.natCast_mul _ _).symm
  split
  · rw [Int.neg_mul, e]
  · exact e
/-- the sign and the rung as one number -/
def skey (neg : Bool) (r : Nat) : Int := if neg then -(r : Int) else r
theorem order_number (s t : Bool) (m n : Nat) (l : Int) (u v : Nat) :
    (Datum.number s m (l + u)).order (Datum.number t n (l + v)) = some (compare (signed s m u) (signed t n v)) := by
  unfold Datum.order
  dsimp only
  have hmin : min (l + (u : Int)) (l + (v : Int)) = l + ((min u v : Nat) : Int) := by omega
  have a : (l + (u : Int) - (l + ((min u v : Nat) : Int))).toNat = u - min u v := by omega
  have b : (l + (v : Int) - (l + ((min u v : Nat) : Int))).toNat = v - min u v := by omega
  rw [hmin, a, b, ← compare_scale _ _ ((2 ^ min u v : Nat) : Int) (by exact_mod_cast Nat.two_pow_pos _), signed_scale, signed_scale,
    show u - min u v + min u v = u by omega, show v - min u v + min u v = v by omega]
theorem signed_V (s : Bool) (m u : Nat) : signed s m u = if s then -((m * 2 ^ u : Nat) : Int) else ((m * 2 ^ u : Nat) : Int) := by
  unfold signed; rw [Nat.shiftLeft_eq]
theorem compare_int (a b c d : Int) (h1 : a < b ↔ c < d) (h2 : b < a ↔ d < c) : compare a b = compare c d := by
  simp only [compare, compareOfLessAndEq]
  by_cases h : a < b
  · rw [if_pos h, if_pos (h1.1 h)]
  · rw [if_neg h, if_neg (fun k => h (h1.2 k))]
    by_cases k : b < a
    · rw [if_neg (by omega), if_neg (by have := h2.1 k; omega)]
    · rw [if_pos (by omega), if_pos (by have := fun z => k (h2.2 z); have := fun z => h (h1.2 z); omega)]
theorem order_finite (f : Format) (x y : Nat) (hx : x % f.signWeight < f.infRung) (hy : y % f.signWeight < f.infRung) :
    f.order x y = some (compare (skey (x / f.signWeight % 2 == 1) (x % f.signWeight)) (skey (y / f.signWeight % 2 == 1) (y % f.signWeight))) := by
  obtain ⟨m, u, e1, k1⟩ := read_finite f x hx
  obtain ⟨n, v, e2, k2⟩ := read_finite f y hy
  unfold Format.order
  rw [e1, e2, order_number, signed_V, signed_V, k1, k2]
  congr 1
  generalize x % f.signWeight = r
  generalize y % f.signWeight = q
  have a := V_lt_iff f r q
  have b := V_lt_iff f q r
  have a0 := V_lt_iff f 0 r
  have b0 := V_lt_iff f 0 q
  rw [V_zero] at a0 b0
  unfold skey
  cases (x / f.signWeight % 2 == 1) <;> cases (y / f.signWeight % 2 == 1) <;> simp only [if_true, if_false, Bool.false_eq_true] <;> apply compare_int <;> omega
theorem compare_lt {a b : Int} (h : a < b) : compare a b = .lt := by simp only [compare, compareOfLessAndEq]; rw [if_pos h]
theorem compare_gt {a b : Int} (h : b < a) : compare a b = .gt := by simp only [compare, compareOfLessAndEq]; rw [if_neg (by omega), if_neg (by omega)]
theorem compare_eq {a b : Int} (h : a = b) : compare a b = .eq := by simp only [compare, compareOfLessAndEq]; rw [if_neg (by omega), if_pos h]
theorem order_all (f : Format) (hI : f.binade ≤ f.infRung) (x y : Nat) (hx : x % f.signWeight ≤ f.infRung) (hy : y % f.signWeight ≤ f.infRung) :
    f.order x y = some (compare (skey (x / f.signWeight % 2 == 1) (x % f.signWeight)) (skey (y / f.signWeight % 2 == 1) (y % f.signWeight))) := by
  have hB := binade_pos f
  rcases Nat.lt_or_ge (x % f.signWeight) f.infRung with h1 | h1
  · rcases Nat.lt_or_ge (y % f.signWeight) f.infRung with h2 | h2
    · exact order_finite f x y h1 h2
    · have e2 := read_inf f hI y (by omega)
      obtain ⟨m, u, e1, _⟩ := read_finite f x h1
      have h2' : y % f.signWeight = f.infRung := by omega
      unfold Format.order skey
      rw [e1, e2, h2']
      cases (x / f.signWeight % 2 == 1) <;> cases (y / f.signWeight % 2 == 1) <;> simp only [if_true, if_false, Bool.false_eq_true, Datum.order]
      · rw [compare_lt (by omega)]
      · rw [compare_gt (by omega)]
      · rw [compare_lt (by omega)]
      · rw [compare_gt (by omega)]
  · have e1 := read_inf f hI x (by omega)
    have h1' : x % f.signWeight = f.infRung := by omega
    rcases Nat.lt_or_ge (y % f.signWeight) f.infRung with h2 | h2
    · obtain ⟨n, v, e2, _⟩ := read_finite f y h2
      unfold Format.order skey
      rw [e1, e2, h1']
      cases (x / f.signWeight % 2 == 1) <;> cases (y / f.signWeight % 2 == 1) <;> simp only [if_true, if_false, Bool.false_eq_true, Datum.order]
      · rw [compare_gt (by omega)]
      · rw [compare_gt (by omega)]
      · rw [compare_lt (by omega)]
      · rw [compare_lt (by omega)]
    · have e2 := read_inf f hI y (by omega)
      have h2' : y % f.signWeight = f.infRung := by omega
      unfold Format.order skey
      rw [e1, e2, h1', h2']
      cases (x / f.signWeight % 2 == 1) <;> cases (y / f.signWeight % 2 == 1) <;> simp only [if_true, if_false, Bool.false_eq_true, Datum.order]
      · rw [compare_eq rfl]; rfl
      · rw [compare_gt (by omega)]; rfl
      · rw [compare_lt (by omega)]; rfl
      · rw [compare_eq rfl]; rfl

/-- a pattern's sign and rung as one number -/
def key (b : Int) : Int := if b < 0 then -(b + 9223372036854775808) else b
theorem dSign : Ieee.double.signWeight = 9223372036854775808 := by decide
theorem dInf : Ieee.double.infRung = 9218868437227405312 := by decide
theorem dOk : Ieee.double.binade ≤ Ieee.double.infRung := by decide
theorem wd_rung {b : Int} (h : rng b) : ((wd b % 9223372036854775808 : Nat) : Int) = if b < 0 then b + 9223372036854775808 else b := by
  unfold rng at h; unfold wd; split <;> omega
theorem wd_neg {b : Int} (h : rng b) : (wd b / 9223372036854775808 % 2 == 1) = decide (b < 0) := by
  unfold rng at h; unfold wd
  rw [Bool.eq_iff_iff]; simp only [beq_iff_eq, decide_eq_true_eq]; omega
theorem cls4_rung {b : Int} (h : rng b) : cls b = 4 ↔ 9218868437227405312 < wd b % 9223372036854775808 := by
  have := wd_rung h
  rw [cls4]; unfold rng at h; unfold fld frc
  split at this <;> omega
theorem skey_key {b : Int} (h : rng b) : skey (wd b / 9223372036854775808 % 2 == 1) (wd b % 9223372036854775808) = key b := by
  rw [wd_neg h]; unfold skey key; rw [wd_rung h]
  by_cases hb : b < 0 <;> simp [hb]
theorem order64 {a b : Int} (ha : rng a) (hb : rng b) (h1 : ¬ cls a = 4) (h2 : ¬ cls b = 4) : FloatKind.f64.format.order (wd a) (wd b) = some (compare (key a) (key b)) := by
  rw [cls4_rung ha] at h1; rw [cls4_rung hb] at h2
  have := order_all Ieee.double dOk (wd a) (wd b) (by rw [dSign, dInf]; omega) (by rw [dSign, dInf]; omega)
  rw [dSign, skey_key ha, skey_key hb] at this
  exact this
theorem order64_nan {a b : Int} (ha : rng a) (hb : rng b) (h : cls a = 4 ∨ cls b = 4) : FloatKind.f64.format.order (wd a) (wd b) = none := by
  refine order_nan Ieee.double dOk _ _ ?_
  rw [dSign, dInf]
  rcases h with h | h
  · exact .inl ((cls4_rung ha).1 h)
  · exact .inr ((cls4_rung hb).1 h)
def less (a b : Int) : Bool := !decide (cls a = 4) && (!decide (cls b = 4) && decide (key a < key b))
def same (a b : Int) : Bool := !decide (cls a = 4) && (!decide (cls b = 4) && decide (key a = key b))
theorem less_order {a b : Int} (ha : rng a) (hb : rng b) : (FloatKind.f64.format.order (wd a) (wd b) == some .lt) = less a b := by
  unfold less
  by_cases h1 : cls a = 4
  · rw [order64_nan ha hb (.inl h1)]; simp [h1]
  · by_cases h2 : cls b = 4
    · rw [order64_nan ha hb (.inr h2)]; simp [h2]
    · rw [order64 ha hb h1 h2]
      simp only [h1, h2, decide_false, Bool.not_false, Bool.true_and]
      rcases Int.lt_trichotomy (key a) (key b) with h | h | h
      · rw [compare_lt h]; simp [h]
      · rw [compare_eq h]; simp [h]
      · rw [compare_gt h]; simp; omega
theorem same_order {a b : Int} (ha : rng a) (hb : rng b) : (FloatKind.f64.format.order (wd a) (wd b) == some .eq) = same a b := by
  unfold same
  by_cases h1 : cls a = 4
  · rw [order64_nan ha hb (.inl h1)]; simp [h1]
  · by_cases h2 : cls b = 4
    · rw [order64_nan ha hb (.inr h2)]; simp [h2]
    · rw [order64 ha hb h1 h2]
      simp only [h1, h2, decide_false, Bool.not_false, Bool.true_and]
      rcases Int.lt_trichotomy (key a) (key b) with h | h | h
      · rw [compare_lt h]; simp; omega
      · rw [compare_eq h]; simp [h]
      · rw [compare_gt h]; simp; omega
/-- where a pattern that is a number stands among all, -0 ahead of 0 -/
def place (b : Int) : Int := if b < 0 then -(b + 9223372036854775808) - 1 else b
theorem cls0 {b : Int} (h : rng b) : cls b = 0 ↔ b = 0 ∨ b = -9223372036854775808 := by
  unfold rng at h
  unfold cls fld frc; repeat' split
  all_goals omega
theorem place_canon {b : Int} (h : rng b) (h4 : ¬ cls b = 4) : place (canon b) = if b = 0 ∨ b = -9223372036854775808 then 0 else if b < 0 then key b - 1 else key b := by
  unfold canon; rw [if_neg h4]
  have := cls0 h
  unfold rng at h
  unfold place key
  by_cases hc : cls b = 0
  · rw [if_pos hc, if_pos (this.1 hc)]; simp
  · rw [if_neg hc, if_neg (fun k => hc (this.2 k))]
    split <;> rfl
theorem less_place {a b : Int} (ha : rng a) (hb : rng b) (h1 : ¬ cls a = 4) (h2 : ¬ cls b = 4) : decide (place (canon a) < place (canon b)) = less a b := by
  unfold less
  simp only [h1, h2, decide_false, Bool.not_false, Bool.true_and]
  rw [place_canon ha h1, place_canon hb h2]
  unfold rng at ha hb
  congr 1
  unfold key
  apply propext
  repeat' split
  all_goals omega
theorem same_canon {a b : Int} (ha : rng a) (hb : rng b) : (!decide (cls a = 4) && decide (canon a = canon b)) = same a b := by
  unfold same canon
  have ca := cls0 ha
  have cb := cls0 hb
  by_cases h1 : cls a = 4
  · simp [h1]
  · have na := cls4_not h1
    by_cases h2 : cls b = 4
    · simp only [h1, h2, if_true, if_false, decide_false, decide_true, Bool.not_false, Bool.not_true, Bool.true_and, Bool.false_and]
      have : ¬ cls (9221120237041090561) = 0 := by decide
      unfold rng at ha
      unfold fld frc at na
      split
      · simp
      · simp; omega
    · simp only [h1, h2, if_false, decide_false, Bool.not_false, Bool.true_and]
      unfold rng at ha hb
      unfold key
      congr 1
      apply propext
      by_cases h3 : cls a = 0 <;> by_cases h4 : cls b = 0
      all_goals simp only [h3, h4, if_true, if_false]
      · rcases ca.1 h3 with rfl | rfl <;> rcases cb.1 h4 with rfl | rfl <;> simp
      · have := ca.1 h3; have : ¬ (b = 0 ∨ b = -9223372036854775808) := fun k => h4 (cb.2 k)
        repeat' split
        all_goals omega
      · have := cb.1 h4; have : ¬ (a = 0 ∨ a = -9223372036854775808) := fun k => h3 (ca.2 k)
        repeat' split
        all_goals omega
      · have : ¬ (b = 0 ∨ b = -9223372036854775808) := fun k => h4 (cb.2 k)
        have : ¬ (a = 0 ∨ a = -9223372036854775808) := fun k => h3 (ca.2 k)
        repeat' split
        all_goals omega
def b_ord (a b : Int) : Int := if cls a = 4 then (if cls b = 4 then 0 else 1) else if cls b = 4 then -1 else if place a < place b then -1 else if place b < place a then 1 else 0
def rank (b : Int) : Int := if cls b = 4 then 9223372036854775807 else place b
def cmp (x y : Int) : Int := if x < y then -1 else if y < x then 1 else 0
theorem place_lt {b : Int} (h : rng b) (h4 : ¬ cls b = 4) : place b < 9223372036854775807 ∧ -9223372036854775808 ≤ place b := by
  have n := cls4_not h4
  unfold rng at h; unfold place; unfold fld frc at n
  split <;> omega
theorem rank_rng {b : Int} (h : rng b) : rng (rank b) := by
  unfold rank; split
  · unfold rng; omega
  · rename_i h4; have := place_lt h h4; unfold rng; omega
theorem cmp_rank {a b : Int} (ha : rng a) (hb : rng b) : cmp (rank a) (rank b) = b_ord a b := by
  unfold cmp rank b_ord
  by_cases h1 : cls a = 4 <;> by_cases h2 : cls b = 4
  · simp [h1, h2]
  · have := place_lt hb h2
    simp only [h1, h2, if_true, if_false]
    rw [if_neg (by omega), if_pos (by omega)]
  · have := place_lt ha h1
    simp only [h1, h2, if_true, if_false]
    rw [if_pos (by omega)]
  · simp only [h1, h2, if_false]
theorem rng_canon {b : Int} (h : rng b) : rng (canon b) := by
  unfold canon; repeat' split
  · unfold rng; omega
  · unfold rng; omega
  · exact h
end Go.Proofs.YtnhkagiionkjaaaGreatDoor.M

/-
  Plain mathematics: the value of a joined pattern; what Parts tells is joined again to the same pattern; the neighbour of a pattern by its parts. No Go text in sight.
-/
namespace Go.Proofs.YtnhkagiionkjaaaGreatDoor.M
open Go Ieee
set_option linter.unusedSimpArgs false
set_option linter.unusedVariables false

theorem V_parts (f : Format) (a n : Nat) (h : (a = 0 ∧ n < 2 * f.binade) ∨ (f.binade ≤ n ∧ n < 2 * f.binade)) : V f (a * f.binade + n) = n * 2 ^ a := by
  have hB := binade_pos f
  unfold V
  by_cases hn : n < f.binade
  · have ha : a = 0 := by omega
    subst ha
    rw [Nat.zero_mul, Nat.zero_add, if_pos hn]; simp
  · have hge : f.binade ≤ a * f.binade + n := Nat.le_trans (by omega) (Nat.le_add_left _ _)
    rw [if_neg (by omega)]
    have e : a * f.binade + n = f.binade * (a + 1) + (n - f.binade) := by
      rw [Nat.mul_add, Nat.mul_one, Nat.mul_comm]; omega
    rw [e, Nat.mul_add_mod, Nat.mod_eq_of_lt (show n - f.binade < f.binade by omega), Nat.mul_add_div hB, Nat.div_eq_of_lt (show n - f.binade < f.binade by omega)]
    rw [show a + 1 + 0 - 1 = a by omega, show f.binade + (n - f.binade) = n by omega]
theorem V_inj (f : Format) {r s : Nat} (h : V f r = V f s) : r = s := by
  rcases Nat.lt_trichotomy r s with h1 | h1 | h1
  · have := V_lt f h1; omega
  · exact h1
  · have := V_lt f h1; omega
theorem pow_split (z : Nat) (n : Int) (u : Nat) (m : Nat) (hn : 0 ≤ n) (h : z ≤ u) (hm : (m : Int) = n * 2 ^ z) : n.toNat * 2 ^ u = m * 2 ^ (u - z) := by
  obtain ⟨k, rfl⟩ := Int.eq_ofNat_of_zero_le hn
  have hm' : m = k * 2 ^ z := by
    have : ((k * 2 ^ z : Nat) : Int) = (k : Int) * 2 ^ z := by rw [Int.natCast_mul]; simp
    omega
  rw [hm', Int.toNat_natCast, Nat.mul_assoc, ← Nat.pow_add, show z + (u - z) = u by omega]
/-- the value of a joined pattern, in units of the least place -/
theorem V_join (f : Format) (fr : Nat) (hB : f.binade = 2 ^ fr) (top least mag exp : Int) (h0 : 0 < mag) (h : mag < 9223372036854775808)
    (hg : jgood fr top least mag exp = true) (he : least ≤ exp) : V f (jv fr top least mag exp).toNat = mag.toNat * 2 ^ (exp - least).toNat := by
  obtain ⟨m, ez, z63, eo⟩ := jz_spec h0 h
  have hg' := hg
  unfold jgood at hg'
  simp only [Bool.and_eq_true, decide_eq_true_eq] at hg'
  have hs : 0 ≤ jsh fr least mag exp ∧ jsh fr least mag exp ≤ jsp fr mag ∧ jsh fr least mag exp ≤ exp + jz mag - least := by unfold jsh; omega
  have hb := jshift_lt (fr := fr) h0 h (by omega) (jsh fr least mag exp).toNat (by omega)
  have hd := doubled (fr := fr) h0 h (by omega) (jsh fr least mag exp).toNat
  have ha : 0 ≤ jab fr least mag exp := by unfold jab; omega
  obtain ⟨n, hn⟩ := Int.eq_ofNat_of_zero_le (show 0 ≤ jo mag * 2 ^ (jsh fr least mag exp).toNat by omega)
  obtain ⟨a, ha'⟩ := Int.eq_ofNat_of_zero_le ha
  rw [hn] at hb hd
  have hB1 : ((f.binade : Nat) : Int) = 2 ^ fr := by rw [hB]; simp
  rw [Int.toNat_natCast, ← hB1] at hd
  have hb2 : (n : Int) < 2 * (f.binade : Int) := by
    have := hb.2
    rw [Int.toNat_natCast, Int.pow_succ, ← hB1] at this
    omega
  have ejv : (jv fr top least mag exp).toNat = a * f.binade + n := by
    unfold jv
    rw [if_neg (by omega), if_pos hg, hn, ha', Int.toNat_natCast, ← hB1]
    have : ((a : Int) * (f.binade : Int) + (n : Int)) = ((a * f.binade + n : Nat) : Int) := by rw [Int.natCast_add, Int.natCast_mul]
    rw [this, Int.toNat_natCast]
  rw [ejv, V_parts f a n (by
    by_cases hn1 : n < f.binade
    · left
      have := hd.1 (by omega)
      have : jab fr least mag exp = 0 := by unfold jab; unfold jsh at *; omega
      omega
    · right; omega)]
  -- n * 2 ^ a = mag * 2 ^ (exp - least)
  have e1 : mag.toNat * 2 ^ (exp - least).toNat = (jo mag).toNat * 2 ^ (jz mag + (exp - least).toNat) := by
    have hm : ((mag.toNat : Nat) : Int) = jo mag * 2 ^ jz mag := by
      rw [Int.toNat_of_nonneg (by omega), eo, Int.mul_comm]; exact ez
    rw [pow_split (jz mag) (jo mag) (jz mag + (exp - least).toNat) mag.toNat (by omega) (by omega) hm]
    congr 2; omega
  have e2 : n * 2 ^ a = (jo mag).toNat * 2 ^ ((jsh fr least mag exp).toNat + a) := by
    rw [pow_split (jsh fr least mag exp).toNat (jo mag) ((jsh fr least mag exp).toNat + a) n (by omega) (by omega) (by rw [← hn])]
    congr 2; omega
  rw [e1, e2]
  congr 2
  unfold jab at ha'
  omega
/-- the odd part and the twos together are no longer than the whole -/
theorem jzl {mag : Int} (h0 : 0 < mag) (h : mag < 9223372036854775808) (k : Nat) (hk : mag < 2 ^ k) : (jz mag : Int) + jl mag ≤ k := by
  obtain ⟨m, ez, z63, eo⟩ := jz_spec h0 h
  have hj := jo_le h0 h
  have sp := bitLen_spec (jo mag).toNat (by omega) (by omega)
  have h1 : 2 ^ (Lib.bitLen (jo mag).toNat - 1) * 2 ^ jz mag ≤ (jo mag).toNat * 2 ^ jz mag := Nat.mul_le_mul_right _ sp.1
  rw [← Nat.pow_add] at h1
  have h2 : (((jo mag).toNat * 2 ^ jz mag : Nat) : Int) = mag := by
    rw [Int.natCast_mul, Int.toNat_of_nonneg (by omega), eo, Int.mul_comm]
    simp only [Int.natCast_pow]
    exact ez.symm
  have h3 : (jo mag).toNat * 2 ^ jz mag < 2 ^ k := by
    have : ((2 ^ k : Nat) : Int) = 2 ^ k := by simp
    omega
  have h4 : 2 ^ (Lib.bitLen (jo mag).toNat - 1 + jz mag) < 2 ^ k := by omega
  have := (Nat.pow_lt_pow_iff_right (by decide : 1 < 2)).1 h4
  unfold jl
  omega
theorem jgood_small {fr top least mag exp : Int} (h0 : 0 < mag) (h : mag < 9223372036854775808) (hf : 0 ≤ fr) (hk : mag < 2 ^ (fr.toNat + 1)) (he : least ≤ exp) (he2 : exp ≤ top - 2 + least) : jgood fr top least mag exp = true := by
  have hl := jzl h0 h (fr.toNat + 1) hk
  have := jl_le h0 h
  unfold jgood jab jsh jsp
  simp only [Bool.and_eq_true, decide_eq_true_eq]
  omega
/-! binary64 -/
def rg (b : Int) : Int := if b < 0 then b + 9223372036854775808 else b
theorem rg_parts {b : Int} (h : rng b) : 0 ≤ rg b ∧ rg b = fld b * 4503599627370496 + frc b := by
  unfold rng at h; unfold rg fld frc; split <;> omega
theorem pparts {b : Int} (h : pok b = true) : fld b ≠ 2047 := by simpa [pok] using h
theorem dB : Ieee.double.binade = 2 ^ 52 := by decide
theorem V_rg {b : Int} (hb : rng b) (hp : pok b = true) : V Ieee.double (rg b).toNat = (pmag b).toNat * 2 ^ (pexp b + 1074).toNat := by
  have hne := pparts hp
  obtain ⟨r0, r1⟩ := rg_parts hb
  have hf := fld_le b
  have ht := frc_le b
  by_cases h0 : fld b = 0
  · have e : (rg b).toNat = 0 * Ieee.double.binade + (frc b).toNat := by omega
    rw [e, V_parts _ _ _ (.inl ⟨rfl, by rw [dB]; omega⟩)]
    simp [pmag, pexp, h0]
  · have e : (rg b).toNat = (fld b - 1).toNat * Ieee.double.binade + (4503599627370496 + frc b).toNat := by rw [dB]; omega
    rw [e, V_parts _ _ _ (.inr (by rw [dB]; omega))]
    unfold pmag pexp
    rw [if_neg hne, if_neg h0, if_neg hne, if_neg h0]
    congr 2; omega
theorem pmag_le {b : Int} (hp : pok b = true) : 0 ≤ pmag b ∧ pmag b < 9007199254740992 ∧ -1074 ≤ pexp b ∧ pexp b ≤ 971 := by
  have hne := pparts hp
  have hf := fld_le b
  have ht := frc_le b
  unfold pmag pexp; rw [if_neg hne, if_neg hne]; split <;> omega
/-- Parts joined again: the same pattern -/
theorem join_parts {b : Int} (hb : rng b) (hp : pok b = true) : jk 52 2047 (-1074) (pmag b) (pexp b) = true ∧ jp (pneg b) (pmag b) (pexp b) = b := by
  obtain ⟨m0, m1, e0, e1⟩ := pmag_le hp
  obtain ⟨r0, r1⟩ := rg_parts hb
  have hV := V_rg hb hp
  have hneg : pneg b = decide (b < 0) := by unfold pneg; rw [hp]; simp
  by_cases hz : pmag b = 0
  · have hr : (rg b).toNat = 0 := by
      rw [hz] at hV
      refine V_inj Ieee.double ?_
      rw [hV, V_zero]; simp
    have hk : jk 52 2047 (-1074) (pmag b) (pexp b) = true := by rw [hz]; simp [jk]
    refine ⟨hk, ?_⟩
    unfold jp; rw [hk, hneg, hz]
    unfold rng at hb; unfold rg at *
    by_cases h : b < 0
    · simp [h, jv] at *; omega
    · simp [h, jv] at *; omega
  · have hg : jgood 52 2047 (-1074) (pmag b) (pexp b) = true := jgood_small (by omega) (by omega) (by omega) (by simpa using m1) e0 (by omega)
    have hk : jk 52 2047 (-1074) (pmag b) (pexp b) = true := by unfold jk; rw [if_neg (by omega), if_neg hz]; exact hg
    have hj := V_join Ieee.double 52 dB 2047 (-1074) (pmag b) (pexp b) (by omega) (by omega) hg e0
    rw [show pexp b - -1074 = pexp b + 1074 by omega, ← hV] at hj
    have hj' := V_inj _ hj
    have hl := jv_le (mag := pmag b) (exp := pexp b) (by unfold rng; omega)
    refine ⟨hk, ?_⟩
    have ev : jv 52 2047 (-1074) (pmag b) (pexp b) = rg b := by
      have : jv ((52 : Nat) : Int) 2047 (-1074) (pmag b) (pexp b) = jv 52 2047 (-1074) (pmag b) (pexp b) := rfl
      rw [this] at hj'
      omega
    unfold jp; rw [hk, hneg, ev]
    unfold rng at hb; unfold rg
    by_cases h : b < 0
    · simp [h] <;> omega
    · simp [h]
/-- the neighbour away from 0, by the parts -/
theorem join_next {b : Int} (hb : rng b) (hp : pok b = true) (hk : jk 52 2047 (-1074) (pmag b + 1) (pexp b) = true) : jp false (pmag b + 1) (pexp b) = next (abs b) := by
  obtain ⟨m0, m1, e0, e1⟩ := pmag_le hp
  obtain ⟨r0, r1⟩ := rg_parts hb
  have hV := V_rg hb hp
  have hne := pparts hp
  have hf := fld_le b
  have ht := frc_le b
  have hg : jgood 52 2047 (-1074) (pmag b + 1) (pexp b) = true := by unfold jk at hk; rw [if_neg (by omega), if_neg (by omega)] at hk; exact hk
  have hj := V_join Ieee.double 52 dB 2047 (-1074) (pmag b + 1) (pexp b) (by omega) (by omega) hg e0
  -- the next rung's value
  have hV1 : V Ieee.double ((rg b).toNat + 1) = (pmag b + 1).toNat * 2 ^ (pexp b + 1074).toNat := by
    by_cases h0 : fld b = 0
    · have e : (rg b).toNat + 1 = 0 * Ieee.double.binade + (frc b + 1).toNat := by omega
      rw [e, V_parts _ _ _ (.inl ⟨rfl, by rw [dB]; omega⟩)]
      simp [pmag, pexp, h0]
    · by_cases h9 : frc b + 1 < 4503599627370496
      · have e : (rg b).toNat + 1 = (fld b - 1).toNat * Ieee.double.binade + (4503599627370496 + frc b + 1).toNat := by rw [dB]; omega
        rw [e, V_parts _ _ _ (.inr (by rw [dB]; omega))]
        unfold pmag pexp
        rw [if_neg hne, if_neg h0, if_neg hne, if_neg h0]
        congr 2; omega
      · have e : (rg b).toNat + 1 = (fld b).toNat * Ieee.double.binade + (4503599627370496 : Nat) := by rw [dB]; omega
        rw [e, V_parts _ _ _ (.inr (by rw [dB]; omega))]
        unfold pmag pexp
        rw [if_neg hne, if_neg h0, if_neg hne, if_neg h0]
        have e2 : (fld b).toNat = (fld b - 1075 + 1074).toNat + 1 := by omega
        rw [e2, Nat.pow_succ]
        have e3 : (4503599627370496 + frc b + 1).toNat = 4503599627370496 * 2 := by omega
        rw [e3]
        rw [Nat.mul_comm (2 ^ (fld b - 1075 + 1074).toNat) 2, ← Nat.mul_assoc]
  rw [show pexp b - -1074 = pexp b + 1074 by omega, ← hV1] at hj
  have hj' := V_inj _ hj
  have hl := jv_le (mag := pmag b + 1) (exp := pexp b) (by unfold rng; omega)
  have ev : jv 52 2047 (-1074) (pmag b + 1) (pexp b) = rg b + 1 := by
    have : jv ((52 : Nat) : Int) 2047 (-1074) (pmag b + 1) (pexp b) = jv 52 2047 (-1074) (pmag b + 1) (pexp b) := rfl
    rw [this] at hj'
    omega
  have hc4 : ¬ cls b = 4 := by rw [cls4]; omega
  have ea : abs b = rg b := by unfold abs; rw [if_neg hc4]; rfl
  have hc4' : ¬ cls (rg b) = 4 := by
    rw [cls4]; unfold rng at hb; unfold rg fld frc at *; split <;> omega
  unfold jp
  rw [ev, ea]
  simp only [Bool.and_false, Bool.false_eq_true, if_false]
  unfold next
  rw [if_neg hc4', if_neg (by omega), if_neg (by omega), if_neg (by omega)]
/-- a power of 2 that Parts tells of is there -/
theorem join_one {b : Int} (hp : pok b = true) : jk 52 2047 (-1074) 1 (pexp b) = true := by
  obtain ⟨m0, m1, e0, e1⟩ := pmag_le hp
  unfold jk; rw [if_neg (by omega), if_neg (by omega)]
  exact jgood_small (by omega) (by omega) (by omega) (by decide) e0 (by omega)
/-! binary32 -/
def rg32 (b : Int) : Int := if b < 2147483648 then b else b - 2147483648
theorem pparts32 {b : Int} (h : pok32 b = true) : 0 ≤ b ∧ b < 4294967296 ∧ fld32 b ≠ 255 := by
  unfold pok32 at h
  simp only [Bool.and_eq_true] at h
  have := of_decide_eq_true h.1
  exact ⟨this.1, this.2, by simpa using h.2⟩
theorem rg32_parts {b : Int} (h0 : 0 ≤ b) (h1 : b < 4294967296) : 0 ≤ rg32 b ∧ rg32 b = fld32 b * 8388608 + frc32 b := by
  unfold rg32 fld32 frc32; split <;> omega
theorem sB : Ieee.single.binade = 2 ^ 23 := by decide
theorem V_rg32 {b : Int} (hp : pok32 b = true) : V Ieee.single (rg32 b).toNat = (pmag32 b).toNat * 2 ^ (pexp32 b + 149).toNat := by
  obtain ⟨b0, b1, hne⟩ := pparts32 hp
  obtain ⟨r0, r1⟩ := rg32_parts b0 b1
  have hf := fld32_le b
  have ht := frc32_le b
  by_cases h0 : fld32 b = 0
  · have e : (rg32 b).toNat = 0 * Ieee.single.binade + (frc32 b).toNat := by omega
    rw [e, V_parts _ _ _ (.inl ⟨rfl, by rw [sB]; omega⟩)]
    simp [pmag32, pexp32, h0, hp]
  · have e : (rg32 b).toNat = (fld32 b - 1).toNat * Ieee.single.binade + (8388608 + frc32 b).toNat := by rw [sB]; omega
    rw [e, V_parts _ _ _ (.inr (by rw [sB]; omega))]
    unfold pmag32 pexp32
    rw [if_pos hp, if_neg h0, if_pos hp, if_neg h0]
    congr 2; omega
theorem pmag32_le {b : Int} (hp : pok32 b = true) : 0 ≤ pmag32 b ∧ pmag32 b < 16777216 ∧ -149 ≤ pexp32 b ∧ pexp32 b ≤ 104 := by
  obtain ⟨b0, b1, hne⟩ := pparts32 hp
  have hf := fld32_le b
  have ht := frc32_le b
  unfold pmag32 pexp32; rw [if_pos hp, if_pos hp]; split <;> omega
theorem join_parts32 {b : Int} (hp : pok32 b = true) : jk 23 255 (-149) (pmag32 b) (pexp32 b) = true ∧ jp32 (pneg32 b) (pmag32 b) (pexp32 b) = b := by
  obtain ⟨m0, m1, e0, e1⟩ := pmag32_le hp
  obtain ⟨b0, b1, hne⟩ := pparts32 hp
  obtain ⟨r0, r1⟩ := rg32_parts b0 b1
  have hV := V_rg32 hp
  have hneg : pneg32 b = decide (2147483648 ≤ b) := by unfold pneg32; rw [hp]; simp
  by_cases hz : pmag32 b = 0
  · have hr : (rg32 b).toNat = 0 := by
      rw [hz] at hV
      refine V_inj Ieee.single ?_
      rw [hV, V_zero]; simp
    have hk : jk 23 255 (-149) (pmag32 b) (pexp32 b) = true := by rw [hz]; simp [jk]
    refine ⟨hk, ?_⟩
    unfold jp32; rw [hk, hneg, hz]
    have hr0 : rg32 b = 0 := by omega
    unfold rg32 at hr0
    by_cases h : 2147483648 ≤ b
    · simp [h, jv]; split at hr0 <;> omega
    · simp [h, jv]; split at hr0 <;> omega
  · have hg : jgood 23 255 (-149) (pmag32 b) (pexp32 b) = true := jgood_small (by omega) (by omega) (by omega) (by simpa using m1) e0 (by omega)
    have hk : jk 23 255 (-149) (pmag32 b) (pexp32 b) = true := by unfold jk; rw [if_neg (by omega), if_neg hz]; exact hg
    have hj := V_join Ieee.single 23 sB 255 (-149) (pmag32 b) (pexp32 b) (by omega) (by omega) hg e0
    rw [show pexp32 b - -149 = pexp32 b + 149 by omega, ← hV] at hj
    have hj' := V_inj _ hj
    have hl := jv_le32 (mag := pmag32 b) (exp := pexp32 b) (by unfold rng; omega)
    refine ⟨hk, ?_⟩
    have ev : jv 23 255 (-149) (pmag32 b) (pexp32 b) = rg32 b := by
      have : jv ((23 : Nat) : Int) 255 (-149) (pmag32 b) (pexp32 b) = jv 23 255 (-149) (pmag32 b) (pexp32 b) := rfl
      rw [this] at hj'
      omega
    unfold jp32; rw [hk, hneg, ev]
    by_cases h : 2147483648 ≤ b
    · have e : rg32 b = b - 2147483648 := by unfold rg32; rw [if_neg (by omega)]
      simp [h, e]
    · have e : rg32 b = b := by unfold rg32; rw [if_pos (by omega)]
      simp [h, e]
theorem pok32_cls (b : Int) : pok32 b = decide (cls32 b < 3) := by
  by_cases hi : in32 b = true
  · have hb := of_decide_eq_true hi
    unfold pok32 cls32
    rw [hi, if_neg (by omega)]
    by_cases h : fld32 b = 255 <;> by_cases h2 : frc32 b = 0 <;> by_cases h3 : fld32 b = 0 <;> simp [h, h2, h3]
  · have hn : b < 0 ∨ 4294967296 ≤ b := by simp [in32] at hi; omega
    have h' : in32 b = false := by simpa using hi
    unfold pok32 cls32
    rw [h', if_pos hn]; simp
theorem rng_pmag (b : Int) : rng (pmag b) := by
  have := frc_le b
  unfold rng pmag; repeat' split
  all_goals omega
theorem rng_pexp' (b : Int) : rng (pexp b) := by
  have := fld_le b
  unfold rng pexp; repeat' split
  all_goals omega
theorem rng_pmag32 (b : Int) : rng (pmag32 b) := by
  have := frc32_le b
  unfold rng pmag32; repeat' split
  all_goals omega
theorem rng_pexp32 (b : Int) : rng (pexp32 b) := by
  have := fld32_le b
  unfold rng pexp32; repeat' split
  all_goals omega
end Go.Proofs.YtnhkagiionkjaaaGreatDoor.M

/-
  Plain mathematics: which numbers in their one form are floats. No Go text in sight.
-/
namespace Go.Proofs.YtnhkagiionkjaaaGreatDoor
open Go Go.RowKit Go.Proofs.YtnhkagiionkjaaaGreatDoor.M
set_option linter.unusedSimpArgs false
set_option linter.unusedVariables false

theorem jz_low {M : Int} (h0 : 0 < M) (h : M < 9223372036854775808) {l : Nat} (hl : IsLow M l) : jz M = l ∧ jo M = M / 2 ^ l := by
  obtain ⟨m, e1, _, _⟩ := jz_spec h0 h
  have : IsLow M (jz M) := ⟨m, by rw [Int.mul_comm]; exact e1⟩
  have e := low_unique this hl
  exact ⟨e, by unfold jo; rw [e]⟩
theorem jz_odd {m : Int} (h0 : 0 < m) (h : m < 9223372036854775808) (ho : m % 2 = 1) : jz m = 0 ∧ jo m = m := by
  obtain ⟨a, b⟩ := jz_low h0 h (l := 0) ⟨m / 2, by rw [Int.pow_zero]; omega⟩
  exact ⟨a, by rw [b, Int.pow_zero, Int.ediv_one]⟩
/-- The odd form of a number joins as the number does. -/
theorem j_odd {M e : Int} {l : Nat} (ng : Bool) (h0 : 0 < M) (h : M < 9223372036854775808) (hl : IsLow M l) :
    jk 52 2047 (-1074) (M / 2 ^ l) (e + l) = jk 52 2047 (-1074) M e ∧ jp ng (M / 2 ^ l) (e + l) = jp ng M e := by
  obtain ⟨c1, c2, c3⟩ := isLow_odd hl h0
  have hle : M / 2 ^ l ≤ M := Int.ediv_le_self _ (by omega)
  obtain ⟨z1, o1⟩ := jz_low h0 h hl
  obtain ⟨z2, o2⟩ := jz_odd c1 (by omega) c2
  have ho : jo (M / 2 ^ l) = jo M := by rw [o2, o1]
  have hj : jl (M / 2 ^ l) = jl M := by unfold jl; rw [ho]
  have he : e + (l : Int) + ((jz (M / 2 ^ l) : Nat) : Int) = e + (jz M : Nat) := by rw [z2, z1]; simp
  have hsp : jsp 52 (M / 2 ^ l) = jsp 52 M := by unfold jsp; rw [hj]
  have hsh : jsh 52 (-1074) (M / 2 ^ l) (e + l) = jsh 52 (-1074) M e := by unfold jsh; rw [hsp, he]
  have hab : jab 52 (-1074) (M / 2 ^ l) (e + l) = jab 52 (-1074) M e := by unfold jab; rw [hsh, he]
  have hg : jgood 52 2047 (-1074) (M / 2 ^ l) (e + l) = jgood 52 2047 (-1074) M e := by unfold jgood; rw [hsp, he, hab]
  have hk : jk 52 2047 (-1074) (M / 2 ^ l) (e + l) = jk 52 2047 (-1074) M e := by
    unfold jk
    rw [if_neg (by omega), if_neg (by omega), if_neg (by omega), if_neg (by omega), hg]
  have hv : jv 52 2047 (-1074) (M / 2 ^ l) (e + l) = jv 52 2047 (-1074) M e := by
    unfold jv
    rw [if_neg (show ¬ M / 2 ^ l ≤ 0 by omega), if_neg (show ¬ M ≤ 0 by omega), hg, hab, hsh, ho]
  exact ⟨hk, by unfold jp; rw [hk, hv]⟩
/-- What has more bits than a float is none. -/
theorem j_long {m e : Int} (h0 : 0 < m) (h : m < 9223372036854775808) (ho : m % 2 = 1) (hb : 54 ≤ blen m) : jk 52 2047 (-1074) m e = false := by
  obtain ⟨z, o⟩ := jz_odd h0 h ho
  have hl : jl m = blen m := by unfold jl; rw [o]; exact bitLen_eq (by omega) (by omega)
  unfold jk
  rw [if_neg (by omega), if_neg (by omega)]
  unfold jgood jsp
  rw [hl, decide_eq_false (by omega), Bool.false_and]
/-- What lies below the least float is none. -/
theorem j_low {m e : Int} (h0 : 0 < m) (h : m < 9223372036854775808) (ho : m % 2 = 1) (he : e < -1074) : jk 52 2047 (-1074) m e = false := by
  obtain ⟨z, o⟩ := jz_odd h0 h ho
  unfold jk
  rw [if_neg (by omega), if_neg (by omega)]
  unfold jgood
  rw [z, decide_eq_false (p := -1074 ≤ e + ((0 : Nat) : Int)) (by omega), Bool.false_and, Bool.and_false]
/-- A finite pattern's number in its one form. -/
theorem float_form {b : Int} (hb : rng b) (hp : pok b = true) {ng : Bool} {m e : Int} (hy : Dy (sg (pneg b) (pmag b) * pw (pexp b)) ng m e) :
    blen m ≤ 63 ∧ m < 9007199254740992 ∧ -1074 ≤ e ∧ e ≤ 2000 ∧ jk 52 2047 (-1074) m e = true ∧ (jp ng m e = b ∨ (b = -9223372036854775808 ∧ jp ng m e = 0 ∧ m = 0)) ∧ (m = 0 → jp ng m e = 0) := by
  obtain ⟨i0, i1, i2, i3⟩ := pmag_in hp
  obtain ⟨j0, j1⟩ := join_parts hb hp
  have hle63 : ∀ x : Int, x < 9007199254740992 → blen x ≤ 63 := fun x hx => blen_le (by
    rw [show (2 : Int) ^ 63 = 9223372036854775808 by decide]; omega)
  by_cases h0 : pmag b = 0
  · rw [h0, sg_zero, Int.zero_mul] at hy
    obtain ⟨e1, e2, e3⟩ := hy.unique Dy.zero
    subst e1 e2 e3
    have z1 : jp false 0 0 = 0 := by decide
    have z2 : jk 52 2047 (-1074) 0 0 = true := by decide
    refine ⟨hle63 0 (by omega), by omega, by omega, by omega, z2, ?_, fun _ => z1⟩
    rw [h0] at j1
    have hv : jp (pneg b) 0 (pexp b) = if pneg b then -9223372036854775808 else 0 := by
      unfold jp jk jv
      cases pneg b <;> simp
    rw [hv] at j1
    cases hn : pneg b
    · rw [hn] at j1
      exact .inl (by rw [z1]; simpa using j1)
    · rw [hn] at j1
      exact .inr ⟨by simpa using j1.symm, z1, rfl⟩
  · have hM : 0 < pmag b := by omega
    obtain ⟨l, hl⟩ := isLow_ex hM
    obtain ⟨e1, e2, e3⟩ := hy.unique (Dy.of (pneg b) hl hM (show -4194304 ≤ pexp b by omega))
    obtain ⟨c1, c2, c3⟩ := isLow_odd hl hM
    have hle : pmag b / 2 ^ l ≤ pmag b := Int.ediv_le_self _ (by omega)
    have hl54 : l < 54 := by
      have h3 : (1 : Int) * 2 ^ l ≤ pmag b / 2 ^ l * 2 ^ l := Int.mul_le_mul_of_nonneg_right (by omega) (Int.le_of_lt (two_pos l))
      rw [c3] at h3
      refine two_lt_iff ?_
      rw [show (2 : Int) ^ 54 = 18014398509481984 by decide]
      omega
    obtain ⟨k1, k2⟩ := j_odd (e := pexp b) (pneg b) hM (by omega) hl
    subst e1 e2 e3
    exact ⟨hle63 _ (by omega), by omega, by omega, by omega, by rw [k1]; exact j0, .inl (by rw [k2]; exact j1), fun hz => by omega⟩
theorem float_yes {w : World} {x : Value} {A : Int} {ng : Bool} {m e : Int} (hx : DNum w x A) (oA : Dok A) (L : Lay64 w) (hT : Tab w) (hy : Dy A ng m e) (h63 : blen m ≤ 63) (hk : jk 52 2047 (-1074) m e = true) :
    Calls Tryz.prog 31 #[x] w fun r w' => r = .returned (.tuple #[.int .i64 (jp ng m e), .bool true]) ∧ Below w.heap.size w w' := by
  refine (float_D hx oA L hT).mono ?_
  rintro r w' ⟨ng', m', e', hy', rfl, hb⟩
  obtain ⟨rfl, rfl, rfl⟩ := hy.unique hy'
  exact ⟨by rw [decide_eq_true h63, hk]; rfl, hb⟩
theorem float_no {w : World} {x : Value} {A : Int} {ng : Bool} {m e : Int} (hx : DNum w x A) (oA : Dok A) (L : Lay64 w) (hT : Tab w) (hy : Dy A ng m e) (hk : blen m ≤ 63 → jk 52 2047 (-1074) m e = false) :
    Calls Tryz.prog 31 #[x] w fun r w' => ∃ c, r = .returned (.tuple #[.int .i64 c, .bool false]) ∧ Below w.heap.size w w' := by
  refine (float_D hx oA L hT).mono ?_
  rintro r w' ⟨ng', m', e', hy', rfl, hb⟩
  obtain ⟨rfl, rfl, rfl⟩ := hy.unique hy'
  refine ⟨if decide (blen m ≤ 63) = true then jp ng m e else 0, ?_, hb⟩
  have hz : (decide (blen m ≤ 63) && jk 52 2047 (-1074) m e) = false := by
    by_cases h : blen m ≤ 63
    · rw [hk h, Bool.and_false]
    · rw [decide_eq_false h, Bool.false_and]
  rw [hz]
/-- A float and a bit far below it. -/
theorem tiny_form {A : Int} {ng : Bool} {m e : Int} (hy : Dy A ng m e) (h0 : 0 < m) (h1 : m < 9007199254740992) (he : -1074 ≤ e) (he2 : e ≤ 2000) :
    ∃ m', Dy (A + pw (e - 60)) ng m' (e - 60) ∧ (blen m' ≤ 63 → jk 52 2047 (-1074) m' (e - 60) = false) ∧ Dok (A + pw (e - 60)) := by
  have ep : pw e = pw (e - 60) * 1152921504606846976 := by
    have := pw_add (e := e - 60) (by omega) 60
    rw [show e - 60 + ((60 : Nat) : Int) = e by omega, show (2 : Int) ^ 60 = 1152921504606846976 by decide] at this
    exact this
  have key : ∀ m' : Int, m' = m * 1152921504606846976 + (if ng then -1 else 1) → Dy (A + pw (e - 60)) ng m' (e - 60) := fun m' hm' => by
    refine ⟨?_, by omega, .inr ?_⟩
    · rw [hy.val, ep, hm', sg_sgn, sg_sgn]
      cases ng <;> simp <;> grind
    · rw [hm']
      cases ng <;> simp <;> omega
  refine ⟨_, key _ rfl, fun hb => ?_, ?_⟩
  · have hlt := blen_lt (m * 1152921504606846976 + (if ng = true then -1 else 1))
    have h2 : (2 : Int) ^ blen (m * 1152921504606846976 + (if ng = true then -1 else 1)) ≤ 2 ^ 63 := two_le hb
    rw [show (2 : Int) ^ 63 = 9223372036854775808 by decide] at h2
    have h3 : 59 < blen (m * 1152921504606846976 + (if ng = true then -1 else 1)) := blen_ge (by
      rw [show (2 : Int) ^ 59 = 576460752303423488 by decide]
      cases ng <;> simp <;> omega)
    exact j_long (by cases ng <;> simp <;> omega) (by omega) (by cases ng <;> simp <;> omega) (by omega)
  · refine (key _ rfl).ok.2 ⟨?_, by omega, by omega⟩
    have e5 : P 5 = 1427247692705959881058285969449495136382746624 := rfl
    have := P_le (show 5 ≤ 2000 by omega)
    cases ng <;> simp <;> omega
theorem half_form {A C : Int} {ng : Bool} {m e : Int} (hy : Dy A ng m e) (h0 : 0 < m) (h1 : m < 9007199254740992) (he : -1074 ≤ e) (he2 : e ≤ 2000) (hC : C * 2 ^ 4194304 = A * pw (-1080 - e)) :
    Dy C ng m (-1080) ∧ Dok C ∧ (blen m ≤ 63 → jk 52 2047 (-1074) m (-1080) = false) := by
  have hd : Dy C ng m (-1080) := by
    refine ⟨scale_inj ?_, by omega, hy.form.elim (fun h => by omega) .inr⟩
    rw [hC, hy.val, Int.mul_assoc, pw_mul (by omega) (by omega), show e + (-1080 - e) = -1080 by omega, Int.mul_assoc]
  have ho : m % 2 = 1 := by rcases hy.form with ⟨h, _⟩ | ⟨_, h⟩ <;> omega
  refine ⟨hd, hd.ok.2 ⟨by have := P2000_big2; omega, by omega, by omega⟩, fun _ => j_low h0 (by omega) ho (by omega)⟩
end Go.Proofs.YtnhkagiionkjaaaGreatDoor
