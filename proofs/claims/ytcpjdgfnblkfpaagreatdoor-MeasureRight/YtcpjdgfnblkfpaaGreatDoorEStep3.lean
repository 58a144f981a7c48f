/-
  Package eft: math.Abs, FastTwoSum, reachable, TwoProd, by their contracts.
-/
import Derived.Test.YtcpjdgfnblkfpaaGreatDoorEStep2
import Derived.Test.YtcpjdgfnblkfpaaGreatDoorELaw
import Derived.Test.YtcpjdgfnblkfpaaGreatDoorNTz
import Derived.Test.YtcpjdgfnblkfpaaGreatDoorRLaw
namespace Go.Proofs.YtcpjdgfnblkfpaaGreatDoor
open Go Go.RowKit Go.Proofs.YtcpjdgfnblkfpaaGreatDoor.M Ieee
set_option linter.unusedSimpArgs false
set_option linter.unusedVariables false

theorem bits_andNotU (x y : Int) : bits .andNot .u64 x y = IntKind.u64.wrap (((x % 18446744073709551616).toNat &&& (18446744073709551615 - (y % 18446744073709551616).toNat) : Nat) : Int) := by
  show IntKind.u64.wrap (((BitVec.ofInt 64 x &&& ~~~ BitVec.ofInt 64 y).toNat : Nat) : Int) = _
  rw [BitVec.toNat_and, BitVec.toNat_not, ofInt64_toNat, ofInt64_toNat]
theorem abs_word {p : Int} (hp : M.rng p) : bits .andNot .u64 ((wd p : Nat) : Int) 9223372036854775808 = ((wd (rg p) : Nat) : Int) := by
  rw [bits_andNotU, show (18446744073709551615 - ((9223372036854775808 : Int) % 18446744073709551616).toNat) = 2 ^ 63 - 1 from by decide, IntKind.wrap_u64, Nat.and_two_pow_sub_one_eq_mod]
  unfold wd rg M.rng at *
  have e : (2 : Nat) ^ 63 = 9223372036854775808 := by decide
  rw [e]
  split <;> omega
set_option maxRecDepth 100000 in
theorem mabs_any {p : Int} (hp : M.rng p) (w : World) :
    Calls Tryz.prog 14 #[.float .f64 (wd p)] w fun e w' => e = .returned (.float .f64 (wd (rg p))) ∧ w' = w := by
  have h1 := run_from64
  have h2 := run_bits64
  have h3 := abs_word hp
  generalize wd (rg p) = z at *
  generalize wd p = x at *
  go_enter Tryz.func14, Tryz.ntmps14
  go_wp2
  go_ret
  exact ⟨by simp, rfl⟩
theorem rg_facts {p : Int} (hp : M.rng p) (h : pok p = true) : M.rng (rg p) ∧ pok (rg p) = true ∧ iV (rg p) = ((iV p).natAbs : Int) := by
  have h1 := (pok_rg hp).1 h
  have h0 : 0 ≤ rg p := by unfold rg; unfold M.rng at hp; split <;> omega
  have e : rg p = patS false (rg p) := rfl
  obtain ⟨a, b, c⟩ := patS_parts (ng := false) h0 (by omega)
  rw [← e] at a
  refine ⟨a, ?_, ?_⟩
  · rw [e, patS_fin h0 (by omega)]; exact decide_eq_true h1
  · rw [iV_abs]
    have := iV_patS (ng := false) h0 (show rg p ≤ 9218868437227405312 by omega)
    rw [← e] at this
    rw [this]
    rfl
theorem cmp_iV {p q : Int} (hp : M.rng p) (hq : M.rng q) (pp : pok p = true) (pq : pok q = true) : Ieee.double.order (wd p) (wd q) = some (compare (iV p) (iV q)) := by
  rw [order_wd hp hq pp pq, patV_iV hp pp, patV_iV hq pq, cmp_mul (pw_pos _)]
theorem cmp_lt {a b : Int} : (some (compare a b) == some Ordering.lt) = decide (a < b) := by
  show (some (compareOfLessAndEq a b) == some Ordering.lt) = _
  unfold compareOfLessAndEq
  by_cases h1 : a < b
  · rw [if_pos h1, decide_eq_true h1]; rfl
  · rw [if_neg h1, decide_eq_false h1]
    split <;> rfl
theorem abs_order {p q : Int} (hp : M.rng p) (hq : M.rng q) (pp : pok p = true) (pq : pok q = true) : (Ieee.double.order (wd (rg p)) (wd (rg q)) == some Ordering.lt) = decide ((iV p).natAbs < (iV q).natAbs) := by
  obtain ⟨a1, a2, a3⟩ := rg_facts hp pp
  obtain ⟨b1, b2, b3⟩ := rg_facts hq pq
  rw [cmp_iV a1 b1 a2 b2, cmp_lt, a3, b3]
  congr 1
  apply propext
  omega
theorem told_fin {a : Int} (h : pok (told a) = true) : told a = a := by
  unfold told at *
  by_cases c : cls a = 4
  · rw [if_pos c, nan_no] at h; cases h
  · rw [if_neg c]
theorem FW.fin {p : Int} {x : Nat} (h : FW p x) (g : pok p = true) : x = wd p := by
  rcases h with ⟨_, _, h⟩ | ⟨rfl, _⟩
  · exact h
  · rw [nan_no] at g; cases g
set_option maxRecDepth 100000 in
set_option maxHeartbeats 2000000 in
theorem fastTwoSum_any {a b : Int} (ha : M.rng a) (hb : M.rng b) (w : World) :
    Calls Tryz.prog 118 #[.int .i64 a, .int .i64 b] w fun e w' => e = .returned (.tuple #[.int .i64 (fsum (told a) (told b)), .int .i64 (fL (told a) (told b)), .bool (fX (told a) (told b))]) ∧ Below w.heap.size w w' := by
  have C1 := fun W => bitsFloat a W
  have C2 := fun W => bitsFloat b W
  have FA : Hid (FW (told a) (wd a)) := wd_told ha
  have FB : Hid (FW (told b) (wd b)) := wd_told hb
  generalize told a = p at *
  generalize told b = q at *
  generalize wd a = x at *
  generalize wd b = y at *
  obtain ⟨X, hX0⟩ : ∃ X, fX p q = X := ⟨_, rfl⟩
  have HX : Hid (fX p q = X) := hX0
  rw [hX0]
  clear hX0
  go_enter Tryz.func118, Tryz.ntmps118
  go_wp2_with fail
  refine (C1 _).mono ?_
  rintro _ _ ⟨rfl, rfl⟩
  go_wp2_with fail
  refine (C2 _).mono ?_
  rintro _ _ ⟨rfl, rfl⟩
  go_wp2_with fail
  refine (efast_any FA.out FB.out _).mono ?_
  rintro _ w1 ⟨z, u, rfl, g1, g2, b1⟩
  have G1 : Hid (FW (fsum p q) z) := g1
  have G2 : Hid (FW (fL p q) u) := g2
  clear g1 g2 C1 C2
  go_wp2_with fail
  refine (etold_any G1.out G2.out _).mono ?_
  rintro _ w2 ⟨rfl, b2⟩
  have hb2 := bel_trans b1 b2
  have hp := FA.out.rng
  have hq := FB.out.rng
  cases hl : pok (fL p q)
  · have hx : X = false := by rw [← HX.out]; unfold fX; rw [hl]; rfl
    subst hx
    clear HX
    clear G1 G2 FA FB hp hq
    go_wp2
    all_goals refine bodyPost_ret (v := .tuple #[.int .i64 (fsum p q), .int .i64 (fL p q), .bool false]) (by simp [results, Tryz.results118, go_sem]) rfl ⟨rfl, hb2⟩
  · obtain ⟨⟨pp, pq⟩, ph⟩ := fL_args hp hq hl
    have ex := FA.out.fin pp
    have ey := FB.out.fin pq
    have eu := G2.out.fin hl
    subst ex ey eu
    have A1 := fun W => mabs_any hp W
    have A2 := fun W => mabs_any hq W
    have HO : (FloatKind.f64.format.order (wd (rg p)) (wd (rg q)) == some Ordering.lt) = decide ((iV p).natAbs < (iV q).natAbs) := abs_order hp hq pp pq
    by_cases c : (iV p).natAbs < (iV q).natAbs
    · have hc := fsum_comm hp hq pp pq
      obtain ⟨k1, k2⟩ := fL_fin hq hp pq pp (by rw [← hc]; exact ph) (by omega)
      have hfl : M.rng (fL p q) := by unfold fL; exact fsum_rng hq (neg_rng (fsum_rng (fsum_rng hp hq) (neg_rng hp)))
      have hfl2 : M.rng (fL q p) := by unfold fL; exact fsum_rng hp (neg_rng (fsum_rng (fsum_rng hq hp) (neg_rng hq)))
      have HE : (FloatKind.f64.format.order (wd (fL p q)) (wd (fL q p)) == some Ordering.eq) = decide (iV (fL p q) = iV (fL q p)) := by
        show (Ieee.double.order (wd (fL p q)) (wd (fL q p)) == some Ordering.eq) = _
        rw [cmp_iV hfl hfl2 hl k1, cmp_eq]
      have hx : X = decide (iV (fL p q) = iV (fL q p)) := by rw [← HX.out]; unfold fX; rw [hl, decide_eq_true c]; rfl
      rw [← hx] at HE
      clear HX hx
      rw [decide_eq_true c] at HO
      have K1 : Hid (pok (fL q p) = true) := k1
      clear hc k2 G1 hfl hfl2
      generalize wd (rg p) = xa at *
      generalize wd (rg q) = ya at *
      go_wp2_with fail
      refine (A1 _).mono ?_
      rintro _ _ ⟨rfl, rfl⟩
      go_wp2_with fail
      refine (A2 _).mono ?_
      rintro _ _ ⟨rfl, rfl⟩
      go_wp2_with fail
      refine (efast_any FB.out FA.out _).mono ?_
      rintro _ w3 ⟨z3, u3, rfl, g3, g4, b3⟩
      have e4 := g4.fin K1.out
      subst e4
      have hb3 := bel_trans hb2 b3
      clear g3 g4
      go_wp2
      all_goals refine bodyPost_ret (v := .tuple #[.int .i64 (fsum p q), .int .i64 (fL p q), .bool X]) (by simp [results, Tryz.results118, go_sem, HE]) rfl ⟨rfl, hb3⟩
    · have hx : X = true := by rw [← HX.out]; unfold fX; rw [hl, decide_eq_false c]; rfl
      subst hx
      clear HX
      rw [decide_eq_false c] at HO
      clear G1
      generalize wd (rg p) = xa at *
      generalize wd (rg q) = ya at *
      go_wp2_with fail
      refine (A1 _).mono ?_
      rintro _ _ ⟨rfl, rfl⟩
      go_wp2_with fail
      refine (A2 _).mono ?_
      rintro _ _ ⟨rfl, rfl⟩
      go_wp2
      all_goals refine bodyPost_ret (v := .tuple #[.int .i64 (fsum p q), .int .i64 (fL p q), .bool true]) (by simp [results, Tryz.results118, go_sem]) rfl ⟨rfl, hb2⟩
end Go.Proofs.YtcpjdgfnblkfpaaGreatDoor
namespace Go.Proofs.YtcpjdgfnblkfpaaGreatDoor
open Go Go.RowKit Go.Proofs.YtcpjdgfnblkfpaaGreatDoor.M Ieee
set_option linter.unusedSimpArgs false
set_option linter.unusedVariables false
set_option maxRecDepth 100000 in
theorem tzero_any (mag : Int) (h0 : 0 < mag) (h : mag < 9223372036854775808) (w : World) (hT : b_Tab w) :
    Calls Tryz.prog 109 #[.int .u64 mag] w fun e w' => e = .returned (.int .i64 (jz mag)) ∧ w' = w := by
  go_enter Tryz.func109, Tryz.ntmps109
  go_wp2_with fail
  refine (trailingI mag h0 h _ hT).mono ?_
  rintro _ _ ⟨rfl, rfl⟩
  go_wp2
  go_ret
  exact ⟨rfl, rfl⟩
set_option maxRecDepth 100000 in
theorem zeros_any (x : Int) (h0 : 0 < x) (h1 : x < 9223372036854775808) (w : World) (hT : b_Tab w) :
    Calls Tryz.prog 147 #[.int .i64 x] w fun e w' => e = .returned (.int .i64 (jz x)) ∧ w' = w := by
  have u1 : IntKind.u64.wrap x = x := by rw [IntKind.wrap_u64]; omega
  have C := fun W (T : b_Tab W) => tzero_any x h0 h1 W T
  go_enter Tryz.func147, Tryz.ntmps147
  go_wp2_with fail
  refine (C _ hT).mono ?_
  rintro _ _ ⟨rfl, rfl⟩
  go_wp2
  go_ret
  exact ⟨rfl, rfl⟩
/-- Is no bit of the product below the least float? -/
def reach (a b : Int) : Bool := decide (pmag a = 0) || decide (pmag b = 0) || decide (-1074 ≤ pexp a + jz (pmag a) + pexp b + jz (pmag b))
end Go.Proofs.YtcpjdgfnblkfpaaGreatDoor
