/-
  Package eft: reachable, TwoProd, by their contracts; what reachable tells.
-/
import Derived.Test.YtcpjdgfnblkfpaaGreatDoorEStep3
namespace Go.Proofs.YtcpjdgfnblkfpaaGreatDoor
open Go Go.RowKit Go.Proofs.YtcpjdgfnblkfpaaGreatDoor.M Ieee
set_option linter.unusedSimpArgs false
set_option linter.unusedVariables false

set_option maxRecDepth 100000 in
set_option maxHeartbeats 2000000 in
theorem reachable_any {a b : Int} (pa : pok a = true) (pb : pok b = true) (w : World) (H : Hold4 w) :
    Calls Tryz.prog 139 #[.int .i64 a, .int .i64 b] w fun e w' => e = .returned (.bool (reach a b)) ∧ Below w.heap.size w w' := by
  have C1 := bitsPartsA a w H.lay
  have C2 : Hid (∀ W, Below w.heap.size w W → _) := fun W hb => bitsPartsA b W (H.keeps hb).lay
  have HT : Hid (∀ W, Below w.heap.size w W → b_Tab W) := fun W hb => (H.keeps hb).env.tab
  obtain ⟨a0, a1, a2, a3⟩ := pmag_in pa
  obtain ⟨b0, b1, b2, b3⟩ := pmag_in pb
  have Z1 : Hid (pmag a ≠ 0 → ∀ W, Below w.heap.size w W → Calls Tryz.prog 147 #[.int .i64 (pmag a)] W fun e w' => e = .returned (.int .i64 (jz (pmag a))) ∧ w' = W) := fun h W hb => zeros_any _ (by omega) (by omega) W (HT.out W hb)
  have Z2 : Hid (pmag b ≠ 0 → ∀ W, Below w.heap.size w W → Calls Tryz.prog 147 #[.int .i64 (pmag b)] W fun e w' => e = .returned (.int .i64 (jz (pmag b))) ∧ w' = W) := fun h W hb => zeros_any _ (by omega) (by omega) W (HT.out W hb)
  have z1 : pmag a ≠ 0 → jz (pmag a) < 63 := fun h => by obtain ⟨_, _, g, _⟩ := jz_spec (mag := pmag a) (by omega) (by omega); exact g
  have z2 : pmag b ≠ 0 → jz (pmag b) < 63 := fun h => by obtain ⟨_, _, g, _⟩ := jz_spec (mag := pmag b) (by omega) (by omega); exact g
  unfold reach
  clear HT H
  generalize jz (pmag a) = j at *
  generalize jz (pmag b) = k at *
  generalize pmag a = m at *
  generalize pmag b = n at *
  generalize pexp a = x at *
  generalize pexp b = y at *
  generalize pneg a = s at *
  generalize pneg b = t at *
  go_enter Tryz.func139, Tryz.ntmps139
  go_wp2_with fail
  refine C1.mono ?_
  rintro _ w1 ⟨rfl, g1⟩
  go_wp2_with fail
  refine (C2.out _ g1).mono ?_
  rintro _ w2 ⟨rfl, g2⟩
  have hb2 := bel_trans g1 g2
  clear C1 C2 g1 g2
  by_cases hm : m = 0
  · subst hm
    go_wp2
    all_goals go_ret
    all_goals exact ⟨by simp, hb2⟩
  · by_cases hn : n = 0
    · subst hn
      go_wp2
      all_goals go_ret
      all_goals exact ⟨by simp, hb2⟩
    · have Z1 := Z1.out hm w2 hb2
      have Z2 := Z2.out hn w2 hb2
      have j1 := z1 hm
      have k1 := z2 hn
      have u1 : IntKind.i64.wrap (x + (j : Int)) = x + j := by rw [wrap_i64_eq]; omega
      have u2 : IntKind.i64.wrap (x + (j : Int) + y) = x + j + y := by rw [wrap_i64_eq]; omega
      have u3 : IntKind.i64.wrap (x + (j : Int) + y + (k : Int)) = x + j + y + k := by rw [wrap_i64_eq]; omega
      by_cases hr : -1074 ≤ x + (j : Int) + y + (k : Int)
      · go_wp2_with (first | (go_at_call 147; first | (refine Z1.mono ?_; rintro _ _ ⟨rfl, rfl⟩) | (refine Z2.mono ?_; rintro _ _ ⟨rfl, rfl⟩)))
        all_goals go_ret
        all_goals exact ⟨by simp [hr], by first | exact hb2 | exact hb2.drew⟩
      · go_wp2_with (first | (go_at_call 147; first | (refine Z1.mono ?_; rintro _ _ ⟨rfl, rfl⟩) | (refine Z2.mono ?_; rintro _ _ ⟨rfl, rfl⟩)))
        all_goals go_ret
        all_goals exact ⟨by simp [hm, hn, hr], by first | exact hb2 | exact hb2.drew⟩
/-- What TwoProd tells as exact. -/
def pX (p q : Int) : Bool := pok (prL p q) && reach p q
set_option maxRecDepth 100000 in
set_option maxHeartbeats 2000000 in
theorem twoProd_any {a b : Int} (ha : M.rng a) (hb : M.rng b) (w : World) (H : Hold4 w) :
    Calls Tryz.prog 116 #[.int .i64 a, .int .i64 b] w fun e w' => e = .returned (.tuple #[.int .i64 (fprod (told a) (told b)), .int .i64 (prL (told a) (told b)), .bool (pX (told a) (told b))]) ∧ Below w.heap.size w w' := by
  have C1 := fun W => bitsFloat a W
  have C2 := fun W => bitsFloat b W
  have FA : Hid (FW (told a) (wd a)) := wd_told ha
  have FB : Hid (FW (told b) (wd b)) := wd_told hb
  have HH : Hid (Hold4 w) := H
  have TA : Hid (pok (told a) = true → told a = a) := told_fin
  have TB : Hid (pok (told b) = true → told b = b) := told_fin
  clear H
  generalize told a = p at *
  generalize told b = q at *
  generalize wd a = x at *
  generalize wd b = y at *
  obtain ⟨X, hX0⟩ : ∃ X, pX p q = X := ⟨_, rfl⟩
  have HX : Hid (pX p q = X) := hX0
  rw [hX0]
  clear hX0
  go_enter Tryz.func116, Tryz.ntmps116
  go_wp2_with fail
  refine (C1 _).mono ?_
  rintro _ _ ⟨rfl, rfl⟩
  go_wp2_with fail
  refine (C2 _).mono ?_
  rintro _ _ ⟨rfl, rfl⟩
  go_wp2_with fail
  refine (eprod_any FA.out FB.out _).mono ?_
  rintro _ w1 ⟨z, u, rfl, g1, g2, b1⟩
  have G1 : Hid (FW (fprod p q) z) := g1
  have G2 : Hid (FW (prL p q) u) := g2
  clear g1 g2 C1 C2
  go_wp2_with fail
  refine (etold_any G1.out G2.out _).mono ?_
  rintro _ w2 ⟨rfl, b2⟩
  have hb2 := bel_trans b1 b2
  have hp := FA.out.rng
  have hq := FB.out.rng
  cases hl : pok (prL p q)
  · have hx : X = false := by rw [← HX.out]; unfold pX; rw [hl]; rfl
    subst hx
    clear G1 G2 FA FB hp hq HX
    go_wp2
    all_goals refine bodyPost_ret (v := .tuple #[.int .i64 (fprod p q), .int .i64 (prL p q), .bool false]) (by simp [results, Tryz.results116, go_sem]) rfl ⟨rfl, hb2⟩
  · have hx : X = reach p q := by rw [← HX.out]; unfold pX; rw [hl]; rfl
    obtain ⟨⟨pQ, pS⟩, _⟩ := prL_args hp hq hl
    have pp := (spL_exact hp pQ).1
    have pq := (spL_exact hq pS).1
    have ea := TA.out pp
    have eb := TB.out pq
    have CR := reachable_any (a := p) (b := q) pp pq w2 (HH.out.keeps hb2)
    rw [← hx] at CR
    subst ea eb
    clear G1 G2 FA FB hp hq HX pQ pS pp pq hx TA TB
    go_wp2_with fail
    refine CR.mono ?_
    rintro _ w3 ⟨rfl, b3⟩
    go_wp2
    all_goals refine bodyPost_ret (v := .tuple #[.int .i64 (fprod p q), .int .i64 (prL p q), .bool X]) (by simp [results, Tryz.results116, go_sem]) rfl ⟨rfl, bel_trans hb2 b3⟩
theorem dvd_odd {s n : Nat} {t : Int} (h : (2 ^ n : Int) ∣ 2 ^ s * (2 * t + 1)) : n ≤ s := by
  rcases Nat.lt_or_ge s n with c | c
  · exfalso
    obtain ⟨d, rfl⟩ : ∃ d, n = s + 1 + d := ⟨n - s - 1, by omega⟩
    obtain ⟨e, he⟩ := h
    rw [Int.pow_add, p2s, show (2 : Int) * 2 ^ s * 2 ^ d * e = 2 ^ s * (2 * (2 ^ d * e)) by ac_rfl] at he
    have := Int.eq_of_mul_eq_mul_left (by have := p2 s; omega) he
    generalize (2 : Int) ^ d * e = f at this
    omega
  · exact c
theorem iV_form {p : Int} (hp : rng p) (h : pok p = true) : ((iV p).natAbs : Int) = pmag p * 2 ^ (pexp p + 1074).toNat := by
  have h0 := (pmag_in h).1
  rw [iV_abs, V_rg hp h, nat_two, Int.toNat_of_nonneg h0, Int.mul_comm]
theorem k_prod {a b x y X Y u v : Int} (hx : x = a * X) (hy : y = b * Y) (ha : a = u * v) : x * y = u * v * X * (b * Y) := by rw [hx, hy, ha]
theorem k_form {m : Nat} {mag : Int} {j e : Nat} (h : mag = 2 ^ j * (2 * m + 1)) : mag * 2 ^ e = 2 ^ (j + e) * (2 * (m : Int) + 1) := by
  rw [h, Int.pow_add, Int.mul_assoc, Int.mul_assoc, Int.mul_comm (2 * (m : Int) + 1)]
theorem k_form2 (i j : Nat) (a b : Int) : 2 ^ i * (2 * a + 1) * (2 ^ j * (2 * b + 1)) = 2 ^ (i + j) * (2 * (2 * a * b + a + b) + 1) := by
  have e : (2 * a + 1) * (2 * b + 1) = 2 * (2 * a * b + a + b) + 1 := by
    rw [Int.add_mul, Int.mul_add, Int.one_mul, Int.mul_one, Int.mul_add, Int.mul_add]
    have : 2 * a * (2 * b) = 2 * (2 * a * b) := by ac_rfl
    omega
  rw [← e, Int.pow_add]
  generalize 2 * a + 1 = A
  generalize 2 * b + 1 = B
  ac_rfl
theorem reach_iff {a b : Int} (ha : rng a) (hb : rng b) (pa : pok a = true) (pb : pok b = true) : reach a b = true ↔ ∃ T, 2 ^ 1074 * T = iV a * iV b := by
  have fa := iV_form ha pa
  have fb := iV_form hb pb
  obtain ⟨a0, a1, a2, a3⟩ := pmag_in pa
  obtain ⟨b0, b1, b2, b3⟩ := pmag_in pb
  unfold reach
  by_cases hm : pmag a = 0
  · rw [hm] at fa ⊢
    have : iV a = 0 := by rw [Int.zero_mul] at fa; omega
    rw [this]
    exact ⟨fun _ => ⟨0, by rw [Int.mul_zero, Int.zero_mul]⟩, fun _ => rfl⟩
  by_cases hn : pmag b = 0
  · rw [hn] at fb ⊢
    have : iV b = 0 := by rw [Int.zero_mul] at fb; omega
    rw [this]
    exact ⟨fun _ => ⟨0, by rw [Int.mul_zero, Int.mul_zero]⟩, fun _ => by simp⟩
  obtain ⟨m, m1, m2, _⟩ := jz_spec (mag := pmag a) (by omega) (by omega)
  obtain ⟨n, n1, n2, _⟩ := jz_spec (mag := pmag b) (by omega) (by omega)
  rw [decide_eq_false hm, decide_eq_false hn, Bool.false_or, Bool.false_or, decide_eq_true_iff]
  rw [k_form m1] at fa
  rw [k_form n1] at fb
  have hd : (∃ T, 2 ^ 1074 * T = iV a * iV b) ↔ (2 ^ 1074 : Int) ∣ ((iV a).natAbs : Int) * ((iV b).natAbs : Int) := by
    rw [← Int.natCast_mul, ← Int.natAbs_mul, Int.dvd_natAbs]
    exact ⟨fun ⟨T, h⟩ => ⟨T, h.symm⟩, fun ⟨T, h⟩ => ⟨T, h.symm⟩⟩
  rw [hd, fa, fb, k_form2]
  constructor
  · intro h
    exact Int.dvd_trans (p2dvd (by omega)) ⟨_, rfl⟩
  · intro h
    have := dvd_odd h
    omega
end Go.Proofs.YtcpjdgfnblkfpaaGreatDoor
