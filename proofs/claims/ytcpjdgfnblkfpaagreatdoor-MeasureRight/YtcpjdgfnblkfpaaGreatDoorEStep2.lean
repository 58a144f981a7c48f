/-
  Package eft: told, TwoSum, TwoDiff, Split, math.Abs, by their contracts.
-/
import Derived.Test.YtcpjdgfnblkfpaaGreatDoorESteps
import Derived.Test.YtcpjdgfnblkfpaaGreatDoorRWhM
namespace Go.Proofs.YtcpjdgfnblkfpaaGreatDoor
open Go Go.RowKit Go.Proofs.YtcpjdgfnblkfpaaGreatDoor.M Ieee
set_option linter.unusedSimpArgs false
set_option linter.unusedVariables false

theorem FW.rng {p : Int} {x : Nat} (h : FW p x) : M.rng p := by
  rcases h with ⟨_, h, _⟩ | ⟨rfl, _⟩
  · exact h
  · exact nan_rng
theorem neg_sign {p : Int} (hp : M.rng p) (h4 : ¬ cls p = 4) : decide (M.neg p < 0) = !decide (p < 0) ∧ rg (M.neg p) = rg p ∧ ¬ cls (M.neg p) = 4 := by
  have h0 : 0 ≤ rg p ∧ rg p < 9223372036854775808 := by unfold rg; unfold M.rng at hp; split <;> omega
  have e : rg (M.neg p) = rg p ∧ decide (M.neg p < 0) = !decide (p < 0) := by
    unfold M.neg rg
    rw [if_neg h4]
    unfold M.rng at hp
    by_cases c : p < 0
    · rw [if_pos c, decide_eq_true c, if_neg (by omega)]
      exact ⟨by rw [if_pos c], decide_eq_false (by omega)⟩
    · rw [if_neg c, decide_eq_false c, if_pos (by omega)]
      exact ⟨by rw [if_neg c]; omega, decide_eq_true (by omega)⟩
  refine ⟨e.2, e.1, fun c => ?_⟩
  have := (cls_rg (neg_rng hp)).1.1 c
  rw [e.1] at this
  exact h4 ((cls_rg hp).1.2 this)
theorem self_pat {p : Int} (hp : M.rng p) : fsum p (M.neg p) = if pok p then 0 else 9221120237041090561 := by
  by_cases c4 : cls p = 4
  · have : pok p = false := by
      cases h : pok p
      · rfl
      · exact absurd c4 (fin_cls hp h).1
    rw [this]
    unfold fsum
    rw [if_pos (.inl c4)]
    rfl
  · obtain ⟨s1, s2, s3⟩ := neg_sign hp c4
    cases h : pok p
    · have hi : rg p = 9218868437227405312 := by
        by_cases c : rg p = 9218868437227405312
        · exact c
        · rw [pok_of hp c4 c] at h; cases h
      unfold fsum
      rw [if_neg (fun c => c.elim c4 s3), if_pos hi, if_pos ⟨by rw [s2]; exact hi, by rw [s1]; cases decide (p < 0) <;> decide⟩]
      rfl
    · obtain ⟨n1, n2, n3⟩ := neg_facts hp h
      unfold fsum
      rw [if_neg (fun c => c.elim c4 s3), if_neg (fin_cls hp h).2, if_neg (by rw [s2]; exact (fin_cls hp h).2), patV_iV hp h, patV_iV n1 n2, n3, if_pos (by rw [← Int.add_mul, Int.add_right_neg, Int.zero_mul]), s1]
      cases decide (p < 0) <;> rfl
theorem order_zero : Ieee.double.order 0 0 = some .eq := by decide +kernel
theorem self_order {p : Int} {z : Nat} (hp : M.rng p) (hz : FW (fsum p (M.neg p)) z) : (Ieee.double.order z 0 == some Ordering.eq) = pok p := by
  rw [self_pat hp] at hz
  cases h : pok p
  · rw [h] at hz
    obtain ⟨s, t, e⟩ := hz.read_nan nan_canon
    unfold Ieee.Format.order
    rw [e]
    rfl
  · rw [h] at hz
    obtain ⟨_, e, _⟩ := hz.of (by decide)
    have : z = 0 := by rw [e]; decide
    rw [this, order_zero]
    rfl
set_option maxRecDepth 100000 in
set_option maxHeartbeats 1000000 in
theorem etold_any {p q : Int} {x y : Nat} (hx : FW p x) (hy : FW q y) (w : World) :
    Calls Tryz.prog 131 #[.float .f64 x, .float .f64 y] w fun e w' => e = .returned (.tuple #[.int .i64 p, .int .i64 q, .bool (pok q)]) ∧ Below w.heap.size w w' := by
  have C1 := fun W => of_FW hx W
  have C2 := fun W => of_FW hy W
  obtain ⟨z1, w1, e1, f1, d1⟩ := run_fdiff (P := Tryz.prog) 42 hy hy w
  have B1 : Hid (Below w.heap.size w w1) := stay_b d1
  have HO : (Ieee.double.order z1 0 == some Ordering.eq) = pok q := self_order hy.rng f1
  clear d1 f1 hx hy
  generalize pok q = R at HO ⊢
  go_enter Tryz.func131, Tryz.ntmps131
  go_wp2_with fail
  refine (C1 _).mono ?_
  rintro _ _ ⟨rfl, rfl⟩
  go_wp2_with fail
  refine (C2 _).mono ?_
  rintro _ _ ⟨rfl, rfl⟩
  have HO2 : (FloatKind.f64.format.order z1 0 == some Ordering.eq) = R := HO
  go_wp2
  refine bodyPost_ret (v := .tuple #[.int .i64 p, .int .i64 q, .bool R]) (by simp [results, Tryz.results131, go_sem, HO2]) rfl ⟨rfl, B1.out⟩
set_option maxRecDepth 100000 in
set_option maxHeartbeats 1000000 in
theorem twoSum_any {a b : Int} (ha : M.rng a) (hb : M.rng b) (w : World) :
    Calls Tryz.prog 108 #[.int .i64 a, .int .i64 b] w fun e w' => e = .returned (.tuple #[.int .i64 (fsum (told a) (told b)), .int .i64 (sL (told a) (told b)), .bool (pok (sL (told a) (told b)))]) ∧ Below w.heap.size w w' := by
  have C1 := fun W => bitsFloat a W
  have C2 := fun W => bitsFloat b W
  have FA : Hid (FW (told a) (wd a)) := wd_told ha
  have FB : Hid (FW (told b) (wd b)) := wd_told hb
  generalize told a = p at *
  generalize told b = q at *
  generalize wd a = x at *
  generalize wd b = y at *
  go_enter Tryz.func108, Tryz.ntmps108
  go_wp2_with fail
  refine (C1 _).mono ?_
  rintro _ _ ⟨rfl, rfl⟩
  go_wp2_with fail
  refine (C2 _).mono ?_
  rintro _ _ ⟨rfl, rfl⟩
  go_wp2_with fail
  refine (esum_any FA.out FB.out _).mono ?_
  rintro _ w1 ⟨z, u, rfl, g1, g2, b1⟩
  have G1 : Hid (FW (fsum p q) z) := g1
  have G2 : Hid (FW (sL p q) u) := g2
  clear g1 g2
  go_wp2_with fail
  refine (etold_any G1.out G2.out _).mono ?_
  rintro _ w2 ⟨rfl, b2⟩
  go_wp2
  refine bodyPost_ret (v := .tuple #[.int .i64 (fsum p q), .int .i64 (sL p q), .bool (pok (sL p q))]) (by simp [results, Tryz.results108, go_sem]) rfl ⟨rfl, bel_trans b1 b2⟩
set_option maxRecDepth 100000 in
set_option maxHeartbeats 1000000 in
theorem twoDiff_any {a b : Int} (ha : M.rng a) (hb : M.rng b) (w : World) (L : Lays w) :
    Calls Tryz.prog 78 #[.int .i64 a, .int .i64 b] w fun e w' => e = .returned (.tuple #[.int .i64 (fsum (told a) (told (M.neg b))), .int .i64 (sL (told a) (told (M.neg b))), .bool (pok (sL (told a) (told (M.neg b))))]) ∧ Below w.heap.size w w' := by
  have C1 := bitsNeg b w L hb
  have C2 := fun W => twoSum_any ha (neg_rng hb) W
  generalize M.neg b = c at *
  generalize told a = p at *
  generalize told c = q at *
  go_enter Tryz.func78, Tryz.ntmps78
  go_wp2_with fail
  refine C1.mono ?_
  rintro _ w1 ⟨rfl, g1⟩
  have b1 := g1.be
  clear g1
  go_wp2_with fail
  refine (C2 _).mono ?_
  rintro _ w2 ⟨rfl, b2⟩
  go_wp2
  refine bodyPost_ret (v := .tuple #[.int .i64 (fsum p q), .int .i64 (sL p q), .bool (pok (sL p q))]) (by simp [results, Tryz.results78, go_sem]) rfl ⟨rfl, bel_trans b1 b2⟩
end Go.Proofs.YtcpjdgfnblkfpaaGreatDoor
