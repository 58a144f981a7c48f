/-
  Plain mathematics of floats: the order of words is the order of signed rungs; less, same and the order of all patterns. No Go text in sight.
-/
import Derived.Test.YtbljcodhcodmkaaDoorMath
import Ieee.Arith
import GoSem.Core.Float
namespace Go.Proofs.YtbljcodhcodmkaaDoor.M
open Go Ieee
set_option linter.unusedSimpArgs false
set_option linter.unusedVariables false

/-- the magnitude of a rung, in units of the least place -/
def V (f : Format) (r : Nat) : Nat := if r < f.binade then r else (f.binade + r % f.binade) * 2 ^ (r / f.binade - 1)

theorem binade_pos (f : Format) : 0 < f.binade := Nat.two_pow_pos _
theorem V_succ (f : Format) (r : Nat) : V f r < V f (r + 1) := by
  have hB := binade_pos f
  unfold V
  generalize hBd : f.binade = B at *
  clear hBd
  by_cases h1 : r + 1 < B
  · rw [if_pos (by omega), if_pos h1]; omega
  · rw [if_neg h1]
    by_cases h2 : r < B
    · have : r + 1 = B := by omega
      rw [if_pos h2, this, Nat.mod_self, Nat.div_self hB]; simp; omega
    · rw [if_neg h2]
      have hq : 1 ≤ r / B := (Nat.one_le_div_iff hB).2 (by omega)
      have hd := Nat.div_add_mod r B
      have hm := Nat.mod_lt r hB
      have hp : 0 < 2 ^ (r / B - 1) := Nat.two_pow_pos _
      by_cases h3 : r % B + 1 < B
      · have e1 : (r + 1) % B = r % B + 1 := by
          rw [Nat.add_mod, Nat.mod_eq_of_lt (show 1 < B by omega)]; exact Nat.mod_eq_of_lt h3
        have e2 : (r + 1) / B = r / B := by
          have := Nat.div_add_mod (r + 1) B
          rw [e1] at this
          have h4 : B * ((r + 1) / B) = B * (r / B) := by omega
          exact Nat.eq_of_mul_eq_mul_left hB h4
        rw [e1, e2]
        exact Nat.mul_lt_mul_of_pos_right (by omega) hp
      · have h4 : r % B + 1 = B := by omega
        have e0 : r + 1 = B * (r / B + 1) := by rw [Nat.mul_add, Nat.mul_one]; omega
        have e1 : (r + 1) % B = 0 := by rw [e0]; exact Nat.mul_mod_right _ _
        have e2 : (r + 1) / B = r / B + 1 := by rw [e0]; exact Nat.mul_div_cancel_left _ hB
        rw [e1, e2]
        have e3 : 2 ^ (r / B + 1 - 1) = 2 * 2 ^ (r / B - 1) := by
          rw [show r / B + 1 - 1 = (r / B - 1) + 1 by omega, Nat.pow_succ, Nat.mul_comm]
        rw [e3, Nat.add_zero, ← Nat.mul_assoc]
        exact Nat.mul_lt_mul_of_pos_right (by omega) hp
theorem V_lt (f : Format) {r s : Nat} (h : r < s) : V f r < V f s := by
  induction s with
  | zero => omega
  | succ s ih =>
    rcases Nat.lt_or_ge r s with h1 | h1
    · exact Nat.lt_trans (ih h1) (V_succ f s)
    · have : r = s := by omega
      subst this
      exact V_succ f r
theorem V_lt_iff (f : Format) (r s : Nat) : V f r < V f s ↔ r < s := by
  constructor
  · intro h
    rcases Nat.lt_trichotomy r s with h1 | h1 | h1
    · exact h1
    · subst h1; omega
    · have := V_lt f h1; omega
  · exact V_lt f
theorem V_zero (f : Format) : V f 0 = 0 := by unfold V; rw [if_pos (binade_pos f)]

/-- a finite word's reading: its magnitude in units of the least place is V of its rung -/
theorem read_finite (f : Format) (x : Nat) (h : x % f.signWeight < f.infRung) :
    ∃ m u : Nat, f.read x = .number (x / f.signWeight % 2 == 1) m (f.leastPlace + u) ∧ m * 2 ^ u = V f (x % f.signWeight) := by
  unfold Format.read V
  dsimp only
  by_cases h1 : x % f.signWeight < f.binade
  · rw [if_pos h1, if_pos h1]
    exact ⟨x % f.signWeight, 0, by simp, by simp⟩
  · rw [if_neg h1, if_pos h, if_neg h1]
    exact ⟨_, _, rfl, rfl⟩
theorem read_inf (f : Format) (hI : f.binade ≤ f.infRung) (x : Nat) (h : x % f.signWeight = f.infRung) : f.read x = .infinity (x / f.signWeight % 2 == 1) := by
  unfold Format.read
  dsimp only
  rw [h, if_neg (by omega), if_neg (by omega), if_pos rfl]
theorem read_nan (f : Format) (hI : f.binade ≤ f.infRung) (x : Nat) (h : f.infRung < x % f.signWeight) : ∃ s t, f.read x = .nan s t := by
  unfold Format.read
  dsimp only
  rw [if_neg (by omega), if_neg (by omega), if_neg (by omega)]
  exact ⟨_, _, rfl⟩
theorem order_nan (f : Format) (hI : f.binade ≤ f.infRung) (x y : Nat) (h : f.infRung < x % f.signWeight ∨ f.infRung < y % f.signWeight) : f.order x y = none := by
  unfold Format.order
  rcases h with h | h
  · obtain ⟨s, t, e⟩ := read_nan f hI x h
    rw [e]; rfl
  · obtain ⟨s, t, e⟩ := read_nan f hI y h
    rw [e]; cases f.read x <;> rfl
theorem compare_scale (x y k : Int) (hk : 0 < k) : compare (x * k) (y * k) = compare x y := by
  simp only [compare, compareOfLessAndEq]
  have h1 : x * k < y * k ↔ x < y := ⟨fun h => Int.lt_of_mul_lt_mul_right h (Int.le_of_lt hk), fun h => Int.mul_lt_mul_of_pos_right h hk⟩
  have h2 : x * k = y * k ↔ x = y := ⟨fun h => Int.eq_of_mul_eq_mul_right (by omega) h, fun h => by rw [h]⟩
  simp only [h1, h2]
theorem signed_scale (s : Bool) (m u k : Nat) : signed s m u * ((2 ^ k : Nat) : Int) = signed s m (u + k) := by
  unfold signed
  have e : ((m <<< u : Nat) : Int) * ((2 ^ k : Nat) : Int) = ((m <<< (u + k) : Nat) : Int) := by
    rw [Nat.shiftLeft_eq, Nat.shiftLeft_eq, Nat.pow_add, ← Nat.mul_assoc]
    exact (Int.natCast_mul _ _).symm
  split
  · rw [Int.neg_mul, e]
  · exact e
/-- the sign and the rung as one number -/
def skey (neg : Bool) (r : Nat) : Int := if neg then -(r : Int) else r
theorem order_number (s t : Bool) (m n : Nat) (l : Int) (u v : Nat) :
    (Datum.number s m (l + u)).order (Datum.number t n (l + v)) = some (compare (signed s m u) (signed t n v)) := by
  unfold Datum.order
  dsimp only
  have hmin : min (l + (u : Int)) (l + (v : Int)) = l + ((min u v : Nat) : Int) := by omega
  have a : (l + (u : Int) - (l + ((min u v : Nat) : Int))).toNat = u - min u v := by omega
  have b : (l + (v : Int) - (l + ((min u v : Nat) : Int))).toNat = v - min u v := by omega
  rw [hmin, a, b, ← compare_scale _ _ ((2 ^ min u v : Nat) : Int) (by exact_mod_cast Nat.two_pow_pos _), signed_scale, signed_scale,
    show u - min u v + min u v = u by omega, show v - min u v + min u v = v by omega]
theorem signed_V (s : Bool) (m u : Nat) : signed s m u = if s then -((m * 2 ^ u : Nat) : Int) else ((m * 2 ^ u : Nat) : Int) := by
  unfold signed; rw [Nat.shiftLeft_eq]
theorem compare_int (a b c d : Int) (h1 : a < b ↔ c < d) (h2 : b < a ↔ d < c) : compare a b = compare c d := by
  simp only [compare, compareOfLessAndEq]
  by_cases h : a < b
  · rw [if_pos h, if_pos (h1.1 h)]
  · rw [if_neg h, if_neg (fun k => h (h1.2 k))]
    by_cases k : b < a
    · rw [if_neg (by omega), if_neg (by have := h2.1 k; omega)]
    · rw [if_pos (by omega), if_pos (by have := fun z => k (h2.2 z); have := fun z => h (h1.2 z); omega)]
theorem order_finite (f : Format) (x y : Nat) (hx : x % f.signWeight < f.infRung) (hy : y % f.signWeight < f.infRung) :
    f.order x y = some (compare (skey (x / f.signWeight % 2 == 1) (x % f.signWeight)) (skey (y / f.signWeight % 2 == 1) (y % f.signWeight))) := by
  obtain ⟨m, u, e1, k1⟩ := read_finite f x hx
  obtain ⟨n, v, e2, k2⟩ := read_finite f y hy
  unfold Format.order
  rw [e1, e2, order_number, signed_V, signed_V, k1, k2]
  congr 1
  generalize x % f.signWeight = r
  generalize y % f.signWeight = q
  have a := V_lt_iff f r q
  have b := V_lt_iff f q r
  have a0 := V_lt_iff f 0 r
  have b0 := V_lt_iff f 0 q
  rw [V_zero] at a0 b0
  unfold skey
  cases (x / f.signWeight % 2 == 1) <;> cases (y / f.signWeight % 2 == 1) <;> simp only [if_true, if_false, Bool.false_eq_true] <;> apply compare_int <;> omega
theorem compare_lt {a b : Int} (h : a < b) : compare a b = .lt := by simp only [compare, compareOfLessAndEq]; rw [if_pos h]
theorem compare_gt {a b : Int} (h : b < a) : compare a b = .gt := by simp only [compare, compareOfLessAndEq]; rw [if_neg (by omega), if_neg (by omega)]
theorem compare_eq {a b : Int} (h : a = b) : compare a b = .eq := by simp only [compare, compareOfLessAndEq]; rw [if_neg (by omega), if_pos h]
theorem order_all (f : Format) (hI : f.binade ≤ f.infRung) (x y : Nat) (hx : x % f.signWeight ≤ f.infRung) (hy : y % f.signWeight ≤ f.infRung) :
    f.order x y = some (compare (skey (x / f.signWeight % 2 == 1) (x % f.signWeight)) (skey (y / f.signWeight % 2 == 1) (y % f.signWeight))) := by
  have hB := binade_pos f
  rcases Nat.lt_or_ge (x % f.signWeight) f.infRung with h1 | h1
  · rcases Nat.lt_or_ge (y % f.signWeight) f.infRung with h2 | h2
    · exact order_finite f x y h1 h2
    · have e2 := read_inf f hI y (by omega)
      obtain ⟨m, u, e1, _⟩ := read_finite f x h1
      have h2' : y % f.signWeight = f.infRung := by omega
      unfold Format.order skey
      rw [e1, e2, h2']
      cases (x / f.signWeight % 2 == 1) <;> cases (y / f.signWeight % 2 == 1) <;> simp only [if_true, if_false, Bool.false_eq_true, Datum.order]
      · rw [compare_lt (by omega)]
      · rw [compare_gt (by omega)]
      · rw [compare_lt (by omega)]
      · rw [compare_gt (by omega)]
  · have e1 := read_inf f hI x (by omega)
    have h1' : x % f.signWeight = f.infRung := by omega
    rcases Nat.lt_or_ge (y % f.signWeight) f.infRung with h2 | h2
    · obtain ⟨n, v, e2, _⟩ := read_finite f y h2
      unfold Format.order skey
      rw [e1, e2, h1']
      cases (x / f.signWeight % 2 == 1) <;> cases (y / f.signWeight % 2 == 1) <;> simp only [if_true, if_false, Bool.false_eq_true, Datum.order]
      · rw [compare_gt (by omega)]
      · rw [compare_gt (by omega)]
      · rw [compare_lt (by omega)]
      · rw [compare_lt (by omega)]
    · have e2 := read_inf f hI y (by omega)
      have h2' : y % f.signWeight = f.infRung := by omega
      unfold Format.order skey
      rw [e1, e2, h1', h2']
      cases (x / f.signWeight % 2 == 1) <;> cases (y / f.signWeight % 2 == 1) <;> simp only [if_true, if_false, Bool.false_eq_true, Datum.order]
      · rw [compare_eq rfl]; rfl
      · rw [compare_gt (by omega)]; rfl
      · rw [compare_lt (by omega)]; rfl
      · rw [compare_eq rfl]; rfl

/-- a pattern's sign and rung as one number -/
def key (b : Int) : Int := if b < 0 then -(b + 9223372036854775808) else b
theorem dSign : Ieee.double.signWeight = 9223372036854775808 := by decide
theorem dInf : Ieee.double.infRung = 9218868437227405312 := by decide
theorem dOk : Ieee.double.binade ≤ Ieee.double.infRung := by decide
theorem wd_rung {b : Int} (h : rng b) : ((wd b % 9223372036854775808 : Nat) : Int) = if b < 0 then b + 9223372036854775808 else b := by
  unfold rng at h; unfold wd; split <;> omega
theorem wd_neg {b : Int} (h : rng b) : (wd b / 9223372036854775808 % 2 == 1) = decide (b < 0) := by
  unfold rng at h; unfold wd
  rw [Bool.eq_iff_iff]; simp only [beq_iff_eq, decide_eq_true_eq]; omega
theorem cls4_rung {b : Int} (h : rng b) : cls b = 4 ↔ 9218868437227405312 < wd b % 9223372036854775808 := by
  have := wd_rung h
  rw [cls4]; unfold rng at h; unfold fld frc
  split at this <;> omega
theorem skey_key {b : Int} (h : rng b) : skey (wd b / 9223372036854775808 % 2 == 1) (wd b % 9223372036854775808) = key b := by
  rw [wd_neg h]; unfold skey key; rw [wd_rung h]
  by_cases hb : b < 0 <;> simp [hb]
theorem order64 {a b : Int} (ha : rng a) (hb : rng b) (h1 : ¬ cls a = 4) (h2 : ¬ cls b = 4) : FloatKind.f64.format.order (wd a) (wd b) = some (compare (key a) (key b)) := by
  rw [cls4_rung ha] at h1; rw [cls4_rung hb] at h2
  have := order_all Ieee.double dOk (wd a) (wd b) (by rw [dSign, dInf]; omega) (by rw [dSign, dInf]; omega)
  rw [dSign, skey_key ha, skey_key hb] at this
  exact this
theorem order64_nan {a b : Int} (ha : rng a) (hb : rng b) (h : cls a = 4 ∨ cls b = 4) : FloatKind.f64.format.order (wd a) (wd b) = none := by
  refine order_nan Ieee.double dOk _ _ ?_
  rw [dSign, dInf]
  rcases h with h | h
  · exact .inl ((cls4_rung ha).1 h)
  · exact .inr ((cls4_rung hb).1 h)
def less (a b : Int) : Bool := !decide (cls a = 4) && (!decide (cls b = 4) && decide (key a < key b))
def same (a b : Int) : Bool := !decide (cls a = 4) && (!decide (cls b = 4) && decide (key a = key b))
theorem same_order {a b : Int} (ha : rng a) (hb : rng b) : (FloatKind.f64.format.order (wd a) (wd b) == some .eq) = same a b := by
  unfold same
  by_cases h1 : cls a = 4
  · rw [order64_nan ha hb (.inl h1)]; simp [h1]
  · by_cases h2 : cls b = 4
    · rw [order64_nan ha hb (.inr h2)]; simp [h2]
    · rw [order64 ha hb h1 h2]
      simp only [h1, h2, decide_false, Bool.not_false, Bool.true_and]
      rcases Int.lt_trichotomy (key a) (key b) with h | h | h
      · rw [compare_lt h]; simp; omega
      · rw [compare_eq h]; simp [h]
      · rw [compare_gt h]; simp; omega
/-- where a pattern that is a number stands among all, -0 ahead of 0 -/
def place (b : Int) : Int := if b < 0 then -(b + 9223372036854775808) - 1 else b
theorem cls0 {b : Int} (h : rng b) : cls b = 0 ↔ b = 0 ∨ b = -9223372036854775808 := by
  unfold rng at h
  unfold cls fld frc; repeat' split
  all_goals omega
end Go.Proofs.YtbljcodhcodmkaaDoor.M
