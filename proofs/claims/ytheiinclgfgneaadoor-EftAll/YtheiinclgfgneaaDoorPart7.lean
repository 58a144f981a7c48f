/-
  Parts of the proof, one behind another.
-/
import Derived.Test.YtheiinclgfgneaaDoorPart6
import Derived.Test.YtheiinclgfgneaaDoorPart5
import Derived.Test.YtheiinclgfgneaaDoorPart4
import Derived.Deep.LoopGhost
import Derived.Test.YtheiinclgfgneaaDoorPart3
import Derived.Test.YtheiinclgfgneaaDoorPart2
import Derived.Deep.RegionHeld3
/-
  What is kept, with the blocks it lies in (Kept); Keep.Add and answer of a number (An); Lent and Back.
-/
namespace Go.Proofs.YtheiinclgfgneaaDoor
open Go Go.RowKit Go.Proofs.YtheiinclgfgneaaDoor.M
set_option linter.unusedSimpArgs false
set_option linter.unusedVariables false

/-- A number's list, from B on. -/
def An (B : Nat) (w : World) (v : Value) (V : Int) : Prop := ∃ t d, Out B w v t d ∧ Nrm d t ∧ val d t = V
theorem An.keeps {B : Nat} {w w' : World} {v : Value} {V : Int} (h : An B w v V) (k : Below w.heap.size w w') : An B w' v V := by
  obtain ⟨t, d, h1, h2⟩ := h
  exact ⟨t, d, h1.stays k, h2⟩
theorem An.lower {B B' : Nat} {w : World} {v : Value} {V : Int} (h : An B w v V) (hB : B' ≤ B) : An B' w v V := by
  obtain ⟨t, d, h1, h2⟩ := h
  exact ⟨t, d, h1.lower hB, h2⟩
theorem An.nil (B : Nat) (w : World) : An B w (.slice none 0 0) 0 := ⟨0, fun _ => 0, Out.nil _ _ _, ⟨fun i hi => by omega, .inl rfl⟩, rfl⟩
theorem Ans.an {w w' : World} {V : Int} {v : Value} (h : Ans w w' V v) : An w.heap.size w' v V := by
  obtain ⟨t, d, h1, h2, h3, h4⟩ := h
  exact ⟨t, d, h1, h2, h3⟩
theorem An.shape {B : Nat} {w : World} {v : Value} {V : Int} (h : An B w v V) : ∃ ao n cap, v = .slice ao n cap := by
  obtain ⟨t, d, h1, h2⟩ := h
  obtain ⟨ao, cap, e, _⟩ := h1.row
  exact ⟨ao, t, cap, e⟩
theorem An.num {B : Nat} {w : World} {v : Value} {V : Int} (h : An B w v V) : Num w v V := by
  obtain ⟨t, d, h1, h2, h3⟩ := h
  obtain ⟨ao, cap, rfl, hR⟩ := h1.row
  exact ⟨ao, t, cap, d, rfl, hR, h2, h3⟩
theorem An.ge {B : Nat} {w : World} {v : Value} {V : Int} (h : An B w v V) {g : Nat} (hg : v.ownBlock = some g) : B ≤ g ∧ g < w.heap.size := by
  obtain ⟨t, d, h1, h2, h3⟩ := h
  exact h1.ge hg
/-- The blocks behind an Add. -/
def S2 (S : Nat → Prop) (l : Value) (s : Nat) : Nat → Prop := fun g => S g ∨ l.ownBlock = some g ∨ s ≤ g
/-- A list and an error, of a number that may be too long. -/
def FitA (B : Nat) (w : World) (V : Int) (v : Value) (er : Int) : Prop := (V < P 2000 ∧ er = 0 ∧ An B w v V) ∨ (P 2000 ≤ V ∧ er = 2 ∧ v = .slice none 0 0)
theorem Fit.fitA {w w' : World} {V er : Int} {v : Value} (h : Fit w w' V v er) : FitA w.heap.size w' V v er := by
  rcases h.2 with ⟨h1, h2, h3⟩ | h
  · exact .inl ⟨h1, h2, h3.an⟩
  · exact .inr h
theorem FitA.keeps {B : Nat} {w w' : World} {v : Value} {V er : Int} (h : FitA B w V v er) (k : Below w.heap.size w w') : FitA B w' V v er := by
  rcases h with ⟨h1, h2, h3⟩ | h
  · exact .inl ⟨h1, h2, h3.keeps k⟩
  · exact .inr h
theorem FitA.lower {B B' : Nat} {w : World} {v : Value} {V er : Int} (h : FitA B w V v er) (hB : B' ≤ B) : FitA B' w V v er := by
  rcases h with ⟨h1, h2, h3⟩ | h
  · exact .inl ⟨h1, h2, h3.lower hB⟩
  · exact .inr h
theorem FitA.ge {B : Nat} {w : World} {v : Value} {V er : Int} (h : FitA B w V v er) {g : Nat} (hg : v.ownBlock = some g) : B ≤ g ∧ g < w.heap.size := by
  rcases h with ⟨h1, h2, h3⟩ | ⟨_, _, rfl⟩
  · exact h3.ge hg
  · simp [Value.ownBlock] at hg
theorem FitA.shape {B : Nat} {w : World} {v : Value} {V er : Int} (h : FitA B w V v er) : ∃ ao n cap, v = .slice ao n cap := by
  rcases h with ⟨h1, h2, h3⟩ | ⟨_, _, rfl⟩
  · exact h3.shape
  · exact ⟨_, _, _, rfl⟩
/-- A lent list: three marks behind it. -/
def lentD (a : Nat → Int) (n : Nat) : Nat → Int := cat a n (fun i => -71 - (i : Int))
theorem row3 (w : World) (x y z : Int) (f : Nat → Int) (h0 : f 0 = x) (h1 : f 1 = y) (h2 : f 2 = z) {g : Nat} (hg : g = w.heap.size) : Row (w.alloc (.cells #[.int .i64 x, .int .i64 y, .int .i64 z] 3)) (some ⟨g, 0, none⟩) 3 3 f := by
  subst hg
  refine (Blk.new w #[.int .i64 x, .int .i64 y, .int .i64 z] f (fun i hi => ?_)).row0 (Nat.le_refl _) (show 3 ≤ 9223372036854775807 by decide)
  match i, hi with
  | 0, _ => rw [h0]; rfl
  | 1, _ => rw [h1]; rfl
  | 2, _ => rw [h2]; rfl
theorem lentD_lt (a : Nat → Int) {n i : Nat} (h : i < n) : lentD a n i = a i := by simp [lentD, cat, h]
theorem lentD_marks (a : Nat → Int) (n : Nat) : lentD a n n = -71 ∧ lentD a n (n + 1) = -72 ∧ lentD a n (n + 2) = -73 := by
  refine ⟨by simp [lentD, cat], by simp [lentD, cat]; omega, by simp [lentD, cat]; omega⟩
/-- What Lent answers: a block of its own. -/
def LentA (w w' : World) (v : Value) (n : Nat) (a : Nat → Int) : Prop := ∃ g cap, v = .slice (some ⟨g, 0, none⟩) (n + 3) cap ∧ Out w.heap.size w' v (n + 3) (lentD a n) ∧ Below w.heap.size w w'
end Go.Proofs.YtheiinclgfgneaaDoor

/-
  Lent lists: what is read of them, and Back.
-/
namespace Go.Proofs.YtheiinclgfgneaaDoor
open Go Go.RowKit Go.Proofs.YtheiinclgfgneaaDoor.M
set_option linter.unusedSimpArgs false
set_option linter.unusedVariables false

theorem LentA.below {w w' : World} {v : Value} {n : Nat} {a : Nat → Int} (h : LentA w w' v n a) : Below w.heap.size w w' := by
  obtain ⟨g, cap, _, _, hb⟩ := h
  exact hb
theorem LentA.parts {w w' : World} {v : Value} {n : Nat} {a : Nat → Int} (h : LentA w w' v n a) : ∃ g cap, v = .slice (some ⟨g, 0, none⟩) (n + 3) cap ∧ Out w.heap.size w' (.slice (some ⟨g, 0, none⟩) (n + 3) cap) (n + 3) (lentD a n) := by
  obtain ⟨g, cap, rfl, h, _⟩ := h
  exact ⟨g, cap, rfl, h⟩
theorem lent_cap {B : Nat} {w : World} {g n cap : Nat} {d : Nat → Int} (h : Out B w (.slice (some ⟨g, 0, none⟩) (n + 3) cap) (n + 3) d) : n + 3 ≤ cap ∧ cap ≤ 9223372036854775807 := by
  obtain ⟨_, _, e, hR⟩ := h.row
  simp only [Value.slice.injEq] at e
  obtain ⟨rfl, _, rfl⟩ := e
  exact ⟨hR.le, hR.max⟩
theorem lent_row {B : Nat} {w : World} {g n cap : Nat} {a : Nat → Int} (h : Out B w (.slice (some ⟨g, 0, none⟩) (n + 3) cap) (n + 3) (lentD a n)) : Row w (some ⟨g, 0, none⟩) n cap a := by
  obtain ⟨_, _, e, hR⟩ := (h.cut (show n ≤ n + 3 by omega)).row
  simp only [Value.slice.injEq] at e
  obtain ⟨rfl, _, rfl⟩ := e
  exact hR.congr fun i hi => lentD_lt a hi
theorem lent_two {B B' : Nat} {w : World} {g n cap g' m cap' : Nat} {a b : Nat → Int} (h : Out B w (.slice (some ⟨g, 0, none⟩) (n + 3) cap) (n + 3) (lentD a n)) (h' : Out B' w (.slice (some ⟨g', 0, none⟩) (m + 3) cap') (m + 3) (lentD b m)) :
    Two w (some ⟨g, 0, none⟩) (some ⟨g', 0, none⟩) n m cap cap' a b := ⟨lent_row h, lent_row h'⟩
theorem lent_numA {B : Nat} {w : World} {g n cap : Nat} {a : Nat → Int} (h : Out B w (.slice (some ⟨g, 0, none⟩) (n + 3) cap) (n + 3) (lentD a n)) (hN : Nrm a n) : Num w (.slice (some ⟨g, 0, none⟩) n cap) (val a n) :=
  ⟨_, _, _, _, rfl, lent_row h, hN, rfl⟩
theorem Row.num0 {w : World} {ao : Option Addr} {n cap : Nat} {a : Nat → Int} (h : Row w ao n cap a) (hN : Nrm a n) : Num w (.slice ao n cap) (val a n) := ⟨_, _, _, _, rfl, h, hN, rfl⟩
theorem RowX.of0 {g : Nat} {w0 w : World} {ao : Option Addr} {n cap : Nat} {d : Nat → Int} (h : Row w0 ao n cap d) (hb : Below w0.heap.size w0 w) (hg : w0.heap.size ≤ g) : RowX g w ao n cap d :=
  ⟨h.le, h.max, fun hn => by
    obtain ⟨b, off, rfl, hlt, hc⟩ := h.spot hn
    exact ⟨b, off, rfl, Nat.lt_of_lt_of_le hlt hb.size, by omega, fun i hi => (hb.cell (p := ⟨b, off + i, none⟩) hlt).trans (hc i hi)⟩⟩
end Go.Proofs.YtheiinclgfgneaaDoor

/-
  Package nat: root, Root, by contracts: for every number.
-/
namespace Go.Proofs.YtheiinclgfgneaaDoor
open Go Go.RowKit Go.Proofs.YtheiinclgfgneaaDoor.M
set_option linter.unusedSimpArgs false
set_option linter.unusedVariables false

/-- The square root, cut: the greatest s with s s <= A. -/
def IsRoot (A s : Int) : Prop := 0 ≤ s ∧ s * s ≤ A ∧ A < (s + 1) * (s + 1)
theorem root_above {A s : Int} (hA : 0 ≤ A) (hs : 0 < s) (h : A < s * s) : ∀ r, r * r ≤ A → r < s := fun r hr => by
  rcases Int.lt_or_le r s with q | q
  · exact q
  · have := Int.mul_le_mul q q (by omega) (by omega)
    omega
/-- s is not below the root. -/
def Abv (A s : Int) : Prop := ∀ r, 0 ≤ r → r * r ≤ A → r ≤ s
theorem abv_start {A : Int} (hA : 0 ≤ A) {k : Nat} (h : A < 2 ^ (2 * k)) : Abv A (2 ^ k) := fun r h0 hr => by
  rcases Int.lt_or_le (2 ^ k) r with q | q
  · have h1 := Int.mul_le_mul (Int.le_of_lt q) (Int.le_of_lt q) (Int.le_of_lt (two_pos k)) h0
    rw [← Int.pow_add, ← Nat.two_mul] at h1
    omega
  · exact q
theorem abv_next {A s : Int} (hs : 0 < s) (h : Abv A s) : Abv A ((s + A / s) / 2) := fun r h0 hr => newton_above hs hr
theorem abv_done {A s : Int} (hs : 0 < s) (h : Abv A s) (hst : s ≤ (s + A / s) / 2) : IsRoot A s := by
  refine ⟨by omega, newton_stop hs hst, ?_⟩
  rcases Int.lt_or_le A ((s + 1) * (s + 1)) with q | q
  · exact q
  · have := h (s + 1) (by omega) q
    omega
theorem Num.parts {w : World} {v : Value} {V : Int} (h : Num w v V) {k : Nat} (hV : V < P k) : ∃ ao n cap d, v = .slice ao n cap ∧ Row w ao n cap d ∧ Nrm d n ∧ val d n = V ∧ n ≤ k := by
  obtain ⟨ao, n, cap, rfl⟩ := h.shape
  have hl := h.len hV
  obtain ⟨ao', n', cap', d, e, hR, h2, h3⟩ := h
  simp only [Value.slice.injEq] at e
  obtain ⟨rfl, rfl, rfl⟩ := e
  exact ⟨ao, n, cap, d, rfl, hR, h2, h3, hl⟩
/-- A root that is answered. -/
def RootA (w w' : World) (A : Int) (v : Value) : Prop := ∃ s, Ans w w' s v ∧ IsRoot A s
theorem root_bnd {A s : Int} (hA : A < P 2000) (hA0 : 0 ≤ A) (hs : 0 < s) (h3 : s < P 3000) : A / s < P 5000 ∧ s < P 5000 ∧ s + A / s < P 6000 := by
  have h1 : A / s ≤ A := Int.ediv_le_self _ hA0
  have p1 := P_le (show 2000 ≤ 3000 by decide)
  have p2 := P_le (show 3000 ≤ 5000 by decide)
  have p3 : P 3000 + P 3000 ≤ P 6000 := by
    have h := P_le (show 3001 ≤ 6000 by decide)
    have e : P 3001 = P 3000 * 1073741824 := P_succ 3000
    have := P_pos 3000
    generalize P 3000 = X at *
    generalize P 6000 = Y at *
    generalize P 3001 = Z at *
    omega
  generalize P 3000 = X at *
  generalize P 6000 = Y at *
  generalize P 5000 = Z at *
  generalize P 2000 = T at *
  refine ⟨?_, ?_, ?_⟩ <;> omega
/-- Where a root's rounds stand: s is in new memory, and not below the root. -/
def RootR (w0 : World) (A : Int) (v : Value) (s : Int) (wr : World) : Prop := Ans w0 wr s v ∧ 0 < s ∧ Abv A s ∧ s < P 3000
end Go.Proofs.YtheiinclgfgneaaDoor

/-
  The document's own Low, Pow, Root, by contracts over the same values.
-/
namespace Go.Proofs.YtheiinclgfgneaaDoor
open Go Go.RowKit Go.Proofs.YtheiinclgfgneaaDoor.M
set_option linter.unusedSimpArgs false
set_option linter.unusedVariables false

theorem lowA_unique {A l m : Int} (h : LowA A l) (k : LowA A m) : l = m := by
  have hz : ∀ i : Nat, ¬ IsLow 0 i := fun i ⟨q, e⟩ => by
    have h2 := two_pos i
    have h3 : (2 * q + 1) ≠ 0 := by omega
    rcases Int.mul_eq_zero.1 e.symm with h | h
    · exact h3 h
    · omega
  rcases h with ⟨h0, h1⟩ | ⟨i, h1, hi⟩ <;> rcases k with ⟨k0, k1⟩ | ⟨j, k1, hj⟩
  · omega
  · subst h0; exact absurd hj (hz j)
  · subst k0; exact absurd hi (hz i)
  · rw [h1, k1, low_unique hi hj]
set_option maxHeartbeats 400000 in
theorem rlow_any (ao : Option Addr) (n cap : Nat) (d : Nat → Int) (w : World) (h : Row w ao n cap d) (hd : Dig d n) (hn : n ≤ 100000) :
    Calls Tryd.prog 66 #[.slice ao n cap] w fun e w' => ∃ l, e = .returned (.int .i64 l) ∧ LowA (val d n) l ∧ w' = w := by
  have hl := h.le
  have hm := h.max
  go_enter Tryd.func66, Tryd.ntmps66
  go_wp2
  go_loop [3] (fun i => ∃ k : Nat, k ≤ n ∧ i = .int .i64 k ∧ Hid (∀ j, j < k → d j = 0)) (fun i => n - (intOf i).toNat)
  case atStart => exact ⟨0, Nat.zero_le _, rfl, fun j hj => by omega⟩
  case round =>
    obtain ⟨k, hk, rfl, HZ⟩ := hrel
    by_cases hlt : k < n
    · obtain ⟨b, off, rfl, hb, hc⟩ := h.spot (by omega)
      have c := hc k hlt
      have dk := hd k hlt
      by_cases h0 : d k = 0
      · have e0 : (d k != 0) = false := by simp [h0]
        go_wp2
        go_round
        case rel => exact ⟨k + 1, by omega, by go_num, fun j hj => by by_cases e : j = k; (· rw [e]; exact h0); (· exact HZ.out j (by omega))⟩
        case measure => simp [intOf]; omega
      · have e0 : (d k != 0) = true := by simp [h0]
        have hpos : 0 < d k := by omega
        go_wp2
        go_loop [4, 5] (fun s v => ∃ (x : Int) (t : Nat), s = .int .i64 ((30 * k + t : Nat) : Int) ∧ v = .int .i64 x ∧ 0 < x ∧ x < 1073741824 ∧ t ≤ 30 ∧ Hid (x * 2 ^ t = d k)) (fun _ v => (intOf v).toNat)
        case atStart => exact ⟨d k, 0, by go_num, rfl, hpos, dk.2, by omega, by show _ = _; simp⟩
        case round =>
          obtain ⟨x, t, rfl, rfl, hx0, hx1, ht, HT⟩ := hrel
          by_cases he : x % 2 = 0
          · have ee : (x % 2 == 0) = true := by simp [he]
            have HT2 : Hid (x / 2 * 2 ^ (t + 1) = d k) := by
              show _ = _
              rw [Int.pow_succ, Int.mul_comm (2 ^ t) 2, ← Int.mul_assoc, show x / 2 * 2 = x by omega]; exact HT.out
            have ht2 : t + 1 ≤ 30 := by
              have h1 : 1 * 2 ^ (t + 1) ≤ x / 2 * 2 ^ (t + 1) := Int.mul_le_mul_of_nonneg_right (by omega) (Int.le_of_lt (two_pos _))
              rw [HT2.out] at h1
              have h2 : (2 : Int) ^ (t + 1) < 2 ^ 30 := by have : (2 : Int) ^ 30 = 1073741824 := rfl; omega
              have := two_lt_iff h2
              omega
            go_wp2
            go_round
            case rel => exact ⟨x / 2, t + 1, by go_num, rfl, by omega, by omega, ht2, HT2.out⟩
            case measure => simp [intOf]; omega
          · have ee : (x % 2 == 0) = false := by simp [he]
            have HL : Hid (IsLow (d k) t) := ⟨x / 2, by rw [show 2 * (x / 2) + 1 = x by omega]; exact HT.out.symm⟩
            go_wp2
            go_ret
            exact ⟨_, rfl, .inr ⟨30 * k + t, rfl, isLow_val hlt HZ.out HL.out (low_lt hpos dk.2 HL.out)⟩, rfl⟩
    · obtain rfl : k = n := by omega
      go_wp2
      go_ret
      exact ⟨_, rfl, .inl ⟨by rw [val_zeros (Nat.zero_le _) (fun i _ hi => HZ.out i hi)]; rfl, rfl⟩, rfl⟩
/-- A list of one. -/
theorem an_one (w : World) (x : Int) (h0 : 0 < x) (h1 : x < 1073741824) {g B : Nat} (hg : g = w.heap.size) (hB : B ≤ w.heap.size) : An B (w.alloc (.cells #[.int .i64 x] 3)) (.slice (some ⟨g, 0, none⟩) 1 1) x := by
  subst hg
  exact ⟨1, fun _ => x, (Blk.new w #[.int .i64 x] (fun _ => x) (fun i hi => by simp at hi; subst hi; rfl)).out hB (Nat.le_refl _) (show 1 ≤ 9223372036854775807 by decide), ⟨fun i _ => ⟨by show 0 ≤ x; omega, h1⟩, .inr (by show x ≠ 0; omega)⟩, by show 0 + x * 1 = x; omega⟩
end Go.Proofs.YtheiinclgfgneaaDoor

/-
  The document's own Join and Join32: the two loops of shifted, then the pattern; by contracts over the same plain functions as package bits' join.
-/
namespace Go.Proofs.YtheiinclgfgneaaDoor
open Go Go.RowKit Go.Proofs.YtheiinclgfgneaaDoor.M
set_option linter.unusedSimpArgs false
set_option linter.unusedVariables false

theorem keepRef {p : Prop} (h : p) : Hid p := h
theorem go_int {k : IntKind} {a b : Int} (h : a = b) : Value.int k a = .int k b := by rw [h]
set_option maxHeartbeats 1000000 in
theorem shifted64 (mag exp : Int) (w : World) (h0 : 0 < mag) (h : mag < 9223372036854775808) (e0 : -2000 ≤ exp) (e1 : exp ≤ 2000) :
    Calls Tryd.prog 59 #[.int .i64 mag, .int .i64 exp, .int .i64 (-1074), .int .i64 53] w fun e w' => e = .returned (.tuple #[.int .i64 (sm 52 (-1074) mag exp), .int .i64 (se 52 (-1074) mag exp), .bool (sk 52 (-1074) mag exp)]) ∧ w' = w := by
  have hj := jo_le h0 h
  have hL := jl_le h0 h
  have hz63 : jz mag < 63 := by obtain ⟨_, _, a, _⟩ := jz_spec h0 h; exact a
  have hodd := halved_end h0 h
  go_enter Tryd.func59, Tryd.ntmps59
  go_wp2
  go_loop [0, 1] (fun a b => ∃ k : Nat, k ≤ jz mag ∧ a = .int .i64 (mag / 2 ^ k) ∧ b = .int .i64 (exp + k)) (fun _ b => (exp + jz mag - intOf b).toNat)
  case atStart => exact ⟨0, Nat.zero_le _, by simp, by simp⟩
  case round =>
    obtain ⟨k, hk, rfl, rfl⟩ := hrel
    by_cases hlt : k < jz mag
    · obtain ⟨a1, a2, a3, a4⟩ := halved h0 h k hlt
      have b1 : (mag / 2 ^ k % 2 == 0) = true := by simp [a1]
      have A2 := keepRef a2
      clear a2 a1
      go_wp2
      go_round
      case rel => exact ⟨k + 1, hlt, go_int A2.out, go_int (by omega)⟩
      case measure => simp [intOf]; omega
    · have hke : k = jz mag := by omega
      subst hke
      have eo : mag / 2 ^ jz mag = jo mag := rfl
      have b1 : (jo mag % 2 == 0) = false := by simp [hodd]
      have hd0 := doubled (fr := 53) h0 h (by omega) 0
      have hd1 : jo mag < 9007199254740992 ↔ 0 ≤ jsp 52 mag := by
        have e : jo mag * 2 ^ 0 = jo mag := by simp
        rw [e, show (2 : Int) ^ (53 : Int).toNat = 9007199254740992 by decide] at hd0
        rw [hd0]; unfold jsp; omega
      clear hd0 hodd
      by_cases s1 : jo mag < 9007199254740992
      · have sp := hd1.1 s1
        clear hd1
        by_cases s2 : exp + jz mag < -1074
        · have hk : Hid (sk 52 (-1074) mag exp = false) := by unfold Hid sk; simp; omega
          go_wp2
          go_ret3
          exact ⟨ret_ttt (by simp [sm, hk.out]) (by simp [se, hk.out]) (by simp [hk.out]), rfl⟩
        · have hk : Hid (sk 52 (-1074) mag exp = true) := by unfold Hid sk; simp; omega
          obtain ⟨s, hs⟩ : ∃ s : Nat, jsh 52 (-1074) mag exp = (s : Int) := ⟨(jsh 52 (-1074) mag exp).toNat, by unfold jsh; omega⟩
          have hs' : Hid (jsh 52 (-1074) mag exp = (s : Int)) := hs
          have hsd : Hid ((s : Int) = min (jsp 52 mag) (exp + jz mag + 1074)) := by unfold Hid; rw [← hs]; unfold jsh; omega
          clear hs
          go_wp2
          go_loop [0, 1] (fun a b => ∃ j : Nat, j ≤ s ∧ a = .int .i64 (jo mag * 2 ^ j) ∧ b = .int .i64 (exp + jz mag - j)) (fun _ b => (intOf b + 1074).toNat)
          case atStart => exact ⟨0, Nat.zero_le _, by simp, by simp⟩
          case round =>
            obtain ⟨j, hjs, rfl, rfl⟩ := hrel
            have hd := doubled (fr := 52) h0 h (by omega) j
            rw [show (2 : Int) ^ (52 : Int).toNat = 4503599627370496 by decide] at hd
            have hb := jshift_lt (fr := 52) h0 h (by omega) j (by have := hsd.out; omega)
            have hb1 := hb.1
            have hb2 : jo mag * 2 ^ j < 9007199254740992 := hb.2
            clear hb
            by_cases hlt : j < s
            · have c1 : jo mag * 2 ^ j < 4503599627370496 := hd.2 (by have := hsd.out; omega)
              have c2 : -1074 < exp + jz mag - j := by have := hsd.out; omega
              have e2 : Hid (jo mag * 2 ^ j + jo mag * 2 ^ j = jo mag * 2 ^ (j + 1)) := by
                unfold Hid; rw [Int.pow_succ, ← Int.mul_assoc]; omega
              clear hd
              go_wp2
              go_round
              case rel => exact ⟨j + 1, hlt, go_int e2.out, go_int (by omega)⟩
              case measure => simp [intOf]; omega
            · have hje : j = s := by omega
              subst hje
              have fin : ¬ (-1074 < exp + jz mag - j ∧ jo mag * 2 ^ j < 4503599627370496) := by
                rw [hd]; have := hsd.out; omega
              clear hd
              by_cases c2 : -1074 < exp + jz mag - j
              all_goals
                go_wp2
                go_ret3
                exact ⟨ret_ttt (by simp [sm, hk.out, hs'.out]) (by simp [se, hk.out, hs'.out]) (by simp [hk.out]), rfl⟩
      · have hk : Hid (sk 52 (-1074) mag exp = false) := by unfold Hid sk; simp; omega
        clear hd1
        go_wp2
        go_ret3
        exact ⟨ret_ttt (by simp [sm, hk.out]) (by simp [se, hk.out]) (by simp [hk.out]), rfl⟩
set_option maxHeartbeats 1000000 in
theorem shifted32 (mag exp : Int) (w : World) (h0 : 0 < mag) (h : mag < 9223372036854775808) (e0 : -2000 ≤ exp) (e1 : exp ≤ 2000) :
    Calls Tryd.prog 59 #[.int .i64 mag, .int .i64 exp, .int .i64 (-149), .int .i64 24] w fun e w' => e = .returned (.tuple #[.int .i64 (sm 23 (-149) mag exp), .int .i64 (se 23 (-149) mag exp), .bool (sk 23 (-149) mag exp)]) ∧ w' = w := by
  have hj := jo_le h0 h
  have hL := jl_le h0 h
  have hz63 : jz mag < 63 := by obtain ⟨_, _, a, _⟩ := jz_spec h0 h; exact a
  have hodd := halved_end h0 h
  go_enter Tryd.func59, Tryd.ntmps59
  go_wp2
  go_loop [0, 1] (fun a b => ∃ k : Nat, k ≤ jz mag ∧ a = .int .i64 (mag / 2 ^ k) ∧ b = .int .i64 (exp + k)) (fun _ b => (exp + jz mag - intOf b).toNat)
  case atStart => exact ⟨0, Nat.zero_le _, by simp, by simp⟩
  case round =>
    obtain ⟨k, hk, rfl, rfl⟩ := hrel
    by_cases hlt : k < jz mag
    · obtain ⟨a1, a2, a3, a4⟩ := halved h0 h k hlt
      have b1 : (mag / 2 ^ k % 2 == 0) = true := by simp [a1]
      have A2 := keepRef a2
      clear a2 a1
      go_wp2
      go_round
      case rel => exact ⟨k + 1, hlt, go_int A2.out, go_int (by omega)⟩
      case measure => simp [intOf]; omega
    · have hke : k = jz mag := by omega
      subst hke
      have eo : mag / 2 ^ jz mag = jo mag := rfl
      have b1 : (jo mag % 2 == 0) = false := by simp [hodd]
      have hd0 := doubled (fr := 24) h0 h (by omega) 0
      have hd1 : jo mag < 16777216 ↔ 0 ≤ jsp 23 mag := by
        have e : jo mag * 2 ^ 0 = jo mag := by simp
        rw [e, show (2 : Int) ^ (24 : Int).toNat = 16777216 by decide] at hd0
        rw [hd0]; unfold jsp; omega
      clear hd0 hodd
      by_cases s1 : jo mag < 16777216
      · have sp := hd1.1 s1
        clear hd1
        by_cases s2 : exp + jz mag < -149
        · have hk : Hid (sk 23 (-149) mag exp = false) := by unfold Hid sk; simp; omega
          go_wp2
          go_ret3
          exact ⟨ret_ttt (by simp [sm, hk.out]) (by simp [se, hk.out]) (by simp [hk.out]), rfl⟩
        · have hk : Hid (sk 23 (-149) mag exp = true) := by unfold Hid sk; simp; omega
          obtain ⟨s, hs⟩ : ∃ s : Nat, jsh 23 (-149) mag exp = (s : Int) := ⟨(jsh 23 (-149) mag exp).toNat, by unfold jsh; omega⟩
          have hs' : Hid (jsh 23 (-149) mag exp = (s : Int)) := hs
          have hsd : Hid ((s : Int) = min (jsp 23 mag) (exp + jz mag + 149)) := by unfold Hid; rw [← hs]; unfold jsh; omega
          clear hs
          go_wp2
          go_loop [0, 1] (fun a b => ∃ j : Nat, j ≤ s ∧ a = .int .i64 (jo mag * 2 ^ j) ∧ b = .int .i64 (exp + jz mag - j)) (fun _ b => (intOf b + 149).toNat)
          case atStart => exact ⟨0, Nat.zero_le _, by simp, by simp⟩
          case round =>
            obtain ⟨j, hjs, rfl, rfl⟩ := hrel
            have hd := doubled (fr := 23) h0 h (by omega) j
            rw [show (2 : Int) ^ (23 : Int).toNat = 8388608 by decide] at hd
            have hb := jshift_lt (fr := 23) h0 h (by omega) j (by have := hsd.out; omega)
            have hb1 := hb.1
            have hb2 : jo mag * 2 ^ j < 16777216 := hb.2
            clear hb
            by_cases hlt : j < s
            · have c1 : jo mag * 2 ^ j < 8388608 := hd.2 (by have := hsd.out; omega)
              have c2 : -149 < exp + jz mag - j := by have := hsd.out; omega
              have e2 : Hid (jo mag * 2 ^ j + jo mag * 2 ^ j = jo mag * 2 ^ (j + 1)) := by
                unfold Hid; rw [Int.pow_succ, ← Int.mul_assoc]; omega
              clear hd
              go_wp2
              go_round
              case rel => exact ⟨j + 1, hlt, go_int e2.out, go_int (by omega)⟩
              case measure => simp [intOf]; omega
            · have hje : j = s := by omega
              subst hje
              have fin : ¬ (-149 < exp + jz mag - j ∧ jo mag * 2 ^ j < 8388608) := by
                rw [hd]; have := hsd.out; omega
              clear hd
              by_cases c2 : -149 < exp + jz mag - j
              all_goals
                go_wp2
                go_ret3
                exact ⟨ret_ttt (by simp [sm, hk.out, hs'.out]) (by simp [se, hk.out, hs'.out]) (by simp [hk.out]), rfl⟩
      · have hk : Hid (sk 23 (-149) mag exp = false) := by unfold Hid sk; simp; omega
        clear hd1
        go_wp2
        go_ret3
        exact ⟨ret_ttt (by simp [sm, hk.out]) (by simp [se, hk.out]) (by simp [hk.out]), rfl⟩
set_option maxHeartbeats 1000000 in
theorem refJoin (neg : Bool) (mag exp : Int) (w : World) (hm : rng mag) (he : rng exp) :
    Calls Tryd.prog 38 #[.bool neg, .int .i64 mag, .int .i64 exp] w fun e w' => e = .returned (.tuple #[.int .i64 (jp neg mag exp), .bool (jk 52 2047 (-1074) mag exp)]) ∧ w' = w := by
  unfold rng at hm he
  rcases Int.lt_trichotomy mag 0 with h | h | h
  · have hk : Hid (jk 52 2047 (-1074) mag exp = false) := by unfold Hid jk; rw [if_pos h]
    have hv : Hid (jp neg mag exp = 0) := by unfold Hid jp; rw [hk.out]; simp [jv]; omega
    cases neg
    all_goals
      go_enter Tryd.func38, Tryd.ntmps38
      go_wp2
      go_ret2
      exact ⟨ret_ib hv.out.symm hk.out.symm, rfl⟩
  · subst h
    cases neg
    all_goals
      go_enter Tryd.func38, Tryd.ntmps38
      go_wp2
      all_goals go_ret2
      all_goals exact ⟨ret_ib (by simp [jp, jk, jv]) (by simp [jk]), rfl⟩
  · have hn : (mag == 0) = false := by simp; omega
    by_cases f1 : 2000 < exp
    · have hg := jgood_far h hm.2 (exp := exp) (by omega)
      have hk : Hid (jk 52 2047 (-1074) mag exp = false) := by unfold Hid jk; rw [if_neg (by omega), if_neg (by omega), hg]
      have hv : Hid (jp neg mag exp = 0) := by unfold Hid jp; rw [hk.out]; simp [jv, hg]
      clear hg
      cases neg
      all_goals
        go_enter Tryd.func38, Tryd.ntmps38
        go_wp2
        go_ret2
        exact ⟨ret_ib hv.out.symm hk.out.symm, rfl⟩
    · by_cases f2 : exp < -2000
      · have hg := jgood_near h hm.2 f2
        have hk : Hid (jk 52 2047 (-1074) mag exp = false) := by unfold Hid jk; rw [if_neg (by omega), if_neg (by omega), hg]
        have hv : Hid (jp neg mag exp = 0) := by unfold Hid jp; rw [hk.out]; simp [jv, hg]
        clear hg
        cases neg
        all_goals
          go_enter Tryd.func38, Tryd.ntmps38
          go_wp2
          go_ret2
          exact ⟨ret_ib hv.out.symm hk.out.symm, rfl⟩
      · have hgs := jgood_sk mag exp
        by_cases g1 : sk 52 (-1074) mag exp = true
        · by_cases g2 : se 52 (-1074) mag exp ≤ 971
          · obtain ⟨b1, b2, b3, b4⟩ := jv_sm h hm.2 g1 g2
            have hk : Hid (jk 52 2047 (-1074) mag exp = true) := by unfold Hid jk; rw [if_neg (by omega), if_neg (by omega), hgs, g1]; simpa using g2
            have hv : Hid (jv 52 2047 (-1074) mag exp = (if sm 52 (-1074) mag exp < 4503599627370496 then sm 52 (-1074) mag exp else (se 52 (-1074) mag exp + 1075) * 4503599627370496 + sm 52 (-1074) mag exp - 4503599627370496)) := b4
            clear b4 hgs
            by_cases g3 : sm 52 (-1074) mag exp < 4503599627370496
            all_goals
              cases neg
              all_goals
                go_enter Tryd.func38, Tryd.ntmps38
                go_wp2_with (go_at_call 59; refine (shifted64 mag exp _ h hm.2 (by omega) (by omega)).mono ?_; rintro e w1 ⟨rfl, rfl⟩)
                go_ret2
                refine ⟨ret_ib ?_ hk.out.symm, rfl⟩
                unfold jp
                rw [hk.out, hv.out]
                simp
                omega
          · have hg : jgood 52 2047 (-1074) mag exp = false := by rw [hgs, g1]; simpa using g2
            have hk : Hid (jk 52 2047 (-1074) mag exp = false) := by unfold Hid jk; rw [if_neg (by omega), if_neg (by omega), hg]
            have hv : Hid (jp neg mag exp = 0) := by unfold Hid jp; rw [hk.out]; simp [jv, hg]
            clear hg hgs
            cases neg
            all_goals
              go_enter Tryd.func38, Tryd.ntmps38
              go_wp2_with (go_at_call 59; refine (shifted64 mag exp _ h hm.2 (by omega) (by omega)).mono ?_; rintro e w1 ⟨rfl, rfl⟩)
              go_ret2
              exact ⟨ret_ib hv.out.symm hk.out.symm, rfl⟩
        · have g1' : sk 52 (-1074) mag exp = false := by simpa using g1
          have hg : jgood 52 2047 (-1074) mag exp = false := by rw [hgs, g1']; rfl
          have hk : Hid (jk 52 2047 (-1074) mag exp = false) := by unfold Hid jk; rw [if_neg (by omega), if_neg (by omega), hg]
          have hv : Hid (jp neg mag exp = 0) := by unfold Hid jp; rw [hk.out]; simp [jv, hg]
          clear hg hgs g1
          cases neg
          all_goals
            go_enter Tryd.func38, Tryd.ntmps38
            go_wp2_with (go_at_call 59; refine (shifted64 mag exp _ h hm.2 (by omega) (by omega)).mono ?_; rintro e w1 ⟨rfl, rfl⟩)
            go_ret2
            exact ⟨ret_ib hv.out.symm hk.out.symm, rfl⟩
set_option maxHeartbeats 1000000 in
theorem refJoin32 (neg : Bool) (mag exp : Int) (w : World) (hm : rng mag) (he : rng exp) :
    Calls Tryd.prog 92 #[.bool neg, .int .i64 mag, .int .i64 exp] w fun e w' => e = .returned (.tuple #[.int .i64 (jp32 neg mag exp), .bool (jk 23 255 (-149) mag exp)]) ∧ w' = w := by
  unfold rng at hm he
  rcases Int.lt_trichotomy mag 0 with h | h | h
  · have hk : Hid (jk 23 255 (-149) mag exp = false) := by unfold Hid jk; rw [if_pos h]
    have hv : Hid (jp32 neg mag exp = 0) := by unfold Hid jp32; rw [hk.out]; simp [jv]; omega
    cases neg
    all_goals
      go_enter Tryd.func92, Tryd.ntmps92
      go_wp2
      go_ret2
      exact ⟨ret_ib hv.out.symm hk.out.symm, rfl⟩
  · subst h
    cases neg
    all_goals
      go_enter Tryd.func92, Tryd.ntmps92
      go_wp2
      all_goals go_ret2
      all_goals exact ⟨ret_ib (by simp [jp32, jk, jv]) (by simp [jk]), rfl⟩
  · have hn : (mag == 0) = false := by simp; omega
    by_cases f1 : 2000 < exp
    · have hg := jgood_far32 h hm.2 (exp := exp) (by omega)
      have hk : Hid (jk 23 255 (-149) mag exp = false) := by unfold Hid jk; rw [if_neg (by omega), if_neg (by omega), hg]
      have hv : Hid (jp32 neg mag exp = 0) := by unfold Hid jp32; rw [hk.out]; simp [jv, hg]
      clear hg
      cases neg
      all_goals
        go_enter Tryd.func92, Tryd.ntmps92
        go_wp2
        go_ret2
        exact ⟨ret_ib hv.out.symm hk.out.symm, rfl⟩
    · by_cases f2 : exp < -2000
      · have hg := jgood_near32 h hm.2 f2
        have hk : Hid (jk 23 255 (-149) mag exp = false) := by unfold Hid jk; rw [if_neg (by omega), if_neg (by omega), hg]
        have hv : Hid (jp32 neg mag exp = 0) := by unfold Hid jp32; rw [hk.out]; simp [jv, hg]
        clear hg
        cases neg
        all_goals
          go_enter Tryd.func92, Tryd.ntmps92
          go_wp2
          go_ret2
          exact ⟨ret_ib hv.out.symm hk.out.symm, rfl⟩
      · have hgs := jgood_sk32 mag exp
        by_cases g1 : sk 23 (-149) mag exp = true
        · by_cases g2 : se 23 (-149) mag exp ≤ 104
          · obtain ⟨b1, b2, b3, b4⟩ := jv_sm32 h hm.2 g1 g2
            have hk : Hid (jk 23 255 (-149) mag exp = true) := by unfold Hid jk; rw [if_neg (by omega), if_neg (by omega), hgs, g1]; simpa using g2
            have hv : Hid (jv 23 255 (-149) mag exp = (if sm 23 (-149) mag exp < 8388608 then sm 23 (-149) mag exp else (se 23 (-149) mag exp + 150) * 8388608 + sm 23 (-149) mag exp - 8388608)) := b4
            clear b4 hgs
            by_cases g3 : sm 23 (-149) mag exp < 8388608
            all_goals
              cases neg
              all_goals
                go_enter Tryd.func92, Tryd.ntmps92
                go_wp2_with (go_at_call 59; refine (shifted32 mag exp _ h hm.2 (by omega) (by omega)).mono ?_; rintro e w1 ⟨rfl, rfl⟩)
                go_ret2
                refine ⟨ret_ib ?_ hk.out.symm, rfl⟩
                unfold jp32
                rw [hk.out, hv.out]
                simp
                omega
          · have hg : jgood 23 255 (-149) mag exp = false := by rw [hgs, g1]; simpa using g2
            have hk : Hid (jk 23 255 (-149) mag exp = false) := by unfold Hid jk; rw [if_neg (by omega), if_neg (by omega), hg]
            have hv : Hid (jp32 neg mag exp = 0) := by unfold Hid jp32; rw [hk.out]; simp [jv, hg]
            clear hg hgs
            cases neg
            all_goals
              go_enter Tryd.func92, Tryd.ntmps92
              go_wp2_with (go_at_call 59; refine (shifted32 mag exp _ h hm.2 (by omega) (by omega)).mono ?_; rintro e w1 ⟨rfl, rfl⟩)
              go_ret2
              exact ⟨ret_ib hv.out.symm hk.out.symm, rfl⟩
        · have g1' : sk 23 (-149) mag exp = false := by simpa using g1
          have hg : jgood 23 255 (-149) mag exp = false := by rw [hgs, g1']; rfl
          have hk : Hid (jk 23 255 (-149) mag exp = false) := by unfold Hid jk; rw [if_neg (by omega), if_neg (by omega), hg]
          have hv : Hid (jp32 neg mag exp = 0) := by unfold Hid jp32; rw [hk.out]; simp [jv, hg]
          clear hg hgs g1
          cases neg
          all_goals
            go_enter Tryd.func92, Tryd.ntmps92
            go_wp2_with (go_at_call 59; refine (shifted32 mag exp _ h hm.2 (by omega) (by omega)).mono ?_; rintro e w1 ⟨rfl, rfl⟩)
            go_ret2
            exact ⟨ret_ib hv.out.symm hk.out.symm, rfl⟩
end Go.Proofs.YtheiinclgfgneaaDoor

/-
  Package plumbref3: Norm, by its contract: the one form of a number, however long.
-/
namespace Go.Proofs.YtheiinclgfgneaaDoor
open Go Go.RowKit Go.Proofs.YtheiinclgfgneaaDoor.M
set_option linter.unusedSimpArgs false
set_option linter.unusedVariables false

set_option maxRecDepth 100000 in
set_option maxHeartbeats 1000000 in
theorem rnorm_any (ng : Bool) (ao : Option Addr) (n cap : Nat) (d : Nat → Int) (e : Int) (w : World) (h : Row w ao n cap d) (hd : Dig d n) (hn : n ≤ 40000) (he0 : -4194304 ≤ e) (he1 : e ≤ 4194304) :
    Calls Tryd.prog 48 #[.bool ng, .slice ao n cap, .int .i64 e] w fun r w' => ∃ v, r = .returned v ∧ DAns w w' (sg ng (val d n) * pw e) v := by
  by_cases h0 : val d n = 0
  · rw [h0, sg_zero, Int.zero_mul]
    go_enter Tryd.func48, Tryd.ntmps48
    go_wp2_with fail
    refine (rlow_any _ _ _ _ _ (h.keeps (bel_alloc _ _)) hd (by omega)).mono ?_
    rintro r w1 ⟨l, rfl, hl, rfl⟩
    have hl1 : l = -1 := by
      rcases hl with ⟨_, h1⟩ | ⟨k, _, m, hm⟩
      · exact h1
      · exfalso
        rw [h0] at hm
        rcases Int.mul_eq_zero.1 hm.symm with x | x
        · omega
        · have := two_pos k; omega
    subst hl1
    go_wp2
    refine bodyPost_ret (v := zeroV) (by simp [results, Tryd.results48, go_sem, zeroV]) rfl ⟨_, rfl, ?_⟩
    exact DAns.zero (bel_alloc _ _)
  · have hp : 0 < val d n := by have := val_nonneg hd; omega
    go_enter Tryd.func48, Tryd.ntmps48
    go_wp2_with fail
    refine (rlow_any _ _ _ _ _ (h.keeps (bel_alloc _ _)) hd (by omega)).mono ?_
    rintro r w1 ⟨l, rfl, hl, rfl⟩
    have hl2 : ∃ k : Nat, l = k ∧ IsLow (val d n) k := by
      rcases hl with ⟨h1, _⟩ | h1
      · omega
      · exact h1
    obtain ⟨k, rfl, hk⟩ := hl2
    have hkn : k < 30 * n := by
      have h1 := val_lt hd
      rw [P_two] at h1
      obtain ⟨a, b, c⟩ := isLow_odd hk hp
      have h2 : (1 : Int) * 2 ^ k ≤ val d n / 2 ^ k * 2 ^ k := Int.mul_le_mul_of_nonneg_right (by omega) (Int.le_of_lt (two_pos k))
      exact two_lt_iff (by omega)
    have hy := Dy.of ng hk hp he0
    have HY : Hid (Dy (sg ng (val d n) * pw e) ng (val d n / 2 ^ k) (e + k)) := hy
    clear hy hl hk
    go_wp2_with fail
    refine (rshr_any _ _ _ k d _ (h.keeps (bel_alloc _ _)) hd (by omega) (by omega)).mono ?_
    rintro r w2 ⟨v, rfl, hA⟩
    obtain ⟨so, sn, sc, rfl⟩ := hA.num.shape
    have q0 := (hA.below.block w.heap.size (by rw [size1]; omega)).trans (heap_a1 _ _)
    have x0 := blkC q0 0 rfl
    have x1 := blkC q0 1 rfl
    have x2 := blkC q0 2 rfl
    have z0 := blkF q0 0
    have z1 := blkF q0 1
    have z2 := blkF q0 2
    go_wp2
    refine bodyPost_ret (v := .agg #[.bool ng, .slice so sn sc, .int .i64 (e + k)]) (by simp [results, Tryd.results48, go_sem, x0, x1, x2]) rfl ⟨_, rfl, ?_⟩
    exact ⟨_, _, _, _, rfl, HY.out, ans_res (g := w.heap.size) hA (bel_alloc _ _) (Nat.le_refl _) (by rw [size1]; omega) _ _ _⟩
end Go.Proofs.YtheiinclgfgneaaDoor

/-
  Package plumbref3: Valid, Neg, Sign, by contracts.
-/
namespace Go.Proofs.YtheiinclgfgneaaDoor
open Go Go.RowKit Go.Proofs.YtheiinclgfgneaaDoor.M
set_option linter.unusedSimpArgs false
set_option linter.unusedVariables false

theorem tmod_two (x : Int) (h : 0 ≤ x) : x.tmod 2 = x % 2 := Int.tmod_eq_emod_of_nonneg h
end Go.Proofs.YtheiinclgfgneaaDoor

/-
  Package plumbref3: Neg, Answer, Make, Scale, by contracts.
-/
namespace Go.Proofs.YtheiinclgfgneaaDoor
open Go Go.RowKit Go.Proofs.YtheiinclgfgneaaDoor.M
set_option linter.unusedSimpArgs false
set_option linter.unusedVariables false

/-- The other sign; 0 has none. -/
def NumR.opp (x : NumR) : NumR := ⟨if x.n = 0 then x.ng else !x.ng, x.ao, x.n, x.cap, x.d, x.e⟩
set_option maxRecDepth 100000 in
theorem rneg3_any (x : NumR) (w : World) (hm : x.n ≤ 9223372036854775807) :
    Calls Tryd.prog 77 #[x.v] w fun r w' => r = .returned x.opp.v ∧ Below w.heap.size w w' := by
  obtain ⟨ng, ao, n, cap, d, e⟩ := x
  unfold NumR.v NumR.opp
  simp only at *
  by_cases h0 : n = 0
  · subst h0
    go_enter Tryd.func77, Tryd.ntmps77
    go_wp2
    refine bodyPost_ret (v := .agg #[.bool ng, .slice ao 0 cap, .int .i64 e]) (by simp [results, Tryd.results77, go_sem]) rfl ⟨rfl, ?_⟩
    exact bel_alloc2 _ _ _
  · have hn0 : (0 : Int) < n := by omega
    rw [if_neg h0]
    go_enter Tryd.func77, Tryd.ntmps77
    go_wp2
    refine bodyPost_ret (v := .agg #[.bool (!ng), .slice ao n cap, .int .i64 e]) (by simp [results, Tryd.results77, go_sem]) rfl ⟨rfl, ?_⟩
    exact bel_alloc2 _ _ _
theorem okR_of {V : Int} {ng : Bool} {ao : Option Addr} {n cap : Nat} {d : Nat → Int} {e : Int} (hy : Dy V ng (val d n) e) (hN : Nrm d n) (ok : Dok V) : okR ⟨ng, ao, n, cap, d, e⟩ = true := by
  obtain ⟨o1, o2, o3⟩ := hy.ok.1 ok
  refine decide_eq_true ?_
  by_cases h0 : n = 0
  · left
    have hz : val d n = 0 := by rw [h0]; rfl
    rcases hy.form with ⟨_, f2, f3⟩ | ⟨f1, _⟩
    · exact ⟨h0, f2, f3⟩
    · omega
  · right
    have hp := val_pos hN (show 0 < n by omega)
    rcases hy.form with ⟨f1, _⟩ | ⟨_, f2⟩
    · omega
    · refine ⟨by show 0 < n; omega, ⟨?_, hN⟩, ?_, o2, o3⟩
      · show n ≤ 2000
        by_cases h2 : n ≤ 2000
        · exact h2
        · have a := val_top hN.1 (by omega) hN.2
          have b := P_le (show 2000 ≤ n - 1 by omega)
          omega
      · obtain ⟨k, hk⟩ : ∃ k, n = 1 + k := ⟨n - 1, by omega⟩
        have := val_split d 1 k
        rw [← hk] at this
        rw [this, show val d 1 = d 0 by show 0 + d 0 * 1 = _; omega, show P 1 = 1073741824 from rfl] at f2
        show d 0 % 2 = 1
        omega
end Go.Proofs.YtheiinclgfgneaaDoor

/-
  Package plumbref3: Make, Scale, by contracts.
-/
namespace Go.Proofs.YtheiinclgfgneaaDoor
open Go Go.RowKit Go.Proofs.YtheiinclgfgneaaDoor.M
set_option linter.unusedSimpArgs false
set_option linter.unusedVariables false

/-- The document's own answer: a number, or ErrLong. -/
def RFit (w w' : World) (V : Int) (v : Value) (er : Int) : Prop := DFit w w' V v er
theorem RFit.shape {w w' : World} {V er : Int} {v : Value} (h : RFit w w' V v er) : ∃ ng so sn sc e, v = .agg #[.bool ng, .slice so sn sc, .int .i64 e] := by
  exact DFit.shape h
theorem not_dok_low {ng : Bool} {M e : Int} (h : 0 < M) (h1 : M < P 2000) (he0 : -4194304 ≤ e) (he : e < -2000000) : ¬ Dok (sg ng M * pw e) := by
  obtain ⟨l, hl⟩ := isLow_ex h
  have hy := Dy.of ng hl h he0
  obtain ⟨c1, c2, c3⟩ := isLow_odd hl h
  have hl2 : l < 60000 := by
    have h3 : (1 : Int) * 2 ^ l ≤ M / 2 ^ l * 2 ^ l := Int.mul_le_mul_of_nonneg_right (by omega) (Int.le_of_lt (two_pos l))
    rw [c3] at h3
    rw [P_two] at h1
    exact two_lt_iff (by omega)
  intro hk
  have := hy.ok.1 hk
  omega
theorem mk_far {ng : Bool} {M e : Int} (h0 : M ≠ 0) (h1 : 0 ≤ M) (h2 : M < P 2000) (he : 3145728 < e ∨ e < -3145728) : ¬ Dok (mkV ng M e) := by
  unfold mkV
  rw [if_neg h0]
  rcases he with he | he
  · rw [if_neg (by omega)]
    exact not_dok_high (by omega) (by omega)
  · by_cases h : e < -4194304
    · rw [if_pos h]; exact not_dok_one
    · rw [if_neg h]
      exact not_dok_low (by omega) h2 (by omega) (by omega)
end Go.Proofs.YtheiinclgfgneaaDoor

/-
  Package dyadic: Sub, by its contract.
-/
namespace Go.Proofs.YtheiinclgfgneaaDoor
open Go Go.RowKit Go.Proofs.YtheiinclgfgneaaDoor.M
set_option linter.unusedSimpArgs false
set_option linter.unusedVariables false

/-- The number with the other sign (0 too). -/
def NumR.neg (r : NumR) : NumR := ⟨!r.ng, r.ao, r.n, r.cap, r.d, r.e⟩
theorem NumR.neg_V (r : NumR) : r.neg.V = -r.V := by
  show sg (!r.ng) _ * _ = _
  rw [sg_not, Int.neg_mul]; rfl
theorem NumR.neg_sane {r : NumR} (h : Sane r) : Sane r.neg := h
end Go.Proofs.YtheiinclgfgneaaDoor

/-
  Package dyadic: product, Mul, by contracts.
-/
namespace Go.Proofs.YtheiinclgfgneaaDoor
open Go Go.RowKit Go.Proofs.YtheiinclgfgneaaDoor.M
set_option linter.unusedSimpArgs false
set_option linter.unusedVariables false

/-- A product's worth. -/
def mulV (x y : NumR) : Int := sg (x.ng != y.ng) (val x.d x.n * val y.d y.n) * pw (x.e + y.e)
theorem mulV_eq {x y : NumR} (hx : -2097152 ≤ x.e) (hy : -2097152 ≤ y.e) : mulV x y * 2 ^ 4194304 = x.V * y.V := by
  unfold mulV NumR.V
  rw [Int.mul_assoc, ← pw_mul hx hy, ← sg_mul]; grind
end Go.Proofs.YtheiinclgfgneaaDoor

/-
  Package dyadic: Neg, Abs, Sign, Scale, by contracts.
-/
namespace Go.Proofs.YtheiinclgfgneaaDoor
open Go Go.RowKit Go.Proofs.YtheiinclgfgneaaDoor.M
set_option linter.unusedSimpArgs false
set_option linter.unusedVariables false

theorem neg_dy {x : NumR} (h : okR x = true) : Dy (-x.V) (!x.ng && decide (0 < x.n)) (val x.d x.n) x.e := by
  have hd := (okR_dy h).1
  by_cases h0 : 0 < x.n
  · have hv := val_pos (okR_sane h).1 h0
    have := hd.neg hv
    simpa [h0] using this
  · rcases of_decide_eq_true h with ⟨h1, h2, h3⟩ | ⟨h1, _⟩
    · have hv : val x.d x.n = 0 := by rw [h1]; rfl
      have := hd.eq_zero.2 hv
      rw [this, hv, h3]
      simpa [h0] using Dy.zero
    · omega
theorem abs_dy {x : NumR} (h : okR x = true) : Dy (x.V.natAbs : Int) (false && decide (0 < x.n)) (val x.d x.n) x.e := by
  have hd := (okR_dy h).1.abs
  simpa using hd
end Go.Proofs.YtheiinclgfgneaaDoor

/-
  Package dyadic: compare, Cmp, by contracts.
-/
namespace Go.Proofs.YtheiinclgfgneaaDoor
open Go Go.RowKit Go.Proofs.YtheiinclgfgneaaDoor.M
set_option linter.unusedSimpArgs false
set_option linter.unusedVariables false

theorem ord_scale {a b p : Int} (hp : 0 < p) : ord (a * p) (b * p) = ord a b := by
  rcases Int.lt_trichotomy a b with h | h | h
  · rw [ord_lt h, ord_lt (Int.mul_lt_mul_of_pos_right h hp)]
  · rw [ord_eq h, ord_eq (by rw [h])]
  · rw [ord_gt h, ord_gt (Int.mul_lt_mul_of_pos_right h hp)]
/-- What reaches higher is greater. -/
theorem top_lt {a b e f : Int} (ha : 0 < a) (hb : 0 < b) (he : -4194304 ≤ e) (hf : -4194304 ≤ f) (h : e + blen a < f + blen b) : a * pw e < b * pw f := by
  have h1 := blen_lt a
  have h2 := (blen_pos hb)
  have hpe := pw_pos e
  have hpf := pw_pos f
  have c1 : a * pw e < 2 ^ blen a * pw e := Int.mul_lt_mul_of_pos_right h1 hpe
  have c2 : 2 ^ (blen b - 1) * pw f ≤ b * pw f := Int.mul_le_mul_of_nonneg_right h2.2 (Int.le_of_lt hpf)
  have c3 : 2 ^ blen a * pw e ≤ 2 ^ (blen b - 1) * pw f := by
    unfold pw
    rw [← Int.pow_add, ← Int.pow_add]
    exact two_le (by have := h2.1; omega)
  omega
theorem ord_tops {a b e f : Int} (ha : 0 < a) (hb : 0 < b) (he : -4194304 ≤ e) (hf : -4194304 ≤ f) (h : e + blen a ≠ f + blen b) : ord (e + blen a) (f + blen b) = ord (a * pw e) (b * pw f) := by
  rcases Int.lt_or_gt_of_ne h with h1 | h1
  · rw [ord_lt h1, ord_lt (top_lt ha hb he hf h1)]
  · rw [ord_gt h1, ord_gt (top_lt hb ha hf he h1)]
theorem ord_low {a b e f low : Int} (hl : -4194304 ≤ low) (he : low ≤ e) (hf : low ≤ f) : ord (a * 2 ^ (e - low).toNat) (b * 2 ^ (f - low).toNat) = ord (a * pw e) (b * pw f) := by
  rw [pw_sub hl he, pw_sub hl hf, ← Int.mul_assoc, ← Int.mul_assoc, ord_scale (pw_pos _)]
/-- Two numbers' own blocks, behind a call. -/
theorem keep66 {W w' : World} {g h : Nat} {a b c d e f : Value} (hb : Below W.heap.size W w') (hS : (W.cell? ⟨g, 0, none⟩ = some a ∧ W.cell? ⟨g, 1, none⟩ = some b ∧ W.cell? ⟨g, 2, none⟩ = some c) ∧ W.cell? ⟨h, 0, none⟩ = some d ∧ W.cell? ⟨h, 1, none⟩ = some e ∧ W.cell? ⟨h, 2, none⟩ = some f) :
    (w'.cell? ⟨g, 0, none⟩ = some a ∧ w'.cell? ⟨g, 1, none⟩ = some b ∧ w'.cell? ⟨g, 2, none⟩ = some c) ∧ w'.cell? ⟨h, 0, none⟩ = some d ∧ w'.cell? ⟨h, 1, none⟩ = some e ∧ w'.cell? ⟨h, 2, none⟩ = some f :=
  ⟨keepB hS.1 hb, keepB hS.2 hb⟩
theorem ord_three (a b : Int) : ord a b = 1 ∨ ord a b = 0 ∨ ord a b = -1 := by
  rcases Int.lt_trichotomy a b with h | h | h
  · exact .inr (.inr (ord_lt h))
  · exact .inr (.inl (ord_eq h))
  · exact .inl (ord_gt h)
theorem sgn_V {x : NumR} (sx : Sane x) : (sgn x.ng x.n = 0 ∧ x.V = 0 ∧ x.n = 0) ∨ (sgn x.ng x.n = 1 ∧ 0 < x.V ∧ 0 < x.n ∧ x.ng = false) ∨ (sgn x.ng x.n = -1 ∧ x.V < 0 ∧ 0 < x.n ∧ x.ng = true) := by
  by_cases h0 : x.n = 0
  · left
    refine ⟨by simp [sgn, h0], ?_, h0⟩
    show sg x.ng (val x.d x.n) * _ = 0
    rw [h0]
    show sg x.ng 0 * _ = 0
    rw [sg_zero, Int.zero_mul]
  · right
    have hp := Int.mul_pos (val_pos sx.1 (show 0 < x.n by omega)) (pw_pos x.e)
    have hV : x.V = sg x.ng (val x.d x.n) * pw x.e := rfl
    cases hg : x.ng
    · left
      rw [hg] at hV
      exact ⟨by simp [sgn, h0], by rw [hV]; exact hp, by omega, rfl⟩
    · right
      rw [hg] at hV
      refine ⟨by simp [sgn, h0], ?_, by omega, rfl⟩
      rw [hV]
      show -val x.d x.n * pw x.e < 0
      rw [Int.neg_mul]; omega
theorem ord_signs {x y : NumR} (sx : Sane x) (sy : Sane y) (h : sgn x.ng x.n ≠ sgn y.ng y.n) : ord (sgn x.ng x.n) (sgn y.ng y.n) = ord x.V y.V := by
  rcases sgn_V sx with ⟨a, b, _⟩ | ⟨a, b, _⟩ | ⟨a, b, _⟩ <;> rcases sgn_V sy with ⟨c, d, _⟩ | ⟨c, d, _⟩ | ⟨c, d, _⟩ <;> rw [a, c] at h ⊢ <;>
    first
      | exact absurd rfl h
      | (rw [ord_lt (by decide), ord_lt (by omega)])
      | (rw [ord_gt (by decide), ord_gt (by omega)])
theorem ord_neg (a b : Int) : ord (-a) (-b) = -ord a b := by
  rcases Int.lt_trichotomy a b with h | h | h
  · rw [ord_lt h, ord_gt (by omega)]; rfl
  · rw [ord_eq h, ord_eq (by omega)]; rfl
  · rw [ord_gt h, ord_lt (by omega)]
theorem ord_same {x y : NumR} (ox : okR x = true) (oy : okR y = true) (h : sgn x.ng x.n = sgn y.ng y.n) : ((0 < x.n ∧ 0 < y.n) ∨ (x.n = 0 ∧ y.n = 0 ∧ x.e = y.e)) ∧ sgn x.ng x.n * ord (val x.d x.n * pw x.e) (val y.d y.n * pw y.e) = ord x.V y.V := by
  have hV : x.V = sg x.ng (val x.d x.n) * pw x.e := rfl
  have hW : y.V = sg y.ng (val y.d y.n) * pw y.e := rfl
  rcases sgn_V (okR_sane ox) with ⟨a, b, c⟩ | ⟨a, b, c, d⟩ | ⟨a, b, c, d⟩ <;> rcases sgn_V (okR_sane oy) with ⟨a', b', c'⟩ | ⟨a', b', c', d'⟩ | ⟨a', b', c', d'⟩ <;> rw [a, a'] at h <;> first | (exfalso; omega) | skip
  · refine ⟨.inr ⟨c, c', ?_⟩, ?_⟩
    · rcases of_decide_eq_true ox with ⟨_, _, e1⟩ | ⟨e1, _⟩
      · rcases of_decide_eq_true oy with ⟨_, _, e2⟩ | ⟨e2, _⟩
        · omega
        · omega
      · omega
    · rw [a, b, b', Int.zero_mul, ord_eq rfl]
  · refine ⟨.inl ⟨c, c'⟩, ?_⟩
    rw [a, hV, hW, d, d', Int.one_mul]; rfl
  · refine ⟨.inl ⟨c, c'⟩, ?_⟩
    rw [a, hV, hW, d, d']
    show -1 * _ = ord (-val x.d x.n * _) (-val y.d y.n * _)
    rw [Int.neg_mul (val x.d x.n), Int.neg_mul (val y.d y.n), ord_neg]; omega
end Go.Proofs.YtheiinclgfgneaaDoor

/-
  Package dyadic's calls on numbers that are told by their worth.
-/
namespace Go.Proofs.YtheiinclgfgneaaDoor
open Go Go.RowKit Go.Proofs.YtheiinclgfgneaaDoor.M
set_option linter.unusedSimpArgs false
set_option linter.unusedVariables false

/-- A number by its worth, laid open. -/
theorem DNum.open {w : World} {v : Value} {V : Int} (h : DNum w v V) (ok : Dok V) : ∃ x : NumR, v = x.v ∧ Row w x.ao x.n x.cap x.d ∧ okR x = true ∧ x.V = V := by
  obtain ⟨ng, s, m, e, rfl, hy, ao, n, cap, d, rfl, hR, hN, rfl⟩ := h
  refine ⟨⟨ng, ao, n, cap, d, e⟩, rfl, hR, ?_, hy.val.symm⟩
  obtain ⟨o1, o2, o3⟩ := hy.ok.1 ok
  refine decide_eq_true ?_
  by_cases h0 : n = 0
  · left
    have hz : val d n = 0 := by rw [h0]; rfl
    rcases hy.form with ⟨_, f2, f3⟩ | ⟨f1, _⟩
    · exact ⟨h0, f2, f3⟩
    · omega
  · right
    have hp := val_pos hN (show 0 < n by omega)
    rcases hy.form with ⟨f1, _⟩ | ⟨_, f2⟩
    · omega
    · refine ⟨by show 0 < n; omega, ⟨?_, hN⟩, ?_, o2, o3⟩
      · exact Num.len (w := w) (ao := ao) (cap := cap) ⟨_, _, _, _, rfl, hR, hN, rfl⟩ o1
      · obtain ⟨k, hk⟩ : ∃ k, n = 1 + k := ⟨n - 1, by omega⟩
        have := val_split d 1 k
        rw [← hk] at this
        rw [this, show val d 1 = d 0 by show 0 + d 0 * 1 = _; omega, show P 1 = 1073741824 from rfl] at f2
        show d 0 % 2 = 1
        omega
theorem DFit.yes {w w' : World} {V er : Int} {v : Value} (h : DFit w w' V v er) (ok : Dok V) : er = 0 ∧ DAns w w' V v := by
  rcases h.2 with ⟨_, h1, h2⟩ | ⟨hn, _⟩
  · exact ⟨h1, h2⟩
  · exact absurd ok hn
theorem sameB_iff {a b : Nat → Int} {n m : Nat} (ha : Nrm a n) (hb : Nrm b m) : sameB a b n m = decide (val a n = val b m) := by
  by_cases h : val a n = val b m
  · rw [sameB_of ha hb h, decide_eq_true h]
  · rw [decide_eq_false h]
    refine decide_eq_false fun ⟨h1, h2⟩ => h ?_
    subst h1
    exact val_congr h2
end Go.Proofs.YtheiinclgfgneaaDoor

/-
  Package plumblaw3: alive.
-/
namespace Go.Proofs.YtheiinclgfgneaaDoor
open Go Go.RowKit Go.Proofs.YtheiinclgfgneaaDoor.M
set_option linter.unusedSimpArgs false
set_option linter.unusedVariables false

/-- A small number's form. -/
theorem dy_lit (ng : Bool) {m e : Int} (h0 : 0 < m) (h1 : m % 2 = 1) (he : -4194304 ≤ e) : Dy (sg ng m * pw e) ng m e := ⟨rfl, he, .inr ⟨h0, h1⟩⟩
theorem dok_lit {ng : Bool} {m e : Int} (h0 : 0 < m) (h1 : m % 2 = 1) (h2 : m < 1073741824) (he : -1048576 ≤ e) (he1 : e ≤ 1048576) : Dok (sg ng m * pw e) :=
  (dy_lit ng h0 h1 (by omega)).ok.2 ⟨by have := P2000_big2; omega, he, he1⟩
theorem dnum_lit {w : World} {g : Nat} (ng : Bool) {m e : Int} (h0 : 0 < m) (h1 : m % 2 = 1) (h2 : m < 1073741824) (he : -4194304 ≤ e) (hg : w.heap[g]? = some (.cells #[.int .i64 m] 3 (0, 0))) :
    DNum w (.agg #[.bool ng, .slice (some ⟨g, 0, none⟩) 1 1, .int .i64 e]) (sg ng m * pw e) := by
  refine ⟨ng, _, m, e, rfl, dy_lit ng h0 h1 he, _, 1, 1, fun _ => m, rfl, ?_, ⟨fun i _ => by show 0 ≤ m ∧ m < 1073741824; omega, .inr (by show m ≠ 0; omega)⟩, by show 0 + m * 1 = m; omega⟩
  exact ⟨Nat.le_refl _, by omega, fun h => by simp at h, fun _ => ⟨g, 0, rfl, (Array.getElem?_eq_some_iff.1 hg).1, fun i hi => by
    obtain rfl : i = 0 := by omega
    exact blkC hg 0 rfl⟩⟩
theorem pw_step {e k : Int} {l : Nat} (h : -4194304 ≤ e) (hk : k = e + l) : pw k = pw e * 2 ^ l := by rw [hk, pw_add h]
theorem pw_0 : pw 0 = pw (-1) * 2 := (pw_step (e := -1) (l := 1) (by omega) (by omega)).trans (by rw [Int.pow_succ, Int.pow_zero, Int.one_mul])
theorem live_x : mkV true 6 (-1) = sg true 3 * pw 0 := by
  unfold mkV
  rw [if_neg (by decide), if_neg (by decide), pw_0]
  generalize pw (-1) = p
  show -6 * p = -3 * (p * 2)
  omega
theorem live_y : pok 4609434218613702656 = true ∧ sg (pneg 4609434218613702656) (pmag 4609434218613702656) * pw (pexp 4609434218613702656) = sg false 3 * pw (-1) := by
  refine ⟨by decide, ?_⟩
  rw [show pneg 4609434218613702656 = false by decide, show pmag 4609434218613702656 = 6755399441055744 by decide, show pexp 4609434218613702656 = -52 by decide, pw_step (e := -52) (k := -1) (l := 51) (by omega) (by omega)]
  generalize pw (-52) = p
  show 6755399441055744 * p = 3 * (p * 2 ^ 51)
  rw [show (2 : Int) ^ 51 = 2251799813685248 by decide]
  omega
theorem live_s : sg true 3 * pw 0 + sg false 3 * pw (-1) = sg true 3 * pw (-1) := by
  rw [pw_0]
  generalize pw (-1) = p
  show -3 * (p * 2) + 3 * p = -3 * p
  omega
end Go.Proofs.YtheiinclgfgneaaDoor

/-
  Package plumblaw3: Norm, num, by contracts: a valid number of any one, not too great.
-/
namespace Go.Proofs.YtheiinclgfgneaaDoor
open Go Go.RowKit Go.Proofs.YtheiinclgfgneaaDoor.M
set_option linter.unusedSimpArgs false
set_option linter.unusedVariables false

end Go.Proofs.YtheiinclgfgneaaDoor

/-
  Plain mathematics: numbers that are not too great have a valid form. No Go text in sight.
-/
namespace Go.Proofs.YtheiinclgfgneaaDoor
open Go Go.RowKit Go.Proofs.YtheiinclgfgneaaDoor.M
set_option linter.unusedSimpArgs false
set_option linter.unusedVariables false

/-- V is a multiple of 2^-B, below 2^B, signs aside. -/
def Bd (B : Nat) (V : Int) : Prop := ∃ m : Int, V = m * pw (-(B : Int)) ∧ -(2 ^ (2 * B)) < m ∧ m < 2 ^ (2 * B)
theorem Bd.ok {B : Nat} {V : Int} (h : Bd B V) (hB : B ≤ 29000) : Dok V := by
  obtain ⟨m, rfl, h1, h2⟩ := h
  by_cases h0 : m = 0
  · rw [h0, Int.zero_mul]; exact dok_zero
  · have key : ∀ (ng : Bool) (M : Int), 0 < M → M < 2 ^ (2 * B) → Dok (sg ng M * pw (-(B : Int))) := fun ng M hM hlt => by
      obtain ⟨l, hl⟩ := isLow_ex hM
      have hy := Dy.of ng hl hM (show -4194304 ≤ -(B : Int) by omega)
      obtain ⟨c1, c2, c3⟩ := isLow_odd hl hM
      have hl2 : l < 2 * B := by
        have h3 : (1 : Int) * 2 ^ l ≤ M / 2 ^ l * 2 ^ l := Int.mul_le_mul_of_nonneg_right (by omega) (Int.le_of_lt (two_pos l))
        rw [c3] at h3
        exact two_lt_iff (by omega)
      refine hy.ok.2 ⟨?_, by omega, by omega⟩
      have h4 : M / 2 ^ l ≤ M := Int.ediv_le_self _ (by omega)
      have h5 : (2 : Int) ^ (2 * B) ≤ 2 ^ (30 * 2000) := two_le (by omega)
      rw [P_two]
      omega
    by_cases hp : 0 < m
    · exact key false m hp h2
    · have := key true (-m) (by omega) (by omega)
      rwa [show sg true (-m) = m by simp [sg]] at this
theorem Bd.up {B C : Nat} {V : Int} (h : Bd B V) (hBC : B ≤ C) (hC : C ≤ 4194304) : Bd C V := by
  obtain ⟨m, rfl, h1, h2⟩ := h
  have hp := two_pos (C - B)
  have e : pw (-(B : Int)) = pw (-(C : Int)) * 2 ^ (C - B) := by
    rw [← pw_add (by omega)]; congr 1; omega
  have hle : (2 : Int) ^ (2 * B) * 2 ^ (C - B) ≤ 2 ^ (2 * C) := by rw [← Int.pow_add]; exact two_le (by omega)
  refine ⟨m * 2 ^ (C - B), by rw [e]; grind, ?_, ?_⟩
  · have : -(2 ^ (2 * B)) * 2 ^ (C - B) < m * 2 ^ (C - B) := Int.mul_lt_mul_of_pos_right h1 hp
    rw [Int.neg_mul] at this
    omega
  · have := Int.mul_lt_mul_of_pos_right h2 hp
    omega
theorem Bd.add {B : Nat} {V W : Int} (h : Bd B V) (k : Bd B W) (hB : B < 4194304) : Bd (B + 1) (V + W) := by
  obtain ⟨m, rfl, h1, h2⟩ := h
  obtain ⟨n, rfl, k1, k2⟩ := k
  have e : pw (-(B : Int)) = pw (-((B + 1 : Nat) : Int)) * 2 := by
    have := pw_add (e := -((B + 1 : Nat) : Int)) (by omega) 1
    rw [Int.pow_succ, Int.pow_zero, Int.one_mul] at this
    rw [← this]; congr 1; omega
  have e2 : (2 : Int) ^ (2 * (B + 1)) = 2 ^ (2 * B) * 4 := by rw [show 2 * (B + 1) = 2 * B + 2 by omega, Int.pow_add]; rfl
  refine ⟨2 * (m + n), by rw [e]; grind, ?_, ?_⟩ <;> rw [e2] <;> omega
theorem Bd.neg {B : Nat} {V : Int} (h : Bd B V) : Bd B (-V) := by
  obtain ⟨m, rfl, h1, h2⟩ := h
  exact ⟨-m, by rw [Int.neg_mul], by omega, by omega⟩
theorem Bd.mul {B : Nat} {V W U : Int} (h : Bd B V) (k : Bd B W) (hU : U * 2 ^ 4194304 = V * W) (hB : B ≤ 1000000) : Bd (2 * B) U := by
  obtain ⟨m, rfl, h1, h2⟩ := h
  obtain ⟨n, rfl, k1, k2⟩ := k
  have e : U = m * n * pw (-((2 * B : Nat) : Int)) := by
    refine scale_inj ?_
    rw [hU, Int.mul_assoc (m * n), show -((2 * B : Nat) : Int) = -(B : Int) + -(B : Int) by omega, ← pw_mul (by omega) (by omega)]; grind
  refine ⟨m * n, e, ?_, ?_⟩
  all_goals
    have hab : (m * n).natAbs < ((2 : Int) ^ (2 * (2 * B))).natAbs := by
      rw [Int.natAbs_mul, show 2 * (2 * B) = 2 * B + 2 * B by omega, Int.pow_add, Int.natAbs_mul]
      exact Nat.mul_lt_mul'' (by have := two_pos (2 * B); omega) (by have := two_pos (2 * B); omega)
    have := two_pos (2 * (2 * B))
    omega
theorem bd_num {ng : Bool} {M e : Int} (h0 : 0 ≤ M) (h1 : M < P 30) (e0 : -3000 < e) (e1 : e < 3000) : Bd 4000 (sg ng M * pw e) := by
  have hs : pw e = pw (-((4000 : Nat) : Int)) * 2 ^ (e + 4000).toNat := by
    rw [← pw_add (by omega)]; congr 1; omega
  have hp := two_pos (e + 4000).toNat
  have hlt : M * 2 ^ (e + 4000).toNat < 2 ^ (2 * 4000) := by
    have a : M * 2 ^ (e + 4000).toNat < P 30 * 2 ^ (e + 4000).toNat := Int.mul_lt_mul_of_pos_right h1 hp
    rw [P_two, ← Int.pow_add] at a
    have b : (2 : Int) ^ (30 * 30 + (e + 4000).toNat) ≤ 2 ^ (2 * 4000) := two_le (by omega)
    omega
  have hn : 0 ≤ M * 2 ^ (e + 4000).toNat := Int.mul_nonneg h0 (Int.le_of_lt hp)
  refine ⟨sg ng (M * 2 ^ (e + 4000).toNat), by rw [hs, sg_sgn, sg_sgn]; grind, ?_, ?_⟩
  all_goals
    generalize M * 2 ^ (e + 4000).toNat = X at *
    generalize (2 : Int) ^ (2 * 4000) = T at *
    cases ng <;> simp only [sg] <;> simp <;> omega
end Go.Proofs.YtheiinclgfgneaaDoor
