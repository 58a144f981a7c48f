/-
  Parts of the proof, one behind another.
-/
import Derived.Test.YtmbajngbiefilaaGreatDoorPart6
import Derived.Test.YtmbajngbiefilaaGreatDoorPart11
import Derived.Test.YtmbajngbiefilaaGreatDoorPart7
import Derived.Test.YtmbajngbiefilaaGreatDoorPart2
import Derived.Deep.LoopGhost
import Derived.Test.YtmbajngbiefilaaGreatDoorPart4
/-
  Package nat's calls that take one list and a number: Int, Bit at every number; what they answer on no number and on a negative one.
-/
namespace Go.Proofs.YtmbajngbiefilaaGreatDoor
open Go Go.RowKit Go.Proofs.YtmbajngbiefilaaGreatDoor.M
set_option linter.unusedSimpArgs false
set_option linter.unusedVariables false

/-- A bit, at every int. -/
def bitI (A n : Int) : Bool := if n < 0 then false else bitB A n.toNat
theorem bitI_neg {A n : Int} (h : n < 0) : bitI A n = false := by simp [bitI, h]
theorem bitI_nat (A : Int) (i : Nat) : bitI A i = bitB A i := by simp [bitI]
theorem bitI_big {A n : Int} (h0 : 0 ≤ A) (h : (blen A : Int) ≤ n) : bitI A n = false := by
  unfold bitI
  split
  · rfl
  · exact bit_high h0 (by omega)
theorem blen60 {A : Int} (hA : A < P 2000) : blen A ≤ 60000 := blen_le (by rw [← P2000_two]; exact hA)
set_option maxRecDepth 100000 in
theorem bit_all {w : World} {x : Value} {A : Int} (hx : Num w x A) (hA : A < P 2000) (n : Int) (hn : rng n) :
    Calls Tryz.prog 17 #[x, .int .i64 n] w fun e w' => e = .returned (.bool (bitI A n)) ∧ w' = w := by
  by_cases h0 : n < 0
  · obtain ⟨ao, t, ca, d, rfl, hR, h2, rfl⟩ := hx
    have ok := Num.ok h2 hA
    have HV : Hid (bitI (val d t) n = false) := bitI_neg h0
    clear hA
    go_enter Tryz.func17, Tryz.ntmps17
    go_wp2_with fail
    refine (valid_any _ _ _ _ _ hR).mono ?_
    rintro e w' ⟨rfl, rfl⟩
    go_wp2
    go_ret
    exact ⟨ret_bool HV.out.symm, rfl⟩
  · by_cases h1 : n ≤ 1000000
    · obtain ⟨i, rfl⟩ : ∃ i : Nat, n = i := ⟨n.toNat, by omega⟩
      rw [bitI_nat]
      exact bit_num hx hA i (by omega)
    · have A0 := hx.nonneg
      have hb := blen60 hA
      obtain ⟨ao, t, ca, d, rfl, hR, h2, rfl⟩ := hx
      have ok := Num.ok h2 hA
      have hn2 := (okB_out ok).1
      have HV : Hid (bitI (val d t) n = false) := bitI_big A0 (by omega)
      have hge : ((blen (val d t) : Nat) : Int) ≤ n := by omega
      clear hA
      go_enter Tryz.func17, Tryz.ntmps17
      go_wp2_with fail
      refine (valid_any _ _ _ _ _ hR).mono ?_
      rintro e w' ⟨rfl, rfl⟩
      go_wp2_with fail
      refine (bitLength_any _ _ _ _ _ hR h2 (by omega)).mono ?_
      rintro e w' ⟨rfl, rfl⟩
      go_wp2
      go_ret
      exact ⟨ret_bool HV.out.symm, rfl⟩
set_option maxRecDepth 100000 in
theorem rbit_all {w : World} {x : Value} {A : Int} (hx : Num w x A) (hA : A < P 2000) (n : Int) (hn : rng n) :
    Calls Tryz.prog 18 #[x, .int .i64 n] w fun e w' => e = .returned (.bool (bitI A n)) ∧ w' = w := by
  by_cases h0 : n < 0
  · obtain ⟨ao, t, ca, d, rfl, hR, h2, rfl⟩ := hx
    have HV : Hid (bitI (val d t) n = false) := bitI_neg h0
    clear hA
    go_enter Tryz.func18, Tryz.ntmps18
    go_wp2
    go_ret
    exact ⟨ret_bool HV.out.symm, rfl⟩
  · by_cases h1 : n ≤ 1000000
    · obtain ⟨i, rfl⟩ : ∃ i : Nat, n = i := ⟨n.toNat, by omega⟩
      rw [bitI_nat]
      obtain ⟨ao, t, ca, rfl⟩ := hx.shape
      have ht := hx.len hA
      obtain ⟨ao', t', ca', d, e, hR, h2, rfl⟩ := hx
      simp only [Value.slice.injEq] at e
      obtain ⟨rfl, rfl, rfl⟩ := e
      exact rbit_any _ _ _ _ _ hR h2 (by omega) i (by omega)
    · have A0 := hx.nonneg
      have hb := blen60 hA
      obtain ⟨ao, t, ca, rfl⟩ := hx.shape
      have ht := hx.len hA
      obtain ⟨ao', t', ca', d, e, hR, h2, rfl⟩ := hx
      simp only [Value.slice.injEq] at e
      obtain ⟨rfl, rfl, rfl⟩ := e
      have HV : Hid (bitI (val d t) n = false) := bitI_big A0 (by omega)
      have hq : (t : Int) ≤ n / 30 := by omega
      have hwr : wrap64 (n.tdiv 30) = n / 30 := by
        unfold rng at hn
        rw [Int.tdiv_eq_ediv_of_nonneg (by omega)]
        exact IntWalk.wrap64_in _ ⟨by omega, by omega⟩
      have hl := hR.le
      have hm := hR.max
      clear hA
      go_enter Tryz.func18, Tryz.ntmps18
      go_wp2
      go_ret
      exact ⟨ret_bool HV.out.symm, rfl⟩
theorem int_bad (ao : Option Addr) (n ca : Nat) (a : Nat → Int) (w : World) (h : Row w ao n ca a) (hbad : okB a n = false) :
    Calls Tryz.prog 16 #[.slice ao n ca] w fun e w' => e = .returned (.tuple #[.int .i64 0, .bool false]) ∧ w' = w := by
  go_enter Tryz.func16, Tryz.ntmps16
  go_wp2_with fail
  refine (valid_any _ _ _ _ _ h).mono ?_
  rintro e w' ⟨rfl, rfl⟩
  go_wp2
  go_ret2
  exact ⟨rfl, rfl⟩
theorem bits_bad (ao : Option Addr) (n ca : Nat) (a : Nat → Int) (w : World) (h : Row w ao n ca a) (hbad : okB a n = false) :
    Calls Tryz.prog 13 #[.slice ao n ca] w fun e w' => e = .returned (.int .i64 (-1)) ∧ w' = w := by
  go_enter Tryz.func13, Tryz.ntmps13
  go_wp2_with fail
  refine (valid_any _ _ _ _ _ h).mono ?_
  rintro e w' ⟨rfl, rfl⟩
  go_wp2
  go_ret
  exact ⟨rfl, rfl⟩
theorem low_bad (ao : Option Addr) (n ca : Nat) (a : Nat → Int) (w : World) (h : Row w ao n ca a) (hbad : okB a n = false) :
    Calls Tryz.prog 24 #[.slice ao n ca] w fun e w' => e = .returned (.int .i64 (-1)) ∧ w' = w := by
  go_enter Tryz.func24, Tryz.ntmps24
  go_wp2_with fail
  refine (valid_any _ _ _ _ _ h).mono ?_
  rintro e w' ⟨rfl, rfl⟩
  go_wp2
  go_ret
  exact ⟨rfl, rfl⟩
theorem bit_bad (ao : Option Addr) (n ca : Nat) (a : Nat → Int) (k : Int) (w : World) (h : Row w ao n ca a) (hbad : okB a n = false) :
    Calls Tryz.prog 17 #[.slice ao n ca, .int .i64 k] w fun e w' => e = .returned (.bool false) ∧ w' = w := by
  go_enter Tryz.func17, Tryz.ntmps17
  go_wp2_with fail
  refine (valid_any _ _ _ _ _ h).mono ?_
  rintro e w' ⟨rfl, rfl⟩
  go_wp2
  go_ret
  exact ⟨rfl, rfl⟩
theorem shl_bad (ao : Option Addr) (n ca : Nat) (a : Nat → Int) (k : Int) (w : World) (h : Row w ao n ca a) (hbad : okB a n = false) :
    Calls Tryz.prog 19 #[.slice ao n ca, .int .i64 k] w fun e w' => e = .returned (.tuple #[.slice none 0 0, .int .i64 11]) ∧ w' = w := by
  go_enter Tryz.func19, Tryz.ntmps19
  go_wp2_with fail
  refine (valid_any _ _ _ _ _ h).mono ?_
  rintro e w' ⟨rfl, rfl⟩
  go_wp2
  go_ret2
  exact ⟨rfl, rfl⟩
theorem shr_bad (ao : Option Addr) (n ca : Nat) (a : Nat → Int) (k : Int) (w : World) (h : Row w ao n ca a) (hbad : okB a n = false) :
    Calls Tryz.prog 20 #[.slice ao n ca, .int .i64 k] w fun e w' => e = .returned (.tuple #[.slice none 0 0, .int .i64 11]) ∧ w' = w := by
  go_enter Tryz.func20, Tryz.ntmps20
  go_wp2_with fail
  refine (valid_any _ _ _ _ _ h).mono ?_
  rintro e w' ⟨rfl, rfl⟩
  go_wp2
  go_ret2
  exact ⟨rfl, rfl⟩
theorem pow_bad (ao : Option Addr) (n ca : Nat) (a : Nat → Int) (k : Int) (w : World) (h : Row w ao n ca a) (hbad : okB a n = false) :
    Calls Tryz.prog 21 #[.slice ao n ca, .int .i64 k] w fun e w' => e = .returned (.tuple #[.slice none 0 0, .int .i64 11]) ∧ w' = w := by
  go_enter Tryz.func21, Tryz.ntmps21
  go_wp2_with fail
  refine (valid_any _ _ _ _ _ h).mono ?_
  rintro e w' ⟨rfl, rfl⟩
  go_wp2
  go_ret2
  exact ⟨rfl, rfl⟩
theorem root_bad (ao : Option Addr) (n ca : Nat) (a : Nat → Int) (w : World) (h : Row w ao n ca a) (hbad : okB a n = false) :
    Calls Tryz.prog 22 #[.slice ao n ca] w fun e w' => e = .returned (.tuple #[.slice none 0 0, .slice none 0 0, .int .i64 11]) ∧ w' = w := by
  go_enter Tryz.func22, Tryz.ntmps22
  go_wp2_with fail
  refine (valid_any _ _ _ _ _ h).mono ?_
  rintro e w' ⟨rfl, rfl⟩
  go_wp2
  go_ret3
  exact ⟨rfl, rfl⟩
theorem text_bad (ao : Option Addr) (n ca : Nat) (a : Nat → Int) (w : World) (h : Row w ao n ca a) (hbad : okB a n = false) :
    Calls Tryz.prog 23 #[.slice ao n ca] w fun e w' => e = .returned (.tuple #[.string ⟨#[]⟩, .int .i64 11]) ∧ w' = w := by
  go_enter Tryz.func23, Tryz.ntmps23
  go_wp2_with fail
  refine (valid_any _ _ _ _ _ h).mono ?_
  rintro e w' ⟨rfl, rfl⟩
  go_wp2
  go_ret2
  exact ⟨rfl, rfl⟩
theorem shl_neg (ao : Option Addr) (n ca : Nat) (a : Nat → Int) (k : Int) (w : World) (h : Row w ao n ca a) (ok : okB a n = true) (hk : k < 0) :
    Calls Tryz.prog 19 #[.slice ao n ca, .int .i64 k] w fun e w' => e = .returned (.tuple #[.slice none 0 0, .int .i64 1]) ∧ w' = w := by
  go_enter Tryz.func19, Tryz.ntmps19
  go_wp2_with fail
  refine (valid_any _ _ _ _ _ h).mono ?_
  rintro e w' ⟨rfl, rfl⟩
  go_wp2
  go_ret2
  exact ⟨rfl, rfl⟩
theorem shr_neg (ao : Option Addr) (n ca : Nat) (a : Nat → Int) (k : Int) (w : World) (h : Row w ao n ca a) (ok : okB a n = true) (hk : k < 0) :
    Calls Tryz.prog 20 #[.slice ao n ca, .int .i64 k] w fun e w' => e = .returned (.tuple #[.slice none 0 0, .int .i64 1]) ∧ w' = w := by
  go_enter Tryz.func20, Tryz.ntmps20
  go_wp2_with fail
  refine (valid_any _ _ _ _ _ h).mono ?_
  rintro e w' ⟨rfl, rfl⟩
  go_wp2
  go_ret2
  exact ⟨rfl, rfl⟩
theorem pow_neg (ao : Option Addr) (n ca : Nat) (a : Nat → Int) (k : Int) (w : World) (h : Row w ao n ca a) (ok : okB a n = true) (hk : k < 0) :
    Calls Tryz.prog 21 #[.slice ao n ca, .int .i64 k] w fun e w' => e = .returned (.tuple #[.slice none 0 0, .int .i64 1]) ∧ w' = w := by
  go_enter Tryz.func21, Tryz.ntmps21
  go_wp2_with fail
  refine (valid_any _ _ _ _ _ h).mono ?_
  rintro e w' ⟨rfl, rfl⟩
  go_wp2
  go_ret2
  exact ⟨rfl, rfl⟩
/-- The int of a number, and whether it is one. -/
def intV (A : Int) : Int := if blen A ≤ 63 then A else 0
theorem int_num {w : World} {x : Value} {A : Int} (hx : Num w x A) (hA : A < P 2000) :
    Calls Tryz.prog 16 #[x] w fun e w' => e = .returned (.tuple #[.int .i64 (intV A), .bool (decide (blen A ≤ 63))]) ∧ w' = w := by
  have A0 := hx.nonneg
  obtain ⟨ao, t, ca, rfl⟩ := hx.shape
  have hx0 := hx
  obtain ⟨ao', t', ca', d, e, hR, h2, rfl⟩ := hx
  simp only [Value.slice.injEq] at e
  obtain ⟨rfl, rfl, rfl⟩ := e
  have ok := Num.ok h2 hA
  have hn2 := (okB_out ok).1
  clear hA
  by_cases hb : blen (val d t) ≤ 63
  · have h63 : val d t < 9223372036854775808 := Int.lt_of_lt_of_le (blen_lt _) (Int.le_trans (two_le hb) (by decide))
    have h3 : t ≤ 3 := hx0.len (k := 3) (Int.lt_of_lt_of_le h63 (by decide))
    have HV : Hid (intV (val d t) = val d t) := by show _ = _; simp [intV, hb]
    have hbi : ((blen (val d t) : Nat) : Int) ≤ 63 := by omega
    have HS := small_any ao t ca d w hR h2.1 h3 h63
    have HS' : Hid (Calls Tryz.prog 51 #[.slice ao t ca] w fun e w' => e = .returned (.int .i64 (val d t)) ∧ w' = w) := HS
    clear HS h63 hx0
    go_enter Tryz.func16, Tryz.ntmps16
    go_wp2_with fail
    refine (valid_any _ _ _ _ _ hR).mono ?_
    rintro e w' ⟨rfl, rfl⟩
    go_wp2_with fail
    refine (bitLength_any _ _ _ _ _ hR h2 (by omega)).mono ?_
    rintro e w' ⟨rfl, rfl⟩
    go_wp2_with fail
    refine HS'.out.mono ?_
    rintro e w' ⟨rfl, rfl⟩
    go_wp2
    go_ret2
    exact ⟨by rw [HV.out, decide_eq_true hb]; rfl, rfl⟩
  · have HV : Hid (intV (val d t) = 0) := by show _ = _; simp [intV, hb]
    have hbi : (63 : Int) < ((blen (val d t) : Nat) : Int) := by omega
    go_enter Tryz.func16, Tryz.ntmps16
    go_wp2_with fail
    refine (valid_any _ _ _ _ _ hR).mono ?_
    rintro e w' ⟨rfl, rfl⟩
    go_wp2_with fail
    refine (bitLength_any _ _ _ _ _ hR h2 (by omega)).mono ?_
    rintro e w' ⟨rfl, rfl⟩
    go_wp2
    go_ret2
    exact ⟨by rw [HV.out, decide_eq_false hb]; rfl, rfl⟩
end Go.Proofs.YtmbajngbiefilaaGreatDoor

/-
  Package nat: root, Root, by contracts: for every number.
-/
namespace Go.Proofs.YtmbajngbiefilaaGreatDoor
open Go Go.RowKit Go.Proofs.YtmbajngbiefilaaGreatDoor.M
set_option linter.unusedSimpArgs false
set_option linter.unusedVariables false

/-- The square root, cut: the greatest s with s s <= A. -/
def IsRoot (A s : Int) : Prop := 0 ≤ s ∧ s * s ≤ A ∧ A < (s + 1) * (s + 1)
theorem root_above {A s : Int} (hA : 0 ≤ A) (hs : 0 < s) (h : A < s * s) : ∀ r, r * r ≤ A → r < s := fun r hr => by
  rcases Int.lt_or_le r s with q | q
  · exact q
  · have := Int.mul_le_mul q q (by omega) (by omega)
    omega
/-- s is not below the root. -/
def Abv (A s : Int) : Prop := ∀ r, 0 ≤ r → r * r ≤ A → r ≤ s
theorem abv_start {A : Int} (hA : 0 ≤ A) {k : Nat} (h : A < 2 ^ (2 * k)) : Abv A (2 ^ k) := fun r h0 hr => by
  rcases Int.lt_or_le (2 ^ k) r with q | q
  · have h1 := Int.mul_le_mul (Int.le_of_lt q) (Int.le_of_lt q) (Int.le_of_lt (two_pos k)) h0
    rw [← Int.pow_add, ← Nat.two_mul] at h1
    omega
  · exact q
theorem abv_next {A s : Int} (hs : 0 < s) (h : Abv A s) : Abv A ((s + A / s) / 2) := fun r h0 hr => newton_above hs hr
theorem abv_done {A s : Int} (hs : 0 < s) (h : Abv A s) (hst : s ≤ (s + A / s) / 2) : IsRoot A s := by
  refine ⟨by omega, newton_stop hs hst, ?_⟩
  rcases Int.lt_or_le A ((s + 1) * (s + 1)) with q | q
  · exact q
  · have := h (s + 1) (by omega) q
    omega
theorem Num.parts {w : World} {v : Value} {V : Int} (h : Num w v V) {k : Nat} (hV : V < P k) : ∃ ao n cap d, v = .slice ao n cap ∧ Row w ao n cap d ∧ Nrm d n ∧ val d n = V ∧ n ≤ k := by
  obtain ⟨ao, n, cap, rfl⟩ := h.shape
  have hl := h.len hV
  obtain ⟨ao', n', cap', d, e, hR, h2, h3⟩ := h
  simp only [Value.slice.injEq] at e
  obtain ⟨rfl, rfl, rfl⟩ := e
  exact ⟨ao, n, cap, d, rfl, hR, h2, h3, hl⟩
theorem divide_num {w : World} {x y : Value} {A B : Int} (hx : Num w x A) (hy : Num w y B) (hA : A < P 5000) (hB : 0 < B) :
    Calls Tryz.prog 71 #[x, y] w fun e w' => ∃ v1 v2, e = .returned (.tuple #[v1, v2]) ∧ Ans2 w w' (A / B) v1 (A % B) v2 := by
  obtain ⟨ao, n, ca, d, rfl, hR, h2, rfl, hl⟩ := hx.parts hA
  obtain ⟨bo, m, cb, e, rfl, kR, k2, rfl⟩ := hy
  have hm : 0 < m := by
    by_cases h : 0 < m
    · exact h
    · obtain rfl : m = 0 := by omega
      exact absurd hB (Int.lt_irrefl 0)
  exact divide_any _ _ _ _ _ _ _ _ _ hR kR h2 k2 hl hm
theorem sum_num {w : World} {x y : Value} {A B : Int} (hx : Num w x A) (hy : Num w y B) (hA : A < P 5000) (hB : B < P 5000) :
    Calls Tryz.prog 48 #[x, y] w fun e w' => ∃ v, e = .returned v ∧ Ans w w' (A + B) v := by
  obtain ⟨ao, n, ca, d, rfl, hR, h2, rfl, hl⟩ := hx.parts hA
  obtain ⟨bo, m, cb, e, rfl, kR, k2, rfl, kl⟩ := hy.parts hB
  exact sum_any _ _ _ _ _ _ _ _ _ hR kR h2.1 k2.1 (by omega) (by omega)
theorem lower_num {w : World} {x : Value} {A : Int} (hx : Num w x A) (hA : A < P 6000) (k : Nat) (hk : (k : Int) < 9223372036854775808) :
    Calls Tryz.prog 53 #[x, .int .i64 k] w fun e w' => ∃ v, e = .returned v ∧ Ans w w' (A / 2 ^ k) v := by
  obtain ⟨ao, n, ca, d, rfl, hR, h2, rfl, hl⟩ := hx.parts hA
  exact lower_any _ _ _ _ _ _ hR h2.1 (by omega) hk
theorem lower_half {w : World} {x : Value} {A : Int} (hx : Num w x A) (hA : A < P 6000) :
    Calls Tryz.prog 53 #[x, .int .i64 1] w fun e w' => ∃ v, e = .returned v ∧ Ans w w' (A / 2) v := lower_num hx hA 1 (by decide)
theorem compare_num {w : World} {x y : Value} {A B : Int} (hx : Num w x A) (hy : Num w y B) :
    Calls Tryz.prog 70 #[x, y] w fun e w' => e = .returned (.int .i64 (ord A B)) ∧ Below w.heap.size w w' := by
  obtain ⟨ao, n, ca, d, rfl, hR, h2, rfl⟩ := hx
  obtain ⟨bo, m, cb, e, rfl, kR, k2, rfl⟩ := hy
  exact compare_any _ _ _ _ _ _ _ _ _ hR kR h2 k2
theorem raise_num {w : World} {x : Value} {A : Int} (hx : Num w x A) (hA : A < P 5000) (k : Nat) (hk : k ≤ 1000000) :
    Calls Tryz.prog 52 #[x, .int .i64 k] w fun e w' => ∃ v, e = .returned v ∧ Ans w w' (A * 2 ^ k) v := by
  obtain ⟨ao, n, ca, d, rfl, hR, h2, rfl, hl⟩ := hx.parts hA
  exact raise_any _ _ _ _ _ _ hR h2.1 (by omega) hk
theorem difference_num {w : World} {x y : Value} {A B : Int} (hx : Num w x A) (hy : Num w y B) (hA : A < P 5000) (hle : B ≤ A) :
    Calls Tryz.prog 57 #[x, y] w fun e w' => ∃ v, e = .returned v ∧ Ans w w' (A - B) v := by
  obtain ⟨ao, n, ca, d, rfl, hR, h2, rfl, hl⟩ := hx.parts hA
  obtain ⟨bo, m, cb, e, rfl, kR, k2, rfl⟩ := hy
  exact difference_any _ _ _ _ _ _ _ _ _ hR kR h2.1 k2.1 (by omega) (nrm_le_len k2 h2.1 hle) hle
theorem bitLength_num {w : World} {x : Value} {A : Int} (hx : Num w x A) (hA : A < P 5000) :
    Calls Tryz.prog 50 #[x] w fun e w' => e = .returned (.int .i64 (blen A)) ∧ w' = w := by
  obtain ⟨ao, n, ca, d, rfl, hR, h2, rfl, hl⟩ := hx.parts hA
  exact bitLength_any _ _ _ _ _ hR h2 (by omega)

/-- A root that is answered. -/
def RootA (w w' : World) (A : Int) (v : Value) : Prop := ∃ s, Ans w w' s v ∧ IsRoot A s
theorem root_bnd {A s : Int} (hA : A < P 2000) (hA0 : 0 ≤ A) (hs : 0 < s) (h3 : s < P 3000) : A / s < P 5000 ∧ s < P 5000 ∧ s + A / s < P 6000 := by
  have h1 : A / s ≤ A := Int.ediv_le_self _ hA0
  have p1 := P_le (show 2000 ≤ 3000 by decide)
  have p2 := P_le (show 3000 ≤ 5000 by decide)
  have p3 : P 3000 + P 3000 ≤ P 6000 := by
    have h := P_le (show 3001 ≤ 6000 by decide)
    have e : P 3001 = P 3000 * 1073741824 := P_succ 3000
    have := P_pos 3000
    generalize P 3000 = X at *
    generalize P 6000 = Y at *
    generalize P 3001 = Z at *
    omega
  generalize P 3000 = X at *
  generalize P 6000 = Y at *
  generalize P 5000 = Z at *
  generalize P 2000 = T at *
  refine ⟨?_, ?_, ?_⟩ <;> omega
/-- Where a root's rounds stand: s is in new memory, and not below the root. -/
def RootR (w0 : World) (A : Int) (v : Value) (s : Int) (wr : World) : Prop := Ans w0 wr s v ∧ 0 < s ∧ Abv A s ∧ s < P 3000
set_option maxRecDepth 100000 in
set_option maxHeartbeats 1000000 in
theorem root_any (ao : Option Addr) (n ca : Nat) (A : Int) (w : World) (ha : Num w (.slice ao n ca) A) (hA : A < P 2000) :
    Calls Tryz.prog 56 #[.slice ao n ca] w fun e w' => ∃ v, e = .returned v ∧ RootA w w' A v := by
  have hA0 := ha.nonneg
  have hz := ha.zero
  have hn := ha.len hA
  have HA5 : Hid (A < P 5000) := Int.lt_of_lt_of_le hA (P_le (by decide))
  have HA : Hid (A < P 2000) := hA
  clear hA
  by_cases h0 : n = 0
  · subst h0
    have HZ : Hid (IsRoot A 0) := by have : A = 0 := hz.2 rfl; subst this; exact ⟨by omega, by omega, by omega⟩
    clear hz
    go_enter Tryz.func56, Tryz.ntmps56
    go_wp2
    go_ret
    exact ⟨_, rfl, 0, Ans.nil (bel_refl _), HZ.out⟩
  · have e0 : ((n : Int) == 0) = false := by simp; omega
    have hAp : 0 < A := by
      rcases Int.lt_or_eq_of_le hA0 with q | q
      · exact q
      · exact absurd (hz.1 q.symm) h0
    have hbl : blen A ≤ 60000 := blen_le (by rw [show (2 : Int) ^ 60000 = P 2000 from (P_two 2000).symm]; exact HA.out)
    obtain ⟨k, hk⟩ : ∃ k : Nat, (((blen A : Nat) : Int) + 1) / 2 = k := ⟨(blen A + 1) / 2, by omega⟩
    have hk1 : k ≤ 30000 := by omega
    have HAB : Hid (Abv A (2 ^ k)) := abv_start hA0 (by
      have h1 := blen_lt A
      have h2 : (2 : Int) ^ blen A ≤ 2 ^ (2 * k) := two_le (by omega)
      omega)
    have HP3 : Hid ((2 : Int) ^ k < P 3000) := by
      have h1 : (2 : Int) ^ k < 2 ^ (30 * 3000) := two_lt (by omega)
      rw [← P_two] at h1; exact h1
    have HR0 : ∀ w1 v, Ans w w1 (1 * 2 ^ k) v → RootR w A v (2 ^ k) w1 := fun w1 v h => ⟨by rw [Int.one_mul] at h; exact h, two_pos k, HAB.out, HP3.out⟩
    have P1 : Hid ((1 : Int) < P 5000) := Int.lt_of_lt_of_le (show (1 : Int) < P 1 by decide) (P_le (by decide))
    clear hz
    go_enter Tryz.func56, Tryz.ntmps56
    go_wp2_with fail
    refine (bitLength_num (ha.alloc _) HA5.out).mono ?_
    rintro e w1 ⟨rfl, rfl⟩
    go_wp2_with fail
    refine (raise_num (num1 w 1 (by decide) (by decide) rfl) P1.out k (by omega)).mono ?_
    rintro e w2 ⟨v, rfl, hv⟩
    have hR2 := HR0 w2 v (hv.from (bel_alloc _ _))
    clear hv HR0
    go_wp2
    go_loopg [3] (((2 : Int) ^ k).toNat) (fun g v wr => ∃ s : Int, RootR w A v s wr ∧ g = s.toNat)
    case atStart => exact ⟨_, hR2, rfl⟩
    case round =>
      clear hR2
      obtain ⟨s, hR, hgk⟩ := hrel
      have HGK : Hid (gk = s.toNat) := hgk
      clear hgk
      obtain ⟨hs, hs0, hab, hs3⟩ := hR
      obtain ⟨B1, B2, B3⟩ := root_bnd HA.out hA0 hs0 hs3
      have HB1 : Hid (A / s < P 5000) := B1
      have HB2 : Hid (s < P 5000) := B2
      have HB3 : Hid (s + A / s < P 6000) := B3
      have HAb : Hid (Abv A s) := hab
      have HS3 : Hid (s < P 3000) := hs3
      clear B1 B2 B3 hab hs3
      go_wp2_with fail
      refine (divide_num (ha.keeps hs.below) hs.num HA5.out hs0).mono ?_
      rintro e w3 ⟨q, r, rfl, hq, hr, _⟩
      have b3 := hq.below
      go_wp2_with fail
      refine (sum_num (hs.num.keeps b3) hq.num HB2.out HB1.out).mono ?_
      rintro e w4 ⟨v4, rfl, h4⟩
      go_wp2_with fail
      refine (lower_half h4.num HB3.out).mono ?_
      rintro e w5 ⟨v5, rfl, h5⟩
      have b45 := bel_trans h4.below h5.below
      have hs5 := (hs.num.keeps b3).keeps b45
      go_wp2_with fail
      refine (compare_num h5.num hs5).mono ?_
      rintro e w6 ⟨rfl, b6⟩
      have b36 := bel_trans (bel_trans b3 b45) b6
      by_cases hge : s ≤ (s + A / s) / 2
      · have hd : decide (0 ≤ ord ((s + A / s) / 2) s) = true := decide_eq_true (by have := ord_ge hge; omega)
        go_wp2
        go_ret
        exact ⟨_, rfl, s, hs.stays b36, abv_done hs0 HAb.out hge⟩
      · have hd : decide (0 ≤ ord ((s + A / s) / 2) s) = false := decide_eq_false (by rw [ord_lt (by omega)]; omega)
        have hn0 : 0 < (s + A / s) / 2 := by
          have := abv_next hs0 HAb.out 1 (by omega) (by omega)
          omega
        have HN : Hid (RootR w A v5 ((s + A / s) / 2) w6) := ⟨((h5.from h4.below).from (bel_trans hs.below b3)).stays b6, hn0, abv_next hs0 HAb.out, by
          have := HS3.out
          generalize P 3000 = X at *
          omega⟩
        have HLT : Hid (((s + A / s) / 2).toNat < s.toNat) := by show _ < _; omega
        go_wp2
        go_roundg (((s + A / s) / 2).toNat)
        case measure => rw [HGK.out]; exact HLT.out
        case rel => exact ⟨_, HN.out, rfl⟩

set_option maxRecDepth 100000 in
set_option maxHeartbeats 400000 in
theorem root_num {w : World} {x : Value} {A : Int} (hx : Num w x A) (hA : A < P 2000) :
    Calls Tryz.prog 22 #[x] w fun e w' => ∃ v1 v2, e = .returned (.tuple #[v1, v2, .int .i64 0]) ∧ ∃ s, IsRoot A s ∧ Ans2 w w' s v1 (A - s * s) v2 := by
  have hx' := hx
  have HA5 : Hid (A < P 5000) := Int.lt_of_lt_of_le hA (P_le (by decide))
  obtain ⟨ao, n, ca, d, rfl, hR, h2, rfl⟩ := hx
  have ok := Num.ok h2 hA
  have HA : Hid (val d n < P 2000) := hA
  clear hA
  go_enter Tryz.func22, Tryz.ntmps22
  go_wp2_with fail
  refine (valid_any _ _ _ _ _ hR).mono ?_
  rintro e w' ⟨rfl, rfl⟩
  go_wp2_with fail
  refine (root_any _ _ _ _ _ hx' HA.out).mono ?_
  rintro e w1 ⟨v1, rfl, s, h1, hroot⟩
  have hs0 := hroot.1
  have hs1 := hroot.2.1
  have HSB : Hid (s < P 100000) := by
    have h3 : s ≤ val d n := by
      rcases Int.lt_or_eq_of_le hs0 with q | q
      · have : 1 * s ≤ s * s := mul_le_r (by omega) hs0
        omega
      · rw [← q]; exact val_nonneg h2.1
    exact Int.lt_of_le_of_lt h3 (Int.lt_of_lt_of_le HA.out (P_le (by decide)))
  go_wp2_with fail
  refine (product_num h1.num h1.num HSB.out HSB.out).mono ?_
  rintro e w2 ⟨v2, rfl, h3⟩
  go_wp2_with fail
  refine (difference_num (hx'.keeps (bel_trans h1.below h3.below)) h3.num HA5.out hs1).mono ?_
  rintro e w3 ⟨v3, rfl, h4⟩
  have b13 := bel_trans h3.below h4.below
  go_wp2
  go_ret3
  refine ⟨_, _, rfl, s, hroot, h1.stays b13, h4.from (bel_trans h1.below h3.below), ?_⟩
  intro c hc hc2
  obtain ⟨t1, d1, hO1, _⟩ := h1
  obtain ⟨t4, d4, hO4, _⟩ := h4
  have e1 := (World.ownsRow.lt hO1 c hc).2
  have e2 := own_ge hO4 c hc2
  have := h3.below.size
  omega
end Go.Proofs.YtmbajngbiefilaaGreatDoor

/-
  The document's own Low, Pow, Root, by contracts over the same values.
-/
namespace Go.Proofs.YtmbajngbiefilaaGreatDoor
open Go Go.RowKit Go.Proofs.YtmbajngbiefilaaGreatDoor.M
set_option linter.unusedSimpArgs false
set_option linter.unusedVariables false

theorem lowA_unique {A l m : Int} (h : LowA A l) (k : LowA A m) : l = m := by
  have hz : ∀ i : Nat, ¬ IsLow 0 i := fun i ⟨q, e⟩ => by
    have h2 := two_pos i
    have h3 : (2 * q + 1) ≠ 0 := by omega
    rcases Int.mul_eq_zero.1 e.symm with h | h
    · exact h3 h
    · omega
  rcases h with ⟨h0, h1⟩ | ⟨i, h1, hi⟩ <;> rcases k with ⟨k0, k1⟩ | ⟨j, k1, hj⟩
  · omega
  · subst h0; exact absurd hj (hz j)
  · subst k0; exact absurd hi (hz i)
  · rw [h1, k1, low_unique hi hj]
set_option maxHeartbeats 400000 in
theorem rlow_any (ao : Option Addr) (n cap : Nat) (d : Nat → Int) (w : World) (h : Row w ao n cap d) (hd : Dig d n) (hn : n ≤ 100000) :
    Calls Tryz.prog 27 #[.slice ao n cap] w fun e w' => ∃ l, e = .returned (.int .i64 l) ∧ LowA (val d n) l ∧ w' = w := by
  have hl := h.le
  have hm := h.max
  go_enter Tryz.func27, Tryz.ntmps27
  go_wp2
  go_loop [3] (fun i => ∃ k : Nat, k ≤ n ∧ i = .int .i64 k ∧ Hid (∀ j, j < k → d j = 0)) (fun i => n - (intOf i).toNat)
  case atStart => exact ⟨0, Nat.zero_le _, rfl, fun j hj => by omega⟩
  case round =>
    obtain ⟨k, hk, rfl, HZ⟩ := hrel
    by_cases hlt : k < n
    · obtain ⟨b, off, rfl, hb, hc⟩ := h.spot (by omega)
      have c := hc k hlt
      have dk := hd k hlt
      by_cases h0 : d k = 0
      · have e0 : (d k != 0) = false := by simp [h0]
        go_wp2
        go_round
        case rel => exact ⟨k + 1, by omega, by go_num, fun j hj => by by_cases e : j = k; (· rw [e]; exact h0); (· exact HZ.out j (by omega))⟩
        case measure => simp [intOf]; omega
      · have e0 : (d k != 0) = true := by simp [h0]
        have hpos : 0 < d k := by omega
        go_wp2
        go_loop [4, 5] (fun s v => ∃ (x : Int) (t : Nat), s = .int .i64 ((30 * k + t : Nat) : Int) ∧ v = .int .i64 x ∧ 0 < x ∧ x < 1073741824 ∧ t ≤ 30 ∧ Hid (x * 2 ^ t = d k)) (fun _ v => (intOf v).toNat)
        case atStart => exact ⟨d k, 0, by go_num, rfl, hpos, dk.2, by omega, by show _ = _; simp⟩
        case round =>
          obtain ⟨x, t, rfl, rfl, hx0, hx1, ht, HT⟩ := hrel
          by_cases he : x % 2 = 0
          · have ee : (x % 2 == 0) = true := by simp [he]
            have HT2 : Hid (x / 2 * 2 ^ (t + 1) = d k) := by
              show _ = _
              rw [Int.pow_succ, Int.mul_comm (2 ^ t) 2, ← Int.mul_assoc, show x / 2 * 2 = x by omega]; exact HT.out
            have ht2 : t + 1 ≤ 30 := by
              have h1 : 1 * 2 ^ (t + 1) ≤ x / 2 * 2 ^ (t + 1) := Int.mul_le_mul_of_nonneg_right (by omega) (Int.le_of_lt (two_pos _))
              rw [HT2.out] at h1
              have h2 : (2 : Int) ^ (t + 1) < 2 ^ 30 := by have : (2 : Int) ^ 30 = 1073741824 := rfl; omega
              have := two_lt_iff h2
              omega
            go_wp2
            go_round
            case rel => exact ⟨x / 2, t + 1, by go_num, rfl, by omega, by omega, ht2, HT2.out⟩
            case measure => simp [intOf]; omega
          · have ee : (x % 2 == 0) = false := by simp [he]
            have HL : Hid (IsLow (d k) t) := ⟨x / 2, by rw [show 2 * (x / 2) + 1 = x by omega]; exact HT.out.symm⟩
            go_wp2
            go_ret
            exact ⟨_, rfl, .inr ⟨30 * k + t, rfl, isLow_val hlt HZ.out HL.out (low_lt hpos dk.2 HL.out)⟩, rfl⟩
    · obtain rfl : k = n := by omega
      go_wp2
      go_ret
      exact ⟨_, rfl, .inl ⟨by rw [val_zeros (Nat.zero_le _) (fun i _ hi => HZ.out i hi)]; rfl, rfl⟩, rfl⟩
/-- A list of one. -/
theorem an_one (w : World) (x : Int) (h0 : 0 < x) (h1 : x < 1073741824) {g B : Nat} (hg : g = w.heap.size) (hB : B ≤ w.heap.size) : An B (w.alloc (.cells #[.int .i64 x] 3)) (.slice (some ⟨g, 0, none⟩) 1 1) x := by
  subst hg
  exact ⟨1, fun _ => x, (Blk.new w #[.int .i64 x] (fun _ => x) (fun i hi => by simp at hi; subst hi; rfl)).out hB (Nat.le_refl _) (show 1 ≤ 9223372036854775807 by decide), ⟨fun i _ => ⟨by show 0 ≤ x; omega, h1⟩, .inr (by show x ≠ 0; omega)⟩, by show 0 + x * 1 = x; omega⟩
set_option maxRecDepth 100000 in
set_option maxHeartbeats 1000000 in
theorem rpow_any {w : World} {x : Value} {A : Int} (hx : Num w x A) (hA : A < P 2000) (k : Nat) (hk : (k : Int) < 9223372036854775808) (hk2 : A ≤ 1 ∨ k ≤ 4000) :
    Calls Tryz.prog 67 #[x, .int .i64 k] w fun e w' => ∃ v er, e = .returned (.tuple #[v, .int .i64 er]) ∧ FitA w.heap.size w' (A ^ k) v er ∧ Below w.heap.size w w' := by
  have A0 := hx.nonneg
  obtain ⟨ao, n, ca, rfl⟩ := hx.shape
  have hn := hx.len hA
  have hz := hx.zero
  obtain ⟨ao', n', ca', d, e, hR, h2, rfl⟩ := hx
  simp only [Value.slice.injEq] at e
  obtain ⟨rfl, rfl, rfl⟩ := e
  have hl := hR.le
  have hm := hR.max
  have p1 : (1 : Int) < P 2000 := Int.lt_trans (show (1 : Int) < 1152921504606846976 by decide) P2000_big
  have HP1 : Hid ((1 : Int) < P 2000) := p1
  clear p1
  by_cases hk0 : k = 0
  · subst hk0
    have HV : Hid (val d n ^ 0 = 1) := by show _ = _; simp
    by_cases hn0 : n = 1
    · subst hn0
      obtain ⟨b, off, rfl, hb, hc⟩ := hR.spot (by omega)
      have c := hc 0 (by omega)
      rw [Nat.add_zero] at c
      clear hA hk hk2
      by_cases h1 : d 0 = 1
      · have e1 : (d 0 == 1) = true := by simp [h1]
        go_enter Tryz.func67, Tryz.ntmps67
        go_wp2
        try (go_quiet (fail); go_wp2)
        go_ret2
        exact ⟨_, _, rfl, .inl ⟨by rw [HV.out]; exact HP1.out, rfl, by rw [HV.out]; exact an_one _ 1 (by decide) (by decide) rfl (Nat.le_refl _)⟩, by first | exact bel_alloc _ _ | exact (bDrewN (bel_refl w) _).alloc (Nat.le_refl _) _⟩
      · have e1 : (d 0 == 1) = false := by simp [h1]
        go_enter Tryz.func67, Tryz.ntmps67
        go_wp2
        try (go_quiet (fail); go_wp2)
        go_ret2
        exact ⟨_, _, rfl, .inl ⟨by rw [HV.out]; exact HP1.out, rfl, by rw [HV.out]; exact an_one _ 1 (by decide) (by decide) rfl (Nat.le_refl _)⟩, by first | exact bel_alloc _ _ | exact (bDrewN (bel_refl w) _).alloc (Nat.le_refl _) _⟩
    · have e1 : ((n : Int) == 1) = false := by simp; omega
      clear hA hk hk2
      go_enter Tryz.func67, Tryz.ntmps67
      go_wp2
      go_ret2
      exact ⟨_, _, rfl, .inl ⟨by rw [HV.out]; exact HP1.out, rfl, by rw [HV.out]; exact an_one _ 1 (by decide) (by decide) rfl (Nat.le_refl _)⟩, by first | exact bel_alloc _ _ | exact (bDrewN (bel_refl w) _).alloc (Nat.le_refl _) _⟩
  · have hkp : (0 : Int) < (k : Int) := by omega
    have ek0 : ((k : Int) == 0) = false := by simp; omega
    by_cases hn0 : n = 0
    · subst hn0
      have HV : Hid (val d 0 ^ k = 0) := by show (0 : Int) ^ k = 0; obtain ⟨j, rfl⟩ : ∃ j, k = j + 1 := ⟨k - 1, by omega⟩; rw [Int.pow_succ, Int.mul_zero]
      have HP0 : Hid ((0 : Int) < P 2000) := P_pos _
      clear hA hk hk2 hz
      go_enter Tryz.func67, Tryz.ntmps67
      go_wp2
      go_ret2
      exact ⟨_, _, rfl, .inl ⟨by rw [HV.out]; exact HP0.out, rfl, by rw [HV.out]; exact An.nil _ _⟩, bel_refl _⟩
    · have e0 : ((n : Int) == 0) = false := by simp; omega
      obtain ⟨b, off, rfl, hb, hc⟩ := hR.spot (by omega)
      have c := hc 0 (by omega)
      rw [Nat.add_zero] at c
      by_cases hone : n = 1 ∧ d 0 = 1
      · obtain ⟨rfl, h1⟩ := hone
        have e1 : (d 0 == 1) = true := by simp [h1]
        have HV : Hid (val d 1 ^ k = 1) := by show _ = _; rw [show val d 1 = 1 by show 0 + d 0 * 1 = 1; omega, Int.one_pow]
        clear hA hk hk2 hz
        go_enter Tryz.func67, Tryz.ntmps67
        go_wp2
        try (go_quiet (fail); go_wp2)
        go_ret2
        exact ⟨_, _, rfl, .inl ⟨by rw [HV.out]; exact HP1.out, rfl, by rw [HV.out]; exact an_one _ 1 (by decide) (by decide) rfl (Nat.le_refl _)⟩, by first | exact bel_alloc _ _ | exact (bDrewN (bel_refl w) _).alloc (Nat.le_refl _) _⟩
      · have hA2 : 2 ≤ val d n := by
          have hp := val_pos h2 (by omega)
          by_cases e : val d n = 1
          · have hn1 : n ≤ 1 := (hR.num0 h2).len (k := 1) (by rw [e]; decide)
            obtain rfl : n = 1 := by omega
            have : val d 1 = d 0 := by show 0 + d 0 * 1 = d 0; omega
            exact absurd ⟨rfl, by omega⟩ hone
          · omega
        have hk4 : k ≤ 4000 := by omega
        have HA : Hid (2 ≤ val d n ∧ val d n < P 2000) := ⟨hA2, hA⟩
        have HR : Hid (Row w (some ⟨b, off, none⟩) n ca d) := hR
        have HN : Hid (Nrm d n) := h2
        have hcond : n = 1 → (d 0 == 1) = false := fun e => by simp; exact fun h => hone ⟨e, h⟩
        clear hk hk2 hA hA2 hz hR h2 hone A0
        by_cases hn1 : n = 1
        · have e1 := hcond hn1
          have en1 : ((n : Int) == 1) = true := by simp [hn1]
          clear hn1 hcond
          go_enter Tryz.func67, Tryz.ntmps67
          go_wp2
          try (go_quiet (fail); go_wp2)
          go_loopw [6, 7] (fun l i wr => ∃ j : Nat, i = .int .i64 j ∧ j ≤ k ∧ Hid (An w.heap.size wr l (val d n ^ j)) ∧ Hid (val d n ^ j < P 2000) ∧ Below w.heap.size w wr) (fun _ i _ => k - (intOf i).toNat)
          case atStart => exact ⟨0, rfl, Nat.zero_le _, by show An _ _ _ _; rw [Int.pow_zero]; exact an_one _ 1 (by decide) (by decide) rfl (Nat.le_refl _), by show _ < _; rw [Int.pow_zero]; exact HP1.out, by first | exact bel_alloc _ _ | exact (bDrewN (bel_refl w) _).alloc (Nat.le_refl _) _⟩
          case round =>
            obtain ⟨j, rfl, hj, HAn, HLt, hbw⟩ := hrel
            have HB : Hid (Below w.heap.size w wr) := hbw
            clear hbw
            obtain ⟨po, pn, pc, rfl⟩ := HAn.out.shape
            have hpl := HAn.out.num.len HLt.out
            by_cases hlt : j < k
            · obtain ⟨o', n', c', pd, e, hRp, np, vp⟩ := HAn.out.num
              simp only [Value.slice.injEq] at e
              obtain ⟨rfl, rfl, rfl⟩ := e
              have hrl := hRp.le
              have hrm := hRp.max
              have HRp : Hid (Row wr po pn pc pd ∧ Nrm pd pn ∧ val pd pn = val d n ^ j) := ⟨hRp, np, vp⟩
              clear hRp np vp
              go_wp2_with fail
              refine (rmul_any _ _ _ _ _ _ _ _ _ HRp.out.1 (HR.out.keeps HB.out) HRp.out.2.1 HN.out (by omega) (by omega)).mono ?_
              rintro e w2 ⟨v2, rfl, hA2⟩
              rw [HRp.out.2.2, ← Int.pow_succ] at hA2
              have HB2 : Hid (Below w.heap.size w w2) := HB.out.trans (hA2.below.mono HB.out.size)
              obtain ⟨o2, n2, c2, rfl⟩ := hA2.num.shape
              have HA2 : Hid (An w.heap.size w2 (.slice o2 n2 c2) (val d n ^ (j + 1))) := hA2.an.lower HB.out.size
              clear hA2
              by_cases hf : 2000 < n2
              · have ef : (fitE n2 != 0) = true := by simp [fitE, hf]
                have HL : Hid (P 2000 ≤ val d n ^ k) := by
                  show _ ≤ _
                  refine Int.le_trans ?_ (pow_mono (by have := HA.out.1; omega) (show j + 1 ≤ k by omega))
                  obtain ⟨o', n', c', qd, e, hRq, nq, vq⟩ := HA2.out.num
                  simp only [Value.slice.injEq] at e
                  obtain ⟨rfl, rfl, rfl⟩ := e
                  rw [← vq]
                  exact Int.le_trans (P_le (show 2000 ≤ n2 - 1 by omega)) (val_top nq.1 (by omega) nq.2)
                go_wp2_with fail
                refine (rfits_any _ _ _ _).mono ?_
                rintro e w3 ⟨rfl, hw⟩
                replace hw := hw.symm
                subst hw
                go_wp2
                go_ret2
                exact ⟨_, _, rfl, .inr ⟨HL.out, rfl, rfl⟩, HB2.out⟩
              · have ef : (fitE n2 != 0) = false := by simp [fitE, hf]
                have HL : Hid (val d n ^ (j + 1) < P 2000) := by
                  show _ < _
                  obtain ⟨o', n', c', qd, e, hRq, nq, vq⟩ := HA2.out.num
                  simp only [Value.slice.injEq] at e
                  obtain ⟨rfl, rfl, rfl⟩ := e
                  rw [← vq]
                  exact Int.lt_of_lt_of_le (val_lt nq.1) (P_le (by omega))
                go_wp2_with fail
                refine (rfits_any _ _ _ _).mono ?_
                rintro e w3 ⟨rfl, hw⟩
                replace hw := hw.symm
                subst hw
                go_wp2
                go_roundw
                case rel => exact ⟨j + 1, by go_num, by omega, HA2.out, HL.out, HB2.out⟩
                case measure => simp [intOf]; omega
            · obtain rfl : j = k := by omega
              go_wp2
              go_ret2
              exact ⟨_, _, rfl, .inl ⟨HLt.out, rfl, HAn.out⟩, HB.out⟩
        · have en1 : ((n : Int) == 1) = false := beq_eq_false_iff_ne.2 (by omega)
          clear hcond
          go_enter Tryz.func67, Tryz.ntmps67
          go_wp2
          try (go_quiet (fail); go_wp2)
          go_loopw [6, 7] (fun l i wr => ∃ j : Nat, i = .int .i64 j ∧ j ≤ k ∧ Hid (An w.heap.size wr l (val d n ^ j)) ∧ Hid (val d n ^ j < P 2000) ∧ Below w.heap.size w wr) (fun _ i _ => k - (intOf i).toNat)
          case atStart => exact ⟨0, rfl, Nat.zero_le _, by show An _ _ _ _; rw [Int.pow_zero]; exact an_one _ 1 (by decide) (by decide) rfl (Nat.le_refl _), by show _ < _; rw [Int.pow_zero]; exact HP1.out, by first | exact bel_alloc _ _ | exact (bDrewN (bel_refl w) _).alloc (Nat.le_refl _) _⟩
          case round =>
            obtain ⟨j, rfl, hj, HAn, HLt, hbw⟩ := hrel
            have HB : Hid (Below w.heap.size w wr) := hbw
            clear hbw
            obtain ⟨po, pn, pc, rfl⟩ := HAn.out.shape
            have hpl := HAn.out.num.len HLt.out
            by_cases hlt : j < k
            · obtain ⟨o', n', c', pd, e, hRp, np, vp⟩ := HAn.out.num
              simp only [Value.slice.injEq] at e
              obtain ⟨rfl, rfl, rfl⟩ := e
              have hrl := hRp.le
              have hrm := hRp.max
              have HRp : Hid (Row wr po pn pc pd ∧ Nrm pd pn ∧ val pd pn = val d n ^ j) := ⟨hRp, np, vp⟩
              clear hRp np vp
              go_wp2_with fail
              refine (rmul_any _ _ _ _ _ _ _ _ _ HRp.out.1 (HR.out.keeps HB.out) HRp.out.2.1 HN.out (by omega) (by omega)).mono ?_
              rintro e w2 ⟨v2, rfl, hA2⟩
              rw [HRp.out.2.2, ← Int.pow_succ] at hA2
              have HB2 : Hid (Below w.heap.size w w2) := HB.out.trans (hA2.below.mono HB.out.size)
              obtain ⟨o2, n2, c2, rfl⟩ := hA2.num.shape
              have HA2 : Hid (An w.heap.size w2 (.slice o2 n2 c2) (val d n ^ (j + 1))) := hA2.an.lower HB.out.size
              clear hA2
              by_cases hf : 2000 < n2
              · have ef : (fitE n2 != 0) = true := by simp [fitE, hf]
                have HL : Hid (P 2000 ≤ val d n ^ k) := by
                  show _ ≤ _
                  refine Int.le_trans ?_ (pow_mono (by have := HA.out.1; omega) (show j + 1 ≤ k by omega))
                  obtain ⟨o', n', c', qd, e, hRq, nq, vq⟩ := HA2.out.num
                  simp only [Value.slice.injEq] at e
                  obtain ⟨rfl, rfl, rfl⟩ := e
                  rw [← vq]
                  exact Int.le_trans (P_le (show 2000 ≤ n2 - 1 by omega)) (val_top nq.1 (by omega) nq.2)
                go_wp2_with fail
                refine (rfits_any _ _ _ _).mono ?_
                rintro e w3 ⟨rfl, hw⟩
                replace hw := hw.symm
                subst hw
                go_wp2
                go_ret2
                exact ⟨_, _, rfl, .inr ⟨HL.out, rfl, rfl⟩, HB2.out⟩
              · have ef : (fitE n2 != 0) = false := by simp [fitE, hf]
                have HL : Hid (val d n ^ (j + 1) < P 2000) := by
                  show _ < _
                  obtain ⟨o', n', c', qd, e, hRq, nq, vq⟩ := HA2.out.num
                  simp only [Value.slice.injEq] at e
                  obtain ⟨rfl, rfl, rfl⟩ := e
                  rw [← vq]
                  exact Int.lt_of_lt_of_le (val_lt nq.1) (P_le (by omega))
                go_wp2_with fail
                refine (rfits_any _ _ _ _).mono ?_
                rintro e w3 ⟨rfl, hw⟩
                replace hw := hw.symm
                subst hw
                go_wp2
                go_roundw
                case rel => exact ⟨j + 1, by go_num, by omega, HA2.out, HL.out, HB2.out⟩
                case measure => simp [intOf]; omega
            · obtain rfl : j = k := by omega
              go_wp2
              go_ret2
              exact ⟨_, _, rfl, .inl ⟨HLt.out, rfl, HAn.out⟩, HB.out⟩
end Go.Proofs.YtmbajngbiefilaaGreatDoor

/-
  The document's own Root, bit by bit, by its contract.
-/
namespace Go.Proofs.YtmbajngbiefilaaGreatDoor
open Go Go.RowKit Go.Proofs.YtmbajngbiefilaaGreatDoor.M
set_option linter.unusedSimpArgs false
set_option linter.unusedVariables false

theorem An.parts {B : Nat} {w : World} {ao : Option Addr} {n cap : Nat} {V : Int} (h : An B w (.slice ao n cap) V) : ∃ d, Row w ao n cap d ∧ Nrm d n ∧ val d n = V := by
  obtain ⟨o', n', c', d, e, hR, hN, hv⟩ := h.num
  simp only [Value.slice.injEq] at e
  obtain ⟨rfl, rfl, rfl⟩ := e
  exact ⟨d, hR, hN, hv⟩
theorem radd_an {B B' : Nat} {w : World} {x y : Value} {X Y : Int} (hx : An B w x X) (hy : An B' w y Y) (K : Nat) (hK : K ≤ 100000) (lX : X < P K) (lY : Y < P K) :
    Calls Tryz.prog 39 #[x, y] w fun e w' => ∃ o n c, e = .returned (.slice o n c) ∧ Ans w w' (X + Y) (.slice o n c) := by
  obtain ⟨xo, xn, xc, rfl⟩ := hx.shape
  obtain ⟨yo, yn, yc, rfl⟩ := hy.shape
  have l1 := hx.num.len lX
  have l2 := hy.num.len lY
  obtain ⟨xd, rx, nx, rfl⟩ := hx.parts
  obtain ⟨yd, ry, ny, rfl⟩ := hy.parts
  refine (radd_any _ _ _ _ _ _ _ _ _ rx ry nx ny (by omega) (by omega)).mono ?_
  rintro e w' ⟨v, rfl, hA⟩
  obtain ⟨o, n, c, rfl⟩ := hA.num.shape
  exact ⟨o, n, c, rfl, hA⟩
theorem rmul_an {B B' : Nat} {w : World} {x y : Value} {X Y : Int} (hx : An B w x X) (hy : An B' w y Y) (K : Nat) (hK : K ≤ 100000) (lX : X < P K) (lY : Y < P K) :
    Calls Tryz.prog 40 #[x, y] w fun e w' => ∃ o n c, e = .returned (.slice o n c) ∧ Ans w w' (X * Y) (.slice o n c) := by
  obtain ⟨xo, xn, xc, rfl⟩ := hx.shape
  obtain ⟨yo, yn, yc, rfl⟩ := hy.shape
  have l1 := hx.num.len lX
  have l2 := hy.num.len lY
  obtain ⟨xd, rx, nx, rfl⟩ := hx.parts
  obtain ⟨yd, ry, ny, rfl⟩ := hy.parts
  refine (rmul_any _ _ _ _ _ _ _ _ _ rx ry nx ny (by omega) (by omega)).mono ?_
  rintro e w' ⟨v, rfl, hA⟩
  obtain ⟨o, n, c, rfl⟩ := hA.num.shape
  exact ⟨o, n, c, rfl, hA⟩
theorem rcmp_an {B : Nat} {w : World} {x y : Value} {X Y : Int} (hx : An B w x X) (hy : Num w y Y) :
    Calls Tryz.prog 37 #[x, y] w fun e w' => e = .returned (.int .i64 (ord X Y)) ∧ Below w.heap.size w w' := by
  obtain ⟨xo, xn, xc, rfl⟩ := hx.shape
  obtain ⟨xd, rx, nx, rfl⟩ := hx.parts
  obtain ⟨yo, yn, yc, yd, rfl, ry, ny, rfl⟩ := hy
  exact rcmp_any _ _ _ _ _ _ _ _ _ rx ry nx ny
theorem rshl1 (w : World) (i : Nat) (hi : i ≤ 100000) : Calls Tryz.prog 64 #[.slice (some ⟨w.heap.size, 0, none⟩) 1 1, .int .i64 i] (w.alloc (.cells #[.int .i64 1] 3)) fun e w' => ∃ o n c, e = .returned (.slice o n c) ∧ Ans (w.alloc (.cells #[.int .i64 1] 3)) w' (2 ^ i) (.slice o n c) := by
  refine (rshl_any _ _ _ i (fun _ => 1) _ (row1 w 1 rfl) (fun j _ => ⟨by show (0 : Int) ≤ 1; decide, by show (1 : Int) < 1073741824; decide⟩) (by omega) (by omega)).mono ?_
  rintro e w' ⟨v, rfl, hA⟩
  rw [show val (fun _ => (1 : Int)) 1 = 1 from rfl, Int.one_mul] at hA
  obtain ⟨o, n, c, rfl⟩ := hA.num.shape
  exact ⟨o, n, c, rfl, hA⟩
theorem root_take {A S T : Int} (h : A < (S + 2 * T) * (S + 2 * T)) : A < (S + T + T) * (S + T + T) := by
  rw [show S + T + T = S + 2 * T by omega]; exact h
set_option maxRecDepth 100000 in
set_option maxHeartbeats 1000000 in
theorem rroot_any {w : World} {x : Value} {A : Int} (hx : Num w x A) (hA : A < P 40) :
    Calls Tryz.prog 66 #[x] w fun e w' => ∃ v1 v2, e = .returned (.tuple #[v1, v2]) ∧ ∃ S, IsRoot A S ∧ An w.heap.size w' v1 S ∧ An w.heap.size w' v2 (A - S * S) ∧ Below w.heap.size w w' := by
  have A0 := hx.nonneg
  obtain ⟨ao, n, ca, rfl⟩ := hx.shape
  have hn := hx.len hA
  have HX : Hid (Num w (.slice ao n ca) A) := hx
  have hbl : blen A ≤ 1200 := blen_le (by rw [show (1200 : Nat) = 30 * 40 from rfl, ← P_two]; exact hA)
  obtain ⟨LA, hLA⟩ : ∃ LA, LA = blen A := ⟨_, rfl⟩
  have HB0 : Hid (Calls Tryz.prog 26 #[.slice ao n ca] w fun e w' => e = .returned (.int .i64 LA) ∧ w' = w) := by
    obtain ⟨o', n', c', d, e, hR, h2, rfl⟩ := HX.out
    simp only [Value.slice.injEq] at e
    obtain ⟨rfl, rfl, rfl⟩ := e
    rw [hLA]
    exact rbits_any _ _ _ _ _ hR h2 (by omega)
  have HLA : Hid (A < 2 ^ LA) := by show _ < _; rw [hLA]; exact blen_lt A
  rw [← hLA] at hbl
  obtain ⟨K, hK⟩ : ∃ K : Nat, K = (LA + 1) / 2 := ⟨_, rfl⟩
  have eK : ((LA : Int) + 1) / 2 = K := by omega
  have hK6 : K ≤ 600 := by omega
  have HST : Hid (A < (0 + 2 ^ (K + 1)) * (0 + 2 ^ (K + 1))) := by
    show _ < _
    rw [Int.zero_add, ← Int.pow_add]
    exact Int.lt_of_lt_of_le HLA.out (two_le (by omega))
  have HA : Hid (0 ≤ A ∧ A < P 40) := ⟨A0, hA⟩
  clear hK hLA hx hA A0
  go_enter Tryz.func66, Tryz.ntmps66
  go_wp2_with fail
  refine HB0.out.mono ?_
  rintro e w' ⟨rfl, hw⟩
  replace hw := hw.symm
  subst hw
  go_wp2
  rw [eK]
  go_loopw [4, 5] (fun s i wr => ∃ (j : Nat) (S : Int), i = .int .i64 ((j : Int) - 1) ∧ j ≤ K + 1 ∧ Hid (An w.heap.size wr s S ∧ S * S ≤ A ∧ A < (S + 2 ^ j) * (S + 2 ^ j) ∧ 0 ≤ S) ∧ Below w.heap.size w wr) (fun _ i _ => (intOf i + 1).toNat)
  case atStart => exact ⟨K + 1, 0, by go_num, by omega, ⟨An.nil _ _, HA.out.1, HST.out, Int.le_refl _⟩, bel_refl _⟩
  case round =>
    obtain ⟨j, S, rfl, hj, HS, hbw⟩ := hrel
    have HB : Hid (Below w.heap.size w wr) := hbw
    clear hbw
    obtain ⟨so, sn, sc, rfl⟩ := HS.out.1.shape
    have HSA : Hid (S < P 41) := by
      show _ < _
      have h1 := HS.out.2.1
      have h2 := HA.out.2
      have h3 : P 40 ≤ P 41 := P_le (by decide)
      by_cases h : S ≤ 1
      · have := P_pos 41; have h4 : P 1 ≤ P 41 := P_le (by decide); rw [show P 1 = 1073741824 from rfl] at h4; omega
      · have h4 : S * 1 ≤ S * S := Int.mul_le_mul_of_nonneg_left (by omega) (by omega)
        omega
    by_cases hlt : 0 < j
    · obtain ⟨i, rfl⟩ : ∃ i, j = i + 1 := ⟨j - 1, by omega⟩
      have ej : ((i + 1 : Nat) : Int) - 1 = i := by omega
      rw [ej]
      have HT2 : Hid ((2 : Int) ^ i < P 41) := by show _ < _; rw [P_two]; exact two_lt (by omega)
      have HTS : Hid (S + 2 ^ i < P 42) := by
        show _ < _
        have h1 := HSA.out
        have h2 := HT2.out
        rw [P_succ]
        have := P_pos 41
        omega
      go_wp2_with fail
      refine (rshl1 _ i (by omega)).mono ?_
      rintro e w2 ⟨o2, n2, c2, rfl, hA2⟩
      have HB2 : Hid (Below wr.heap.size wr w2) := bel_trans (bel_alloc _ _) hA2.below
      have HA2 : Hid (An w.heap.size w2 (.slice o2 n2 c2) (2 ^ i)) := hA2.an.lower (Nat.le_trans HB.out.size (bel_alloc wr _).size)
      have HS2 : Hid (An w.heap.size w2 (.slice so sn sc) S) := HS.out.1.keeps HB2.out
      clear hA2
      go_wp2_with fail
      refine (radd_an HS2.out HA2.out 41 (by omega) HSA.out HT2.out).mono ?_
      rintro e w3 ⟨o3, n3, c3, rfl, hA3⟩
      have HB3 : Hid (Below w2.heap.size w2 w3) := hA3.below
      have HBw3 : Hid (Below w.heap.size w w3) := (HB.out.trans (HB2.out.mono HB.out.size)).trans (HB3.out.mono (HB.out.trans (HB2.out.mono HB.out.size)).size)
      have HA3 : Hid (An w.heap.size w3 (.slice o3 n3 c3) (S + 2 ^ i)) := hA3.an.lower (HB.out.trans (HB2.out.mono HB.out.size)).size
      have HS3 : Hid (An w.heap.size w3 (.slice so sn sc) S) := HS2.out.keeps HB3.out
      clear hA3
      go_wp2_with fail
      refine (rmul_an HA3.out HA3.out 42 (by omega) HTS.out HTS.out).mono ?_
      rintro e w4 ⟨o4, n4, c4, rfl, hA4⟩
      have HB4 : Hid (Below w3.heap.size w3 w4) := hA4.below
      have HBw4 : Hid (Below w.heap.size w w4) := HBw3.out.trans (HB4.out.mono HBw3.out.size)
      have HA4 : Hid (An w.heap.size w4 (.slice o4 n4 c4) ((S + 2 ^ i) * (S + 2 ^ i))) := hA4.an.lower HBw3.out.size
      clear hA4
      have HX4 : Hid (Num w4 (.slice ao n ca) A) := HX.out.keeps HBw4.out
      by_cases hle : (S + 2 ^ i) * (S + 2 ^ i) ≤ A
      · have ho : decide (ord ((S + 2 ^ i) * (S + 2 ^ i)) A ≤ 0) = true := decide_eq_true (by
          rcases Int.lt_or_eq_of_le hle with q | q
          · rw [ord_lt q]; decide
          · rw [ord_eq q]; decide)
        have HN : Hid (A < (S + 2 ^ i + 2 ^ i) * (S + 2 ^ i + 2 ^ i) ∧ (S + 2 ^ i) * (S + 2 ^ i) ≤ A) := ⟨root_take (by have h := HS.out.2.2.1; rw [Int.pow_succ, Int.mul_comm (2 ^ i) 2] at h; exact h), hle⟩
        clear hle
        go_wp2_with fail
        refine (rcmp_an HA4.out HX4.out).mono ?_
        rintro e w5 ⟨rfl, hb5⟩
        have HB5 : Hid (Below w4.heap.size w4 w5) := hb5
        clear hb5
        go_wp2
        go_roundw
        case rel => exact ⟨i, S + 2 ^ i, rfl, by omega, ⟨(HA3.out.keeps HB4.out).keeps HB5.out, HN.out.2, HN.out.1, by have := HS.out.2.2.2; have := two_pos i; omega⟩, HBw4.out.trans (HB5.out.mono HBw4.out.size)⟩
        case measure => simp [intOf]; try omega
      · have ho : decide (ord ((S + 2 ^ i) * (S + 2 ^ i)) A ≤ 0) = false := decide_eq_false (by rw [ord_gt (by omega)]; decide)
        have HN : Hid (A < (S + 2 ^ i) * (S + 2 ^ i)) := by show _ < _; omega
        clear hle
        go_wp2_with fail
        refine (rcmp_an HA4.out HX4.out).mono ?_
        rintro e w5 ⟨rfl, hb5⟩
        have HB5 : Hid (Below w4.heap.size w4 w5) := hb5
        clear hb5
        go_wp2
        go_roundw
        case rel => exact ⟨i, S, rfl, by omega, ⟨(HS3.out.keeps HB4.out).keeps HB5.out, HS.out.2.1, HN.out, HS.out.2.2.2⟩, HBw4.out.trans (HB5.out.mono HBw4.out.size)⟩
        case measure => simp [intOf]; try omega
    · obtain rfl : j = 0 := by omega
      have HX1 : Hid (Num wr (.slice ao n ca) A) := HX.out.keeps HB.out
      have HI : Hid (IsRoot A S) := ⟨HS.out.2.2.2, HS.out.2.1, by have h := HS.out.2.2.1; rw [Int.pow_zero] at h; exact h⟩
      go_wp2_with fail
      refine (rmul_an HS.out.1 HS.out.1 41 (by omega) HSA.out HSA.out).mono ?_
      rintro e w4 ⟨o4, n4, c4, rfl, hA4⟩
      have HB4 : Hid (Below wr.heap.size wr w4) := hA4.below
      have HBw4 : Hid (Below w.heap.size w w4) := HB.out.trans (HB4.out.mono HB.out.size)
      have HA4 : Hid (An w.heap.size w4 (.slice o4 n4 c4) (S * S)) := hA4.an.lower HB.out.size
      clear hA4
      have HSB : Hid (Calls Tryz.prog 42 #[.slice ao n ca, .slice o4 n4 c4] w4 fun e w' => ∃ o n c, e = .returned (.slice o n c) ∧ Ans w4 w' (A - S * S) (.slice o n c)) := by
        obtain ⟨o', n', c', d, e, hR, h2, rfl⟩ := HX1.out.keeps HB4.out
        simp only [Value.slice.injEq] at e
        obtain ⟨rfl, rfl, rfl⟩ := e
        obtain ⟨qd, rq, nq, vq⟩ := HA4.out.parts
        refine (rsub_any _ _ _ _ _ _ _ _ _ hR rq h2 nq (by omega) (by rw [vq]; exact HS.out.2.1)).mono ?_
        rintro e w' ⟨v, rfl, hA⟩
        rw [vq] at hA
        obtain ⟨o, n, c, rfl⟩ := hA.num.shape
        exact ⟨o, n, c, rfl, hA⟩
      go_wp2_with fail
      refine HSB.out.mono ?_
      rintro e w5 ⟨o5, n5, c5, rfl, hA5⟩
      go_wp2
      go_ret2
      exact ⟨_, _, rfl, S, HI.out, (HS.out.1.keeps HB4.out).keeps hA5.below, hA5.an.lower HBw4.out.size, HBw4.out.trans (hA5.below.mono HBw4.out.size)⟩
end Go.Proofs.YtmbajngbiefilaaGreatDoor
