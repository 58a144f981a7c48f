/-
  Parts of the proof, one behind another.
-/
import Derived.Test.YtkieaijmjpckdaaDoorPart12
import Derived.Test.YtkieaijmjpckdaaDoorPart11
import Derived.Test.YtkieaijmjpckdaaDoorPart8
import Derived.Test.YtkieaijmjpckdaaDoorPart10
/-
  Plain mathematics: which numbers in their one form are floats. No Go text in sight.
-/
namespace Go.Proofs.YtkieaijmjpckdaaDoor
open Go Go.RowKit Go.Proofs.YtkieaijmjpckdaaDoor.M
set_option linter.unusedSimpArgs false
set_option linter.unusedVariables false

theorem jz_low {M : Int} (h0 : 0 < M) (h : M < 9223372036854775808) {l : Nat} (hl : IsLow M l) : jz M = l ∧ jo M = M / 2 ^ l := by
  obtain ⟨m, e1, _, _⟩ := jz_spec h0 h
  have : IsLow M (jz M) := ⟨m, by rw [Int.mul_comm]; exact e1⟩
  have e := low_unique this hl
  exact ⟨e, by unfold jo; rw [e]⟩
theorem jz_odd {m : Int} (h0 : 0 < m) (h : m < 9223372036854775808) (ho : m % 2 = 1) : jz m = 0 ∧ jo m = m := by
  obtain ⟨a, b⟩ := jz_low h0 h (l := 0) ⟨m / 2, by rw [Int.pow_zero]; omega⟩
  exact ⟨a, by rw [b, Int.pow_zero, Int.ediv_one]⟩
/-- The odd form of a number joins as the number does. -/
theorem j_odd {M e : Int} {l : Nat} (ng : Bool) (h0 : 0 < M) (h : M < 9223372036854775808) (hl : IsLow M l) :
    jk 52 2047 (-1074) (M / 2 ^ l) (e + l) = jk 52 2047 (-1074) M e ∧ jp ng (M / 2 ^ l) (e + l) = jp ng M e := by
  obtain ⟨c1, c2, c3⟩ := isLow_odd hl h0
  have hle : M / 2 ^ l ≤ M := Int.ediv_le_self _ (by omega)
  obtain ⟨z1, o1⟩ := jz_low h0 h hl
  obtain ⟨z2, o2⟩ := jz_odd c1 (by omega) c2
  have ho : jo (M / 2 ^ l) = jo M := by rw [o2, o1]
  have hj : jl (M / 2 ^ l) = jl M := by unfold jl; rw [ho]
  have he : e + (l : Int) + ((jz (M / 2 ^ l) : Nat) : Int) = e + (jz M : Nat) := by rw [z2, z1]; simp
  have hsp : jsp 52 (M / 2 ^ l) = jsp 52 M := by unfold jsp; rw [hj]
  have hsh : jsh 52 (-1074) (M / 2 ^ l) (e + l) = jsh 52 (-1074) M e := by unfold jsh; rw [hsp, he]
  have hab : jab 52 (-1074) (M / 2 ^ l) (e + l) = jab 52 (-1074) M e := by unfold jab; rw [hsh, he]
  have hg : jgood 52 2047 (-1074) (M / 2 ^ l) (e + l) = jgood 52 2047 (-1074) M e := by unfold jgood; rw [hsp, he, hab]
  have hk : jk 52 2047 (-1074) (M / 2 ^ l) (e + l) = jk 52 2047 (-1074) M e := by
    unfold jk
    rw [if_neg (by omega), if_neg (by omega), if_neg (by omega), if_neg (by omega), hg]
  have hv : jv 52 2047 (-1074) (M / 2 ^ l) (e + l) = jv 52 2047 (-1074) M e := by
    unfold jv
    rw [if_neg (show ¬ M / 2 ^ l ≤ 0 by omega), if_neg (show ¬ M ≤ 0 by omega), hg, hab, hsh, ho]
  exact ⟨hk, by unfold jp; rw [hk, hv]⟩
/-- What has more bits than a float is none. -/
theorem j_long {m e : Int} (h0 : 0 < m) (h : m < 9223372036854775808) (ho : m % 2 = 1) (hb : 54 ≤ blen m) : jk 52 2047 (-1074) m e = false := by
  obtain ⟨z, o⟩ := jz_odd h0 h ho
  have hl : jl m = blen m := by unfold jl; rw [o]; exact bitLen_eq (by omega) (by omega)
  unfold jk
  rw [if_neg (by omega), if_neg (by omega)]
  unfold jgood jsp
  rw [hl, decide_eq_false (by omega), Bool.false_and]
/-- What lies below the least float is none. -/
theorem j_low {m e : Int} (h0 : 0 < m) (h : m < 9223372036854775808) (ho : m % 2 = 1) (he : e < -1074) : jk 52 2047 (-1074) m e = false := by
  obtain ⟨z, o⟩ := jz_odd h0 h ho
  unfold jk
  rw [if_neg (by omega), if_neg (by omega)]
  unfold jgood
  rw [z, decide_eq_false (p := -1074 ≤ e + ((0 : Nat) : Int)) (by omega), Bool.false_and, Bool.and_false]
/-- A finite pattern's number in its one form. -/
theorem float_form {b : Int} (hb : rng b) (hp : pok b = true) {ng : Bool} {m e : Int} (hy : Dy (sg (pneg b) (pmag b) * pw (pexp b)) ng m e) :
    blen m ≤ 63 ∧ m < 9007199254740992 ∧ -1074 ≤ e ∧ e ≤ 2000 ∧ jk 52 2047 (-1074) m e = true ∧ (jp ng m e = b ∨ (b = -9223372036854775808 ∧ jp ng m e = 0 ∧ m = 0)) ∧ (m = 0 → jp ng m e = 0) := by
  obtain ⟨i0, i1, i2, i3⟩ := pmag_in hp
  obtain ⟨j0, j1⟩ := join_parts hb hp
  have hle63 : ∀ x : Int, x < 9007199254740992 → blen x ≤ 63 := fun x hx => blen_le (by
    rw [show (2 : Int) ^ 63 = 9223372036854775808 by decide]; omega)
  by_cases h0 : pmag b = 0
  · rw [h0, sg_zero, Int.zero_mul] at hy
    obtain ⟨e1, e2, e3⟩ := hy.unique Dy.zero
    subst e1 e2 e3
    have z1 : jp false 0 0 = 0 := by decide
    have z2 : jk 52 2047 (-1074) 0 0 = true := by decide
    refine ⟨hle63 0 (by omega), by omega, by omega, by omega, z2, ?_, fun _ => z1⟩
    rw [h0] at j1
    have hv : jp (pneg b) 0 (pexp b) = if pneg b then -9223372036854775808 else 0 := by
      unfold jp jk jv
      cases pneg b <;> simp
    rw [hv] at j1
    cases hn : pneg b
    · rw [hn] at j1
      exact .inl (by rw [z1]; simpa using j1)
    · rw [hn] at j1
      exact .inr ⟨by simpa using j1.symm, z1, rfl⟩
  · have hM : 0 < pmag b := by omega
    obtain ⟨l, hl⟩ := isLow_ex hM
    obtain ⟨e1, e2, e3⟩ := hy.unique (Dy.of (pneg b) hl hM (show -4194304 ≤ pexp b by omega))
    obtain ⟨c1, c2, c3⟩ := isLow_odd hl hM
    have hle : pmag b / 2 ^ l ≤ pmag b := Int.ediv_le_self _ (by omega)
    have hl54 : l < 54 := by
      have h3 : (1 : Int) * 2 ^ l ≤ pmag b / 2 ^ l * 2 ^ l := Int.mul_le_mul_of_nonneg_right (by omega) (Int.le_of_lt (two_pos l))
      rw [c3] at h3
      refine two_lt_iff ?_
      rw [show (2 : Int) ^ 54 = 18014398509481984 by decide]
      omega
    obtain ⟨k1, k2⟩ := j_odd (e := pexp b) (pneg b) hM (by omega) hl
    subst e1 e2 e3
    exact ⟨hle63 _ (by omega), by omega, by omega, by omega, by rw [k1]; exact j0, .inl (by rw [k2]; exact j1), fun hz => by omega⟩
theorem float_yes {w : World} {x : Value} {A : Int} {ng : Bool} {m e : Int} (hx : DNum w x A) (oA : Dok A) (L : Lay64 w) (hT : Tab w) (hy : Dy A ng m e) (h63 : blen m ≤ 63) (hk : jk 52 2047 (-1074) m e = true) :
    Calls Tryd.prog 39 #[x] w fun r w' => r = .returned (.tuple #[.int .i64 (jp ng m e), .bool true]) ∧ Below w.heap.size w w' := by
  refine (float_D hx oA L hT).mono ?_
  rintro r w' ⟨ng', m', e', hy', rfl, hb⟩
  obtain ⟨rfl, rfl, rfl⟩ := hy.unique hy'
  exact ⟨by rw [decide_eq_true h63, hk]; rfl, hb⟩
theorem float_no {w : World} {x : Value} {A : Int} {ng : Bool} {m e : Int} (hx : DNum w x A) (oA : Dok A) (L : Lay64 w) (hT : Tab w) (hy : Dy A ng m e) (hk : blen m ≤ 63 → jk 52 2047 (-1074) m e = false) :
    Calls Tryd.prog 39 #[x] w fun r w' => ∃ c, r = .returned (.tuple #[.int .i64 c, .bool false]) ∧ Below w.heap.size w w' := by
  refine (float_D hx oA L hT).mono ?_
  rintro r w' ⟨ng', m', e', hy', rfl, hb⟩
  obtain ⟨rfl, rfl, rfl⟩ := hy.unique hy'
  refine ⟨if decide (blen m ≤ 63) = true then jp ng m e else 0, ?_, hb⟩
  have hz : (decide (blen m ≤ 63) && jk 52 2047 (-1074) m e) = false := by
    by_cases h : blen m ≤ 63
    · rw [hk h, Bool.and_false]
    · rw [decide_eq_false h, Bool.false_and]
  rw [hz]
/-- A float and a bit far below it. -/
theorem tiny_form {A : Int} {ng : Bool} {m e : Int} (hy : Dy A ng m e) (h0 : 0 < m) (h1 : m < 9007199254740992) (he : -1074 ≤ e) (he2 : e ≤ 2000) :
    ∃ m', Dy (A + pw (e - 60)) ng m' (e - 60) ∧ (blen m' ≤ 63 → jk 52 2047 (-1074) m' (e - 60) = false) ∧ Dok (A + pw (e - 60)) := by
  have ep : pw e = pw (e - 60) * 1152921504606846976 := by
    have := pw_add (e := e - 60) (by omega) 60
    rw [show e - 60 + ((60 : Nat) : Int) = e by omega, show (2 : Int) ^ 60 = 1152921504606846976 by decide] at this
    exact this
  have key : ∀ m' : Int, m' = m * 1152921504606846976 + (if ng then -1 else 1) → Dy (A + pw (e - 60)) ng m' (e - 60) := fun m' hm' => by
    refine ⟨?_, by omega, .inr ?_⟩
    · rw [hy.val, ep, hm', sg_sgn, sg_sgn]
      cases ng <;> simp <;> grind
    · rw [hm']
      cases ng <;> simp <;> omega
  refine ⟨_, key _ rfl, fun hb => ?_, ?_⟩
  · have hlt := blen_lt (m * 1152921504606846976 + (if ng = true then -1 else 1))
    have h2 : (2 : Int) ^ blen (m * 1152921504606846976 + (if ng = true then -1 else 1)) ≤ 2 ^ 63 := two_le hb
    rw [show (2 : Int) ^ 63 = 9223372036854775808 by decide] at h2
    have h3 : 59 < blen (m * 1152921504606846976 + (if ng = true then -1 else 1)) := blen_ge (by
      rw [show (2 : Int) ^ 59 = 576460752303423488 by decide]
      cases ng <;> simp <;> omega)
    exact j_long (by cases ng <;> simp <;> omega) (by omega) (by cases ng <;> simp <;> omega) (by omega)
  · refine (key _ rfl).ok.2 ⟨?_, by omega, by omega⟩
    have e5 : P 5 = 1427247692705959881058285969449495136382746624 := rfl
    have := P_le (show 5 ≤ 2000 by omega)
    cases ng <;> simp <;> omega
theorem half_form {A C : Int} {ng : Bool} {m e : Int} (hy : Dy A ng m e) (h0 : 0 < m) (h1 : m < 9007199254740992) (he : -1074 ≤ e) (he2 : e ≤ 2000) (hC : C * 2 ^ 4194304 = A * pw (-1080 - e)) :
    Dy C ng m (-1080) ∧ Dok C ∧ (blen m ≤ 63 → jk 52 2047 (-1074) m (-1080) = false) := by
  have hd : Dy C ng m (-1080) := by
    refine ⟨scale_inj ?_, by omega, hy.form.elim (fun h => by omega) .inr⟩
    rw [hC, hy.val, Int.mul_assoc, pw_mul (by omega) (by omega), show e + (-1080 - e) = -1080 by omega, Int.mul_assoc]
  have ho : m % 2 = 1 := by rcases hy.form with ⟨h, _⟩ | ⟨_, h⟩ <;> omega
  refine ⟨hd, hd.ok.2 ⟨by have := P2000_big2; omega, by omega, by omega⟩, fun _ => j_low h0 (by omega) ho (by omega)⟩
end Go.Proofs.YtkieaijmjpckdaaDoor

/-
  Package plumbref3: Float, by its contract.
-/
namespace Go.Proofs.YtkieaijmjpckdaaDoor
open Go Go.RowKit Go.Proofs.YtkieaijmjpckdaaDoor.M
set_option linter.unusedSimpArgs false
set_option linter.unusedVariables false

theorem int_smallD {A W : Int} {a : Nat → Int} {m : Nat} (hd : Dig a (m + 1)) (h : W * P (m + 1) + val a (m + 1) = A) (h0 : 0 ≤ W) (hA : A < 9223372036854775808) : W * 1073741824 + a m ≤ 9223372036854775807 ∧ (W * 1073741824 + a m) * P m + val a m = A := by
  have e : (W * 1073741824 + a m) * P m + val a m = A := by
    rw [← h, P_succ, val_succ]; grind
  refine ⟨?_, e⟩
  have h1 := val_nonneg (hd.le (Nat.le_succ m))
  have h2 := P_pos m
  have h3 := (hd m (by omega)).1
  have h4 : (W * 1073741824 + a m) * 1 ≤ (W * 1073741824 + a m) * P m := Int.mul_le_mul_of_nonneg_left (by omega) (by omega)
  omega
/-- What Float tells of a valid number. -/
def flB (x : NumR) : Int := if decide (blen (val x.d x.n) ≤ 63) then jp x.ng (val x.d x.n) x.e else 0
def flK (x : NumR) : Bool := decide (blen (val x.d x.n) ≤ 63) && jk 52 2047 (-1074) (val x.d x.n) x.e
theorem fl_long {x : NumR} (ok : okR x = true) (h : 2 < x.n) : flB x = 0 ∧ flK x = false := by
  have hN := (okR_sane ok).1
  have h1 := val_top hN.1 (by omega) hN.2
  have h2 := P_le (show 2 ≤ x.n - 1 by omega)
  have h3 : P 2 = 1152921504606846976 := rfl
  have ho : 0 < val x.d x.n ∧ val x.d x.n % 2 = 1 := by
    rcases (okR_dy ok).1.form with ⟨q, _⟩ | q
    · omega
    · exact q
  unfold flB flK
  by_cases hb : blen (val x.d x.n) ≤ 63
  · have hlt : val x.d x.n < 9223372036854775808 := by
      have := blen_lt (val x.d x.n)
      have h4 : (2 : Int) ^ blen (val x.d x.n) ≤ 2 ^ 63 := two_le hb
      have h5 : (2 : Int) ^ 63 = 9223372036854775808 := rfl
      omega
    have h54 : 54 ≤ blen (val x.d x.n) := by
      have h6 : (2 : Int) ^ 60 = 1152921504606846976 := rfl
      have := blen_ge (V := val x.d x.n) (k := 60) (by omega)
      omega
    have hk := j_long (e := x.e) ho.1 hlt ho.2 h54
    rw [hk]
    refine ⟨?_, by simp⟩
    rw [if_pos (by simpa using hb)]
    unfold jp
    rw [hk]
    have hg : jgood 52 2047 (-1074) (val x.d x.n) x.e = false := by
      unfold jk at hk
      rwa [if_neg (by omega), if_neg (by omega)] at hk
    simp [jv, hg]
  · simp [hb]
theorem fl_short {x : NumR} (ok : okR x = true) (h : x.n ≤ 2) : flB x = jp x.ng (val x.d x.n) x.e ∧ flK x = jk 52 2047 (-1074) (val x.d x.n) x.e ∧ 0 ≤ val x.d x.n ∧ val x.d x.n < 1152921504606846976 := by
  have hN := (okR_sane ok).1
  have h1 := val_lt hN.1
  have h2 := P_le h
  have h3 : P 2 = 1152921504606846976 := rfl
  have h0 := val_nonneg hN.1
  have hb : blen (val x.d x.n) ≤ 63 := by
    have h6 : (2 : Int) ^ 60 = 1152921504606846976 := rfl
    have := blen_le (V := val x.d x.n) (k := 60) (by omega)
    omega
  unfold flB flK
  simp [hb]
  omega
set_option maxRecDepth 100000 in
set_option maxHeartbeats 1000000 in
theorem rfloat3_any (x : NumR) (w : World) (h : Row w x.ao x.n x.cap x.d) (ok : okR x = true) :
    Calls Tryd.prog 42 #[x.v] w fun r w' => r = .returned (.tuple #[.int .i64 (flB x), .bool (flK x)]) ∧ Below w.heap.size w w' := by
  have he := (okR_dy ok).1.ok.1 (okR_dy ok).2.2
  have hN := (okR_sane ok).1
  by_cases h2 : 2 < x.n
  · obtain ⟨e1, e2⟩ := fl_long ok h2
    rw [e1, e2]
    have hm := h.max
    obtain ⟨ng, ao, n, cap, d, e⟩ := x
    unfold NumR.v
    simp only at *
    clear he hN ok e1 e2
    go_enter Tryd.func42, Tryd.ntmps42
    go_wp2
    go_ret2
    exact ⟨rfl, bel_alloc _ _⟩
  · obtain ⟨e1, e2, v0, v1⟩ := fl_short ok (by omega)
    rw [e1, e2]
    have hJ := fun W => refJoin x.ng (val x.d x.n) x.e W (by unfold rng; omega) (by unfold rng; omega)
    have hm := h.max
    have hl := h.le
    obtain ⟨ng, ao, n, cap, d, e⟩ := x
    unfold NumR.v
    simp only at *
    clear he ok e1 e2
    have HR : Hid (Row (w.alloc (.cells #[.bool ng, .slice ao n cap, .int .i64 e] 31)) ao n cap d) := h.keeps (bel_alloc _ _)
    have HN : Hid (Nrm d n) := hN
    have HV1 : Hid (val d n < 9223372036854775808) := by unfold Hid; omega
    clear v1 h hN
    generalize hjp : jp ng (val d n) e = J at hJ ⊢
    generalize hjk : jk 52 2047 (-1074) (val d n) e = K at hJ ⊢
    clear hjp hjk
    go_enter Tryd.func42, Tryd.ntmps42
    go_wp2
    go_loop [4, 5] (fun wv iv => ∃ (j : Nat) (W : Int), j ≤ n ∧ iv = .int .i64 ((j : Int) - 1) ∧ wv = .int .i64 W ∧ 0 ≤ W ∧ Hid (W * P j + val d j = val d n)) (fun _ iv => (intOf iv + 1).toNat)
    case atStart => exact ⟨n, 0, Nat.le_refl _, rfl, rfl, by omega, by show _ = _; omega⟩
    case round =>
      obtain ⟨j, W, hj, rfl, rfl, hW0, HW⟩ := hrel
      by_cases hj0 : 0 < j
      · obtain ⟨m, rfl⟩ : ∃ m, j = m + 1 := ⟨j - 1, by omega⟩
        have em : ((m + 1 : Nat) : Int) - 1 = m := by omega
        obtain ⟨hb1, hb2⟩ := int_smallD (HN.out.1.le hj) HW.out hW0 HV1.out
        have HB2' : Hid ((W * 1073741824 + d m) * P m + val d m = val d n) := hb2
        obtain ⟨ba, fa, hba, hblt, hca⟩ := HR.out.spot (by omega)
        subst hba
        have c1 := hca m (by omega)
        have dm := HN.out.1 m (by omega)
        rw [em]
        clear hb2 hca
        go_wp2
        go_round
        case rel => exact ⟨m, W * 1073741824 + d m, by omega, rfl, rfl, by omega, HB2'.out⟩
        case measure => simp [intOf]; try omega
      · obtain rfl : j = 0 := by omega
        obtain rfl : W = val d n := by
          have h := HW.out
          rw [show P 0 = 1 from rfl, show val d 0 = 0 from rfl] at h
          omega
        go_wp2_with fail
        refine (hJ _).mono ?_
        rintro r w1 ⟨rfl, rfl⟩
        go_wp2
        go_ret2
        exact ⟨rfl, bel_alloc _ _⟩
end Go.Proofs.YtkieaijmjpckdaaDoor

/-
  plumblaw3.ones: the calls with one number: it answers true, what it keeps is kept, and it turns nothing that was there ahead of the law.
-/
namespace Go.Proofs.YtkieaijmjpckdaaDoor
open Go Go.RowKit Go.Proofs.YtkieaijmjpckdaaDoor.M
set_option linter.unusedSimpArgs false
set_option linter.unusedVariables false

set_option maxRecDepth 100000 in
set_option maxHeartbeats 8000000 in
theorem ones_bad {w0 : World} (a : NumR) (ra : Row w0 a.ao a.n a.cap a.d) (hn : a.n ≤ 2100) (he : rng a.e) (i : Int) (hi : rng i) (w : World) (hb0 : Below w0.heap.size w0 w) {k : Nat} {S : Nat → Prop} (hk : Kept w0.heap.size w k S) (hT : Tab w0) (L : Lay64 w0) (ok : okR a = false) :
    Calls Tryd.prog 11 #[.pointer (some ⟨k, 0, none⟩), a.v, .int .i64 i] w fun e w' => e = .returned (.bool true) ∧ Below w0.heap.size w0 w' ∧ ∃ S', Kept w0.heap.size w' k S' ∧ Fr w w' := by
  have HT : Hid (∀ W, Below w0.heap.size w0 W → Tab W) := fun W hb => hT.keeps hb
  have HL : Hid (∀ W, Below w0.heap.size w0 W → Lay64 W) := fun W hb => L.keeps hb
  clear hT L
  have CL : Hid (∀ W, Below w0.heap.size w0 W → _) := fun W hb => lent3_any a W (ra.keeps hb) (by omega)
  have CV : Hid (∀ W, Below w0.heap.size w0 W → _) := fun W hb => rvalid3_any a W (ra.keeps hb)
  have HA : Hid (Row w0 a.ao a.n a.cap a.d) := ra
  have HOK : Hid (okR a = false) := ok
  have hla := ra.le
  have hma := ra.max
  clear ra ok
  unfold NumR.v at *
  obtain ⟨a_g, a_o, a_n, a_c, a_d, a_e⟩ := a
  simp only at hn he hla hma CL CV HA HOK ⊢
  have HS0 : Hid (w0.heap.size ≤ w.heap.size) := hb0.size
  have HB : Hid (Below w0.heap.size w0 w) := hb0
  have HK : Hid (Kept w0.heap.size w k (fun g => g < w.heap.size)) := hk.old
  have FR : Hid (Fr w w) := Fr.of (bel_refl w)
  clear hb0 hk
  go_enter Tryd.func11, Tryd.ntmps11
  have hbx : Below w.heap.size w (w.alloc (.cells #[.bool a_g, .slice a_o a_n a_c, .int .i64 a_e] 31)) := bel_alloc _ _
  have a_k : (w.alloc (.cells #[.bool a_g, .slice a_o a_n a_c, .int .i64 a_e] 31)).heap[w.heap.size]? = some (.cells #[.bool a_g, .slice a_o a_n a_c, .int .i64 a_e] 31 (0, 0)) := heap_a1 _ _
  go_wp2_with fail
  generalize (w.alloc (.cells #[.bool a_g, .slice a_o a_n a_c, .int .i64 a_e] 31)) = x1 at hbx a_k ⊢
  have Z2 : Hid (w.heap.size ≤ x1.heap.size) := hbx.size
  have FR : Hid (Fr w x1) := FR.out.trans (Fr.of hbx)
  have HB : Hid (Below w0.heap.size w0 x1) := HB.out.trans ((hbx).mono HB.out.size)
  have HK : Hid (Kept w0.heap.size x1 k (fun g => g < w.heap.size)) := HK.out.keeps hbx
  clear hbx
  refine (CL.out _ HB.out).mono ?_
  rintro _ y2 ⟨c_b, c_c, rfl, c_O', hw⟩
  have Z3 : Hid (x1.heap.size ≤ y2.heap.size) := hw.size
  have a_k := (hw.block _ (Array.getElem?_eq_some_iff.1 a_k).1).trans a_k
  have FR : Hid (Fr w y2) := FR.out.trans (Fr.of hw)
  have HB : Hid (Below w0.heap.size w0 y2) := HB.out.trans ((hw).mono HB.out.size)
  have HK : Hid (Kept w0.heap.size y2 k (fun g => g < w.heap.size)) := HK.out.keeps hw
  have c_O : Hid (Out x1.heap.size y2 (.slice (some ⟨c_b, 0, none⟩) (a_n + 3) c_c) (a_n + 3) (lentD a_d a_n)) := c_O'
  have c_L : Hid (x1.heap.size ≤ c_b ∧ c_b < y2.heap.size) := c_O.out.ge rfl
  have c_M := lent_cap c_O.out
  clear c_O' hw
  have x_R := lent_row c_O.out
  have hbx : Below y2.heap.size y2 (y2.alloc (.cells #[.bool a_g, .slice (some ⟨c_b, 0, none⟩) a_n c_c, .int .i64 a_e] 31)) := bel_alloc _ _
  have x_k : (y2.alloc (.cells #[.bool a_g, .slice (some ⟨c_b, 0, none⟩) a_n c_c, .int .i64 a_e] 31)).heap[y2.heap.size]? = some (.cells #[.bool a_g, .slice (some ⟨c_b, 0, none⟩) a_n c_c, .int .i64 a_e] 31 (0, 0)) := heap_a1 _ _
  have u_k := (hbx.block _ (Array.getElem?_eq_some_iff.1 a_k).1).trans a_k
  have f_a0 := blkC u_k 0 rfl
  have f_a1 := blkC u_k 1 rfl
  have f_a2 := blkC u_k 2 rfl
  clear u_k
  go_wp2_with fail
  clear f_a0 f_a1 f_a2
  generalize (y2.alloc (.cells #[.bool a_g, .slice (some ⟨c_b, 0, none⟩) a_n c_c, .int .i64 a_e] 31)) = x3 at hbx x_k ⊢
  have Z4 : Hid (y2.heap.size ≤ x3.heap.size) := hbx.size
  have a_k := (hbx.block _ (Array.getElem?_eq_some_iff.1 a_k).1).trans a_k
  have c_O : Hid (Out x1.heap.size x3 (.slice (some ⟨c_b, 0, none⟩) (a_n + 3) c_c) (a_n + 3) (lentD a_d a_n)) := c_O.out.stays hbx
  have FR : Hid (Fr w x3) := FR.out.trans (Fr.of hbx)
  have HB : Hid (Below w0.heap.size w0 x3) := HB.out.trans ((hbx).mono HB.out.size)
  have HK : Hid (Kept w0.heap.size x3 k (fun g => g < w.heap.size)) := HK.out.keeps hbx
  clear hbx
  refine (CV.out _ HB.out).mono ?_
  rintro _ y4 ⟨rfl, hw⟩
  rw [HOK.out]
  have Z5 : Hid (x3.heap.size ≤ y4.heap.size) := hw.size
  have a_k := (hw.block _ (Array.getElem?_eq_some_iff.1 a_k).1).trans a_k
  have x_k := (hw.block _ (Array.getElem?_eq_some_iff.1 x_k).1).trans x_k
  have c_O : Hid (Out x1.heap.size y4 (.slice (some ⟨c_b, 0, none⟩) (a_n + 3) c_c) (a_n + 3) (lentD a_d a_n)) := c_O.out.stays hw
  have FR : Hid (Fr w y4) := FR.out.trans (Fr.of hw)
  have HB : Hid (Below w0.heap.size w0 y4) := HB.out.trans ((hw).mono HB.out.size)
  have HK : Hid (Kept w0.heap.size y4 k (fun g => g < w.heap.size)) := HK.out.keeps hw
  clear hw x_R
  have f_x0 := blkC x_k 0 rfl
  have f_x1 := blkC x_k 1 rfl
  have f_x2 := blkC x_k 2 rfl
  go_wp2_with fail
  clear f_x0 f_x1 f_x2
  refine (dneg_bad ⟨a_g, some ⟨c_b, 0, none⟩, a_n, c_c, a_d, a_e⟩ _ (lent_row c_O.out) HOK.out).mono ?_
  rintro _ y5 ⟨rfl, hw⟩
  have Z6 : Hid (y4.heap.size ≤ y5.heap.size) := hw.size
  have a_k := (hw.block _ (Array.getElem?_eq_some_iff.1 a_k).1).trans a_k
  have x_k := (hw.block _ (Array.getElem?_eq_some_iff.1 x_k).1).trans x_k
  have c_O : Hid (Out x1.heap.size y5 (.slice (some ⟨c_b, 0, none⟩) (a_n + 3) c_c) (a_n + 3) (lentD a_d a_n)) := c_O.out.stays hw
  have FR : Hid (Fr w y5) := FR.out.trans (Fr.of hw)
  have HB : Hid (Below w0.heap.size w0 y5) := HB.out.trans ((hw).mono HB.out.size)
  have HK : Hid (Kept w0.heap.size y5 k (fun g => g < w.heap.size)) := HK.out.keeps hw
  clear hw
  unfold zeroV
  have hbx : Below y5.heap.size y5 (y5.alloc (.cells #[.bool false, .slice none 0 0, .int .i64 0] 31)) := bel_alloc _ _
  have p_k : (y5.alloc (.cells #[.bool false, .slice none 0 0, .int .i64 0] 31)).heap[y5.heap.size]? = some (.cells #[.bool false, .slice none 0 0, .int .i64 0] 31 (0, 0)) := heap_a1 _ _
  have u_k := (hbx.block _ (Array.getElem?_eq_some_iff.1 x_k).1).trans x_k
  have f_x0 := blkC u_k 0 rfl
  have f_x1 := blkC u_k 1 rfl
  have f_x2 := blkC u_k 2 rfl
  clear u_k
  go_wp2_with fail
  clear f_x0 f_x1 f_x2
  generalize (y5.alloc (.cells #[.bool false, .slice none 0 0, .int .i64 0] 31)) = x6 at hbx p_k ⊢
  have Z7 : Hid (y5.heap.size ≤ x6.heap.size) := hbx.size
  have a_k := (hbx.block _ (Array.getElem?_eq_some_iff.1 a_k).1).trans a_k
  have x_k := (hbx.block _ (Array.getElem?_eq_some_iff.1 x_k).1).trans x_k
  have c_O : Hid (Out x1.heap.size x6 (.slice (some ⟨c_b, 0, none⟩) (a_n + 3) c_c) (a_n + 3) (lentD a_d a_n)) := c_O.out.stays hbx
  have FR : Hid (Fr w x6) := FR.out.trans (Fr.of hbx)
  have HB : Hid (Below w0.heap.size w0 x6) := HB.out.trans ((hbx).mono HB.out.size)
  have HK : Hid (Kept w0.heap.size x6 k (fun g => g < w.heap.size)) := HK.out.keeps hbx
  clear hbx
  refine (dabs_bad ⟨a_g, some ⟨c_b, 0, none⟩, a_n, c_c, a_d, a_e⟩ _ (lent_row c_O.out) HOK.out).mono ?_
  rintro _ y7 ⟨rfl, hw⟩
  have Z8 : Hid (x6.heap.size ≤ y7.heap.size) := hw.size
  have a_k := (hw.block _ (Array.getElem?_eq_some_iff.1 a_k).1).trans a_k
  have x_k := (hw.block _ (Array.getElem?_eq_some_iff.1 x_k).1).trans x_k
  have p_k := (hw.block _ (Array.getElem?_eq_some_iff.1 p_k).1).trans p_k
  have c_O : Hid (Out x1.heap.size y7 (.slice (some ⟨c_b, 0, none⟩) (a_n + 3) c_c) (a_n + 3) (lentD a_d a_n)) := c_O.out.stays hw
  have FR : Hid (Fr w y7) := FR.out.trans (Fr.of hw)
  have HB : Hid (Below w0.heap.size w0 y7) := HB.out.trans ((hw).mono HB.out.size)
  have HK : Hid (Kept w0.heap.size y7 k (fun g => g < w.heap.size)) := HK.out.keeps hw
  clear hw
  unfold zeroV
  have hbx : Below y7.heap.size y7 (y7.alloc (.cells #[.bool false, .slice none 0 0, .int .i64 0] 31)) := bel_alloc _ _
  have q_k : (y7.alloc (.cells #[.bool false, .slice none 0 0, .int .i64 0] 31)).heap[y7.heap.size]? = some (.cells #[.bool false, .slice none 0 0, .int .i64 0] 31 (0, 0)) := heap_a1 _ _
  have u_k := (hbx.block _ (Array.getElem?_eq_some_iff.1 x_k).1).trans x_k
  have f_x0 := blkC u_k 0 rfl
  have f_x1 := blkC u_k 1 rfl
  have f_x2 := blkC u_k 2 rfl
  clear u_k
  go_wp2_with fail
  clear f_x0 f_x1 f_x2
  generalize (y7.alloc (.cells #[.bool false, .slice none 0 0, .int .i64 0] 31)) = x8 at hbx q_k ⊢
  have Z9 : Hid (y7.heap.size ≤ x8.heap.size) := hbx.size
  have a_k := (hbx.block _ (Array.getElem?_eq_some_iff.1 a_k).1).trans a_k
  have x_k := (hbx.block _ (Array.getElem?_eq_some_iff.1 x_k).1).trans x_k
  have p_k := (hbx.block _ (Array.getElem?_eq_some_iff.1 p_k).1).trans p_k
  have c_O : Hid (Out x1.heap.size x8 (.slice (some ⟨c_b, 0, none⟩) (a_n + 3) c_c) (a_n + 3) (lentD a_d a_n)) := c_O.out.stays hbx
  have FR : Hid (Fr w x8) := FR.out.trans (Fr.of hbx)
  have HB : Hid (Below w0.heap.size w0 x8) := HB.out.trans ((hbx).mono HB.out.size)
  have HK : Hid (Kept w0.heap.size x8 k (fun g => g < w.heap.size)) := HK.out.keeps hbx
  clear hbx
  refine (dsignF_any ⟨a_g, some ⟨c_b, 0, none⟩, a_n, c_c, a_d, a_e⟩ _ (lent_row c_O.out)).mono ?_
  rintro _ y9 ⟨rfl, hw⟩
  rw [show okR ⟨a_g, some ⟨c_b, 0, none⟩, a_n, c_c, a_d, a_e⟩ = false from HOK.out]
  have Z10 : Hid (x8.heap.size ≤ y9.heap.size) := hw.size
  have a_k := (hw.block _ (Array.getElem?_eq_some_iff.1 a_k).1).trans a_k
  have x_k := (hw.block _ (Array.getElem?_eq_some_iff.1 x_k).1).trans x_k
  have p_k := (hw.block _ (Array.getElem?_eq_some_iff.1 p_k).1).trans p_k
  have q_k := (hw.block _ (Array.getElem?_eq_some_iff.1 q_k).1).trans q_k
  have c_O : Hid (Out x1.heap.size y9 (.slice (some ⟨c_b, 0, none⟩) (a_n + 3) c_c) (a_n + 3) (lentD a_d a_n)) := c_O.out.stays hw
  have FR : Hid (Fr w y9) := FR.out.trans (Fr.of hw)
  have HB : Hid (Below w0.heap.size w0 y9) := HB.out.trans ((hw).mono HB.out.size)
  have HK : Hid (Kept w0.heap.size y9 k (fun g => g < w.heap.size)) := HK.out.keeps hw
  clear hw
  have f_x0 := blkC x_k 0 rfl
  have f_x1 := blkC x_k 1 rfl
  have f_x2 := blkC x_k 2 rfl
  go_wp2_with fail
  clear f_x0 f_x1 f_x2
  refine (dfloat_any ⟨a_g, some ⟨c_b, 0, none⟩, a_n, c_c, a_d, a_e⟩ _ (lent_row c_O.out) (HL.out _ HB.out) (HT.out _ HB.out) he).mono ?_
  rintro _ y10 ⟨rfl, hw⟩
  rw [show okR ⟨a_g, some ⟨c_b, 0, none⟩, a_n, c_c, a_d, a_e⟩ = false from HOK.out]
  have Z11 : Hid (y9.heap.size ≤ y10.heap.size) := hw.size
  have a_k := (hw.block _ (Array.getElem?_eq_some_iff.1 a_k).1).trans a_k
  have x_k := (hw.block _ (Array.getElem?_eq_some_iff.1 x_k).1).trans x_k
  have p_k := (hw.block _ (Array.getElem?_eq_some_iff.1 p_k).1).trans p_k
  have q_k := (hw.block _ (Array.getElem?_eq_some_iff.1 q_k).1).trans q_k
  have c_O : Hid (Out x1.heap.size y10 (.slice (some ⟨c_b, 0, none⟩) (a_n + 3) c_c) (a_n + 3) (lentD a_d a_n)) := c_O.out.stays hw
  have FR : Hid (Fr w y10) := FR.out.trans (Fr.of hw)
  have HB : Hid (Below w0.heap.size w0 y10) := HB.out.trans ((hw).mono HB.out.size)
  have HK : Hid (Kept w0.heap.size y10 k (fun g => g < w.heap.size)) := HK.out.keeps hw
  clear hw
  have f_x0 := blkC x_k 0 rfl
  have f_x1 := blkC x_k 1 rfl
  have f_x2 := blkC x_k 2 rfl
  go_wp2_with fail
  clear f_x0 f_x1 f_x2
  refine (dscale_bad ⟨a_g, some ⟨c_b, 0, none⟩, a_n, c_c, a_d, a_e⟩ _ (lent_row c_O.out) i HOK.out).mono ?_
  rintro _ y11 ⟨rfl, hw⟩
  have Z12 : Hid (y10.heap.size ≤ y11.heap.size) := hw.size
  have a_k := (hw.block _ (Array.getElem?_eq_some_iff.1 a_k).1).trans a_k
  have x_k := (hw.block _ (Array.getElem?_eq_some_iff.1 x_k).1).trans x_k
  have p_k := (hw.block _ (Array.getElem?_eq_some_iff.1 p_k).1).trans p_k
  have q_k := (hw.block _ (Array.getElem?_eq_some_iff.1 q_k).1).trans q_k
  have c_O : Hid (Out x1.heap.size y11 (.slice (some ⟨c_b, 0, none⟩) (a_n + 3) c_c) (a_n + 3) (lentD a_d a_n)) := c_O.out.stays hw
  have FR : Hid (Fr w y11) := FR.out.trans (Fr.of hw)
  have HB : Hid (Below w0.heap.size w0 y11) := HB.out.trans ((hw).mono HB.out.size)
  have HK : Hid (Kept w0.heap.size y11 k (fun g => g < w.heap.size)) := HK.out.keeps hw
  clear hw
  unfold zeroV
  have hbx : Below y11.heap.size y11 (y11.alloc (.cells #[.bool false, .slice none 0 0, .int .i64 0] 31)) := bel_alloc _ _
  have r_k : (y11.alloc (.cells #[.bool false, .slice none 0 0, .int .i64 0] 31)).heap[y11.heap.size]? = some (.cells #[.bool false, .slice none 0 0, .int .i64 0] 31 (0, 0)) := heap_a1 _ _
  have u_k := (hbx.block _ (Array.getElem?_eq_some_iff.1 x_k).1).trans x_k
  have f_x0 := blkC u_k 0 rfl
  have f_x1 := blkC u_k 1 rfl
  have f_x2 := blkC u_k 2 rfl
  clear u_k
  go_wp2_with fail
  clear f_x0 f_x1 f_x2
  generalize (y11.alloc (.cells #[.bool false, .slice none 0 0, .int .i64 0] 31)) = x12 at hbx r_k ⊢
  have Z13 : Hid (y11.heap.size ≤ x12.heap.size) := hbx.size
  have a_k := (hbx.block _ (Array.getElem?_eq_some_iff.1 a_k).1).trans a_k
  have x_k := (hbx.block _ (Array.getElem?_eq_some_iff.1 x_k).1).trans x_k
  have p_k := (hbx.block _ (Array.getElem?_eq_some_iff.1 p_k).1).trans p_k
  have q_k := (hbx.block _ (Array.getElem?_eq_some_iff.1 q_k).1).trans q_k
  have c_O : Hid (Out x1.heap.size x12 (.slice (some ⟨c_b, 0, none⟩) (a_n + 3) c_c) (a_n + 3) (lentD a_d a_n)) := c_O.out.stays hbx
  have FR : Hid (Fr w x12) := FR.out.trans (Fr.of hbx)
  have HB : Hid (Below w0.heap.size w0 x12) := HB.out.trans ((hbx).mono HB.out.size)
  have HK : Hid (Kept w0.heap.size x12 k (fun g => g < w.heap.size)) := HK.out.keeps hbx
  clear hbx
  refine (dvalid_any a_g (some ⟨c_b, 0, none⟩) a_n c_c a_d a_e _ (lent_row c_O.out)).mono ?_
  rintro _ y13 ⟨rfl, hw⟩
  rw [show okN a_g a_d a_n a_e = false from HOK.out]
  have Z14 : Hid (x12.heap.size ≤ y13.heap.size) := hw.size
  have a_k := (hw.block _ (Array.getElem?_eq_some_iff.1 a_k).1).trans a_k
  have x_k := (hw.block _ (Array.getElem?_eq_some_iff.1 x_k).1).trans x_k
  have p_k := (hw.block _ (Array.getElem?_eq_some_iff.1 p_k).1).trans p_k
  have q_k := (hw.block _ (Array.getElem?_eq_some_iff.1 q_k).1).trans q_k
  have r_k := (hw.block _ (Array.getElem?_eq_some_iff.1 r_k).1).trans r_k
  have c_O : Hid (Out x1.heap.size y13 (.slice (some ⟨c_b, 0, none⟩) (a_n + 3) c_c) (a_n + 3) (lentD a_d a_n)) := c_O.out.stays hw
  have FR : Hid (Fr w y13) := FR.out.trans (Fr.of hw)
  have HB : Hid (Below w0.heap.size w0 y13) := HB.out.trans ((hw).mono HB.out.size)
  have HK : Hid (Kept w0.heap.size y13 k (fun g => g < w.heap.size)) := HK.out.keeps hw
  clear hw
  have f_a0 := blkC a_k 0 rfl
  have f_a1 := blkC a_k 1 rfl
  have f_a2 := blkC a_k 2 rfl
  go_wp2_with fail
  clear f_a0 f_a1 f_a2
  refine (back_any c_O.out (RowX.of0 HA.out HB.out (by have h1 := c_L.out; have HS0q := HS0.out; have Z2q := Z2.out; have Z3q := Z3.out; have Z4q := Z4.out; have Z5q := Z5.out; have Z6q := Z6.out; have Z7q := Z7.out; have Z8q := Z8.out; have Z9q := Z9.out; have Z10q := Z10.out; have Z11q := Z11.out; have Z12q := Z12.out; have Z13q := Z13.out; have Z14q := Z14.out; omega)) (HA.out.keeps HB.out) (by omega)).mono ?_
  rintro _ y14 ⟨rfl, hw⟩
  have Z15 : Hid (y13.heap.size ≤ y14.heap.size) := hw.size
  obtain ⟨t_cur, t_z, t_t⟩ := c_O.out.typed (g := c_b) rfl
  have a_k := numblk_wr hw t_t (by decide) a_k
  have x_k := numblk_wr hw t_t (by decide) x_k
  have p_k := numblk_wr hw t_t (by decide) p_k
  have q_k := numblk_wr hw t_t (by decide) q_k
  have r_k := numblk_wr hw t_t (by decide) r_k
  have FR : Hid (Fr w y14) := FR.out.wr hw (by have h1 := c_L.out; have HS0q := HS0.out; have Z2q := Z2.out; have Z3q := Z3.out; have Z4q := Z4.out; have Z5q := Z5.out; have Z6q := Z6.out; have Z7q := Z7.out; have Z8q := Z8.out; have Z9q := Z9.out; have Z10q := Z10.out; have Z11q := Z11.out; have Z12q := Z12.out; have Z13q := Z13.out; have Z14q := Z14.out; omega) (by have HS0q := HS0.out; have Z2q := Z2.out; have Z3q := Z3.out; have Z4q := Z4.out; have Z5q := Z5.out; have Z6q := Z6.out; have Z7q := Z7.out; have Z8q := Z8.out; have Z9q := Z9.out; have Z10q := Z10.out; have Z11q := Z11.out; have Z12q := Z12.out; have Z13q := Z13.out; have Z14q := Z14.out; omega)
  have HB : Hid (Below w0.heap.size w0 y14) := hw.below HB.out HB.out.size (by have h1 := c_L.out; have h0 := HS0.out; have HS0q := HS0.out; have Z2q := Z2.out; have Z3q := Z3.out; have Z4q := Z4.out; have Z5q := Z5.out; have Z6q := Z6.out; have Z7q := Z7.out; have Z8q := Z8.out; have Z9q := Z9.out; have Z10q := Z10.out; have Z11q := Z11.out; have Z12q := Z12.out; have Z13q := Z13.out; have Z14q := Z14.out; omega)
  have HK : Hid (Kept w0.heap.size y14 k (fun g => g < w.heap.size)) := HK.out.wr hw (fun (h : c_b < w.heap.size) => by have h1 := c_L.out; have HS0q := HS0.out; have Z2q := Z2.out; have Z3q := Z3.out; have Z4q := Z4.out; have Z5q := Z5.out; have Z6q := Z6.out; have Z7q := Z7.out; have Z8q := Z8.out; have Z9q := Z9.out; have Z10q := Z10.out; have Z11q := Z11.out; have Z12q := Z12.out; have Z13q := Z13.out; have Z14q := Z14.out; omega) t_t
  clear hw t_t
  have f_p0 := blkC p_k 0 rfl
  have f_p1 := blkC p_k 1 rfl
  have f_p2 := blkC p_k 2 rfl
  have f_a0 := blkC a_k 0 rfl
  have f_a1 := blkC a_k 1 rfl
  have f_a2 := blkC a_k 2 rfl
  go_wp2_with fail
  clear f_p0 f_p1 f_p2 f_a0 f_a1 f_a2
  refine (is_bad _).mono ?_
  rintro _ y15 ⟨rfl, hw⟩
  have Z16 : Hid (y14.heap.size ≤ y15.heap.size) := hw.size
  have a_k := (hw.block _ (Array.getElem?_eq_some_iff.1 a_k).1).trans a_k
  have x_k := (hw.block _ (Array.getElem?_eq_some_iff.1 x_k).1).trans x_k
  have p_k := (hw.block _ (Array.getElem?_eq_some_iff.1 p_k).1).trans p_k
  have q_k := (hw.block _ (Array.getElem?_eq_some_iff.1 q_k).1).trans q_k
  have r_k := (hw.block _ (Array.getElem?_eq_some_iff.1 r_k).1).trans r_k
  have FR : Hid (Fr w y15) := FR.out.trans (Fr.of hw)
  have HB : Hid (Below w0.heap.size w0 y15) := HB.out.trans ((hw).mono HB.out.size)
  have HK : Hid (Kept w0.heap.size y15 k (fun g => g < w.heap.size)) := HK.out.keeps hw
  clear hw
  have f_q0 := blkC q_k 0 rfl
  have f_q1 := blkC q_k 1 rfl
  have f_q2 := blkC q_k 2 rfl
  have f_a0 := blkC a_k 0 rfl
  have f_a1 := blkC a_k 1 rfl
  have f_a2 := blkC a_k 2 rfl
  go_wp2_with fail
  clear f_q0 f_q1 f_q2 f_a0 f_a1 f_a2
  refine (is_bad _).mono ?_
  rintro _ y16 ⟨rfl, hw⟩
  have Z17 : Hid (y15.heap.size ≤ y16.heap.size) := hw.size
  have a_k := (hw.block _ (Array.getElem?_eq_some_iff.1 a_k).1).trans a_k
  have x_k := (hw.block _ (Array.getElem?_eq_some_iff.1 x_k).1).trans x_k
  have p_k := (hw.block _ (Array.getElem?_eq_some_iff.1 p_k).1).trans p_k
  have q_k := (hw.block _ (Array.getElem?_eq_some_iff.1 q_k).1).trans q_k
  have r_k := (hw.block _ (Array.getElem?_eq_some_iff.1 r_k).1).trans r_k
  have FR : Hid (Fr w y16) := FR.out.trans (Fr.of hw)
  have HB : Hid (Below w0.heap.size w0 y16) := HB.out.trans ((hw).mono HB.out.size)
  have HK : Hid (Kept w0.heap.size y16 k (fun g => g < w.heap.size)) := HK.out.keeps hw
  clear hw
  have f_r0 := blkC r_k 0 rfl
  have f_r1 := blkC r_k 1 rfl
  have f_r2 := blkC r_k 2 rfl
  have f_a0 := blkC a_k 0 rfl
  have f_a1 := blkC a_k 1 rfl
  have f_a2 := blkC a_k 2 rfl
  go_wp2_with fail
  clear f_r0 f_r1 f_r2 f_a0 f_a1 f_a2
  refine (is_bad _).mono ?_
  rintro _ y17 ⟨rfl, hw⟩
  have Z18 : Hid (y16.heap.size ≤ y17.heap.size) := hw.size
  have a_k := (hw.block _ (Array.getElem?_eq_some_iff.1 a_k).1).trans a_k
  have x_k := (hw.block _ (Array.getElem?_eq_some_iff.1 x_k).1).trans x_k
  have p_k := (hw.block _ (Array.getElem?_eq_some_iff.1 p_k).1).trans p_k
  have q_k := (hw.block _ (Array.getElem?_eq_some_iff.1 q_k).1).trans q_k
  have r_k := (hw.block _ (Array.getElem?_eq_some_iff.1 r_k).1).trans r_k
  have FR : Hid (Fr w y17) := FR.out.trans (Fr.of hw)
  have HB : Hid (Below w0.heap.size w0 y17) := HB.out.trans ((hw).mono HB.out.size)
  have HK : Hid (Kept w0.heap.size y17 k (fun g => g < w.heap.size)) := HK.out.keeps hw
  clear hw
  go_wp2
  go_ret
  exact ⟨rfl, HB.out, _, HK.out, FR.out⟩
end Go.Proofs.YtkieaijmjpckdaaDoor
