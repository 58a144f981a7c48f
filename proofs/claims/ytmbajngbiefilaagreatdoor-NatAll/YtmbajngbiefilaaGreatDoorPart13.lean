/-
  Parts of the proof, one behind another.
-/
import Derived.Test.YtmbajngbiefilaaGreatDoorPart12
import Derived.Test.YtmbajngbiefilaaGreatDoorPart4
import Derived.Test.YtmbajngbiefilaaGreatDoorPart7
import Derived.Test.YtmbajngbiefilaaGreatDoorPart5
import Derived.Lib.ItoaNum
import Derived.Lib.ItoaLen
/-
  plumblaw2's shifts, rooted, powers: for every valid list, every number: by contracts.
-/
namespace Go.Proofs.YtmbajngbiefilaaGreatDoor
open Go Go.RowKit Go.Proofs.YtmbajngbiefilaaGreatDoor.M
set_option linter.unusedSimpArgs false
set_option linter.unusedVariables false

/-- Behind a part of the law: blocks of ints are left, what is kept is kept, in blocks of S or new ones. -/
def Post (B k : Nat) (S : Nat → Prop) (w w' : World) : Prop := Ik B w w' ∧ ∃ S', Kept B w' k S' ∧ ∀ g, S' g → S g ∨ w.heap.size ≤ g
theorem Post.of {B k : Nat} {S : Nat → Prop} {w w' : World} (h : Kept B w k S) (hb : Below w.heap.size w w') (hB : B ≤ w.heap.size) : Post B k S w w' := ⟨Ik.of hb hB, S, h.keeps hb, fun g h => .inl h⟩
/-- What the parts are handed: x, lent; a, as it came in; both of A. -/
structure OneIn (w0 w : World) (k : Nat) (S : Nat → Prop) (gc n cc : Nat) (ao : Option Addr) (ca : Nat) (a : Nat → Int) : Prop where
  rx : Row w (some ⟨gc, 0, none⟩) n cc a
  ra : Row w0 ao n ca a
  ok : okB a n = true
  below : Below w0.heap.size w0 w
  kept : Kept w0.heap.size w k S
theorem OneIn.nrm {w0 w : World} {k : Nat} {S : Nat → Prop} {gc n cc : Nat} {ao : Option Addr} {ca : Nat} {a : Nat → Int} (h : OneIn w0 w k S gc n cc ao ca a) : n ≤ 2000 ∧ Nrm a n := okB_out h.ok
theorem OneIn.lt {w0 w : World} {k : Nat} {S : Nat → Prop} {gc n cc : Nat} {ao : Option Addr} {ca : Nat} {a : Nat → Int} (h : OneIn w0 w k S gc n cc ao ca a) : val a n < P 2000 := Int.lt_of_lt_of_le (val_lt h.nrm.2.1) (P_le h.nrm.1)
theorem OneIn.numX {w0 w : World} {k : Nat} {S : Nat → Prop} {gc n cc : Nat} {ao : Option Addr} {ca : Nat} {a : Nat → Int} (h : OneIn w0 w k S gc n cc ao ca a) : Num w (.slice (some ⟨gc, 0, none⟩) n cc) (val a n) := h.rx.num0 h.nrm.2
theorem OneIn.row {w0 w w' : World} {k : Nat} {S : Nat → Prop} {gc n cc : Nat} {ao : Option Addr} {ca : Nat} {a : Nat → Int} (h : OneIn w0 w k S gc n cc ao ca a) (hi : Below w0.heap.size w w') : Row w' ao n ca a := h.ra.stays (h.below.trans hi) (Nat.le_refl _)
theorem OneIn.size {w0 w : World} {k : Nat} {S : Nat → Prop} {gc n cc : Nat} {ao : Option Addr} {ca : Nat} {a : Nat → Int} (h : OneIn w0 w k S gc n cc ao ca a) : w0.heap.size ≤ w.heap.size := h.below.size
theorem zero_len {w w' : World} {ao : Option Addr} {n cap : Nat} (h : Ans w w' 0 (.slice ao n cap)) : n = 0 := h.num.zero.1 rfl
theorem shift_big {A : Int} (hA : 0 < A) {k : Nat} (hk : 60000 ≤ k) : P 2000 ≤ A * 2 ^ k := by
  rw [P2000_two]
  have h1 : (2 : Int) ^ 60000 ≤ 2 ^ k := two_le hk
  have h2 : 1 * 2 ^ k ≤ A * 2 ^ k := Int.mul_le_mul_of_nonneg_right (by omega) (Int.le_of_lt (two_pos k))
  rw [Int.one_mul] at h2
  exact Int.le_trans h1 h2
theorem shift_low {A : Int} (h0 : 0 ≤ A) (hA : A < P 2000) {k : Nat} (hk : 60000 ≤ k) : A / 2 ^ k = 0 := by
  refine Int.ediv_eq_zero_of_lt h0 (Int.lt_of_lt_of_le hA ?_)
  rw [P2000_two]
  exact two_le hk
theorem kept_low {B k : Nat} {w : World} {S : Nat → Prop} (h : Kept B w k S) : Kept B w k (fun g => S g ∧ g < w.heap.size) := by
  obtain ⟨m, v, u, n, d, hm, hk, h1, h2⟩ := h
  exact ⟨m, v, u, n, d, hm, hk, fun i hi g hg => ⟨h1 i hi g hg, ((hk.ans i hi).ge hg).2⟩, fun i hi g hg => ⟨h2 i hi g hg, ((hk.was i hi).ge hg).2⟩⟩
set_option maxRecDepth 100000 in
set_option maxHeartbeats 2000000 in
theorem shifts_any {w0 w : World} {k : Nat} {S : Nat → Prop} {gc n cc : Nat} {ao : Option Addr} {ca : Nat} {a : Nat → Int} (h : OneIn w0 w k S gc n cc ao ca a) (i : Int) (hi : rng i) :
    Calls Tryz.prog 28 #[.pointer (some ⟨k, 0, none⟩), .slice (some ⟨gc, 0, none⟩) n cc, .slice ao n ca, .int .i64 i] w fun e w' => e = .returned (.bool true) ∧ Post w0.heap.size k S w w' := by
  have HI : Hid (OneIn w0 w k S gc n cc ao ca a) := h
  have hl := h.ra.le
  have hm := h.ra.max
  have hl2 := h.rx.le
  have hm2 := h.rx.max
  have hn := h.nrm.1
  clear h
  by_cases i0 : i < 0
  · go_enter Tryz.func28, Tryz.ntmps28
    go_wp2_with fail
    refine (shl_neg _ _ _ _ i _ HI.out.rx HI.out.ok i0).mono ?_
    rintro e w1 ⟨rfl, hw⟩
    replace hw := hw.symm
    subst hw
    go_wp2_with fail
    refine (shr_neg _ _ _ _ i _ HI.out.rx HI.out.ok i0).mono ?_
    rintro e w1 ⟨rfl, hw⟩
    replace hw := hw.symm
    subst hw
    go_wp2
    go_ret
    exact ⟨rfl, Post.of HI.out.kept (bel_refl _) HI.out.size⟩
  · obtain ⟨j, rfl⟩ : ∃ j : Nat, i = j := ⟨i.toNat, by omega⟩
    have HJ : Hid ((j : Int) < 9223372036854775808) := by unfold rng at hi; show _ < _; omega
    have HSL : Hid (Calls Tryz.prog 19 #[.slice (some ⟨gc, 0, none⟩) n cc, .int .i64 j] w fun e w' => ∃ v er, e = .returned (.tuple #[v, .int .i64 er]) ∧ Fit w w' (val a n * 2 ^ j) v er) := shl_num HI.out.numX HI.out.lt j (by have := HJ.out; omega)
    have HSR : Hid (∀ W : World, Num W (.slice (some ⟨gc, 0, none⟩) n cc) (val a n) → Calls Tryz.prog 20 #[.slice (some ⟨gc, 0, none⟩) n cc, .int .i64 j] W fun e w' => ∃ v, e = .returned (.tuple #[v, .int .i64 0]) ∧ Ans W w' (val a n / 2 ^ j) v) := fun W hW => shr_num hW HI.out.lt j HJ.out
    clear hi HJ
    go_enter Tryz.func28, Tryz.ntmps28
    go_wp2_with fail
    refine HSL.out.mono ?_
    rintro e w1 ⟨vl, el, rfl, hF⟩
    have HF : Hid (FitA w.heap.size w1 (val a n * 2 ^ j) vl el) := hF.fitA
    have HB1 : Hid (Below w.heap.size w w1) := hF.1
    clear hF
    go_wp2_with fail
    refine (HSR.out _ (HI.out.numX.keeps HB1.out)).mono ?_
    rintro e w2 ⟨vr, rfl, hR⟩
    have HB2 : Hid (Below w1.heap.size w1 w2) := hR.below
    have HB02 : Hid (Below w.heap.size w w2) := bel_trans HB1.out HB2.out
    have HR : Hid (Ans w1 w2 (val a n / 2 ^ j) vr) := hR
    obtain ⟨ro, rn, rc, rfl⟩ := hR.num.shape
    obtain ⟨lo, ln, lc, rfl⟩ := HF.out.shape
    clear hR
    by_cases i1 : 100000 < j
    · have hrn : rn = 0 := by
        have h := HR.out
        rw [shift_low (val_nonneg HI.out.nrm.2.1) HI.out.lt (show 60000 ≤ j by omega)] at h
        exact zero_len h
      subst hrn
      have i1' : (100000 : Int) < (j : Int) := by omega
      by_cases hn0 : n = 0
      · subst hn0
        rcases HF.out with ⟨h1, h2, h3⟩ | ⟨h1, _⟩
        · obtain rfl : ln = 0 := by
            rw [show val a 0 * 2 ^ j = 0 from Int.zero_mul _] at h3
            exact h3.num.zero.1 rfl
          subst h2
          clear h1 h3
          go_wp2
          go_ret
          exact ⟨rfl, Post.of HI.out.kept HB02.out HI.out.size⟩
        · rw [show val a 0 * 2 ^ j = 0 from Int.zero_mul _] at h1
          exact absurd h1 (Int.not_le.2 (P_pos _))
      · have en : ((n : Int) == 0) = false := beq_eq_false_iff_ne.2 (by omega)
        rcases HF.out with ⟨h1, _⟩ | ⟨_, h2, h3⟩
        · exact absurd h1 (Int.not_lt.2 (shift_big (val_pos HI.out.nrm.2 (by omega)) (by omega)))
        · simp only [Value.slice.injEq] at h3
          obtain ⟨rfl, rfl, rfl⟩ := h3
          subst h2
          go_wp2
          go_ret
          exact ⟨rfl, Post.of HI.out.kept HB02.out HI.out.size⟩
    · have i1' : (j : Int) ≤ 100000 := by omega
      have HZ0 : Hid (w0.heap.size ≤ w.heap.size) := HI.out.size
      have HK2 : Hid (Kept w0.heap.size w2 k (fun g => S g ∧ g < w.heap.size)) := (kept_low HI.out.kept).keeps HB02.out
      have HF2 : Hid (FitA w.heap.size w2 (val a n * 2 ^ j) (.slice lo ln lc) el) := HF.out.keeps HB2.out
      have LL : Hid (∀ g, (Value.slice lo ln lc).ownBlock = some g → w.heap.size ≤ g ∧ g < w1.heap.size) := fun g hg => HF.out.ge hg
      have LR : Hid (∀ g, (Value.slice ro rn rc).ownBlock = some g → w1.heap.size ≤ g ∧ g < w2.heap.size) := fun g hg => HR.out.an.ge hg
      go_wp2_with fail
      refine (rshl_any _ _ _ j _ _ (HI.out.row (HB02.out.mono HZ0.out)) HI.out.nrm.2.1 (by omega) (by omega)).mono ?_
      rintro e w3 ⟨v3, rfl, hA3⟩
      have HB3 : Hid (Below w2.heap.size w2 w3) := hA3.below
      have HA3 : Hid (An w0.heap.size w3 v3 (val a n * 2 ^ j)) := hA3.an.lower (Nat.le_trans HZ0.out HB02.out.size)
      obtain ⟨o3, n3, c3, rfl⟩ := hA3.num.shape
      clear hA3
      have HB03 : Hid (Below w.heap.size w w3) := bel_trans HB02.out HB3.out
      go_wp2_with fail
      refine (answer_any (HK2.out.keeps HB3.out) ((HF2.out.keeps HB3.out).lower HZ0.out) HA3.out (Nat.le_trans HZ0.out HB03.out.size) (fun g hg hs => by have := (LL.out g hg).1; have := hs.2; omega)).mono ?_
      rintro e w4 ⟨rfl, hi4, hk4⟩
      have HI4 : Hid (Ik w0.heap.size w w4) := (Ik.of HB03.out HZ0.out).trans hi4
      have HK4 : Hid (Kept w0.heap.size w4 k (S2 (fun g => S g ∧ g < w.heap.size) (.slice lo ln lc) w3.heap.size)) := hk4
      have HR4 : Hid (An w0.heap.size w4 (.slice ro rn rc) (val a n / 2 ^ j)) := ((HR.out.an.keeps HB3.out).lower (Nat.le_trans HZ0.out HB1.out.size)).ik hi4
      clear hi4 hk4
      go_wp2_with fail
      refine (rshr_any _ _ _ j _ _ (HI.out.row HI4.out.below) HI.out.nrm.2.1 (by omega) (by omega)).mono ?_
      rintro e w5 ⟨v5, rfl, hA5⟩
      have HB5 : Hid (Below w4.heap.size w4 w5) := hA5.below
      have HZ4 : Hid (w0.heap.size ≤ w4.heap.size) := Nat.le_trans HZ0.out HI4.out.below.size
      have HA5 : Hid (An w0.heap.size w5 v5 (val a n / 2 ^ j)) := hA5.an.lower HZ4.out
      obtain ⟨o5, n5, c5, rfl⟩ := hA5.num.shape
      clear hA5
      have HFR : Hid (FitA w0.heap.size w5 (val a n / 2 ^ j) (.slice ro rn rc) 0) := .inl ⟨Int.lt_of_le_of_lt (Int.ediv_le_self _ (val_nonneg HI.out.nrm.2.1)) HI.out.lt, rfl, HR4.out.keeps HB5.out⟩
      go_wp2_with fail
      refine (answer_any (HK4.out.keeps HB5.out) HFR.out HA5.out (Nat.le_trans HZ4.out HB5.out.size) (fun g hg hs => by
        have h1 := LR.out g hg
        have h2 := HB3.out.size
        rcases hs with q | q | q
        · have := q.2; have := HB1.out.size; omega
        · have := LL.out g q; omega
        · omega)).mono ?_
      rintro e w6 ⟨rfl, hi6, hk6⟩
      go_wp2
      go_ret
      refine ⟨rfl, (HI4.out.trans (Ik.of HB5.out HZ4.out)).trans hi6, _, hk6, fun g hg => ?_⟩
      have z1 := HB1.out.size
      have z2 := HB02.out.size
      have z3 := HB03.out.size
      have z4 := HI4.out.below.size
      have z5 := HB5.out.size
      rcases hg with (q | q | q) | q | q
      · exact .inl q.1
      · exact .inr (LL.out g q).1
      · exact .inr (by omega)
      · exact .inr (by have := LR.out g q; omega)
      · exact .inr (by omega)
end Go.Proofs.YtmbajngbiefilaaGreatDoor

/-
  plumblaw2's rooted, powers: for every valid list, every number: by contracts.
-/
namespace Go.Proofs.YtmbajngbiefilaaGreatDoor
open Go Go.RowKit Go.Proofs.YtmbajngbiefilaaGreatDoor.M
set_option linter.unusedSimpArgs false
set_option linter.unusedVariables false

theorem isRoot_unique {A s t : Int} (h : IsRoot A s) (k : IsRoot A t) : s = t := by
  obtain ⟨h0, h1, h2⟩ := h
  obtain ⟨k0, k1, k2⟩ := k
  rcases Int.lt_trichotomy s t with q | q | q
  · have : (s + 1) * (s + 1) ≤ t * t := Int.mul_le_mul (by omega) (by omega) (by omega) (by omega)
    omega
  · exact q
  · have : (t + 1) * (t + 1) ≤ s * s := Int.mul_le_mul (by omega) (by omega) (by omega) (by omega)
    omega
theorem root_rest {A s : Int} (h : IsRoot A s) : A - s * s ≤ s * 2 := by
  obtain ⟨h0, h1, h2⟩ := h
  have : (s + 1) * (s + 1) = s * s + s * 2 + 1 := by grind
  omega
theorem root_lt {A s X : Int} (h : IsRoot A s) (hA : A < X) (hX : 1 < X) : s < X ∧ A - s * s < X := by
  obtain ⟨h0, h1, h2⟩ := h
  have hs : 0 ≤ s * s := Int.mul_nonneg h0 h0
  refine ⟨?_, by omega⟩
  by_cases q : s ≤ 1
  · omega
  · have : s * 1 ≤ s * s := Int.mul_le_mul_of_nonneg_left (by omega) (by omega)
    omega
theorem P2000_one : (1 : Int) < P 2000 := Int.lt_trans (show (1 : Int) < 1152921504606846976 by decide) P2000_big
theorem rvalid_an {B : Nat} {w : World} {x : Value} {X : Int} (hx : An B w x X) (hX : X < P 2000) : Calls Tryz.prog 15 #[x] w fun e w' => e = .returned (.bool true) ∧ w' = w := by
  obtain ⟨xo, xn, xc, rfl⟩ := hx.shape
  obtain ⟨xd, rx, nx, rfl⟩ := hx.parts
  have h := rvalid_any xo xn xc xd w rx
  rw [Num.ok nx hX] at h
  exact h
set_option maxRecDepth 100000 in
set_option maxHeartbeats 2000000 in
theorem rooted_any {w0 w : World} {k : Nat} {S : Nat → Prop} {gc n cc : Nat} {ao : Option Addr} {ca : Nat} {a : Nat → Int} (h : OneIn w0 w k S gc n cc ao ca a) :
    Calls Tryz.prog 29 #[.pointer (some ⟨k, 0, none⟩), .slice (some ⟨gc, 0, none⟩) n cc, .slice ao n ca] w fun e w' => e = .returned (.bool true) ∧ Post w0.heap.size k S w w' := by
  have HI : Hid (OneIn w0 w k S gc n cc ao ca a) := h
  have hl := h.ra.le
  have hm := h.ra.max
  have hl2 := h.rx.le
  have hm2 := h.rx.max
  have hn := h.nrm.1
  have HRt : Hid (Calls Tryz.prog 22 #[.slice (some ⟨gc, 0, none⟩) n cc] w fun e w' => ∃ v1 v2, e = .returned (.tuple #[v1, v2, .int .i64 0]) ∧ ∃ s, IsRoot (val a n) s ∧ Ans2 w w' s v1 (val a n - s * s) v2) := root_num h.numX h.lt
  have HZ0 : Hid (w0.heap.size ≤ w.heap.size) := h.size
  clear h
  go_enter Tryz.func29, Tryz.ntmps29
  go_wp2_with fail
  refine HRt.out.mono ?_
  rintro e w1 ⟨v1, v2, rfl, s, his, hA⟩
  have HS : Hid (IsRoot (val a n) s) := his
  have HL : Hid (s < P 2000 ∧ val a n - s * s < P 2000) := root_lt his HI.out.lt P2000_one
  have HB1 : Hid (Below w.heap.size w w1) := hA.1.below
  have HA1 : Hid (An w.heap.size w1 v1 s) := hA.1.an
  have HA2 : Hid (An w.heap.size w1 v2 (val a n - s * s)) := hA.2.1.an
  have HAP : Hid (∀ g, v1.ownBlock = some g → v2.ownBlock ≠ some g) := hA.2.2
  obtain ⟨o1, n1, c1, rfl⟩ := hA.1.num.shape
  obtain ⟨o2, n2, c2, rfl⟩ := hA.2.1.num.shape
  clear hA his
  by_cases h40 : 40 < n
  · have h40' : (40 : Int) < (n : Int) := by omega
    go_wp2_with fail
    refine (rmul_an HA1.out HA1.out 2000 (by omega) HL.out.1 HL.out.1).mono ?_
    rintro e w3 ⟨o3, n3, c3, rfl, hA3⟩
    have HB3 : Hid (Below w1.heap.size w1 w3) := hA3.below
    have HA3 : Hid (An w1.heap.size w3 (.slice o3 n3 c3) (s * s)) := hA3.an
    have HSS : Hid (s * s < P 2000) := Int.lt_of_le_of_lt HS.out.2.1 HI.out.lt
    clear hA3
    go_wp2_with fail
    refine (rvalid_an (HA1.out.keeps HB3.out) HL.out.1).mono ?_
    rintro e w4 ⟨rfl, hw⟩
    replace hw := hw.symm
    subst hw
    go_wp2_with fail
    refine (rvalid_an (HA2.out.keeps HB3.out) HL.out.2).mono ?_
    rintro e w4 ⟨rfl, hw⟩
    replace hw := hw.symm
    subst hw
    go_wp2_with fail
    refine (radd_an HA3.out (HA2.out.keeps HB3.out) 2000 (by omega) HSS.out HL.out.2).mono ?_
    rintro e w4 ⟨o4, n4, c4, rfl, hA4⟩
    have HB4 : Hid (Below w3.heap.size w3 w4) := hA4.below
    rw [show s * s + (val a n - s * s) = val a n by omega] at hA4
    have HA4 : Hid (Num w4 (.slice o4 n4 c4) (val a n)) := hA4.num
    clear hA4
    have HB04 : Hid (Below w.heap.size w w4) := bel_trans (bel_trans HB1.out HB3.out) HB4.out
    have HX4 : Hid (Num w4 (.slice ao n ca) (val a n)) := (HI.out.row (HB04.out.mono HZ0.out)).num0 HI.out.nrm.2
    go_wp2_with fail
    refine (same_num HA4.out HX4.out).mono ?_
    rintro e w5 ⟨rfl, hb5⟩
    have HB5 : Hid (Below w4.heap.size w4 w5) := hb5
    clear hb5
    have HA15 : Hid (An w.heap.size w5 (.slice o1 n1 c1) s) := ((HA1.out.keeps HB3.out).keeps HB4.out).keeps HB5.out
    have HA25 : Hid (An w.heap.size w5 (.slice o2 n2 c2) (val a n - s * s)) := ((HA2.out.keeps HB3.out).keeps HB4.out).keeps HB5.out
    have HSH : Hid (Calls Tryz.prog 64 #[.slice o1 n1 c1, .int .i64 1] w5 fun e w' => ∃ o n c, e = .returned (.slice o n c) ∧ Ans w5 w' (s * 2) (.slice o n c)) := by
      have hlen := HA15.out.num.len HL.out.1
      obtain ⟨d1, r1, nr1, e1⟩ := HA15.out.parts
      refine (rshl_any _ _ _ 1 d1 _ r1 nr1.1 (by omega) (by omega)).mono ?_
      rintro e w' ⟨v, rfl, hA⟩
      rw [e1] at hA
      obtain ⟨o, n, c, rfl⟩ := hA.num.shape
      exact ⟨o, n, c, rfl, hA⟩
    have ho : decide (ord (val a n - s * s) (s * 2) ≤ 0) = true := decide_eq_true (by
      rcases Int.lt_or_eq_of_le (root_rest HS.out) with q | q
      · rw [ord_lt q]; decide
      · rw [ord_eq q]; decide)
    go_wp2_with fail
    refine HSH.out.mono ?_
    rintro e w6 ⟨o6, n6, c6, rfl, hA6⟩
    have HB6 : Hid (Below w5.heap.size w5 w6) := hA6.below
    have HA6 : Hid (Num w6 (.slice o6 n6 c6) (s * 2)) := hA6.num
    clear hA6
    go_wp2_with fail
    refine (rcmp_an (HA25.out.keeps HB6.out) HA6.out).mono ?_
    rintro e w7 ⟨rfl, hb7⟩
    go_wp2
    go_ret
    exact ⟨rfl, Post.of HI.out.kept (bel_trans (bel_trans (bel_trans HB04.out HB5.out) HB6.out) hb7) HZ0.out⟩
  · have h40' : (n : Int) ≤ 40 := by omega
    have HRR : Hid (∀ W : World, Row W ao n ca a → Calls Tryz.prog 66 #[.slice ao n ca] W fun e w' => ∃ o3 n3 c3 o4 n4 c4, e = .returned (.tuple #[.slice o3 n3 c3, .slice o4 n4 c4]) ∧ An W.heap.size w' (.slice o3 n3 c3) s ∧ An W.heap.size w' (.slice o4 n4 c4) (val a n - s * s) ∧ Below W.heap.size W w') := fun W hW => by
      refine (rroot_any (hW.num0 HI.out.nrm.2) (Int.lt_of_lt_of_le (val_lt HI.out.nrm.2.1) (P_le (by omega)))).mono ?_
      rintro e w' ⟨v3, v4, rfl, S', hS', h3, h4, hb⟩
      obtain rfl := isRoot_unique HS.out hS'
      obtain ⟨o3, n3, c3, rfl⟩ := h3.shape
      obtain ⟨o4, n4, c4, rfl⟩ := h4.shape
      exact ⟨o3, n3, c3, o4, n4, c4, rfl, h3, h4, hb⟩
    have HK1 : Hid (Kept w0.heap.size w1 k (fun g => S g ∧ g < w.heap.size)) := (kept_low HI.out.kept).keeps HB1.out
    go_wp2_with fail
    refine (HRR.out _ (HI.out.row (HB1.out.mono HZ0.out))).mono ?_
    rintro e w3 ⟨o3, n3, c3, o4, n4, c4, rfl, h3, h4, hb⟩
    have HB3 : Hid (Below w1.heap.size w1 w3) := hb
    have HB03 : Hid (Below w.heap.size w w3) := bel_trans HB1.out hb
    have HZ3 : Hid (w0.heap.size ≤ w3.heap.size) := Nat.le_trans HZ0.out HB03.out.size
    have HA3 : Hid (An w0.heap.size w3 (.slice o3 n3 c3) s) := h3.lower (Nat.le_trans HZ0.out HB1.out.size)
    have HA4 : Hid (An w0.heap.size w3 (.slice o4 n4 c4) (val a n - s * s)) := h4.lower (Nat.le_trans HZ0.out HB1.out.size)
    clear h3 h4 hb
    go_wp2_with fail
    refine (keep_an (HK1.out.keeps HB3.out) ((HA1.out.keeps HB3.out).lower HZ0.out) HA3.out 2000 (by decide) HL.out.1 HZ3.out (fun g hg hs => by have := (HA1.out.ge hg).1; have := hs.2; omega)).mono ?_
    rintro e w5 ⟨rfl, hi5, hk5⟩
    have HI5 : Hid (Ik w0.heap.size w3 w5) := hi5
    have HK5 : Hid (Kept w0.heap.size w5 k (S2 (fun g => S g ∧ g < w.heap.size) (.slice o1 n1 c1) w3.heap.size)) := hk5
    clear hi5 hk5
    go_wp2_with fail
    refine (keep_an HK5.out (((HA2.out.keeps HB3.out).lower HZ0.out).ik HI5.out) (HA4.out.ik HI5.out) 2000 (by decide) HL.out.2 (Nat.le_trans HZ3.out HI5.out.below.size) (fun g hg hs => by
      have h1 := HA2.out.ge hg
      have h2 := HB3.out.size
      rcases hs with q | q | q
      · have := q.2; omega
      · exact HAP.out g q hg
      · omega)).mono ?_
    rintro e w6 ⟨rfl, hi6, hk6⟩
    go_wp2
    go_ret
    refine ⟨rfl, ((Ik.of HB03.out HZ0.out).trans HI5.out).trans hi6, _, hk6, fun g hg => ?_⟩
    have z3 := HB03.out.size
    have z5 := HI5.out.below.size
    rcases hg with (q | q | q) | q | q
    · exact .inl q.1
    · exact .inr (HA1.out.ge q).1
    · exact .inr (by omega)
    · exact .inr (HA2.out.ge q).1
    · exact .inr (by omega)
end Go.Proofs.YtmbajngbiefilaaGreatDoor

/-
  plumblaw2's powers: for every valid list, every number: by its contract.
-/
namespace Go.Proofs.YtmbajngbiefilaaGreatDoor
open Go Go.RowKit Go.Proofs.YtmbajngbiefilaaGreatDoor.M
set_option linter.unusedSimpArgs false
set_option linter.unusedVariables false

theorem fitA_same {B B' : Nat} {w w' : World} {V er er' : Int} {v v' : Value} (h : FitA B w V v er) (k : FitA B' w' V v' er') : er = er' := by
  rcases h with ⟨h1, h2, _⟩ | ⟨h1, h2, _⟩ <;> rcases k with ⟨k1, k2, _⟩ | ⟨k1, k2, _⟩
  · rw [h2, k2]
  · exact absurd k1 (Int.not_le.2 h1)
  · exact absurd h1 (Int.not_le.2 k1)
  · rw [h2, k2]
theorem keep_fit {B k : Nat} {w : World} {S : Nat → Prop} {l x : Value} {V er er' : Int} (h : Kept B w k S) (hl : FitA B w V l er) (hx : FitA B w V x er') (hB : B ≤ w.heap.size) (hap : ∀ g, l.ownBlock = some g → ¬ S g) :
    Calls Tryz.prog 41 #[.pointer (some ⟨k, 0, none⟩), l, x] w fun e w' => e = .returned (.bool true) ∧ Ik B w w' ∧ Kept B w' k (S2 S l w.heap.size) := by
  rcases hl with ⟨h1, h2, h3⟩ | ⟨h1, h2, rfl⟩ <;> rcases hx with ⟨k1, k2, k3⟩ | ⟨k1, k2, rfl⟩
  · exact keep_an h h3 k3 2000 (by decide) h1 hB hap
  · exact absurd k1 (Int.not_le.2 h1)
  · exact absurd h1 (Int.not_le.2 k1)
  · exact keep_an h (An.nil _ _) (An.nil _ _) 1 (by decide) (by decide) hB hap
set_option maxRecDepth 100000 in
set_option maxHeartbeats 2000000 in
/-- The road over the document's own power. -/
theorem powers_ref {w0 w : World} {k : Nat} {S : Nat → Prop} {gc n cc : Nat} {ao : Option Addr} {ca : Nat} {a : Nat → Int} (HI : Hid (OneIn w0 w k S gc n cc ao ca a)) (j : Nat) (HJ : Hid ((j : Int) < 9223372036854775808)) (hsm : val a n ≤ 1 ∨ j ≤ 4000)
    {w1 : World} (HB1 : Hid (Below w.heap.size w w1)) {po : Option Addr} {pn pc : Nat} {ep : Int} (HF : Hid (FitA w.heap.size w1 (val a n ^ j) (.slice po pn pc) ep)) :
    Calls Tryz.prog 67 #[.slice ao n ca, .int .i64 j] w1 fun e w2 => ∃ o2 n2 c2, e = .returned (.tuple #[.slice o2 n2 c2, .int .i64 ep]) ∧ Below w1.heap.size w1 w2 ∧
      Calls Tryz.prog 41 #[.pointer (some ⟨k, 0, none⟩), .slice po pn pc, .slice o2 n2 c2] w2 fun e w' => e = .returned (.bool true) ∧ Post w0.heap.size k S w w' := by
  have HZ0 : Hid (w0.heap.size ≤ w.heap.size) := HI.out.size
  refine (rpow_any ((HI.out.row (HB1.out.mono HZ0.out)).num0 HI.out.nrm.2) HI.out.lt j HJ.out hsm).mono ?_
  rintro e w2 ⟨v2, e2, rfl, hF2, hb2⟩
  obtain ⟨o2, n2, c2, rfl⟩ := hF2.shape
  obtain rfl := fitA_same HF.out hF2
  have hb02 := bel_trans HB1.out hb2
  refine ⟨o2, n2, c2, rfl, hb2, ?_⟩
  refine (keep_fit ((kept_low HI.out.kept).keeps hb02) ((HF.out.keeps hb2).lower HZ0.out) (hF2.lower (Nat.le_trans HZ0.out HB1.out.size)) (Nat.le_trans HZ0.out hb02.size) (fun g hg hs => by have := (HF.out.ge hg).1; have := hs.2; omega)).mono ?_
  rintro e w' ⟨rfl, hi, hk⟩
  refine ⟨rfl, (Ik.of hb02 HZ0.out).trans hi, _, hk, fun g hg => ?_⟩
  have z := hb02.size
  rcases hg with q | q | q
  · exact .inl q.1
  · exact .inr (HF.out.ge q).1
  · exact .inr (by omega)
set_option maxRecDepth 100000 in
set_option maxHeartbeats 2000000 in
theorem powers_any {w0 w : World} {k : Nat} {S : Nat → Prop} {gc n cc : Nat} {ao : Option Addr} {ca : Nat} {a : Nat → Int} (h : OneIn w0 w k S gc n cc ao ca a) (i : Int) (hi : rng i) :
    Calls Tryz.prog 30 #[.pointer (some ⟨k, 0, none⟩), .slice (some ⟨gc, 0, none⟩) n cc, .slice ao n ca, .int .i64 i] w fun e w' => e = .returned (.bool true) ∧ Post w0.heap.size k S w w' := by
  have HI : Hid (OneIn w0 w k S gc n cc ao ca a) := h
  have hl := h.ra.le
  have hm := h.ra.max
  have hl2 := h.rx.le
  have hm2 := h.rx.max
  have hn := h.nrm.1
  have HZ0 : Hid (w0.heap.size ≤ w.heap.size) := h.size
  clear h
  by_cases i0 : i < 0
  · go_enter Tryz.func30, Tryz.ntmps30
    go_wp2_with fail
    refine (pow_neg _ _ _ _ i _ HI.out.rx HI.out.ok i0).mono ?_
    rintro e w1 ⟨rfl, hw⟩
    replace hw := hw.symm
    subst hw
    go_wp2
    go_ret
    exact ⟨rfl, Post.of HI.out.kept (bel_refl _) HI.out.size⟩
  · obtain ⟨j, rfl⟩ : ∃ j : Nat, i = j := ⟨i.toNat, by omega⟩
    have HJ : Hid ((j : Int) < 9223372036854775808) := by unfold rng at hi; show _ < _; omega
    have HSL : Hid (Calls Tryz.prog 21 #[.slice (some ⟨gc, 0, none⟩) n cc, .int .i64 j] w fun e w' => ∃ v er, e = .returned (.tuple #[v, .int .i64 er]) ∧ Fit w w' (val a n ^ j) v er) := pow_num HI.out.numX HI.out.lt j (by have := HJ.out; omega)
    obtain ⟨L, hL⟩ : ∃ L, L = blen (val a n) := ⟨_, rfl⟩
    have HL : Hid (L = blen (val a n)) := hL
    have hL6 : L ≤ 60000 := by rw [hL]; exact blen60 HI.out.lt
    have HBits : Hid (∀ W : World, Row W ao n ca a → Calls Tryz.prog 26 #[.slice ao n ca] W fun e w' => e = .returned (.int .i64 L) ∧ w' = W) := fun W hW => by rw [HL.out]; exact rbits_any _ _ _ _ _ hW HI.out.nrm.2 (by omega)
    have HSM : Hid (L ≤ 1 → val a n ≤ 1) := fun h => by
      have h1 := blen_lt (val a n)
      rw [← HL.out] at h1
      have h2 : (2 : Int) ^ L ≤ 2 ^ 1 := two_le h
      have : (2 : Int) ^ 1 = 2 := rfl
      omega
    have HREF := fun (hsm : val a n ≤ 1 ∨ j ≤ 4000) (w1 : World) (HB1 : Hid (Below w.heap.size w w1)) (po : Option Addr) (pn pc : Nat) (ep : Int) (HF : Hid (FitA w.heap.size w1 (val a n ^ j) (.slice po pn pc) ep)) => powers_ref HI j HJ hsm HB1 HF
    have HREF' : Hid _ := HREF
    clear hi hL HJ HREF
    go_enter Tryz.func30, Tryz.ntmps30
    go_wp2_with fail
    refine HSL.out.mono ?_
    rintro e w1 ⟨vp, ep, rfl, hF⟩
    have HF : Hid (FitA w.heap.size w1 (val a n ^ j) vp ep) := hF.fitA
    have HB1 : Hid (Below w.heap.size w w1) := hF.1
    clear hF
    obtain ⟨po, pn, pc, rfl⟩ := HF.out.shape
    have HR1 : Hid (Row w1 ao n ca a) := HI.out.row (HB1.out.mono HZ0.out)
    have hee : (ep == ep) = true := by simp
    by_cases hL1 : 1 < L
    · have hL1' : (1 : Int) < (L : Int) := by omega
      have HTOP : Hid ((2 : Int) ^ (L - 1) ≤ val a n) := by
        show _ ≤ _
        rw [HL.out]
        refine (blen_pos ?_).2
        by_cases h : 0 < val a n
        · exact h
        · have : val a n = 0 := by have := val_nonneg HI.out.nrm.2.1; omega
          have e := HL.out
          rw [this, blen_zero] at e
          omega
      by_cases h4 : 4000 < j
      · have h4' : (4000 : Int) < (j : Int) := by omega
        go_wp2_with fail
        refine (HBits.out _ HR1.out).mono ?_
        rintro e w2 ⟨rfl, hw⟩
        replace hw := hw.symm
        subst hw
        go_wp2_with fail
        refine (HBits.out _ HR1.out).mono ?_
        rintro e w2 ⟨rfl, hw⟩
        replace hw := hw.symm
        subst hw
        by_cases h7 : j ≤ 70000
        · have h7' : (j : Int) ≤ 70000 := by omega
          obtain ⟨Q, hQ⟩ : ∃ Q : Nat, Q = (L - 1) * j := ⟨_, rfl⟩
          have hQ9 : Q ≤ 60000 * 70000 := by rw [hQ]; exact Nat.mul_le_mul (by omega) (by omega)
          have hwq : wrap64 (((L : Int) - 1) * (j : Int)) = (Q : Int) := by
            rw [show ((L : Int) - 1) = ((L - 1 : Nat) : Int) by omega, ← Int.natCast_mul, ← hQ]
            exact IntWalk.wrap64_in _ ⟨by omega, by omega⟩
          obtain ⟨q, hqe⟩ : ∃ q : Int, q = (Q : Int) := ⟨_, rfl⟩
          rw [← hqe] at hwq
          have HQE : Hid (q = (((L - 1) * j : Nat) : Int)) := by show _ = _; rw [hqe, hQ]
          clear hqe hQ hQ9
          by_cases hq : (60000 : Int) ≤ q
          · have HLONG : Hid (P 2000 ≤ val a n ^ j) := pow_long (L := L) HTOP.out (by have := HQE.out; omega)
            rcases HF.out with ⟨h1, _⟩ | ⟨_, h2, h3⟩
            · exact absurd h1 (Int.not_lt.2 HLONG.out)
            · simp only [Value.slice.injEq] at h3
              obtain ⟨rfl, rfl, rfl⟩ := h3
              subst h2
              go_wp2
              go_ret
              exact ⟨rfl, Post.of HI.out.kept HB1.out HZ0.out⟩
          · have _q := hq
            go_wp2
            go_ret
            exact ⟨rfl, Post.of HI.out.kept HB1.out HZ0.out⟩
        · have h7' : (70000 : Int) < (j : Int) := by omega
          have HLONG : Hid (P 2000 ≤ val a n ^ j) := pow_long (L := L) HTOP.out (by
            have h1 : 1 * j ≤ (L - 1) * j := Nat.mul_le_mul (by omega) (Nat.le_refl _)
            omega)
          rcases HF.out with ⟨h1, _⟩ | ⟨_, h2, h3⟩
          · exact absurd h1 (Int.not_lt.2 HLONG.out)
          · simp only [Value.slice.injEq] at h3
            obtain ⟨rfl, rfl, rfl⟩ := h3
            subst h2
            go_wp2
            go_ret
            exact ⟨rfl, Post.of HI.out.kept HB1.out HZ0.out⟩
      · obtain ⟨p, hp⟩ : ∃ p : Nat, p = n * j := ⟨_, rfl⟩
        have ep' : (n : Int) * (j : Int) = (p : Int) := by rw [hp]; simp
        have hpl : p ≤ 2000 * 4000 := by rw [hp]; exact Nat.mul_le_mul (by omega) (by omega)
        clear hp
        have h4' : (j : Int) ≤ 4000 := by omega
        by_cases hp4 : 4000 < p
        · have hp4' : (4000 : Int) < (p : Int) := by omega
          go_wp2_with fail
          refine (HBits.out _ HR1.out).mono ?_
          rintro e w2 ⟨rfl, hw⟩
          replace hw := hw.symm
          subst hw
          go_wp2_with fail
          refine (HBits.out _ HR1.out).mono ?_
          rintro e w2 ⟨rfl, hw⟩
          replace hw := hw.symm
          subst hw
          have h7' : (j : Int) ≤ 70000 := by omega
          obtain ⟨Q, hQ⟩ : ∃ Q : Nat, Q = (L - 1) * j := ⟨_, rfl⟩
          have hQ9 : Q ≤ 60000 * 70000 := by rw [hQ]; exact Nat.mul_le_mul (by omega) (by omega)
          have hwq : wrap64 (((L : Int) - 1) * (j : Int)) = (Q : Int) := by
            rw [show ((L : Int) - 1) = ((L - 1 : Nat) : Int) by omega, ← Int.natCast_mul, ← hQ]
            exact IntWalk.wrap64_in _ ⟨by omega, by omega⟩
          obtain ⟨q, hqe⟩ : ∃ q : Int, q = (Q : Int) := ⟨_, rfl⟩
          rw [← hqe] at hwq
          have HQE : Hid (q = (((L - 1) * j : Nat) : Int)) := by show _ = _; rw [hqe, hQ]
          clear hqe hQ hQ9
          by_cases hq : (60000 : Int) ≤ q
          · have HLONG : Hid (P 2000 ≤ val a n ^ j) := pow_long (L := L) HTOP.out (by have := HQE.out; omega)
            rcases HF.out with ⟨h1, _⟩ | ⟨_, h2, h3⟩
            · exact absurd h1 (Int.not_lt.2 HLONG.out)
            · simp only [Value.slice.injEq] at h3
              obtain ⟨rfl, rfl, rfl⟩ := h3
              subst h2
              go_wp2
              go_ret
              exact ⟨rfl, Post.of HI.out.kept HB1.out HZ0.out⟩
          · have _q := hq
            go_wp2
            go_ret
            exact ⟨rfl, Post.of HI.out.kept HB1.out HZ0.out⟩
        · have hp4' : (p : Int) ≤ 4000 := by omega
          have HSMJ : Hid (val a n ≤ 1 ∨ j ≤ 4000) := .inr (by omega)
          go_wp2_with fail
          refine (HREF'.out HSMJ.out _ HB1 _ _ _ _ HF).mono ?_
          rintro e w3 ⟨o2, n2, c2, rfl, hb3, hK⟩
          have HKC : Hid (Calls Tryz.prog 41 #[.pointer (some ⟨k, 0, none⟩), .slice po pn pc, .slice o2 n2 c2] w3 fun e w' => e = .returned (.bool true) ∧ Post w0.heap.size k S w w') := hK
          clear hK hb3
          go_wp2_with fail
          refine HKC.out.mono ?_
          rintro e w4 ⟨rfl, hp⟩
          go_wp2
          go_ret
          exact ⟨rfl, hp⟩
    · have hL1' : (L : Int) ≤ 1 := by omega
      have HSMJ : Hid (val a n ≤ 1 ∨ j ≤ 4000) := .inl (HSM.out (by omega))
      by_cases h4 : 4000 < j
      · have h4' : (4000 : Int) < (j : Int) := by omega
        go_wp2_with fail
        refine (HBits.out _ HR1.out).mono ?_
        rintro e w2 ⟨rfl, hw⟩
        replace hw := hw.symm
        subst hw
        go_wp2_with fail
        refine (HREF'.out HSMJ.out _ HB1 _ _ _ _ HF).mono ?_
        rintro e w3 ⟨o2, n2, c2, rfl, hb3, hK⟩
        have HKC : Hid (Calls Tryz.prog 41 #[.pointer (some ⟨k, 0, none⟩), .slice po pn pc, .slice o2 n2 c2] w3 fun e w' => e = .returned (.bool true) ∧ Post w0.heap.size k S w w') := hK
        clear hK hb3
        go_wp2_with fail
        refine HKC.out.mono ?_
        rintro e w4 ⟨rfl, hp⟩
        go_wp2
        go_ret
        exact ⟨rfl, hp⟩
      · obtain ⟨p, hp⟩ : ∃ p : Nat, p = n * j := ⟨_, rfl⟩
        have ep' : (n : Int) * (j : Int) = (p : Int) := by rw [hp]; simp
        have hpl : p ≤ 2000 * 4000 := by rw [hp]; exact Nat.mul_le_mul (by omega) (by omega)
        clear hp
        have h4' : (j : Int) ≤ 4000 := by omega
        by_cases hp4 : 4000 < p
        · have hp4' : (4000 : Int) < (p : Int) := by omega
          go_wp2_with fail
          refine (HBits.out _ HR1.out).mono ?_
          rintro e w2 ⟨rfl, hw⟩
          replace hw := hw.symm
          subst hw
          go_wp2_with fail
          refine (HREF'.out HSMJ.out _ HB1 _ _ _ _ HF).mono ?_
          rintro e w3 ⟨o2, n2, c2, rfl, hb3, hK⟩
          have HKC : Hid (Calls Tryz.prog 41 #[.pointer (some ⟨k, 0, none⟩), .slice po pn pc, .slice o2 n2 c2] w3 fun e w' => e = .returned (.bool true) ∧ Post w0.heap.size k S w w') := hK
          clear hK hb3
          go_wp2_with fail
          refine HKC.out.mono ?_
          rintro e w4 ⟨rfl, hp⟩
          go_wp2
          go_ret
          exact ⟨rfl, hp⟩
        · have hp4' : (p : Int) ≤ 4000 := by omega
          go_wp2_with fail
          refine (HREF'.out HSMJ.out _ HB1 _ _ _ _ HF).mono ?_
          rintro e w3 ⟨o2, n2, c2, rfl, hb3, hK⟩
          have HKC : Hid (Calls Tryz.prog 41 #[.pointer (some ⟨k, 0, none⟩), .slice po pn pc, .slice o2 n2 c2] w3 fun e w' => e = .returned (.bool true) ∧ Post w0.heap.size k S w w') := hK
          clear hK hb3
          go_wp2_with fail
          refine HKC.out.mono ?_
          rintro e w4 ⟨rfl, hp⟩
          go_wp2
          go_ret
          exact ⟨rfl, hp⟩
end Go.Proofs.YtmbajngbiefilaaGreatDoor

/-
  Texts of decimal digits: plain, value, by contracts.
-/
namespace Go.Proofs.YtmbajngbiefilaaGreatDoor
open Go Go.RowKit Go.Proofs.YtmbajngbiefilaaGreatDoor.M
set_option linter.unusedSimpArgs false
set_option linter.unusedVariables false

/-- The byte at a place. -/
def byt (s : ByteArray) (i : Nat) : Int := if h : i < s.size then (s[i].toNat : Int) else 0
theorem byt_at {s : ByteArray} {i : Nat} (h : i < s.size) : byt s i = (s[i].toNat : Int) := by simp [byt, h]
/-- The first k are decimal digits. -/
def Dec (s : ByteArray) (k : Nat) : Prop := ∀ i, i < k → 48 ≤ byt s i ∧ byt s i ≤ 57
/-- The number of the first k. -/
def num (s : ByteArray) : Nat → Int | 0 => 0 | k + 1 => 10 * num s k + (byt s k - 48)
theorem num_range {s : ByteArray} {k : Nat} (h : Dec s k) : 0 ≤ num s k ∧ num s k < 2 ^ (4 * k) := by
  induction k with
  | zero => exact ⟨Int.le_refl _, show (0 : Int) < 1 by decide⟩
  | succ k ih =>
    obtain ⟨h0, h1⟩ := ih fun i hi => h i (by omega)
    have h2 := h k (by omega)
    rw [show 4 * (k + 1) = 4 * k + 4 by omega, Int.pow_add]
    show 0 ≤ 10 * num s k + (byt s k - 48) ∧ 10 * num s k + (byt s k - 48) < _
    omega
/-- Decimal digits without zeros ahead. -/
def OkT (s : ByteArray) : Prop := Dec s s.size ∧ 0 < s.size ∧ (s.size = 1 ∨ byt s 0 ≠ 48)
noncomputable def okT (s : ByteArray) : Bool := @decide (OkT s) (Classical.propDecidable _)
theorem okT_yes {s : ByteArray} (h : OkT s) : okT s = true := @decide_eq_true _ (Classical.propDecidable _) h
theorem okT_no {s : ByteArray} (h : ¬ OkT s) : okT s = false := @decide_eq_false _ (Classical.propDecidable _) h
theorem okT_out {s : ByteArray} (h : okT s = true) : OkT s := @of_decide_eq_true _ (Classical.propDecidable _) h
theorem okT_not {s : ByteArray} (h : okT s = false) : ¬ OkT s := @of_decide_eq_false _ (Classical.propDecidable _) h
theorem size_list (s : ByteArray) : s.toList.length = s.size := by rw [ByteArray.toList_eq]; exact Array.length_toList
theorem zero_list {s : ByteArray} (h : s.size = 1) (h0 : byt s 0 = 48) : s.toList = [48] := by
  rw [byt_at (by omega)] at h0
  rw [ByteArray.toList_eq]
  obtain ⟨⟨l⟩⟩ := s
  match l, h with
  | [x], _ =>
    have e : (x.toNat : Int) = 48 := h0
    have e2 : x = 48 := UInt8.toNat_inj.1 (by rw [show (48 : UInt8).toNat = 48 from rfl]; omega)
    subst e2
    rfl
set_option maxHeartbeats 400000 in
theorem plain_any (s : ByteArray) (w : World) (hs : s.size ≤ 9223372036854775807) :
    Calls Tryz.prog 89 #[.string s] w fun e w' => e = .returned (.bool (okT s)) ∧ w' = w := by
  go_enter Tryz.func89, Tryz.ntmps89
  go_wp2
  go_loop [6] (fun i => ∃ k : Nat, k ≤ s.size ∧ i = .int .i64 k ∧ Hid (Dec s k)) (fun i => s.size - (intOf i).toNat)
  case atStart => exact ⟨0, Nat.zero_le _, rfl, fun i hi => by omega⟩
  case round =>
    obtain ⟨k, hk, rfl, HD⟩ := hrel
    by_cases hlt : k < s.size
    · have HB := byt_at hlt
      have HB' : Hid (byt s k = (s[k].toNat : Int)) := HB
      clear HB
      by_cases h0 : ((s[k].toNat : Nat) : Int) < 48
      · go_wp2
        go_ret
        exact ⟨ret_bool (okT_no fun q => by have := q.1 k hlt; rw [HB'.out] at this; omega).symm, rfl⟩
      · by_cases h1 : 57 < ((s[k].toNat : Nat) : Int)
        · go_wp2
          go_ret
          exact ⟨ret_bool (okT_no fun q => by have := q.1 k hlt; rw [HB'.out] at this; omega).symm, rfl⟩
        · go_wp2
          go_round
          case rel => exact ⟨k + 1, by omega, by go_num, fun i hi => by
              by_cases e : i = k
              · rw [e, HB'.out]; omega
              · exact HD.out i (by omega)⟩
          case measure => simp [intOf]; omega
    · obtain rfl : k = s.size := by omega
      by_cases hn : s.toList = []
      · have hz : s.size = 0 := by rw [← size_list, hn]; rfl
        have he : ¬ s.toList = [48] := by rw [hn]; decide
        have HZ : Hid (s.size = 0) := hz
        clear hz
        go_wp2
        go_ret
        exact ⟨ret_bool (okT_no fun q => by have := HZ.out; have := q.2.1; omega).symm, rfl⟩
      · have hz : 0 < s.size := by
          rw [← size_list]; exact List.length_pos_iff.2 hn
        have HB' : Hid (byt s 0 = (s[0].toNat : Int)) := byt_at hz
        by_cases he : s.toList = [48]
        · have HZ : Hid (s.size = 1) := by show _ = _; rw [← size_list, he]; rfl
          go_wp2
          go_ret
          exact ⟨ret_bool (okT_yes ⟨HD.out, hz, .inl HZ.out⟩).symm, rfl⟩
        · have HZ : Hid (byt s 0 = 48 → s.size ≠ 1) := fun h0 h1 => he (zero_list h1 h0)
          by_cases h0 : ((s[0].toNat : Nat) : Int) = 48
          · go_wp2
            go_ret
            refine ⟨ret_bool ?_, rfl⟩
            rw [okT_no fun q => by
              rcases q.2.2 with e | e
              · exact HZ.out (HB'.out.trans h0) e
              · exact e (HB'.out.trans h0)]
            simpa using he
          · have h1 : (((s[0].toNat : Nat) : Int) == 48) = false := by simp; omega
            go_wp2
            go_ret
            refine ⟨ret_bool ?_, rfl⟩
            rw [okT_yes ⟨HD.out, hz, .inr (by rw [HB'.out]; exact h0)⟩]
            have e1 : s.toList.isEmpty = false := by simpa using hn
            have e2 : (((s[0].toNat : Nat) : Int) != 48) = true := by simp only [bne, h1]; rfl
            rw [e1, e2]; simp
theorem num_cat (s t : ByteArray) (j : Nat) : ∀ L, (∀ i, i < L → byt t i = byt s (j + i)) → num s (j + L) = num s j * 10 ^ L + num t L
  | 0, _ => by simp [num]
  | L + 1, h => by
    have ih := num_cat s t j L fun i hi => h i (by omega)
    show 10 * num s (j + L) + (byt s (j + L) - 48) = _ + (10 * num t L + (byt t L - 48))
    rw [ih, h L (by omega), Int.pow_succ]
    grind
theorem num_ten {s : ByteArray} : ∀ {k : Nat}, Dec s k → 0 ≤ num s k ∧ num s k < 10 ^ k
  | 0, _ => ⟨Int.le_refl _, show (0 : Int) < 1 by decide⟩
  | k + 1, h => by
    obtain ⟨h0, h1⟩ := num_ten (k := k) fun i hi => h i (by omega)
    have h2 := h k (by omega)
    rw [Int.pow_succ]
    show 0 ≤ 10 * num s k + (byt s k - 48) ∧ 10 * num s k + (byt s k - 48) < _
    omega
theorem ten9 : ∀ j, j < 10 → (10 : Int) ^ j ≤ 1000000000 := by decide
set_option maxHeartbeats 400000 in
theorem value_any (s : ByteArray) (w : World) (hs : s.size ≤ 9) (hd : Dec s s.size) :
    Calls Tryz.prog 91 #[.string s] w fun e w' => e = .returned (.int .i64 (num s s.size)) ∧ w' = w := by
  have HD : Hid (Dec s s.size) := hd
  clear hd
  go_enter Tryz.func91, Tryz.ntmps91
  go_wp2
  go_loop [3, 7] (fun v i => ∃ (k : Nat) (x : Int), k ≤ s.size ∧ i = .int .i64 k ∧ v = .int .i64 x ∧ Hid (x = num s k) ∧ 0 ≤ x ∧ x < 1000000000) (fun _ i => s.size - (intOf i).toNat)
  case atStart => exact ⟨0, 0, Nat.zero_le _, rfl, rfl, rfl, by omega, by omega⟩
  case round =>
    obtain ⟨k, x, hk, rfl, rfl, HX, hx0, hx1⟩ := hrel
    by_cases hlt : k < s.size
    · have HB : Hid (byt s k = (s[k].toNat : Int)) := byt_at hlt
      obtain ⟨b0, b1⟩ : 48 ≤ ((s[k].toNat : Nat) : Int) ∧ ((s[k].toNat : Nat) : Int) ≤ 57 := by rw [← HB.out]; exact HD.out k hlt
      have HN : Hid (10 * x + (((s[k].toNat : Nat) : Int) - 48) = num s (k + 1)) := by show _ = 10 * num s k + (byt s k - 48); rw [HX.out, HB.out]
      have HM : Hid (10 * x + (((s[k].toNat : Nat) : Int) - 48) < 1000000000) := by
        show _ < _
        rw [HN.out]
        refine Int.lt_of_lt_of_le (num_ten fun i hi => HD.out i (by omega)).2 ?_
        have h9 : k + 1 ≤ 9 := by omega
        exact ten9 (k + 1) (by omega)
      go_wp2
      go_round
      case rel => exact ⟨k + 1, _, by omega, by go_num, rfl, HN.out, by omega, HM.out⟩
      case measure => simp [intOf]; omega
    · obtain rfl : k = s.size := by omega
      go_wp2
      go_ret
      exact ⟨ret_int HX.out, rfl⟩
end Go.Proofs.YtmbajngbiefilaaGreatDoor

/-
  Package nat's extend, Read, Of, by contracts.
-/
namespace Go.Proofs.YtmbajngbiefilaaGreatDoor
open Go Go.RowKit Go.Proofs.YtmbajngbiefilaaGreatDoor.M
set_option linter.unusedSimpArgs false
set_option linter.unusedVariables false

theorem ext_step {r : Nat → Int} {k : Nat} {c x V : Int} (h : val r k + c * P k = V) : val (upd r k ((c + x) % 1073741824)) (k + 1) + (c + x) / 1073741824 * P (k + 1) = V + x * P k := sum_step h
set_option maxHeartbeats 1000000 in
theorem extend_any {B : Nat} {w : World} {v : Value} {t : Nat} {d : Nat → Int} (hO : Out B w v t d) (hN : Nrm d t) (ht : t ≤ 100000) (hB : B ≤ w.heap.size) (low : Int) (h0 : 0 ≤ low) (h1 : low < 1000000000) :
    Calls Tryz.prog 90 #[v, .int .i64 low] w fun e w' => ∃ v', e = .returned v' ∧ ∃ t' d', Out B w' v' t' d' ∧ Nrm d' t' ∧ val d' t' = val d t * 1000000000 + low ∧ Below B w w' := by
  obtain ⟨ao, cap, rfl, hR⟩ := hO.row
  have hl := hR.le
  have hm := hR.max
  have dd := hN.1
  have HN : Hid (Nrm d t) := hN
  clear hN
  go_enter Tryz.func90, Tryz.ntmps90
  go_wp2
  go_loopw [1, 8] (fun s i wr => ∃ (k : Nat) (c : Int) (r : Nat → Int), k ≤ t ∧ i = .int .i64 k ∧ s = .int .i64 c ∧ 0 ≤ c ∧ c < 1000000000 ∧ Out B wr (.slice ao t cap) t r ∧ Dig r t ∧ Hid (∀ i, k ≤ i → r i = d i) ∧ Hid (val r k + c * P k = val d k * 1000000000 + low) ∧ Below B w wr) (fun _ i _ => t - (intOf i).toNat)
  case atStart => exact ⟨0, low, d, Nat.zero_le _, rfl, rfl, h0, h1, hO, dd, fun _ _ => rfl, by show _ = _; show 0 + low * 1 = 0 * 1000000000 + low; omega, Below.refl _ _⟩
  case round =>
    obtain ⟨k, c, r, hk, rfl, rfl, hc0, hc1, hOr, hD, HS, HV, hbw⟩ := hrel
    clear hO hR
    by_cases hlt : k < t
    · obtain ⟨g, rfl, hgB, hgw⟩ := hOr.spot (by omega)
      have c1 := hOr.cell hlt
      have fz := hOr.frozen k
      have dk := hD k hlt
      have hX : r k = d k := HS.out k (Nat.le_refl _)
      have HX : Hid (r k = d k) := hX
      clear hX
      have h30 := and_30 (c + r k * 1000000000)
      go_wp2
      have hs := sum_step (x := r k * 1000000000) HV.out
      go_roundw
      case rel => exact ⟨k + 1, (c + r k * 1000000000) / 1073741824, upd r k ((c + r k * 1000000000) % 1073741824), by omega, by go_num, rfl, by omega, by omega, hOr.store hlt _, hD.upd _ (mod_dig _), fun i hi => by rw [upd_other r _ (by omega)]; exact HS.out i (by omega), by show _ = _; rw [hs, val_succ, HX.out]; grind, hbw.setCell hgB _⟩
      case measure => simp [intOf]; omega
    · obtain rfl : k = t := by omega
      by_cases hc : 0 < c
      · go_wp2_with (at_builtin; refine wpList_app rfl _ _ rfl B _ k r rfl (hOr.stays (bel_alloc _ _)) _ 1 1 (fun _ => c) rfl (row1 _ _ rfl) (by omega) (by have := hbw.size; simp; omega) ?_; intro v' w1 hO1 hg1)
        go_ret
        have hb1 : Below B w w1 := (hbw.alloc (Nat.le_trans hB hbw.size) _).grown hg1 (by have := hbw.size; simp; omega) (own_ge hOr)
        refine ⟨_, rfl, k + 1, upd r k c, hO1.congr (cat_upd r k _), ⟨dig_upd2 hD ⟨by omega, by omega⟩, .inr (by rw [Nat.add_sub_cancel, upd_same]; omega)⟩, ?_, hb1⟩
        rw [val_succ, upd_same, val_upd_ge _ _ (Nat.le_refl _)]
        exact HV.out
      · obtain rfl : c = 0 := by omega
        have hcd : decide ((0 : Int) < 0) = false := by decide
        go_wp2
        go_ret
        have hv : val r k = val d k * 1000000000 + low := by have := HV.out; omega
        refine ⟨_, rfl, k, r, hOr, ⟨hD, top_of hD fun hk0 => ?_⟩, hv, hbw⟩
        rw [hv]
        have h2 := val_top HN.out.1 hk0 HN.out.2
        have h3 := P_pos (k - 1)
        omega
theorem dec_extract {s : ByteArray} {a b i : Nat} (h : a + i < b) (hb : b ≤ s.size) : byt (s.extract a b) i = byt s (a + i) := by
  rw [byt_at (show i < (s.extract a b).size by rw [ByteArray.size_extract]; omega), byt_at (show a + i < s.size by omega)]
  rw [ByteArray.getElem_extract]
end Go.Proofs.YtmbajngbiefilaaGreatDoor

/-
  Package nat's Read, by its contract.
-/
namespace Go.Proofs.YtmbajngbiefilaaGreatDoor
open Go Go.RowKit Go.Proofs.YtmbajngbiefilaaGreatDoor.M
set_option linter.unusedSimpArgs false
set_option linter.unusedVariables false

theorem num_congr {s t : ByteArray} : ∀ {k : Nat}, (∀ i, i < k → byt s i = byt t i) → num s k = num t k
  | 0, _ => rfl
  | k + 1, h => by
    show 10 * num s k + (byt s k - 48) = 10 * num t k + (byt t k - 48)
    rw [num_congr fun i hi => h i (by omega), h k (by omega)]
theorem value_part {u : ByteArray} {L : Nat} (w : World) (hL : L ≤ u.size) (h9 : L ≤ 9) (hd : Dec u L) :
    Calls Tryz.prog 91 #[.string (u.extract 0 L)] w fun e w' => e = .returned (.int .i64 (num u L)) ∧ w' = w := by
  have hz : (u.extract 0 L).size = L := by rw [ByteArray.size_extract]; omega
  have hb : ∀ i, i < L → byt (u.extract 0 L) i = byt u i := fun i hi => by rw [dec_extract (by omega) hL, Nat.zero_add]
  have h := value_any (u.extract 0 L) w (by omega) (by rw [hz]; exact fun i hi => by rw [hb i hi]; exact hd i hi)
  rw [hz, num_congr hb] at h
  exact h
/-- The length of a text. -/
def lenOf' : Value → Nat | .string u => u.size | _ => 0
theorem P400 : (2 : Int) ^ 12000 = P 400 := by rw [P_two]
theorem num_small {s : ByteArray} {k : Nat} (h : Dec s k) (hk : k ≤ 3000) : num s k < P 400 := by
  rw [← P400]
  exact Int.lt_of_lt_of_le (num_range h).2 (two_le (by omega))
theorem num_mono {s : ByteArray} {j k : Nat} (h : Dec s k) (hj : j ≤ k) : num s j ≤ num s k := by
  induction k with
  | zero => obtain rfl : j = 0 := by omega
            exact Int.le_refl _
  | succ k ih =>
    by_cases e : j = k + 1
    · subst e; exact Int.le_refl _
    · have h1 := ih (fun i hi => h i (by omega)) (by omega)
      have h2 := h k (by omega)
      have h3 := (num_range (s := s) (k := k) fun i hi => h i (by omega)).1
      show num s j ≤ 10 * num s k + (byt s k - 48)
      omega
theorem read_no (s : ByteArray) (w : World) (hs : s.size ≤ 3000) (ok : okT s = false) :
    Calls Tryz.prog 69 #[.string s] w fun e w' => e = .returned (.tuple #[.slice none 0 0, .int .i64 50]) ∧ w' = w := by
  go_enter Tryz.func69, Tryz.ntmps69
  go_wp2_with fail
  refine (plain_any s _ (by omega)).mono ?_
  rintro e w' ⟨rfl, rfl⟩
  go_wp2
  go_ret2
  exact ⟨rfl, rfl⟩
set_option maxRecDepth 100000 in
set_option maxHeartbeats 1000000 in
theorem read_big (s : ByteArray) (w : World) (hs : s.size ≤ 18062) (ok : okT s = true) (hVV : num s s.size < P 2000) :
    Calls Tryz.prog 69 #[.string s] w fun e w' => ∃ v, e = .returned (.tuple #[v, .int .i64 0]) ∧ Ans w w' (num s s.size) v := by
  have HD : Hid (Dec s s.size) := (okT_out ok).1
  have HVV : Hid (num s s.size < P 2000) := hVV
  clear hVV
  have hbig : decide ((18062 : Int) < (s.size : Int)) = false := decide_eq_false (by omega)
  go_enter Tryz.func69, Tryz.ntmps69
  go_wp2_with fail
  refine (plain_any s _ (by omega)).mono ?_
  rintro e w' ⟨rfl, hw⟩
  replace hw := hw.symm
  subst hw
  go_wp2
  go_loopw [0, 4] (fun x l wr => ∃ (u : ByteArray) (j t : Nat) (d : Nat → Int), x = .string u ∧ j + u.size = s.size ∧ Hid (∀ i, i < u.size → byt u i = byt s (j + i)) ∧ (j = 0 ∨ u.size % 9 = 0) ∧ Hid (Out w.heap.size wr l t d ∧ Nrm d t ∧ val d t = num s j) ∧ Below w.heap.size w wr) (fun x _ _ => lenOf' x)
  case atStart => exact ⟨s, 0, 0, fun _ => 0, rfl, by omega, fun i hi => by rw [Nat.zero_add], .inl rfl, ⟨Out.nil _ _ _, ⟨fun i hi => by omega, .inl rfl⟩, rfl⟩, bel_refl _⟩
  case round =>
    obtain ⟨u, j, t, d, rfl, hj, HE, h9, HO, hbw⟩ := hrel
    have hus : u.size ≤ 18062 := by omega
    have HDj : Hid (Dec s j) := fun i hi => HD.out i (by omega)
    obtain ⟨lo, lc, rfl, hR⟩ := HO.out.1.row
    have htl : t ≤ 2000 := by
      have h1 := hR.num0 HO.out.2.1
      rw [HO.out.2.2] at h1
      exact h1.len (Int.lt_of_le_of_lt (num_mono HD.out (show j ≤ s.size by omega)) HVV.out)
    have hrl := hR.le
    have hrm := hR.max
    clear hR
    have HJ : Hid (j + u.size = s.size) := hj
    have HB : Hid (Below w.heap.size w wr) := hbw
    by_cases h0 : 0 < u.size
    · obtain ⟨L, hL⟩ : ∃ L : Nat, L = (u.size - 1) % 9 + 1 := ⟨_, rfl⟩
      have eL : ((u.size : Int) - 1) % 9 + 1 = L := by omega
      have hL1 : 1 ≤ L := by omega
      have hL9 : L ≤ 9 := by omega
      have hLu : L ≤ u.size := by omega
      have HL : Hid (j = 0 ∨ L = 9) := by show _ ∨ _; omega
      have HL' : Hid ((u.size - L) % 9 = 0) := by show _ = _; omega
      have HDu : Hid (Dec u L) := fun i hi => by rw [HE.out i (by omega)]; exact HD.out _ (by omega)
      have HN : Hid (0 ≤ num u L ∧ num u L < 1000000000) := ⟨(num_ten HDu.out).1, Int.lt_of_lt_of_le (num_ten HDu.out).2 (ten9 L (by omega))⟩
      have HV : Hid (num s j * 1000000000 + num u L = num s (j + L)) := by
        show _ = _
        rw [num_cat s u j L fun i hi => HE.out i (by omega)]
        rcases HL.out with e | e
        · subst e; show 0 * 1000000000 + _ = 0 * _ + _; omega
        · subst e; rfl
      have hz : (u.extract L u.size).size = u.size - L := by rw [ByteArray.size_extract]; omega
      have HZ : Hid ((u.extract L u.size).size = u.size - L) := hz
      clear hz hL h9 hj hbw
      go_wp2_with fail
      refine (value_part _ hLu hL9 HDu.out).mono ?_
      rintro e w2 ⟨rfl, hw⟩
      replace hw := hw.symm
      subst hw
      go_wp2_with fail
      refine (extend_any HO.out.1 HO.out.2.1 (by omega) HB.out.size _ HN.out.1 HN.out.2).mono ?_
      rintro e w2 ⟨v2, rfl, t2, d2, hO2, hN2, hv2, hb2⟩
      have HO2 : Hid (Out w.heap.size w2 v2 t2 d2 ∧ Nrm d2 t2 ∧ val d2 t2 = num s (j + L)) := ⟨hO2, hN2, by rw [hv2, HO.out.2.2]; exact HV.out⟩
      have HB2 : Hid (Below w.heap.size w w2) := HB.out.trans hb2
      obtain ⟨o2, c2, rfl, _⟩ := hO2.row
      clear hO2 hN2 hv2 hb2
      go_wp2
      go_roundw
      case rel => exact ⟨u.extract L u.size, j + L, t2, d2, rfl, by rw [HZ.out]; have := HJ.out; omega, fun i hi => by
          rw [HZ.out] at hi
          rw [dec_extract (by omega) (Nat.le_refl _), HE.out _ (by omega), Nat.add_assoc], .inr (by rw [HZ.out]; exact HL'.out), HO2.out, HB2.out⟩
      case measure => simp [lenOf']; omega
    · have hu0 : u.size = 0 := by omega
      have HU : Hid (j = s.size) := by show _ = _; omega
      have e1 : fitV lo t lc = .slice lo t lc := by simp [fitV]; omega
      have e2 : fitE t = 0 := by simp [fitE]; omega
      have HF : Hid (Calls Tryz.prog 47 #[.slice lo t lc] wr fun e w' => e = .returned (.tuple #[.slice lo t lc, .int .i64 0]) ∧ w' = wr) := by
        have := fit_any lo t lc wr
        rw [e1, e2] at this
        exact this
      clear hu0 e1 e2
      go_wp2_with fail
      refine HF.out.mono ?_
      rintro e w2 ⟨rfl, hw⟩
      replace hw := hw.symm
      subst hw
      go_wp2
      go_ret2
      exact ⟨_, rfl, t, d, HO.out.1, HO.out.2.1, by rw [HO.out.2.2, HU.out], HB.out⟩
theorem read_yes (s : ByteArray) (w : World) (hs : s.size ≤ 3000) (ok : okT s = true) :
    Calls Tryz.prog 69 #[.string s] w fun e w' => ∃ v, e = .returned (.tuple #[v, .int .i64 0]) ∧ Ans w w' (num s s.size) v :=
  read_big s w (by omega) ok (Int.lt_of_lt_of_le (num_small (okT_out ok).1 hs) (P_le (by decide)))
end Go.Proofs.YtmbajngbiefilaaGreatDoor

/-
  Lists of decimal digits, as bytes: their number; one list a number; the library's numeral.
-/
namespace Go.Proofs.YtmbajngbiefilaaGreatDoor
open Go Go.RowKit Go.Proofs.YtmbajngbiefilaaGreatDoor.M
set_option linter.unusedSimpArgs false
set_option linter.unusedVariables false

/-- The number of a list of decimal digits. -/
def numL (l : List UInt8) : Int := l.foldl (fun a b => 10 * a + ((b.toNat : Int) - 48)) 0
/-- Decimal digits alone. -/
def DecL (l : List UInt8) : Prop := ∀ b ∈ l, 48 ≤ b.toNat ∧ b.toNat ≤ 57
/-- Decimal digits without zeros ahead. -/
def OkL (l : List UInt8) : Prop := DecL l ∧ l ≠ [] ∧ (l.length = 1 ∨ l.head? ≠ some 48)
theorem numL_snoc (l : List UInt8) (b : UInt8) : numL (l ++ [b]) = 10 * numL l + ((b.toNat : Int) - 48) := by simp [numL]
theorem numL_from (l : List UInt8) : ∀ x : Int, l.foldl (fun a b => 10 * a + ((b.toNat : Int) - 48)) x = x * 10 ^ l.length + numL l := by
  induction l with
  | nil => intro x; simp [numL]
  | cons c l ih =>
    intro x
    unfold numL
    simp only [List.foldl_cons, List.length_cons]
    rw [ih, ih (10 * 0 + _), Int.pow_succ]
    grind
theorem numL_append (l m : List UInt8) : numL (l ++ m) = numL l * 10 ^ m.length + numL m := by
  unfold numL
  rw [List.foldl_append, numL_from m]
  rfl
theorem DecL.left {l m : List UInt8} (h : DecL (l ++ m)) : DecL l := fun b hb => h b (List.mem_append_left _ hb)
theorem DecL.right {l m : List UInt8} (h : DecL (l ++ m)) : DecL m := fun b hb => h b (List.mem_append_right _ hb)
theorem DecL.append {l m : List UInt8} (h : DecL l) (k : DecL m) : DecL (l ++ m) := fun b hb => by
  rcases List.mem_append.1 hb with q | q
  · exact h b q
  · exact k b q
theorem ten_pos (k : Nat) : (0 : Int) < 10 ^ k := Int.pow_pos (by decide)
theorem numL_range {l : List UInt8} (h : DecL l) : 0 ≤ numL l ∧ numL l < 10 ^ l.length := by
  induction l with
  | nil => exact ⟨Int.le_refl _, show (0 : Int) < 1 by decide⟩
  | cons c l ih =>
    have hc := h c List.mem_cons_self
    obtain ⟨i0, i1⟩ := ih fun b hb => h b (List.mem_cons_of_mem _ hb)
    have e : numL (c :: l) = ((c.toNat : Int) - 48) * 10 ^ l.length + numL l := by
      have := numL_append [c] l
      simp only [List.singleton_append] at this
      rw [this]
      congr 2
      simp [numL]
    rw [e, List.length_cons, Int.pow_succ]
    have hp := ten_pos l.length
    have h1 : ((c.toNat : Int) - 48) * 10 ^ l.length ≤ 9 * 10 ^ l.length := Int.mul_le_mul_of_nonneg_right (by omega) (by omega)
    have h2 : 0 ≤ ((c.toNat : Int) - 48) * 10 ^ l.length := Int.mul_nonneg (by omega) (by omega)
    omega
theorem numL_top {c : UInt8} {l : List UInt8} (h : DecL (c :: l)) (hc : c ≠ 48) : 10 ^ l.length ≤ numL (c :: l) := by
  have h1 := h c List.mem_cons_self
  have hn : c.toNat ≠ 48 := fun e => hc (UInt8.toNat_inj.1 (by rw [show (48 : UInt8).toNat = 48 from rfl]; exact e))
  obtain ⟨i0, i1⟩ := numL_range (l := l) fun b hb => h b (List.mem_cons_of_mem _ hb)
  have e : numL (c :: l) = ((c.toNat : Int) - 48) * 10 ^ l.length + numL l := by
    have := numL_append [c] l
    simp only [List.singleton_append] at this
    rw [this]
    congr 2
    simp [numL]
  rw [e]
  have h2 : 1 * 10 ^ l.length ≤ ((c.toNat : Int) - 48) * 10 ^ l.length := Int.mul_le_mul_of_nonneg_right (by omega) (Int.le_of_lt (ten_pos _))
  omega
theorem snoc_of {α : Type} {l : List α} {n : Nat} (h : l.length = n + 1) : ∃ m x, l = m ++ [x] ∧ m.length = n := by
  have hne : l ≠ [] := fun e => by subst e; simp at h
  refine ⟨l.dropLast, l.getLast hne, (List.dropLast_concat_getLast hne).symm, ?_⟩
  simp [h]
theorem numL_inj : ∀ (n : Nat) (l m : List UInt8), l.length = n → m.length = n → DecL l → DecL m → numL l = numL m → l = m
  | 0, l, m, hl, hm, _, _, _ => by rw [List.length_eq_zero_iff.1 hl, List.length_eq_zero_iff.1 hm]
  | n + 1, l, m, hl, hm, dl, dm, e => by
    obtain ⟨l', x, rfl, hl'⟩ := snoc_of hl
    obtain ⟨m', y, rfl, hm'⟩ := snoc_of hm
    rw [numL_snoc, numL_snoc] at e
    have hx := dl x (by simp)
    have hy := dm y (by simp)
    have e1 : x.toNat = y.toNat := by omega
    have e2 : numL l' = numL m' := by omega
    rw [numL_inj n l' m' hl' hm' dl.left dm.left e2, UInt8.toNat_inj.1 e1]
theorem okL_big {l : List UInt8} (h : OkL l) (h2 : 2 ≤ l.length) : 10 ^ (l.length - 1) ≤ numL l := by
  obtain ⟨hd, hne, hh⟩ := h
  match l, h2 with
  | c :: l, h2' =>
    have hc : c ≠ 48 := by
      rcases hh with e | e
      · simp only [List.length_cons] at e h2'; omega
      · simpa using e
    have := numL_top hd hc
    simpa using this
theorem ten_mono {i k : Nat} (h : i ≤ k) : (10 : Int) ^ i ≤ 10 ^ k := by
  obtain ⟨j, rfl⟩ := Nat.exists_eq_add_of_le h
  rw [Int.pow_add]
  have h1 := ten_pos i
  have h2 := ten_pos j
  have : (10 : Int) ^ i * 1 ≤ 10 ^ i * 10 ^ j := Int.mul_le_mul_of_nonneg_left (by omega) (by omega)
  omega
theorem okL_len {l m : List UInt8} (h : OkL l) (k : OkL m) (e : numL l = numL m) : ¬ l.length < m.length := fun hlt => by
  have hl : 1 ≤ l.length := List.length_pos_iff.2 h.2.1
  have h1 := (numL_range h.1).2
  have h2 := okL_big k (by omega)
  have h3 := ten_mono (show l.length ≤ m.length - 1 by omega)
  omega
theorem okL_unique {l m : List UInt8} (h : OkL l) (k : OkL m) (e : numL l = numL m) : l = m := by
  have h1 := okL_len h k e
  have h2 := okL_len k h e.symm
  exact numL_inj l.length l m rfl (by omega) h.1 k.1 e
theorem digit_byte {u : Nat} (h : u < 10) : (UInt8.ofNat (48 + u)).toNat = 48 + u := by
  rw [UInt8.toNat_ofNat']
  omega
/-- The library's numeral. -/
theorem dec_ok (u : Nat) : DecL (Lib.decDigits u) ∧ Lib.decDigits u ≠ [] ∧ numL (Lib.decDigits u) = u ∧ (0 < u → (Lib.decDigits u).head? ≠ some 48) := by
  induction u using Nat.strongRecOn with
  | _ u ih =>
    rw [Lib.decDigits]
    split
    · rename_i h
      have hb := digit_byte h
      refine ⟨fun b hb' => ?_, by simp, ?_, fun h0 => ?_⟩
      · simp only [List.mem_singleton] at hb'
        subst hb'
        omega
      · simp [numL]; omega
      · simp only [List.head?_cons, ne_eq, Option.some.injEq]
        intro e
        have := congrArg UInt8.toNat e
        rw [hb] at this
        have : (48 : UInt8).toNat = 48 := rfl
        omega
    · rename_i h
      obtain ⟨h1, h2, h3, h4⟩ := ih (u / 10) (by omega)
      have hb := digit_byte (show u % 10 < 10 by omega)
      refine ⟨h1.append fun b hb' => ?_, by simp, ?_, fun h0 => ?_⟩
      · simp only [List.mem_singleton] at hb'
        subst hb'
        omega
      · rw [numL_snoc, h3, hb]; omega
      · obtain ⟨x, xs, hx⟩ := List.exists_cons_of_ne_nil h2
        rw [hx] at h4 ⊢
        simpa using h4 (by omega)
end Go.Proofs.YtmbajngbiefilaaGreatDoor
