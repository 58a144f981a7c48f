/-
  Parts of the proof, one behind another.
-/
import Derived.Test.YtjlmpgbadgkgmaaGreatDoorPart13
import Derived.Test.YtjlmpgbadgkgmaaGreatDoorPart6
import Derived.Test.YtjlmpgbadgkgmaaGreatDoorPart7
import Derived.Test.YtjlmpgbadgkgmaaGreatDoorPart3
import Derived.Deep.RegionHeld3
/-
  Package plumbref3: Neg, Answer, Make, Scale, by contracts.
-/
namespace Go.Proofs.YtjlmpgbadgkgmaaGreatDoor
open Go Go.RowKit Go.Proofs.YtjlmpgbadgkgmaaGreatDoor.M
set_option linter.unusedSimpArgs false
set_option linter.unusedVariables false

/-- The other sign; 0 has none. -/
def NumR.opp (x : NumR) : NumR := ⟨if x.n = 0 then x.ng else !x.ng, x.ao, x.n, x.cap, x.d, x.e⟩
set_option maxRecDepth 100000 in
theorem rneg3_any (x : NumR) (w : World) (hm : x.n ≤ 9223372036854775807) :
    Calls Tryz.prog 118 #[x.v] w fun r w' => r = .returned x.opp.v ∧ Below w.heap.size w w' := by
  obtain ⟨ng, ao, n, cap, d, e⟩ := x
  unfold NumR.v NumR.opp
  simp only at *
  by_cases h0 : n = 0
  · subst h0
    go_enter Tryz.func118, Tryz.ntmps118
    go_wp2
    refine bodyPost_ret (v := .agg #[.bool ng, .slice ao 0 cap, .int .i64 e]) (by simp [results, Tryz.results118, go_sem]) rfl ⟨rfl, ?_⟩
    exact bel_alloc2 _ _ _
  · have hn0 : (0 : Int) < n := by omega
    rw [if_neg h0]
    go_enter Tryz.func118, Tryz.ntmps118
    go_wp2
    refine bodyPost_ret (v := .agg #[.bool (!ng), .slice ao n cap, .int .i64 e]) (by simp [results, Tryz.results118, go_sem]) rfl ⟨rfl, ?_⟩
    exact bel_alloc2 _ _ _
end Go.Proofs.YtjlmpgbadgkgmaaGreatDoor

/-
  Package plumbref3: Make, Scale, by contracts.
-/
namespace Go.Proofs.YtjlmpgbadgkgmaaGreatDoor
open Go Go.RowKit Go.Proofs.YtjlmpgbadgkgmaaGreatDoor.M
set_option linter.unusedSimpArgs false
set_option linter.unusedVariables false

/-- The document's own answer: a number, or ErrLong. -/
def RFit (w w' : World) (V : Int) (v : Value) (er : Int) : Prop := DFit w w' V v er
theorem RFit.shape {w w' : World} {V er : Int} {v : Value} (h : RFit w w' V v er) : ∃ ng so sn sc e, v = .agg #[.bool ng, .slice so sn sc, .int .i64 e] := by
  exact DFit.shape h
end Go.Proofs.YtjlmpgbadgkgmaaGreatDoor

/-
  Package plumbref3: Float, by its contract.
-/
namespace Go.Proofs.YtjlmpgbadgkgmaaGreatDoor
open Go Go.RowKit Go.Proofs.YtjlmpgbadgkgmaaGreatDoor.M
set_option linter.unusedSimpArgs false
set_option linter.unusedVariables false

theorem int_smallD {A W : Int} {a : Nat → Int} {m : Nat} (hd : Dig a (m + 1)) (h : W * P (m + 1) + val a (m + 1) = A) (h0 : 0 ≤ W) (hA : A < 9223372036854775808) : W * 1073741824 + a m ≤ 9223372036854775807 ∧ (W * 1073741824 + a m) * P m + val a m = A := by
  have e : (W * 1073741824 + a m) * P m + val a m = A := by
    rw [← h, P_succ, val_succ]; grind
  refine ⟨?_, e⟩
  have h1 := val_nonneg (hd.le (Nat.le_succ m))
  have h2 := P_pos m
  have h3 := (hd m (by omega)).1
  have h4 : (W * 1073741824 + a m) * 1 ≤ (W * 1073741824 + a m) * P m := Int.mul_le_mul_of_nonneg_left (by omega) (by omega)
  omega
end Go.Proofs.YtjlmpgbadgkgmaaGreatDoor

/-
  The document's rounding (plumbref4): bitsOf, joined, by their contracts; the facts that Cut's walk stands on.
-/
namespace Go.Proofs.YtjlmpgbadgkgmaaGreatDoor
open Go Go.RowKit Go.Proofs.YtjlmpgbadgkgmaaGreatDoor.M
set_option linter.unusedSimpArgs false
set_option linter.unusedVariables false

/-- binary64, as the document's Kind. -/
def k64V : Value := .agg #[.int .i64 53, .int .i64 (-1074), .int .i64 1024, .int .i64 9218868437227405312, .int .i64 (-9223372036854775808)]
theorem rbitsOf_any (m : Int) (w : World) (h0 : 0 ≤ m) (h1 : m ≤ 9223372036854775807) :
    Calls Tryz.prog 129 #[.int .i64 m] w fun e w' => e = .returned (.int .i64 (blen m)) ∧ w' = w := by
  have hbl : blen m ≤ 63 := blen_le (by show m < 9223372036854775808; omega)
  go_enter Tryz.func129, Tryz.ntmps129
  go_wp2
  go_loop [0, 3] (fun v s => ∃ (x : Int) (t : Nat), s = .int .i64 t ∧ v = .int .i64 x ∧ 0 ≤ x ∧ x ≤ 9223372036854775807 ∧ t ≤ 63 ∧ Hid (t + blen x = blen m)) (fun v _ => (intOf v).toNat)
  case atStart => exact ⟨m, 0, by go_num, rfl, h0, h1, by omega, by show 0 + _ = _; omega⟩
  case round =>
    obtain ⟨x, t, rfl, rfl, hx0, hx1, ht, HT⟩ := hrel
    by_cases hp : 0 < x
    · have ht2 : t + 1 ≤ 63 := by have := HT.out; have := blen_half hp; omega
      go_wp2
      go_round
      case rel => exact ⟨x / 2, t + 1, by go_num, rfl, by omega, by omega, ht2, by show _ = _; have := HT.out; have := blen_half hp; omega⟩
      case measure => simp [intOf]; omega
    · obtain rfl : x = 0 := by omega
      go_wp2
      go_ret
      exact ⟨ret_int (by have := HT.out; rw [blen_zero] at this; omega), rfl⟩
set_option maxRecDepth 100000 in
theorem rjoined_any (m e : Int) (w : World) (hm : rng m) (he : rng e) :
    Calls Tryz.prog 130 #[k64V, .int .i64 m, .int .i64 e] w fun x w' => x = .returned (.int .i64 (jp false m e)) ∧ Below w.heap.size w w' := by
  have hJ := fun W => refJoin false m e W hm he
  generalize jp false m e = J at hJ ⊢
  generalize jk 52 2047 (-1074) m e = K at hJ
  unfold k64V
  go_enter Tryz.func130, Tryz.ntmps130
  go_wp2_with fail
  refine (hJ _).mono ?_
  rintro r w1 ⟨rfl, rfl⟩
  go_wp2
  go_ret
  exact ⟨rfl, bel_alloc _ _⟩
theorem rbit_neg (ao : Option Addr) (n cap : Nat) (i : Int) (w : World) (hi : i < 0) (hi2 : -9223372036854775808 ≤ i) :
    Calls Tryz.prog 128 #[.slice ao n cap, .int .i64 i] w fun e w' => e = .returned (.bool false) ∧ w' = w := by
  go_enter Tryz.func128, Tryz.ntmps128
  go_wp2
  go_ret
  exact ⟨rfl, rfl⟩
end Go.Proofs.YtjlmpgbadgkgmaaGreatDoor

/-
  Package plumbref3: Of, Of32, Mul, by contracts.
-/
namespace Go.Proofs.YtjlmpgbadgkgmaaGreatDoor
open Go Go.RowKit Go.Proofs.YtjlmpgbadgkgmaaGreatDoor.M
set_option linter.unusedSimpArgs false
set_option linter.unusedVariables false

set_option maxRecDepth 100000 in
set_option maxHeartbeats 1000000 in
theorem rof_any (b : Int) (w : World) (hb : rng b) (hp : pok b = true) :
    Calls Tryz.prog 57 #[.int .i64 b] w fun r w' => ∃ v, r = .returned v ∧ DAns w w' (sg (pneg b) (pmag b) * pw (pexp b)) v := by
  obtain ⟨i0, i1, i2, i3⟩ := pmag_in hp
  have hF := fun W => rfrom_any (pmag b) W i0 (by omega)
  have hN := fun W ao n cap d (h : Row W ao n cap d) (hd : Dig d n) (hn : n ≤ 40000) => rnorm_any (pneg b) ao n cap d (pexp b) W h hd hn (by omega) (by omega)
  have hP := fun W => refParts b W hb
  generalize pneg b = ng at *
  generalize pexp b = ex at *
  generalize pmag b = mg at *
  rw [hp] at hP
  go_enter Tryz.func57, Tryz.ntmps57
  go_wp2_with fail
  refine (hP _).mono ?_
  rintro r w1 ⟨rfl, rfl⟩
  go_wp2_with fail
  refine (hF _).mono ?_
  rintro r w2 ⟨v, rfl, hA⟩
  obtain ⟨so, sn, sc, d, rfl, hR, hNr, hv⟩ := hA.num
  have hsn : sn ≤ 100 := hA.num.len (k := 100) (by have := P_le (show 3 ≤ 100 by omega); have : P 3 = 1237940039285380274899124224 := rfl; omega)
  have hbw := bel_trans (bel_alloc w _) hA.below
  go_wp2_with fail
  refine (hN _ _ _ _ _ hR hNr.1 (by omega)).mono ?_
  rw [hv]
  rintro r w3 ⟨v, rfl, hD⟩
  obtain ⟨ng', s', m', e', rfl, hyy, hA2⟩ := id hD
  obtain ⟨so', sn', sc', rfl⟩ := hA2.num.shape
  have q0 := ((bel_trans hA.below hD.below).block w.heap.size (by rw [size1]; omega)).trans (heap_a1 _ _)
  have x0 := blkC q0 0 rfl
  have x1 := blkC q0 1 rfl
  have x2 := blkC q0 2 rfl
  have z0 := blkF q0 0
  have z1 := blkF q0 1
  have z2 := blkF q0 2
  go_wp2
  refine bodyPost_ret (v := .agg #[.bool ng', .slice so' sn' sc', .int .i64 e']) (by simp [results, Tryz.results57, go_sem, x0, x1, x2]) rfl ⟨_, rfl, ?_⟩
  exact dans_res3 (g := w.heap.size) hD hbw (Nat.le_refl _) (Nat.lt_of_lt_of_le (by rw [size1]; omega) hA.below.size) _ _ _
end Go.Proofs.YtjlmpgbadgkgmaaGreatDoor

/-
  Where lists lie that were answered, and what is kept besides.
-/
namespace Go.Proofs.YtjlmpgbadgkgmaaGreatDoor
open Go Go.RowKit Go.Proofs.YtjlmpgbadgkgmaaGreatDoor.M
set_option linter.unusedSimpArgs false
set_option linter.unusedVariables false

/-- Where a value lies: in a block from x on, below y. -/
def Lies (v : Value) (x y : Nat) : Prop := ∀ g, v.ownBlock = some g → x ≤ g ∧ g < y
end Go.Proofs.YtjlmpgbadgkgmaaGreatDoor

/-
  plumblaw3.is: an answer of a number and an error, as the document says, by its contract; a number that is lent.
-/
namespace Go.Proofs.YtjlmpgbadgkgmaaGreatDoor
open Go Go.RowKit Go.Proofs.YtjlmpgbadgkgmaaGreatDoor.M
set_option linter.unusedSimpArgs false
set_option linter.unusedVariables false

/-- A number that was answered, its list from B on. -/
def DAn (B : Nat) (w : World) (V : Int) (v : Value) : Prop := ∃ ng s m e, v = .agg #[.bool ng, s, .int .i64 e] ∧ Dy V ng m e ∧ An B w s m
/-- A number that is read, whatever is kept besides. -/
def DRd (B : Nat) (w : World) (V : Int) (v : Value) : Prop := ∃ ng so sn sc d e, v = .agg #[.bool ng, .slice so sn sc, .int .i64 e] ∧ Dy V ng (val d sn) e ∧ Nrm d sn ∧ Rd B w so sn sc d
/-- A number or ErrLong. -/
def DFitA (B : Nat) (w : World) (V : Int) (v : Value) (er : Int) : Prop := (Dok V ∧ er = 0 ∧ DAn B w V v) ∨ (¬ Dok V ∧ er = 2 ∧ v = zeroV)
theorem DAns.dan {w w' : World} {V : Int} {v : Value} (h : DAns w w' V v) : DAn w.heap.size w' V v := by
  obtain ⟨ng, s, m, e, h1, h2, h3⟩ := h
  exact ⟨ng, s, m, e, h1, h2, h3.an⟩
theorem An.wr {B : Nat} {w w' : World} {v : Value} {V : Int} {g : Nat} (h : An B w v V) (hw : Wr g w w') (hg : g < B) : An B w' v V := by
  obtain ⟨t, d, h1, h2⟩ := h
  exact ⟨t, d, h1.of_block fun g' hg' => hw.block g' (h1.ge hg').2 (by have := (h1.ge hg').1; omega), h2⟩
theorem DAn.wr {B : Nat} {w w' : World} {v : Value} {V : Int} {g : Nat} (h : DAn B w V v) (hw : Wr g w w') (hg : g < B) : DAn B w' V v := by
  obtain ⟨ng, s, m, e, h1, h2, h3⟩ := h
  exact ⟨ng, s, m, e, h1, h2, h3.wr hw hg⟩
theorem DAn.ik {B B' : Nat} {w w' : World} {v : Value} {V : Int} (h : DAn B w V v) (k : Ik B' w w') : DAn B w' V v := by
  obtain ⟨ng, s, m, e, h1, h2, h3⟩ := h
  exact ⟨ng, s, m, e, h1, h2, h3.ik k⟩
theorem DAn.keeps {B : Nat} {w w' : World} {v : Value} {V : Int} (h : DAn B w V v) (k : Below w.heap.size w w') : DAn B w' V v := by
  obtain ⟨ng, s, m, e, h1, h2, h3⟩ := h
  exact ⟨ng, s, m, e, h1, h2, h3.keeps k⟩
theorem DAn.lower {B B' : Nat} {w : World} {v : Value} {V : Int} (h : DAn B w V v) (hB : B' ≤ B) : DAn B' w V v := by
  obtain ⟨ng, s, m, e, h1, h2, h3⟩ := h
  exact ⟨ng, s, m, e, h1, h2, h3.lower hB⟩
theorem DAn.num {B : Nat} {w : World} {v : Value} {V : Int} (h : DAn B w V v) : DNum w v V := by
  obtain ⟨ng, s, m, e, h1, h2, h3⟩ := h
  exact ⟨ng, s, m, e, h1, h2, h3.num⟩
theorem DFitA.wr {B : Nat} {w w' : World} {v : Value} {V er : Int} {g : Nat} (h : DFitA B w V v er) (hw : Wr g w w') (hg : g < B) : DFitA B w' V v er := by
  rcases h with ⟨h1, h2, h3⟩ | h
  · exact .inl ⟨h1, h2, h3.wr hw hg⟩
  · exact .inr h
theorem DFitA.ik {B B' : Nat} {w w' : World} {v : Value} {V er : Int} (h : DFitA B w V v er) (k : Ik B' w w') : DFitA B w' V v er := by
  rcases h with ⟨h1, h2, h3⟩ | h
  · exact .inl ⟨h1, h2, h3.ik k⟩
  · exact .inr h
theorem DFitA.keeps {B : Nat} {w w' : World} {v : Value} {V er : Int} (h : DFitA B w V v er) (k : Below w.heap.size w w') : DFitA B w' V v er := by
  rcases h with ⟨h1, h2, h3⟩ | h
  · exact .inl ⟨h1, h2, h3.keeps k⟩
  · exact .inr h
theorem DFitA.lower {B B' : Nat} {w : World} {v : Value} {V er : Int} (h : DFitA B w V v er) (hB : B' ≤ B) : DFitA B' w V v er := by
  rcases h with ⟨h1, h2, h3⟩ | h
  · exact .inl ⟨h1, h2, h3.lower hB⟩
  · exact .inr h
theorem DFitA.shape {B : Nat} {w : World} {v : Value} {V er : Int} (h : DFitA B w V v er) : ∃ ng so sn sc e, v = .agg #[.bool ng, .slice so sn sc, .int .i64 e] := by
  rcases h with ⟨_, _, ng, s, m, e, h1, _, h3⟩ | ⟨_, _, rfl⟩
  · obtain ⟨so, sn, sc, rfl⟩ := h3.shape
    exact ⟨_, _, _, _, _, h1⟩
  · exact ⟨_, _, _, _, _, rfl⟩
theorem DFitA.ge {B : Nat} {w : World} {ng : Bool} {so : Option Addr} {sn sc : Nat} {e V er : Int} (h : DFitA B w V (.agg #[.bool ng, .slice so sn sc, .int .i64 e]) er) : Lies (.slice so sn sc) B w.heap.size := by
  intro g hg
  rcases h with ⟨_, _, ng', s, m, e', h1, _, h3⟩ | ⟨_, _, h1⟩
  · simp only [Value.agg.injEq, Array.mk.injEq, List.cons.injEq, Value.bool.injEq, Value.int.injEq, and_true, true_and] at h1
    obtain ⟨_, h1, _⟩ := h1
    rw [← h1] at h3
    exact h3.ge hg
  · simp only [zeroV, Value.agg.injEq, Array.mk.injEq, List.cons.injEq, Value.bool.injEq, Value.int.injEq, Value.slice.injEq, and_true, true_and] at h1
    obtain ⟨_, ⟨rfl, _, _⟩, _⟩ := h1
    simp [Value.ownBlock] at hg
theorem DRd.ik {B : Nat} {w w' : World} {v : Value} {V : Int} (h : DRd B w V v) (k : Ik B w w') : DRd B w' V v := by
  obtain ⟨ng, so, sn, sc, d, e, h1, h2, h3, h4⟩ := h
  exact ⟨ng, so, sn, sc, d, e, h1, h2, h3, h4.ik k⟩
theorem DRd.num {B : Nat} {w : World} {v : Value} {V : Int} (h : DRd B w V v) : DNum w v V := by
  obtain ⟨ng, so, sn, sc, d, e, h1, h2, h3, h4⟩ := h
  exact ⟨ng, _, _, e, h1, h2, _, _, _, _, rfl, h4.row, h3, rfl⟩
theorem DRd.shape {B : Nat} {w : World} {v : Value} {V : Int} (h : DRd B w V v) : ∃ ng so sn sc e, v = .agg #[.bool ng, .slice so sn sc, .int .i64 e] := by
  obtain ⟨ng, so, sn, sc, d, e, h1, _⟩ := h
  exact ⟨_, _, _, _, _, h1⟩
theorem DAn.rd {B : Nat} {w : World} {v : Value} {V : Int} (h : DAn B w V v) : DRd B w V v := by
  obtain ⟨ng, s, m, e, h1, h2, t, d, hO, hN, rfl⟩ := h
  obtain ⟨so, sc, rfl, _⟩ := hO.row
  exact ⟨ng, so, t, sc, d, e, h1, h2, hN, hO.rd⟩
theorem DRd.zero (B : Nat) (w : World) : DRd B w 0 zeroV := ⟨false, none, 0, 0, fun _ => 0, 0, rfl, Dy.zero, ⟨fun i hi => by omega, .inl rfl⟩, fun w' _ => Row.nil _ _⟩
/-- An argument, as it is read. -/
theorem DRd.of0 {w0 w : World} {x : NumR} (h : Row w0 x.ao x.n x.cap x.d) (ok : okR x = true) (hb : Below w0.heap.size w0 w) : DRd w0.heap.size w x.V x.v :=
  ⟨_, _, _, _, _, _, rfl, (okR_dy ok).1, (okR_sane ok).1, Rd.of0 h hb⟩
theorem DAn.parts {B : Nat} {w : World} {ng : Bool} {so : Option Addr} {sn sc : Nat} {e V : Int} (h : DAn B w V (.agg #[.bool ng, .slice so sn sc, .int .i64 e])) : ∃ m, Dy V ng m e ∧ An B w (.slice so sn sc) m := by
  obtain ⟨ng', s, m, e', h1, h2, h3⟩ := h
  simp only [Value.agg.injEq, Array.mk.injEq, List.cons.injEq, Value.bool.injEq, Value.int.injEq, and_true, true_and] at h1
  obtain ⟨rfl, rfl, rfl⟩ := h1
  exact ⟨m, h2, h3⟩
theorem DRd.parts {B : Nat} {w : World} {ng : Bool} {so : Option Addr} {sn sc : Nat} {e V : Int} (h : DRd B w V (.agg #[.bool ng, .slice so sn sc, .int .i64 e])) : ∃ d, Dy V ng (val d sn) e ∧ Nrm d sn ∧ Rd B w so sn sc d := by
  obtain ⟨ng', so', sn', sc', d, e', h1, h2, h3, h4⟩ := h
  simp only [Value.agg.injEq, Array.mk.injEq, List.cons.injEq, Value.bool.injEq, Value.int.injEq, Value.slice.injEq, and_true, true_and] at h1
  obtain ⟨rfl, ⟨rfl, rfl, rfl⟩, rfl⟩ := h1
  exact ⟨d, h2, h3, h4⟩
theorem Kept.s2 {B : Nat} {w : World} {k : Nat} {S : Nat → Prop} {l : Value} {s s' : Nat} (h : Kept B w k (S2 S l s')) (hs : s ≤ s') : Kept B w k (S2 S l s) := h.mono fun g hg => by
  rcases hg with h | h | h
  · exact .inl h
  · exact .inr (.inl h)
  · exact .inr (.inr (Nat.le_trans hs h))
end Go.Proofs.YtjlmpgbadgkgmaaGreatDoor

/-
  The document's single operations (plumbref4): Look, NaN, signed, zero, by their contracts.
-/
namespace Go.Proofs.YtjlmpgbadgkgmaaGreatDoor
open Go Go.RowKit Go.Proofs.YtjlmpgbadgkgmaaGreatDoor.M
set_option linter.unusedSimpArgs false
set_option linter.unusedVariables false

/-- What was looked at: a sign, whether it is no number, whether infinite, its value. -/
def Pt (w : World) (ng na ni : Bool) (V : Int) (v : Value) : Prop := ∃ xg xo xn xc xe, v = .agg #[.bool ng, .bool na, .bool ni, .bool xg, .slice xo xn xc, .int .i64 xe] ∧ DNum w (.agg #[.bool xg, .slice xo xn xc, .int .i64 xe]) V
set_option maxRecDepth 100000 in
theorem rnan_any (w : World) : Calls Tryz.prog 121 #[k64V] w fun e w' => e = .returned (.int .i64 9221120237041090561) ∧ Below w.heap.size w w' := by
  unfold k64V
  go_enter Tryz.func121, Tryz.ntmps121
  go_wp2
  go_ret
  exact ⟨rfl, bel_alloc _ _⟩
set_option maxRecDepth 100000 in
theorem rsigned_any (ng : Bool) (b : Int) (hb : 0 ≤ b ∧ b ≤ 9218868437227405312) (w : World) : Calls Tryz.prog 122 #[k64V, .bool ng, .int .i64 b] w fun e w' => e = .returned (.int .i64 (patS ng b)) ∧ Below w.heap.size w w' := by
  unfold k64V patS
  cases ng
  all_goals
    go_enter Tryz.func122, Tryz.ntmps122
    go_wp2
    go_ret
    exact ⟨ret_int (by first | rfl | omega | (simp; done) | (simp; omega)), bel_alloc _ _⟩
set_option maxRecDepth 100000 in
theorem rzero_any (ng na ni xg : Bool) (xo : Option Addr) (xn xc : Nat) (xe : Int) (hx : xn ≤ 9223372036854775807) (w : World) : Calls Tryz.prog 123 #[.agg #[.bool ng, .bool na, .bool ni, .bool xg, .slice xo xn xc, .int .i64 xe]] w fun e w' => e = .returned (.bool (!na && !ni && decide (xn = 0))) ∧ Below w.heap.size w w' := by
  by_cases h0 : xn = 0
  · subst h0
    cases na <;> cases ni
    all_goals
      go_enter Tryz.func123, Tryz.ntmps123
      go_wp2
      go_ret
      exact ⟨rfl, bel_alloc _ _⟩
  · have h1 : ((xn : Int) == 0) = false := by simp; omega
    rw [decide_eq_false h0]
    cases na <;> cases ni
    all_goals
      go_enter Tryz.func123, Tryz.ntmps123
      go_wp2
      go_ret
      exact ⟨rfl, bel_alloc _ _⟩
theorem DAn.set {B : Nat} {w : World} {V : Int} {v : Value} (h : DAn B w V v) {a : Addr} (ha : a.block < B) (u : Value) : DAn B (w.setCell a u) V v := by
  obtain ⟨ng, s, m, e, h1, h2, t, d, h3, h4, h5⟩ := h
  exact ⟨ng, s, m, e, h1, h2, t, d, h3.set_below ha u, h4, h5⟩
theorem cls_fin {b : Int} (hp : pok b = true) : cls b < 3 := by
  unfold pok at hp
  unfold cls
  simp at hp
  rw [if_neg hp]
  split
  · split <;> omega
  · omega
theorem cls_not {b : Int} (hp : pok b ≠ true) : (cls b = 3 ∨ cls b = 4) ∧ patV b = 0 := by
  unfold pok at hp
  simp at hp
  refine ⟨?_, ?_⟩
  · unfold cls
    rw [if_pos hp]
    split <;> simp
  · unfold patV pmag
    rw [if_pos hp]
    have : sg (pneg b) 0 = 0 := by unfold sg; split <;> rfl
    rw [this, Int.zero_mul]
set_option maxRecDepth 100000 in
set_option maxHeartbeats 1000000 in
theorem rlook_any (b : Int) (w : World) (hb : rng b) : Calls Tryz.prog 117 #[k64V, .int .i64 b] w fun e w' => ∃ v, e = .returned v ∧ Below w.heap.size w w' ∧ Pt w' (decide (b < 0)) (decide (cls b = 4)) (decide (cls b = 3)) (patV b) v := by
  unfold k64V
  have hC := fun W => refClass b W hb
  by_cases hp : pok b = true
  · have hO := fun W => rof_any b W hb hp
    have hc3 := cls_fin hp
    have hV : sg (pneg b) (pmag b) * pw (pexp b) = patV b := rfl
    rw [hV] at hO
    clear hV
    generalize patV b = V at *
    obtain ⟨c, hc⟩ : ∃ c, cls b = c := ⟨_, rfl⟩
    rw [hc] at hC hc3 ⊢
    have e4 : decide (c = 4) = (c == 4) := rfl
    have e3 : decide (c = 3) = (c == 3) := rfl
    have n4 : (c == 4) = false := by simp; omega
    have n3 : (c == 3) = false := by simp; omega
    have dd : decide (c < 3) = true := decide_eq_true hc3
    rw [e4, e3]
    clear hc hb hp e4 e3
    go_enter Tryz.func117, Tryz.ntmps117
    go_wp2_with fail
    refine (hC _).mono ?_
    rintro _ _ ⟨rfl, rfl⟩
    go_wp2_with fail
    refine (hO _).mono ?_
    rintro _ w3 ⟨v, rfl, hD⟩
    obtain ⟨ng', s', m', e', rfl, hyy, hA2⟩ := id hD
    obtain ⟨so', sn', sc', rfl⟩ := hA2.num.shape
    have q0 := (hD.below.block w.heap.size (by rw [size3]; omega)).trans (h3_0 _ _ _ _)
    have q1 := (hD.below.block (w.heap.size + 1) (by rw [size3]; omega)).trans (h3_1 _ _ _ _)
    have q2 := (hD.below.block (w.heap.size + 2) (by rw [size3]; omega)).trans (h3_2 _ _ _ _)
    have k0 := blkC q0 0 rfl
    have x0 := blkC q1 0 rfl
    have x1 := blkC q1 1 rfl
    have x2 := blkC q1 2 rfl
    have x3 := blkC q1 3 rfl
    have x4 := blkC q1 4 rfl
    have x5 := blkC q1 5 rfl
    have f0 := blkF q1 0
    have f1 := blkF q1 1
    have f2 := blkF q1 2
    have f3 := blkF q1 3
    have f4 := blkF q1 4
    have f5 := blkF q1 5
    have y0 := blkC q2 0 rfl
    have y1 := blkC q2 1 rfl
    have y2 := blkC q2 2 rfl
    have y3 := blkC q2 3 rfl
    have y4 := blkC q2 4 rfl
    have y5 := blkC q2 5 rfl
    have g3 := blkF q2 3
    have g4 := blkF q2 4
    have g5 := blkF q2 5
    have hbw := bel_trans (bel_a3 w _ _ _) hD.below
    have hDa := hD.dan
    rw [size3] at hDa
    clear hD hA2 hyy hO hC q0 q1 q2
    go_wp2
    refine bodyPost_ret (v := .agg #[.bool (decide (b < 0)), .bool false, .bool false, .bool ng', .slice so' sn' sc', .int .i64 e']) (by simp [results, Tryz.results117, go_sem, x0, x1, x2, x3, x4, x5]) rfl ⟨_, rfl, ?_, ?_⟩
    · iterate 9 (refine Below.setCell ?_ (by dsimp only; omega) _)
      exact hbw
    · rw [n4, n3]
      refine ⟨_, _, _, _, _, rfl, DAn.num (B := w.heap.size + 3) ?_⟩
      iterate 9 (refine DAn.set ?_ (by dsimp only; omega) _)
      exact hDa
  · obtain ⟨hc34, hV⟩ := cls_not hp
    rw [hV]
    obtain ⟨c, hc⟩ : ∃ c, cls b = c := ⟨_, rfl⟩
    rw [hc] at hC hc34 ⊢
    clear hc hb hp hV
    rcases hc34 with rfl | rfl
    all_goals
      go_enter Tryz.func117, Tryz.ntmps117
      go_wp2_with fail
      refine (hC _).mono ?_
      rintro _ _ ⟨rfl, rfl⟩
      go_wp2
    · refine bodyPost_ret (v := .agg #[.bool (decide (b < 0)), .bool false, .bool true, .bool false, .slice none 0 0, .int .i64 0]) (by simp [results, Tryz.results117, go_sem]) rfl ⟨_, rfl, ?_, ?_⟩
      · exact bel_a3 _ _ _ _
      · exact ⟨_, _, _, _, _, rfl, DNum.zero _⟩
    · refine bodyPost_ret (v := .agg #[.bool (decide (b < 0)), .bool true, .bool false, .bool false, .slice none 0 0, .int .i64 0]) (by simp [results, Tryz.results117, go_sem]) rfl ⟨_, rfl, ?_, ?_⟩
      · exact bel_a3 _ _ _ _
      · exact ⟨_, _, _, _, _, rfl, DNum.zero _⟩
end Go.Proofs.YtjlmpgbadgkgmaaGreatDoor

/-
  The document's rounding (plumbref4.Cut): what its walk is given, and what it tells.
-/
namespace Go.Proofs.YtjlmpgbadgkgmaaGreatDoor
open Go Go.RowKit Go.Proofs.YtjlmpgbadgkgmaaGreatDoor.M
set_option linter.unusedSimpArgs false
set_option linter.unusedVariables false

/-- What Cut tells, out of what it has found. -/
def cutA (way : Int) (ng hf rs : Bool) (K : Nat) : Bool := if way = 0 then hf && (rs || decide (K % 2 = 1)) else if way = 1 then ng && (hf || rs) else if way = 2 then !ng && (hf || rs) else false
def cutT (way : Int) (ng hf rs : Bool) (K : Nat) (E : Int) : Int × Bool :=
  let U : Nat := K + (if cutA way ng hf rs K then 1 else 0)
  if 4503599627370496 ≤ U ∧ 1024 < (blen (U : Int) : Int) + E then ((if ng then -9223372036854775808 else 0) + (if way = 0 ∨ (way = 2 ∧ ng = false) ∨ (way = 1 ∧ ng = true) then 9218868437227405312 else 9218868437227405311), true) else ((if ng then -9223372036854775808 else 0) + jp false U E, hf || rs)
theorem cutT_no {way : Int} {ng hf rs : Bool} {K : Nat} {E : Int} (U : Nat) (hU : K + (if cutA way ng hf rs K then 1 else 0) = U) (h : ¬ (4503599627370496 ≤ U ∧ 1024 < (blen (U : Int) : Int) + E)) : cutT way ng hf rs K E = ((if ng then -9223372036854775808 else 0) + jp false U E, hf || rs) := by
  unfold cutT
  simp only
  rw [hU, if_neg h]
theorem cutT_ov {way : Int} {ng hf rs : Bool} {K : Nat} {E : Int} (U : Nat) (hU : K + (if cutA way ng hf rs K then 1 else 0) = U) (h : 4503599627370496 ≤ U ∧ 1024 < (blen (U : Int) : Int) + E) : cutT way ng hf rs K E = ((if ng then -9223372036854775808 else 0) + (if way = 0 ∨ (way = 2 ∧ ng = false) ∨ (way = 1 ∧ ng = true) then 9218868437227405312 else 9218868437227405311), true) := by
  unfold cutT
  simp only
  rw [hU, if_pos h]
theorem cutT_no' {way : Int} {ng hf rs : Bool} {K : Nat} {E : Int} (U : Nat) (Ui : Int) (hi : ((U : Nat) : Int) = Ui) (hU : K + (if cutA way ng hf rs K then 1 else 0) = U) (h : ¬ (4503599627370496 ≤ Ui ∧ 1024 < (blen Ui : Int) + E)) : cutT way ng hf rs K E = ((if ng then -9223372036854775808 else 0) + jp false Ui E, hf || rs) := by
  subst hi
  exact cutT_no U hU (fun q => h ⟨by omega, q.2⟩)
theorem cutT_ov' {way : Int} {ng hf rs : Bool} {K : Nat} {E : Int} (U : Nat) (Ui : Int) (hi : ((U : Nat) : Int) = Ui) (hU : K + (if cutA way ng hf rs K then 1 else 0) = U) (h : 4503599627370496 ≤ Ui ∧ 1024 < (blen Ui : Int) + E) : cutT way ng hf rs K E = ((if ng then -9223372036854775808 else 0) + (if way = 0 ∨ (way = 2 ∧ ng = false) ∨ (way = 1 ∧ ng = true) then 9218868437227405312 else 9218868437227405311), true) := by
  subst hi
  exact cutT_ov U hU ⟨by omega, h.2⟩
/-- What the walk is given. -/
structure CutF (ao : Option Addr) (n cap : Nat) (d : Nat → Int) (exp : Int) (more : Bool) (nb : Nat) (E lw : Int) (K : Nat) (hf rs : Bool) (l : Int) : Prop where
  hnb : 1 ≤ nb ∧ nb ≤ 300000
  he : -1300000 ≤ exp ∧ exp ≤ 1300000
  hlw : -100 ≤ lw ∧ lw ≤ 1700000
  hE : -1074 ≤ E ∧ E ≤ 1700000
  hEl : E - exp = lw
  hK : K < 9007199254740992
  hl : 0 ≤ l ∧ l ≤ 400000
  hr1 : more = true → rs = true ∧ 0 < lw
  hr2 : more = false → lw ≤ 1 → rs = false
  hr3 : more = false → 1 < lw → rs = decide (l < lw - 1)
  hm1 : ∀ (ts : Array TypeId) (t : TypeId) (w : World), (Builtin.max_ ts t #[.int .i64 ((nb : Int) + exp - 53), .int .i64 (-1074)]).run Tryz.prog w = .ok (.int .i64 E) w
  hm2 : ∀ (ts : Array TypeId) (t : TypeId) (w : World), (Builtin.max_ ts t #[.int .i64 lw, .int .i64 0]).run Tryz.prog w = .ok (.int .i64 (max lw 0)) w
  CB : ∀ W, Row W ao n cap d → Calls Tryz.prog 127 #[.slice ao n cap] W fun e w' => e = .returned (.int .i64 nb) ∧ w' = W
  CS : ∀ W, Row W ao n cap d → Calls Tryz.prog 93 #[.slice ao n cap, .int .i64 (max lw 0)] W fun e w' => ∃ so sn sc, e = .returned (.slice so sn sc) ∧ Below W.heap.size W w' ∧ (0 ≤ lw → Num w' (.slice so sn sc) K)
  CL : lw < 0 → ∀ W, Row W ao n cap d → Calls Tryz.prog 97 #[.slice ao n cap, .int .i64 (-lw)] W fun e w' => ∃ so sn sc, e = .returned (.slice so sn sc) ∧ Below W.heap.size W w' ∧ Num w' (.slice so sn sc) K
  CI : ∀ W, Row W ao n cap d → Calls Tryz.prog 128 #[.slice ao n cap, .int .i64 (lw - 1)] W fun e w' => e = .returned (.bool hf) ∧ w' = W
  CW : ∀ W, Row W ao n cap d → Calls Tryz.prog 92 #[.slice ao n cap] W fun e w' => e = .returned (.int .i64 l) ∧ w' = W
  CJ : ∀ U : Int, 0 ≤ U → U ≤ 9007199254740992 → ∃ J : Int, J = jp false U E ∧ (0 ≤ J ∧ J < 9218868437227405312) ∧ ∀ W, Calls Tryz.prog 130 #[k64V, .int .i64 U, .int .i64 E] W fun x w' => x = .returned (.int .i64 J) ∧ Below W.heap.size W w'
end Go.Proofs.YtjlmpgbadgkgmaaGreatDoor
