/-
  Parts of the proof, one behind another.
-/
import Derived.Test.YtheiinclgfgneaaDoorPart7
import Derived.Test.YtheiinclgfgneaaDoorPart8
import Derived.Test.YtheiinclgfgneaaDoorPart5
import Derived.Deep.RegionHeld3
/-
  Where lists lie that were answered, and what is kept besides.
-/
namespace Go.Proofs.YtheiinclgfgneaaDoor
open Go Go.RowKit Go.Proofs.YtheiinclgfgneaaDoor.M
set_option linter.unusedSimpArgs false
set_option linter.unusedVariables false

theorem notS2 {S : Nat → Prop} {l : Value} {s g : Nat} (h1 : ¬ S g) (h2 : l.ownBlock = some g → False) (h3 : g < s) : ¬ S2 S l s g := fun h => by
  rcases h with h | h | h
  · exact h1 h
  · exact h2 h
  · omega
/-- Where a value lies: in a block from x on, below y. -/
def Lies (v : Value) (x y : Nat) : Prop := ∀ g, v.ownBlock = some g → x ≤ g ∧ g < y
end Go.Proofs.YtheiinclgfgneaaDoor

/-
  plumblaw3.is: an answer of a number and an error, as the document says, by its contract; a number that is lent.
-/
namespace Go.Proofs.YtheiinclgfgneaaDoor
open Go Go.RowKit Go.Proofs.YtheiinclgfgneaaDoor.M
set_option linter.unusedSimpArgs false
set_option linter.unusedVariables false

/-- A number that was answered, its list from B on. -/
def DAn (B : Nat) (w : World) (V : Int) (v : Value) : Prop := ∃ ng s m e, v = .agg #[.bool ng, s, .int .i64 e] ∧ Dy V ng m e ∧ An B w s m
/-- A number or ErrLong. -/
def DFitA (B : Nat) (w : World) (V : Int) (v : Value) (er : Int) : Prop := (Dok V ∧ er = 0 ∧ DAn B w V v) ∨ (¬ Dok V ∧ er = 2 ∧ v = zeroV)
theorem DAns.dan {w w' : World} {V : Int} {v : Value} (h : DAns w w' V v) : DAn w.heap.size w' V v := by
  obtain ⟨ng, s, m, e, h1, h2, h3⟩ := h
  exact ⟨ng, s, m, e, h1, h2, h3.an⟩
theorem DFit.fitA {w w' : World} {V er : Int} {v : Value} (h : DFit w w' V v er) : DFitA w.heap.size w' V v er := by
  rcases h.2 with ⟨h1, h2, h3⟩ | h
  · exact .inl ⟨h1, h2, h3.dan⟩
  · exact .inr h
theorem DAns.fitA {w w' : World} {V : Int} {v : Value} (h : DAns w w' V v) (ok : Dok V) : DFitA w.heap.size w' V v 0 := .inl ⟨ok, rfl, h.dan⟩
theorem An.wr {B : Nat} {w w' : World} {v : Value} {V : Int} {g : Nat} (h : An B w v V) (hw : Wr g w w') (hg : g < B) : An B w' v V := by
  obtain ⟨t, d, h1, h2⟩ := h
  exact ⟨t, d, h1.of_block fun g' hg' => hw.block g' (h1.ge hg').2 (by have := (h1.ge hg').1; omega), h2⟩
theorem DAn.wr {B : Nat} {w w' : World} {v : Value} {V : Int} {g : Nat} (h : DAn B w V v) (hw : Wr g w w') (hg : g < B) : DAn B w' V v := by
  obtain ⟨ng, s, m, e, h1, h2, h3⟩ := h
  exact ⟨ng, s, m, e, h1, h2, h3.wr hw hg⟩
theorem DAn.keeps {B : Nat} {w w' : World} {v : Value} {V : Int} (h : DAn B w V v) (k : Below w.heap.size w w') : DAn B w' V v := by
  obtain ⟨ng, s, m, e, h1, h2, h3⟩ := h
  exact ⟨ng, s, m, e, h1, h2, h3.keeps k⟩
theorem DAn.lower {B B' : Nat} {w : World} {v : Value} {V : Int} (h : DAn B w V v) (hB : B' ≤ B) : DAn B' w V v := by
  obtain ⟨ng, s, m, e, h1, h2, h3⟩ := h
  exact ⟨ng, s, m, e, h1, h2, h3.lower hB⟩
theorem DAn.num {B : Nat} {w : World} {v : Value} {V : Int} (h : DAn B w V v) : DNum w v V := by
  obtain ⟨ng, s, m, e, h1, h2, h3⟩ := h
  exact ⟨ng, s, m, e, h1, h2, h3.num⟩
theorem DFitA.wr {B : Nat} {w w' : World} {v : Value} {V er : Int} {g : Nat} (h : DFitA B w V v er) (hw : Wr g w w') (hg : g < B) : DFitA B w' V v er := by
  rcases h with ⟨h1, h2, h3⟩ | h
  · exact .inl ⟨h1, h2, h3.wr hw hg⟩
  · exact .inr h
theorem DFitA.keeps {B : Nat} {w w' : World} {v : Value} {V er : Int} (h : DFitA B w V v er) (k : Below w.heap.size w w') : DFitA B w' V v er := by
  rcases h with ⟨h1, h2, h3⟩ | h
  · exact .inl ⟨h1, h2, h3.keeps k⟩
  · exact .inr h
theorem DFitA.lower {B B' : Nat} {w : World} {v : Value} {V er : Int} (h : DFitA B w V v er) (hB : B' ≤ B) : DFitA B' w V v er := by
  rcases h with ⟨h1, h2, h3⟩ | h
  · exact .inl ⟨h1, h2, h3.lower hB⟩
  · exact .inr h
theorem DFitA.shape {B : Nat} {w : World} {v : Value} {V er : Int} (h : DFitA B w V v er) : ∃ ng so sn sc e, v = .agg #[.bool ng, .slice so sn sc, .int .i64 e] := by
  rcases h with ⟨_, _, ng, s, m, e, h1, _, h3⟩ | ⟨_, _, rfl⟩
  · obtain ⟨so, sn, sc, rfl⟩ := h3.shape
    exact ⟨_, _, _, _, _, h1⟩
  · exact ⟨_, _, _, _, _, rfl⟩
theorem DFitA.ge {B : Nat} {w : World} {ng : Bool} {so : Option Addr} {sn sc : Nat} {e V er : Int} (h : DFitA B w V (.agg #[.bool ng, .slice so sn sc, .int .i64 e]) er) : Lies (.slice so sn sc) B w.heap.size := by
  intro g hg
  rcases h with ⟨_, _, ng', s, m, e', h1, _, h3⟩ | ⟨_, _, h1⟩
  · simp only [Value.agg.injEq, Array.mk.injEq, List.cons.injEq, Value.bool.injEq, Value.int.injEq, and_true, true_and] at h1
    obtain ⟨_, h1, _⟩ := h1
    rw [← h1] at h3
    exact h3.ge hg
  · simp only [zeroV, Value.agg.injEq, Array.mk.injEq, List.cons.injEq, Value.bool.injEq, Value.int.injEq, Value.slice.injEq, and_true, true_and] at h1
    obtain ⟨_, ⟨rfl, _, _⟩, _⟩ := h1
    simp [Value.ownBlock] at hg
theorem DAn.parts {B : Nat} {w : World} {ng : Bool} {so : Option Addr} {sn sc : Nat} {e V : Int} (h : DAn B w V (.agg #[.bool ng, .slice so sn sc, .int .i64 e])) : ∃ m, Dy V ng m e ∧ An B w (.slice so sn sc) m := by
  obtain ⟨ng', s, m, e', h1, h2, h3⟩ := h
  simp only [Value.agg.injEq, Array.mk.injEq, List.cons.injEq, Value.bool.injEq, Value.int.injEq, and_true, true_and] at h1
  obtain ⟨rfl, rfl, rfl⟩ := h1
  exact ⟨m, h2, h3⟩
theorem numblk_wr {g b : Nat} {w w' : World} (hw : Wr g w w') {cur xs : Array Value} {z z' : Nat × Nat} {t : TypeId} (hg : w.heap[g]? = some (.cells cur 3 z)) (ht : t ≠ 3) (hb : w.heap[b]? = some (.cells xs t z')) : w'.heap[b]? = some (.cells xs t z') := by
  refine (hw.block b (Array.getElem?_eq_some_iff.1 hb).1 fun e => ?_).trans hb
  subst e
  rw [hg] at hb
  simp at hb
  exact ht hb.2.1.symm
/-- The least exponent and the digits of a number that is told as valid. -/
theorem dok_lt {V : Int} {ng : Bool} {m e : Int} (hy : Dy V ng m e) (ok : Dok V) : m < P 2000 := (hy.ok.1 ok).1
end Go.Proofs.YtheiinclgfgneaaDoor

/-
  The document's single operations (plumbref4): Look, NaN, signed, zero, by their contracts.
-/
namespace Go.Proofs.YtheiinclgfgneaaDoor
open Go Go.RowKit Go.Proofs.YtheiinclgfgneaaDoor.M
set_option linter.unusedSimpArgs false
set_option linter.unusedVariables false

/-- What was looked at: a sign, whether it is no number, whether infinite, its value. -/
def Pt (w : World) (ng na ni : Bool) (V : Int) (v : Value) : Prop := ∃ xg xo xn xc xe, v = .agg #[.bool ng, .bool na, .bool ni, .bool xg, .slice xo xn xc, .int .i64 xe] ∧ DNum w (.agg #[.bool xg, .slice xo xn xc, .int .i64 xe]) V
set_option maxRecDepth 100000 in
theorem rnan_any (w : World) : Calls Tryd.prog 80 #[k64V] w fun e w' => e = .returned (.int .i64 9221120237041090561) ∧ Below w.heap.size w w' := by
  unfold k64V
  go_enter Tryd.func80, Tryd.ntmps80
  go_wp2
  go_ret
  exact ⟨rfl, bel_alloc _ _⟩
set_option maxRecDepth 100000 in
theorem rsigned_any (ng : Bool) (b : Int) (hb : 0 ≤ b ∧ b ≤ 9218868437227405312) (w : World) : Calls Tryd.prog 81 #[k64V, .bool ng, .int .i64 b] w fun e w' => e = .returned (.int .i64 (patS ng b)) ∧ Below w.heap.size w w' := by
  unfold k64V patS
  cases ng
  all_goals
    go_enter Tryd.func81, Tryd.ntmps81
    go_wp2
    go_ret
    exact ⟨ret_int (by first | rfl | omega | (simp; done) | (simp; omega)), bel_alloc _ _⟩
set_option maxRecDepth 100000 in
theorem rzero_any (ng na ni xg : Bool) (xo : Option Addr) (xn xc : Nat) (xe : Int) (hx : xn ≤ 9223372036854775807) (w : World) : Calls Tryd.prog 82 #[.agg #[.bool ng, .bool na, .bool ni, .bool xg, .slice xo xn xc, .int .i64 xe]] w fun e w' => e = .returned (.bool (!na && !ni && decide (xn = 0))) ∧ Below w.heap.size w w' := by
  by_cases h0 : xn = 0
  · subst h0
    cases na <;> cases ni
    all_goals
      go_enter Tryd.func82, Tryd.ntmps82
      go_wp2
      go_ret
      exact ⟨rfl, bel_alloc _ _⟩
  · have h1 : ((xn : Int) == 0) = false := by simp; omega
    rw [decide_eq_false h0]
    cases na <;> cases ni
    all_goals
      go_enter Tryd.func82, Tryd.ntmps82
      go_wp2
      go_ret
      exact ⟨rfl, bel_alloc _ _⟩
theorem DAn.set {B : Nat} {w : World} {V : Int} {v : Value} (h : DAn B w V v) {a : Addr} (ha : a.block < B) (u : Value) : DAn B (w.setCell a u) V v := by
  obtain ⟨ng, s, m, e, h1, h2, t, d, h3, h4, h5⟩ := h
  exact ⟨ng, s, m, e, h1, h2, t, d, h3.set_below ha u, h4, h5⟩
theorem cls_fin {b : Int} (hp : pok b = true) : cls b < 3 := by
  unfold pok at hp
  unfold cls
  simp at hp
  rw [if_neg hp]
  split
  · split <;> omega
  · omega
theorem cls_not {b : Int} (hp : pok b ≠ true) : (cls b = 3 ∨ cls b = 4) ∧ patV b = 0 := by
  unfold pok at hp
  simp at hp
  refine ⟨?_, ?_⟩
  · unfold cls
    rw [if_pos hp]
    split <;> simp
  · unfold patV pmag
    rw [if_pos hp]
    have : sg (pneg b) 0 = 0 := by unfold sg; split <;> rfl
    rw [this, Int.zero_mul]
set_option maxRecDepth 100000 in
set_option maxHeartbeats 1000000 in
theorem rlook_any (b : Int) (w : World) (hb : rng b) : Calls Tryd.prog 76 #[k64V, .int .i64 b] w fun e w' => ∃ v, e = .returned v ∧ Below w.heap.size w w' ∧ Pt w' (decide (b < 0)) (decide (cls b = 4)) (decide (cls b = 3)) (patV b) v := by
  unfold k64V
  have hC := fun W => refClass b W hb
  by_cases hp : pok b = true
  · have hO := fun W => rof_any b W hb hp
    have hc3 := cls_fin hp
    have hV : sg (pneg b) (pmag b) * pw (pexp b) = patV b := rfl
    rw [hV] at hO
    clear hV
    generalize patV b = V at *
    obtain ⟨c, hc⟩ : ∃ c, cls b = c := ⟨_, rfl⟩
    rw [hc] at hC hc3 ⊢
    have e4 : decide (c = 4) = (c == 4) := rfl
    have e3 : decide (c = 3) = (c == 3) := rfl
    have n4 : (c == 4) = false := by simp; omega
    have n3 : (c == 3) = false := by simp; omega
    have dd : decide (c < 3) = true := decide_eq_true hc3
    rw [e4, e3]
    clear hc hb hp e4 e3
    go_enter Tryd.func76, Tryd.ntmps76
    go_wp2_with fail
    refine (hC _).mono ?_
    rintro _ _ ⟨rfl, rfl⟩
    go_wp2_with fail
    refine (hO _).mono ?_
    rintro _ w3 ⟨v, rfl, hD⟩
    obtain ⟨ng', s', m', e', rfl, hyy, hA2⟩ := id hD
    obtain ⟨so', sn', sc', rfl⟩ := hA2.num.shape
    have q0 := (hD.below.block w.heap.size (by rw [size3]; omega)).trans (h3_0 _ _ _ _)
    have q1 := (hD.below.block (w.heap.size + 1) (by rw [size3]; omega)).trans (h3_1 _ _ _ _)
    have q2 := (hD.below.block (w.heap.size + 2) (by rw [size3]; omega)).trans (h3_2 _ _ _ _)
    have k0 := blkC q0 0 rfl
    have x0 := blkC q1 0 rfl
    have x1 := blkC q1 1 rfl
    have x2 := blkC q1 2 rfl
    have x3 := blkC q1 3 rfl
    have x4 := blkC q1 4 rfl
    have x5 := blkC q1 5 rfl
    have f0 := blkF q1 0
    have f1 := blkF q1 1
    have f2 := blkF q1 2
    have f3 := blkF q1 3
    have f4 := blkF q1 4
    have f5 := blkF q1 5
    have y0 := blkC q2 0 rfl
    have y1 := blkC q2 1 rfl
    have y2 := blkC q2 2 rfl
    have y3 := blkC q2 3 rfl
    have y4 := blkC q2 4 rfl
    have y5 := blkC q2 5 rfl
    have g3 := blkF q2 3
    have g4 := blkF q2 4
    have g5 := blkF q2 5
    have hbw := bel_trans (bel_a3 w _ _ _) hD.below
    have hDa := hD.dan
    rw [size3] at hDa
    clear hD hA2 hyy hO hC q0 q1 q2
    go_wp2
    refine bodyPost_ret (v := .agg #[.bool (decide (b < 0)), .bool false, .bool false, .bool ng', .slice so' sn' sc', .int .i64 e']) (by simp [results, Tryd.results76, go_sem, x0, x1, x2, x3, x4, x5]) rfl ⟨_, rfl, ?_, ?_⟩
    · iterate 9 (refine Below.setCell ?_ (by dsimp only; omega) _)
      exact hbw
    · rw [n4, n3]
      refine ⟨_, _, _, _, _, rfl, DAn.num (B := w.heap.size + 3) ?_⟩
      iterate 9 (refine DAn.set ?_ (by dsimp only; omega) _)
      exact hDa
  · obtain ⟨hc34, hV⟩ := cls_not hp
    rw [hV]
    obtain ⟨c, hc⟩ : ∃ c, cls b = c := ⟨_, rfl⟩
    rw [hc] at hC hc34 ⊢
    clear hc hb hp hV
    rcases hc34 with rfl | rfl
    all_goals
      go_enter Tryd.func76, Tryd.ntmps76
      go_wp2_with fail
      refine (hC _).mono ?_
      rintro _ _ ⟨rfl, rfl⟩
      go_wp2
    · refine bodyPost_ret (v := .agg #[.bool (decide (b < 0)), .bool false, .bool true, .bool false, .slice none 0 0, .int .i64 0]) (by simp [results, Tryd.results76, go_sem]) rfl ⟨_, rfl, ?_, ?_⟩
      · exact bel_a3 _ _ _ _
      · exact ⟨_, _, _, _, _, rfl, DNum.zero _⟩
    · refine bodyPost_ret (v := .agg #[.bool (decide (b < 0)), .bool true, .bool false, .bool false, .slice none 0 0, .int .i64 0]) (by simp [results, Tryd.results76, go_sem]) rfl ⟨_, rfl, ?_, ?_⟩
      · exact bel_a3 _ _ _ _
      · exact ⟨_, _, _, _, _, rfl, DNum.zero _⟩
end Go.Proofs.YtheiinclgfgneaaDoor

/-
  The document's rounding (plumbref4.Cut): what its walk is given, and what it tells.
-/
namespace Go.Proofs.YtheiinclgfgneaaDoor
open Go Go.RowKit Go.Proofs.YtheiinclgfgneaaDoor.M
set_option linter.unusedSimpArgs false
set_option linter.unusedVariables false

/-- What Cut tells, out of what it has found. -/
def cutA (way : Int) (ng hf rs : Bool) (K : Nat) : Bool := if way = 0 then hf && (rs || decide (K % 2 = 1)) else if way = 1 then ng && (hf || rs) else if way = 2 then !ng && (hf || rs) else false
def cutT (way : Int) (ng hf rs : Bool) (K : Nat) (E : Int) : Int × Bool :=
  let U : Nat := K + (if cutA way ng hf rs K then 1 else 0)
  if 4503599627370496 ≤ U ∧ 1024 < (blen (U : Int) : Int) + E then ((if ng then -9223372036854775808 else 0) + (if way = 0 ∨ (way = 2 ∧ ng = false) ∨ (way = 1 ∧ ng = true) then 9218868437227405312 else 9218868437227405311), true) else ((if ng then -9223372036854775808 else 0) + jp false U E, hf || rs)
theorem cutT_no {way : Int} {ng hf rs : Bool} {K : Nat} {E : Int} (U : Nat) (hU : K + (if cutA way ng hf rs K then 1 else 0) = U) (h : ¬ (4503599627370496 ≤ U ∧ 1024 < (blen (U : Int) : Int) + E)) : cutT way ng hf rs K E = ((if ng then -9223372036854775808 else 0) + jp false U E, hf || rs) := by
  unfold cutT
  simp only
  rw [hU, if_neg h]
theorem cutT_ov {way : Int} {ng hf rs : Bool} {K : Nat} {E : Int} (U : Nat) (hU : K + (if cutA way ng hf rs K then 1 else 0) = U) (h : 4503599627370496 ≤ U ∧ 1024 < (blen (U : Int) : Int) + E) : cutT way ng hf rs K E = ((if ng then -9223372036854775808 else 0) + (if way = 0 ∨ (way = 2 ∧ ng = false) ∨ (way = 1 ∧ ng = true) then 9218868437227405312 else 9218868437227405311), true) := by
  unfold cutT
  simp only
  rw [hU, if_pos h]
theorem cutT_no' {way : Int} {ng hf rs : Bool} {K : Nat} {E : Int} (U : Nat) (Ui : Int) (hi : ((U : Nat) : Int) = Ui) (hU : K + (if cutA way ng hf rs K then 1 else 0) = U) (h : ¬ (4503599627370496 ≤ Ui ∧ 1024 < (blen Ui : Int) + E)) : cutT way ng hf rs K E = ((if ng then -9223372036854775808 else 0) + jp false Ui E, hf || rs) := by
  subst hi
  exact cutT_no U hU (fun q => h ⟨by omega, q.2⟩)
theorem cutT_ov' {way : Int} {ng hf rs : Bool} {K : Nat} {E : Int} (U : Nat) (Ui : Int) (hi : ((U : Nat) : Int) = Ui) (hU : K + (if cutA way ng hf rs K then 1 else 0) = U) (h : 4503599627370496 ≤ Ui ∧ 1024 < (blen Ui : Int) + E) : cutT way ng hf rs K E = ((if ng then -9223372036854775808 else 0) + (if way = 0 ∨ (way = 2 ∧ ng = false) ∨ (way = 1 ∧ ng = true) then 9218868437227405312 else 9218868437227405311), true) := by
  subst hi
  exact cutT_ov U hU ⟨by omega, h.2⟩
/-- What the walk is given. -/
structure CutF (ao : Option Addr) (n cap : Nat) (d : Nat → Int) (exp : Int) (more : Bool) (nb : Nat) (E lw : Int) (K : Nat) (hf rs : Bool) (l : Int) : Prop where
  hnb : 1 ≤ nb ∧ nb ≤ 300000
  he : -1300000 ≤ exp ∧ exp ≤ 1300000
  hlw : -100 ≤ lw ∧ lw ≤ 1700000
  hE : -1074 ≤ E ∧ E ≤ 1700000
  hEl : E - exp = lw
  hK : K < 9007199254740992
  hl : 0 ≤ l ∧ l ≤ 400000
  hr1 : more = true → rs = true ∧ 0 < lw
  hr2 : more = false → lw ≤ 1 → rs = false
  hr3 : more = false → 1 < lw → rs = decide (l < lw - 1)
  hm1 : ∀ (ts : Array TypeId) (t : TypeId) (w : World), (Builtin.max_ ts t #[.int .i64 ((nb : Int) + exp - 53), .int .i64 (-1074)]).run Tryd.prog w = .ok (.int .i64 E) w
  hm2 : ∀ (ts : Array TypeId) (t : TypeId) (w : World), (Builtin.max_ ts t #[.int .i64 lw, .int .i64 0]).run Tryd.prog w = .ok (.int .i64 (max lw 0)) w
  CB : ∀ W, Row W ao n cap d → Calls Tryd.prog 86 #[.slice ao n cap] W fun e w' => e = .returned (.int .i64 nb) ∧ w' = W
  CS : ∀ W, Row W ao n cap d → Calls Tryd.prog 67 #[.slice ao n cap, .int .i64 (max lw 0)] W fun e w' => ∃ so sn sc, e = .returned (.slice so sn sc) ∧ Below W.heap.size W w' ∧ (0 ≤ lw → Num w' (.slice so sn sc) K)
  CL : lw < 0 → ∀ W, Row W ao n cap d → Calls Tryd.prog 47 #[.slice ao n cap, .int .i64 (-lw)] W fun e w' => ∃ so sn sc, e = .returned (.slice so sn sc) ∧ Below W.heap.size W w' ∧ Num w' (.slice so sn sc) K
  CI : ∀ W, Row W ao n cap d → Calls Tryd.prog 87 #[.slice ao n cap, .int .i64 (lw - 1)] W fun e w' => e = .returned (.bool hf) ∧ w' = W
  CW : ∀ W, Row W ao n cap d → Calls Tryd.prog 66 #[.slice ao n cap] W fun e w' => e = .returned (.int .i64 l) ∧ w' = W
  CJ : ∀ U : Int, 0 ≤ U → U ≤ 9007199254740992 → ∃ J : Int, J = jp false U E ∧ (0 ≤ J ∧ J < 9218868437227405312) ∧ ∀ W, Calls Tryd.prog 89 #[k64V, .int .i64 U, .int .i64 E] W fun x w' => x = .returned (.int .i64 J) ∧ Below W.heap.size W w'
end Go.Proofs.YtheiinclgfgneaaDoor
