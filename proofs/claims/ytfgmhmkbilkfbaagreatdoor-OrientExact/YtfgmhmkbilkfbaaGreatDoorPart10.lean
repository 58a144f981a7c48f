/-
  Parts of the proof, one behind another.
-/
import Derived.Test.YtfgmhmkbilkfbaaGreatDoorPart7
import Derived.Deep.RegionHeld3
import Derived.Test.YtfgmhmkbilkfbaaGreatDoorPart9
import Derived.Test.YtfgmhmkbilkfbaaGreatDoorPart8
import Derived.Test.YtfgmhmkbilkfbaaGreatDoorPart5
import Derived.Test.YtfgmhmkbilkfbaaGreatDoorPart4
import Derived.Deep.AppendLies
import Derived.Deep.RegionLaw
import Derived.Test.YtfgmhmkbilkfbaaGreatDoorPart6
import Derived.Test.YtfgmhmkbilkfbaaGreatDoorRows
import Derived.Test.YtfgmhmkbilkfbaaGreatDoorPart3
import Derived.ProofKit
import Derived.OpenShut
import Derived.ChangeOld
import Derived.LaidMore
import Derived.Deep.Strs
import Derived.Lib.LaidTab
import Derived.MakeChecks
import Derived.Stop.LaidErr
/-
  Package dyadic: compare, Cmp, by contracts.
-/
namespace Go.Proofs.YtfgmhmkbilkfbaaGreatDoor
open Go Go.RowKit Go.Proofs.YtfgmhmkbilkfbaaGreatDoor.M
set_option linter.unusedSimpArgs false
set_option linter.unusedVariables false

theorem ord_scale {a b p : Int} (hp : 0 < p) : ord (a * p) (b * p) = ord a b := by
  rcases Int.lt_trichotomy a b with h | h | h
  · rw [ord_lt h, ord_lt (Int.mul_lt_mul_of_pos_right h hp)]
  · rw [ord_eq h, ord_eq (by rw [h])]
  · rw [ord_gt h, ord_gt (Int.mul_lt_mul_of_pos_right h hp)]
/-- What reaches higher is greater. -/
theorem top_lt {a b e f : Int} (ha : 0 < a) (hb : 0 < b) (he : -4194304 ≤ e) (hf : -4194304 ≤ f) (h : e + blen a < f + blen b) : a * pw e < b * pw f := by
  have h1 := blen_lt a
  have h2 := (blen_pos hb)
  have hpe := pw_pos e
  have hpf := pw_pos f
  have c1 : a * pw e < 2 ^ blen a * pw e := Int.mul_lt_mul_of_pos_right h1 hpe
  have c2 : 2 ^ (blen b - 1) * pw f ≤ b * pw f := Int.mul_le_mul_of_nonneg_right h2.2 (Int.le_of_lt hpf)
  have c3 : 2 ^ blen a * pw e ≤ 2 ^ (blen b - 1) * pw f := by
    unfold pw
    rw [← Int.pow_add, ← Int.pow_add]
    exact two_le (by have := h2.1; omega)
  omega
theorem ord_tops {a b e f : Int} (ha : 0 < a) (hb : 0 < b) (he : -4194304 ≤ e) (hf : -4194304 ≤ f) (h : e + blen a ≠ f + blen b) : ord (e + blen a) (f + blen b) = ord (a * pw e) (b * pw f) := by
  rcases Int.lt_or_gt_of_ne h with h1 | h1
  · rw [ord_lt h1, ord_lt (top_lt ha hb he hf h1)]
  · rw [ord_gt h1, ord_gt (top_lt hb ha hf he h1)]
theorem ord_low {a b e f low : Int} (hl : -4194304 ≤ low) (he : low ≤ e) (hf : low ≤ f) : ord (a * 2 ^ (e - low).toNat) (b * 2 ^ (f - low).toNat) = ord (a * pw e) (b * pw f) := by
  rw [pw_sub hl he, pw_sub hl hf, ← Int.mul_assoc, ← Int.mul_assoc, ord_scale (pw_pos _)]
/-- Two numbers' own blocks, behind a call. -/
theorem keep66 {W w' : World} {g h : Nat} {a b c d e f : Value} (hb : Below W.heap.size W w') (hS : (W.cell? ⟨g, 0, none⟩ = some a ∧ W.cell? ⟨g, 1, none⟩ = some b ∧ W.cell? ⟨g, 2, none⟩ = some c) ∧ W.cell? ⟨h, 0, none⟩ = some d ∧ W.cell? ⟨h, 1, none⟩ = some e ∧ W.cell? ⟨h, 2, none⟩ = some f) :
    (w'.cell? ⟨g, 0, none⟩ = some a ∧ w'.cell? ⟨g, 1, none⟩ = some b ∧ w'.cell? ⟨g, 2, none⟩ = some c) ∧ w'.cell? ⟨h, 0, none⟩ = some d ∧ w'.cell? ⟨h, 1, none⟩ = some e ∧ w'.cell? ⟨h, 2, none⟩ = some f :=
  ⟨keepB hS.1 hb, keepB hS.2 hb⟩
theorem ord_three (a b : Int) : ord a b = 1 ∨ ord a b = 0 ∨ ord a b = -1 := by
  rcases Int.lt_trichotomy a b with h | h | h
  · exact .inr (.inr (ord_lt h))
  · exact .inr (.inl (ord_eq h))
  · exact .inl (ord_gt h)
theorem sgn_V {x : NumR} (sx : Sane x) : (sgn x.ng x.n = 0 ∧ x.V = 0 ∧ x.n = 0) ∨ (sgn x.ng x.n = 1 ∧ 0 < x.V ∧ 0 < x.n ∧ x.ng = false) ∨ (sgn x.ng x.n = -1 ∧ x.V < 0 ∧ 0 < x.n ∧ x.ng = true) := by
  by_cases h0 : x.n = 0
  · left
    refine ⟨by simp [sgn, h0], ?_, h0⟩
    show sg x.ng (val x.d x.n) * _ = 0
    rw [h0]
    show sg x.ng 0 * _ = 0
    rw [sg_zero, Int.zero_mul]
  · right
    have hp := Int.mul_pos (val_pos sx.1 (show 0 < x.n by omega)) (pw_pos x.e)
    have hV : x.V = sg x.ng (val x.d x.n) * pw x.e := rfl
    cases hg : x.ng
    · left
      rw [hg] at hV
      exact ⟨by simp [sgn, h0], by rw [hV]; exact hp, by omega, rfl⟩
    · right
      rw [hg] at hV
      refine ⟨by simp [sgn, h0], ?_, by omega, rfl⟩
      rw [hV]
      show -val x.d x.n * pw x.e < 0
      rw [Int.neg_mul]; omega
theorem ord_signs {x y : NumR} (sx : Sane x) (sy : Sane y) (h : sgn x.ng x.n ≠ sgn y.ng y.n) : ord (sgn x.ng x.n) (sgn y.ng y.n) = ord x.V y.V := by
  rcases sgn_V sx with ⟨a, b, _⟩ | ⟨a, b, _⟩ | ⟨a, b, _⟩ <;> rcases sgn_V sy with ⟨c, d, _⟩ | ⟨c, d, _⟩ | ⟨c, d, _⟩ <;> rw [a, c] at h ⊢ <;>
    first
      | exact absurd rfl h
      | (rw [ord_lt (by decide), ord_lt (by omega)])
      | (rw [ord_gt (by decide), ord_gt (by omega)])
theorem ord_neg (a b : Int) : ord (-a) (-b) = -ord a b := by
  rcases Int.lt_trichotomy a b with h | h | h
  · rw [ord_lt h, ord_gt (by omega)]; rfl
  · rw [ord_eq h, ord_eq (by omega)]; rfl
  · rw [ord_gt h, ord_lt (by omega)]
theorem ord_same {x y : NumR} (ox : okR x = true) (oy : okR y = true) (h : sgn x.ng x.n = sgn y.ng y.n) : ((0 < x.n ∧ 0 < y.n) ∨ (x.n = 0 ∧ y.n = 0 ∧ x.e = y.e)) ∧ sgn x.ng x.n * ord (val x.d x.n * pw x.e) (val y.d y.n * pw y.e) = ord x.V y.V := by
  have hV : x.V = sg x.ng (val x.d x.n) * pw x.e := rfl
  have hW : y.V = sg y.ng (val y.d y.n) * pw y.e := rfl
  rcases sgn_V (okR_sane ox) with ⟨a, b, c⟩ | ⟨a, b, c, d⟩ | ⟨a, b, c, d⟩ <;> rcases sgn_V (okR_sane oy) with ⟨a', b', c'⟩ | ⟨a', b', c', d'⟩ | ⟨a', b', c', d'⟩ <;> rw [a, a'] at h <;> first | (exfalso; omega) | skip
  · refine ⟨.inr ⟨c, c', ?_⟩, ?_⟩
    · rcases of_decide_eq_true ox with ⟨_, _, e1⟩ | ⟨e1, _⟩
      · rcases of_decide_eq_true oy with ⟨_, _, e2⟩ | ⟨e2, _⟩
        · omega
        · omega
      · omega
    · rw [a, b, b', Int.zero_mul, ord_eq rfl]
  · refine ⟨.inl ⟨c, c'⟩, ?_⟩
    rw [a, hV, hW, d, d', Int.one_mul]; rfl
  · refine ⟨.inl ⟨c, c'⟩, ?_⟩
    rw [a, hV, hW, d, d']
    show -1 * _ = ord (-val x.d x.n * _) (-val y.d y.n * _)
    rw [Int.neg_mul (val x.d x.n), Int.neg_mul (val y.d y.n), ord_neg]; omega
end Go.Proofs.YtfgmhmkbilkfbaaGreatDoor

/-
  Package dyadic's calls on numbers that are told by their worth.
-/
namespace Go.Proofs.YtfgmhmkbilkfbaaGreatDoor
open Go Go.RowKit Go.Proofs.YtfgmhmkbilkfbaaGreatDoor.M
set_option linter.unusedSimpArgs false
set_option linter.unusedVariables false

/-- A number by its worth, laid open. -/
theorem DNum.open {w : World} {v : Value} {V : Int} (h : DNum w v V) (ok : Dok V) : ∃ x : NumR, v = x.v ∧ Row w x.ao x.n x.cap x.d ∧ okR x = true ∧ x.V = V := by
  obtain ⟨ng, s, m, e, rfl, hy, ao, n, cap, d, rfl, hR, hN, rfl⟩ := h
  refine ⟨⟨ng, ao, n, cap, d, e⟩, rfl, hR, ?_, hy.val.symm⟩
  obtain ⟨o1, o2, o3⟩ := hy.ok.1 ok
  refine decide_eq_true ?_
  by_cases h0 : n = 0
  · left
    have hz : val d n = 0 := by rw [h0]; rfl
    rcases hy.form with ⟨_, f2, f3⟩ | ⟨f1, _⟩
    · exact ⟨h0, f2, f3⟩
    · omega
  · right
    have hp := val_pos hN (show 0 < n by omega)
    rcases hy.form with ⟨f1, _⟩ | ⟨_, f2⟩
    · omega
    · refine ⟨by show 0 < n; omega, ⟨?_, hN⟩, ?_, o2, o3⟩
      · exact Num.len (w := w) (ao := ao) (cap := cap) ⟨_, _, _, _, rfl, hR, hN, rfl⟩ o1
      · obtain ⟨k, hk⟩ : ∃ k, n = 1 + k := ⟨n - 1, by omega⟩
        have := val_split d 1 k
        rw [← hk] at this
        rw [this, show val d 1 = d 0 by show 0 + d 0 * 1 = _; omega, show P 1 = 1073741824 from rfl] at f2
        show d 0 % 2 = 1
        omega
theorem DFit.yes {w w' : World} {V er : Int} {v : Value} (h : DFit w w' V v er) (ok : Dok V) : er = 0 ∧ DAns w w' V v := by
  rcases h.2 with ⟨_, h1, h2⟩ | ⟨hn, _⟩
  · exact ⟨h1, h2⟩
  · exact absurd ok hn
theorem sub_D {w : World} {x y : Value} {A B : Int} (hx : DNum w x A) (hy : DNum w y B) (oA : Dok A) (oB : Dok B) (hT : Tab w) :
    Calls Tryz.prog 23 #[x, y] w fun r w' => ∃ v er, r = .returned (.tuple #[v, .int .i64 er]) ∧ DFit w w' (A - B) v er := by
  obtain ⟨x, rfl, hR, ok, rfl⟩ := hx.open oA
  obtain ⟨y, rfl, hR', ok', rfl⟩ := hy.open oB
  exact dsub_ok x y w hR hR' ok ok' hT
theorem mul_D {w : World} {x y : Value} {A B : Int} (hx : DNum w x A) (hy : DNum w y B) (oA : Dok A) (oB : Dok B) (hT : Tab w) :
    Calls Tryz.prog 21 #[x, y] w fun r w' => ∃ v er C, r = .returned (.tuple #[v, .int .i64 er]) ∧ C * 2 ^ 4194304 = A * B ∧ DFit w w' C v er := by
  obtain ⟨x, rfl, hR, ok, rfl⟩ := hx.open oA
  obtain ⟨y, rfl, hR', ok', rfl⟩ := hy.open oB
  refine (dmul_ok x y w hR hR' ok ok' hT).mono ?_
  rintro r w' ⟨v, er, rfl, hF⟩
  exact ⟨v, er, _, rfl, mulV_eq (by have := (okR_sane ok).2.2.1; omega) (by have := (okR_sane ok').2.2.1; omega), hF⟩
theorem sign_D {w : World} {x : Value} {A : Int} (hx : DNum w x A) (oA : Dok A) :
    Calls Tryz.prog 41 #[x] w fun r w' => r = .returned (.tuple #[.int .i64 (ord A 0), .int .i64 0]) ∧ Below w.heap.size w w' := by
  obtain ⟨x, rfl, hR, ok, rfl⟩ := hx.open oA
  have := dsignF_any x w hR
  rw [ok] at this
  have e : sgn x.ng x.n = ord x.V 0 := by
    rcases sgn_V (okR_sane ok) with ⟨a, b, _⟩ | ⟨a, b, _⟩ | ⟨a, b, _⟩
    · rw [a, b, ord_eq rfl]
    · rw [a, ord_gt b]
    · rw [a, ord_lt b]
  rw [← e]
  exact this
theorem valid_D {w : World} {x : Value} {A : Int} (hx : DNum w x A) (oA : Dok A) :
    Calls Tryz.prog 73 #[x] w fun r w' => r = .returned (.bool true) ∧ Below w.heap.size w w' := by
  obtain ⟨x, rfl, hR, ok, rfl⟩ := hx.open oA
  have := dvalid_any x.ng x.ao x.n x.cap x.d x.e w hR
  rwa [show okN x.ng x.d x.n x.e = true from ok] at this
theorem sameB_iff {a b : Nat → Int} {n m : Nat} (ha : Nrm a n) (hb : Nrm b m) : sameB a b n m = decide (val a n = val b m) := by
  by_cases h : val a n = val b m
  · rw [sameB_of ha hb h, decide_eq_true h]
  · rw [decide_eq_false h]
    refine decide_eq_false fun ⟨h1, h2⟩ => h ?_
    subst h1
    exact val_congr h2
end Go.Proofs.YtfgmhmkbilkfbaaGreatDoor

/-
  Package plumblaw3: alive.
-/
namespace Go.Proofs.YtfgmhmkbilkfbaaGreatDoor
open Go Go.RowKit Go.Proofs.YtfgmhmkbilkfbaaGreatDoor.M
set_option linter.unusedSimpArgs false
set_option linter.unusedVariables false

/-- A small number's form. -/
theorem dy_lit (ng : Bool) {m e : Int} (h0 : 0 < m) (h1 : m % 2 = 1) (he : -4194304 ≤ e) : Dy (sg ng m * pw e) ng m e := ⟨rfl, he, .inr ⟨h0, h1⟩⟩
theorem dok_lit {ng : Bool} {m e : Int} (h0 : 0 < m) (h1 : m % 2 = 1) (h2 : m < 1073741824) (he : -1048576 ≤ e) (he1 : e ≤ 1048576) : Dok (sg ng m * pw e) :=
  (dy_lit ng h0 h1 (by omega)).ok.2 ⟨by have := P2000_big2; omega, he, he1⟩
theorem dnum_lit {w : World} {g : Nat} (ng : Bool) {m e : Int} (h0 : 0 < m) (h1 : m % 2 = 1) (h2 : m < 1073741824) (he : -4194304 ≤ e) (hg : w.heap[g]? = some (.cells #[.int .i64 m] 3 (0, 0))) :
    DNum w (.agg #[.bool ng, .slice (some ⟨g, 0, none⟩) 1 1, .int .i64 e]) (sg ng m * pw e) := by
  refine ⟨ng, _, m, e, rfl, dy_lit ng h0 h1 he, _, 1, 1, fun _ => m, rfl, ?_, ⟨fun i _ => by show 0 ≤ m ∧ m < 1073741824; omega, .inr (by show m ≠ 0; omega)⟩, by show 0 + m * 1 = m; omega⟩
  exact ⟨Nat.le_refl _, by omega, fun h => by simp at h, fun _ => ⟨g, 0, rfl, (Array.getElem?_eq_some_iff.1 hg).1, fun i hi => by
    obtain rfl : i = 0 := by omega
    exact blkC hg 0 rfl⟩⟩
theorem pw_step {e k : Int} {l : Nat} (h : -4194304 ≤ e) (hk : k = e + l) : pw k = pw e * 2 ^ l := by rw [hk, pw_add h]
theorem pw_0 : pw 0 = pw (-1) * 2 := (pw_step (e := -1) (l := 1) (by omega) (by omega)).trans (by rw [Int.pow_succ, Int.pow_zero, Int.one_mul])
theorem live_x : mkV true 6 (-1) = sg true 3 * pw 0 := by
  unfold mkV
  rw [if_neg (by decide), if_neg (by decide), pw_0]
  generalize pw (-1) = p
  show -6 * p = -3 * (p * 2)
  omega
theorem live_y : pok 4609434218613702656 = true ∧ sg (pneg 4609434218613702656) (pmag 4609434218613702656) * pw (pexp 4609434218613702656) = sg false 3 * pw (-1) := by
  refine ⟨by decide, ?_⟩
  rw [show pneg 4609434218613702656 = false by decide, show pmag 4609434218613702656 = 6755399441055744 by decide, show pexp 4609434218613702656 = -52 by decide, pw_step (e := -52) (k := -1) (l := 51) (by omega) (by omega)]
  generalize pw (-52) = p
  show 6755399441055744 * p = 3 * (p * 2 ^ 51)
  rw [show (2 : Int) ^ 51 = 2251799813685248 by decide]
  omega
theorem live_s : sg true 3 * pw 0 + sg false 3 * pw (-1) = sg true 3 * pw (-1) := by
  rw [pw_0]
  generalize pw (-1) = p
  show -3 * (p * 2) + 3 * p = -3 * p
  omega
end Go.Proofs.YtfgmhmkbilkfbaaGreatDoor

/-
  The document's own answers (plumbref2): Shl, Shr, by contracts over the same values.
-/
namespace Go.Proofs.YtfgmhmkbilkfbaaGreatDoor
open Go Go.RowKit Go.Proofs.YtfgmhmkbilkfbaaGreatDoor.M
set_option linter.unusedSimpArgs false
set_option linter.unusedVariables false

set_option maxHeartbeats 1000000 in
theorem rshl_qp (ao : Option Addr) (n ca q p : Nat) (a : Nat → Int) (w : World) (ha : Row w ao n ca a) (da : Dig a n) (hn : n ≤ 100000) (hq : q ≤ 100000) (hp : p < 30) (k : Int) (hk : k = 30 * q + p) :
    Calls Tryz.prog 91 #[.slice ao n ca, .int .i64 k] w fun e w' => ∃ v, e = .returned v ∧ Ans w w' (P q * (2 ^ p * val a n)) v := by
  have hla := ha.le
  have hma := ha.max
  have e1 : k / 30 = q := by omega
  have e2 : k % 30 = p := by omega
  have hk0 : 0 ≤ k := by omega
  clear hk
  have hu := two_pos p
  have hu2 : (2 : Int) ^ p ≤ 2 ^ 29 := two_le (by omega)
  by_cases hn0 : n = 0
  · subst hn0
    have H0 : Hid (P q * (2 ^ p * val a 0) = 0) := by show _ = _; simp [val]
    go_enter Tryz.func91, Tryz.ntmps91
    go_wp2
    go_ret
    exact ⟨_, rfl, by rw [H0.out]; exact Ans.nil (bel_refl _)⟩
  · have en : ((n : Int) == 0) = false := by simp; omega
    go_enter Tryz.func91, Tryz.ntmps91
    go_wp2_with (at_make; refine wpList_mk rfl _ _ rfl _ _ q rfl rfl (by omega) (by omega) (by omega) ?_; intro w1 hB1 hb1)
    rw [e2]
    go_loopw [5, 7, 8] (fun l c i wr => ∃ (k : Nat) (c' : Int) (r : Nat → Int), k ≤ n ∧ i = .int .i64 k ∧ c = .int .i64 c' ∧ 0 ≤ c' ∧ c' < 2 ^ p ∧ Out w.heap.size wr l (q + k) r ∧ Dig r (q + k) ∧ Hid (∀ i, i < q → r i = 0) ∧ Hid (val (fun i => r (q + i)) k + c' * P k = 2 ^ p * val a k) ∧ Below w.heap.size w wr) (fun _ _ i _ => n - (intOf i).toNat)
    case atStart => exact ⟨0, 0, fun _ => 0, Nat.zero_le _, rfl, rfl, by omega, hu, hB1.out (Nat.le_refl _) (Nat.le_refl _) (by omega), zero_dig _, fun _ _ => rfl, by show _ = _; show (0 : Int) + 0 * 1 = 2 ^ p * 0; omega, hb1⟩
    case round =>
      obtain ⟨k, c, r, hk, rfl, rfl, hc0, hc1, hO, hD, HZ, HV, hbw⟩ := hrel
      by_cases hlt : k < n
      · obtain ⟨ba, fa, rfl, hba, hca⟩ := ha.spot (by omega)
        have c1 := (hbw.cell (p := ⟨ba, fa + k, none⟩) hba).trans (hca k hlt)
        have dk := da k hlt
        obtain ⟨s0, s1, s2⟩ := shl_dig dk (show p ≤ 30 by omega)
        have hc2 : (a k * 2 ^ p + c) / 1073741824 < 2 ^ p := by omega
        go_wp2_with (at_builtin; refine wpList_app rfl _ _ rfl w.heap.size _ (q + k) r rfl (hO.stays (bel_alloc _ _)) _ 1 1 (fun _ => (a k * 2 ^ p + c) % 1073741824) rfl (row1 _ _ rfl) (by omega) (by have := hbw.size; simp; omega) ?_; intro v' w1 hO1 hg1)
        have hb1 : Below w.heap.size w w1 := (hbw.alloc hbw.size _).grown hg1 (by have := hbw.size; simp; omega) (own_ge hO)
        have hs := sum_step (x := a k * 2 ^ p) HV.out
        rw [Int.add_comm c] at hs
        go_roundw
        case rel => exact ⟨k + 1, (a k * 2 ^ p + c) / 1073741824, upd r (q + k) ((a k * 2 ^ p + c) % 1073741824), by omega, by go_num, rfl, by omega, hc2, hO1.congr (cat_upd r (q + k) _), dig_upd2 hD (mod_dig _), fun i hi => by rw [upd_other r _ (by omega)]; exact HZ.out i hi, by show _ = _; rw [upd_shift, hs, val_succ]; grind, hb1⟩
        case measure => simp [intOf]; omega
      · obtain rfl : k = n := by omega
        go_wp2_with (at_builtin; refine wpList_app rfl _ _ rfl w.heap.size _ (q + k) r rfl (hO.stays (bel_alloc _ _)) _ 1 1 (fun _ => c) rfl (row1 _ _ rfl) (by omega) (by have := hbw.size; simp; omega) ?_; intro v' w1 hO1 hg1)
        have hb1 : Below w.heap.size w w1 := (hbw.alloc hbw.size _).grown hg1 (by have := hbw.size; simp; omega) (own_ge hO)
        have D2 : Dig (upd r (q + k) c) (q + k + 1) := dig_upd2 hD ⟨hc0, by omega⟩
        refine (rtrim_ans (hO1.congr (cat_upd r (q + k) c)) D2 hb1).mono ?_
        rintro e w3 ⟨v', rfl, hA, rfl⟩
        go_wp2
        go_ret
        refine ⟨_, rfl, ?_⟩
        rw [Nat.add_assoc, val_shift0 _ _ _ (fun i hi => by rw [upd_other r _ (by omega)]; exact HZ.out i hi), upd_shift, val_succ, upd_same, val_upd_ge _ _ (Nat.le_refl _), HV.out] at hA
        exact hA
theorem rshl_any (ao : Option Addr) (n ca k : Nat) (a : Nat → Int) (w : World) (ha : Row w ao n ca a) (da : Dig a n) (hn : n ≤ 100000) (hk : k ≤ 2000000) :
    Calls Tryz.prog 91 #[.slice ao n ca, .int .i64 k] w fun e w' => ∃ v, e = .returned v ∧ Ans w w' (val a n * 2 ^ k) v := by
  refine (rshl_qp ao n ca (k / 30) (k % 30) a w ha da hn (by omega) (by omega) k (by omega)).mono ?_
  rintro e w' ⟨v, he, h⟩
  refine ⟨v, he, ?_⟩
  rw [two_split k]
  rwa [show val a n * (P (k / 30) * 2 ^ (k % 30)) = P (k / 30) * (2 ^ (k % 30) * val a n) by grind]

set_option maxRecDepth 100000 in
set_option maxHeartbeats 1000000 in
theorem rshr_qp (ao : Option Addr) (n ca q p : Nat) (a : Nat → Int) (w : World) (ha : Row w ao n ca a) (da : Dig a n) (hn : n ≤ 100000) (hp : p < 30) (k : Int) (hk : k = 30 * q + p) (hkm : k ≤ 4000000) :
    Calls Tryz.prog 90 #[.slice ao n ca, .int .i64 k] w fun e w' => ∃ v, e = .returned v ∧ Ans w w' (val a n / P q / 2 ^ p) v := by
  have hla := ha.le
  have hma := ha.max
  have e1 : k / 30 = q := by omega
  have e2 : k % 30 = p := by omega
  have hk0 : 0 ≤ k := by omega
  have hq1 : q ≤ 200000 := by omega
  clear hk
  have hu := two_pos p
  have hu2 : (2 : Int) ^ p ≤ 2 ^ 29 := two_le (by omega)
  have huv : (2 : Int) ^ p * 2 ^ (30 - p) = 1073741824 := by rw [← Int.pow_add, show p + (30 - p) = 30 by omega]; rfl
  have HU : Hid ((2 : Int) ^ p * 2 ^ (30 - p) = 1073741824) := huv
  have hdv : (1073741824 : Int) / 2 ^ p = 2 ^ (30 - p) := by rw [← huv]; exact Int.mul_ediv_cancel_left _ (by omega)
  have hz : ((2 : Int) ^ p == 0) = false := by simp; omega
  clear huv
  by_cases hqn : n ≤ q
  · have H0 : Hid (val a n / P q / 2 ^ p = 0) := by
      show _ = _
      rw [Int.ediv_eq_zero_of_lt (val_nonneg da) (by have := val_lt da; have := P_le hqn; omega)]; exact Int.zero_ediv _
    go_enter Tryz.func90, Tryz.ntmps90
    go_wp2
    go_ret
    exact ⟨_, rfl, by rw [H0.out]; exact Ans.nil (bel_refl _)⟩
  · obtain ⟨ba, fa, rfl, hba, hca⟩ := ha.spot (by omega)
    obtain ⟨N, hN⟩ : ∃ N, n = q + N := ⟨n - q, by omega⟩
    have HN : Hid (n = q + N) := hN
    have hn1 : q + N ≤ n := by omega
    have hn2 : n ≤ q + N := by omega
    have hN0 : 0 < N := by omega
    clear hN
    go_enter Tryz.func90, Tryz.ntmps90
    go_wp2
    rw [e1, e2]
    go_loopw [5, 7] (fun l i wr => ∃ (k : Nat) (r : Nat → Int), k ≤ N ∧ i = .int .i64 ((q : Int) + k) ∧ Out w.heap.size wr l k r ∧ Hid (∀ i, i < k → r i = low (fun j => ext a n (q + j)) (2 ^ p) (2 ^ (30 - p)) i) ∧ Below w.heap.size w wr) (fun _ i _ => n - (intOf i).toNat)
    case atStart => exact ⟨0, fun _ => 0, Nat.zero_le _, by simp, Out.nil _ _ _, fun i hi => by omega, bel_refl _⟩
    case round =>
      obtain ⟨k, r, hk, rfl, hO, HV, hbw⟩ := hrel
      by_cases hlt : k < N
      · have c1 := (hbw.cell (p := ⟨ba, fa + (q + k), none⟩) hba).trans (hca (q + k) (by omega))
        have dx := da (q + k) (by omega)
        by_cases hl2 : q + k + 1 < n
        · have dy := da (q + k + 1) (by omega)
          obtain ⟨s0, s1, s2, s3, s4⟩ := shr_part dx dy hp
          have s5 : 0 ≤ a (q + k + 1) % 2 ^ p * 2 ^ (30 - p) := Int.mul_nonneg s3 (Int.le_of_lt (two_pos _))
          have s6 : (2 : Int) ^ (30 - p) ≤ 2 ^ 30 := two_le (by omega)
          have c2 := (hbw.cell (p := ⟨ba, fa + (q + k + 1), none⟩) hba).trans (hca (q + k + 1) (by omega))
          clear s2
          go_wp2
          go_quiet (fail)
          go_wp2_with (at_builtin; refine wpList_app rfl _ _ rfl w.heap.size _ k r rfl ((hO.stays (bDrewN (bel_refl _) _)).stays (bel_alloc _ _)) _ 1 1 (fun _ => (a (q + k) / 2 ^ p + a (q + k + 1) % 2 ^ p * 2 ^ (30 - p))) rfl (row1 _ _ rfl) (by omega) (by have := hbw.size; simp [World.drewN]; omega) ?_; intro v' w1 hO1 hg1)
          have hb1 : Below w.heap.size w w1 := ((bDrewN hbw _).alloc hbw.size _).grown hg1 (by have := hbw.size; simp [World.drewN]; omega) (own_ge hO)
          go_roundw
          case rel => exact ⟨k + 1, upd r k (a (q + k) / 2 ^ p + a (q + k + 1) % 2 ^ p * 2 ^ (30 - p)), by omega, by go_num, hO1.congr (cat_upd r k _), fun i hi => by
              by_cases e : i = k
              · rw [e, upd_same]
                show _ = ext a n (q + k) / 2 ^ p + ext a n (q + (k + 1)) % 2 ^ p * 2 ^ (30 - p)
                rw [ext_lt a (by omega), ext_lt a (by omega), Nat.add_assoc]
              · rw [upd_other _ _ e]; exact HV.out i (by omega), hb1⟩
          case measure => simp [intOf]; omega
        · obtain ⟨s0, s1, _, _, _⟩ := shr_part dx dx hp
          have s6 : (2 : Int) ^ (30 - p) ≤ 2 ^ 30 := two_le (by omega)
          go_wp2_with (at_builtin; refine wpList_app rfl _ _ rfl w.heap.size _ k r rfl (hO.stays (bel_alloc _ _)) _ 1 1 (fun _ => (a (q + k) / 2 ^ p)) rfl (row1 _ _ rfl) (by omega) (by have := hbw.size; simp; omega) ?_; intro v' w1 hO1 hg1)
          have hb1 : Below w.heap.size w w1 := (hbw.alloc hbw.size _).grown hg1 (by have := hbw.size; simp; omega) (own_ge hO)
          go_roundw
          case rel => exact ⟨k + 1, upd r k (a (q + k) / 2 ^ p), by omega, by go_num, hO1.congr (cat_upd r k _), fun i hi => by
              by_cases e : i = k
              · rw [e, upd_same, low_last (s := fun j => ext a n (q + j)) (ext_ge a (by omega)), ext_lt a (by omega)]
              · rw [upd_other r _ e]; exact HV.out i (by omega), hb1⟩
          case measure => simp [intOf]; omega
      · obtain rfl : k = N := by omega
        have DS : Dig (fun j => ext a n (q + j)) (k + 1) := fun i hi => ext_dig da (q + k + 1) (q + i) (by omega)
        have D2 : Dig r k := (low_dig hu HU.out DS).congr fun i hi => (HV.out i hi).symm
        have HD2 : Hid (Dig r k) := D2
        clear D2 DS
        go_wp2_with fail
        refine (rtrim_ans hO HD2.out hbw).mono ?_
        rintro e w3 ⟨v', rfl, hA, rfl⟩
        go_wp2
        go_ret
        refine ⟨_, rfl, ?_⟩
        rw [val_congr HV.out, low_eq (s := fun j => ext a n (q + j)) hu HU.out (ext_ge a (by omega))] at hA
        have e3 := val_drop a (show q ≤ n by omega) da
        rw [← e3, show n - q = k by omega]
        rw [show val (fun j => ext a n (q + j)) k = val (fun i => a (q + i)) k from val_congr fun i hi => ext_lt a (by omega)] at hA
        exact hA
theorem rshr_any (ao : Option Addr) (n ca k : Nat) (a : Nat → Int) (w : World) (ha : Row w ao n ca a) (da : Dig a n) (hn : n ≤ 100000) (hk : k ≤ 4000000) :
    Calls Tryz.prog 90 #[.slice ao n ca, .int .i64 k] w fun e w' => ∃ v, e = .returned v ∧ Ans w w' (val a n / 2 ^ k) v := by
  refine (rshr_qp ao n ca (k / 30) (k % 30) a w ha da hn (by omega) k (by omega) (by omega)).mono ?_
  rintro e w' ⟨v, he, h⟩
  refine ⟨v, he, ?_⟩
  rw [two_split k, ← Int.ediv_ediv_of_nonneg (Int.le_of_lt (P_pos _))]
  exact h
end Go.Proofs.YtfgmhmkbilkfbaaGreatDoor

/-
  plumblaw2's Keep: lists of answers that are kept, in memory: what it is (Kp), Add, by its contract.
-/
namespace Go.Proofs.YtfgmhmkbilkfbaaGreatDoor
open Go Go.RowKit Go.Proofs.YtfgmhmkbilkfbaaGreatDoor.M
set_option linter.unusedSimpArgs false
set_option linter.unusedVariables false

/-- One put in another's place. -/
def updV {α : Type} (v : Nat → α) (i : Nat) (x : α) : Nat → α := fun j => if j = i then x else v j
theorem updV_same {α : Type} (v : Nat → α) (i : Nat) (x : α) : updV v i x i = x := by simp [updV]
theorem updV_other {α : Type} (v : Nat → α) {i j : Nat} (x : α) (h : j ≠ i) : updV v i x j = v j := by simp [updV, h]
/-- The first m of v. -/
def valsV (v : Nat → Value) (m : Nat) : List Value := (List.range m).map v
theorem valsV_length (v : Nat → Value) (m : Nat) : (valsV v m).length = m := by simp [valsV]
theorem valsV_get (v : Nat → Value) {m i : Nat} (h : i < m) : (valsV v m)[i]? = some (v i) := by simp [valsV, h]
theorem valsV_snoc (v : Nat → Value) (m : Nat) (x : Value) : valsV v m ++ [x] = valsV (updV v m x) (m + 1) := by
  apply List.ext_getElem?
  intro i
  by_cases h : i < m
  · rw [List.getElem?_append_left (by rw [valsV_length]; exact h), valsV_get v h, valsV_get _ (by omega), updV_other v x (by omega)]
  · by_cases e : i = m
    · subst e; rw [List.getElem?_append_right (by rw [valsV_length]; omega), valsV_length, valsV_get _ (by omega), updV_same]; simp
    · rw [List.getElem?_eq_none (by simp [valsV_length]; omega), List.getElem?_eq_none (by rw [valsV_length]; omega)]
/-- A list of slices that is the call's own. -/
def OutV (B : Nat) (w : World) (x : Value) (m : Nat) (v : Nat → Value) : Prop := w.ownsRow B 25 1 x m (valsV v m)
theorem OutV.shape {B : Nat} {w : World} {x : Value} {m : Nat} {v : Nat → Value} (h : OutV B w x m v) : ∃ xo xc, x = .slice xo m xc ∧ m ≤ xc ∧ xc ≤ 9223372036854775807 ∧ (0 < m → ∃ g, xo = some ⟨g, 0, none⟩) := by
  rcases h.2 with ⟨rfl, rfl⟩ | ⟨g, cap, cur, rfl, hb, hg, hn, hm, _⟩
  · exact ⟨none, 0, rfl, Nat.le_refl _, by decide, fun h => by omega⟩
  · exact ⟨_, cap, rfl, hn, by unfold maxLen at hm; exact hm, fun _ => ⟨g, rfl⟩⟩
theorem OutV.of_block {B : Nat} {w w' : World} {x : Value} {m : Nat} {v : Nat → Value} (h : OutV B w x m v) (hb : ∀ g, x.ownBlock = some g → w'.heap[g]? = w.heap[g]?) : OutV B w' x m v := by
  refine ⟨h.1, ?_⟩
  rcases h.2 with hn | ⟨g, cap, cur, rfl, hbb, hg, rest⟩
  · exact .inl hn
  · exact .inr ⟨g, cap, cur, rfl, hbb, (hb g rfl).trans hg, rest⟩
theorem Out.of_block {B : Nat} {w w' : World} {x : Value} {n : Nat} {d : Nat → Int} (h : Out B w x n d) (hb : ∀ g, x.ownBlock = some g → w'.heap[g]? = w.heap[g]?) : Out B w' x n d := by
  refine ⟨h.1, ?_⟩
  rcases h.2 with hn | ⟨g, cap, cur, rfl, hbb, hg, rest⟩
  · exact .inl hn
  · exact .inr ⟨g, cap, cur, rfl, hbb, (hb g rfl).trans hg, rest⟩
theorem Out.typed {B : Nat} {w : World} {x : Value} {n : Nat} {d : Nat → Int} (h : Out B w x n d) {g : Nat} (hg : x.ownBlock = some g) : ∃ cur z, w.heap[g]? = some (.cells cur 3 z) := by
  rcases h.2 with ⟨rfl, _⟩ | ⟨g', cap, cur, rfl, hbb, hg', rest⟩
  · simp [Value.ownBlock] at hg
  · simp only [Value.ownBlock, Option.some.injEq] at hg; subst hg; exact ⟨cur, _, hg'⟩
theorem OutV.typed {B : Nat} {w : World} {x : Value} {n : Nat} {v : Nat → Value} (h : OutV B w x n v) {g : Nat} (hg : x.ownBlock = some g) : ∃ cur z, w.heap[g]? = some (.cells cur 25 z) := by
  rcases h.2 with ⟨rfl, _⟩ | ⟨g', cap, cur, rfl, hbb, hg', rest⟩
  · simp [Value.ownBlock] at hg
  · simp only [Value.ownBlock, Option.some.injEq] at hg; subst hg; exact ⟨cur, _, hg'⟩
theorem OutV.ge {B : Nat} {w : World} {x : Value} {n : Nat} {v : Nat → Value} (h : OutV B w x n v) {g : Nat} (hg : x.ownBlock = some g) : B ≤ g ∧ g < w.heap.size := by
  rcases h.2 with ⟨rfl, _⟩ | ⟨g', cap, cur, rfl, hbb, hg', rest⟩
  · simp [Value.ownBlock] at hg
  · simp only [Value.ownBlock, Option.some.injEq] at hg; subst hg; exact ⟨hbb, (Array.getElem?_eq_some_iff.1 hg').1⟩
theorem Out.ge {B : Nat} {w : World} {x : Value} {n : Nat} {v : Nat → Int} (h : Out B w x n v) {g : Nat} (hg : x.ownBlock = some g) : B ≤ g ∧ g < w.heap.size := by
  rcases h.2 with ⟨rfl, _⟩ | ⟨g', cap, cur, rfl, hbb, hg', rest⟩
  · simp [Value.ownBlock] at hg
  · simp only [Value.ownBlock, Option.some.injEq] at hg; subst hg; exact ⟨hbb, (Array.getElem?_eq_some_iff.1 hg').1⟩
theorem info_slice : (Tryz.prog.info? 25).map (fun i => (i.zero, i.size, i.bytes)) = some (some (.slice none 0 0), 1, 24) := by kernel_rfl
theorem cell_one (w : World) (x : Value) (t : TypeId) {g : Nat} (hg : g = w.heap.size) : (w.alloc (.cells #[x] t)).cell? ⟨g, 0, none⟩ = some x := by
  subst hg
  rw [cell_of_row _ _ 0 _ _ _ (heap_alloc_new w _)]; rfl
/-- 'append(xs, x)' of a list of slices. -/
theorem wpList_appV {w : World} {ops : Array Oper} {rest : List Oper} {o : Oper} {a : Act} {Q : Exit → Act → World → Prop} (hgd : o.guard = none) (s x : Operand)
    (ho : o.op = .call { callee := .builtin .append, args := #[s, x], argTypes := #[137, 137] }) (B : Nat) (v : Value) (m : Nat) (f : Nat → Value) (hs : a.eval s = v) (hO : OutV B w v m f)
    (g : Nat) (y : Value) (hx : a.eval x = .slice (some ⟨g, 0, none⟩) 1 1) (hy : w.cell? ⟨g, 0, none⟩ = some y) (h1 : y.oneCell' = true) (hlen : m ≤ 1000) (hB : B ≤ w.heap.size)
    (h : ∀ v' w', OutV B w' v' (m + 1) (updV f m y) → w.grownBy w' v.ownBlock → (v'.ownBlock = v.ownBlock ∨ v'.ownBlock = some w.heap.size) → wpList Tryz.prog ops Q rest (a.put o.dst v') w') : wpList Tryz.prog ops Q (o :: rest) a w := by
  obtain ⟨i0, hi, hz0, hz1, hz2⟩ := info_parts info_slice
  refine wpList_append_own_at w hgd s x 137 ho B 25 i0 (.slice none 0 0) 1 24 Tryz.underlying137 hi hz0 hz1 hz2 rfl (by decide) v m (valsV f m) hs hO ⟨g, 0, none⟩ 1 1 [y] hx rfl ?_ (by simpa using h1) (by unfold maxLen; omega) (by omega) hB ?_
  · intro j u hu
    have hj : j = 0 := by have := (List.getElem?_eq_some_iff.1 hu).1; simp at this; exact this
    subst hj
    simp at hu
    subst hu
    rw [add_none]; exact hy
  · intro v' w' h1 h2 _ h3
    rw [valsV_snoc] at h1
    exact h v' w' h1 h2 h3
theorem grown_out {B : Nat} {w w' : World} {row : Option Nat} {x : Value} {m : Nat} {v : Nat → Value} (h : OutV B w x m v) (hg : w.grownBy w' row) (hne : ∀ g, x.ownBlock = some g → row ≠ some g) : OutV B w' x m v :=
  h.of_block fun g hgx => hg.block g (h.ge hgx).2 fun e => hne g hgx e.symm
theorem OutV.alloc {B : Nat} {w : World} {x : Value} {m : Nat} {v : Nat → Value} (h : OutV B w x m v) (o : Obj) : OutV B (w.alloc o) x m v := h.of_block fun g hg => Below.heap_alloc _ _ _ (h.ge hg).2
/-- 'append' of ints, as it runs, and where the new slice lies. -/
theorem run_app {w : World} (ty : TypeId) (B : Nat) (v : Value) (n : Nat) (d : Nat → Int) (hO : Out B w v n d) (bo : Option Addr) (m cb : Nat) (e : Nat → Int) (hR : Row w bo m cb e) (hlen : n + m ≤ 1000000) (hB : B ≤ w.heap.size) :
    ∃ v' w', (Builtin.append_ #[25, 25] ty #[v, .slice bo m cb]).run Tryz.prog w = .ok v' w' ∧ Out B w' v' (n + m) (cat d n e) ∧ w.grownBy w' v.ownBlock ∧ (v'.ownBlock = v.ownBlock ∨ v'.ownBlock = some w.heap.size) := by
  obtain ⟨i0, hi, hz0, hz1, hz2⟩ := info_parts info_int
  cases bo with
  | none =>
    have hc := hR.nl rfl
    have hl := hR.le
    subst hc
    obtain rfl : m = 0 := by omega
    have hr := run_append_owned_none (P := Tryz.prog) w B 25 ty 3 i0 1 Tryz.underlying25 hi v n (vals d n) hO
    exact ⟨v, w, hr, hO.congr fun i hi => by simp [cat]; omega, ⟨rfl, rfl, rfl, Nat.le_refl _, fun _ _ _ => rfl⟩, .inl rfl⟩
  | some ad =>
    obtain ⟨v', w', hr, h2, h3, _, h5⟩ := run_append_own_at (P := Tryz.prog) w B 25 ty 3 i0 (.int .i64 0) 1 8 Tryz.underlying25 hi hz0 hz1 hz2 rfl (by decide) v n (vals d n) hO ad m cb (vals e m) (by rw [vals_length]; omega)
      (fun j u hu => by
        have hj : j < m := by have := (List.getElem?_eq_some_iff.1 hu).1; rwa [vals_length] at this
        obtain ⟨b, off, hb, _, hc⟩ := hR.spot (by omega)
        obtain rfl := Option.some.inj hb
        rw [vals_get e hj] at hu
        rw [add_none, hc j hj]; exact hu) (vals_one e m) (by unfold maxLen; omega) (by omega) hB
    rw [vals_cat] at h2
    exact ⟨v', w', hr, h2, h3, h5⟩
theorem wp_app {w : World} {o : Oper} {a : Act} {K : Act → World → Prop} {Q : Exit → Act → World → Prop} (s x : Operand) (ho : o.op = .call { callee := .builtin .append, args := #[s, x], argTypes := #[25, 25] })
    (B : Nat) (v : Value) (n : Nat) (d : Nat → Int) (hs : a.eval s = v) (hO : Out B w v n d) (bo : Option Addr) (m cb : Nat) (e : Nat → Int) (hx : a.eval x = .slice bo m cb) (hR : Row w bo m cb e) (hlen : n + m ≤ 1000000) (hB : B ≤ w.heap.size)
    (h : ∀ v' w', Out B w' v' (n + m) (cat d n e) → w.grownBy w' v.ownBlock → (v'.ownBlock = v.ownBlock ∨ v'.ownBlock = some w.heap.size) → K (a.put o.dst v') w') : o.wp Tryz.prog a w K Q := by
  obtain ⟨v', w', hr, h2, h3, h4⟩ := run_app o.type B v n d hO bo m cb e hR hlen hB
  unfold Oper.wp execOp
  simp only [ho, resolve, invoke, builtin, Sem.run_bind, Sem.run_pure, Result.andThen_ok, List.map_toArray, List.map_cons, List.map_nil, hs, hx, hr]
  exact h v' w' h2 h3 h4
theorem step_app {w : World} {ops : Array Oper} {o : Oper} {a : Act} {K : Act → World → Prop} {Q : Exit → Act → World → Prop} {E : Prop} (hgd : o.guard = none) (s x : Operand) (ho : o.op = .call { callee := .builtin .append, args := #[s, x], argTypes := #[25, 25] })
    (B : Nat) (v : Value) (n : Nat) (d : Nat → Int) (hs : a.eval s = v) (hO : Out B w v n d) (bo : Option Addr) (m cb : Nat) (e : Nat → Int) (hx : a.eval x = .slice bo m cb) (hR : Row w bo m cb e) (hlen : n + m ≤ 1000000) (hB : B ≤ w.heap.size)
    (h : ∀ v' w', Out B w' v' (n + m) (cat d n e) → w.grownBy w' v.ownBlock → (v'.ownBlock = v.ownBlock ∨ v'.ownBlock = some w.heap.size) → K (a.put o.dst v') w') : if Region.wanted o (yielded ops a.tmps) = true then Oper.wp Tryz.prog o a w K Q else E := by
  rw [if_pos (show Region.wanted o (yielded ops a.tmps) = true by simp [Region.wanted, hgd])]
  exact wp_app s x ho B v n d hs hO bo m cb e hx hR hlen hB h
theorem step_appV {w : World} {ops : Array Oper} {o : Oper} {a : Act} {K : Act → World → Prop} {Q : Exit → Act → World → Prop} {E : Prop} (hgd : o.guard = none) (s x : Operand)
    (ho : o.op = .call { callee := .builtin .append, args := #[s, x], argTypes := #[137, 137] }) (B : Nat) (v : Value) (m : Nat) (f : Nat → Value) (hs : a.eval s = v) (hO : OutV B w v m f)
    (g : Nat) (y : Value) (hx : a.eval x = .slice (some ⟨g, 0, none⟩) 1 1) (hy : w.cell? ⟨g, 0, none⟩ = some y) (h1 : y.oneCell' = true) (hlen : m ≤ 1000) (hB : B ≤ w.heap.size)
    (h : ∀ v' w', OutV B w' v' (m + 1) (updV f m y) → w.grownBy w' v.ownBlock → (v'.ownBlock = v.ownBlock ∨ v'.ownBlock = some w.heap.size) → K (a.put o.dst v') w') : if Region.wanted o (yielded ops a.tmps) = true then Oper.wp Tryz.prog o a w K Q else E := by
  rw [if_pos (show Region.wanted o (yielded ops a.tmps) = true by simp [Region.wanted, hgd])]
  obtain ⟨i0, hi, hz0, hz1, hz2⟩ := info_parts info_slice
  obtain ⟨v', w', hr, h2, h3, _, h5⟩ := run_append_own_at (P := Tryz.prog) w B 137 o.type 25 i0 (.slice none 0 0) 1 24 Tryz.underlying137 hi hz0 hz1 hz2 rfl (by decide) v m (valsV f m) hO ⟨g, 0, none⟩ 1 1 [y] rfl
    (fun j u hu => by
      have hj : j = 0 := by have := (List.getElem?_eq_some_iff.1 hu).1; simp at this; exact this
      subst hj
      simp at hu
      subst hu
      rw [add_none]; exact hy) (by simpa using h1) (by unfold maxLen; omega) (by omega) hB
  rw [valsV_snoc] at h2
  unfold Oper.wp execOp
  simp only [ho, resolve, invoke, builtin, Sem.run_bind, Sem.run_pure, Result.andThen_ok, List.map_toArray, List.map_cons, List.map_nil, hs, hx, hr]
  exact h v' w' h2 h3 h5

end Go.Proofs.YtfgmhmkbilkfbaaGreatDoor

/-
  What is kept, with the blocks it lies in (Kept); Keep.Add and answer of a number (An); Lent and Back.
-/
namespace Go.Proofs.YtfgmhmkbilkfbaaGreatDoor
open Go Go.RowKit Go.Proofs.YtfgmhmkbilkfbaaGreatDoor.M
set_option linter.unusedSimpArgs false
set_option linter.unusedVariables false

/-- A number's list, from B on. -/
def An (B : Nat) (w : World) (v : Value) (V : Int) : Prop := ∃ t d, Out B w v t d ∧ Nrm d t ∧ val d t = V
theorem An.keeps {B : Nat} {w w' : World} {v : Value} {V : Int} (h : An B w v V) (k : Below w.heap.size w w') : An B w' v V := by
  obtain ⟨t, d, h1, h2⟩ := h
  exact ⟨t, d, h1.stays k, h2⟩
theorem An.lower {B B' : Nat} {w : World} {v : Value} {V : Int} (h : An B w v V) (hB : B' ≤ B) : An B' w v V := by
  obtain ⟨t, d, h1, h2⟩ := h
  exact ⟨t, d, h1.lower hB, h2⟩
theorem An.nil (B : Nat) (w : World) : An B w (.slice none 0 0) 0 := ⟨0, fun _ => 0, Out.nil _ _ _, ⟨fun i hi => by omega, .inl rfl⟩, rfl⟩
theorem Ans.an {w w' : World} {V : Int} {v : Value} (h : Ans w w' V v) : An w.heap.size w' v V := by
  obtain ⟨t, d, h1, h2, h3, h4⟩ := h
  exact ⟨t, d, h1, h2, h3⟩
theorem An.shape {B : Nat} {w : World} {v : Value} {V : Int} (h : An B w v V) : ∃ ao n cap, v = .slice ao n cap := by
  obtain ⟨t, d, h1, h2⟩ := h
  obtain ⟨ao, cap, e, _⟩ := h1.row
  exact ⟨ao, t, cap, e⟩
theorem An.num {B : Nat} {w : World} {v : Value} {V : Int} (h : An B w v V) : Num w v V := by
  obtain ⟨t, d, h1, h2, h3⟩ := h
  obtain ⟨ao, cap, rfl, hR⟩ := h1.row
  exact ⟨ao, t, cap, d, rfl, hR, h2, h3⟩
theorem An.ge {B : Nat} {w : World} {v : Value} {V : Int} (h : An B w v V) {g : Nat} (hg : v.ownBlock = some g) : B ≤ g ∧ g < w.heap.size := by
  obtain ⟨t, d, h1, h2, h3⟩ := h
  exact h1.ge hg
/-- The blocks behind an Add. -/
def S2 (S : Nat → Prop) (l : Value) (s : Nat) : Nat → Prop := fun g => S g ∨ l.ownBlock = some g ∨ s ≤ g
/-- A list and an error, of a number that may be too long. -/
def FitA (B : Nat) (w : World) (V : Int) (v : Value) (er : Int) : Prop := (V < P 2000 ∧ er = 0 ∧ An B w v V) ∨ (P 2000 ≤ V ∧ er = 2 ∧ v = .slice none 0 0)
theorem Fit.fitA {w w' : World} {V er : Int} {v : Value} (h : Fit w w' V v er) : FitA w.heap.size w' V v er := by
  rcases h.2 with ⟨h1, h2, h3⟩ | h
  · exact .inl ⟨h1, h2, h3.an⟩
  · exact .inr h
theorem FitA.keeps {B : Nat} {w w' : World} {v : Value} {V er : Int} (h : FitA B w V v er) (k : Below w.heap.size w w') : FitA B w' V v er := by
  rcases h with ⟨h1, h2, h3⟩ | h
  · exact .inl ⟨h1, h2, h3.keeps k⟩
  · exact .inr h
theorem FitA.lower {B B' : Nat} {w : World} {v : Value} {V er : Int} (h : FitA B w V v er) (hB : B' ≤ B) : FitA B' w V v er := by
  rcases h with ⟨h1, h2, h3⟩ | h
  · exact .inl ⟨h1, h2, h3.lower hB⟩
  · exact .inr h
theorem FitA.ge {B : Nat} {w : World} {v : Value} {V er : Int} (h : FitA B w V v er) {g : Nat} (hg : v.ownBlock = some g) : B ≤ g ∧ g < w.heap.size := by
  rcases h with ⟨h1, h2, h3⟩ | ⟨_, _, rfl⟩
  · exact h3.ge hg
  · simp [Value.ownBlock] at hg
theorem FitA.shape {B : Nat} {w : World} {v : Value} {V er : Int} (h : FitA B w V v er) : ∃ ao n cap, v = .slice ao n cap := by
  rcases h with ⟨h1, h2, h3⟩ | ⟨_, _, rfl⟩
  · exact h3.shape
  · exact ⟨_, _, _, rfl⟩
/-- A lent list: three marks behind it. -/
def lentD (a : Nat → Int) (n : Nat) : Nat → Int := cat a n (fun i => -71 - (i : Int))
theorem row3 (w : World) (x y z : Int) (f : Nat → Int) (h0 : f 0 = x) (h1 : f 1 = y) (h2 : f 2 = z) {g : Nat} (hg : g = w.heap.size) : Row (w.alloc (.cells #[.int .i64 x, .int .i64 y, .int .i64 z] 3)) (some ⟨g, 0, none⟩) 3 3 f := by
  subst hg
  refine (Blk.new w #[.int .i64 x, .int .i64 y, .int .i64 z] f (fun i hi => ?_)).row0 (Nat.le_refl _) (show 3 ≤ 9223372036854775807 by decide)
  match i, hi with
  | 0, _ => rw [h0]; rfl
  | 1, _ => rw [h1]; rfl
  | 2, _ => rw [h2]; rfl
theorem lentD_lt (a : Nat → Int) {n i : Nat} (h : i < n) : lentD a n i = a i := by simp [lentD, cat, h]
theorem lentD_marks (a : Nat → Int) (n : Nat) : lentD a n n = -71 ∧ lentD a n (n + 1) = -72 ∧ lentD a n (n + 2) = -73 := by
  refine ⟨by simp [lentD, cat], by simp [lentD, cat]; omega, by simp [lentD, cat]; omega⟩
/-- What Lent answers: a block of its own. -/
def LentA (w w' : World) (v : Value) (n : Nat) (a : Nat → Int) : Prop := ∃ g cap, v = .slice (some ⟨g, 0, none⟩) (n + 3) cap ∧ Out w.heap.size w' v (n + 3) (lentD a n) ∧ Below w.heap.size w w'
end Go.Proofs.YtfgmhmkbilkfbaaGreatDoor

/-
  Lent lists: what is read of them, and Back.
-/
namespace Go.Proofs.YtfgmhmkbilkfbaaGreatDoor
open Go Go.RowKit Go.Proofs.YtfgmhmkbilkfbaaGreatDoor.M
set_option linter.unusedSimpArgs false
set_option linter.unusedVariables false

theorem LentA.below {w w' : World} {v : Value} {n : Nat} {a : Nat → Int} (h : LentA w w' v n a) : Below w.heap.size w w' := by
  obtain ⟨g, cap, _, _, hb⟩ := h
  exact hb
theorem LentA.parts {w w' : World} {v : Value} {n : Nat} {a : Nat → Int} (h : LentA w w' v n a) : ∃ g cap, v = .slice (some ⟨g, 0, none⟩) (n + 3) cap ∧ Out w.heap.size w' (.slice (some ⟨g, 0, none⟩) (n + 3) cap) (n + 3) (lentD a n) := by
  obtain ⟨g, cap, rfl, h, _⟩ := h
  exact ⟨g, cap, rfl, h⟩
theorem lent_cap {B : Nat} {w : World} {g n cap : Nat} {d : Nat → Int} (h : Out B w (.slice (some ⟨g, 0, none⟩) (n + 3) cap) (n + 3) d) : n + 3 ≤ cap ∧ cap ≤ 9223372036854775807 := by
  obtain ⟨_, _, e, hR⟩ := h.row
  simp only [Value.slice.injEq] at e
  obtain ⟨rfl, _, rfl⟩ := e
  exact ⟨hR.le, hR.max⟩
theorem lent_row {B : Nat} {w : World} {g n cap : Nat} {a : Nat → Int} (h : Out B w (.slice (some ⟨g, 0, none⟩) (n + 3) cap) (n + 3) (lentD a n)) : Row w (some ⟨g, 0, none⟩) n cap a := by
  obtain ⟨_, _, e, hR⟩ := (h.cut (show n ≤ n + 3 by omega)).row
  simp only [Value.slice.injEq] at e
  obtain ⟨rfl, _, rfl⟩ := e
  exact hR.congr fun i hi => lentD_lt a hi
theorem lent_two {B B' : Nat} {w : World} {g n cap g' m cap' : Nat} {a b : Nat → Int} (h : Out B w (.slice (some ⟨g, 0, none⟩) (n + 3) cap) (n + 3) (lentD a n)) (h' : Out B' w (.slice (some ⟨g', 0, none⟩) (m + 3) cap') (m + 3) (lentD b m)) :
    Two w (some ⟨g, 0, none⟩) (some ⟨g', 0, none⟩) n m cap cap' a b := ⟨lent_row h, lent_row h'⟩
theorem lent_numA {B : Nat} {w : World} {g n cap : Nat} {a : Nat → Int} (h : Out B w (.slice (some ⟨g, 0, none⟩) (n + 3) cap) (n + 3) (lentD a n)) (hN : Nrm a n) : Num w (.slice (some ⟨g, 0, none⟩) n cap) (val a n) :=
  ⟨_, _, _, _, rfl, lent_row h, hN, rfl⟩
theorem Row.num0 {w : World} {ao : Option Addr} {n cap : Nat} {a : Nat → Int} (h : Row w ao n cap a) (hN : Nrm a n) : Num w (.slice ao n cap) (val a n) := ⟨_, _, _, _, rfl, h, hN, rfl⟩
theorem RowX.of0 {g : Nat} {w0 w : World} {ao : Option Addr} {n cap : Nat} {d : Nat → Int} (h : Row w0 ao n cap d) (hb : Below w0.heap.size w0 w) (hg : w0.heap.size ≤ g) : RowX g w ao n cap d :=
  ⟨h.le, h.max, fun hn => by
    obtain ⟨b, off, rfl, hlt, hc⟩ := h.spot hn
    exact ⟨b, off, rfl, Nat.lt_of_lt_of_le hlt hb.size, by omega, fun i hi => (hb.cell (p := ⟨b, off + i, none⟩) hlt).trans (hc i hi)⟩⟩
end Go.Proofs.YtfgmhmkbilkfbaaGreatDoor

/-
  The document's own Low, Pow, Root, by contracts over the same values.
-/
namespace Go.Proofs.YtfgmhmkbilkfbaaGreatDoor
open Go Go.RowKit Go.Proofs.YtfgmhmkbilkfbaaGreatDoor.M
set_option linter.unusedSimpArgs false
set_option linter.unusedVariables false

theorem lowA_unique {A l m : Int} (h : LowA A l) (k : LowA A m) : l = m := by
  have hz : ∀ i : Nat, ¬ IsLow 0 i := fun i ⟨q, e⟩ => by
    have h2 := two_pos i
    have h3 : (2 * q + 1) ≠ 0 := by omega
    rcases Int.mul_eq_zero.1 e.symm with h | h
    · exact h3 h
    · omega
  rcases h with ⟨h0, h1⟩ | ⟨i, h1, hi⟩ <;> rcases k with ⟨k0, k1⟩ | ⟨j, k1, hj⟩
  · omega
  · subst h0; exact absurd hj (hz j)
  · subst k0; exact absurd hi (hz i)
  · rw [h1, k1, low_unique hi hj]
set_option maxHeartbeats 400000 in
theorem rlow_any (ao : Option Addr) (n cap : Nat) (d : Nat → Int) (w : World) (h : Row w ao n cap d) (hd : Dig d n) (hn : n ≤ 100000) :
    Calls Tryz.prog 89 #[.slice ao n cap] w fun e w' => ∃ l, e = .returned (.int .i64 l) ∧ LowA (val d n) l ∧ w' = w := by
  have hl := h.le
  have hm := h.max
  go_enter Tryz.func89, Tryz.ntmps89
  go_wp2
  go_loop [3] (fun i => ∃ k : Nat, k ≤ n ∧ i = .int .i64 k ∧ Hid (∀ j, j < k → d j = 0)) (fun i => n - (intOf i).toNat)
  case atStart => exact ⟨0, Nat.zero_le _, rfl, fun j hj => by omega⟩
  case round =>
    obtain ⟨k, hk, rfl, HZ⟩ := hrel
    by_cases hlt : k < n
    · obtain ⟨b, off, rfl, hb, hc⟩ := h.spot (by omega)
      have c := hc k hlt
      have dk := hd k hlt
      by_cases h0 : d k = 0
      · have e0 : (d k != 0) = false := by simp [h0]
        go_wp2
        go_round
        case rel => exact ⟨k + 1, by omega, by go_num, fun j hj => by by_cases e : j = k; (· rw [e]; exact h0); (· exact HZ.out j (by omega))⟩
        case measure => simp [intOf]; omega
      · have e0 : (d k != 0) = true := by simp [h0]
        have hpos : 0 < d k := by omega
        go_wp2
        go_loop [4, 5] (fun s v => ∃ (x : Int) (t : Nat), s = .int .i64 ((30 * k + t : Nat) : Int) ∧ v = .int .i64 x ∧ 0 < x ∧ x < 1073741824 ∧ t ≤ 30 ∧ Hid (x * 2 ^ t = d k)) (fun _ v => (intOf v).toNat)
        case atStart => exact ⟨d k, 0, by go_num, rfl, hpos, dk.2, by omega, by show _ = _; simp⟩
        case round =>
          obtain ⟨x, t, rfl, rfl, hx0, hx1, ht, HT⟩ := hrel
          by_cases he : x % 2 = 0
          · have ee : (x % 2 == 0) = true := by simp [he]
            have HT2 : Hid (x / 2 * 2 ^ (t + 1) = d k) := by
              show _ = _
              rw [Int.pow_succ, Int.mul_comm (2 ^ t) 2, ← Int.mul_assoc, show x / 2 * 2 = x by omega]; exact HT.out
            have ht2 : t + 1 ≤ 30 := by
              have h1 : 1 * 2 ^ (t + 1) ≤ x / 2 * 2 ^ (t + 1) := Int.mul_le_mul_of_nonneg_right (by omega) (Int.le_of_lt (two_pos _))
              rw [HT2.out] at h1
              have h2 : (2 : Int) ^ (t + 1) < 2 ^ 30 := by have : (2 : Int) ^ 30 = 1073741824 := rfl; omega
              have := two_lt_iff h2
              omega
            go_wp2
            go_round
            case rel => exact ⟨x / 2, t + 1, by go_num, rfl, by omega, by omega, ht2, HT2.out⟩
            case measure => simp [intOf]; omega
          · have ee : (x % 2 == 0) = false := by simp [he]
            have HL : Hid (IsLow (d k) t) := ⟨x / 2, by rw [show 2 * (x / 2) + 1 = x by omega]; exact HT.out.symm⟩
            go_wp2
            go_ret
            exact ⟨_, rfl, .inr ⟨30 * k + t, rfl, isLow_val hlt HZ.out HL.out (low_lt hpos dk.2 HL.out)⟩, rfl⟩
    · obtain rfl : k = n := by omega
      go_wp2
      go_ret
      exact ⟨_, rfl, .inl ⟨by rw [val_zeros (Nat.zero_le _) (fun i _ hi => HZ.out i hi)]; rfl, rfl⟩, rfl⟩
/-- A list of one. -/
theorem an_one (w : World) (x : Int) (h0 : 0 < x) (h1 : x < 1073741824) {g B : Nat} (hg : g = w.heap.size) (hB : B ≤ w.heap.size) : An B (w.alloc (.cells #[.int .i64 x] 3)) (.slice (some ⟨g, 0, none⟩) 1 1) x := by
  subst hg
  exact ⟨1, fun _ => x, (Blk.new w #[.int .i64 x] (fun _ => x) (fun i hi => by simp at hi; subst hi; rfl)).out hB (Nat.le_refl _) (show 1 ≤ 9223372036854775807 by decide), ⟨fun i _ => ⟨by show 0 ≤ x; omega, h1⟩, .inr (by show x ≠ 0; omega)⟩, by show 0 + x * 1 = x; omega⟩
end Go.Proofs.YtfgmhmkbilkfbaaGreatDoor

/-
  Package plumbref3: Norm, by its contract: the one form of a number, however long.
-/
namespace Go.Proofs.YtfgmhmkbilkfbaaGreatDoor
open Go Go.RowKit Go.Proofs.YtfgmhmkbilkfbaaGreatDoor.M
set_option linter.unusedSimpArgs false
set_option linter.unusedVariables false

set_option maxRecDepth 100000 in
set_option maxHeartbeats 1000000 in
theorem rnorm_any (ng : Bool) (ao : Option Addr) (n cap : Nat) (d : Nat → Int) (e : Int) (w : World) (h : Row w ao n cap d) (hd : Dig d n) (hn : n ≤ 40000) (he0 : -4194304 ≤ e) (he1 : e ≤ 4194304) :
    Calls Tryz.prog 52 #[.bool ng, .slice ao n cap, .int .i64 e] w fun r w' => ∃ v, r = .returned v ∧ DAns w w' (sg ng (val d n) * pw e) v := by
  by_cases h0 : val d n = 0
  · rw [h0, sg_zero, Int.zero_mul]
    go_enter Tryz.func52, Tryz.ntmps52
    go_wp2_with fail
    refine (rlow_any _ _ _ _ _ (h.keeps (bel_alloc _ _)) hd (by omega)).mono ?_
    rintro r w1 ⟨l, rfl, hl, rfl⟩
    have hl1 : l = -1 := by
      rcases hl with ⟨_, h1⟩ | ⟨k, _, m, hm⟩
      · exact h1
      · exfalso
        rw [h0] at hm
        rcases Int.mul_eq_zero.1 hm.symm with x | x
        · omega
        · have := two_pos k; omega
    subst hl1
    go_wp2
    refine bodyPost_ret (v := zeroV) (by simp [results, Tryz.results52, go_sem, zeroV]) rfl ⟨_, rfl, ?_⟩
    exact DAns.zero (bel_alloc _ _)
  · have hp : 0 < val d n := by have := val_nonneg hd; omega
    go_enter Tryz.func52, Tryz.ntmps52
    go_wp2_with fail
    refine (rlow_any _ _ _ _ _ (h.keeps (bel_alloc _ _)) hd (by omega)).mono ?_
    rintro r w1 ⟨l, rfl, hl, rfl⟩
    have hl2 : ∃ k : Nat, l = k ∧ IsLow (val d n) k := by
      rcases hl with ⟨h1, _⟩ | h1
      · omega
      · exact h1
    obtain ⟨k, rfl, hk⟩ := hl2
    have hkn : k < 30 * n := by
      have h1 := val_lt hd
      rw [P_two] at h1
      obtain ⟨a, b, c⟩ := isLow_odd hk hp
      have h2 : (1 : Int) * 2 ^ k ≤ val d n / 2 ^ k * 2 ^ k := Int.mul_le_mul_of_nonneg_right (by omega) (Int.le_of_lt (two_pos k))
      exact two_lt_iff (by omega)
    have hy := Dy.of ng hk hp he0
    have HY : Hid (Dy (sg ng (val d n) * pw e) ng (val d n / 2 ^ k) (e + k)) := hy
    clear hy hl hk
    go_wp2_with fail
    refine (rshr_any _ _ _ k d _ (h.keeps (bel_alloc _ _)) hd (by omega) (by omega)).mono ?_
    rintro r w2 ⟨v, rfl, hA⟩
    obtain ⟨so, sn, sc, rfl⟩ := hA.num.shape
    have q0 := (hA.below.block w.heap.size (by rw [size1]; omega)).trans (heap_a1 _ _)
    have x0 := blkC q0 0 rfl
    have x1 := blkC q0 1 rfl
    have x2 := blkC q0 2 rfl
    have z0 := blkF q0 0
    have z1 := blkF q0 1
    have z2 := blkF q0 2
    go_wp2
    refine bodyPost_ret (v := .agg #[.bool ng, .slice so sn sc, .int .i64 (e + k)]) (by simp [results, Tryz.results52, go_sem, x0, x1, x2]) rfl ⟨_, rfl, ?_⟩
    exact ⟨_, _, _, _, rfl, HY.out, ans_res (g := w.heap.size) hA (bel_alloc _ _) (Nat.le_refl _) (by rw [size1]; omega) _ _ _⟩
end Go.Proofs.YtfgmhmkbilkfbaaGreatDoor

/-
  Package plumblaw3: Norm, num, by contracts: a valid number of any one, not too great.
-/
namespace Go.Proofs.YtfgmhmkbilkfbaaGreatDoor
open Go Go.RowKit Go.Proofs.YtfgmhmkbilkfbaaGreatDoor.M
set_option linter.unusedSimpArgs false
set_option linter.unusedVariables false

end Go.Proofs.YtfgmhmkbilkfbaaGreatDoor

/-
  Plain mathematics: numbers that are not too great have a valid form. No Go text in sight.
-/
namespace Go.Proofs.YtfgmhmkbilkfbaaGreatDoor
open Go Go.RowKit Go.Proofs.YtfgmhmkbilkfbaaGreatDoor.M
set_option linter.unusedSimpArgs false
set_option linter.unusedVariables false

/-- V is a multiple of 2^-B, below 2^B, signs aside. -/
def Bd (B : Nat) (V : Int) : Prop := ∃ m : Int, V = m * pw (-(B : Int)) ∧ -(2 ^ (2 * B)) < m ∧ m < 2 ^ (2 * B)
theorem Bd.ok {B : Nat} {V : Int} (h : Bd B V) (hB : B ≤ 29000) : Dok V := by
  obtain ⟨m, rfl, h1, h2⟩ := h
  by_cases h0 : m = 0
  · rw [h0, Int.zero_mul]; exact dok_zero
  · have key : ∀ (ng : Bool) (M : Int), 0 < M → M < 2 ^ (2 * B) → Dok (sg ng M * pw (-(B : Int))) := fun ng M hM hlt => by
      obtain ⟨l, hl⟩ := isLow_ex hM
      have hy := Dy.of ng hl hM (show -4194304 ≤ -(B : Int) by omega)
      obtain ⟨c1, c2, c3⟩ := isLow_odd hl hM
      have hl2 : l < 2 * B := by
        have h3 : (1 : Int) * 2 ^ l ≤ M / 2 ^ l * 2 ^ l := Int.mul_le_mul_of_nonneg_right (by omega) (Int.le_of_lt (two_pos l))
        rw [c3] at h3
        exact two_lt_iff (by omega)
      refine hy.ok.2 ⟨?_, by omega, by omega⟩
      have h4 : M / 2 ^ l ≤ M := Int.ediv_le_self _ (by omega)
      have h5 : (2 : Int) ^ (2 * B) ≤ 2 ^ (30 * 2000) := two_le (by omega)
      rw [P_two]
      omega
    by_cases hp : 0 < m
    · exact key false m hp h2
    · have := key true (-m) (by omega) (by omega)
      rwa [show sg true (-m) = m by simp [sg]] at this
theorem Bd.up {B C : Nat} {V : Int} (h : Bd B V) (hBC : B ≤ C) (hC : C ≤ 4194304) : Bd C V := by
  obtain ⟨m, rfl, h1, h2⟩ := h
  have hp := two_pos (C - B)
  have e : pw (-(B : Int)) = pw (-(C : Int)) * 2 ^ (C - B) := by
    rw [← pw_add (by omega)]; congr 1; omega
  have hle : (2 : Int) ^ (2 * B) * 2 ^ (C - B) ≤ 2 ^ (2 * C) := by rw [← Int.pow_add]; exact two_le (by omega)
  refine ⟨m * 2 ^ (C - B), by rw [e]; grind, ?_, ?_⟩
  · have : -(2 ^ (2 * B)) * 2 ^ (C - B) < m * 2 ^ (C - B) := Int.mul_lt_mul_of_pos_right h1 hp
    rw [Int.neg_mul] at this
    omega
  · have := Int.mul_lt_mul_of_pos_right h2 hp
    omega
theorem Bd.add {B : Nat} {V W : Int} (h : Bd B V) (k : Bd B W) (hB : B < 4194304) : Bd (B + 1) (V + W) := by
  obtain ⟨m, rfl, h1, h2⟩ := h
  obtain ⟨n, rfl, k1, k2⟩ := k
  have e : pw (-(B : Int)) = pw (-((B + 1 : Nat) : Int)) * 2 := by
    have := pw_add (e := -((B + 1 : Nat) : Int)) (by omega) 1
    rw [Int.pow_succ, Int.pow_zero, Int.one_mul] at this
    rw [← this]; congr 1; omega
  have e2 : (2 : Int) ^ (2 * (B + 1)) = 2 ^ (2 * B) * 4 := by rw [show 2 * (B + 1) = 2 * B + 2 by omega, Int.pow_add]; rfl
  refine ⟨2 * (m + n), by rw [e]; grind, ?_, ?_⟩ <;> rw [e2] <;> omega
theorem Bd.neg {B : Nat} {V : Int} (h : Bd B V) : Bd B (-V) := by
  obtain ⟨m, rfl, h1, h2⟩ := h
  exact ⟨-m, by rw [Int.neg_mul], by omega, by omega⟩
theorem Bd.mul {B : Nat} {V W U : Int} (h : Bd B V) (k : Bd B W) (hU : U * 2 ^ 4194304 = V * W) (hB : B ≤ 1000000) : Bd (2 * B) U := by
  obtain ⟨m, rfl, h1, h2⟩ := h
  obtain ⟨n, rfl, k1, k2⟩ := k
  have e : U = m * n * pw (-((2 * B : Nat) : Int)) := by
    refine scale_inj ?_
    rw [hU, Int.mul_assoc (m * n), show -((2 * B : Nat) : Int) = -(B : Int) + -(B : Int) by omega, ← pw_mul (by omega) (by omega)]; grind
  refine ⟨m * n, e, ?_, ?_⟩
  all_goals
    have hab : (m * n).natAbs < ((2 : Int) ^ (2 * (2 * B))).natAbs := by
      rw [Int.natAbs_mul, show 2 * (2 * B) = 2 * B + 2 * B by omega, Int.pow_add, Int.natAbs_mul]
      exact Nat.mul_lt_mul'' (by have := two_pos (2 * B); omega) (by have := two_pos (2 * B); omega)
    have := two_pos (2 * (2 * B))
    omega
theorem bd_num {ng : Bool} {M e : Int} (h0 : 0 ≤ M) (h1 : M < P 30) (e0 : -3000 < e) (e1 : e < 3000) : Bd 4000 (sg ng M * pw e) := by
  have hs : pw e = pw (-((4000 : Nat) : Int)) * 2 ^ (e + 4000).toNat := by
    rw [← pw_add (by omega)]; congr 1; omega
  have hp := two_pos (e + 4000).toNat
  have hlt : M * 2 ^ (e + 4000).toNat < 2 ^ (2 * 4000) := by
    have a : M * 2 ^ (e + 4000).toNat < P 30 * 2 ^ (e + 4000).toNat := Int.mul_lt_mul_of_pos_right h1 hp
    rw [P_two, ← Int.pow_add] at a
    have b : (2 : Int) ^ (30 * 30 + (e + 4000).toNat) ≤ 2 ^ (2 * 4000) := two_le (by omega)
    omega
  have hn : 0 ≤ M * 2 ^ (e + 4000).toNat := Int.mul_nonneg h0 (Int.le_of_lt hp)
  refine ⟨sg ng (M * 2 ^ (e + 4000).toNat), by rw [hs, sg_sgn, sg_sgn]; grind, ?_, ?_⟩
  all_goals
    generalize M * 2 ^ (e + 4000).toNat = X at *
    generalize (2 : Int) ^ (2 * 4000) = T at *
    cases ng <;> simp only [sg] <;> simp <;> omega
end Go.Proofs.YtfgmhmkbilkfbaaGreatDoor

/-
  What a row gives of its arguments: a slice of ints that came in, as the walks want it.
-/
namespace Go.Proofs.YtfgmhmkbilkfbaaGreatDoor
open Go Go.ChangeShapes Go.WideShapes Go.ChangeAt Go.RowKit Go.Proofs.YtfgmhmkbilkfbaaGreatDoor.M
set_option linter.unusedSimpArgs false
set_option linter.unusedVariables false

theorem rng_of {x : Int} (h : (Lit.int .i64 x).wf = true) : rng x := by
  simp [Lit.wf, IntKind.min, IntKind.max, IntKind.signed, IntKind.bits] at h
  unfold rng; omega
theorem row_of {H : Type} {enc : TypeId × Value → H} {W : World} {a : Option Addr} {len cap : Nat} {d : DataW H} {p : List MemPlace}
    (h0 : DataW.Trod enc Tryz.prog W 0 (fun _ => true) true 25 (.slice a len cap) d p) : ∃ z : Nat → Int, Row W a len cap z ∧ ∀ i, i < len → rng (z i) := by
  obtain ⟨fuel, hf⟩ := h0
  rcases open_ints Tryz.underlying25 Tryz.underlying3 (by kernel_rfl) hf with ⟨hcs, _⟩ | ⟨x, l, c, zs, hcs, _, hl, hm, hz, _, hcell, hwz⟩
  · simp [Value.cells] at hcs
    obtain ⟨rfl, rfl, rfl⟩ := hcs
    exact ⟨fun _ => 0, Row.nil _ _, fun i hi => by omega⟩
  · simp [Value.cells] at hcs
    obtain ⟨rfl, rfl, rfl⟩ := hcs
    have hz' : zs.length = cap := by simpa using hz
    refine ⟨fun i => zs.getD i 0, ⟨hl, by unfold maxLen at hm; exact hm, (fun e => by cases e), fun hn => ?_⟩, fun i hi => ?_⟩
    · obtain ⟨b, off, spot⟩ := x
      have hc := hcell 0 (by omega)
      have hspot : spot = none := by simpa [Addr.add] using World.cell?_spot hc
      subst hspot
      refine ⟨b, off, rfl, World.block_lt_of_cell? W _ (by simpa [Addr.add] using hc), fun i hi => ?_⟩
      rw [← add_none]; exact hcell i (by omega)
    · refine rng_of (hwz _ ?_)
      simp [List.getD, show i < zs.length by omega]
end Go.Proofs.YtfgmhmkbilkfbaaGreatDoor

/-
  What a row's list gives: the library's table of trailing zeros.
-/
namespace Go.Proofs.YtfgmhmkbilkfbaaGreatDoor
open Go Go.RowKit Go.ChangeShapes Go.Proofs.YtfgmhmkbilkfbaaGreatDoor.M
set_option linter.unusedSimpArgs false
set_option linter.unusedVariables false

theorem gTab : Tryz.prog.globalNamed "math/bits.deBruijn64tab" = some 3 := by kernel_rfl
theorem gTabType : (Tryz.prog.globals[(3 : Nat)]?).map (·.type) = some 162 := by kernel_rfl
theorem cellsTab : Tryz.prog.cellsOf 162 = 64 := by kernel_rfl
theorem cellsByte : Tryz.prog.cellsOf 5 = 1 := by kernel_rfl
def tabInts : List Int := Lib.deBruijn64tab.map Int.ofNat
theorem tab_get : ∀ j, j < 64 → tabInts.getD j 0 = ((Lib.deBruijn64tab.getD j 0 : Nat) : Int) := by decide +kernel
theorem tab_of {W : World} (h : laidMetH Tryz.prog [("math/bits.deBruijn32tab", Rows.laid_math_bits_deBruijn32tab), ("math/bits.deBruijn64tab", Rows.laid_math_bits_deBruijn64tab)] W) : Tab W := by
  rw [MakeChecks.laidMetH_plain _ _ _ (by kernel_rfl)] at h
  have h' : laidMet Tryz.prog (("math/bits.deBruijn64tab", Lib.tabData .u8 tabInts) :: []) W := h.tail
  have t := Lib.tabIs_of_head gTab gTabType Tryz.underlying162 Tryz.underlying5 cellsByte cellsTab h'
  intro j hj
  rw [← tab_get j hj]
  exact t.cell gTab j (by exact hj)
end Go.Proofs.YtfgmhmkbilkfbaaGreatDoor
