/-
  Parts of the proof, one behind another.
-/
import Derived.Test.YtheiinclgfgneaaDoorRows
import Derived.Test.YtheiinclgfgneaaDoorPart3
import Derived.ProofKit
import Derived.OpenShut
import Derived.ChangeOld
import Derived.Test.YtheiinclgfgneaaDoorPart5
import Derived.LaidMore
import Derived.Deep.Strs
import Derived.Lib.LaidTab
import Derived.MakeChecks
import Derived.Stop.LaidErr
import Derived.Test.YtheiinclgfgneaaDoorPart6
import Derived.Test.YtheiinclgfgneaaDoorPart7
import Derived.Test.YtheiinclgfgneaaDoorPart2
import Derived.Deep.RegionWith
import Derived.Test.YtheiinclgfgneaaDoorPart4
import Derived.Laws.Externs
import Derived.Laws.Cover2
import Derived.Test.YtheiinclgfgneaaDoorPart1
/-
  What a row gives of its arguments: a slice of ints that came in, as the walks want it.
-/
namespace Go.Proofs.YtheiinclgfgneaaDoor
open Go Go.ChangeShapes Go.WideShapes Go.ChangeAt Go.RowKit Go.Proofs.YtheiinclgfgneaaDoor.M
set_option linter.unusedSimpArgs false
set_option linter.unusedVariables false

theorem rng_of {x : Int} (h : (Lit.int .i64 x).wf = true) : rng x := by
  simp [Lit.wf, IntKind.min, IntKind.max, IntKind.signed, IntKind.bits] at h
  unfold rng; omega
theorem row_of {H : Type} {enc : TypeId × Value → H} {W : World} {a : Option Addr} {len cap : Nat} {d : DataW H} {p : List MemPlace}
    (h0 : DataW.Trod enc Tryd.prog W 0 (fun _ => true) true 38 (.slice a len cap) d p) : ∃ z : Nat → Int, Row W a len cap z ∧ ∀ i, i < len → rng (z i) := by
  obtain ⟨fuel, hf⟩ := h0
  rcases open_ints Tryd.underlying38 Tryd.underlying3 (by kernel_rfl) hf with ⟨hcs, _⟩ | ⟨x, l, c, zs, hcs, _, hl, hm, hz, _, hcell, hwz⟩
  · simp [Value.cells] at hcs
    obtain ⟨rfl, rfl, rfl⟩ := hcs
    exact ⟨fun _ => 0, Row.nil _ _, fun i hi => by omega⟩
  · simp [Value.cells] at hcs
    obtain ⟨rfl, rfl, rfl⟩ := hcs
    have hz' : zs.length = cap := by simpa using hz
    refine ⟨fun i => zs.getD i 0, ⟨hl, by unfold maxLen at hm; exact hm, (fun e => by cases e), fun hn => ?_⟩, fun i hi => ?_⟩
    · obtain ⟨b, off, spot⟩ := x
      have hc := hcell 0 (by omega)
      have hspot : spot = none := by simpa [Addr.add] using World.cell?_spot hc
      subst hspot
      refine ⟨b, off, rfl, World.block_lt_of_cell? W _ (by simpa [Addr.add] using hc), fun i hi => ?_⟩
      rw [← add_none]; exact hcell i (by omega)
    · refine rng_of (hwz _ ?_)
      simp [List.getD, show i < zs.length by omega]
end Go.Proofs.YtheiinclgfgneaaDoor

/-
  What a row's list gives: the library's table of trailing zeros.
-/
namespace Go.Proofs.YtheiinclgfgneaaDoor
open Go Go.RowKit Go.ChangeShapes Go.Proofs.YtheiinclgfgneaaDoor.M
set_option linter.unusedSimpArgs false
set_option linter.unusedVariables false

theorem gTab : Tryd.prog.globalNamed "math/bits.deBruijn64tab" = some 3 := by kernel_rfl
theorem gTabType : (Tryd.prog.globals[(3 : Nat)]?).map (·.type) = some 87 := by kernel_rfl
theorem cellsTab : Tryd.prog.cellsOf 87 = 64 := by kernel_rfl
theorem cellsByte : Tryd.prog.cellsOf 5 = 1 := by kernel_rfl
def tabInts : List Int := Lib.deBruijn64tab.map Int.ofNat
theorem tab_get : ∀ j, j < 64 → tabInts.getD j 0 = ((Lib.deBruijn64tab.getD j 0 : Nat) : Int) := by decide +kernel
theorem tab_of {W : World} (h : laidMetH Tryd.prog [("math/bits.deBruijn32tab", Rows.laid_math_bits_deBruijn32tab), ("math/bits.deBruijn64tab", Rows.laid_math_bits_deBruijn64tab)] W) : Tab W := by
  rw [MakeChecks.laidMetH_plain _ _ _ (by kernel_rfl)] at h
  have h' : laidMet Tryd.prog (("math/bits.deBruijn64tab", Lib.tabData .u8 tabInts) :: []) W := h.tail
  have t := Lib.tabIs_of_head gTab gTabType Tryd.underlying87 Tryd.underlying5 cellsByte cellsTab h'
  intro j hj
  rw [← tab_get j hj]
  exact t.cell gTab j (by exact hj)
end Go.Proofs.YtheiinclgfgneaaDoor

/-
  What a row's list of package-level variables gives: the layouts' cells, and the cells of the library's table for b_trailing zeros.
-/
namespace Go.Proofs.YtheiinclgfgneaaDoor
open Go Go.RowKit Go.ChangeShapes Go.Proofs.YtheiinclgfgneaaDoor.M
set_option linter.unusedSimpArgs false
set_option linter.unusedVariables false

theorem b_rng_of {a : Int} (h : (Lit.int .i64 a).wf = true) : rng a := by
  simp [Lit.wf, IntKind.min, IntKind.max, IntKind.signed, IntKind.bits] at h
  unfold rng; omega
theorem cellsInt : Tryd.prog.cellsOf 3 = 1 := by kernel_rfl
theorem cellsLayout : Tryd.prog.cellsOf 63 = 3 := by kernel_rfl
theorem g64 : Tryd.prog.globalNamed "plumb/bits.binary64" = some 1 := by kernel_rfl
theorem g64Type : (Tryd.prog.globals[(1 : Nat)]?).map (·.type) = some 63 := by kernel_rfl
set_option maxRecDepth 100000 in
/-- A layout's three cells, off its reading. -/
theorem three {W : World} {name : String} {g : Nat} {a b c : Int} {rest : List (String × DataW Unit)} (hg : Tryd.prog.globalNamed name = some g) (hty : (Tryd.prog.globals[g]?).map (·.type) = some 63)
    (h : laidMet Tryd.prog ((name, .agg [.lit (.int .i64 a), .lit (.int .i64 b), .lit (.int .i64 c)]) :: rest) W) :
    W.cell? ⟨g, 0, none⟩ = some (.int .i64 a) ∧ W.cell? ⟨g, 1, none⟩ = some (.int .i64 b) ∧ W.cell? ⟨g, 2, none⟩ = some (.int .i64 c) := by
  obtain ⟨ps, ⟨g', t', cs, fuel, p, q, hg', ht', hvar, hd, _, _⟩, _⟩ := h
  obtain rfl := Option.some.inj (hg.symm.trans hg')
  obtain rfl := Option.some.inj (hty.symm.trans ht')
  obtain ⟨y0, y1, y2, n, hx, hl, h0, h1, h2⟩ := Go.Deep.trod_struct3 Tryd.underlying63 hd
  obtain ⟨k0, e0, f0, _⟩ := DataW.trod_int Tryd.underlying3 h0
  obtain ⟨k1, e1, f1, _⟩ := DataW.trod_int Tryd.underlying3 h1
  obtain ⟨k2, e2, f2, _⟩ := DataW.trod_int Tryd.underlying3 h2
  rw [f0, f1, f2] at hx
  simp only [Prod.mk.injEq, DataW.agg.injEq, List.cons.injEq, DataW.lit.injEq, Lit.int.injEq, true_and, and_true] at hx
  obtain ⟨⟨rfl, rfl, rfl⟩, _⟩ := hx
  rw [cellsLayout] at hl
  rw [cellsInt] at e0 e1 e2
  have v := fun i => World.var?_cell hg hvar i
  obtain ⟨l⟩ := cs
  simp only at hl e0 e1 e2
  match l, hl with
  | [c0, c1, c2], _ =>
    simp at e0 e1 e2
    subst e0 e1 e2
    exact ⟨by simpa using v 0, by simpa using v 1, by simpa using v 2⟩

end Go.Proofs.YtheiinclgfgneaaDoor

/-
  What a row gives: a number that came in, as the walks want it; the library's table and the layout of binary64.
-/
namespace Go.Proofs.YtheiinclgfgneaaDoor
open Go Go.ChangeShapes Go.WideShapes Go.ChangeAt Go.RowKit Go.Proofs.YtheiinclgfgneaaDoor.M
set_option linter.unusedSimpArgs false
set_option linter.unusedVariables false

theorem cellsNum : Tryd.prog.cellsOf 40 = 3 := by kernel_rfl
theorem cellsB1 : Tryd.prog.cellsOf 4 = 1 := by kernel_rfl
theorem cellsS1 : Tryd.prog.cellsOf 38 = 1 := by kernel_rfl
theorem cellsI1 : Tryd.prog.cellsOf 3 = 1 := by kernel_rfl
set_option maxRecDepth 100000 in
/-- A number's cells, off its reading. -/
theorem num_cells {H : Type} {enc : TypeId × Value → H} {W : World} {n : Nat} {cs : List Value} {x : DataW H × List MemPlace}
    (h : DataW.trod enc Tryd.prog W 0 (fun _ => true) true n 40 cs = some x) :
    ∃ r : NumR, cs = [.bool r.ng, .slice r.ao r.n r.cap, .int .i64 r.e] ∧ Row W r.ao r.n r.cap r.d ∧ rng r.e := by
  obtain ⟨xs, m, _, rfl, hl, hlen, hf⟩ := DataW.trod_struct Tryd.underlying40 h
  rw [cellsNum] at hl
  match cs, hl with
  | [v0, v1, v2], _ =>
    match xs, hlen with
    | [y0, y1, y2], _ =>
      have f0 : DataW.trod enc Tryd.prog W 0 (fun _ => true) true m 4 (([v0, v1, v2].drop 0).take (Tryd.prog.cellsOf 4)) = some y0 := hf 0 _ rfl
      have f1 : DataW.trod enc Tryd.prog W 0 (fun _ => true) true m 38 (([v0, v1, v2].drop 1).take (Tryd.prog.cellsOf 38)) = some y1 := hf 1 _ rfl
      have f2 : DataW.trod enc Tryd.prog W 0 (fun _ => true) true m 3 (([v0, v1, v2].drop 2).take (Tryd.prog.cellsOf 3)) = some y2 := hf 2 _ rfl
      rw [cellsB1] at f0
      rw [cellsS1] at f1
      rw [cellsI1] at f2
      simp only [List.drop_zero, List.drop_succ_cons, List.take_succ_cons, List.take_zero] at f0 f1 f2
      obtain ⟨k0, e0, _, w0⟩ := DataW.trod_bool Tryd.underlying4 f0
      obtain ⟨k2, e2, _, w2⟩ := DataW.trod_int Tryd.underlying3 f2
      simp at e0 e2
      subst e0 e2
      rcases open_ints Tryd.underlying38 Tryd.underlying3 (by kernel_rfl) f1 with ⟨hcs, _⟩ | ⟨p, l, c, zs, hcs, _, hl', hm', hz, hx, hcell, hwz⟩
      · simp at hcs
        subst hcs
        exact ⟨⟨k0, none, 0, 0, fun _ => 0, k2⟩, rfl, Row.nil _ _, rng_of w2⟩
      · simp at hcs
        subst hcs
        obtain ⟨z, hR, _⟩ := row_of (enc := enc) (W := W) (a := some p) (len := l) (cap := c) (d := y1.1) (p := y1.2) ⟨m, by simpa [Value.cells] using f1⟩
        exact ⟨⟨k0, some p, l, c, z, k2⟩, rfl, hR, rng_of w2⟩
set_option maxRecDepth 100000 in
theorem num_of {H : Type} {enc : TypeId × Value → H} {W : World} {base : Nat} {v : Value} {d : DataW H} {p : List MemPlace} (hv : Value.okWide Tryd.prog W .any base 40 v)
    (h : DataW.Trod enc Tryd.prog W 0 (fun _ => true) true 40 v d p) : ∃ x : NumR, v = x.v ∧ Row W x.ao x.n x.cap x.d ∧ rng x.e := by
  obtain ⟨cs, rfl, hc⟩ := okWide_struct Tryd.underlying40 hv
  obtain ⟨fuel, hf⟩ := h
  obtain ⟨r, hr, h1, h2⟩ := num_cells hf
  refine ⟨r, ?_, h1, h2⟩
  show Value.agg cs = .agg #[.bool r.ng, .slice r.ao r.n r.cap, .int .i64 r.e]
  congr 1
  have : cs.toList = [.bool r.ng, .slice r.ao r.n r.cap, .int .i64 r.e] := by simpa [Value.cells] using hr
  exact Array.toList_inj.1 this
/-- What the laws want of the package's variables. -/
structure Hold (w : World) : Prop where
  lay : Lay64 w
  tab : Tab w
theorem Hold.keeps {w w' : World} (h : Hold w) (hb : Below w.heap.size w w') : Hold w' := ⟨h.lay.keeps hb, h.tab.keeps hb⟩
theorem hold_of {W : World} (h : laidMetH Tryd.prog [("math/bits.deBruijn32tab", Rows.laid_math_bits_deBruijn32tab), ("math/bits.deBruijn64tab", Rows.laid_math_bits_deBruijn64tab), ("plumb/bits.binary64", Rows.laid_plumb_bits_binary64)] W) : Hold W := by
  rw [MakeChecks.laidMetH_plain _ _ _ (by kernel_rfl)] at h
  have h' : laidMet Tryd.prog (("math/bits.deBruijn64tab", Lib.tabData .u8 tabInts) :: [("plumb/bits.binary64", Rows.laid_plumb_bits_binary64)]) W := h.tail
  have t := Lib.tabIs_of_head gTab gTabType Tryd.underlying87 Tryd.underlying5 cellsByte cellsTab h'
  obtain ⟨a0, a1, a2⟩ := three g64 g64Type h'.tail
  refine ⟨⟨a0, a1, a2⟩, fun j hj => ?_⟩
  rw [← tab_get j hj]
  exact t.cell gTab j (by exact hj)
end Go.Proofs.YtheiinclgfgneaaDoor

/-
  Package dyadic's calls on numbers that are not too great: what they answer is told outright.
-/
namespace Go.Proofs.YtheiinclgfgneaaDoor
open Go Go.RowKit Go.Proofs.YtheiinclgfgneaaDoor.M
set_option linter.unusedSimpArgs false
set_option linter.unusedVariables false

theorem dans_shape {w w' : World} {V : Int} {v : Value} (h : DAns w w' V v) : ∃ ng so sn sc e, v = .agg #[.bool ng, .slice so sn sc, .int .i64 e] := by
  obtain ⟨ng, s, m, e, h1, _, hA⟩ := h
  obtain ⟨so, sn, sc, rfl⟩ := hA.num.shape
  exact ⟨_, _, _, _, _, h1⟩
theorem ord_swap (a b : Int) : ord b a = -ord a b := by
  rcases Int.lt_trichotomy a b with h | h | h
  · rw [ord_lt h, ord_gt h]; rfl
  · rw [ord_eq h, ord_eq h.symm]; rfl
  · rw [ord_gt h, ord_lt h]
theorem ord_sub (a b : Int) : ord (a - b) 0 = ord a b := by
  rcases Int.lt_trichotomy a b with h | h | h
  · rw [ord_lt h, ord_lt (by omega)]
  · rw [ord_eq h, ord_eq (by omega)]
  · rw [ord_gt h, ord_gt (by omega)]
theorem ord_add (a b c : Int) : ord (a + c) (b + c) = ord a b := by
  rcases Int.lt_trichotomy a b with h | h | h
  · rw [ord_lt h, ord_lt (by omega)]
  · rw [ord_eq h, ord_eq (by omega)]
  · rw [ord_gt h, ord_gt (by omega)]
theorem ord_mul (a b c : Int) : ord (a * c) (b * c) = ord a b * ord c 0 := by
  rcases Int.lt_trichotomy c 0 with h | h | h
  · have e : ∀ x : Int, x * c = -(x * -c) := fun x => by rw [Int.mul_neg, Int.neg_neg]
    rw [e a, e b, ord_neg, ord_scale (show 0 < -c by omega), ord_lt h]; omega
  · rw [h, Int.mul_zero, Int.mul_zero, ord_eq rfl, Int.mul_zero]
  · rw [ord_scale h, ord_gt h, Int.mul_one]
theorem ord_zero (a b : Int) : decide (a = b) = (ord a b == 0) := by
  rcases Int.lt_trichotomy a b with h | h | h
  · rw [ord_lt h, decide_eq_false (by omega)]; rfl
  · rw [ord_eq h, decide_eq_true h]; rfl
  · rw [ord_gt h, decide_eq_false (by omega)]; rfl
theorem ord_trans (a b c : Int) : 0 < ord a b ∨ 0 < ord b c ∨ ord a c ≤ 0 := by
  by_cases h1 : b < a
  · exact .inl (by rw [ord_gt h1]; decide)
  · by_cases h2 : c < b
    · exact .inr (.inl (by rw [ord_gt h2]; decide))
    · refine .inr (.inr ?_)
      by_cases h3 : a < c
      · rw [ord_lt h3]; decide
      · rw [ord_eq (by omega)]; decide
theorem bd_pw {k : Int} (h0 : -5000 < k) (h1 : k < 5000) : Bd 5001 (pw k) := by
  have e : pw k = pw (-((5001 : Nat) : Int)) * 2 ^ (k + 5001).toNat := by
    rw [← pw_add (by omega)]; congr 1; omega
  have hp := two_pos (k + 5001).toNat
  have hlt : (2 : Int) ^ (k + 5001).toNat < 2 ^ (2 * 5001) := two_lt (by omega)
  refine ⟨2 ^ (k + 5001).toNat, by rw [e, Int.mul_comm], ?_, hlt⟩
  have := two_pos (2 * 5001)
  omega
theorem scale_back {A C B k : Int} (h0 : -5000 < k) (h1 : k < 5000) (hC : C * 2 ^ 4194304 = A * pw k) (hB : B * 2 ^ 4194304 = C * pw (-k)) : B = A := by
  have e : pw k * pw (-k) = 2 ^ 4194304 * 2 ^ 4194304 := by
    rw [pw_mul (by omega) (by omega), show k + -k = 0 by omega]
    congr 1
  refine scale_inj (scale_inj ?_)
  rw [hB, Int.mul_assoc, Int.mul_comm (pw (-k)), ← Int.mul_assoc, hC, Int.mul_assoc, e, Int.mul_assoc]
end Go.Proofs.YtheiinclgfgneaaDoor

/-
  Plain mathematics: which numbers in their one form are floats. No Go text in sight.
-/
namespace Go.Proofs.YtheiinclgfgneaaDoor
open Go Go.RowKit Go.Proofs.YtheiinclgfgneaaDoor.M
set_option linter.unusedSimpArgs false
set_option linter.unusedVariables false

theorem jz_low {M : Int} (h0 : 0 < M) (h : M < 9223372036854775808) {l : Nat} (hl : IsLow M l) : jz M = l ∧ jo M = M / 2 ^ l := by
  obtain ⟨m, e1, _, _⟩ := jz_spec h0 h
  have : IsLow M (jz M) := ⟨m, by rw [Int.mul_comm]; exact e1⟩
  have e := low_unique this hl
  exact ⟨e, by unfold jo; rw [e]⟩
theorem jz_odd {m : Int} (h0 : 0 < m) (h : m < 9223372036854775808) (ho : m % 2 = 1) : jz m = 0 ∧ jo m = m := by
  obtain ⟨a, b⟩ := jz_low h0 h (l := 0) ⟨m / 2, by rw [Int.pow_zero]; omega⟩
  exact ⟨a, by rw [b, Int.pow_zero, Int.ediv_one]⟩
/-- The odd form of a number joins as the number does. -/
theorem j_odd {M e : Int} {l : Nat} (ng : Bool) (h0 : 0 < M) (h : M < 9223372036854775808) (hl : IsLow M l) :
    jk 52 2047 (-1074) (M / 2 ^ l) (e + l) = jk 52 2047 (-1074) M e ∧ jp ng (M / 2 ^ l) (e + l) = jp ng M e := by
  obtain ⟨c1, c2, c3⟩ := isLow_odd hl h0
  have hle : M / 2 ^ l ≤ M := Int.ediv_le_self _ (by omega)
  obtain ⟨z1, o1⟩ := jz_low h0 h hl
  obtain ⟨z2, o2⟩ := jz_odd c1 (by omega) c2
  have ho : jo (M / 2 ^ l) = jo M := by rw [o2, o1]
  have hj : jl (M / 2 ^ l) = jl M := by unfold jl; rw [ho]
  have he : e + (l : Int) + ((jz (M / 2 ^ l) : Nat) : Int) = e + (jz M : Nat) := by rw [z2, z1]; simp
  have hsp : jsp 52 (M / 2 ^ l) = jsp 52 M := by unfold jsp; rw [hj]
  have hsh : jsh 52 (-1074) (M / 2 ^ l) (e + l) = jsh 52 (-1074) M e := by unfold jsh; rw [hsp, he]
  have hab : jab 52 (-1074) (M / 2 ^ l) (e + l) = jab 52 (-1074) M e := by unfold jab; rw [hsh, he]
  have hg : jgood 52 2047 (-1074) (M / 2 ^ l) (e + l) = jgood 52 2047 (-1074) M e := by unfold jgood; rw [hsp, he, hab]
  have hk : jk 52 2047 (-1074) (M / 2 ^ l) (e + l) = jk 52 2047 (-1074) M e := by
    unfold jk
    rw [if_neg (by omega), if_neg (by omega), if_neg (by omega), if_neg (by omega), hg]
  have hv : jv 52 2047 (-1074) (M / 2 ^ l) (e + l) = jv 52 2047 (-1074) M e := by
    unfold jv
    rw [if_neg (show ¬ M / 2 ^ l ≤ 0 by omega), if_neg (show ¬ M ≤ 0 by omega), hg, hab, hsh, ho]
  exact ⟨hk, by unfold jp; rw [hk, hv]⟩
/-- What has more bits than a float is none. -/
theorem j_long {m e : Int} (h0 : 0 < m) (h : m < 9223372036854775808) (ho : m % 2 = 1) (hb : 54 ≤ blen m) : jk 52 2047 (-1074) m e = false := by
  obtain ⟨z, o⟩ := jz_odd h0 h ho
  have hl : jl m = blen m := by unfold jl; rw [o]; exact bitLen_eq (by omega) (by omega)
  unfold jk
  rw [if_neg (by omega), if_neg (by omega)]
  unfold jgood jsp
  rw [hl, decide_eq_false (by omega), Bool.false_and]
/-- What lies below the least float is none. -/
theorem j_low {m e : Int} (h0 : 0 < m) (h : m < 9223372036854775808) (ho : m % 2 = 1) (he : e < -1074) : jk 52 2047 (-1074) m e = false := by
  obtain ⟨z, o⟩ := jz_odd h0 h ho
  unfold jk
  rw [if_neg (by omega), if_neg (by omega)]
  unfold jgood
  rw [z, decide_eq_false (p := -1074 ≤ e + ((0 : Nat) : Int)) (by omega), Bool.false_and, Bool.and_false]
/-- A finite pattern's number in its one form. -/
theorem float_form {b : Int} (hb : rng b) (hp : pok b = true) {ng : Bool} {m e : Int} (hy : Dy (sg (pneg b) (pmag b) * pw (pexp b)) ng m e) :
    blen m ≤ 63 ∧ m < 9007199254740992 ∧ -1074 ≤ e ∧ e ≤ 2000 ∧ jk 52 2047 (-1074) m e = true ∧ (jp ng m e = b ∨ (b = -9223372036854775808 ∧ jp ng m e = 0 ∧ m = 0)) ∧ (m = 0 → jp ng m e = 0) := by
  obtain ⟨i0, i1, i2, i3⟩ := pmag_in hp
  obtain ⟨j0, j1⟩ := join_parts hb hp
  have hle63 : ∀ x : Int, x < 9007199254740992 → blen x ≤ 63 := fun x hx => blen_le (by
    rw [show (2 : Int) ^ 63 = 9223372036854775808 by decide]; omega)
  by_cases h0 : pmag b = 0
  · rw [h0, sg_zero, Int.zero_mul] at hy
    obtain ⟨e1, e2, e3⟩ := hy.unique Dy.zero
    subst e1 e2 e3
    have z1 : jp false 0 0 = 0 := by decide
    have z2 : jk 52 2047 (-1074) 0 0 = true := by decide
    refine ⟨hle63 0 (by omega), by omega, by omega, by omega, z2, ?_, fun _ => z1⟩
    rw [h0] at j1
    have hv : jp (pneg b) 0 (pexp b) = if pneg b then -9223372036854775808 else 0 := by
      unfold jp jk jv
      cases pneg b <;> simp
    rw [hv] at j1
    cases hn : pneg b
    · rw [hn] at j1
      exact .inl (by rw [z1]; simpa using j1)
    · rw [hn] at j1
      exact .inr ⟨by simpa using j1.symm, z1, rfl⟩
  · have hM : 0 < pmag b := by omega
    obtain ⟨l, hl⟩ := isLow_ex hM
    obtain ⟨e1, e2, e3⟩ := hy.unique (Dy.of (pneg b) hl hM (show -4194304 ≤ pexp b by omega))
    obtain ⟨c1, c2, c3⟩ := isLow_odd hl hM
    have hle : pmag b / 2 ^ l ≤ pmag b := Int.ediv_le_self _ (by omega)
    have hl54 : l < 54 := by
      have h3 : (1 : Int) * 2 ^ l ≤ pmag b / 2 ^ l * 2 ^ l := Int.mul_le_mul_of_nonneg_right (by omega) (Int.le_of_lt (two_pos l))
      rw [c3] at h3
      refine two_lt_iff ?_
      rw [show (2 : Int) ^ 54 = 18014398509481984 by decide]
      omega
    obtain ⟨k1, k2⟩ := j_odd (e := pexp b) (pneg b) hM (by omega) hl
    subst e1 e2 e3
    exact ⟨hle63 _ (by omega), by omega, by omega, by omega, by rw [k1]; exact j0, .inl (by rw [k2]; exact j1), fun hz => by omega⟩
/-- A float and a bit far below it. -/
theorem tiny_form {A : Int} {ng : Bool} {m e : Int} (hy : Dy A ng m e) (h0 : 0 < m) (h1 : m < 9007199254740992) (he : -1074 ≤ e) (he2 : e ≤ 2000) :
    ∃ m', Dy (A + pw (e - 60)) ng m' (e - 60) ∧ (blen m' ≤ 63 → jk 52 2047 (-1074) m' (e - 60) = false) ∧ Dok (A + pw (e - 60)) := by
  have ep : pw e = pw (e - 60) * 1152921504606846976 := by
    have := pw_add (e := e - 60) (by omega) 60
    rw [show e - 60 + ((60 : Nat) : Int) = e by omega, show (2 : Int) ^ 60 = 1152921504606846976 by decide] at this
    exact this
  have key : ∀ m' : Int, m' = m * 1152921504606846976 + (if ng then -1 else 1) → Dy (A + pw (e - 60)) ng m' (e - 60) := fun m' hm' => by
    refine ⟨?_, by omega, .inr ?_⟩
    · rw [hy.val, ep, hm', sg_sgn, sg_sgn]
      cases ng <;> simp <;> grind
    · rw [hm']
      cases ng <;> simp <;> omega
  refine ⟨_, key _ rfl, fun hb => ?_, ?_⟩
  · have hlt := blen_lt (m * 1152921504606846976 + (if ng = true then -1 else 1))
    have h2 : (2 : Int) ^ blen (m * 1152921504606846976 + (if ng = true then -1 else 1)) ≤ 2 ^ 63 := two_le hb
    rw [show (2 : Int) ^ 63 = 9223372036854775808 by decide] at h2
    have h3 : 59 < blen (m * 1152921504606846976 + (if ng = true then -1 else 1)) := blen_ge (by
      rw [show (2 : Int) ^ 59 = 576460752303423488 by decide]
      cases ng <;> simp <;> omega)
    exact j_long (by cases ng <;> simp <;> omega) (by omega) (by cases ng <;> simp <;> omega) (by omega)
  · refine (key _ rfl).ok.2 ⟨?_, by omega, by omega⟩
    have e5 : P 5 = 1427247692705959881058285969449495136382746624 := rfl
    have := P_le (show 5 ≤ 2000 by omega)
    cases ng <;> simp <;> omega
theorem half_form {A C : Int} {ng : Bool} {m e : Int} (hy : Dy A ng m e) (h0 : 0 < m) (h1 : m < 9007199254740992) (he : -1074 ≤ e) (he2 : e ≤ 2000) (hC : C * 2 ^ 4194304 = A * pw (-1080 - e)) :
    Dy C ng m (-1080) ∧ Dok C ∧ (blen m ≤ 63 → jk 52 2047 (-1074) m (-1080) = false) := by
  have hd : Dy C ng m (-1080) := by
    refine ⟨scale_inj ?_, by omega, hy.form.elim (fun h => by omega) .inr⟩
    rw [hC, hy.val, Int.mul_assoc, pw_mul (by omega) (by omega), show e + (-1080 - e) = -1080 by omega, Int.mul_assoc]
  have ho : m % 2 = 1 := by rcases hy.form with ⟨h, _⟩ | ⟨_, h⟩ <;> omega
  refine ⟨hd, hd.ok.2 ⟨by have := P2000_big2; omega, by omega, by omega⟩, fun _ => j_low h0 (by omega) ho (by omega)⟩
end Go.Proofs.YtheiinclgfgneaaDoor

/-
  Package plumbref3: Float, by its contract.
-/
namespace Go.Proofs.YtheiinclgfgneaaDoor
open Go Go.RowKit Go.Proofs.YtheiinclgfgneaaDoor.M
set_option linter.unusedSimpArgs false
set_option linter.unusedVariables false

theorem int_smallD {A W : Int} {a : Nat → Int} {m : Nat} (hd : Dig a (m + 1)) (h : W * P (m + 1) + val a (m + 1) = A) (h0 : 0 ≤ W) (hA : A < 9223372036854775808) : W * 1073741824 + a m ≤ 9223372036854775807 ∧ (W * 1073741824 + a m) * P m + val a m = A := by
  have e : (W * 1073741824 + a m) * P m + val a m = A := by
    rw [← h, P_succ, val_succ]; grind
  refine ⟨?_, e⟩
  have h1 := val_nonneg (hd.le (Nat.le_succ m))
  have h2 := P_pos m
  have h3 := (hd m (by omega)).1
  have h4 : (W * 1073741824 + a m) * 1 ≤ (W * 1073741824 + a m) * P m := Int.mul_le_mul_of_nonneg_left (by omega) (by omega)
  omega
/-- What Float tells of a valid number. -/
def flB (x : NumR) : Int := if decide (blen (val x.d x.n) ≤ 63) then jp x.ng (val x.d x.n) x.e else 0
def flK (x : NumR) : Bool := decide (blen (val x.d x.n) ≤ 63) && jk 52 2047 (-1074) (val x.d x.n) x.e
theorem fl_long {x : NumR} (ok : okR x = true) (h : 2 < x.n) : flB x = 0 ∧ flK x = false := by
  have hN := (okR_sane ok).1
  have h1 := val_top hN.1 (by omega) hN.2
  have h2 := P_le (show 2 ≤ x.n - 1 by omega)
  have h3 : P 2 = 1152921504606846976 := rfl
  have ho : 0 < val x.d x.n ∧ val x.d x.n % 2 = 1 := by
    rcases (okR_dy ok).1.form with ⟨q, _⟩ | q
    · omega
    · exact q
  unfold flB flK
  by_cases hb : blen (val x.d x.n) ≤ 63
  · have hlt : val x.d x.n < 9223372036854775808 := by
      have := blen_lt (val x.d x.n)
      have h4 : (2 : Int) ^ blen (val x.d x.n) ≤ 2 ^ 63 := two_le hb
      have h5 : (2 : Int) ^ 63 = 9223372036854775808 := rfl
      omega
    have h54 : 54 ≤ blen (val x.d x.n) := by
      have h6 : (2 : Int) ^ 60 = 1152921504606846976 := rfl
      have := blen_ge (V := val x.d x.n) (k := 60) (by omega)
      omega
    have hk := j_long (e := x.e) ho.1 hlt ho.2 h54
    rw [hk]
    refine ⟨?_, by simp⟩
    rw [if_pos (by simpa using hb)]
    unfold jp
    rw [hk]
    have hg : jgood 52 2047 (-1074) (val x.d x.n) x.e = false := by
      unfold jk at hk
      rwa [if_neg (by omega), if_neg (by omega)] at hk
    simp [jv, hg]
  · simp [hb]
theorem fl_short {x : NumR} (ok : okR x = true) (h : x.n ≤ 2) : flB x = jp x.ng (val x.d x.n) x.e ∧ flK x = jk 52 2047 (-1074) (val x.d x.n) x.e ∧ 0 ≤ val x.d x.n ∧ val x.d x.n < 1152921504606846976 := by
  have hN := (okR_sane ok).1
  have h1 := val_lt hN.1
  have h2 := P_le h
  have h3 : P 2 = 1152921504606846976 := rfl
  have h0 := val_nonneg hN.1
  have hb : blen (val x.d x.n) ≤ 63 := by
    have h6 : (2 : Int) ^ 60 = 1152921504606846976 := rfl
    have := blen_le (V := val x.d x.n) (k := 60) (by omega)
    omega
  unfold flB flK
  simp [hb]
  omega
end Go.Proofs.YtheiinclgfgneaaDoor

/-
  The document's rounding (plumbref4): bitsOf, joined, by their contracts; the facts that Cut's walk stands on.
-/
namespace Go.Proofs.YtheiinclgfgneaaDoor
open Go Go.RowKit Go.Proofs.YtheiinclgfgneaaDoor.M
set_option linter.unusedSimpArgs false
set_option linter.unusedVariables false

/-- binary64, as the document's Kind. -/
def k64V : Value := .agg #[.int .i64 53, .int .i64 (-1074), .int .i64 1024, .int .i64 9218868437227405312, .int .i64 (-9223372036854775808)]
theorem rbitsOf_any (m : Int) (w : World) (h0 : 0 ≤ m) (h1 : m ≤ 9223372036854775807) :
    Calls Tryd.prog 88 #[.int .i64 m] w fun e w' => e = .returned (.int .i64 (blen m)) ∧ w' = w := by
  have hbl : blen m ≤ 63 := blen_le (by show m < 9223372036854775808; omega)
  go_enter Tryd.func88, Tryd.ntmps88
  go_wp2
  go_loop [0, 3] (fun v s => ∃ (x : Int) (t : Nat), s = .int .i64 t ∧ v = .int .i64 x ∧ 0 ≤ x ∧ x ≤ 9223372036854775807 ∧ t ≤ 63 ∧ Hid (t + blen x = blen m)) (fun v _ => (intOf v).toNat)
  case atStart => exact ⟨m, 0, by go_num, rfl, h0, h1, by omega, by show 0 + _ = _; omega⟩
  case round =>
    obtain ⟨x, t, rfl, rfl, hx0, hx1, ht, HT⟩ := hrel
    by_cases hp : 0 < x
    · have ht2 : t + 1 ≤ 63 := by have := HT.out; have := blen_half hp; omega
      go_wp2
      go_round
      case rel => exact ⟨x / 2, t + 1, by go_num, rfl, by omega, by omega, ht2, by show _ = _; have := HT.out; have := blen_half hp; omega⟩
      case measure => simp [intOf]; omega
    · obtain rfl : x = 0 := by omega
      go_wp2
      go_ret
      exact ⟨ret_int (by have := HT.out; rw [blen_zero] at this; omega), rfl⟩
set_option maxRecDepth 100000 in
theorem rjoined_any (m e : Int) (w : World) (hm : rng m) (he : rng e) :
    Calls Tryd.prog 89 #[k64V, .int .i64 m, .int .i64 e] w fun x w' => x = .returned (.int .i64 (jp false m e)) ∧ Below w.heap.size w w' := by
  have hJ := fun W => refJoin false m e W hm he
  generalize jp false m e = J at hJ ⊢
  generalize jk 52 2047 (-1074) m e = K at hJ
  unfold k64V
  go_enter Tryd.func89, Tryd.ntmps89
  go_wp2_with fail
  refine (hJ _).mono ?_
  rintro r w1 ⟨rfl, rfl⟩
  go_wp2
  go_ret
  exact ⟨rfl, bel_alloc _ _⟩
theorem rbit_neg (ao : Option Addr) (n cap : Nat) (i : Int) (w : World) (hi : i < 0) (hi2 : -9223372036854775808 ≤ i) :
    Calls Tryd.prog 87 #[.slice ao n cap, .int .i64 i] w fun e w' => e = .returned (.bool false) ∧ w' = w := by
  go_enter Tryd.func87, Tryd.ntmps87
  go_wp2
  go_ret
  exact ⟨rfl, rfl⟩
end Go.Proofs.YtheiinclgfgneaaDoor

/-
  The document's own answers for chapter 1 (package plumbref1), but for Join: each call by a contract over the same plain functions as package bits'.
-/
namespace Go.Proofs.YtheiinclgfgneaaDoor
open Go Go.RowKit Go.Proofs.YtheiinclgfgneaaDoor.M
set_option linter.unusedSimpArgs false
set_option linter.unusedVariables false

theorem hideIt {p : Prop} (h : p) : Hid p := h

theorem refCut (b : Int) (w : World) (hb : rng b) :
    Calls Tryd.prog 68 #[.int .i64 b] w fun e w' => e = .returned (.tuple #[.bool (decide (b < 0)), .int .i64 (fld b), .int .i64 (frc b)]) ∧ w' = w := by
  unfold rng at hb
  by_cases h : b < 0
  all_goals
    go_enter Tryd.func68, Tryd.ntmps68
    go_wp2
    go_ret3
    exact ⟨ret_bii (by simp; try omega) (by unfold fld; omega) (by unfold frc; omega), rfl⟩
theorem refcls (f t most : Int) (w : World) (hf : 0 ≤ f) (ht : 0 ≤ t) :
    Calls Tryd.prog 70 #[.int .i64 f, .int .i64 t, .int .i64 most] w fun e w' => e = .returned (.int .i64 (rcls f t most)) ∧ w' = w := by
  by_cases h1 : f = most
  · subst h1
    by_cases h2 : t = 0
    all_goals
      go_enter Tryd.func70, Tryd.ntmps70
      go_wp2
      go_ret
      exact ⟨b_ret_int (by simp [rcls, h2]), rfl⟩
  · by_cases h2 : 0 < f <;> by_cases h3 : 0 < t
    all_goals
      go_enter Tryd.func70, Tryd.ntmps70
      go_wp2
      go_ret
      exact ⟨b_ret_int (by simp [rcls, h1]; omega), rfl⟩
theorem refClass (b : Int) (w : World) (hb : rng b) :
    Calls Tryd.prog 55 #[.int .i64 b] w fun e w' => e = .returned (.int .i64 (cls b)) ∧ w' = w := by
  have hf := fld_le b
  have ht := frc_le b
  go_enter Tryd.func55, Tryd.ntmps55
  go_wp2_with (first
    | (go_at_call 68; refine (refCut _ _ hb).mono ?_; rintro e w1 ⟨rfl, rfl⟩)
    | (go_at_call 70; refine (refcls _ _ _ _ hf.1 ht.1).mono ?_; rintro e w1 ⟨rfl, rfl⟩))
  go_ret
  exact ⟨b_ret_int (rcls_cls b), rfl⟩
theorem refParts (b : Int) (w : World) (hb : rng b) :
    Calls Tryd.prog 52 #[.int .i64 b] w fun e w' => e = .returned (.tuple #[.bool (pneg b), .int .i64 (pmag b), .int .i64 (pexp b), .bool (pok b)]) ∧ w' = w := by
  have hf := fld_le b
  have ht := frc_le b
  by_cases h0 : cls b = 0
  · have k := hideIt (parts_sub (.inl h0))
    go_enter Tryd.func52, Tryd.ntmps52
    go_wp2_with (first
      | (go_at_call 68; refine (refCut _ _ hb).mono ?_; rintro e w1 ⟨rfl, rfl⟩)
      | (go_at_call 55; refine (refClass _ _ hb).mono ?_; rintro e w1 ⟨rfl, rfl⟩))
    refine bodyPost_ret (v := .tuple #[.bool (decide (b < 0)), .int .i64 (frc b), .int .i64 (-1074), .bool true]) (by simp [results, Tryd.results52, go_sem]) rfl ⟨ret_ttt4 k.out.1 k.out.2.1 k.out.2.2.1 k.out.2.2.2, rfl⟩
  · by_cases h1 : cls b = 1
    · have k := hideIt (parts_sub (.inr h1))
      go_enter Tryd.func52, Tryd.ntmps52
      go_wp2_with (first
        | (go_at_call 68; refine (refCut _ _ hb).mono ?_; rintro e w1 ⟨rfl, rfl⟩)
        | (go_at_call 55; refine (refClass _ _ hb).mono ?_; rintro e w1 ⟨rfl, rfl⟩))
      refine bodyPost_ret (v := .tuple #[.bool (decide (b < 0)), .int .i64 (frc b), .int .i64 (-1074), .bool true]) (by simp [results, Tryd.results52, go_sem]) rfl ⟨ret_ttt4 k.out.1 k.out.2.1 k.out.2.2.1 k.out.2.2.2, rfl⟩
    · by_cases h2 : cls b = 2
      · have k := hideIt (parts_norm h2)
        go_enter Tryd.func52, Tryd.ntmps52
        go_wp2_with (first
          | (go_at_call 68; refine (refCut _ _ hb).mono ?_; rintro e w1 ⟨rfl, rfl⟩)
          | (go_at_call 55; refine (refClass _ _ hb).mono ?_; rintro e w1 ⟨rfl, rfl⟩))
        refine bodyPost_ret (v := .tuple #[.bool (decide (b < 0)), .int .i64 (4503599627370496 + frc b), .int .i64 (fld b - 1075), .bool true]) (by simp [results, Tryd.results52, go_sem]) rfl ⟨ret_ttt4 k.out.1 k.out.2.1 k.out.2.2.1 k.out.2.2.2, rfl⟩
      · have k := hideIt (parts_not h0 h1 h2)
        go_enter Tryd.func52, Tryd.ntmps52
        go_wp2_with (first
          | (go_at_call 68; refine (refCut _ _ hb).mono ?_; rintro e w1 ⟨rfl, rfl⟩)
          | (go_at_call 55; refine (refClass _ _ hb).mono ?_; rintro e w1 ⟨rfl, rfl⟩))
        refine bodyPost_ret (v := .tuple #[.bool false, .int .i64 0, .int .i64 0, .bool false]) (by simp [results, Tryd.results52, go_sem]) rfl ⟨ret_ttt4 k.out.1 k.out.2.1 k.out.2.2.1 k.out.2.2.2, rfl⟩
end Go.Proofs.YtheiinclgfgneaaDoor

/-
  The document's own answers for chapter 1, on: the calls of 32 bits, the neighbours, the signs, the order.
-/
namespace Go.Proofs.YtheiinclgfgneaaDoor
open Go Go.RowKit Go.Proofs.YtheiinclgfgneaaDoor.M
set_option linter.unusedSimpArgs false
set_option linter.unusedVariables false

theorem refValid32 (b : Int) (w : World) :
    Calls Tryd.prog 90 #[.int .i64 b] w fun e w' => e = .returned (.bool (in32 b)) ∧ w' = w := by
  by_cases h : 0 ≤ b <;> by_cases h2 : b < 4294967296
  all_goals
    go_enter Tryd.func90, Tryd.ntmps90
    go_wp2
    go_ret
    exact ⟨b_ret_bool (by simp [in32]; omega), rfl⟩
theorem refClass32 (b : Int) (w : World) :
    Calls Tryd.prog 84 #[.int .i64 b] w fun e w' => e = .returned (.int .i64 (cls32 b)) ∧ w' = w := by
  by_cases h : in32 b = true
  · have hb := of_decide_eq_true h
    have e1 : b % 2147483648 / 8388608 = fld32 b := by unfold fld32; omega
    have e2 : b % 8388608 = frc32 b := rfl
    have hf := fld32_le b
    have ht := frc32_le b
    have hk := hideIt (rcls_cls32 b h)
    go_enter Tryd.func84, Tryd.ntmps84
    go_wp2_with (first
      | (go_at_call 90; refine (refValid32 _ _).mono ?_; rintro e w1 ⟨rfl, rfl⟩)
      | (go_at_call 70; refine (refcls _ _ _ _ hf.1 ht.1).mono ?_; rintro e w1 ⟨rfl, rfl⟩))
    go_ret
    exact ⟨b_ret_int hk.out, rfl⟩
  · have hn : b < 0 ∨ 4294967296 ≤ b := by simp [in32] at h; omega
    have h' : in32 b = false := by simpa using h
    have hk : Hid (4 = cls32 b) := by simp [cls32, hn, Hid]
    go_enter Tryd.func84, Tryd.ntmps84
    go_wp2_with (go_at_call 90; refine (refValid32 _ _).mono ?_; rintro e w1 ⟨rfl, rfl⟩)
    go_ret
    exact ⟨b_ret_int hk.out, rfl⟩
theorem refParts32 (b : Int) (w : World) :
    Calls Tryd.prog 91 #[.int .i64 b] w fun e w' => e = .returned (.tuple #[.bool (pneg32 b), .int .i64 (pmag32 b), .int .i64 (pexp32 b), .bool (pok32 b)]) ∧ w' = w := by
  have hf := fld32_le b
  have ht := frc32_le b
  by_cases h0 : cls32 b = 0
  · have k := hideIt (parts32_sub (.inl h0))
    have hb := cls32_in (b := b) (by omega)
    have e2 : b % 8388608 = frc32 b := rfl
    go_enter Tryd.func91, Tryd.ntmps91
    go_wp2_with (go_at_call 84; refine (refClass32 _ _).mono ?_; rintro e w1 ⟨rfl, rfl⟩)
    refine bodyPost_ret (v := .tuple #[.bool (decide (2147483648 ≤ b)), .int .i64 (frc32 b), .int .i64 (-149), .bool true]) (by simp [results, Tryd.results91, go_sem, e2]) rfl ⟨ret_ttt4 k.out.1 k.out.2.1 k.out.2.2.1 k.out.2.2.2, rfl⟩
  · by_cases h1 : cls32 b = 1
    · have k := hideIt (parts32_sub (.inr h1))
      have hb := cls32_in (b := b) (by omega)
      have e2 : b % 8388608 = frc32 b := rfl
      go_enter Tryd.func91, Tryd.ntmps91
      go_wp2_with (go_at_call 84; refine (refClass32 _ _).mono ?_; rintro e w1 ⟨rfl, rfl⟩)
      refine bodyPost_ret (v := .tuple #[.bool (decide (2147483648 ≤ b)), .int .i64 (frc32 b), .int .i64 (-149), .bool true]) (by simp [results, Tryd.results91, go_sem, e2]) rfl ⟨ret_ttt4 k.out.1 k.out.2.1 k.out.2.2.1 k.out.2.2.2, rfl⟩
    · by_cases h2 : cls32 b = 2
      · have k := hideIt (parts32_norm h2)
        have hb := cls32_in (b := b) (by omega)
        have e1 : b % 2147483648 / 8388608 = fld32 b := by unfold fld32; omega
        have e2 : b % 8388608 = frc32 b := rfl
        go_enter Tryd.func91, Tryd.ntmps91
        go_wp2_with (go_at_call 84; refine (refClass32 _ _).mono ?_; rintro e w1 ⟨rfl, rfl⟩)
        refine bodyPost_ret (v := .tuple #[.bool (decide (2147483648 ≤ b)), .int .i64 (8388608 + frc32 b), .int .i64 (fld32 b - 150), .bool true]) (by simp [results, Tryd.results91, go_sem, e1, e2]) rfl ⟨ret_ttt4 k.out.1 k.out.2.1 k.out.2.2.1 k.out.2.2.2, rfl⟩
      · have k := hideIt (parts32_not h0 h1 h2)
        go_enter Tryd.func91, Tryd.ntmps91
        go_wp2_with (go_at_call 84; refine (refClass32 _ _).mono ?_; rintro e w1 ⟨rfl, rfl⟩)
        refine bodyPost_ret (v := .tuple #[.bool false, .int .i64 0, .int .i64 0, .bool false]) (by simp [results, Tryd.results91, go_sem]) rfl ⟨ret_ttt4 k.out.1 k.out.2.1 k.out.2.2.1 k.out.2.2.2, rfl⟩
theorem refNeg (b : Int) (w : World) (hb : rng b) :
    Calls Tryd.prog 32 #[.int .i64 b] w fun e w' => e = .returned (.int .i64 (neg b)) ∧ w' = w := by
  have hb' := hb
  unfold rng at hb'
  by_cases h : cls b = 4
  · go_enter Tryd.func32, Tryd.ntmps32
    go_wp2_with (go_at_call 55; refine (refClass _ _ hb).mono ?_; rintro e w1 ⟨rfl, rfl⟩)
    go_ret
    exact ⟨b_ret_int (by simp [neg, h]), rfl⟩
  · go_enter Tryd.func32, Tryd.ntmps32
    go_wp2_with (go_at_call 55; refine (refClass _ _ hb).mono ?_; rintro e w1 ⟨rfl, rfl⟩)
    go_ret
    exact ⟨b_ret_int (by simp [neg, h, wrap64]; omega), rfl⟩
end Go.Proofs.YtheiinclgfgneaaDoor

/-
  Package plumbref3: Of, Of32, Mul, by contracts.
-/
namespace Go.Proofs.YtheiinclgfgneaaDoor
open Go Go.RowKit Go.Proofs.YtheiinclgfgneaaDoor.M
set_option linter.unusedSimpArgs false
set_option linter.unusedVariables false

set_option maxRecDepth 100000 in
set_option maxHeartbeats 1000000 in
theorem rof_any (b : Int) (w : World) (hb : rng b) (hp : pok b = true) :
    Calls Tryd.prog 30 #[.int .i64 b] w fun r w' => ∃ v, r = .returned v ∧ DAns w w' (sg (pneg b) (pmag b) * pw (pexp b)) v := by
  obtain ⟨i0, i1, i2, i3⟩ := pmag_in hp
  have hF := fun W => rfrom_any (pmag b) W i0 (by omega)
  have hN := fun W ao n cap d (h : Row W ao n cap d) (hd : Dig d n) (hn : n ≤ 40000) => rnorm_any (pneg b) ao n cap d (pexp b) W h hd hn (by omega) (by omega)
  have hP := fun W => refParts b W hb
  generalize pneg b = ng at *
  generalize pexp b = ex at *
  generalize pmag b = mg at *
  rw [hp] at hP
  go_enter Tryd.func30, Tryd.ntmps30
  go_wp2_with fail
  refine (hP _).mono ?_
  rintro r w1 ⟨rfl, rfl⟩
  go_wp2_with fail
  refine (hF _).mono ?_
  rintro r w2 ⟨v, rfl, hA⟩
  obtain ⟨so, sn, sc, d, rfl, hR, hNr, hv⟩ := hA.num
  have hsn : sn ≤ 100 := hA.num.len (k := 100) (by have := P_le (show 3 ≤ 100 by omega); have : P 3 = 1237940039285380274899124224 := rfl; omega)
  have hbw := bel_trans (bel_alloc w _) hA.below
  go_wp2_with fail
  refine (hN _ _ _ _ _ hR hNr.1 (by omega)).mono ?_
  rw [hv]
  rintro r w3 ⟨v, rfl, hD⟩
  obtain ⟨ng', s', m', e', rfl, hyy, hA2⟩ := id hD
  obtain ⟨so', sn', sc', rfl⟩ := hA2.num.shape
  have q0 := ((bel_trans hA.below hD.below).block w.heap.size (by rw [size1]; omega)).trans (heap_a1 _ _)
  have x0 := blkC q0 0 rfl
  have x1 := blkC q0 1 rfl
  have x2 := blkC q0 2 rfl
  have z0 := blkF q0 0
  have z1 := blkF q0 1
  have z2 := blkF q0 2
  go_wp2
  refine bodyPost_ret (v := .agg #[.bool ng', .slice so' sn' sc', .int .i64 e']) (by simp [results, Tryd.results30, go_sem, x0, x1, x2]) rfl ⟨_, rfl, ?_⟩
  exact dans_res3 (g := w.heap.size) hD hbw (Nat.le_refl _) (Nat.lt_of_lt_of_le (by rw [size1]; omega) hA.below.size) _ _ _
set_option maxRecDepth 100000 in
set_option maxHeartbeats 1000000 in
theorem rof32_any (b : Int) (w : World) (hb : rng b) (hp : pok32 b = true) :
    Calls Tryd.prog 85 #[.int .i64 b] w fun r w' => ∃ v, r = .returned v ∧ DAns w w' (sg (pneg32 b) (pmag32 b) * pw (pexp32 b)) v := by
  obtain ⟨i0, i1, i2, i3⟩ := pmag32_in hp
  have hF := fun W => rfrom_any (pmag32 b) W i0 (by omega)
  have hN := fun W ao n cap d (h : Row W ao n cap d) (hd : Dig d n) (hn : n ≤ 40000) => rnorm_any (pneg32 b) ao n cap d (pexp32 b) W h hd hn (by omega) (by omega)
  have hP := fun W => refParts32 b W
  generalize pneg32 b = ng at *
  generalize pexp32 b = ex at *
  generalize pmag32 b = mg at *
  rw [hp] at hP
  go_enter Tryd.func85, Tryd.ntmps85
  go_wp2_with fail
  refine (hP _).mono ?_
  rintro r w1 ⟨rfl, rfl⟩
  go_wp2_with fail
  refine (hF _).mono ?_
  rintro r w2 ⟨v, rfl, hA⟩
  obtain ⟨so, sn, sc, d, rfl, hR, hNr, hv⟩ := hA.num
  have hsn : sn ≤ 100 := hA.num.len (k := 100) (by have := P_le (show 3 ≤ 100 by omega); have : P 3 = 1237940039285380274899124224 := rfl; omega)
  have hbw := bel_trans (bel_alloc w _) hA.below
  go_wp2_with fail
  refine (hN _ _ _ _ _ hR hNr.1 (by omega)).mono ?_
  rw [hv]
  rintro r w3 ⟨v, rfl, hD⟩
  obtain ⟨ng', s', m', e', rfl, hyy, hA2⟩ := id hD
  obtain ⟨so', sn', sc', rfl⟩ := hA2.num.shape
  have q0 := ((bel_trans hA.below hD.below).block w.heap.size (by rw [size1]; omega)).trans (heap_a1 _ _)
  have x0 := blkC q0 0 rfl
  have x1 := blkC q0 1 rfl
  have x2 := blkC q0 2 rfl
  have z0 := blkF q0 0
  have z1 := blkF q0 1
  have z2 := blkF q0 2
  go_wp2
  refine bodyPost_ret (v := .agg #[.bool ng', .slice so' sn' sc', .int .i64 e']) (by simp [results, Tryd.results85, go_sem, x0, x1, x2]) rfl ⟨_, rfl, ?_⟩
  exact dans_res3 (g := w.heap.size) hD hbw (Nat.le_refl _) (Nat.lt_of_lt_of_le (by rw [size1]; omega) hA.below.size) _ _ _
end Go.Proofs.YtheiinclgfgneaaDoor

/-
  Package round: scaled, valueOf, by their contracts.
-/
namespace Go.Proofs.YtheiinclgfgneaaDoor
open Go Go.RowKit Go.Proofs.YtheiinclgfgneaaDoor.M
set_option linter.unusedSimpArgs false
set_option linter.unusedVariables false

theorem low_mod {V l : Int} (h : LowA V l) (h0 : 0 < V) (k : Nat) : decide (l < (k : Int)) = decide (V % 2 ^ k ≠ 0) := by
  obtain ⟨j, rfl, q, hq⟩ := lowA_pos h h0
  by_cases hjk : j < k
  · rw [decide_eq_true (by omega)]
    refine (decide_eq_true ?_).symm
    intro hz
    obtain ⟨d, hd⟩ : ∃ d, k = j + 1 + d := ⟨k - j - 1, by omega⟩
    have h1 : (2 : Int) ^ k ∣ V := Int.dvd_of_emod_eq_zero hz
    obtain ⟨c, hc⟩ := h1
    rw [hq, hd, Int.pow_add, Int.pow_succ] at hc
    have hp := two_pos j
    have e : (2 : Int) ^ j * (2 * q + 1) = 2 ^ j * (2 * (2 ^ d * c)) := by
      rw [Int.mul_comm, hc]
      simp only [Int.mul_assoc]
    have := Int.eq_of_mul_eq_mul_left (by omega) e
    omega
  · rw [decide_eq_false (by omega)]
    refine (decide_eq_false ?_).symm
    intro hz
    apply hz
    obtain ⟨d, hd⟩ : ∃ d, j = k + d := ⟨j - k, by omega⟩
    rw [hq, hd, Int.pow_add, Int.mul_comm, Int.mul_assoc]
    exact Int.mul_emod_right _ _
theorem keep3R {W w' : World} {b g o0 o1 o2 : Nat} {x y z : Value} (h : W.cell? ⟨b, o0, none⟩ = some x ∧ W.cell? ⟨b, o1, none⟩ = some y ∧ W.cell? ⟨b, o2, none⟩ = some z) (hw : Wr g W w') (hg : b ≠ g) :
    w'.cell? ⟨b, o0, none⟩ = some x ∧ w'.cell? ⟨b, o1, none⟩ = some y ∧ w'.cell? ⟨b, o2, none⟩ = some z :=
  ⟨(hw.cell (World.block_lt_of_cell? W _ h.1) hg).trans h.1, (hw.cell (World.block_lt_of_cell? W _ h.2.1) hg).trans h.2.1, (hw.cell (World.block_lt_of_cell? W _ h.2.2) hg).trans h.2.2⟩
theorem wr5 (W : World) (g : Nat) (a b c d e : Value) : Wr g W (((((W.setCell ⟨g, 0, none⟩ a).setCell ⟨g, 1, none⟩ b).setCell ⟨g, 2, none⟩ c).setCell ⟨g, 3, none⟩ d).setCell ⟨g, 4, none⟩ e) := (((((Wr.refl g W).setCell 0 a).setCell 1 b).setCell 2 c).setCell 3 d).setCell 4 e
/-- What is cut off a whole number of more than 62 bits. -/
def vK (M : Int) : Nat := blen M - 62
theorem vK_small {M : Int} (h : 0 ≤ M) : 0 ≤ M / 2 ^ vK M ∧ M / 2 ^ vK M < 4611686018427387904 := by
  have hp := two_pos (vK M)
  refine ⟨Int.ediv_nonneg h (by omega), ?_⟩
  have h1 := blen_lt M
  have h2 : (2 : Int) ^ blen M ≤ 2 ^ (62 + vK M) := two_le (by unfold vK; omega)
  have e : (2 : Int) ^ (62 + vK M) = 4611686018427387904 * 2 ^ vK M := by rw [Int.pow_add]; rfl
  exact Int.ediv_lt_of_lt_mul hp (by omega)
theorem blen_nrm {a : Nat → Int} {n : Nat} (na : Nrm a n) : blen (val a n) ≤ 30 * n := by
  cases n with
  | zero => show blen 0 ≤ _; rw [blen_zero]; omega
  | succ m =>
    rw [blen_val na]
    have h : blen (a m) ≤ 30 := blen_le (by show a m < 1073741824; exact (na.1 m (by omega)).2)
    omega
end Go.Proofs.YtheiinclgfgneaaDoor

/-
  Package round: itself, rounded, To, by their contracts.
-/
namespace Go.Proofs.YtheiinclgfgneaaDoor
open Go Go.RowKit Go.Proofs.YtheiinclgfgneaaDoor.M
set_option linter.unusedSimpArgs false
set_option linter.unusedVariables false

end Go.Proofs.YtheiinclgfgneaaDoor

/-
  Package round: quotient, Quot, by their contracts.
-/
namespace Go.Proofs.YtheiinclgfgneaaDoor
open Go Go.RowKit Go.Proofs.YtheiinclgfgneaaDoor.M
set_option linter.unusedSimpArgs false
set_option linter.unusedVariables false

/-- A number times 2^k, as far as it is whole. -/
def scV (A k : Int) : Int := if 0 ≤ k then A * 2 ^ k.toNat else A / 2 ^ (-k).toNat
def scC (A k : Int) : Bool := if 0 ≤ k then false else decide (A % 2 ^ (-k).toNat ≠ 0)
theorem num_len0 {w : World} {so : Option Addr} {sn sc : Nat} {M : Int} (h : Num w (.slice so sn sc) M) : decide (M ≠ 0) = decide ((0 : Int) < (sn : Int)) := by
  obtain ⟨ao, n, ca, d, hs, hR, hN, hV⟩ := h
  simp only [Value.slice.injEq] at hs
  obtain ⟨rfl, rfl, rfl⟩ := hs
  by_cases h0 : sn = 0
  · subst h0
    rw [← hV]
    rfl
  · have := val_pos hN (by omega)
    rw [decide_eq_true (by omega), decide_eq_true (by omega)]
/-- The bits that a quotient's dividend is brought to. -/
def qK (A B : Int) : Int := 62 + (blen B : Int) - (blen A : Int)
theorem qK_small {A B : Int} (hA : 0 ≤ A) (hB : 0 < B) : 0 ≤ scV A (qK A B) ∧ scV A (qK A B) < B * 9223372036854775808 ∧ 0 ≤ scV A (qK A B) / B ∧ scV A (qK A B) / B < 9223372036854775808 := by
  have b1 := blen_lt A
  have b2 := blen_pos hB
  have hs : 0 ≤ scV A (qK A B) ∧ scV A (qK A B) < 2 ^ (62 + blen B) := by
    unfold scV qK
    by_cases h : 0 ≤ 62 + (blen B : Int) - (blen A : Int)
    · rw [if_pos h]
      have hp := two_pos (62 + (blen B : Int) - (blen A : Int)).toNat
      refine ⟨Int.mul_nonneg hA (by omega), ?_⟩
      have e : (2 : Int) ^ (62 + blen B) = 2 ^ blen A * 2 ^ (62 + (blen B : Int) - (blen A : Int)).toNat := by rw [← Int.pow_add]; congr 1; omega
      rw [e]
      exact Int.mul_lt_mul_of_pos_right b1 hp
    · rw [if_neg h]
      have hp := two_pos (-(62 + (blen B : Int) - (blen A : Int))).toNat
      refine ⟨Int.ediv_nonneg hA (by omega), ?_⟩
      apply Int.ediv_lt_of_lt_mul hp
      rw [← Int.pow_add]
      rw [show 62 + blen B + (-(62 + (blen B : Int) - (blen A : Int))).toNat = blen A by omega]
      exact b1
  have e2 : (2 : Int) ^ (62 + blen B) = 2 ^ (blen B - 1) * 9223372036854775808 := by
    rw [show (9223372036854775808 : Int) = 2 ^ 63 by decide, ← Int.pow_add]; congr 1; omega
  have h3 : (2 : Int) ^ (blen B - 1) * 9223372036854775808 ≤ B * 9223372036854775808 := Int.mul_le_mul_of_nonneg_right b2.2 (by decide)
  refine ⟨hs.1, by omega, Int.ediv_nonneg hs.1 (by omega), ?_⟩
  apply Int.ediv_lt_of_lt_mul hB
  rw [Int.mul_comm]
  omega
theorem cells4_set {a b g o : Nat} {v : Value} {x0 x1 x2 x3 : Value} {W : World} (ha : a ≠ g) (hb : b ≠ g) (h : W.cell? ⟨a, 0, none⟩ = some x0 ∧ W.cell? ⟨a, 2, none⟩ = some x1 ∧ W.cell? ⟨b, 0, none⟩ = some x2 ∧ W.cell? ⟨b, 2, none⟩ = some x3) :
    (W.setCell ⟨g, o, none⟩ v).cell? ⟨a, 0, none⟩ = some x0 ∧ (W.setCell ⟨g, o, none⟩ v).cell? ⟨a, 2, none⟩ = some x1 ∧ (W.setCell ⟨g, o, none⟩ v).cell? ⟨b, 0, none⟩ = some x2 ∧ (W.setCell ⟨g, o, none⟩ v).cell? ⟨b, 2, none⟩ = some x3 := by
  have hw : Wr g W (W.setCell ⟨g, o, none⟩ v) := (Wr.refl g W).setCell o v
  obtain ⟨a0, a1, a2, a3⟩ := h
  exact ⟨(hw.cell (World.block_lt_of_cell? W _ a0) ha).trans a0, (hw.cell (World.block_lt_of_cell? W _ a1) ha).trans a1, (hw.cell (World.block_lt_of_cell? W _ a2) hb).trans a2, (hw.cell (World.block_lt_of_cell? W _ a3) hb).trans a3⟩
theorem cells4_drew {a b : Nat} {x0 x1 x2 x3 : Value} {W : World} (h : W.cell? ⟨a, 0, none⟩ = some x0 ∧ W.cell? ⟨a, 2, none⟩ = some x1 ∧ W.cell? ⟨b, 0, none⟩ = some x2 ∧ W.cell? ⟨b, 2, none⟩ = some x3) :
    W.drew.cell? ⟨a, 0, none⟩ = some x0 ∧ W.drew.cell? ⟨a, 2, none⟩ = some x1 ∧ W.drew.cell? ⟨b, 0, none⟩ = some x2 ∧ W.drew.cell? ⟨b, 2, none⟩ = some x3 := h
theorem cells6_alloc {p B : Nat} {x0 x1 x2 x3 x4 x5 : Value} {W : World} (o : Obj) (h : p < B ∧ B ≤ W.heap.size ∧ W.cell? ⟨p, 0, none⟩ = some x0 ∧ W.cell? ⟨p, 1, none⟩ = some x1 ∧ W.cell? ⟨p, 2, none⟩ = some x2 ∧ W.cell? ⟨p, 3, none⟩ = some x3 ∧ W.cell? ⟨p, 4, none⟩ = some x4 ∧ W.cell? ⟨p, 5, none⟩ = some x5) :
    p < B ∧ B ≤ (W.alloc o).heap.size ∧ (W.alloc o).cell? ⟨p, 0, none⟩ = some x0 ∧ (W.alloc o).cell? ⟨p, 1, none⟩ = some x1 ∧ (W.alloc o).cell? ⟨p, 2, none⟩ = some x2 ∧ (W.alloc o).cell? ⟨p, 3, none⟩ = some x3 ∧ (W.alloc o).cell? ⟨p, 4, none⟩ = some x4 ∧ (W.alloc o).cell? ⟨p, 5, none⟩ = some x5 := by
  have hb := bel_alloc W o
  obtain ⟨h1, h2, a0, a1, a2, a3, a4, a5⟩ := h
  exact ⟨h1, Nat.le_trans h2 hb.size, cell_keeps a0 hb, cell_keeps a1 hb, cell_keeps a2 hb, cell_keeps a3 hb, cell_keeps a4 hb, cell_keeps a5 hb⟩
theorem cells6_set {p B g o : Nat} {v : Value} {x0 x1 x2 x3 x4 x5 : Value} {W : World} (hg : B ≤ g) (h : p < B ∧ B ≤ W.heap.size ∧ W.cell? ⟨p, 0, none⟩ = some x0 ∧ W.cell? ⟨p, 1, none⟩ = some x1 ∧ W.cell? ⟨p, 2, none⟩ = some x2 ∧ W.cell? ⟨p, 3, none⟩ = some x3 ∧ W.cell? ⟨p, 4, none⟩ = some x4 ∧ W.cell? ⟨p, 5, none⟩ = some x5) :
    p < B ∧ B ≤ (W.setCell ⟨g, o, none⟩ v).heap.size ∧ (W.setCell ⟨g, o, none⟩ v).cell? ⟨p, 0, none⟩ = some x0 ∧ (W.setCell ⟨g, o, none⟩ v).cell? ⟨p, 1, none⟩ = some x1 ∧ (W.setCell ⟨g, o, none⟩ v).cell? ⟨p, 2, none⟩ = some x2 ∧ (W.setCell ⟨g, o, none⟩ v).cell? ⟨p, 3, none⟩ = some x3 ∧ (W.setCell ⟨g, o, none⟩ v).cell? ⟨p, 4, none⟩ = some x4 ∧ (W.setCell ⟨g, o, none⟩ v).cell? ⟨p, 5, none⟩ = some x5 := by
  have hw : Wr g W (W.setCell ⟨g, o, none⟩ v) := (Wr.refl g W).setCell o v
  obtain ⟨h1, h2, a0, a1, a2, a3, a4, a5⟩ := h
  have hp : p < W.heap.size := by omega
  have hne : p ≠ g := by omega
  exact ⟨h1, Nat.le_trans h2 hw.size, (hw.cell hp hne).trans a0, (hw.cell hp hne).trans a1, (hw.cell hp hne).trans a2, (hw.cell hp hne).trans a3, (hw.cell hp hne).trans a4, (hw.cell hp hne).trans a5⟩
end Go.Proofs.YtheiinclgfgneaaDoor

/-
  Package round: quotient, by its contract. (Written by tools/r_quot2.py.)
-/
namespace Go.Proofs.YtheiinclgfgneaaDoor
open Go Go.RowKit Go.Proofs.YtheiinclgfgneaaDoor.M
set_option linter.unusedSimpArgs false
set_option linter.unusedVariables false

end Go.Proofs.YtheiinclgfgneaaDoor

/-
  Package round: Quot, by its contract.
-/
namespace Go.Proofs.YtheiinclgfgneaaDoor
open Go Go.RowKit Go.Proofs.YtheiinclgfgneaaDoor.M
set_option linter.unusedSimpArgs false
set_option linter.unusedVariables false

/-- What Quot answers at numbers that are valid, the second not 0. -/
def qR64 (way : Int) (a b : NumR) : Int × Bool := r64 way (a.ng != b.ng) false (scV (val a.d a.n) (qK (val a.d a.n) (val b.d b.n)) / val b.d b.n).toNat (a.e - b.e - qK (val a.d a.n) (val b.d b.n)) (scC (val a.d a.n) (qK (val a.d a.n) (val b.d b.n)) || decide (scV (val a.d a.n) (qK (val a.d a.n) (val b.d b.n)) % val b.d b.n ≠ 0))
end Go.Proofs.YtheiinclgfgneaaDoor

/-
  Package round: sums to the nearest, by their contracts.
-/
namespace Go.Proofs.YtheiinclgfgneaaDoor
open Go Go.RowKit Go.Proofs.YtheiinclgfgneaaDoor.M
set_option linter.unusedSimpArgs false
set_option linter.unusedVariables false

end Go.Proofs.YtheiinclgfgneaaDoor

/-
  Floats made of patterns; 'alive' of plumblaw1: it answers true, in every world that holds the two layouts.
-/
namespace Go.Proofs.YtheiinclgfgneaaDoor
open Go Go.RowKit Go.Proofs.YtheiinclgfgneaaDoor.M
set_option linter.unusedSimpArgs false
set_option linter.unusedVariables false

theorem run_from64 (n : Int) (w : World) : (callFunc 41 #[.int .u64 n]).run Tryd.prog w = .ok (.value (.float .f64 n.toNat)) w := by
  rw [run_callFunc_extern Tryd.func41 (by kernel_rfl) (by kernel_rfl) (by kernel_rfl) (e := Extern.MathFloatBits.float64frombits) (by kernel_rfl)]
  rfl
theorem ret_float {k : FloatKind} {a b : Nat} (h : a = b) : Ending.returned (.float k a) = .returned (.float k b) := by rw [h]
theorem bitsFloat (b : Int) (w : World) :
    Calls Tryd.prog 22 #[.int .i64 b] w fun e w' => e = .returned (.float .f64 (wd b)) ∧ w' = w := by
  have hd := run_from64
  go_enter Tryd.func22, Tryd.ntmps22
  go_wp2
  go_ret
  exact ⟨ret_float (by rw [IntKind.wrap_u64]; rfl), rfl⟩
end Go.Proofs.YtheiinclgfgneaaDoor

/-
  Float32, Of and Of32 of package bits, Told and Told32 of the document's own answer, by contracts.
-/
namespace Go.Proofs.YtheiinclgfgneaaDoor
open Go Go.RowKit Go.Proofs.YtheiinclgfgneaaDoor.M
set_option linter.unusedSimpArgs false
set_option linter.unusedVariables false

def told (b : Int) : Int := if cls b = 4 then 9221120237041090561 else b
def told32 (b : Int) : Int := if cls32 b = 4 then 2143289345 else b
def wd32 (b : Int) : Nat := if in32 b then b.toNat else 2143289345
theorem sSign : Ieee.single.signWeight = 2147483648 := by decide
theorem sInf : Ieee.single.infRung = 2139095040 := by decide
theorem sOk : Ieee.single.binade ≤ Ieee.single.infRung := by decide
theorem cls32_4 {b : Int} (h : in32 b = true) : cls32 b = 4 ↔ 2139095040 < b.toNat % 2147483648 := by
  have hb := of_decide_eq_true h
  unfold cls32; rw [if_neg (by omega)]
  unfold fld32 frc32; repeat' split
  all_goals omega
theorem no64 {b : Int} (hb : rng b) : (FloatKind.f64.format.order (wd b) (wd b) != some .eq) = decide (cls b = 4) := by
  have := same_order hb hb
  unfold bne
  rw [this]; unfold same
  by_cases h : cls b = 4 <;> simp [h]
theorem no32 (b : Int) : (FloatKind.f32.format.order (wd32 b) (wd32 b) != some .eq) = decide (cls32 b = 4) := by
  by_cases hi : in32 b = true
  · have e : wd32 b = b.toNat := by unfold wd32; rw [if_pos hi]
    rw [e]
    by_cases h : cls32 b = 4
    · have hn := order_nan Ieee.single sOk b.toNat b.toNat (.inl (by rw [sSign, sInf]; exact (cls32_4 hi).1 h))
      have hn' : FloatKind.f32.format.order b.toNat b.toNat = none := hn
      rw [hn']; simp [h]
    · have hle : b.toNat % Ieee.single.signWeight ≤ Ieee.single.infRung := by
        rw [sSign, sInf]; exact Nat.le_of_not_lt fun k => h ((cls32_4 hi).2 k)
      have ho := order_all Ieee.single sOk b.toNat b.toNat hle hle
      rw [compare_eq rfl] at ho
      have ho' : FloatKind.f32.format.order b.toNat b.toNat = some .eq := ho
      rw [ho']; simp [h]
  · have hn : b < 0 ∨ 4294967296 ≤ b := by simp [in32] at hi; omega
    have e : wd32 b = 2143289345 := by unfold wd32; rw [if_neg hi]
    have h4 : cls32 b = 4 := by unfold cls32; rw [if_pos hn]
    have ho : FloatKind.f32.format.order 2143289345 2143289345 = none := by decide +kernel
    rw [e, ho]; simp [h4]
theorem run_bits64 (n : Nat) (w : World) : (callFunc 56 #[.float .f64 n]).run Tryd.prog w = .ok (.value (.int .u64 n)) w := by
  rw [run_callFunc_extern Tryd.func56 (by kernel_rfl) (by kernel_rfl) (by kernel_rfl) (e := Extern.MathFloatBits.float64bits) (by kernel_rfl)]
  rfl
theorem bitsOf (b : Int) (w : World) (hb : rng b) :
    Calls Tryd.prog 40 #[.float .f64 (wd b)] w fun e w' => e = .returned (.int .i64 (told b)) ∧ w' = w := by
  have hd := run_bits64
  have hn := no64 hb
  have hw : Hid (wrap64 (wd b : Int) = b) := by unfold Hid wrap64 wd; unfold rng at hb; omega
  by_cases h : cls b = 4
  · have hn' : (FloatKind.f64.format.order (wd b) (wd b) != some .eq) = true := by rw [hn]; simp [h]
    clear hn
    go_enter Tryd.func40, Tryd.ntmps40
    go_wp2
    go_ret
    exact ⟨b_ret_int (by simp [told, h]), rfl⟩
  · have hn' : (FloatKind.f64.format.order (wd b) (wd b) != some .eq) = false := by rw [hn]; simp [h]
    clear hn
    go_enter Tryd.func40, Tryd.ntmps40
    go_wp2
    go_ret
    exact ⟨b_ret_int (by rw [hw.out]; simp [told, h]), rfl⟩
end Go.Proofs.YtheiinclgfgneaaDoor

/-
  Package round: sums of constants, by their contracts.
-/
namespace Go.Proofs.YtheiinclgfgneaaDoor
open Go Go.RowKit Go.Proofs.YtheiinclgfgneaaDoor.M
set_option linter.unusedSimpArgs false
set_option linter.unusedVariables false

theorem wd_one : wd 4607182418800017408 = 4607182418800017408 := by decide
theorem wd_two : wd 4611686018427387904 = 4611686018427387904 := by decide
theorem told_two : told 4611686018427387904 = 4611686018427387904 := by decide
theorem wd_one32 : wd32 1065353216 = 1065353216 := by decide
theorem wd_two32 : wd32 1073741824 = 1073741824 := by decide
theorem told_two32 : told32 1073741824 = 1073741824 := by decide
end Go.Proofs.YtheiinclgfgneaaDoor

/-
  plumblaw4.alive, by its contract.
-/
namespace Go.Proofs.YtheiinclgfgneaaDoor
open Go Go.RowKit Go.Proofs.YtheiinclgfgneaaDoor.M
set_option linter.unusedSimpArgs false
set_option linter.unusedVariables false

/-- A small odd number in a list of one. -/
def litR (g : Nat) (x : Int) : NumR := ⟨false, some ⟨g, 0, none⟩, 1, 1, fun _ => x, 0⟩
theorem litR_ok (g : Nat) {x : Int} (h0 : 0 < x) (h1 : x < 1073741824) (ho : x % 2 = 1) : okR (litR g x) = true :=
  decide_eq_true (.inr ⟨Nat.one_pos, ⟨show 1 ≤ 2000 by decide, fun i hi => ⟨show (0 : Int) ≤ x by omega, h1⟩, .inr (show x ≠ 0 by omega)⟩, ho, show (-1048576 : Int) ≤ 0 by decide, show (0 : Int) ≤ 1048576 by decide⟩)
theorem third (g k : Nat) : qR64 0 (litR g 1) (litR k 3) = (4599676419421066581, true) := by
  have e : qR64 0 (litR g 1) (litR k 3) = qR64 0 (litR 0 1) (litR 0 3) := rfl
  rw [e]
  decide +kernel
end Go.Proofs.YtheiinclgfgneaaDoor

/-
  plumblaw4.num, by its contract: a valid number of any one.
-/
namespace Go.Proofs.YtheiinclgfgneaaDoor
open Go Go.RowKit Go.Proofs.YtheiinclgfgneaaDoor.M
set_option linter.unusedSimpArgs false
set_option linter.unusedVariables false

end Go.Proofs.YtheiinclgfgneaaDoor

/-
  plumblaw4.order, by its contract.
-/
namespace Go.Proofs.YtheiinclgfgneaaDoor
open Go Go.RowKit Go.Proofs.YtheiinclgfgneaaDoor.M
set_option linter.unusedSimpArgs false
set_option linter.unusedVariables false

/-- A pattern's value, in the scale. -/
def patV (b : Int) : Int := sg (pneg b) (pmag b) * pw (pexp b)
/-- How a number stands to a pattern. -/
def ordP (A b : Int) : Int := if pok b = true then ord A (patV b) else if b < 0 then 1 else -1
theorem patV_dok {b : Int} (h : pok b = true) : Dok (patV b) := by
  obtain ⟨i0, i1, i2, i3⟩ := pmag_in h
  exact dok_small i0 (by omega) i2 i3
end Go.Proofs.YtheiinclgfgneaaDoor
