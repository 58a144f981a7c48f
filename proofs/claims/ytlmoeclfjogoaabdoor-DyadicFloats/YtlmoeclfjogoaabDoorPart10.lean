/-
  Parts of the proof, one behind another.
-/
import Derived.Test.YtlmoeclfjogoaabDoorRows
import Derived.Test.YtlmoeclfjogoaabDoorPart2
import Derived.ProofKit
import Derived.OpenShut
import Derived.ChangeOld
import Derived.Test.YtlmoeclfjogoaabDoorPart5
import Derived.LaidMore
import Derived.Deep.Strs
import Derived.Lib.LaidTab
import Derived.MakeChecks
import Derived.Stop.LaidErr
import Derived.Test.YtlmoeclfjogoaabDoorPart7
import Derived.Test.YtlmoeclfjogoaabDoorPart8
import Derived.Test.YtlmoeclfjogoaabDoorPart9
/-
  What a row gives of its arguments: a slice of ints that came in, as the walks want it.
-/
namespace Go.Proofs.YtlmoeclfjogoaabDoor
open Go Go.ChangeShapes Go.WideShapes Go.ChangeAt Go.RowKit Go.Proofs.YtlmoeclfjogoaabDoor.M
set_option linter.unusedSimpArgs false
set_option linter.unusedVariables false

theorem rng_of {x : Int} (h : (Lit.int .i64 x).wf = true) : rng x := by
  simp [Lit.wf, IntKind.min, IntKind.max, IntKind.signed, IntKind.bits] at h
  unfold rng; omega
theorem row_of {H : Type} {enc : TypeId × Value → H} {W : World} {a : Option Addr} {len cap : Nat} {d : DataW H} {p : List MemPlace}
    (h0 : DataW.Trod enc Tryd.prog W 0 (fun _ => true) true 22 (.slice a len cap) d p) : ∃ z : Nat → Int, Row W a len cap z ∧ ∀ i, i < len → rng (z i) := by
  obtain ⟨fuel, hf⟩ := h0
  rcases open_ints Tryd.underlying22 Tryd.underlying3 (by kernel_rfl) hf with ⟨hcs, _⟩ | ⟨x, l, c, zs, hcs, _, hl, hm, hz, _, hcell, hwz⟩
  · simp [Value.cells] at hcs
    obtain ⟨rfl, rfl, rfl⟩ := hcs
    exact ⟨fun _ => 0, Row.nil _ _, fun i hi => by omega⟩
  · simp [Value.cells] at hcs
    obtain ⟨rfl, rfl, rfl⟩ := hcs
    have hz' : zs.length = cap := by simpa using hz
    refine ⟨fun i => zs.getD i 0, ⟨hl, by unfold maxLen at hm; exact hm, (fun e => by cases e), fun hn => ?_⟩, fun i hi => ?_⟩
    · obtain ⟨b, off, spot⟩ := x
      have hc := hcell 0 (by omega)
      have hspot : spot = none := by simpa [Addr.add] using World.cell?_spot hc
      subst hspot
      refine ⟨b, off, rfl, World.block_lt_of_cell? W _ (by simpa [Addr.add] using hc), fun i hi => ?_⟩
      rw [← add_none]; exact hcell i (by omega)
    · refine rng_of (hwz _ ?_)
      simp [List.getD, show i < zs.length by omega]
end Go.Proofs.YtlmoeclfjogoaabDoor

/-
  What a row's list gives: the library's table of trailing zeros.
-/
namespace Go.Proofs.YtlmoeclfjogoaabDoor
open Go Go.RowKit Go.ChangeShapes Go.Proofs.YtlmoeclfjogoaabDoor.M
set_option linter.unusedSimpArgs false
set_option linter.unusedVariables false

theorem gTab : Tryd.prog.globalNamed "math/bits.deBruijn64tab" = some 1 := by kernel_rfl
theorem gTabType : (Tryd.prog.globals[(1 : Nat)]?).map (·.type) = some 91 := by kernel_rfl
theorem cellsTab : Tryd.prog.cellsOf 91 = 64 := by kernel_rfl
theorem cellsByte : Tryd.prog.cellsOf 5 = 1 := by kernel_rfl
def tabInts : List Int := Lib.deBruijn64tab.map Int.ofNat
theorem tab_get : ∀ j, j < 64 → tabInts.getD j 0 = ((Lib.deBruijn64tab.getD j 0 : Nat) : Int) := by decide +kernel
theorem tab_of {W : World} (h : laidMetH Tryd.prog [("math/bits.deBruijn32tab", Rows.laid_math_bits_deBruijn32tab), ("math/bits.deBruijn64tab", Rows.laid_math_bits_deBruijn64tab)] W) : Tab W := by
  rw [MakeChecks.laidMetH_plain _ _ _ (by kernel_rfl)] at h
  have h' : laidMet Tryd.prog (("math/bits.deBruijn64tab", Lib.tabData .u8 tabInts) :: []) W := h.tail
  have t := Lib.tabIs_of_head gTab gTabType Tryd.underlying91 Tryd.underlying5 cellsByte cellsTab h'
  intro j hj
  rw [← tab_get j hj]
  exact t.cell gTab j (by exact hj)
end Go.Proofs.YtlmoeclfjogoaabDoor

/-
  What a row's list of package-level variables gives: the layouts' cells, and the cells of the library's table for b_trailing zeros.
-/
namespace Go.Proofs.YtlmoeclfjogoaabDoor
open Go Go.RowKit Go.ChangeShapes Go.Proofs.YtlmoeclfjogoaabDoor.M
set_option linter.unusedSimpArgs false
set_option linter.unusedVariables false

theorem b_rng_of {a : Int} (h : (Lit.int .i64 a).wf = true) : rng a := by
  simp [Lit.wf, IntKind.min, IntKind.max, IntKind.signed, IntKind.bits] at h
  unfold rng; omega
theorem cellsInt : Tryd.prog.cellsOf 3 = 1 := by kernel_rfl
theorem cellsLayout : Tryd.prog.cellsOf 78 = 3 := by kernel_rfl
theorem g64 : Tryd.prog.globalNamed "plumb/bits.binary64" = some 0 := by kernel_rfl
theorem g64Type : (Tryd.prog.globals[(0 : Nat)]?).map (·.type) = some 78 := by kernel_rfl
set_option maxRecDepth 100000 in
/-- A layout's three cells, off its reading. -/
theorem three {W : World} {name : String} {g : Nat} {a b c : Int} {rest : List (String × DataW Unit)} (hg : Tryd.prog.globalNamed name = some g) (hty : (Tryd.prog.globals[g]?).map (·.type) = some 78)
    (h : laidMet Tryd.prog ((name, .agg [.lit (.int .i64 a), .lit (.int .i64 b), .lit (.int .i64 c)]) :: rest) W) :
    W.cell? ⟨g, 0, none⟩ = some (.int .i64 a) ∧ W.cell? ⟨g, 1, none⟩ = some (.int .i64 b) ∧ W.cell? ⟨g, 2, none⟩ = some (.int .i64 c) := by
  obtain ⟨ps, ⟨g', t', cs, fuel, p, q, hg', ht', hvar, hd, _, _⟩, _⟩ := h
  obtain rfl := Option.some.inj (hg.symm.trans hg')
  obtain rfl := Option.some.inj (hty.symm.trans ht')
  obtain ⟨y0, y1, y2, n, hx, hl, h0, h1, h2⟩ := Go.Deep.trod_struct3 Tryd.underlying78 hd
  obtain ⟨k0, e0, f0, _⟩ := DataW.trod_int Tryd.underlying3 h0
  obtain ⟨k1, e1, f1, _⟩ := DataW.trod_int Tryd.underlying3 h1
  obtain ⟨k2, e2, f2, _⟩ := DataW.trod_int Tryd.underlying3 h2
  rw [f0, f1, f2] at hx
  simp only [Prod.mk.injEq, DataW.agg.injEq, List.cons.injEq, DataW.lit.injEq, Lit.int.injEq, true_and, and_true] at hx
  obtain ⟨⟨rfl, rfl, rfl⟩, _⟩ := hx
  rw [cellsLayout] at hl
  rw [cellsInt] at e0 e1 e2
  have v := fun i => World.var?_cell hg hvar i
  obtain ⟨l⟩ := cs
  simp only at hl e0 e1 e2
  match l, hl with
  | [c0, c1, c2], _ =>
    simp at e0 e1 e2
    subst e0 e1 e2
    exact ⟨by simpa using v 0, by simpa using v 1, by simpa using v 2⟩

end Go.Proofs.YtlmoeclfjogoaabDoor

/-
  What a row gives: a number that came in, as the walks want it; the library's table and the layout of binary64.
-/
namespace Go.Proofs.YtlmoeclfjogoaabDoor
open Go Go.ChangeShapes Go.WideShapes Go.ChangeAt Go.RowKit Go.Proofs.YtlmoeclfjogoaabDoor.M
set_option linter.unusedSimpArgs false
set_option linter.unusedVariables false

theorem cellsNum : Tryd.prog.cellsOf 24 = 3 := by kernel_rfl
theorem cellsB1 : Tryd.prog.cellsOf 4 = 1 := by kernel_rfl
theorem cellsS1 : Tryd.prog.cellsOf 22 = 1 := by kernel_rfl
theorem cellsI1 : Tryd.prog.cellsOf 3 = 1 := by kernel_rfl
set_option maxRecDepth 100000 in
/-- A number's cells, off its reading. -/
theorem num_cells {H : Type} {enc : TypeId × Value → H} {W : World} {n : Nat} {cs : List Value} {x : DataW H × List MemPlace}
    (h : DataW.trod enc Tryd.prog W 0 (fun _ => true) true n 24 cs = some x) :
    ∃ r : NumR, cs = [.bool r.ng, .slice r.ao r.n r.cap, .int .i64 r.e] ∧ Row W r.ao r.n r.cap r.d ∧ rng r.e := by
  obtain ⟨xs, m, _, rfl, hl, hlen, hf⟩ := DataW.trod_struct Tryd.underlying24 h
  rw [cellsNum] at hl
  match cs, hl with
  | [v0, v1, v2], _ =>
    match xs, hlen with
    | [y0, y1, y2], _ =>
      have f0 : DataW.trod enc Tryd.prog W 0 (fun _ => true) true m 4 (([v0, v1, v2].drop 0).take (Tryd.prog.cellsOf 4)) = some y0 := hf 0 _ rfl
      have f1 : DataW.trod enc Tryd.prog W 0 (fun _ => true) true m 22 (([v0, v1, v2].drop 1).take (Tryd.prog.cellsOf 22)) = some y1 := hf 1 _ rfl
      have f2 : DataW.trod enc Tryd.prog W 0 (fun _ => true) true m 3 (([v0, v1, v2].drop 2).take (Tryd.prog.cellsOf 3)) = some y2 := hf 2 _ rfl
      rw [cellsB1] at f0
      rw [cellsS1] at f1
      rw [cellsI1] at f2
      simp only [List.drop_zero, List.drop_succ_cons, List.take_succ_cons, List.take_zero] at f0 f1 f2
      obtain ⟨k0, e0, _, w0⟩ := DataW.trod_bool Tryd.underlying4 f0
      obtain ⟨k2, e2, _, w2⟩ := DataW.trod_int Tryd.underlying3 f2
      simp at e0 e2
      subst e0 e2
      rcases open_ints Tryd.underlying22 Tryd.underlying3 (by kernel_rfl) f1 with ⟨hcs, _⟩ | ⟨p, l, c, zs, hcs, _, hl', hm', hz, hx, hcell, hwz⟩
      · simp at hcs
        subst hcs
        exact ⟨⟨k0, none, 0, 0, fun _ => 0, k2⟩, rfl, Row.nil _ _, rng_of w2⟩
      · simp at hcs
        subst hcs
        obtain ⟨z, hR, _⟩ := row_of (enc := enc) (W := W) (a := some p) (len := l) (cap := c) (d := y1.1) (p := y1.2) ⟨m, by simpa [Value.cells] using f1⟩
        exact ⟨⟨k0, some p, l, c, z, k2⟩, rfl, hR, rng_of w2⟩
set_option maxRecDepth 100000 in
theorem num_of {H : Type} {enc : TypeId × Value → H} {W : World} {base : Nat} {v : Value} {d : DataW H} {p : List MemPlace} (hv : Value.okWide Tryd.prog W .any base 24 v)
    (h : DataW.Trod enc Tryd.prog W 0 (fun _ => true) true 24 v d p) : ∃ x : NumR, v = x.v ∧ Row W x.ao x.n x.cap x.d ∧ rng x.e := by
  obtain ⟨cs, rfl, hc⟩ := okWide_struct Tryd.underlying24 hv
  obtain ⟨fuel, hf⟩ := h
  obtain ⟨r, hr, h1, h2⟩ := num_cells hf
  refine ⟨r, ?_, h1, h2⟩
  show Value.agg cs = .agg #[.bool r.ng, .slice r.ao r.n r.cap, .int .i64 r.e]
  congr 1
  have : cs.toList = [.bool r.ng, .slice r.ao r.n r.cap, .int .i64 r.e] := by simpa [Value.cells] using hr
  exact Array.toList_inj.1 this
/-- What the laws want of the package's variables. -/
structure Hold (w : World) : Prop where
  lay : Lay64 w
  tab : Tab w
theorem Hold.keeps {w w' : World} (h : Hold w) (hb : Below w.heap.size w w') : Hold w' := ⟨h.lay.keeps hb, h.tab.keeps hb⟩
theorem hold_of {W : World} (h : laidMetH Tryd.prog [("math/bits.deBruijn32tab", Rows.laid_math_bits_deBruijn32tab), ("math/bits.deBruijn64tab", Rows.laid_math_bits_deBruijn64tab), ("plumb/bits.binary64", Rows.laid_plumb_bits_binary64)] W) : Hold W := by
  rw [MakeChecks.laidMetH_plain _ _ _ (by kernel_rfl)] at h
  have h' : laidMet Tryd.prog (("math/bits.deBruijn64tab", Lib.tabData .u8 tabInts) :: [("plumb/bits.binary64", Rows.laid_plumb_bits_binary64)]) W := h.tail
  have t := Lib.tabIs_of_head gTab gTabType Tryd.underlying91 Tryd.underlying5 cellsByte cellsTab h'
  obtain ⟨a0, a1, a2⟩ := three g64 g64Type h'.tail
  refine ⟨⟨a0, a1, a2⟩, fun j hj => ?_⟩
  rw [← tab_get j hj]
  exact t.cell gTab j (by exact hj)
end Go.Proofs.YtlmoeclfjogoaabDoor

/-
  Package dyadic's calls on numbers that are not too great: what they answer is told outright.
-/
namespace Go.Proofs.YtlmoeclfjogoaabDoor
open Go Go.RowKit Go.Proofs.YtlmoeclfjogoaabDoor.M
set_option linter.unusedSimpArgs false
set_option linter.unusedVariables false

theorem dans_shape {w w' : World} {V : Int} {v : Value} (h : DAns w w' V v) : ∃ ng so sn sc e, v = .agg #[.bool ng, .slice so sn sc, .int .i64 e] := by
  obtain ⟨ng, s, m, e, h1, _, hA⟩ := h
  obtain ⟨so, sn, sc, rfl⟩ := hA.num.shape
  exact ⟨_, _, _, _, _, h1⟩
theorem add_B {w : World} {x y : Value} {A B : Int} {k : Nat} (hx : DNum w x A) (hy : DNum w y B) (bA : Bd k A) (bB : Bd k B) (hk : k ≤ 28000) (hT : Tab w) :
    Calls Tryd.prog 12 #[x, y] w fun r w' => ∃ v, r = .returned (.tuple #[v, .int .i64 0]) ∧ DAns w w' (A + B) v := by
  refine (add_D hx hy (bA.ok (by omega)) (bB.ok (by omega)) hT).mono ?_
  rintro r w' ⟨v, er, rfl, hF⟩
  obtain ⟨rfl, hD⟩ := hF.yes ((bA.add bB (by omega)).ok (by omega))
  exact ⟨v, rfl, hD⟩
theorem sub_B {w : World} {x y : Value} {A B : Int} {k : Nat} (hx : DNum w x A) (hy : DNum w y B) (bA : Bd k A) (bB : Bd k B) (hk : k ≤ 28000) (hT : Tab w) :
    Calls Tryd.prog 10 #[x, y] w fun r w' => ∃ v, r = .returned (.tuple #[v, .int .i64 0]) ∧ DAns w w' (A - B) v := by
  refine (sub_D hx hy (bA.ok (by omega)) (bB.ok (by omega)) hT).mono ?_
  rintro r w' ⟨v, er, rfl, hF⟩
  have hb := bA.add bB.neg (by omega)
  rw [← Int.sub_eq_add_neg] at hb
  obtain ⟨rfl, hD⟩ := hF.yes (hb.ok (by omega))
  exact ⟨v, rfl, hD⟩
theorem mul_B {w : World} {x y : Value} {A B : Int} {k : Nat} (hx : DNum w x A) (hy : DNum w y B) (bA : Bd k A) (bB : Bd k B) (hk : k ≤ 14000) (hT : Tab w) :
    Calls Tryd.prog 13 #[x, y] w fun r w' => ∃ v C, r = .returned (.tuple #[v, .int .i64 0]) ∧ DAns w w' C v ∧ C * 2 ^ 4194304 = A * B ∧ Bd (2 * k) C := by
  refine (mul_D hx hy (bA.ok (by omega)) (bB.ok (by omega)) hT).mono ?_
  rintro r w' ⟨v, er, C, rfl, hC, hF⟩
  have hb := bA.mul bB hC (by omega)
  obtain ⟨rfl, hD⟩ := hF.yes (hb.ok (by omega))
  exact ⟨v, C, rfl, hD, hC, hb⟩
theorem num_B (x : NumR) (w : World) (h : Row w x.ao x.n x.cap x.d) (he : rng x.e) :
    Calls Tryd.prog 8 #[x.v] w fun r w' => ∃ v V, r = .returned v ∧ DAns w w' V v ∧ Bd 4000 V := by
  refine (num_any x w h he).mono ?_
  rintro r w' ⟨v, M, e, rfl, hD, h0, h1, e0, e1⟩
  exact ⟨v, _, rfl, hD, bd_num h0 h1 e0 e1⟩
theorem ord_swap (a b : Int) : ord b a = -ord a b := by
  rcases Int.lt_trichotomy a b with h | h | h
  · rw [ord_lt h, ord_gt h]; rfl
  · rw [ord_eq h, ord_eq h.symm]; rfl
  · rw [ord_gt h, ord_lt h]
theorem ord_sub (a b : Int) : ord (a - b) 0 = ord a b := by
  rcases Int.lt_trichotomy a b with h | h | h
  · rw [ord_lt h, ord_lt (by omega)]
  · rw [ord_eq h, ord_eq (by omega)]
  · rw [ord_gt h, ord_gt (by omega)]
theorem ord_add (a b c : Int) : ord (a + c) (b + c) = ord a b := by
  rcases Int.lt_trichotomy a b with h | h | h
  · rw [ord_lt h, ord_lt (by omega)]
  · rw [ord_eq h, ord_eq (by omega)]
  · rw [ord_gt h, ord_gt (by omega)]
theorem ord_mul (a b c : Int) : ord (a * c) (b * c) = ord a b * ord c 0 := by
  rcases Int.lt_trichotomy c 0 with h | h | h
  · have e : ∀ x : Int, x * c = -(x * -c) := fun x => by rw [Int.mul_neg, Int.neg_neg]
    rw [e a, e b, ord_neg, ord_scale (show 0 < -c by omega), ord_lt h]; omega
  · rw [h, Int.mul_zero, Int.mul_zero, ord_eq rfl, Int.mul_zero]
  · rw [ord_scale h, ord_gt h, Int.mul_one]
theorem ord_zero (a b : Int) : decide (a = b) = (ord a b == 0) := by
  rcases Int.lt_trichotomy a b with h | h | h
  · rw [ord_lt h, decide_eq_false (by omega)]; rfl
  · rw [ord_eq h, decide_eq_true h]; rfl
  · rw [ord_gt h, decide_eq_false (by omega)]; rfl
theorem ord_trans (a b c : Int) : 0 < ord a b ∨ 0 < ord b c ∨ ord a c ≤ 0 := by
  by_cases h1 : b < a
  · exact .inl (by rw [ord_gt h1]; decide)
  · by_cases h2 : c < b
    · exact .inr (.inl (by rw [ord_gt h2]; decide))
    · refine .inr (.inr ?_)
      by_cases h3 : a < c
      · rw [ord_lt h3]; decide
      · rw [ord_eq (by omega)]; decide
theorem bd_pw {k : Int} (h0 : -5000 < k) (h1 : k < 5000) : Bd 5001 (pw k) := by
  have e : pw k = pw (-((5001 : Nat) : Int)) * 2 ^ (k + 5001).toNat := by
    rw [← pw_add (by omega)]; congr 1; omega
  have hp := two_pos (k + 5001).toNat
  have hlt : (2 : Int) ^ (k + 5001).toNat < 2 ^ (2 * 5001) := two_lt (by omega)
  refine ⟨2 ^ (k + 5001).toNat, by rw [e, Int.mul_comm], ?_, hlt⟩
  have := two_pos (2 * 5001)
  omega
theorem scale_B {w : World} {x : Value} {A : Int} {K : Nat} (hx : DNum w x A) (bA : Bd K A) (hK : K ≤ 11000) (hK1 : 5001 ≤ K) (k : Int) (h0 : -5000 < k) (h1 : k < 5000) (hT : Tab w) :
    Calls Tryd.prog 16 #[x, .int .i64 k] w fun r w' => ∃ v C, r = .returned (.tuple #[v, .int .i64 0]) ∧ DAns w w' C v ∧ C * 2 ^ 4194304 = A * pw k ∧ Bd (2 * K) C := by
  refine (scale_D hx (bA.ok (by omega)) k (by omega) hT).mono ?_
  rintro r w' ⟨v, er, C, rfl, hC, hF⟩
  have hb := bA.mul ((bd_pw h0 h1).up hK1 (by omega)) hC (by omega)
  obtain ⟨rfl, hD⟩ := hF.yes (hb.ok (by omega))
  exact ⟨v, C, rfl, hD, hC, hb⟩
theorem make_B {w : World} {s : Value} (hs : Num w s 1) (k : Int) (h0 : -5000 < k) (h1 : k < 5000) (hT : Tab w) :
    Calls Tryd.prog 17 #[.bool false, s, .int .i64 k] w fun r w' => ∃ v, r = .returned (.tuple #[v, .int .i64 0]) ∧ DAns w w' (pw k) v := by
  have e : mkV false 1 k = pw k := by
    unfold mkV
    rw [if_neg (by decide), if_neg (by omega)]
    show 1 * pw k = pw k
    rw [Int.one_mul]
  have := make_D false k hs (by have := P2000_big2; omega) hT
  rw [e] at this
  refine this.mono ?_
  rintro r w' ⟨v, er, rfl, hF⟩
  obtain ⟨rfl, hD⟩ := hF.yes ((bd_pw h0 h1).ok (by omega))
  exact ⟨v, rfl, hD⟩
theorem scale_back {A C B k : Int} (h0 : -5000 < k) (h1 : k < 5000) (hC : C * 2 ^ 4194304 = A * pw k) (hB : B * 2 ^ 4194304 = C * pw (-k)) : B = A := by
  have e : pw k * pw (-k) = 2 ^ 4194304 * 2 ^ 4194304 := by
    rw [pw_mul (by omega) (by omega), show k + -k = 0 by omega]
    congr 1
  refine scale_inj (scale_inj ?_)
  rw [hB, Int.mul_assoc, Int.mul_comm (pw (-k)), ← Int.mul_assoc, hC, Int.mul_assoc, e, Int.mul_assoc]
end Go.Proofs.YtlmoeclfjogoaabDoor

/-
  Plain mathematics: which numbers in their one form are floats. No Go text in sight.
-/
namespace Go.Proofs.YtlmoeclfjogoaabDoor
open Go Go.RowKit Go.Proofs.YtlmoeclfjogoaabDoor.M
set_option linter.unusedSimpArgs false
set_option linter.unusedVariables false

theorem jz_low {M : Int} (h0 : 0 < M) (h : M < 9223372036854775808) {l : Nat} (hl : IsLow M l) : jz M = l ∧ jo M = M / 2 ^ l := by
  obtain ⟨m, e1, _, _⟩ := jz_spec h0 h
  have : IsLow M (jz M) := ⟨m, by rw [Int.mul_comm]; exact e1⟩
  have e := low_unique this hl
  exact ⟨e, by unfold jo; rw [e]⟩
theorem jz_odd {m : Int} (h0 : 0 < m) (h : m < 9223372036854775808) (ho : m % 2 = 1) : jz m = 0 ∧ jo m = m := by
  obtain ⟨a, b⟩ := jz_low h0 h (l := 0) ⟨m / 2, by rw [Int.pow_zero]; omega⟩
  exact ⟨a, by rw [b, Int.pow_zero, Int.ediv_one]⟩
/-- The odd form of a number joins as the number does. -/
theorem j_odd {M e : Int} {l : Nat} (ng : Bool) (h0 : 0 < M) (h : M < 9223372036854775808) (hl : IsLow M l) :
    jk 52 2047 (-1074) (M / 2 ^ l) (e + l) = jk 52 2047 (-1074) M e ∧ jp ng (M / 2 ^ l) (e + l) = jp ng M e := by
  obtain ⟨c1, c2, c3⟩ := isLow_odd hl h0
  have hle : M / 2 ^ l ≤ M := Int.ediv_le_self _ (by omega)
  obtain ⟨z1, o1⟩ := jz_low h0 h hl
  obtain ⟨z2, o2⟩ := jz_odd c1 (by omega) c2
  have ho : jo (M / 2 ^ l) = jo M := by rw [o2, o1]
  have hj : jl (M / 2 ^ l) = jl M := by unfold jl; rw [ho]
  have he : e + (l : Int) + ((jz (M / 2 ^ l) : Nat) : Int) = e + (jz M : Nat) := by rw [z2, z1]; simp
  have hsp : jsp 52 (M / 2 ^ l) = jsp 52 M := by unfold jsp; rw [hj]
  have hsh : jsh 52 (-1074) (M / 2 ^ l) (e + l) = jsh 52 (-1074) M e := by unfold jsh; rw [hsp, he]
  have hab : jab 52 (-1074) (M / 2 ^ l) (e + l) = jab 52 (-1074) M e := by unfold jab; rw [hsh, he]
  have hg : jgood 52 2047 (-1074) (M / 2 ^ l) (e + l) = jgood 52 2047 (-1074) M e := by unfold jgood; rw [hsp, he, hab]
  have hk : jk 52 2047 (-1074) (M / 2 ^ l) (e + l) = jk 52 2047 (-1074) M e := by
    unfold jk
    rw [if_neg (by omega), if_neg (by omega), if_neg (by omega), if_neg (by omega), hg]
  have hv : jv 52 2047 (-1074) (M / 2 ^ l) (e + l) = jv 52 2047 (-1074) M e := by
    unfold jv
    rw [if_neg (show ¬ M / 2 ^ l ≤ 0 by omega), if_neg (show ¬ M ≤ 0 by omega), hg, hab, hsh, ho]
  exact ⟨hk, by unfold jp; rw [hk, hv]⟩
/-- What has more bits than a float is none. -/
theorem j_long {m e : Int} (h0 : 0 < m) (h : m < 9223372036854775808) (ho : m % 2 = 1) (hb : 54 ≤ blen m) : jk 52 2047 (-1074) m e = false := by
  obtain ⟨z, o⟩ := jz_odd h0 h ho
  have hl : jl m = blen m := by unfold jl; rw [o]; exact bitLen_eq (by omega) (by omega)
  unfold jk
  rw [if_neg (by omega), if_neg (by omega)]
  unfold jgood jsp
  rw [hl, decide_eq_false (by omega), Bool.false_and]
/-- What lies below the least float is none. -/
theorem j_low {m e : Int} (h0 : 0 < m) (h : m < 9223372036854775808) (ho : m % 2 = 1) (he : e < -1074) : jk 52 2047 (-1074) m e = false := by
  obtain ⟨z, o⟩ := jz_odd h0 h ho
  unfold jk
  rw [if_neg (by omega), if_neg (by omega)]
  unfold jgood
  rw [z, decide_eq_false (p := -1074 ≤ e + ((0 : Nat) : Int)) (by omega), Bool.false_and, Bool.and_false]
/-- A finite pattern's number in its one form. -/
theorem float_form {b : Int} (hb : rng b) (hp : pok b = true) {ng : Bool} {m e : Int} (hy : Dy (sg (pneg b) (pmag b) * pw (pexp b)) ng m e) :
    blen m ≤ 63 ∧ m < 9007199254740992 ∧ -1074 ≤ e ∧ e ≤ 2000 ∧ jk 52 2047 (-1074) m e = true ∧ (jp ng m e = b ∨ (b = -9223372036854775808 ∧ jp ng m e = 0 ∧ m = 0)) ∧ (m = 0 → jp ng m e = 0) := by
  obtain ⟨i0, i1, i2, i3⟩ := pmag_in hp
  obtain ⟨j0, j1⟩ := join_parts hb hp
  have hle63 : ∀ x : Int, x < 9007199254740992 → blen x ≤ 63 := fun x hx => blen_le (by
    rw [show (2 : Int) ^ 63 = 9223372036854775808 by decide]; omega)
  by_cases h0 : pmag b = 0
  · rw [h0, sg_zero, Int.zero_mul] at hy
    obtain ⟨e1, e2, e3⟩ := hy.unique Dy.zero
    subst e1 e2 e3
    have z1 : jp false 0 0 = 0 := by decide
    have z2 : jk 52 2047 (-1074) 0 0 = true := by decide
    refine ⟨hle63 0 (by omega), by omega, by omega, by omega, z2, ?_, fun _ => z1⟩
    rw [h0] at j1
    have hv : jp (pneg b) 0 (pexp b) = if pneg b then -9223372036854775808 else 0 := by
      unfold jp jk jv
      cases pneg b <;> simp
    rw [hv] at j1
    cases hn : pneg b
    · rw [hn] at j1
      exact .inl (by rw [z1]; simpa using j1)
    · rw [hn] at j1
      exact .inr ⟨by simpa using j1.symm, z1, rfl⟩
  · have hM : 0 < pmag b := by omega
    obtain ⟨l, hl⟩ := isLow_ex hM
    obtain ⟨e1, e2, e3⟩ := hy.unique (Dy.of (pneg b) hl hM (show -4194304 ≤ pexp b by omega))
    obtain ⟨c1, c2, c3⟩ := isLow_odd hl hM
    have hle : pmag b / 2 ^ l ≤ pmag b := Int.ediv_le_self _ (by omega)
    have hl54 : l < 54 := by
      have h3 : (1 : Int) * 2 ^ l ≤ pmag b / 2 ^ l * 2 ^ l := Int.mul_le_mul_of_nonneg_right (by omega) (Int.le_of_lt (two_pos l))
      rw [c3] at h3
      refine two_lt_iff ?_
      rw [show (2 : Int) ^ 54 = 18014398509481984 by decide]
      omega
    obtain ⟨k1, k2⟩ := j_odd (e := pexp b) (pneg b) hM (by omega) hl
    subst e1 e2 e3
    exact ⟨hle63 _ (by omega), by omega, by omega, by omega, by rw [k1]; exact j0, .inl (by rw [k2]; exact j1), fun hz => by omega⟩
theorem float_yes {w : World} {x : Value} {A : Int} {ng : Bool} {m e : Int} (hx : DNum w x A) (oA : Dok A) (L : Lay64 w) (hT : Tab w) (hy : Dy A ng m e) (h63 : blen m ≤ 63) (hk : jk 52 2047 (-1074) m e = true) :
    Calls Tryd.prog 19 #[x] w fun r w' => r = .returned (.tuple #[.int .i64 (jp ng m e), .bool true]) ∧ Below w.heap.size w w' := by
  refine (float_D hx oA L hT).mono ?_
  rintro r w' ⟨ng', m', e', hy', rfl, hb⟩
  obtain ⟨rfl, rfl, rfl⟩ := hy.unique hy'
  exact ⟨by rw [decide_eq_true h63, hk]; rfl, hb⟩
theorem float_no {w : World} {x : Value} {A : Int} {ng : Bool} {m e : Int} (hx : DNum w x A) (oA : Dok A) (L : Lay64 w) (hT : Tab w) (hy : Dy A ng m e) (hk : blen m ≤ 63 → jk 52 2047 (-1074) m e = false) :
    Calls Tryd.prog 19 #[x] w fun r w' => ∃ c, r = .returned (.tuple #[.int .i64 c, .bool false]) ∧ Below w.heap.size w w' := by
  refine (float_D hx oA L hT).mono ?_
  rintro r w' ⟨ng', m', e', hy', rfl, hb⟩
  obtain ⟨rfl, rfl, rfl⟩ := hy.unique hy'
  refine ⟨if decide (blen m ≤ 63) = true then jp ng m e else 0, ?_, hb⟩
  have hz : (decide (blen m ≤ 63) && jk 52 2047 (-1074) m e) = false := by
    by_cases h : blen m ≤ 63
    · rw [hk h, Bool.and_false]
    · rw [decide_eq_false h, Bool.false_and]
  rw [hz]
/-- A float and a bit far below it. -/
theorem tiny_form {A : Int} {ng : Bool} {m e : Int} (hy : Dy A ng m e) (h0 : 0 < m) (h1 : m < 9007199254740992) (he : -1074 ≤ e) (he2 : e ≤ 2000) :
    ∃ m', Dy (A + pw (e - 60)) ng m' (e - 60) ∧ (blen m' ≤ 63 → jk 52 2047 (-1074) m' (e - 60) = false) ∧ Dok (A + pw (e - 60)) := by
  have ep : pw e = pw (e - 60) * 1152921504606846976 := by
    have := pw_add (e := e - 60) (by omega) 60
    rw [show e - 60 + ((60 : Nat) : Int) = e by omega, show (2 : Int) ^ 60 = 1152921504606846976 by decide] at this
    exact this
  have key : ∀ m' : Int, m' = m * 1152921504606846976 + (if ng then -1 else 1) → Dy (A + pw (e - 60)) ng m' (e - 60) := fun m' hm' => by
    refine ⟨?_, by omega, .inr ?_⟩
    · rw [hy.val, ep, hm', sg_sgn, sg_sgn]
      cases ng <;> simp <;> grind
    · rw [hm']
      cases ng <;> simp <;> omega
  refine ⟨_, key _ rfl, fun hb => ?_, ?_⟩
  · have hlt := blen_lt (m * 1152921504606846976 + (if ng = true then -1 else 1))
    have h2 : (2 : Int) ^ blen (m * 1152921504606846976 + (if ng = true then -1 else 1)) ≤ 2 ^ 63 := two_le hb
    rw [show (2 : Int) ^ 63 = 9223372036854775808 by decide] at h2
    have h3 : 59 < blen (m * 1152921504606846976 + (if ng = true then -1 else 1)) := blen_ge (by
      rw [show (2 : Int) ^ 59 = 576460752303423488 by decide]
      cases ng <;> simp <;> omega)
    exact j_long (by cases ng <;> simp <;> omega) (by omega) (by cases ng <;> simp <;> omega) (by omega)
  · refine (key _ rfl).ok.2 ⟨?_, by omega, by omega⟩
    have e5 : P 5 = 1427247692705959881058285969449495136382746624 := rfl
    have := P_le (show 5 ≤ 2000 by omega)
    cases ng <;> simp <;> omega
theorem half_form {A C : Int} {ng : Bool} {m e : Int} (hy : Dy A ng m e) (h0 : 0 < m) (h1 : m < 9007199254740992) (he : -1074 ≤ e) (he2 : e ≤ 2000) (hC : C * 2 ^ 4194304 = A * pw (-1080 - e)) :
    Dy C ng m (-1080) ∧ Dok C ∧ (blen m ≤ 63 → jk 52 2047 (-1074) m (-1080) = false) := by
  have hd : Dy C ng m (-1080) := by
    refine ⟨scale_inj ?_, by omega, hy.form.elim (fun h => by omega) .inr⟩
    rw [hC, hy.val, Int.mul_assoc, pw_mul (by omega) (by omega), show e + (-1080 - e) = -1080 by omega, Int.mul_assoc]
  have ho : m % 2 = 1 := by rcases hy.form with ⟨h, _⟩ | ⟨_, h⟩ <;> omega
  refine ⟨hd, hd.ok.2 ⟨by have := P2000_big2; omega, by omega, by omega⟩, fun _ => j_low h0 (by omega) ho (by omega)⟩
end Go.Proofs.YtlmoeclfjogoaabDoor
