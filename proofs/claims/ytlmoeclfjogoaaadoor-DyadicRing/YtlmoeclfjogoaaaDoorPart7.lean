/-
  Parts of the proof, one behind another.
-/
import Derived.Test.YtlmoeclfjogoaaaDoorPart1
import Derived.Test.YtlmoeclfjogoaaaDoorProg
import Derived.WalkKit
import Derived.RowKit3
import Derived.Below
import Derived.Deep.QuietTactic
import Derived.BigQuiet
import Derived.Lib.Strings
import Derived.Lib.Slices
import Derived.Lib.Small
import Derived.Lib.Walk
import Derived.Lib.BitFns
import Derived.Lib.TrailingZeros
import Derived.Laws.Bits64b
import Derived.Test.YtlmoeclfjogoaaaDoorPart3
/-
  What the two layouts of package bits hold, carried over calls; the method split and its kin by contracts: for every pattern, in every world that holds the layouts.
-/
namespace Go.Proofs.YtlmoeclfjogoaaaDoor
open Go Go.RowKit Go.Proofs.YtlmoeclfjogoaaaDoor.M
set_option linter.unusedSimpArgs false
set_option linter.unusedVariables false

/-- The cells of the two layouts. -/
structure Lays (w : World) : Prop where
  a0 : w.cell? ⟨0, 0, none⟩ = some (.int .i64 52)
  a1 : w.cell? ⟨0, 1, none⟩ = some (.int .i64 2047)
  a2 : w.cell? ⟨0, 2, none⟩ = some (.int .i64 (-1074))
  b0 : w.cell? ⟨1, 0, none⟩ = some (.int .i64 23)
  b1 : w.cell? ⟨1, 1, none⟩ = some (.int .i64 255)
  b2 : w.cell? ⟨1, 2, none⟩ = some (.int .i64 (-149))

/-- New blocks alone: read cell by cell, and block by block. -/
structure Gr (W w' : World) : Prop where
  gr : Grown W w'
  be : Below W.heap.size W w'
theorem Gr.refl (W : World) : Gr W W := ⟨Grown.refl _, Below.refl _ _⟩
theorem Gr.alloc {W w' : World} (h : Gr W w') (c : Array Value) (t : TypeId) : Gr W (w'.alloc (.cells c t)) := ⟨h.gr.alloc c t, h.be.alloc h.be.size _⟩
theorem Gr.drew {W w' : World} (h : Gr W w') : Gr W w'.drew := ⟨h.gr.drew, ⟨h.be.os, h.be.tape, h.be.output, h.be.size, h.be.block⟩⟩
theorem gTrans {a b c : World} (h : Gr a b) (k : Gr b c) : Gr a c :=
  ⟨⟨World.keptBut_trans h.gr.1 k.gr.1, fun x => (k.gr.2.1 x).trans (h.gr.2.1 x), Nat.le_trans h.gr.2.2 k.gr.2.2⟩, h.be.trans (k.be.mono h.be.size)⟩
theorem gDrewN {W w' : World} (h : Gr W w') (n : Nat) : Gr W (w'.drewN n) := ⟨h.gr, ⟨h.be.os, h.be.tape, h.be.output, h.be.size, h.be.block⟩⟩
theorem gCell {a b : World} (h : Gr a b) {p : Addr} {v : Value} (hc : a.cell? p = some v) : b.cell? p = some v := by
  unfold World.cell? at hc ⊢
  have hlt : p.block < a.heap.size := by
    by_cases hp : p.block < a.heap.size
    · exact hp
    · rw [Array.getElem?_eq_none (by omega)] at hc; simp at hc
  have k := h.gr.1.2.2 p.block hlt
  cases ha : a.heap[p.block]? with
  | none => rw [ha] at hc; simp at hc
  | some oa =>
    rw [ha] at hc k
    cases oa with
    | cells c t fr =>
      cases hb : b.heap[p.block]? with
      | none => rw [hb] at k; simp at k
      | some ob =>
        rw [hb] at k
        cases ob with
        | cells c' t' fr' =>
          simp only at hc k ⊢
          obtain ⟨_, _, _, kc⟩ := k
          rw [kc p.off (fun f => f)]
          exact hc
        | _ => simp at k
    | _ => simp at hc
theorem Lays.grown {w w' : World} (h : Lays w) (g : Gr w w') : Lays w' :=
  ⟨gCell g h.a0, gCell g h.a1, gCell g h.a2, gCell g h.b0, gCell g h.b1, gCell g h.b2⟩

theorem b_ret_int {k : IntKind} {a b : Int} (h : a = b) : Ending.returned (.int k a) = .returned (.int k b) := by rw [h]

theorem b_ret_bool {a b : Bool} (h : a = b) : Ending.returned (.bool a) = .returned (.bool b) := by rw [h]
theorem ret_bii {a a' : Bool} {b b' c c' : Int} (h : a = a') (k : b = b') (l : c = c') : Ending.returned (.tuple #[.bool a, .int .i64 b, .int .i64 c]) = .returned (.tuple #[.bool a', .int .i64 b', .int .i64 c']) := by rw [h, k, l]
theorem ret_ttt {a a' b b' : Int} {c c' : Bool} (h : a = a') (k : b = b') (l : c = c') : Ending.returned (.tuple #[.int .i64 a, .int .i64 b, .bool c]) = .returned (.tuple #[.int .i64 a', .int .i64 b', .bool c']) := by rw [h, k, l]
theorem ret_ttt4 {n n' : Bool} {a a' b b' : Int} {c c' : Bool} (g : n = n') (h : a = a') (k : b = b') (l : c = c') : Ending.returned (.tuple #[.bool n, .int .i64 a, .int .i64 b, .bool c]) = .returned (.tuple #[.bool n', .int .i64 a', .int .i64 b', .bool c']) := by rw [g, h, k, l]

theorem split64 (b : Int) (w : World) :
    Calls Tryd.prog 120 #[.agg #[.int .i64 52, .int .i64 2047, .int .i64 (-1074)], .int .i64 b] w fun e w' => e = .returned (.tuple #[.int .i64 (fld b), .int .i64 (frc b)]) ∧ ∃ n, w' = (w.alloc (.cells #[.int .i64 52, .int .i64 2047, .int .i64 (-1074)] 103)).drewN n := by
  have h1 : bits .and .i64 (b / 4503599627370496) 2047 = fld b := and_i64_2047 _
  have h2 : bits .and .i64 b 4503599627370495 = frc b := and_i64_m52 _
  go_enter Tryd.func120, Tryd.ntmps120
  go_wp2
  go_quiet (fail)
  go_wp2
  go_ret2
  exact ⟨rfl, _, rfl⟩
theorem split32 (b : Int) (w : World) :
    Calls Tryd.prog 120 #[.agg #[.int .i64 23, .int .i64 255, .int .i64 (-149)], .int .i64 b] w fun e w' => e = .returned (.tuple #[.int .i64 (fld32 b), .int .i64 (frc32 b)]) ∧ ∃ n, w' = (w.alloc (.cells #[.int .i64 23, .int .i64 255, .int .i64 (-149)] 103)).drewN n := by
  have h1 : bits .and .i64 (b / 8388608) 255 = fld32 b := and_i64_255 _
  have h2 : bits .and .i64 b 8388607 = frc32 b := and_i64_m23 _
  go_enter Tryd.func120, Tryd.ntmps120
  go_wp2
  go_quiet (fail)
  go_wp2
  go_ret2
  exact ⟨rfl, _, rfl⟩

theorem parts64 (b : Int) (w : World) :
    Calls Tryd.prog 104 #[.agg #[.int .i64 52, .int .i64 2047, .int .i64 (-1074)], .int .i64 b] w fun e w' => e = .returned (.tuple #[.int .i64 (pmag b), .int .i64 (pexp b), .bool (pok b)]) ∧ Gr w w' := by
  have hf := fld_le b
  have hr := frc_le b
  by_cases h1 : fld b = 2047
  · go_enter Tryd.func104, Tryd.ntmps104
    go_wp2_with (go_at_call 120; refine (split64 _ _).mono ?_; rintro e w1 ⟨rfl, n, rfl⟩)
    go_ret3
    exact ⟨ret_ttt (by simp [pmag, h1]) (by simp [pexp, h1]) (by simp [pok, h1]), gDrewN (((Gr.refl _).alloc _ _).alloc _ _) _⟩
  · by_cases h2 : fld b = 0
    · go_enter Tryd.func104, Tryd.ntmps104
      go_wp2_with (go_at_call 120; refine (split64 _ _).mono ?_; rintro e w1 ⟨rfl, n, rfl⟩)
      go_quiet (fail)
      go_wp2
      go_ret3
      exact ⟨ret_ttt (by simp [pmag, h1, h2]) (by simp [pexp, h1, h2]) (by simp [pok, h1]), gDrewN (gDrewN (((Gr.refl _).alloc _ _).alloc _ _) _) _⟩
    · go_enter Tryd.func104, Tryd.ntmps104
      go_wp2_with (go_at_call 120; refine (split64 _ _).mono ?_; rintro e w1 ⟨rfl, n, rfl⟩)
      go_quiet (fail)
      go_wp2
      go_ret3
      exact ⟨ret_ttt (by simp [pmag, h1, h2]) (by simp [pexp, h1, h2]; omega) (by simp [pok, h1]), gDrewN (gDrewN (((Gr.refl _).alloc _ _).alloc _ _) _) _⟩
theorem parts32 (b : Int) (w : World) (hb : in32 b = true) :
    Calls Tryd.prog 104 #[.agg #[.int .i64 23, .int .i64 255, .int .i64 (-149)], .int .i64 b] w fun e w' => e = .returned (.tuple #[.int .i64 (pmag32 b), .int .i64 (pexp32 b), .bool (pok32 b)]) ∧ Gr w w' := by
  have hf := fld32_le b
  have hr := frc32_le b
  by_cases h1 : fld32 b = 255
  · go_enter Tryd.func104, Tryd.ntmps104
    go_wp2_with (go_at_call 120; refine (split32 _ _).mono ?_; rintro e w1 ⟨rfl, n, rfl⟩)
    go_ret3
    exact ⟨ret_ttt (by simp [pmag32, pok32, hb, h1]) (by simp [pexp32, pok32, hb, h1]) (by simp [pok32, hb, h1]), gDrewN (((Gr.refl _).alloc _ _).alloc _ _) _⟩
  · by_cases h2 : fld32 b = 0
    · go_enter Tryd.func104, Tryd.ntmps104
      go_wp2_with (go_at_call 120; refine (split32 _ _).mono ?_; rintro e w1 ⟨rfl, n, rfl⟩)
      go_quiet (fail)
      go_wp2
      go_ret3
      exact ⟨ret_ttt (by simp [pmag32, pok32, hb, h1, h2]) (by simp [pexp32, pok32, hb, h1, h2]) (by simp [pok32, hb, h1]), gDrewN (gDrewN (((Gr.refl _).alloc _ _).alloc _ _) _) _⟩
    · go_enter Tryd.func104, Tryd.ntmps104
      go_wp2_with (go_at_call 120; refine (split32 _ _).mono ?_; rintro e w1 ⟨rfl, n, rfl⟩)
      go_quiet (fail)
      go_wp2
      go_ret3
      exact ⟨ret_ttt (by simp [pmag32, pok32, hb, h1, h2]) (by simp [pexp32, pok32, hb, h1, h2]; omega) (by simp [pok32, hb, h1]), gDrewN (gDrewN (((Gr.refl _).alloc _ _).alloc _ _) _) _⟩
end Go.Proofs.YtlmoeclfjogoaaaDoor

/-
  Package bits' calls that take no join, each by a contract: what it answers for every int, in every world that holds the two layouts.
-/
namespace Go.Proofs.YtlmoeclfjogoaaaDoor
open Go Go.RowKit Go.Proofs.YtlmoeclfjogoaaaDoor.M
set_option linter.unusedSimpArgs false
set_option linter.unusedVariables false

theorem bitsFits32 (b : Int) (w : World) :
    Calls Tryd.prog 106 #[.int .i64 b] w fun e w' => e = .returned (.bool (in32 b)) ∧ w' = w := by
  by_cases h : 0 ≤ b <;> by_cases h2 : b ≤ 4294967295
  all_goals
    go_enter Tryd.func106, Tryd.ntmps106
    go_wp2
    go_ret
    exact ⟨b_ret_bool (by simp [in32]; omega), rfl⟩
theorem bitsParts (b : Int) (w : World) (L : Lays w) :
    Calls Tryd.prog 66 #[.int .i64 b] w fun e w' => e = .returned (.tuple #[.bool (pneg b), .int .i64 (pmag b), .int .i64 (pexp b), .bool (pok b)]) ∧ Gr w w' := by
  obtain ⟨a0, a1, a2, b0, b1, b2⟩ := L
  by_cases h : pok b = true
  all_goals
    go_enter Tryd.func66, Tryd.ntmps66
    go_wp2_with (go_at_call 104; refine (parts64 _ _).mono ?_; rintro e w1 ⟨rfl, hg⟩)
    refine bodyPost_ret (v := .tuple #[.bool (pneg b), .int .i64 (pmag b), .int .i64 (pexp b), .bool (pok b)]) (by simp [results, Tryd.results66, go_sem, pneg, h]) rfl ⟨rfl, hg⟩
theorem bitsParts32 (b : Int) (w : World) (L : Lays w) :
    Calls Tryd.prog 70 #[.int .i64 b] w fun e w' => e = .returned (.tuple #[.bool (pneg32 b), .int .i64 (pmag32 b), .int .i64 (pexp32 b), .bool (pok32 b)]) ∧ Gr w w' := by
  obtain ⟨a0, a1, a2, b0, b1, b2⟩ := L
  by_cases h : in32 b = true
  · by_cases h2 : pok32 b = true
    all_goals
      go_enter Tryd.func70, Tryd.ntmps70
      go_wp2_with (first
        | (go_at_call 106; refine (bitsFits32 _ _).mono ?_; rintro e w1 ⟨rfl, rfl⟩)
        | (go_at_call 104; refine (parts32 _ _ h).mono ?_; rintro e w1 ⟨rfl, hg⟩))
      refine bodyPost_ret (v := .tuple #[.bool (pneg32 b), .int .i64 (pmag32 b), .int .i64 (pexp32 b), .bool (pok32 b)]) (by simp [results, Tryd.results70, go_sem, pneg32, h2]) rfl ⟨rfl, hg⟩
  · have h' : in32 b = false := by simpa using h
    have h2 : pok32 b = false := by simp [pok32, h']
    go_enter Tryd.func70, Tryd.ntmps70
    go_wp2_with (go_at_call 106; refine (bitsFits32 _ _).mono ?_; rintro e w1 ⟨rfl, rfl⟩)
    refine bodyPost_ret (v := .tuple #[.bool (pneg32 b), .int .i64 (pmag32 b), .int .i64 (pexp32 b), .bool (pok32 b)]) (by simp [results, Tryd.results70, go_sem, pneg32, pmag32, pexp32, h2]) rfl ⟨rfl, Gr.refl _⟩
end Go.Proofs.YtlmoeclfjogoaaaDoor

/-
  The library's math/bits.TrailingZeros64 and Len64, each by a contract: the number of b_trailing zero bits, the number of bits, of every uint64.
-/
namespace Go.Proofs.YtlmoeclfjogoaaaDoor
open Go Go.RowKit Go.Proofs.YtlmoeclfjogoaaaDoor.M
set_option linter.unusedSimpArgs false
set_option linter.unusedVariables false

theorem ret_ib {a a' : Int} {c c' : Bool} (h : a = a') (l : c = c') : Ending.returned (.tuple #[.int .i64 a, .bool c]) = .returned (.tuple #[.int .i64 a', .bool c']) := by rw [h, l]

/-- The library's table of b_trailing zeros. -/
def b_Tab (w : World) : Prop := ∀ j, j < 64 → w.cell? ⟨2, j, none⟩ = some (.int .u8 ((Lib.deBruijn64tab.getD j 0 : Nat) : Int))
theorem b_Tab.grown {w w' : World} (h : b_Tab w) (g : Gr w w') : b_Tab w' := fun j hj => gCell g (h j hj)

theorem b_tz_key (x a : Nat) (hx : x < 18446744073709551616) (hx0 : x ≠ 0) (hlow : x &&& (18446744073709551616 - x) = a) :
    IntKind.u64.wrap (bits .and .u64 (x : Int) (IntKind.u64.wrap (-(x : Int))) * 285870213051353865) / 288230376151711744 = ((a * 285870213051353865 % 18446744073709551616 / 288230376151711744 : Nat) : Int) := by
  have e1 : IntKind.u64.wrap (-(x : Int)) = ((18446744073709551616 - x : Nat) : Int) := by rw [IntKind.wrap_u64]; omega
  rw [e1, bits_and_u64_nat x _ hx (by omega), hlow, IntKind.wrap_u64]
  omega
set_option maxHeartbeats 1000000 in
theorem b_tz_core (x k idx : Nat) (w : World) (hx0 : ((x : Int) == 0) = false)
    (key : IntKind.u64.wrap (bits .and .u64 (x : Int) (IntKind.u64.wrap (-(x : Int))) * 285870213051353865) / 288230376151711744 = (idx : Int))
    (hi : idx < 64) (hk : k < 64) (hcell : w.cell? ⟨2, idx, none⟩ = some (.int .u8 k)) :
    Calls Tryd.prog 122 #[.int .u64 x] w fun e w' => e = .returned (.int .i64 k) ∧ w' = w := by
  go_enter Tryd.func122, Tryd.ntmps122
  go_wp2_with (simp only [key])
  go_ret
  exact ⟨rfl, rfl⟩
theorem b_trailing (x : Nat) (hx : x < 18446744073709551616) (h0 : x ≠ 0) (w : World) (hT : b_Tab w) :
    Calls Tryd.prog 122 #[.int .u64 x] w fun e w' => e = .returned (.int .i64 (Lib.ctz 64 x)) ∧ w' = w := by
  obtain ⟨hlow, hk⟩ := Lib.lowest_bit 64 x h0 hx
  obtain ⟨hi, htab⟩ := Lib.deBruijn64_at _ hk
  have hcell := hT _ hi
  rw [htab] at hcell
  exact b_tz_core x _ _ w (by simp; omega) (b_tz_key x _ hx h0 hlow) hi hk hcell
theorem b_len_close (x q : Int) (s : Nat) (h : q.toNat < Lib.len8tab.size) (hq0 : 0 ≤ q) (hq : q ≤ 255) (hs : s ≤ 56) (hb : Lib.bitLen x.toNat = s + Lib.bitLen q.toNat) :
    wrap64 ((s : Int) + wrap64 ((Lib.len8tab[q.toNat]'h).toNat : Int)) = (Lib.bitLen x.toNat : Int) := by
  have e := Lib.len8_of q hq0 hq
  have l := Lib.bitLen_le8' q hq0 hq
  unfold Lib.len8 at e
  rw [getElem?_pos Lib.len8tab q.toNat h] at e
  simp only [Option.getD_some] at e
  rw [e, hb]
  unfold wrap64
  omega
theorem b_len_close0 (x : Int) (h : x.toNat < Lib.len8tab.size) (hq0 : 0 ≤ x) (hq : x ≤ 255) :
    wrap64 (wrap64 ((Lib.len8tab[x.toNat]'h).toNat : Int)) = (Lib.bitLen x.toNat : Int) := by
  have := b_len_close x x 0 h hq0 hq (by omega) (by omega)
  simpa using this
theorem b_len_q (x q : Int) (s : Nat) (h0 : 0 ≤ x) (h1 : x ≤ 18446744073709551615) (hx : ((2 ^ s : Nat) : Int) ≤ x) (e : q = x / ((2 ^ s : Nat) : Int)) : Lib.bitLen x.toNat = s + Lib.bitLen q.toNat := by
  rw [Lib.bitLen_shift s x.toNat (by omega) (by omega), e]
  congr 2
  obtain ⟨n, rfl⟩ := Int.eq_ofNat_of_zero_le h0
  rw [← Int.natCast_ediv, Int.toNat_natCast, Int.toNat_natCast]
set_option maxHeartbeats 4000000 in
set_option maxRecDepth 100000 in
theorem b_len64 (x : Int) (w : World) (h0 : 0 ≤ x) (h1 : x ≤ 18446744073709551615) :
    Calls Tryd.prog 123 #[.int .u64 x] w fun e w' => e = .returned (.int .i64 (Lib.bitLen x.toNat)) ∧ w' = w := by
  have hs : Lib.len8tab.size = 256 := by decide +kernel
  go_enter Tryd.func123, Tryd.ntmps123
  go_wp2
  all_goals go_ret
  · exact ⟨b_ret_int (b_len_close x _ 56 _ (by omega) (by omega) (by omega) (b_len_q x _ 56 h0 h1 (by omega) (by omega))), rfl⟩
  · exact ⟨b_ret_int (b_len_close x _ 48 _ (by omega) (by omega) (by omega) (b_len_q x _ 48 h0 h1 (by omega) (by omega))), rfl⟩
  · exact ⟨b_ret_int (b_len_close x _ 40 _ (by omega) (by omega) (by omega) (b_len_q x _ 40 h0 h1 (by omega) (by omega))), rfl⟩
  · exact ⟨b_ret_int (b_len_close x _ 32 _ (by omega) (by omega) (by omega) (b_len_q x _ 32 h0 h1 (by omega) (by omega))), rfl⟩
  · exact ⟨b_ret_int (b_len_close x _ 24 _ (by omega) (by omega) (by omega) (b_len_q x _ 24 h0 h1 (by omega) (by omega))), rfl⟩
  · exact ⟨b_ret_int (b_len_close x _ 16 _ (by omega) (by omega) (by omega) (b_len_q x _ 16 h0 h1 (by omega) (by omega))), rfl⟩
  · exact ⟨b_ret_int (b_len_close x _ 8 _ (by omega) (by omega) (by omega) (b_len_q x _ 8 h0 h1 (by omega) (by omega))), rfl⟩
  · exact ⟨b_ret_int (b_len_close0 x _ (by omega) (by omega)), rfl⟩
end Go.Proofs.YtlmoeclfjogoaaaDoor

/-
  Plain mathematics of Join: the odd part of a whole number, its length, how far it is shifted; the document's two loops come to the same. No Go text in sight.
-/
namespace Go.Proofs.YtlmoeclfjogoaaaDoor.M
open Go
set_option linter.unusedSimpArgs false
set_option linter.unusedVariables false

/-- how often 2 divides; the odd part -/
def jz (mag : Int) : Nat := Lib.ctz 64 mag.toNat
def jo (mag : Int) : Int := mag / 2 ^ jz mag
def jl (mag : Int) : Int := Lib.bitLen (jo mag).toNat
/-- room above the odd part; the shift; the exponent above the least one -/
def jsp (fr mag : Int) : Int := fr + 1 - jl mag
def jsh (fr least mag exp : Int) : Int := min (jsp fr mag) (exp + jz mag - least)
def jab (fr least mag exp : Int) : Int := exp + jz mag - jsh fr least mag exp - least
def jgood (fr top least mag exp : Int) : Bool := decide (0 ≤ jsp fr mag) && (decide (least ≤ exp + jz mag) && decide (jab fr least mag exp ≤ top - 2))
def jk (fr top least mag exp : Int) : Bool := if mag < 0 then false else if mag = 0 then true else jgood fr top least mag exp
def jv (fr top least mag exp : Int) : Int := if mag ≤ 0 then 0 else if jgood fr top least mag exp then jab fr least mag exp * 2 ^ fr.toNat + jo mag * 2 ^ (jsh fr least mag exp).toNat else 0

theorem bitLen_spec (n : Nat) (h : n < 2 ^ 64) (h0 : n ≠ 0) : 2 ^ (Lib.bitLen n - 1) ≤ n ∧ n < 2 ^ Lib.bitLen n ∧ 1 ≤ Lib.bitLen n ∧ Lib.bitLen n ≤ 64 := by
  have hl : Lib.bitLen n ≤ 64 := Lib.bitLen_le n 64 (by omega) h
  -- by halving
  have main : ∀ f n : Nat, n < 2 ^ f → f ≤ 64 → n ≠ 0 → 2 ^ (Lib.bitLen n - 1) ≤ n ∧ n < 2 ^ Lib.bitLen n ∧ 1 ≤ Lib.bitLen n := by
    intro f
    induction f with
    | zero => intro n h _ h0; simp at h; omega
    | succ f ih =>
      intro n h hf h0
      have h64 : n < 2 ^ 64 := Nat.lt_of_lt_of_le h (Nat.pow_le_pow_right (by decide) hf)
      have e := Lib.bitLen_half n h0 h64
      by_cases h2 : n / 2 = 0
      · have h1 : n = 1 := by omega
        subst h1
        have : Lib.bitLen 1 = 1 := by decide +kernel
        rw [this]; decide
      · obtain ⟨a, b, c⟩ := ih (n / 2) (by rw [Nat.pow_succ] at h; omega) (by omega) h2
        obtain ⟨m, hm⟩ : ∃ m, Lib.bitLen (n / 2) = m + 1 := ⟨Lib.bitLen (n / 2) - 1, by omega⟩
        rw [e, hm]
        rw [hm] at a b
        simp only [Nat.add_sub_cancel] at a
        refine ⟨?_, ?_, by omega⟩
        · rw [show 1 + (m + 1) - 1 = m + 1 by omega, Nat.pow_succ]; omega
        · rw [show 1 + (m + 1) = m + 1 + 1 by omega, Nat.pow_succ]; omega
  obtain ⟨a, b, c⟩ := main 64 n h (by omega) h0
  exact ⟨a, b, c, hl⟩
/-- a length is known by the two powers around it -/
theorem bitLen_lt (n k : Nat) (h : n < 2 ^ 64) (h0 : n ≠ 0) : n < 2 ^ k ↔ Lib.bitLen n ≤ k := by
  obtain ⟨a, b, c, d⟩ := bitLen_spec n h h0
  constructor
  · intro hk
    apply Nat.le_of_not_lt
    intro hlt
    have : 2 ^ k ≤ 2 ^ (Lib.bitLen n - 1) := Nat.pow_le_pow_right (by decide) (by omega)
    omega
  · intro hk
    exact Nat.lt_of_lt_of_le b (Nat.pow_le_pow_right (by decide) hk)
theorem jz_spec {mag : Int} (h0 : 0 < mag) (h : mag < 9223372036854775808) : ∃ m : Nat, mag = 2 ^ jz mag * (2 * m + 1) ∧ jz mag < 63 ∧ jo mag = 2 * m + 1 := by
  unfold jo jz
  obtain ⟨n, rfl⟩ := Int.eq_ofNat_of_zero_le (Int.le_of_lt h0)
  have hn : n ≠ 0 := by omega
  simp only [Int.toNat_natCast]
  obtain ⟨m, hm, hk⟩ := Lib.ctzFrom_spec 64 n (by omega) (by omega)
  have e : Lib.ctz 64 n = Lib.ctzFrom 64 n := by simp [Lib.ctz, hn]
  rw [e]
  have hp : 0 < 2 ^ Lib.ctzFrom 64 n := Nat.two_pow_pos _
  have hz : Lib.ctzFrom 64 n < 63 := by
    apply Nat.lt_of_not_le
    intro hle
    have : 2 ^ 63 ≤ 2 ^ Lib.ctzFrom 64 n := Nat.pow_le_pow_right (by decide) hle
    have : 2 ^ Lib.ctzFrom 64 n ≤ n := by
      rw (occs := .pos [2]) [hm]
      exact Nat.le_mul_of_pos_right _ (by omega)
    omega
  have hm' : (n : Int) = 2 ^ Lib.ctzFrom 64 n * (2 * (m : Int) + 1) := by
    have : ((2 ^ Lib.ctzFrom 64 n * (2 * m + 1) : Nat) : Int) = 2 ^ Lib.ctzFrom 64 n * (2 * (m : Int) + 1) := by
      rw [Int.natCast_mul]; simp
    rw [← this, ← hm]
  refine ⟨m, hm', hz, ?_⟩
  have hpi : (0 : Int) < 2 ^ Lib.ctzFrom 64 n := Int.pow_pos (by decide)
  rw (occs := .pos [1]) [hm']
  exact Int.mul_ediv_cancel_left _ (by omega)
theorem jo_le {mag : Int} (h0 : 0 < mag) (h : mag < 9223372036854775808) : 1 ≤ jo mag ∧ jo mag ≤ mag := by
  obtain ⟨m, a, b, c⟩ := jz_spec h0 h
  have hp : (0 : Int) < 2 ^ jz mag := Int.pow_pos (by decide)
  have : (2 * (m : Int) + 1) * 1 ≤ (2 * (m : Int) + 1) * 2 ^ jz mag := Int.mul_le_mul_of_nonneg_left (by omega) (by omega)
  rw [Int.mul_comm _ (2 ^ jz mag), ← a] at this
  omega
theorem jl_le {mag : Int} (h0 : 0 < mag) (h : mag < 9223372036854775808) : 1 ≤ jl mag ∧ jl mag ≤ 63 := by
  obtain ⟨a, b⟩ := jo_le h0 h
  have s := bitLen_spec (jo mag).toNat (by omega) (by omega)
  unfold jl
  have := (bitLen_lt (jo mag).toNat 63 (by omega) (by omega)).1 (by omega)
  omega
/-- what the odd part comes to, shifted -/
theorem jshift_lt {fr mag : Int} (h0 : 0 < mag) (h : mag < 9223372036854775808) (hf : 0 ≤ fr) (s : Nat) (hs : (s : Int) ≤ jsp fr mag) : 1 ≤ jo mag * 2 ^ s ∧ jo mag * 2 ^ s < 2 ^ (fr.toNat + 1) := by
  obtain ⟨a, b⟩ := jo_le h0 h
  have sp := bitLen_spec (jo mag).toNat (by omega) (by omega)
  unfold jsp jl at hs
  have hp : (0 : Int) < 2 ^ s := Int.pow_pos (by decide)
  constructor
  · have : (1 : Int) * 1 ≤ jo mag * 2 ^ s := Int.mul_le_mul a (by omega) (by omega) (by omega)
    omega
  · have h1 : (jo mag).toNat * 2 ^ s < 2 ^ (Lib.bitLen (jo mag).toNat) * 2 ^ s := Nat.mul_lt_mul_of_pos_right sp.2.1 (Nat.two_pow_pos _)
    rw [← Nat.pow_add] at h1
    have h2 : 2 ^ (Lib.bitLen (jo mag).toNat + s) ≤ 2 ^ (fr.toNat + 1) := Nat.pow_le_pow_right (by decide) (by omega)
    have h3 : (jo mag).toNat * 2 ^ s < 2 ^ (fr.toNat + 1) := Nat.lt_of_lt_of_le h1 h2
    have h4 : (((jo mag).toNat * 2 ^ s : Nat) : Int) < ((2 ^ (fr.toNat + 1) : Nat) : Int) := Int.ofNat_lt.2 h3
    rw [Int.natCast_mul, Int.toNat_of_nonneg (by omega)] at h4
    simpa using h4
theorem jgood_far {mag exp : Int} (h0 : 0 < mag) (h : mag < 9223372036854775808) (hf : 1025 < exp) : jgood 52 2047 (-1074) mag exp = false := by
  have := jl_le h0 h
  unfold jgood jab jsh jsp
  simp; intro _ _; omega
theorem jgood_far32 {mag exp : Int} (h0 : 0 < mag) (h : mag < 9223372036854775808) (hf : 129 < exp) : jgood 23 255 (-149) mag exp = false := by
  have := jl_le h0 h
  unfold jgood jab jsh jsp
  simp; intro _ _; omega
theorem jv_le {mag exp : Int} (hm : rng mag) : 0 ≤ jv 52 2047 (-1074) mag exp ∧ jv 52 2047 (-1074) mag exp < 9218868437227405312 := by
  unfold rng at hm
  unfold jv
  by_cases h0 : mag ≤ 0
  · rw [if_pos h0]; omega
  · rw [if_neg h0]
    by_cases hk : jgood 52 2047 (-1074) mag exp = true
    · rw [if_pos hk]
      unfold jgood at hk
      simp only [Bool.and_eq_true, decide_eq_true_eq] at hk
      have hl := jl_le (mag := mag) (by omega) hm.2
      have hs : 0 ≤ jsh 52 (-1074) mag exp ∧ jsh 52 (-1074) mag exp ≤ jsp 52 mag := by unfold jsh; omega
      have hb := jshift_lt (fr := 52) (mag := mag) (by omega) hm.2 (by omega) (jsh 52 (-1074) mag exp).toNat (by omega)
      have hb2 : jo mag * 2 ^ (jsh 52 (-1074) mag exp).toNat < 9007199254740992 := hb.2
      have ha : 0 ≤ jab 52 (-1074) mag exp := by unfold jab jsh; omega
      -- a normal number's highest bit is counted into the field
      have e : (2 : Int) ^ (52 : Int).toNat = 4503599627370496 := by decide
      rw [e]
      omega
    · rw [if_neg hk]; omega
theorem jv_le32 {mag exp : Int} (hm : rng mag) : 0 ≤ jv 23 255 (-149) mag exp ∧ jv 23 255 (-149) mag exp < 2139095040 := by
  unfold rng at hm
  unfold jv
  by_cases h0 : mag ≤ 0
  · rw [if_pos h0]; omega
  · rw [if_neg h0]
    by_cases hk : jgood 23 255 (-149) mag exp = true
    · rw [if_pos hk]
      unfold jgood at hk
      simp only [Bool.and_eq_true, decide_eq_true_eq] at hk
      have hl := jl_le (mag := mag) (by omega) hm.2
      have hs : 0 ≤ jsh 23 (-149) mag exp ∧ jsh 23 (-149) mag exp ≤ jsp 23 mag := by unfold jsh; omega
      have hb := jshift_lt (fr := 23) (mag := mag) (by omega) hm.2 (by omega) (jsh 23 (-149) mag exp).toNat (by omega)
      have hb2 : jo mag * 2 ^ (jsh 23 (-149) mag exp).toNat < 16777216 := hb.2
      have ha : 0 ≤ jab 23 (-149) mag exp := by unfold jab jsh; omega
      have e : (2 : Int) ^ (23 : Int).toNat = 8388608 := by decide
      rw [e]
      omega
    · rw [if_neg hk]; omega
/-- halving: how the document's first loop goes -/
theorem halved {mag : Int} (h0 : 0 < mag) (h : mag < 9223372036854775808) (k : Nat) (hk : k < jz mag) : mag / 2 ^ k % 2 = 0 ∧ mag / 2 ^ k / 2 = mag / 2 ^ (k + 1) ∧ 0 < mag / 2 ^ k ∧ mag / 2 ^ k < 9223372036854775808 := by
  obtain ⟨m, a, b, c⟩ := jz_spec h0 h
  have hp : (0 : Int) < 2 ^ k := Int.pow_pos (by decide)
  have e1 : mag / 2 ^ k = 2 ^ (jz mag - k) * (2 * m + 1) := by
    rw (occs := .pos [1]) [a]
    rw [show jz mag = k + (jz mag - k) by omega, Int.pow_add, Int.mul_assoc]
    rw [show k + (jz mag - k) - k = jz mag - k by omega]
    exact Int.mul_ediv_cancel_left _ (by omega)
  have e2 : (2 : Int) ^ (jz mag - k) = 2 * 2 ^ (jz mag - k - 1) := by
    rw [show jz mag - k = (jz mag - k - 1) + 1 by omega, Int.pow_succ, Int.mul_comm]
    simp
  have hq : (0 : Int) < 2 ^ (jz mag - k) := Int.pow_pos (by decide)
  refine ⟨?_, ?_, ?_, ?_⟩
  · rw [e1, e2, Int.mul_assoc]; exact Int.mul_emod_right _ _
  · rw [Int.pow_succ, Int.ediv_ediv_of_nonneg (by omega)]
  · rw [e1]; exact Int.mul_pos hq (by omega)
  · have : mag / 2 ^ k ≤ mag := Int.ediv_le_self _ (by omega)
    omega
theorem halved_end {mag : Int} (h0 : 0 < mag) (h : mag < 9223372036854775808) : jo mag % 2 = 1 := by
  obtain ⟨m, a, b, c⟩ := jz_spec h0 h
  omega
/-- doubling: how the document's second loop goes -/
theorem doubled {fr mag : Int} (h0 : 0 < mag) (h : mag < 9223372036854775808) (hf : 0 ≤ fr) (j : Nat) : jo mag * 2 ^ j < 2 ^ fr.toNat ↔ (j : Int) < jsp fr mag := by
  obtain ⟨a, b⟩ := jo_le h0 h
  have sp := bitLen_spec (jo mag).toNat (by omega) (by omega)
  unfold jsp jl
  have hc : ((((jo mag).toNat * 2 ^ j : Nat)) : Int) = jo mag * 2 ^ j := by
    rw [Int.natCast_mul, Int.toNat_of_nonneg (by omega)]; simp
  have hd : ((2 ^ fr.toNat : Nat) : Int) = 2 ^ fr.toNat := by simp
  rw [← hc, ← hd, Int.ofNat_lt]
  constructor
  · intro hlt
    have h1 : 2 ^ (Lib.bitLen (jo mag).toNat - 1) * 2 ^ j ≤ (jo mag).toNat * 2 ^ j := Nat.mul_le_mul_right _ sp.1
    rw [← Nat.pow_add] at h1
    have h2 : 2 ^ (Lib.bitLen (jo mag).toNat - 1 + j) < 2 ^ fr.toNat := by omega
    have := (Nat.pow_lt_pow_iff_right (by decide : 1 < 2)).1 h2
    omega
  · intro hlt
    have h1 : (jo mag).toNat * 2 ^ j < 2 ^ (Lib.bitLen (jo mag).toNat) * 2 ^ j := Nat.mul_lt_mul_of_pos_right sp.2.1 (Nat.two_pow_pos _)
    rw [← Nat.pow_add] at h1
    exact Nat.lt_of_lt_of_le h1 (Nat.pow_le_pow_right (by decide) (by omega))
/-- what the document's shifted answers -/
def sk (fr low mag exp : Int) : Bool := decide (0 ≤ jsp fr mag) && decide (low ≤ exp + jz mag)
def sm (fr low mag exp : Int) : Int := if sk fr low mag exp then jo mag * 2 ^ (jsh fr low mag exp).toNat else 0
def se (fr low mag exp : Int) : Int := if sk fr low mag exp then exp + jz mag - jsh fr low mag exp else 0
/-- Join's pattern, with its sign -/
def jp (neg : Bool) (mag exp : Int) : Int := if jk 52 2047 (-1074) mag exp && neg then jv 52 2047 (-1074) mag exp - 9223372036854775808 else jv 52 2047 (-1074) mag exp
def jp32 (neg : Bool) (mag exp : Int) : Int := if jk 23 255 (-149) mag exp && neg then jv 23 255 (-149) mag exp + 2147483648 else jv 23 255 (-149) mag exp
theorem jgood_near {mag exp : Int} (h0 : 0 < mag) (h : mag < 9223372036854775808) (hf : exp < -2000) : jgood 52 2047 (-1074) mag exp = false := by
  obtain ⟨_, _, a, _⟩ := jz_spec h0 h
  unfold jgood; simp; intro _ _; omega
theorem jgood_near32 {mag exp : Int} (h0 : 0 < mag) (h : mag < 9223372036854775808) (hf : exp < -2000) : jgood 23 255 (-149) mag exp = false := by
  obtain ⟨_, _, a, _⟩ := jz_spec h0 h
  unfold jgood; simp; intro _ _; omega
theorem jgood_sk (mag exp : Int) : jgood 52 2047 (-1074) mag exp = (sk 52 (-1074) mag exp && decide (se 52 (-1074) mag exp ≤ 971)) := by
  unfold jgood se jab
  by_cases h : sk 52 (-1074) mag exp = true
  · rw [if_pos h, h]
    unfold sk at h
    simp only [Bool.and_eq_true, decide_eq_true_eq] at h
    simp only [h.1, h.2, decide_true, Bool.true_and]
    congr 1; apply propext; omega
  · have h' : sk 52 (-1074) mag exp = false := by simpa using h
    rw [h']
    unfold sk at h'
    simp only [Bool.false_and]
    simp only [Bool.and_eq_false_iff, decide_eq_false_iff_not] at h' ⊢
    omega
/-- the pattern, off what shifted answers -/
theorem jv_sm {mag exp : Int} (h0 : 0 < mag) (h : mag < 9223372036854775808) (hk : sk 52 (-1074) mag exp = true) (he : se 52 (-1074) mag exp ≤ 971) :
    1 ≤ sm 52 (-1074) mag exp ∧ sm 52 (-1074) mag exp < 9007199254740992 ∧ -1074 ≤ se 52 (-1074) mag exp ∧
    jv 52 2047 (-1074) mag exp = (if sm 52 (-1074) mag exp < 4503599627370496 then sm 52 (-1074) mag exp else (se 52 (-1074) mag exp + 1075) * 4503599627370496 + sm 52 (-1074) mag exp - 4503599627370496) := by
  have hg : jgood 52 2047 (-1074) mag exp = true := by rw [jgood_sk, hk]; simpa using he
  have hk' := hk
  unfold sk at hk'
  simp only [Bool.and_eq_true, decide_eq_true_eq] at hk'
  have hs : 0 ≤ jsh 52 (-1074) mag exp ∧ jsh 52 (-1074) mag exp ≤ jsp 52 mag ∧ jsh 52 (-1074) mag exp ≤ exp + jz mag + 1074 := by unfold jsh; omega
  have hb := jshift_lt (fr := 52) h0 h (by omega) (jsh 52 (-1074) mag exp).toNat (by omega)
  have hb2 : jo mag * 2 ^ (jsh 52 (-1074) mag exp).toNat < 9007199254740992 := hb.2
  have hd := doubled (fr := 52) h0 h (by omega) (jsh 52 (-1074) mag exp).toNat
  rw [show (2 : Int) ^ (52 : Int).toNat = 4503599627370496 by decide] at hd
  have es : sm 52 (-1074) mag exp = jo mag * 2 ^ (jsh 52 (-1074) mag exp).toNat := by unfold sm; rw [if_pos hk]
  have ee : se 52 (-1074) mag exp = exp + jz mag - jsh 52 (-1074) mag exp := by unfold se; rw [if_pos hk]
  rw [es, ee]
  refine ⟨hb.1, hb2, by omega, ?_⟩
  unfold jv jab
  rw [if_neg (by omega), if_pos hg, show (2 : Int) ^ (52 : Int).toNat = 4503599627370496 by decide]
  split
  · rename_i hlt
    have := hd.1 hlt
    have : jsh 52 (-1074) mag exp = exp + jz mag + 1074 := by unfold jsh at *; omega
    omega
  · omega
theorem jgood_sk32 (mag exp : Int) : jgood 23 255 (-149) mag exp = (sk 23 (-149) mag exp && decide (se 23 (-149) mag exp ≤ 104)) := by
  unfold jgood se jab
  by_cases h : sk 23 (-149) mag exp = true
  · rw [if_pos h, h]
    unfold sk at h
    simp only [Bool.and_eq_true, decide_eq_true_eq] at h
    simp only [h.1, h.2, decide_true, Bool.true_and]
    congr 1; apply propext; omega
  · have h' : sk 23 (-149) mag exp = false := by simpa using h
    rw [h']
    unfold sk at h'
    simp only [Bool.false_and]
    simp only [Bool.and_eq_false_iff, decide_eq_false_iff_not] at h' ⊢
    omega
/-- the pattern, off what shifted answers -/
theorem jv_sm32 {mag exp : Int} (h0 : 0 < mag) (h : mag < 9223372036854775808) (hk : sk 23 (-149) mag exp = true) (he : se 23 (-149) mag exp ≤ 104) :
    1 ≤ sm 23 (-149) mag exp ∧ sm 23 (-149) mag exp < 16777216 ∧ -149 ≤ se 23 (-149) mag exp ∧
    jv 23 255 (-149) mag exp = (if sm 23 (-149) mag exp < 8388608 then sm 23 (-149) mag exp else (se 23 (-149) mag exp + 150) * 8388608 + sm 23 (-149) mag exp - 8388608) := by
  have hg : jgood 23 255 (-149) mag exp = true := by rw [jgood_sk32, hk]; simpa using he
  have hk' := hk
  unfold sk at hk'
  simp only [Bool.and_eq_true, decide_eq_true_eq] at hk'
  have hs : 0 ≤ jsh 23 (-149) mag exp ∧ jsh 23 (-149) mag exp ≤ jsp 23 mag ∧ jsh 23 (-149) mag exp ≤ exp + jz mag + 149 := by unfold jsh; omega
  have hb := jshift_lt (fr := 23) h0 h (by omega) (jsh 23 (-149) mag exp).toNat (by omega)
  have hb2 : jo mag * 2 ^ (jsh 23 (-149) mag exp).toNat < 16777216 := hb.2
  have hd := doubled (fr := 23) h0 h (by omega) (jsh 23 (-149) mag exp).toNat
  rw [show (2 : Int) ^ (23 : Int).toNat = 8388608 by decide] at hd
  have es : sm 23 (-149) mag exp = jo mag * 2 ^ (jsh 23 (-149) mag exp).toNat := by unfold sm; rw [if_pos hk]
  have ee : se 23 (-149) mag exp = exp + jz mag - jsh 23 (-149) mag exp := by unfold se; rw [if_pos hk]
  rw [es, ee]
  refine ⟨hb.1, hb2, by omega, ?_⟩
  unfold jv jab
  rw [if_neg (by omega), if_pos hg, show (2 : Int) ^ (23 : Int).toNat = 8388608 by decide]
  split
  · rename_i hlt
    have := hd.1 hlt
    have : jsh 23 (-149) mag exp = exp + jz mag + 149 := by unfold jsh at *; omega
    omega
  · omega
end Go.Proofs.YtlmoeclfjogoaaaDoor.M

/-
  Package bits' Join: the method join of both layouts, by contracts.
-/
namespace Go.Proofs.YtlmoeclfjogoaaaDoor
open Go Go.RowKit Go.Proofs.YtlmoeclfjogoaaaDoor.M
set_option linter.unusedSimpArgs false
set_option linter.unusedVariables false

theorem keepIt {p : Prop} (h : p) : Hid p := h
theorem trailingI (mag : Int) (h0 : 0 < mag) (h : mag < 9223372036854775808) (w : World) (hT : b_Tab w) :
    Calls Tryd.prog 122 #[.int .u64 mag] w fun e w' => e = .returned (.int .i64 (jz mag)) ∧ w' = w := by
  obtain ⟨n, rfl⟩ := Int.eq_ofNat_of_zero_le (Int.le_of_lt h0)
  exact b_trailing n (by omega) (by omega) w hT
theorem len64J (mag : Int) (w : World) (h0 : 1 ≤ jo mag) (h1 : jo mag ≤ mag) (h : mag < 9223372036854775808) :
    Calls Tryd.prog 123 #[.int .u64 (jo mag)] w fun e w' => e = .returned (.int .i64 (jl mag)) ∧ w' = w :=
  b_len64 (jo mag) w (by omega) (by omega)
theorem far64 (exp : Int) (w : World) (h : rng exp) :
    Calls Tryd.prog 121 #[.agg #[.int .i64 52, .int .i64 2047, .int .i64 (-1074)], .int .i64 exp] w fun e w' => e = .returned (.bool (decide (1025 < exp))) ∧ w' = w.alloc (.cells #[.int .i64 52, .int .i64 2047, .int .i64 (-1074)] 103) := by
  unfold rng at h
  go_enter Tryd.func121, Tryd.ntmps121
  go_wp2
  go_ret
  exact ⟨rfl, rfl⟩
set_option maxHeartbeats 1000000 in
theorem join64 (mag exp : Int) (w : World) (hT : b_Tab w) (hm : rng mag) (he : rng exp) :
    Calls Tryd.prog 110 #[.agg #[.int .i64 52, .int .i64 2047, .int .i64 (-1074)], .int .i64 mag, .int .i64 exp] w fun e w' => e = .returned (.tuple #[.int .i64 (jv 52 2047 (-1074) mag exp), .bool (jk 52 2047 (-1074) mag exp)]) ∧ Gr w w' := by
  have he0 := he
  unfold rng at hm he
  rcases Int.lt_trichotomy mag 0 with h | h | h
  · have hn : (mag == 0) = false := by simp; omega
    go_enter Tryd.func110, Tryd.ntmps110
    go_wp2
    go_ret2
    exact ⟨ret_ib (by simp [jv]; omega) (by simp [jk]; omega), (Gr.refl _).alloc _ _⟩
  · subst h
    go_enter Tryd.func110, Tryd.ntmps110
    go_wp2
    go_ret2
    exact ⟨ret_ib (by simp [jv]) (by simp [jk]), (Gr.refl _).alloc _ _⟩
  · have hn : (mag == 0) = false := by simp; omega
    have hz := jz_spec h hm.2
    by_cases hf : 1025 < exp
    · have hk := keepIt (jgood_far h hm.2 hf)
      go_enter Tryd.func110, Tryd.ntmps110
      go_wp2_with (go_at_call 121; refine (far64 _ _ he0).mono ?_; rintro e w1 ⟨rfl, rfl⟩)
      go_ret2
      exact ⟨ret_ib (by simp [jv, hk.out]) (by simp [jk, hk.out]; omega), ((Gr.refl _).alloc _ _).alloc _ _⟩
    · obtain ⟨m, -, hz63, -⟩ := hz
      have hj := jo_le h hm.2
      have hL := jl_le h hm.2
      have eo : mag / 2 ^ jz mag = jo mag := rfl
      by_cases s1 : 53 - jl mag < 0
      · have hk : Hid (jgood 52 2047 (-1074) mag exp = false) := by unfold Hid jgood jsp; simp; omega
        go_enter Tryd.func110, Tryd.ntmps110
        go_wp2_with (go_at_call 121; refine (far64 _ _ he0).mono ?_; rintro e w1 ⟨rfl, rfl⟩)
        refine (trailingI mag h hm.2 _ (hT.grown (((Gr.refl _).alloc _ _).alloc _ _))).mono ?_
        rintro e w1 ⟨rfl, rfl⟩
        go_wp2
        go_quiet ((go_at_call 123; exact Calls.quiet_of_same (len64J _ _ hj.1 hj.2 hm.2)))
        go_wp2
        go_ret2
        exact ⟨ret_ib (by simp [jv, hk.out]) (by simp [jk, hk.out]; omega), gDrewN (((Gr.refl _).alloc _ _).alloc _ _) _⟩
      · by_cases s2 : exp + jz mag < -1074
        · have hk : Hid (jgood 52 2047 (-1074) mag exp = false) := by unfold Hid jgood jsp; simp; omega
          go_enter Tryd.func110, Tryd.ntmps110
          go_wp2_with (go_at_call 121; refine (far64 _ _ he0).mono ?_; rintro e w1 ⟨rfl, rfl⟩)
          refine (trailingI mag h hm.2 _ (hT.grown (((Gr.refl _).alloc _ _).alloc _ _))).mono ?_
          rintro e w1 ⟨rfl, rfl⟩
          go_wp2
          go_quiet ((go_at_call 123; exact Calls.quiet_of_same (len64J _ _ hj.1 hj.2 hm.2)))
          go_wp2
          go_ret2
          exact ⟨ret_ib (by simp [jv, hk.out]) (by simp [jk, hk.out]; omega), gDrewN (((Gr.refl _).alloc _ _).alloc _ _) _⟩
        · obtain ⟨s, hs⟩ : ∃ s : Nat, min (53 - jl mag) (exp + ↑(jz mag) + 1074) = (s : Int) := ⟨(min (53 - jl mag) (exp + ↑(jz mag) + 1074)).toNat, by omega⟩
          have hsl : (s : Int) ≤ 52 := by omega
          have hsj : Hid (jsh 52 (-1074) mag exp = s) := by unfold Hid jsh jsp; omega
          by_cases s3 : 2045 < exp + ↑(jz mag) - ↑s + 1074
          · have hk : Hid (jgood 52 2047 (-1074) mag exp = false) := by unfold Hid jgood jab; rw [hsj.out]; simp; omega
            go_enter Tryd.func110, Tryd.ntmps110
            go_wp2_with (go_at_call 121; refine (far64 _ _ he0).mono ?_; rintro e w1 ⟨rfl, rfl⟩)
            refine (trailingI mag h hm.2 _ (hT.grown (((Gr.refl _).alloc _ _).alloc _ _))).mono ?_
            rintro e w1 ⟨rfl, rfl⟩
            go_wp2
            go_quiet ((go_at_call 123; exact Calls.quiet_of_same (len64J _ _ hj.1 hj.2 hm.2)))
            go_wp2
            go_ret2
            exact ⟨ret_ib (by simp [jv, hk.out]) (by simp [jk, hk.out]; omega), gDrewN (((Gr.refl _).alloc _ _).alloc _ _) _⟩
          · have hk : Hid (jgood 52 2047 (-1074) mag exp = true) := by unfold Hid jgood jab jsp; rw [hsj.out]; simp; omega
            have hb := jshift_lt (fr := 52) h hm.2 (by omega) s (by unfold jsp; omega)
            have hb2 : jo mag * 2 ^ s < 9007199254740992 := hb.2
            have hb1 := hb.1
            clear hb
            go_enter Tryd.func110, Tryd.ntmps110
            go_wp2_with (go_at_call 121; refine (far64 _ _ he0).mono ?_; rintro e w1 ⟨rfl, rfl⟩)
            refine (trailingI mag h hm.2 _ (hT.grown (((Gr.refl _).alloc _ _).alloc _ _))).mono ?_
            rintro e w1 ⟨rfl, rfl⟩
            go_wp2
            go_quiet ((go_at_call 123; exact Calls.quiet_of_same (len64J _ _ hj.1 hj.2 hm.2)))
            go_wp2
            go_quiet (fail)
            go_wp2
            go_ret2
            refine ⟨ret_ib ?_ (by simp [jk, hk.out]; omega), gDrewN (gDrewN (((Gr.refl _).alloc _ _).alloc _ _) _) _⟩
            unfold jv jab
            rw [if_neg (by omega), if_pos hk.out, hsj.out]
            rfl
theorem far32 (exp : Int) (w : World) (h : rng exp) :
    Calls Tryd.prog 121 #[.agg #[.int .i64 23, .int .i64 255, .int .i64 (-149)], .int .i64 exp] w fun e w' => e = .returned (.bool (decide (129 < exp))) ∧ w' = w.alloc (.cells #[.int .i64 23, .int .i64 255, .int .i64 (-149)] 103) := by
  unfold rng at h
  go_enter Tryd.func121, Tryd.ntmps121
  go_wp2
  go_ret
  exact ⟨rfl, rfl⟩
set_option maxHeartbeats 1000000 in
theorem join32 (mag exp : Int) (w : World) (hT : b_Tab w) (hm : rng mag) (he : rng exp) :
    Calls Tryd.prog 110 #[.agg #[.int .i64 23, .int .i64 255, .int .i64 (-149)], .int .i64 mag, .int .i64 exp] w fun e w' => e = .returned (.tuple #[.int .i64 (jv 23 255 (-149) mag exp), .bool (jk 23 255 (-149) mag exp)]) ∧ Gr w w' := by
  have he0 := he
  unfold rng at hm he
  rcases Int.lt_trichotomy mag 0 with h | h | h
  · have hn : (mag == 0) = false := by simp; omega
    go_enter Tryd.func110, Tryd.ntmps110
    go_wp2
    go_ret2
    exact ⟨ret_ib (by simp [jv]; omega) (by simp [jk]; omega), (Gr.refl _).alloc _ _⟩
  · subst h
    go_enter Tryd.func110, Tryd.ntmps110
    go_wp2
    go_ret2
    exact ⟨ret_ib (by simp [jv]) (by simp [jk]), (Gr.refl _).alloc _ _⟩
  · have hn : (mag == 0) = false := by simp; omega
    have hz := jz_spec h hm.2
    by_cases hf : 129 < exp
    · have hk := keepIt (jgood_far32 h hm.2 hf)
      go_enter Tryd.func110, Tryd.ntmps110
      go_wp2_with (go_at_call 121; refine (far32 _ _ he0).mono ?_; rintro e w1 ⟨rfl, rfl⟩)
      go_ret2
      exact ⟨ret_ib (by simp [jv, hk.out]) (by simp [jk, hk.out]; omega), ((Gr.refl _).alloc _ _).alloc _ _⟩
    · obtain ⟨m, -, hz63, -⟩ := hz
      have hj := jo_le h hm.2
      have hL := jl_le h hm.2
      have eo : mag / 2 ^ jz mag = jo mag := rfl
      by_cases s1 : 24 - jl mag < 0
      · have hk : Hid (jgood 23 255 (-149) mag exp = false) := by unfold Hid jgood jsp; simp; omega
        go_enter Tryd.func110, Tryd.ntmps110
        go_wp2_with (go_at_call 121; refine (far32 _ _ he0).mono ?_; rintro e w1 ⟨rfl, rfl⟩)
        refine (trailingI mag h hm.2 _ (hT.grown (((Gr.refl _).alloc _ _).alloc _ _))).mono ?_
        rintro e w1 ⟨rfl, rfl⟩
        go_wp2
        go_quiet ((go_at_call 123; exact Calls.quiet_of_same (len64J _ _ hj.1 hj.2 hm.2)))
        go_wp2
        go_ret2
        exact ⟨ret_ib (by simp [jv, hk.out]) (by simp [jk, hk.out]; omega), gDrewN (((Gr.refl _).alloc _ _).alloc _ _) _⟩
      · by_cases s2 : exp + jz mag < -149
        · have hk : Hid (jgood 23 255 (-149) mag exp = false) := by unfold Hid jgood jsp; simp; omega
          go_enter Tryd.func110, Tryd.ntmps110
          go_wp2_with (go_at_call 121; refine (far32 _ _ he0).mono ?_; rintro e w1 ⟨rfl, rfl⟩)
          refine (trailingI mag h hm.2 _ (hT.grown (((Gr.refl _).alloc _ _).alloc _ _))).mono ?_
          rintro e w1 ⟨rfl, rfl⟩
          go_wp2
          go_quiet ((go_at_call 123; exact Calls.quiet_of_same (len64J _ _ hj.1 hj.2 hm.2)))
          go_wp2
          go_ret2
          exact ⟨ret_ib (by simp [jv, hk.out]) (by simp [jk, hk.out]; omega), gDrewN (((Gr.refl _).alloc _ _).alloc _ _) _⟩
        · obtain ⟨s, hs⟩ : ∃ s : Nat, min (24 - jl mag) (exp + ↑(jz mag) + 149) = (s : Int) := ⟨(min (24 - jl mag) (exp + ↑(jz mag) + 149)).toNat, by omega⟩
          have hsl : (s : Int) ≤ 23 := by omega
          have hsj : Hid (jsh 23 (-149) mag exp = s) := by unfold Hid jsh jsp; omega
          by_cases s3 : 253 < exp + ↑(jz mag) - ↑s + 149
          · have hk : Hid (jgood 23 255 (-149) mag exp = false) := by unfold Hid jgood jab; rw [hsj.out]; simp; omega
            go_enter Tryd.func110, Tryd.ntmps110
            go_wp2_with (go_at_call 121; refine (far32 _ _ he0).mono ?_; rintro e w1 ⟨rfl, rfl⟩)
            refine (trailingI mag h hm.2 _ (hT.grown (((Gr.refl _).alloc _ _).alloc _ _))).mono ?_
            rintro e w1 ⟨rfl, rfl⟩
            go_wp2
            go_quiet ((go_at_call 123; exact Calls.quiet_of_same (len64J _ _ hj.1 hj.2 hm.2)))
            go_wp2
            go_ret2
            exact ⟨ret_ib (by simp [jv, hk.out]) (by simp [jk, hk.out]; omega), gDrewN (((Gr.refl _).alloc _ _).alloc _ _) _⟩
          · have hk : Hid (jgood 23 255 (-149) mag exp = true) := by unfold Hid jgood jab jsp; rw [hsj.out]; simp; omega
            have hb := jshift_lt (fr := 23) h hm.2 (by omega) s (by unfold jsp; omega)
            have hb2 : jo mag * 2 ^ s < 16777216 := hb.2
            have hb1 := hb.1
            clear hb
            go_enter Tryd.func110, Tryd.ntmps110
            go_wp2_with (go_at_call 121; refine (far32 _ _ he0).mono ?_; rintro e w1 ⟨rfl, rfl⟩)
            refine (trailingI mag h hm.2 _ (hT.grown (((Gr.refl _).alloc _ _).alloc _ _))).mono ?_
            rintro e w1 ⟨rfl, rfl⟩
            go_wp2
            go_quiet ((go_at_call 123; exact Calls.quiet_of_same (len64J _ _ hj.1 hj.2 hm.2)))
            go_wp2
            go_quiet (fail)
            go_wp2
            go_ret2
            refine ⟨ret_ib ?_ (by simp [jk, hk.out]; omega), gDrewN (gDrewN (((Gr.refl _).alloc _ _).alloc _ _) _) _⟩
            unfold jv jab
            rw [if_neg (by omega), if_pos hk.out, hsj.out]
            rfl
/-- What the world holds: the layouts, and the library's table. -/
structure Env (w : World) : Prop where
  lays : Lays w
  tab : b_Tab w
theorem Env.grown {w w' : World} (h : Env w) (g : Gr w w') : Env w' := ⟨h.lays.grown g, h.tab.grown g⟩
theorem bitsJoin (neg : Bool) (mag exp : Int) (w : World) (E : Env w) (hm : rng mag) (he : rng exp) :
    Calls Tryd.prog 80 #[.bool neg, .int .i64 mag, .int .i64 exp] w fun e w' => e = .returned (.tuple #[.int .i64 (jp neg mag exp), .bool (jk 52 2047 (-1074) mag exp)]) ∧ Gr w w' := by
  have hT := E.tab
  obtain ⟨a0, a1, a2, b0, b1, b2⟩ := E.lays
  have hb := jv_le (mag := mag) (exp := exp) hm
  have ho := or_i64_sign (jv 52 2047 (-1074) mag exp) (by omega) (by omega)
  have Ho := keepIt ho
  clear ho
  cases hk : jk 52 2047 (-1074) mag exp
  all_goals
    have HK := keepIt hk
    cases neg
    all_goals
      go_enter Tryd.func80, Tryd.ntmps80
      go_wp2_with (go_at_call 110; refine (join64 _ _ _ hT hm he).mono ?_; rintro e w1 ⟨rfl, hg⟩)
      go_ret2
      exact ⟨ret_ib (by simp [jp, HK.out, Ho.out]) (by simp [HK.out]), hg⟩
end Go.Proofs.YtlmoeclfjogoaaaDoor

/-
  The document's own answers (plumbref2): Valid, trim, Two, Answer, Cmp, Add, Sub, by contracts over the same values.
-/
namespace Go.Proofs.YtlmoeclfjogoaaaDoor
open Go Go.RowKit Go.Proofs.YtlmoeclfjogoaaaDoor.M
set_option linter.unusedSimpArgs false
set_option linter.unusedVariables false

set_option maxHeartbeats 400000 in
theorem rvalid_any (ao : Option Addr) (n cap : Nat) (d : Nat → Int) (w : World) (h : Row w ao n cap d) :
    Calls Tryd.prog 67 #[.slice ao n cap] w fun e w' => e = .returned (.bool (okB d n)) ∧ w' = w := by
  have hl := h.le
  have hm := h.max
  by_cases h2k : n ≤ 2000
  · by_cases hz : 0 < n ∧ d (n - 1) = 0
    · obtain ⟨h0, hz⟩ := hz
      obtain ⟨b, off, rfl, hb, hc⟩ := h.spot h0
      have c := hc (n - 1) (by omega)
      have hzb : (d (n - 1) == 0) = true := by simp [hz]
      go_enter Tryd.func67, Tryd.ntmps67
      go_wp2
      go_ret
      exact ⟨ret_bool (okB_no (fun ⟨_, q⟩ => by rcases q.2 with e | e <;> omega)).symm, rfl⟩
    · have main : ∀ (P0 : Prop), P0 → Top d n := fun _ _ => by
        by_cases h0 : n = 0
        · exact .inl h0
        · exact .inr (fun e => hz ⟨by omega, e⟩)
      have htop := main True trivial
      clear main
      by_cases h0 : n = 0
      · subst h0
        go_enter Tryd.func67, Tryd.ntmps67
        go_wp2
        go_loop [3] (fun i => i = .int .i64 0) (fun _ => 0)
        case atStart => rfl
        case round =>
          subst hrel
          go_wp2
          go_ret
          exact ⟨ret_bool (okB_yes (by omega) ⟨fun i hi => by omega, htop⟩).symm, rfl⟩
      · obtain ⟨b, off, rfl, hb, hc⟩ := h.spot (by omega)
        have ct := hc (n - 1) (by omega)
        have hzb : (d (n - 1) == 0) = false := by simp; intro e; exact hz ⟨by omega, e⟩
        clear hz
        go_enter Tryd.func67, Tryd.ntmps67
        go_wp2
        go_loop [3] (fun i => ∃ k : Nat, k ≤ n ∧ i = .int .i64 k ∧ Dig d k) (fun i => n - (intOf i).toNat)
        case atStart => exact ⟨0, Nat.zero_le _, rfl, fun i hi => absurd hi (by omega)⟩
        case round =>
          obtain ⟨k, hk, rfl, hd⟩ := hrel
          by_cases hlt : k < n
          · have c := hc k hlt
            by_cases h0 : d k < 0
            · go_wp2
              go_ret
              exact ⟨ret_bool (okB_no (fun ⟨_, q⟩ => by have := (q.1 k hlt).1; omega)).symm, rfl⟩
            · by_cases h1 : 1073741824 ≤ d k
              · go_wp2
                go_ret
                exact ⟨ret_bool (okB_no (fun ⟨_, q⟩ => by have := (q.1 k hlt).2; omega)).symm, rfl⟩
              · go_wp2
                go_round
                case rel => exact ⟨k + 1, by omega, by go_num, dig_snoc hd (by omega) (by omega)⟩
                case measure => simp [intOf]; omega
          · obtain rfl : k = n := by omega
            go_wp2
            go_ret
            exact ⟨ret_bool (okB_yes h2k ⟨hd, htop⟩).symm, rfl⟩
  · go_enter Tryd.func67, Tryd.ntmps67
    go_wp2
    go_ret
    exact ⟨ret_bool (okB_no (fun ⟨q, _⟩ => h2k q)).symm, rfl⟩
set_option maxHeartbeats 400000 in
theorem rtrim_any (g n cap : Nat) (d : Nat → Int) (w : World) (h : Row w (some ⟨g, 0, none⟩) n cap d) :
    Calls Tryd.prog 114 #[.slice (some ⟨g, 0, none⟩) n cap] w fun e w' => ∃ t : Nat, t ≤ n ∧ Top d t ∧ (∀ i, t ≤ i → i < n → d i = 0) ∧ e = .returned (.slice (some ⟨g, 0, none⟩) t cap) ∧ w' = w := by
  have hl := h.le
  have hm := h.max
  go_enter Tryd.func114, Tryd.ntmps114
  go_wp2
  go_loop [3] (fun i => ∃ k : Nat, k ≤ n ∧ i = .int .i64 k ∧ ∀ i, k ≤ i → i < n → d i = 0) (fun i => (intOf i).toNat)
  case atStart => exact ⟨n, Nat.le_refl _, rfl, fun i a b => by omega⟩
  case round =>
    obtain ⟨k, hk, rfl, hz⟩ := hrel
    have HZ : Hid (∀ i, k ≤ i → i < n → d i = 0) := hz
    clear hz
    by_cases h0 : k = 0
    · subst h0
      go_wp2
      go_ret
      exact ⟨0, by omega, .inl rfl, HZ.out, by simp, rfl⟩
    · obtain ⟨b, off, eb, hb, hc⟩ := h.spot (by omega)
      simp only [Option.some.injEq, Addr.mk.injEq, and_true] at eb
      obtain ⟨rfl, rfl⟩ := eb
      have c := hc (k - 1) (by omega)
      rw [Nat.zero_add] at c
      by_cases h1 : d (k - 1) = 0
      · go_wp2
        go_round
        case rel => exact ⟨k - 1, by omega, by go_num, fun i a b => by by_cases e : i = k - 1; (· rw [e]; exact h1); (· exact HZ.out i (by omega) b)⟩
        case measure => simp [intOf]; omega
      · go_wp2
        go_ret
        exact ⟨k, hk, .inr h1, HZ.out, by simp, rfl⟩
theorem top_of {d : Nat → Int} {t : Nat} (hd : Dig d t) (h : 0 < t → P (t - 1) ≤ val d t) : Top d t := by
  by_cases h0 : t = 0
  · exact .inl h0
  · refine .inr fun e => ?_
    obtain ⟨k, rfl⟩ : ∃ k, t = k + 1 := ⟨t - 1, by omega⟩
    rw [Nat.add_sub_cancel] at e h
    have h1 := h (by omega)
    rw [val_succ, e] at h1
    have h2 := val_lt (hd.le (Nat.le_succ k))
    omega
theorem cat_upd (r : Nat → Int) (k : Nat) (x : Int) : ∀ i, i < k + 1 → cat r k (fun _ => x) i = upd r k x i := fun i hi => by
  by_cases e : i < k
  · simp [cat, e, upd_other r _ (show i ≠ k by omega)]
  · obtain rfl : i = k := by omega
    simp [cat, upd_same]
theorem dig_upd2 {r : Nat → Int} {k : Nat} {x : Int} (h : Dig r k) (hx : 0 ≤ x ∧ x < 1073741824) : Dig (upd r k x) (k + 1) := fun i hi => by
  by_cases e : i = k
  · rw [e, upd_same]; exact hx
  · rw [upd_other r x e]; exact h i (by omega)
set_option maxHeartbeats 1000000 in
theorem radd_any (ao bo : Option Addr) (n m ca cb : Nat) (a b : Nat → Int) (w : World) (ha : Row w ao n ca a) (hb : Row w bo m cb b) (na : Nrm a n) (nb : Nrm b m) (hn : n ≤ 100000) (hm : m ≤ 100000) :
    Calls Tryd.prog 85 #[.slice ao n ca, .slice bo m cb] w fun e w' => ∃ v, e = .returned v ∧ Ans w w' (val a n + val b m) v := by
  have hla := ha.le
  have hma := ha.max
  have hlb := hb.le
  have hmb := hb.max
  have da := na.1
  have db := nb.1
  obtain ⟨M, hM1, hM2, hM3⟩ : ∃ M, n ≤ M ∧ m ≤ M ∧ (M ≤ n ∨ M ≤ m) := ⟨max n m, by omega, by omega, by omega⟩
  go_enter Tryd.func85, Tryd.ntmps85
  go_wp2
  go_loopw [5, 6, 7] (fun l c i wr => ∃ (k : Nat) (q : Int) (r : Nat → Int), (k ≤ M ∨ (k = M + 1 ∧ q = 0)) ∧ i = .int .i64 k ∧ c = .int .i64 q ∧ 0 ≤ q ∧ q ≤ 1 ∧ Out w.heap.size wr l k r ∧ Dig r k ∧ Hid (val r k + q * P k = val (ext a n) k + val (ext b m) k) ∧ Hid (k = M + 1 → P M ≤ val a n + val b m) ∧ Below w.heap.size w wr) (fun _ _ i _ => M + 1 - (intOf i).toNat)
  case atStart => exact ⟨0, 0, fun _ => 0, .inl (Nat.zero_le _), rfl, rfl, by omega, by omega, Out.nil _ _ _, fun i hi => by omega, by show _ = _; rfl, fun h => by omega, bel_refl _⟩
  case round =>
    obtain ⟨k, q, r, hk, rfl, rfl, hq0, hq1, hO, hD, HV, HT, hbw⟩ := hrel
    have hkM : k ≤ M + 1 := by omega
    by_cases hkn : k < n
    · by_cases hkm : k < m
      · obtain ⟨ba, fa, rfl, hba, hca⟩ := ha.spot (by omega)
        have c1 := (hbw.cell (p := ⟨ba, fa + k, none⟩) hba).trans (hca k hkn)
        have dk := da k hkn
        obtain ⟨bb, fb, rfl, hbb, hcb⟩ := hb.spot (by omega)
        have c2 := (hbw.cell (p := ⟨bb, fb + k, none⟩) hbb).trans (hcb k hkm)
        have dbk := db k hkm
        have HX : Hid (q + a k + b k = q + (ext a n k + ext b m k)) := by show _ = _; rw [ext_lt a hkn, ext_lt b hkm]; omega
        go_wp2_with (at_builtin; refine wpList_app rfl _ _ rfl w.heap.size _ k r rfl (hO.stays (bel_alloc _ _)) _ 1 1 (fun _ => (q + a k + b k) % 1073741824) rfl (row1 _ _ rfl) (by omega) (by have := hbw.size; simp; omega) ?_; intro v' w1 hO1 hg1)
        have hb1 : Below w.heap.size w w1 := (hbw.alloc hbw.size _).grown hg1 (by have := hbw.size; simp; omega) (own_ge hO)
        have hs := sum_step (x := ext a n k + ext b m k) HV.out
        rw [← HX.out] at hs
        go_roundw
        case rel => exact ⟨k + 1, (q + a k + b k) / 1073741824, upd r k ((q + a k + b k) % 1073741824), by omega, by go_num, rfl, by omega, by omega, hO1.congr (cat_upd r k _), dig_upd2 hD (mod_dig _), by show _ = _; rw [hs, val_succ, val_succ]; grind, fun h => by omega, hb1⟩
        case measure => simp [intOf]; omega
      · obtain ⟨ba, fa, rfl, hba, hca⟩ := ha.spot (by omega)
        have c1 := (hbw.cell (p := ⟨ba, fa + k, none⟩) hba).trans (hca k hkn)
        have dk := da k hkn
        have HX : Hid (q + a k = q + (ext a n k + ext b m k)) := by show _ = _; rw [ext_lt a hkn, ext_ge b (by omega)]; omega
        go_wp2_with (at_builtin; refine wpList_app rfl _ _ rfl w.heap.size _ k r rfl (hO.stays (bel_alloc _ _)) _ 1 1 (fun _ => (q + a k) % 1073741824) rfl (row1 _ _ rfl) (by omega) (by have := hbw.size; simp; omega) ?_; intro v' w1 hO1 hg1)
        have hb1 : Below w.heap.size w w1 := (hbw.alloc hbw.size _).grown hg1 (by have := hbw.size; simp; omega) (own_ge hO)
        have hs := sum_step (x := ext a n k + ext b m k) HV.out
        rw [← HX.out] at hs
        go_roundw
        case rel => exact ⟨k + 1, (q + a k) / 1073741824, upd r k ((q + a k) % 1073741824), by omega, by go_num, rfl, by omega, by omega, hO1.congr (cat_upd r k _), dig_upd2 hD (mod_dig _), by show _ = _; rw [hs, val_succ, val_succ]; grind, fun h => by omega, hb1⟩
        case measure => simp [intOf]; omega
    · by_cases hkm : k < m
      · obtain ⟨bb, fb, rfl, hbb, hcb⟩ := hb.spot (by omega)
        have c2 := (hbw.cell (p := ⟨bb, fb + k, none⟩) hbb).trans (hcb k hkm)
        have dbk := db k hkm
        have HX : Hid (q + b k = q + (ext a n k + ext b m k)) := by show _ = _; rw [ext_ge a (by omega), ext_lt b hkm]; omega
        go_wp2_with (at_builtin; refine wpList_app rfl _ _ rfl w.heap.size _ k r rfl (hO.stays (bel_alloc _ _)) _ 1 1 (fun _ => (q + b k) % 1073741824) rfl (row1 _ _ rfl) (by omega) (by have := hbw.size; simp; omega) ?_; intro v' w1 hO1 hg1)
        have hb1 : Below w.heap.size w w1 := (hbw.alloc hbw.size _).grown hg1 (by have := hbw.size; simp; omega) (own_ge hO)
        have hs := sum_step (x := ext a n k + ext b m k) HV.out
        rw [← HX.out] at hs
        go_roundw
        case rel => exact ⟨k + 1, (q + b k) / 1073741824, upd r k ((q + b k) % 1073741824), by omega, by go_num, rfl, by omega, by omega, hO1.congr (cat_upd r k _), dig_upd2 hD (mod_dig _), by show _ = _; rw [hs, val_succ, val_succ]; grind, fun h => by omega, hb1⟩
        case measure => simp [intOf]; omega
      · by_cases hq : 0 < q
        · have hkE : k = M := by omega
          have HTT : Hid (P M ≤ val a n + val b m) := by
            show _ ≤ _
            have h := HV.out
            rw [val_ext a (by omega), val_ext b (by omega), show q = 1 by omega, hkE] at h
            have := val_nonneg hD
            rw [hkE] at this
            omega
          have HX : Hid (q = q + (ext a n k + ext b m k)) := by show _ = _; rw [ext_ge a (by omega), ext_ge b (by omega)]; omega
          go_wp2_with (at_builtin; refine wpList_app rfl _ _ rfl w.heap.size _ k r rfl (hO.stays (bel_alloc _ _)) _ 1 1 (fun _ => (q) % 1073741824) rfl (row1 _ _ rfl) (by omega) (by have := hbw.size; simp; omega) ?_; intro v' w1 hO1 hg1)
          have hb1 : Below w.heap.size w w1 := (hbw.alloc hbw.size _).grown hg1 (by have := hbw.size; simp; omega) (own_ge hO)
          have hs := sum_step (x := ext a n k + ext b m k) HV.out
          rw [← HX.out] at hs
          go_roundw
          case rel => exact ⟨k + 1, (q) / 1073741824, upd r k ((q) % 1073741824), by omega, by go_num, rfl, by omega, by omega, hO1.congr (cat_upd r k _), dig_upd2 hD (mod_dig _), by show _ = _; rw [hs, val_succ, val_succ]; grind, fun h => HTT.out, hb1⟩
          case measure => simp [intOf]; omega
        · obtain rfl : q = 0 := by omega
          have hkMM : M ≤ k := by omega
          have hcd : decide ((0 : Int) < 0) = false := by decide
          go_wp2
          go_ret
          have hv : val r k = val a n + val b m := by
            have h := HV.out
            rw [val_ext a (by omega), val_ext b (by omega)] at h
            omega
          refine ⟨_, rfl, k, r, hO, ⟨hD, top_of hD fun hk0 => ?_⟩, hv, hbw⟩
          rw [hv]
          have A0 := val_nonneg da
          have B0 := val_nonneg db
          rcases hk with h | ⟨h, _⟩
          · obtain rfl : k = M := by omega
            rcases hM3 with q | q
            · obtain rfl : k = n := by omega
              have := val_top da hk0 na.2
              omega
            · obtain rfl : k = m := by omega
              have := val_top db hk0 nb.2
              omega
          · rw [h, Nat.add_sub_cancel]; exact HT.out h
end Go.Proofs.YtlmoeclfjogoaaaDoor
