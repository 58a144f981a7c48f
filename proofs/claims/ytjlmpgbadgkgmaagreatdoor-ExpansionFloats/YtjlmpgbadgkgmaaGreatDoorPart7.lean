/-
  Parts of the proof, one behind another.
-/
import Derived.Test.YtjlmpgbadgkgmaaGreatDoorPart2
import Derived.Test.YtjlmpgbadgkgmaaGreatDoorPart6
import Derived.Lib.BitFns
import Derived.Lib.TrailingZeros
import Derived.Laws.Bits64b
import Derived.Test.YtjlmpgbadgkgmaaGreatDoorPart5
import Derived.Deep.RegionWith
import Derived.WalkLawsBesides
import Derived.Deep.RegionHeld3
import Derived.Test.YtjlmpgbadgkgmaaGreatDoorPart4
import Derived.Test.YtjlmpgbadgkgmaaGreatDoorPart3
import Derived.Test.YtjlmpgbadgkgmaaGreatDoorPart1
import Derived.Deep.LoopGhost
/-
  math/bits.TrailingZeros; nat's lowest, Low, Bit, Shr, Div, by contracts.
-/
namespace Go.Proofs.YtjlmpgbadgkgmaaGreatDoor
open Go Go.RowKit Go.Proofs.YtjlmpgbadgkgmaaGreatDoor.M
set_option linter.unusedSimpArgs false
set_option linter.unusedVariables false

/-- The library's table of trailing zeros. -/
def Tab (w : World) : Prop := ∀ j, j < 64 → w.cell? ⟨2, j, none⟩ = some (.int .u8 ((Lib.deBruijn64tab.getD j 0 : Nat) : Int))
theorem Tab.keeps {w w' : World} (h : Tab w) (hb : Below w.heap.size w w') : Tab w' := fun j hj =>
  (hb.cell (p := ⟨2, j, none⟩) (World.block_lt_of_cell? w _ (h j hj))).trans (h j hj)
theorem tz_key (x a : Nat) (hx : x < 18446744073709551616) (hx0 : x ≠ 0) (hlow : x &&& (18446744073709551616 - x) = a) :
    IntKind.u64.wrap (bits .and .u64 (x : Int) (IntKind.u64.wrap (-(x : Int))) * 285870213051353865) / 288230376151711744 = ((a * 285870213051353865 % 18446744073709551616 / 288230376151711744 : Nat) : Int) := by
  have e1 : IntKind.u64.wrap (-(x : Int)) = ((18446744073709551616 - x : Nat) : Int) := by rw [IntKind.wrap_u64]; omega
  rw [e1, bits_and_u64_nat x _ hx (by omega), hlow, IntKind.wrap_u64]
  omega
set_option maxHeartbeats 1000000 in
theorem tz_core (x k idx : Nat) (w : World) (hx0 : ((x : Int) == 0) = false)
    (key : IntKind.u64.wrap (bits .and .u64 (x : Int) (IntKind.u64.wrap (-(x : Int))) * 285870213051353865) / 288230376151711744 = (idx : Int))
    (hi : idx < 64) (hk : k < 64) (hcell : w.cell? ⟨2, idx, none⟩ = some (.int .u8 k)) :
    Calls Tryz.prog 54 #[.int .u64 x] w fun e w' => e = .returned (.int .i64 k) ∧ w' = w := by
  go_enter Tryz.func54, Tryz.ntmps54
  go_wp2_with (simp only [key])
  go_ret
  exact ⟨rfl, rfl⟩
theorem trailing64 (x : Nat) (hx : x < 18446744073709551616) (h0 : x ≠ 0) (w : World) (hT : Tab w) :
    Calls Tryz.prog 54 #[.int .u64 x] w fun e w' => e = .returned (.int .i64 (Lib.ctz 64 x)) ∧ w' = w := by
  obtain ⟨hlow, hk⟩ := Lib.lowest_bit 64 x h0 hx
  obtain ⟨hi, htab⟩ := Lib.deBruijn64_at _ hk
  have hcell := hT _ hi
  rw [htab] at hcell
  exact tz_core x _ _ w (by simp; omega) (tz_key x _ hx h0 hlow) hi hk hcell
theorem trailing64I (x : Int) (hx0 : 0 < x) (hx : x < 1073741824) (w : World) (hT : Tab w) :
    Calls Tryz.prog 54 #[.int .u64 x] w fun e w' => ∃ l : Nat, e = .returned (.int .i64 l) ∧ (l < 64 ∧ IsLow x l) ∧ w' = w := by
  obtain ⟨n, rfl⟩ := Int.eq_ofNat_of_zero_le (Int.le_of_lt hx0)
  obtain ⟨m, hm, hk⟩ := Lib.ctzFrom_spec 64 n (by omega) (by omega)
  have e : Lib.ctz 64 n = Lib.ctzFrom 64 n := by simp [Lib.ctz]; omega
  rw [← e] at hm hk
  refine (trailing64 n (by omega) (by omega) _ hT).mono ?_
  rintro e w' ⟨rfl, rfl⟩
  refine ⟨_, rfl, ⟨hk, m, ?_⟩, rfl⟩
  have : ((n : Nat) : Int) = ((2 ^ Lib.ctz 64 n * (2 * m + 1) : Nat) : Int) := congrArg _ hm
  rw [this, Int.natCast_mul, Int.mul_comm]; simp
theorem trailing (x : Int) (hx0 : 0 < x) (hx : x < 1073741824) (w : World) (hT : Tab w) :
    Calls Tryz.prog 32 #[.int .u64 x] w fun e w' => ∃ l : Nat, e = .returned (.int .i64 l) ∧ (l < 64 ∧ IsLow x l) ∧ w' = w := by
  go_enter Tryz.func32, Tryz.ntmps32
  go_wp2_with fail
  refine (trailing64I x hx0 hx _ hT).mono ?_
  rintro e w' ⟨l, rfl, hl, rfl⟩
  go_wp2
  go_ret
  exact ⟨_, rfl, hl, rfl⟩
theorem low_unique {V : Int} {l k : Nat} (h : IsLow V l) (h' : IsLow V k) : l = k := by
  have key : ∀ (l k : Nat) (V : Int), IsLow V l → IsLow V k → ¬ l < k := fun l k V ⟨m, hm⟩ ⟨m', hm'⟩ hlt => by
    obtain ⟨d, rfl⟩ : ∃ d, k = l + 1 + d := ⟨k - l - 1, by omega⟩
    rw [hm, Int.pow_add, Int.pow_add] at hm'
    have e : (2 * m + 1) * 2 ^ l = ((2 * m' + 1) * (2 ^ d * 2)) * 2 ^ l := by rw [hm']; grind
    have e2 := Int.eq_of_mul_eq_mul_right (Int.ne_of_gt (two_pos l)) e
    have e3 : (2 * m' + 1) * (2 ^ d * 2) = 2 * ((2 * m' + 1) * 2 ^ d) := by grind
    rw [e3] at e2
    generalize (2 * m' + 1) * 2 ^ d = Z at e2
    omega
  rcases Nat.lt_trichotomy l k with q | q | q
  · exact absurd q (key l k V h h')
  · exact q
  · exact absurd q (key k l V h' h)
theorem low_shift {V : Int} {l k : Nat} (h : IsLow V l) : IsLow (V * 2 ^ k) (l + k) := by
  obtain ⟨m, rfl⟩ := h
  exact ⟨m, by rw [Int.pow_add, Int.mul_assoc]⟩
theorem isLow_val {d : Nat → Int} {n i l : Nat} (hi : i < n) (hz : ∀ j, j < i → d j = 0) (h : IsLow (d i) l) (hl : l < 30) : IsLow (val d n) (30 * i + l) := by
  obtain ⟨m, hm⟩ := h
  have e1 : val d n = P i * val (fun j => d (i + j)) (n - i) := by
    have := val_shift0 d i (n - i) hz
    rwa [show i + (n - i) = n by omega] at this
  obtain ⟨r, hr⟩ : ∃ r, n - i = r + 1 := ⟨n - i - 1, by omega⟩
  have e2 : val (fun j => d (i + j)) (n - i) = d i + 1073741824 * val (fun j => d (i + (j + 1))) r := by
    rw [hr]
    have h := val_split (fun j => d (i + j)) 1 r
    rw [Nat.add_comm 1 r] at h
    rw [h]
    have e : (fun j => d (i + (1 + j))) = fun j => d (i + (j + 1)) := by funext j; rw [Nat.add_comm 1 j]
    show 0 + d (i + 0) * 1 + 1 * 1073741824 * _ = _
    rw [e, Nat.add_zero]; omega
  have e3 : (1073741824 : Int) = 2 ^ l * (2 * 2 ^ (29 - l)) := by
    rw [← Int.mul_assoc, Int.mul_comm (2 ^ l) 2, Int.mul_assoc, ← Int.pow_add, show l + (29 - l) = 29 by omega]; rfl
  refine ⟨m + 2 ^ (29 - l) * val (fun j => d (i + (j + 1))) r, ?_⟩
  rw [e1, e2, hm, e3, Int.pow_add, ← P_two]
  grind
theorem low_lt {x : Int} {l : Nat} (h0 : 0 < x) (h1 : x < 1073741824) (h : IsLow x l) : l < 30 := by
  obtain ⟨m, hm⟩ := h
  rcases Nat.lt_or_ge l 30 with q | q
  · exact q
  · have h2 : (2 : Int) ^ 30 ≤ 2 ^ l := two_le q
    have h3 : 0 < 2 * m + 1 := by
      rcases Int.lt_or_le 0 (2 * m + 1) with r | r
      · exact r
      · have := Int.mul_nonneg (show 0 ≤ -(2 * m + 1) by omega) (Int.le_of_lt (two_pos l))
        rw [Int.neg_mul, ← hm] at this
        omega
    have h4 : 1 * 2 ^ l ≤ (2 * m + 1) * 2 ^ l := mul_le_r (by omega) (Int.le_of_lt (two_pos l))
    have h5 : (2 : Int) ^ 30 = 1073741824 := rfl
    omega
/-- What lowest tells. -/
def LowA (V l : Int) : Prop := (V = 0 ∧ l = -1) ∨ ∃ k : Nat, l = k ∧ IsLow V k
/-- Is bit i set? -/
def bitB (V : Int) (i : Nat) : Bool := V / 2 ^ i % 2 == 1
theorem bit_val {d : Nat → Int} {n q p : Nat} (hd : Dig d n) (hq : q < n) (hp : p < 30) : val d n / 2 ^ (30 * q + p) % 2 = d q / 2 ^ p % 2 := by
  have hpw := P_pos q
  rw [Int.pow_add, ← P_two, ← Int.ediv_ediv_of_nonneg (Int.le_of_lt hpw), ← val_drop d (by omega) hd]
  obtain ⟨r, hr⟩ : ∃ r, n - q = r + 1 := ⟨n - q - 1, by omega⟩
  have h := val_split (fun j => d (q + j)) 1 r
  rw [Nat.add_comm 1 r] at h
  rw [hr, h]
  have e3 : (1073741824 : Int) = 2 * 2 ^ (29 - p) * 2 ^ p := by
    rw [Int.mul_assoc, ← Int.pow_add, show 29 - p + p = 29 by omega]; rfl
  have e4 : val (fun j => d (q + j)) 1 + P 1 * val (fun i => d (q + (1 + i))) r = d q + (2 * 2 ^ (29 - p) * val (fun i => d (q + (1 + i))) r) * 2 ^ p := by
    show 0 + d (q + 0) * 1 + 1 * 1073741824 * _ = _
    rw [Nat.add_zero, e3]; grind
  rw [e4, Int.add_mul_ediv_right _ _ (Int.ne_of_gt (two_pos p)), Int.mul_assoc 2, Int.add_mul_emod_self_left]
theorem bit_high {V : Int} {i : Nat} (h0 : 0 ≤ V) (h : blen V ≤ i) : bitB V i = false := by
  have h1 := blen_lt V
  have h2 : (2 : Int) ^ blen V ≤ 2 ^ i := two_le h
  unfold bitB
  rw [Int.ediv_eq_zero_of_lt h0 (Int.lt_of_lt_of_le h1 h2)]; rfl
end Go.Proofs.YtjlmpgbadgkgmaaGreatDoor

/-
  Package dyadic: settle, by its contract: the one form of a number, or it gives up.
-/
namespace Go.Proofs.YtjlmpgbadgkgmaaGreatDoor
open Go Go.RowKit Go.Proofs.YtjlmpgbadgkgmaaGreatDoor.M
set_option linter.unusedSimpArgs false
set_option linter.unusedVariables false

theorem lowA_pos {V l : Int} (h : LowA V l) (h0 : 0 < V) : ∃ k : Nat, l = k ∧ IsLow V k := by
  rcases h with ⟨h1, _⟩ | h
  · omega
  · exact h
theorem isLow_lt {d : Nat → Int} {n k : Nat} (hd : Dig d n) (h0 : 0 < val d n) (h : IsLow (val d n) k) : k < 30 * n := by
  have h1 := val_lt hd
  rw [P_two] at h1
  obtain ⟨a, b, c⟩ := isLow_odd h h0
  have h2 : (1 : Int) * 2 ^ k ≤ val d n / 2 ^ k * 2 ^ k := Int.mul_le_mul_of_nonneg_right (by omega) (Int.le_of_lt (two_pos k))
  exact two_lt_iff (by omega)
/-- What is answered, when a result's own variable is written behind it. -/
theorem ans_res {w W w3 : World} {V : Int} {v : Value} (hv : Ans W w3 V v) (hb : Below w.heap.size w W) {g : Nat} (h0 : w.heap.size ≤ g) (h1 : g < W.heap.size) (a b c : Value) :
    Ans w (((w3.setCell ⟨g, 0, none⟩ a).setCell ⟨g, 1, none⟩ b).setCell ⟨g, 2, none⟩ c) V v := by
  obtain ⟨t, d, hO, hN, hV, hB⟩ := hv
  refine ⟨t, d, ?_, hN, hV, ?_⟩
  · exact (((hO.set_below (a := ⟨g, 0, none⟩) h1 a).set_below (a := ⟨g, 1, none⟩) h1 b).set_below (a := ⟨g, 2, none⟩) h1 c).lower hb.size
  · exact (((hb.trans (hB.mono hb.size)).setCell (p := ⟨g, 0, none⟩) h0 a).setCell (p := ⟨g, 1, none⟩) h0 b).setCell (p := ⟨g, 2, none⟩) h0 c
end Go.Proofs.YtjlmpgbadgkgmaaGreatDoor

/-
  Package dyadic: settle by the number that it is about; Make.
-/
namespace Go.Proofs.YtjlmpgbadgkgmaaGreatDoor
open Go Go.RowKit Go.Proofs.YtjlmpgbadgkgmaaGreatDoor.M
set_option linter.unusedSimpArgs false
set_option linter.unusedVariables false

theorem low_ex : ∀ (n : Nat) (M : Int), M.natAbs ≤ n → 0 < M → ∃ l, IsLow M l := by
  intro n
  induction n with
  | zero => intro M h h0; omega
  | succ n ih =>
    intro M h h0
    by_cases hp : M % 2 = 1
    · exact ⟨0, M / 2, by rw [Int.pow_zero]; omega⟩
    · obtain ⟨l, m, hm⟩ := ih (M / 2) (by omega) (by omega)
      refine ⟨l + 1, m, ?_⟩
      rw [Int.pow_succ, ← Int.mul_assoc, ← hm]; omega
theorem isLow_ex {M : Int} (h : 0 < M) : ∃ l, IsLow M l := low_ex M.natAbs M (Nat.le_refl _) h
/-- The panic of a number too long. -/
def gaveUp : Ending := .panicked [{ v := .iface 32 (.int .i64 2), recovered := false }]
theorem DFit.shape {w w' : World} {V er : Int} {v : Value} (h : DFit w w' V v er) : ∃ ng so sn sc e, v = .agg #[.bool ng, .slice so sn sc, .int .i64 e] := by
  rcases h.2 with ⟨_, _, ng, s, m, e, h1, _, hA⟩ | ⟨_, _, h1⟩
  · obtain ⟨so, sn, sc, rfl⟩ := hA.num.shape
    exact ⟨_, _, _, _, _, h1⟩
  · exact ⟨_, _, _, _, _, h1⟩
theorem dans_res3 {w W w3 : World} {V : Int} {v : Value} (hv : DAns W w3 V v) (hb : Below w.heap.size w W) {g : Nat} (h0 : w.heap.size ≤ g) (h1 : g < W.heap.size) (a b c : Value) :
    DAns w (((w3.setCell ⟨g, 0, none⟩ a).setCell ⟨g, 1, none⟩ b).setCell ⟨g, 2, none⟩ c) V v := by
  obtain ⟨ng, s, m, e, h2, h3, hA⟩ := hv
  exact ⟨ng, s, m, e, h2, h3, ans_res hA hb h0 h1 a b c⟩
theorem dfit_res {w W w3 : World} {V er : Int} {v : Value} (hv : DFit W w3 V v er) (hb : Below w.heap.size w W) {g : Nat} (h0 : w.heap.size ≤ g) (h1 : g < W.heap.size) (a b c : Value) :
    DFit w (((w3.setCell ⟨g, 0, none⟩ a).setCell ⟨g, 1, none⟩ b).setCell ⟨g, 2, none⟩ c) V v er := by
  refine ⟨(((hb.trans (hv.1.mono hb.size)).setCell (p := ⟨g, 0, none⟩) h0 a).setCell (p := ⟨g, 1, none⟩) h0 b).setCell (p := ⟨g, 2, none⟩) h0 c, ?_⟩
  rcases hv.2 with ⟨o1, o2, o3⟩ | o
  · exact .inl ⟨o1, o2, dans_res3 o3 hb h0 h1 a b c⟩
  · exact .inr o
theorem heap_a1 (w : World) (a : Obj) : (w.alloc a).heap[w.heap.size]? = some a := by
  show (w.heap.push a)[w.heap.size]? = some a
  simp
theorem size1 (w : World) (a : Obj) : (w.alloc a).heap.size = w.heap.size + 1 := by
  show (w.heap.push a).size = _
  simp
theorem cell_keeps {w w' : World} {p : Addr} {v : Value} (h : w.cell? p = some v) (hb : Below w.heap.size w w') : w'.cell? p = some v :=
  (hb.cell (World.block_lt_of_cell? w _ h)).trans h
theorem size_alloc (w : World) (a : Obj) : (w.alloc a).heap.size = w.heap.size + 1 := size1 w a
theorem heap_past {w : World} {k : Nat} {x : Obj} (o : Obj) (h : w.heap[k]? = some x) : (w.alloc o).heap[k]? = some x :=
  (Below.heap_alloc w o k (Array.getElem?_eq_some_iff.1 h).1).trans h
theorem heap_new {w : World} {k : Nat} (o : Obj) (h : k = w.heap.size) : (w.alloc o).heap[k]? = some o := by rw [h]; exact heap_a1 w o
theorem h4_0 (w : World) (a b c d : Obj) : ((((w.alloc a).alloc b).alloc c).alloc d).heap[w.heap.size]? = some a := heap_past _ (heap_past _ (heap_past _ (heap_a1 w a)))
theorem h4_1 (w : World) (a b c d : Obj) : ((((w.alloc a).alloc b).alloc c).alloc d).heap[w.heap.size + 1]? = some b := heap_past _ (heap_past _ (heap_new _ (by rw [size_alloc])))
theorem h4_2 (w : World) (a b c d : Obj) : ((((w.alloc a).alloc b).alloc c).alloc d).heap[w.heap.size + 2]? = some c := heap_past _ (heap_new _ (by rw [size_alloc, size_alloc]))
theorem h4_3 (w : World) (a b c d : Obj) : ((((w.alloc a).alloc b).alloc c).alloc d).heap[w.heap.size + 3]? = some d := heap_new _ (by rw [size_alloc, size_alloc, size_alloc])
theorem h3_0 (w : World) (a b c : Obj) : (((w.alloc a).alloc b).alloc c).heap[w.heap.size]? = some a := heap_past _ (heap_past _ (heap_a1 w a))
theorem h3_1 (w : World) (a b c : Obj) : (((w.alloc a).alloc b).alloc c).heap[w.heap.size + 1]? = some b := heap_past _ (heap_new _ (by rw [size_alloc]))
theorem h3_2 (w : World) (a b c : Obj) : (((w.alloc a).alloc b).alloc c).heap[w.heap.size + 2]? = some c := heap_new _ (by rw [size_alloc, size_alloc])
theorem bel_a3 (w : World) (a b c : Obj) : Below w.heap.size w (((w.alloc a).alloc b).alloc c) := (bel_alloc2 w a b).alloc (by rw [size2]; omega) _
theorem size3 (w : World) (a b c : Obj) : (((w.alloc a).alloc b).alloc c).heap.size = w.heap.size + 3 := by rw [size_alloc, size2]
theorem bel_a4 (w : World) (a b c d : Obj) : Below w.heap.size w ((((w.alloc a).alloc b).alloc c).alloc d) := (bel_a3 w a b c).alloc (by rw [size3]; omega) _
theorem size4 (w : World) (a b c d : Obj) : ((((w.alloc a).alloc b).alloc c).alloc d).heap.size = w.heap.size + 4 := by rw [size_alloc, size3]
end Go.Proofs.YtjlmpgbadgkgmaaGreatDoor

/-
  Package dyadic: reach, by its contract.
-/
namespace Go.Proofs.YtjlmpgbadgkgmaaGreatDoor
open Go Go.RowKit Go.Proofs.YtjlmpgbadgkgmaaGreatDoor.M
set_option linter.unusedSimpArgs false
set_option linter.unusedVariables false

/-- A number's own block, behind a call. -/
theorem keepB {W w' : World} {g : Nat} {a b c : Value} (h : W.cell? ⟨g, 0, none⟩ = some a ∧ W.cell? ⟨g, 1, none⟩ = some b ∧ W.cell? ⟨g, 2, none⟩ = some c) (hb : Below W.heap.size W w') :
    w'.cell? ⟨g, 0, none⟩ = some a ∧ w'.cell? ⟨g, 1, none⟩ = some b ∧ w'.cell? ⟨g, 2, none⟩ = some c := ⟨cell_keeps h.1 hb, cell_keeps h.2.1 hb, cell_keeps h.2.2 hb⟩
theorem keepW {W w' : World} {g o : Nat} {a b c : Value} (h : W.cell? ⟨g, 0, none⟩ = some a ∧ W.cell? ⟨g, 1, none⟩ = some b ∧ W.cell? ⟨g, 2, none⟩ = some c) (hw : Wr o W w') (hg : g ≠ o) :
    w'.cell? ⟨g, 0, none⟩ = some a ∧ w'.cell? ⟨g, 1, none⟩ = some b ∧ w'.cell? ⟨g, 2, none⟩ = some c :=
  ⟨(hw.cell (World.block_lt_of_cell? W _ h.1) hg).trans h.1, (hw.cell (World.block_lt_of_cell? W _ h.2.1) hg).trans h.2.1, (hw.cell (World.block_lt_of_cell? W _ h.2.2) hg).trans h.2.2⟩
theorem keepS {W : World} {g o : Nat} {a b c : Value} (h : W.cell? ⟨g, 0, none⟩ = some a ∧ W.cell? ⟨g, 1, none⟩ = some b ∧ W.cell? ⟨g, 2, none⟩ = some c) (hg : g ≠ o) (x y z : Value) :
    (((W.setCell ⟨o, 0, none⟩ x).setCell ⟨o, 1, none⟩ y).setCell ⟨o, 2, none⟩ z).cell? ⟨g, 0, none⟩ = some a ∧ (((W.setCell ⟨o, 0, none⟩ x).setCell ⟨o, 1, none⟩ y).setCell ⟨o, 2, none⟩ z).cell? ⟨g, 1, none⟩ = some b ∧ (((W.setCell ⟨o, 0, none⟩ x).setCell ⟨o, 1, none⟩ y).setCell ⟨o, 2, none⟩ z).cell? ⟨g, 2, none⟩ = some c :=
  keepW h (((Wr.refl o W).setCell 0 x |>.setCell 1 y).setCell 2 z) hg
/-- Numbers that can be summed: lists without zeros on top, not too long, exponents not too far. -/
def Sane (r : NumR) : Prop := Nrm r.d r.n ∧ r.n ≤ 5000 ∧ -1100000 ≤ r.e ∧ r.e ≤ 1100000
/-- The exponents between which the bits of the first k numbers lie. -/
structure Rch (r : Nat → NumR) (k : Nat) (low high : Int) : Prop where
  none : (∀ i, i < k → (r i).n = 0) → low = 9223372036854775807 ∧ high = -9223372036854775808
  some : (∃ i, i < k ∧ 0 < (r i).n) → -1100000 ≤ low ∧ low ≤ 1100000 ∧ -1100000 ≤ high ∧ high ≤ 1250000
  all : ∀ i, i < k → 0 < (r i).n → low ≤ (r i).e ∧ (r i).e + blen (val (r i).d (r i).n) ≤ high
theorem Sane.len {x : NumR} (h : Sane x) : blen (val x.d x.n) ≤ 150000 := by
  have := blen_le (V := val x.d x.n) (k := 30 * x.n) (by rw [← P_two]; exact val_lt h.1.1)
  have := h.2.1
  omega
theorem Rch.zero {r : Nat → NumR} {k : Nat} {low high : Int} (h : Rch r k low high) (h0 : (r k).n = 0) : Rch r (k + 1) low high :=
  ⟨fun hx => h.none fun i hi => hx i (by omega), fun ⟨i, hi, hp⟩ => h.some ⟨i, by
    by_cases e : i = k
    · subst e; omega
    · omega, hp⟩, fun i hi hp => by
    by_cases e : i = k
    · subst e; omega
    · exact h.all i (by omega) hp⟩
theorem Rch.step {r : Nat → NumR} {k : Nat} {low high : Int} (h : Rch r k low high) (h0 : 0 < (r k).n) (hs : Sane (r k)) : Rch r (k + 1) (min low (r k).e) (max high ((r k).e + blen (val (r k).d (r k).n))) := by
  obtain ⟨s1, s2, s3, s4⟩ := id hs
  have s5 := hs.len
  refine ⟨fun hx => by have := hx k (by omega); omega, fun _ => ?_, fun i hi hp => ?_⟩
  · by_cases hx : ∀ i, i < k → (r i).n = 0
    · obtain ⟨a, b⟩ := h.none hx
      subst a b
      omega
    · have : ∃ i, i < k ∧ 0 < (r i).n := by
        simp only [Classical.not_forall] at hx
        obtain ⟨i, hi, hp⟩ := hx
        exact ⟨i, hi, by omega⟩
      have := h.some this
      omega
  · by_cases e : i = k
    · subst e; omega
    · have := h.all i (by omega) hp; omega
end Go.Proofs.YtjlmpgbadgkgmaaGreatDoor

/-
  Package digits: Carry, by its contract: columns become digits, in their place.
-/
namespace Go.Proofs.YtjlmpgbadgkgmaaGreatDoor
open Go Go.RowKit Go.Proofs.YtjlmpgbadgkgmaaGreatDoor.M
set_option linter.unusedSimpArgs false
set_option linter.unusedVariables false

theorem carry_sign {S R o Pn : Int} (hP : 0 < Pn) (h0 : 0 ≤ R) (h1 : R < Pn) (e : R + o * Pn = S) (hS : -Pn < S ∧ S < Pn) : (0 ≤ S ∧ o = 0 ∧ R = S) ∨ (S < 0 ∧ o = -1 ∧ R = S + Pn) := by
  by_cases ho : 0 ≤ o
  · by_cases ho1 : o = 0
    · subst ho1; left; omega
    · have : 1 * Pn ≤ o * Pn := Int.mul_le_mul_of_nonneg_right (by omega) (by omega)
      omega
  · by_cases ho1 : o = -1
    · subst ho1; right; omega
    · have : o * Pn ≤ (-2) * Pn := Int.mul_le_mul_of_nonneg_right (by omega) (by omega)
      omega
theorem val_neg (r : Nat → Int) (n : Nat) : val (fun i => -r i) n = -val r n := by
  induction n with
  | zero => rfl
  | succ n ih => rw [val_succ, val_succ, ih, Int.neg_mul]; omega
end Go.Proofs.YtjlmpgbadgkgmaaGreatDoor

/-
  Package dyadic: total, by its contract: the sum of all, or it gives up.
-/
namespace Go.Proofs.YtjlmpgbadgkgmaaGreatDoor
open Go Go.RowKit Go.Proofs.YtjlmpgbadgkgmaaGreatDoor.M
set_option linter.unusedSimpArgs false
set_option linter.unusedVariables false

/-- The sum of the first k, in the scale. -/
def sumV (r : Nat → NumR) : Nat → Int | 0 => 0 | k + 1 => sumV r k + sg (r k).ng (val (r k).d (r k).n) * pw (r k).e
/-- A number that is reckoned out, or it gives up. -/
def DOut (w : World) (V : Int) (x : Ending) (w' : World) : Prop := (Dok V ∧ ∃ v, x = .returned v ∧ DAns w w' V v) ∨ (¬ Dok V ∧ x = gaveUp ∧ Below w.heap.size w w')
theorem sumV_zero {r : Nat → NumR} : ∀ {n : Nat}, (∀ i, i < n → (r i).n = 0) → sumV r n = 0
  | 0, _ => rfl
  | n + 1, h => by
    show sumV r n + _ = 0
    rw [sumV_zero fun i hi => h i (by omega), h n (by omega)]
    show 0 + sg _ 0 * _ = 0
    rw [sg_zero, Int.zero_mul, Int.add_zero]
/-- Each number's bits, brought to the lowest exponent. -/
theorem sum_bound {r : Nat → NumR} {k : Nat} {low high : Int} (hs : Sane (r k)) (ha : low ≤ (r k).e ∧ (r k).e + blen (val (r k).d (r k).n) ≤ high) :
    val (r k).d (r k).n * 2 ^ ((r k).e - low).toNat < 2 ^ (high - low).toNat ∧ 0 ≤ val (r k).d (r k).n * 2 ^ ((r k).e - low).toNat := by
  have hv := val_nonneg hs.1.1
  obtain ⟨a, b⟩ := ha
  have h1 := blen_lt (val (r k).d (r k).n)
  have h2 : val (r k).d (r k).n * 2 ^ ((r k).e - low).toNat < 2 ^ blen (val (r k).d (r k).n) * 2 ^ ((r k).e - low).toNat := Int.mul_lt_mul_of_pos_right h1 (two_pos _)
  rw [← Int.pow_add] at h2
  have h3 : (2 : Int) ^ (blen (val (r k).d (r k).n) + ((r k).e - low).toNat) ≤ 2 ^ (high - low).toNat := two_le (by omega)
  exact ⟨by omega, Int.mul_nonneg hv (Int.le_of_lt (two_pos _))⟩
/-- The columns when the first k numbers were put onto them. -/
structure TotP (r : Nat → NumR) (low high : Int) (N k : Nat) (c : Nat → Int) : Prop where
  sum : val c N * pw low = sumV r k
  bnd : ∀ i, i < N → -((k : Int) * 1073741823) ≤ c i ∧ c i ≤ k * 1073741823
  lo : -((k : Int) * 2 ^ (high - low).toNat) ≤ val c N
  hi : val c N ≤ k * 2 ^ (high - low).toNat
theorem TotP.start (r : Nat → NumR) (low high : Int) (N : Nat) : TotP r low high N 0 (fun _ => 0) := by
  have e : val (fun _ => 0) N = 0 := val_zeros (Nat.zero_le _) (fun _ _ _ => rfl)
  exact ⟨by rw [e, Int.zero_mul]; rfl, fun i _ => ⟨by omega, by omega⟩, by rw [e]; simp, by rw [e]; simp⟩
theorem TotP.skip {r : Nat → NumR} {low high : Int} {N k : Nat} {c : Nat → Int} (h : TotP r low high N k c) (h0 : (r k).n = 0) : TotP r low high N (k + 1) c := by
  have e : sumV r (k + 1) = sumV r k := by
    show sumV r k + _ = _
    rw [h0]
    show sumV r k + sg _ 0 * _ = _
    rw [sg_zero, Int.zero_mul, Int.add_zero]
  have hp := two_pos (high - low).toNat
  have e2 : ((k + 1 : Nat) : Int) * 2 ^ (high - low).toNat = k * 2 ^ (high - low).toNat + 2 ^ (high - low).toNat := by rw [Int.natCast_add, Int.add_mul]; simp
  refine ⟨by rw [e]; exact h.sum, fun i hi => ?_, ?_, ?_⟩
  · have := h.bnd i hi; omega
  · have := h.lo; omega
  · have := h.hi; omega
theorem sgn_sg (ng : Bool) {n : Nat} (h : 0 < n) (x : Int) : sgn ng n * x = sg ng x ∧ (sgn ng n = 1 ∨ sgn ng n = -1) := by
  have : n ≠ 0 := by omega
  cases ng <;> simp [sgn, sg, this]
theorem TotP.put {r : Nat → NumR} {low high : Int} {N k q p : Nat} {c c' : Nat → Int} (h : TotP r low high N k c) (hs : Sane (r k)) (h0 : 0 < (r k).n) (ha : low ≤ (r k).e ∧ (r k).e + blen (val (r k).d (r k).n) ≤ high) (hl : -4194304 ≤ low) (hqp : (r k).e - low = 30 * q + p) (hp : p < 30)
    (hP : Piled N c (sgn (r k).ng (r k).n) (P q * (2 ^ p * val (r k).d (r k).n)) c') : TotP r low high N (k + 1) c' := by
  obtain ⟨b1, b0⟩ := sum_bound hs ha
  obtain ⟨a1, a2⟩ := ha
  have e1 : (2 : Int) ^ ((r k).e - low).toNat = P q * 2 ^ p := by
    rw [show ((r k).e - low).toNat = 30 * q + p by omega, Int.pow_add, P_two]
  have e2 : P q * (2 ^ p * val (r k).d (r k).n) = val (r k).d (r k).n * 2 ^ ((r k).e - low).toNat := by rw [e1]; grind
  rw [e2] at hP
  generalize hX : val (r k).d (r k).n * 2 ^ ((r k).e - low).toNat = X at *
  obtain ⟨s1, s2⟩ := sgn_sg (r k).ng h0 X
  have hsum := hP.sum
  rw [s1] at hsum
  have hpp := two_pos (high - low).toNat
  have e3 : ((k + 1 : Nat) : Int) * 2 ^ (high - low).toNat = k * 2 ^ (high - low).toNat + 2 ^ (high - low).toNat := by rw [Int.natCast_add, Int.add_mul]; simp
  have hsx : -X ≤ sg (r k).ng X ∧ sg (r k).ng X ≤ X := by cases (r k).ng <;> simp [sg] <;> omega
  refine ⟨?_, fun i hi => ?_, ?_, ?_⟩
  · rw [hsum, Int.add_mul, h.sum]
    show _ = sumV r k + sg (r k).ng (val (r k).d (r k).n) * pw (r k).e
    rw [pw_sub hl a1, ← hX, sg_sgn, sg_sgn]; grind
  · have h1 := h.bnd i hi
    have h2 := pile_near s2 (hP.near i) (C := k * 1073741823) h1
    omega
  · have := h.lo; omega
  · have := h.hi; omega
theorem len_blen {d : Nat → Int} {n : Nat} (h : Nrm d n) (h0 : 0 < n) : 30 * (n - 1) + 1 ≤ blen (val d n) := by
  obtain ⟨m, rfl⟩ : ∃ m, n = m + 1 := ⟨n - 1, by omega⟩
  rw [blen_val h]
  have hd := h.1 m (by omega)
  have ht : d m ≠ 0 := by
    rcases h.2 with h1 | h1
    · omega
    · rwa [Nat.add_sub_cancel] at h1
  have := (blen_pos (show 0 < d m by omega)).1
  omega
end Go.Proofs.YtjlmpgbadgkgmaaGreatDoor

/-
  Package dyadic: Add, Sub, by contracts.
-/
namespace Go.Proofs.YtjlmpgbadgkgmaaGreatDoor
open Go Go.RowKit Go.Proofs.YtjlmpgbadgkgmaaGreatDoor.M
set_option linter.unusedSimpArgs false
set_option linter.unusedVariables false

/-- What a number is worth, in the scale. -/
def NumR.V (r : NumR) : Int := sg r.ng (val r.d r.n) * pw r.e
def pair2 (x y : NumR) : Nat → NumR := fun i => if i = 0 then x else y
theorem nums2 {w : World} {g : Nat} {x y : NumR} {t : TypeId} (h : w.heap[g]? = some (.cells #[.bool x.ng, .slice x.ao x.n x.cap, .int .i64 x.e, .bool y.ng, .slice y.ao y.n y.cap, .int .i64 y.e] t (0, 0))) (hx : Row w x.ao x.n x.cap x.d) (hy : Row w y.ao y.n y.cap y.d) :
    Nums w (some ⟨g, 0, none⟩) 2 2 (pair2 x y) :=
  ⟨Nat.le_refl _, by decide, fun _ => ⟨g, 0, rfl, (Array.getElem?_eq_some_iff.1 h).1, fun i hi => by
    match i, hi with
    | 0, _ => exact ⟨blkC h 0 rfl, blkC h 1 rfl, blkC h 2 rfl, hx⟩
    | 1, _ => exact ⟨blkC h 3 rfl, blkC h 4 rfl, blkC h 5 rfl, hy⟩⟩⟩
theorem allOk2 (x y : NumR) : allOk (pair2 x y) 2 = (okR x && okR y) := by
  unfold allOk
  by_cases hx : okR x = true
  · by_cases hy : okR y = true
    · rw [hx, hy]
      exact decide_eq_true fun i hi => by
        match i, hi with
        | 0, _ => exact hx
        | 1, _ => exact hy
    · have : okR y = false := by simpa using hy
      rw [hx, this]
      exact decide_eq_false fun h => hy (h 1 (by omega))
  · have : okR x = false := by simpa using hx
    rw [this, Bool.false_and]
    exact decide_eq_false fun h => hx (h 0 (by omega))
theorem sumV2 (x y : NumR) : sumV (pair2 x y) 2 = x.V + y.V := by
  show 0 + x.V + y.V = _
  rw [Int.zero_add]
theorem okR_sane {x : NumR} (h : okR x = true) : Sane x := by
  rcases of_decide_eq_true h with ⟨h1, h2, h3⟩ | ⟨h1, ⟨h2, h3⟩, h4, h5, h6⟩
  · exact ⟨⟨fun i hi => by omega, .inl h1⟩, by omega, by omega, by omega⟩
  · exact ⟨h3, by omega, by omega, by omega⟩
theorem okR_dy {x : NumR} (h : okR x = true) : Dy x.V x.ng (val x.d x.n) x.e ∧ val x.d x.n < P 2000 ∧ Dok x.V := by
  have hd : Dy x.V x.ng (val x.d x.n) x.e ∧ val x.d x.n < P 2000 ∧ -1048576 ≤ x.e ∧ x.e ≤ 1048576 := by
    rcases of_decide_eq_true h with ⟨h1, h2, h3⟩ | ⟨h1, ⟨h2, h3⟩, h4, h5, h6⟩
    · exact ⟨⟨rfl, by omega, .inl ⟨by rw [h1]; rfl, h2, h3⟩⟩, by rw [h1]; show (0 : Int) < P 2000; exact P_pos 2000, by omega, by omega⟩
    · refine ⟨⟨rfl, by omega, .inr ⟨val_pos h3 h1, ?_⟩⟩, ?_, h5, h6⟩
      · obtain ⟨m, hm⟩ : ∃ m, x.n = m + 1 := ⟨x.n - 1, by omega⟩
        have := val_split x.d 1 m
        rw [show 1 + m = x.n by omega] at this
        rw [this]
        rw [show val x.d 1 = x.d 0 by show 0 + x.d 0 * 1 = _; omega, show P 1 = 1073741824 from rfl]
        omega
      · exact Int.lt_of_lt_of_le (val_lt h3.1) (P_le h2)
  exact ⟨hd.1, hd.2.1, hd.1.ok.2 hd.2⟩
theorem bel_set3 {w w1 : World} (h : Below w.heap.size w w1) {g : Nat} (hg : w.heap.size ≤ g) (a b c : Value) : Below w.heap.size w (((w1.setCell ⟨g, 0, none⟩ a).setCell ⟨g, 1, none⟩ b).setCell ⟨g, 2, none⟩ c) :=
  ((h.setCell (p := ⟨g, 0, none⟩) hg a).setCell (p := ⟨g, 1, none⟩) hg b).setCell (p := ⟨g, 2, none⟩) hg c
theorem heap_set {w : World} {g : Nat} {xs : Array Value} {t : TypeId} (h : w.heap[g]? = some (.cells xs t (0, 0))) (i : Nat) (v : Value) : (w.setCell ⟨g, i, none⟩ v).heap[g]? = some (.cells (xs.setIfInBounds i v) t (0, 0)) := by
  simp [World.setCell, Array.getElem?_modify, h]
end Go.Proofs.YtjlmpgbadgkgmaaGreatDoor

/-
  Package dyadic: Make and Scale, whatever the exponent, by contracts.
-/
namespace Go.Proofs.YtjlmpgbadgkgmaaGreatDoor
open Go Go.RowKit Go.Proofs.YtjlmpgbadgkgmaaGreatDoor.M
set_option linter.unusedSimpArgs false
set_option linter.unusedVariables false

/-- A number of any exponent: what is far below has no valid form, as 2^-4194304 has none. -/
def mkV (ng : Bool) (M e : Int) : Int := if M = 0 then 0 else if e < -4194304 then 1 else sg ng M * pw e
theorem not_dok_one : ¬ Dok 1 := by
  have h : Dy 1 false 1 (-4194304) := ⟨by show 1 = 1 * pw (-4194304); rfl, by omega, .inr ⟨by omega, by omega⟩⟩
  intro hk
  have := h.ok.1 hk
  omega
theorem not_dok_high {ng : Bool} {M e : Int} (h : 0 < M) (he : 1048576 < e) : ¬ Dok (sg ng M * pw e) := by
  obtain ⟨l, hl⟩ := isLow_ex h
  have hy := Dy.of ng hl h (show -4194304 ≤ e by omega)
  intro hk
  have := hy.ok.1 hk
  omega
end Go.Proofs.YtjlmpgbadgkgmaaGreatDoor

/-
  Package bits' calls that take no join, each by a contract: what it answers for every int, in every world that holds the two layouts.
-/
namespace Go.Proofs.YtjlmpgbadgkgmaaGreatDoor
open Go Go.RowKit Go.Proofs.YtjlmpgbadgkgmaaGreatDoor.M
set_option linter.unusedSimpArgs false
set_option linter.unusedVariables false

theorem bitsClass (b : Int) (w : World) (L : Lays w) :
    Calls Tryz.prog 84 #[.int .i64 b] w fun e w' => e = .returned (.int .i64 (cls b)) ∧ Gr w w' := by
  obtain ⟨a0, a1, a2, b0, b1, b2⟩ := L
  go_enter Tryz.func84, Tryz.ntmps84
  go_wp2_with (go_at_call 104; refine (class64 _ _).mono ?_; rintro e w1 ⟨rfl, hg⟩)
  go_ret
  exact ⟨rfl, hg⟩
theorem bitsParts (b : Int) (w : World) (L : Lays w) :
    Calls Tryz.prog 31 #[.int .i64 b] w fun e w' => e = .returned (.tuple #[.bool (pneg b), .int .i64 (pmag b), .int .i64 (pexp b), .bool (pok b)]) ∧ Gr w w' := by
  obtain ⟨a0, a1, a2, b0, b1, b2⟩ := L
  by_cases h : pok b = true
  all_goals
    go_enter Tryz.func31, Tryz.ntmps31
    go_wp2_with (go_at_call 52; refine (parts64 _ _).mono ?_; rintro e w1 ⟨rfl, hg⟩)
    refine bodyPost_ret (v := .tuple #[.bool (pneg b), .int .i64 (pmag b), .int .i64 (pexp b), .bool (pok b)]) (by simp [results, Tryz.results31, go_sem, pneg, h]) rfl ⟨rfl, hg⟩
theorem bitsNeg (b : Int) (w : World) (L : Lays w) (hb : rng b) :
    Calls Tryz.prog 64 #[.int .i64 b] w fun e w' => e = .returned (.int .i64 (neg b)) ∧ Gr w w' := by
  unfold rng at hb
  by_cases h : cls b = 4
  all_goals
    go_enter Tryz.func64, Tryz.ntmps64
    go_wp2_with (go_at_call 84; refine (bitsClass _ _ L).mono ?_; rintro e w1 ⟨rfl, hg⟩)
    go_ret
    exact ⟨b_ret_int (by first | (simp [neg, h]; done) | (rw [xor_i64_sign _ hb.1 hb.2]; simp [neg, h])), hg⟩
end Go.Proofs.YtjlmpgbadgkgmaaGreatDoor

/-
  Package nat: Shl, Pow, by contracts: for every number, every exponent.
-/
namespace Go.Proofs.YtjlmpgbadgkgmaaGreatDoor
open Go Go.RowKit Go.Proofs.YtjlmpgbadgkgmaaGreatDoor.M
set_option linter.unusedSimpArgs false
set_option linter.unusedVariables false

theorem P2000_two : P 2000 = 2 ^ 60000 := P_two 2000
theorem shl_long {A : Int} {k : Nat} (hA : 0 < A) (h : 60000 < k + blen A) : P 2000 ≤ A * 2 ^ k := by
  obtain ⟨c1, c2⟩ := blen_pos hA
  rw [P2000_two]
  have h1 : (2 : Int) ^ 60000 ≤ 2 ^ (blen A - 1 + k) := two_le (by omega)
  rw [Int.pow_add] at h1
  exact Int.le_trans h1 (Int.mul_le_mul_of_nonneg_right c2 (Int.le_of_lt (two_pos k)))
theorem shl_short {A : Int} {k : Nat} (h : k + blen A ≤ 60000) : A * 2 ^ k < P 2000 := by
  rw [P2000_two]
  have h1 : (2 : Int) ^ (blen A + k) ≤ 2 ^ 60000 := two_le (by omega)
  rw [Int.pow_add] at h1
  have h2 : A * 2 ^ k < 2 ^ blen A * 2 ^ k := Int.mul_lt_mul_of_pos_right (blen_lt A) (two_pos k)
  exact Int.lt_of_lt_of_le h2 h1
theorem row_drewN {w : World} {ao : Option Addr} {n cap : Nat} {d : Nat → Int} (h : Row w ao n cap d) {q : Nat} : Row (w.drewN q) ao n cap d := h.keeps (bDrewN (bel_refl _) _)
theorem pow_small {A : Int} {k : Nat} (h0 : 0 ≤ A) (h1 : A < 2) (hk : 0 < k) : A ^ k = A := by
  rcases (show A = 0 ∨ A = 1 by omega) with rfl | rfl
  · exact Int.zero_pow (by omega)
  · exact Int.one_pow
theorem two_pow_pow (a b : Nat) : ((2 : Int) ^ a) ^ b = 2 ^ (a * b) := Int.pow_mul.symm
theorem pow_le_base {A B : Int} (h0 : 0 ≤ A) (h : A ≤ B) (k : Nat) : A ^ k ≤ B ^ k := by
  induction k with
  | zero => rw [Int.pow_zero, Int.pow_zero]; omega
  | succ k ih =>
    rw [Int.pow_succ, Int.pow_succ]
    exact Int.mul_le_mul ih h h0 (Int.pow_nonneg (by omega))
theorem pow_long {A : Int} {k L : Nat} (hL : 2 ^ (L - 1) ≤ A) (h : 59999 < (L - 1) * k) : P 2000 ≤ A ^ k := by
  rw [P2000_two]
  have h1 : (2 : Int) ^ 60000 ≤ 2 ^ ((L - 1) * k) := two_le (by omega)
  rw [← two_pow_pow] at h1
  exact Int.le_trans h1 (pow_le_base (Int.le_of_lt (two_pos _)) hL k)
theorem pow_fits {A : Int} {k L : Nat} (h0 : 0 ≤ A) (hL : A < 2 ^ L) (h1 : 2 ≤ L) (h : (L - 1) * k ≤ 59999) : A ^ k < P 5000 := by
  have hk : k ≤ 59999 := by
    have : 1 * k ≤ (L - 1) * k := Nat.mul_le_mul_right k (by omega)
    omega
  have h2 : L * k ≤ 119998 := by
    have : L * k = (L - 1) * k + k := by rw [← Nat.succ_mul]; congr 1; omega
    omega
  have h3 := pow_le_base h0 (Int.le_of_lt hL) k
  rw [two_pow_pow] at h3
  have h4 : (2 : Int) ^ (L * k) < 2 ^ 150000 := two_lt (by omega)
  rw [P_two]
  exact Int.lt_of_le_of_lt h3 h4
end Go.Proofs.YtjlmpgbadgkgmaaGreatDoor

/-
  The document's own answers (plumbref2): From, Bits, Bit, Shl, Shr, by contracts over the same values.
-/
namespace Go.Proofs.YtjlmpgbadgkgmaaGreatDoor
open Go Go.RowKit Go.Proofs.YtjlmpgbadgkgmaaGreatDoor.M
set_option linter.unusedSimpArgs false
set_option linter.unusedVariables false

theorem blen_half {x : Int} (h : 0 < x) : blen x = blen (x / 2) + 1 := by
  obtain ⟨h1, h2⟩ := blen_pos h
  have h3 := blen_lt x
  obtain ⟨k, hk⟩ : ∃ k, blen x = k + 1 := ⟨blen x - 1, by omega⟩
  rw [hk] at h2 h3 ⊢
  rw [Nat.add_sub_cancel] at h2
  rw [Int.pow_succ] at h3
  cases k with
  | zero =>
    have : x = 1 := by simp at h3 h2; omega
    subst this; decide
  | succ j =>
    rw [Int.pow_succ] at h2
    have e1 : (2 : Int) ^ j ≤ x / 2 := by omega
    have e2 : x / 2 < 2 ^ (j + 1) := by omega
    rw [blen_of e1 e2]
set_option maxHeartbeats 400000 in
theorem rfrom_any (V : Int) (w : World) (h0 : 0 ≤ V) (h1 : V < 9223372036854775808) :
    Calls Tryz.prog 75 #[.int .i64 V] w fun e w' => ∃ v, e = .returned v ∧ Ans w w' V v := by
  have HM : Hid (V < 9223372036854775808) := h1
  clear h1
  go_enter Tryz.func75, Tryz.ntmps75
  go_wp2
  go_loopw [0, 3] (fun i v wr => ∃ (x : Int) (k : Nat) (r : Nat → Int), i = .int .i64 x ∧ 0 ≤ x ∧ k ≤ 3 ∧ Out w.heap.size wr v k r ∧ Dig r k ∧ Hid (x * P k ≤ V) ∧ Hid (x = 0 → Top r k) ∧ Hid (val r k + x * P k = V) ∧ Below w.heap.size w wr) (fun i _ _ => (intOf i).toNat)
  case atStart => exact ⟨V, 0, fun _ => 0, rfl, h0, by omega, Out.nil _ _ _, fun i hi => by omega, by show _ ≤ _; show V * 1 ≤ V; omega, fun _ => .inl rfl, by show _ = _; show 0 + V * 1 = V; omega, bel_refl _⟩
  case round =>
    obtain ⟨x, k, r, rfl, hx, hk3, hO, hD, HB, HT, HV, hbw⟩ := hrel
    by_cases hp : 0 < x
    · have hk2 : k ≤ 2 := by
        by_cases e : k = 3
        · subst e
          have a := HB.out
          have b := HM.out
          have c : P 3 = 1073741824 * 1073741824 * 1073741824 := by decide
          have d : 1 * P 3 ≤ x * P 3 := Int.mul_le_mul_of_nonneg_right (by omega) (Int.le_of_lt (P_pos 3))
          omega
        · omega
      have hx2 : x ≤ 9223372036854775807 := by
        have a := HB.out
        have b := HM.out
        have c : x * 1 ≤ x * P k := Int.mul_le_mul_of_nonneg_left (by have := P_pos k; omega) (by omega)
        omega
      go_wp2_with (at_builtin; refine wpList_app rfl _ _ rfl w.heap.size _ k r rfl (hO.stays (bel_alloc _ _)) _ 1 1 (fun _ => x % 1073741824) rfl (row1 _ _ rfl) (by omega) (by have := hbw.size; simp; omega) ?_; intro v' w1 hO1 hg1)
      have hb1 : Below w.heap.size w w1 := (hbw.alloc hbw.size _).grown hg1 (by have := hbw.size; simp; omega) (own_ge hO)
      have hs := sum_step (c := 0) (x := x) (show val r k + 0 * P k = val r k by omega)
      rw [Int.zero_add] at hs
      go_roundw
      case rel => exact ⟨x / 1073741824, k + 1, upd r k (x % 1073741824), rfl, by omega, by omega, hO1.congr (cat_upd r k _), dig_upd2 hD (mod_dig _), by
          show _ ≤ _
          have a := HB.out
          rw [P_succ, show x / 1073741824 * (P k * 1073741824) = (x / 1073741824 * 1073741824) * P k by grind]
          have b : (x / 1073741824 * 1073741824) * P k ≤ x * P k := Int.mul_le_mul_of_nonneg_right (by omega) (Int.le_of_lt (P_pos k))
          omega, fun e => .inr (by rw [Nat.add_sub_cancel, upd_same]; omega), by show _ = _; rw [hs]; exact HV.out, hb1⟩
      case measure => simp [intOf]; omega
    · obtain rfl : x = 0 := by omega
      go_wp2
      go_ret
      exact ⟨_, rfl, k, r, hO, ⟨hD, HT.out (by first | rfl | trivial)⟩, by have := HV.out; omega, hbw⟩
set_option maxHeartbeats 400000 in
theorem rbits_any (ao : Option Addr) (n cap : Nat) (d : Nat → Int) (w : World) (h : Row w ao n cap d) (hd : Nrm d n) (hn : n ≤ 1000000) :
    Calls Tryz.prog 127 #[.slice ao n cap] w fun e w' => e = .returned (.int .i64 (blen (val d n))) ∧ w' = w := by
  have hl := h.le
  have hm := h.max
  by_cases h0 : n = 0
  · subst h0
    go_enter Tryz.func127, Tryz.ntmps127
    go_wp2
    go_ret
    exact ⟨rfl, rfl⟩
  · obtain ⟨k, rfl⟩ : ∃ k, n = k + 1 := ⟨n - 1, by omega⟩
    obtain ⟨b, off, rfl, hb, hc⟩ := h.spot (by omega)
    have c := hc k (by omega)
    have dk := hd.1 k (by omega)
    have HV : Hid (blen (val d (k + 1)) = 30 * k + blen (d k)) := blen_val hd
    have hbl : blen (d k) ≤ 30 := blen_le (by show d k < 1073741824; exact dk.2)
    go_enter Tryz.func127, Tryz.ntmps127
    go_wp2
    go_loop [3, 4] (fun s v => ∃ (x : Int) (t : Nat), s = .int .i64 t ∧ v = .int .i64 x ∧ 0 ≤ x ∧ x < 1073741824 ∧ t ≤ 30 * k + 30 ∧ Hid (t + blen x = 30 * k + blen (d k))) (fun _ v => (intOf v).toNat)
    case atStart => exact ⟨d k, 30 * k, by go_num, rfl, dk.1, dk.2, by omega, rfl⟩
    case round =>
      obtain ⟨x, t, rfl, rfl, hx0, hx1, ht, HT⟩ := hrel
      by_cases hp : 0 < x
      · have ht2 : t + 1 ≤ 30 * k + 30 := by have := HT.out; have := blen_half hp; omega
        go_wp2
        go_round
        case rel => exact ⟨x / 2, t + 1, by go_num, rfl, by omega, by omega, ht2, by show _ = _; have := HT.out; have := blen_half hp; omega⟩
        case measure => simp [intOf]; omega
      · obtain rfl : x = 0 := by omega
        go_wp2
        go_ret
        exact ⟨ret_int (by have := HT.out; rw [blen_zero] at this; rw [HV.out]; omega), rfl⟩
theorem rbit_any (ao : Option Addr) (n cap : Nat) (d : Nat → Int) (w : World) (h : Row w ao n cap d) (hd : Nrm d n) (hn : n ≤ 100000) (i : Nat) (hi : i ≤ 4000000) :
    Calls Tryz.prog 128 #[.slice ao n cap, .int .i64 i] w fun e w' => e = .returned (.bool (bitB (val d n) i)) ∧ w' = w := by
  have hl := h.le
  have hm := h.max
  obtain ⟨q, p, hq, hp⟩ : ∃ q p : Nat, i = 30 * q + p ∧ p < 30 := ⟨i / 30, i % 30, by omega, by omega⟩
  have e1 : (i : Int) / 30 = q := by omega
  have e2 : (i : Int) % 30 = p := by omega
  by_cases hqn : q < n
  · have HV : Hid (bitB (val d n) i = (d q / 2 ^ p % 2 == 1)) := by unfold bitB; show _ = _; rw [hq, bit_val hd.1 hqn hp]
    clear hq
    obtain ⟨b, off, rfl, hb, hc⟩ := h.spot (by omega)
    have c := hc q hqn
    have dq := hd.1 q hqn
    have hd0 : 0 ≤ d q / 2 ^ p := Int.ediv_nonneg dq.1 (Int.le_of_lt (two_pos p))
    go_enter Tryz.func128, Tryz.ntmps128
    go_wp2
    go_ret
    exact ⟨ret_bool HV.out.symm, rfl⟩
  · have HV : Hid (bitB (val d n) i = false) := bit_high (val_nonneg hd.1) (by
      refine Nat.le_trans (blen_le (k := 30 * n) (by rw [← P_two]; exact val_lt hd.1)) (by omega))
    clear hq
    go_enter Tryz.func128, Tryz.ntmps128
    go_wp2
    go_ret
    exact ⟨ret_bool HV.out.symm, rfl⟩
end Go.Proofs.YtjlmpgbadgkgmaaGreatDoor

/-
  Package nat: small, combine, heads (what Lehmer's way is made of), by contracts.
-/
namespace Go.Proofs.YtjlmpgbadgkgmaaGreatDoor
open Go Go.RowKit Go.Proofs.YtjlmpgbadgkgmaaGreatDoor.M
set_option linter.unusedSimpArgs false
set_option linter.unusedVariables false

theorem val_mono {d : Nat → Int} {n m : Nat} (h : Dig d n) (hm : m ≤ n) : val d m ≤ val d n := by
  have e := val_split d m (n - m)
  rw [show m + (n - m) = n by omega] at e
  have a := val_nonneg (show Dig (fun i => d (m + i)) (n - m) from fun i hi => h (m + i) (by omega))
  have := Int.mul_nonneg (Int.le_of_lt (P_pos m)) a
  omega
theorem mul_bnd {x y : Int} (hx : -1073741824 < x ∧ x < 1073741824) (hy : 0 ≤ y ∧ y < 1073741824) : -1152921504606846976 ≤ x * y ∧ x * y ≤ 1152921504606846976 := by
  have h1 : x * y ≤ 1073741824 * y := Int.mul_le_mul_of_nonneg_right (by omega) hy.1
  have h2 : -1073741824 * y ≤ x * y := Int.mul_le_mul_of_nonneg_right (by omega) hy.1
  constructor <;> omega
end Go.Proofs.YtjlmpgbadgkgmaaGreatDoor

/-
  Package nat's calls that take one list and a number: Int, Bit at every number; what they answer on no number and on a negative one.
-/
namespace Go.Proofs.YtjlmpgbadgkgmaaGreatDoor
open Go Go.RowKit Go.Proofs.YtjlmpgbadgkgmaaGreatDoor.M
set_option linter.unusedSimpArgs false
set_option linter.unusedVariables false

/-- A bit, at every int. -/
def bitI (A n : Int) : Bool := if n < 0 then false else bitB A n.toNat
theorem bitI_neg {A n : Int} (h : n < 0) : bitI A n = false := by simp [bitI, h]
theorem bitI_nat (A : Int) (i : Nat) : bitI A i = bitB A i := by simp [bitI]
theorem bitI_big {A n : Int} (h0 : 0 ≤ A) (h : (blen A : Int) ≤ n) : bitI A n = false := by
  unfold bitI
  split
  · rfl
  · exact bit_high h0 (by omega)
theorem blen60 {A : Int} (hA : A < P 2000) : blen A ≤ 60000 := blen_le (by rw [← P2000_two]; exact hA)
set_option maxRecDepth 100000 in
theorem rbit_all {w : World} {x : Value} {A : Int} (hx : Num w x A) (hA : A < P 2000) (n : Int) (hn : rng n) :
    Calls Tryz.prog 128 #[x, .int .i64 n] w fun e w' => e = .returned (.bool (bitI A n)) ∧ w' = w := by
  by_cases h0 : n < 0
  · obtain ⟨ao, t, ca, d, rfl, hR, h2, rfl⟩ := hx
    have HV : Hid (bitI (val d t) n = false) := bitI_neg h0
    clear hA
    go_enter Tryz.func128, Tryz.ntmps128
    go_wp2
    go_ret
    exact ⟨ret_bool HV.out.symm, rfl⟩
  · by_cases h1 : n ≤ 1000000
    · obtain ⟨i, rfl⟩ : ∃ i : Nat, n = i := ⟨n.toNat, by omega⟩
      rw [bitI_nat]
      obtain ⟨ao, t, ca, rfl⟩ := hx.shape
      have ht := hx.len hA
      obtain ⟨ao', t', ca', d, e, hR, h2, rfl⟩ := hx
      simp only [Value.slice.injEq] at e
      obtain ⟨rfl, rfl, rfl⟩ := e
      exact rbit_any _ _ _ _ _ hR h2 (by omega) i (by omega)
    · have A0 := hx.nonneg
      have hb := blen60 hA
      obtain ⟨ao, t, ca, rfl⟩ := hx.shape
      have ht := hx.len hA
      obtain ⟨ao', t', ca', d, e, hR, h2, rfl⟩ := hx
      simp only [Value.slice.injEq] at e
      obtain ⟨rfl, rfl, rfl⟩ := e
      have HV : Hid (bitI (val d t) n = false) := bitI_big A0 (by omega)
      have hq : (t : Int) ≤ n / 30 := by omega
      have hwr : wrap64 (n.tdiv 30) = n / 30 := by
        unfold rng at hn
        rw [Int.tdiv_eq_ediv_of_nonneg (by omega)]
        exact IntWalk.wrap64_in _ ⟨by omega, by omega⟩
      have hl := hR.le
      have hm := hR.max
      clear hA
      go_enter Tryz.func128, Tryz.ntmps128
      go_wp2
      go_ret
      exact ⟨ret_bool HV.out.symm, rfl⟩
/-- The int of a number, and whether it is one. -/
def intV (A : Int) : Int := if blen A ≤ 63 then A else 0
end Go.Proofs.YtjlmpgbadgkgmaaGreatDoor

/-
  Package dyadic: Of, Of32, Float, by contracts.
-/
namespace Go.Proofs.YtjlmpgbadgkgmaaGreatDoor
open Go Go.RowKit Go.Proofs.YtjlmpgbadgkgmaaGreatDoor.M
set_option linter.unusedSimpArgs false
set_option linter.unusedVariables false

/-- The cells of binary64's layout. -/
structure Lay64 (w : World) : Prop where
  a0 : w.cell? ⟨0, 0, none⟩ = some (.int .i64 52)
  a1 : w.cell? ⟨0, 1, none⟩ = some (.int .i64 2047)
  a2 : w.cell? ⟨0, 2, none⟩ = some (.int .i64 (-1074))
theorem Lay64.keeps {w w' : World} (h : Lay64 w) (hb : Below w.heap.size w w') : Lay64 w' := ⟨cell_keeps h.a0 hb, cell_keeps h.a1 hb, cell_keeps h.a2 hb⟩
theorem bitsPartsA (b : Int) (w : World) (L : Lay64 w) :
    Calls Tryz.prog 31 #[.int .i64 b] w fun e w' => e = .returned (.tuple #[.bool (pneg b), .int .i64 (pmag b), .int .i64 (pexp b), .bool (pok b)]) ∧ Below w.heap.size w w' := by
  obtain ⟨a0, a1, a2⟩ := L
  by_cases h : pok b = true
  all_goals
    go_enter Tryz.func31, Tryz.ntmps31
    go_wp2_with (go_at_call 52; refine (parts64 _ _).mono ?_; rintro e w1 ⟨rfl, hg⟩)
    refine bodyPost_ret (v := .tuple #[.bool (pneg b), .int .i64 (pmag b), .int .i64 (pexp b), .bool (pok b)]) (by simp [results, Tryz.results31, go_sem, pneg, h]) rfl ⟨rfl, hg.be⟩
theorem pmag_in {b : Int} (hp : pok b = true) : 0 ≤ pmag b ∧ pmag b < 9007199254740992 ∧ -1074 ≤ pexp b ∧ pexp b ≤ 971 := by
  have hf := fld_le b
  have hr := frc_le b
  have h1 : fld b ≠ 2047 := by simpa [pok] using hp
  unfold pmag pexp
  rw [if_neg h1, if_neg h1]
  split <;> omega
theorem pmag32_in {b : Int} (hp : pok32 b = true) : 0 ≤ pmag32 b ∧ pmag32 b < 16777216 ∧ -149 ≤ pexp32 b ∧ pexp32 b ≤ 104 := by
  have hf := fld32_le b
  have hr := frc32_le b
  have h1 : fld32 b ≠ 255 := by
    intro h
    simp [pok32, h] at hp
  unfold pmag32 pexp32
  rw [if_pos hp, if_pos hp]
  split <;> omega
theorem P2000_big2 : 9223372036854775808 < P 2000 := by
  have := P_le (show 3 ≤ 2000 by omega)
  have e : P 3 = 1237940039285380274899124224 := rfl
  omega
/-- A finite float's worth has a valid form. -/
theorem dok_small {ng : Bool} {M e : Int} (h0 : 0 ≤ M) (h1 : M < 9223372036854775808) (e0 : -1074 ≤ e) (e1 : e ≤ 971) : Dok (sg ng M * pw e) := by
  by_cases hz : M = 0
  · rw [hz, sg_zero, Int.zero_mul]; exact dok_zero
  · obtain ⟨l, hl⟩ := isLow_ex (show 0 < M by omega)
    have hy := Dy.of ng hl (show 0 < M by omega) (show -4194304 ≤ e by omega)
    obtain ⟨c1, c2, c3⟩ := isLow_odd hl (show 0 < M by omega)
    have hp := two_pos l
    have hl63 : l < 63 := by
      have h3 : (1 : Int) * 2 ^ l ≤ M / 2 ^ l * 2 ^ l := Int.mul_le_mul_of_nonneg_right (by omega) (by omega)
      rw [c3] at h3
      refine two_lt_iff ?_
      rw [show (2 : Int) ^ 63 = 9223372036854775808 by decide]
      omega
    refine hy.ok.2 ⟨?_, by omega, by omega⟩
    have : M / 2 ^ l ≤ M := Int.ediv_le_self _ h0
    have := P2000_big2
    omega
end Go.Proofs.YtjlmpgbadgkgmaaGreatDoor

/-
  Package round: way.beyond, value.binary64, by their contracts.
-/
namespace Go.Proofs.YtjlmpgbadgkgmaaGreatDoor
open Go Go.RowKit Go.Proofs.YtjlmpgbadgkgmaaGreatDoor.M
set_option linter.unusedSimpArgs false
set_option linter.unusedVariables false

/-- The rung of what is too great. -/
def bRung (way : Int) (ng : Bool) : Int := if rUp way ng true 3 then 9218868437227405312 else 9218868437227405311
/-- A pattern of a sign and a rung. -/
def patS (ng : Bool) (r : Int) : Int := if ng then r - 9223372036854775808 else r
theorem or_inf : bits BinOp.or IntKind.i64 9218868437227405312 (-9223372036854775808) = -4503599627370496 := by decide +kernel
theorem or_most : bits BinOp.or IntKind.i64 9218868437227405311 (-9223372036854775808) = -4503599627370497 := by decide +kernel
theorem Env.keeps {w w' : World} (h : Env w) (hb : Below w.heap.size w w') : Env w' :=
  ⟨⟨cell_keeps h.lays.a0 hb, cell_keeps h.lays.a1 hb, cell_keeps h.lays.a2 hb, trivial, trivial, trivial⟩, fun j hj => cell_keeps (h.tab j hj) hb⟩
/-- What a value is rounded to. -/
def r64 (way : Int) (ng sd : Bool) (mag : Nat) (exp : Int) (cut : Bool) : Int × Bool :=
  let E := rE 53 (-1074) mag exp
  let u := rU mag (E - exp)
  let left := rL mag cut (E - exp)
  let U := u + (if rUp way ng (decide (u % 2 = 1)) left then 1 else 0)
  let neg := ng && (decide (0 < U) || sd)
  if jk 52 2047 (-1074) U E then (jp neg U E, decide (left ≠ 0)) else (patS neg (bRung way neg), true)
end Go.Proofs.YtjlmpgbadgkgmaaGreatDoor

/-
  Package nat: root, Root, by contracts: for every number.
-/
namespace Go.Proofs.YtjlmpgbadgkgmaaGreatDoor
open Go Go.RowKit Go.Proofs.YtjlmpgbadgkgmaaGreatDoor.M
set_option linter.unusedSimpArgs false
set_option linter.unusedVariables false

/-- The square root, cut: the greatest s with s s <= A. -/
def IsRoot (A s : Int) : Prop := 0 ≤ s ∧ s * s ≤ A ∧ A < (s + 1) * (s + 1)
theorem root_above {A s : Int} (hA : 0 ≤ A) (hs : 0 < s) (h : A < s * s) : ∀ r, r * r ≤ A → r < s := fun r hr => by
  rcases Int.lt_or_le r s with q | q
  · exact q
  · have := Int.mul_le_mul q q (by omega) (by omega)
    omega
/-- s is not below the root. -/
def Abv (A s : Int) : Prop := ∀ r, 0 ≤ r → r * r ≤ A → r ≤ s
theorem abv_start {A : Int} (hA : 0 ≤ A) {k : Nat} (h : A < 2 ^ (2 * k)) : Abv A (2 ^ k) := fun r h0 hr => by
  rcases Int.lt_or_le (2 ^ k) r with q | q
  · have h1 := Int.mul_le_mul (Int.le_of_lt q) (Int.le_of_lt q) (Int.le_of_lt (two_pos k)) h0
    rw [← Int.pow_add, ← Nat.two_mul] at h1
    omega
  · exact q
theorem abv_next {A s : Int} (hs : 0 < s) (h : Abv A s) : Abv A ((s + A / s) / 2) := fun r h0 hr => newton_above hs hr
theorem abv_done {A s : Int} (hs : 0 < s) (h : Abv A s) (hst : s ≤ (s + A / s) / 2) : IsRoot A s := by
  refine ⟨by omega, newton_stop hs hst, ?_⟩
  rcases Int.lt_or_le A ((s + 1) * (s + 1)) with q | q
  · exact q
  · have := h (s + 1) (by omega) q
    omega
theorem Num.parts {w : World} {v : Value} {V : Int} (h : Num w v V) {k : Nat} (hV : V < P k) : ∃ ao n cap d, v = .slice ao n cap ∧ Row w ao n cap d ∧ Nrm d n ∧ val d n = V ∧ n ≤ k := by
  obtain ⟨ao, n, cap, rfl⟩ := h.shape
  have hl := h.len hV
  obtain ⟨ao', n', cap', d, e, hR, h2, h3⟩ := h
  simp only [Value.slice.injEq] at e
  obtain ⟨rfl, rfl, rfl⟩ := e
  exact ⟨ao, n, cap, d, rfl, hR, h2, h3, hl⟩
/-- A root that is answered. -/
def RootA (w w' : World) (A : Int) (v : Value) : Prop := ∃ s, Ans w w' s v ∧ IsRoot A s
theorem root_bnd {A s : Int} (hA : A < P 2000) (hA0 : 0 ≤ A) (hs : 0 < s) (h3 : s < P 3000) : A / s < P 5000 ∧ s < P 5000 ∧ s + A / s < P 6000 := by
  have h1 : A / s ≤ A := Int.ediv_le_self _ hA0
  have p1 := P_le (show 2000 ≤ 3000 by decide)
  have p2 := P_le (show 3000 ≤ 5000 by decide)
  have p3 : P 3000 + P 3000 ≤ P 6000 := by
    have h := P_le (show 3001 ≤ 6000 by decide)
    have e : P 3001 = P 3000 * 1073741824 := P_succ 3000
    have := P_pos 3000
    generalize P 3000 = X at *
    generalize P 6000 = Y at *
    generalize P 3001 = Z at *
    omega
  generalize P 3000 = X at *
  generalize P 6000 = Y at *
  generalize P 5000 = Z at *
  generalize P 2000 = T at *
  refine ⟨?_, ?_, ?_⟩ <;> omega
/-- Where a root's rounds stand: s is in new memory, and not below the root. -/
def RootR (w0 : World) (A : Int) (v : Value) (s : Int) (wr : World) : Prop := Ans w0 wr s v ∧ 0 < s ∧ Abv A s ∧ s < P 3000
end Go.Proofs.YtjlmpgbadgkgmaaGreatDoor

/-
  Package round: scaled, valueOf, by their contracts.
-/
namespace Go.Proofs.YtjlmpgbadgkgmaaGreatDoor
open Go Go.RowKit Go.Proofs.YtjlmpgbadgkgmaaGreatDoor.M
set_option linter.unusedSimpArgs false
set_option linter.unusedVariables false

theorem low_mod {V l : Int} (h : LowA V l) (h0 : 0 < V) (k : Nat) : decide (l < (k : Int)) = decide (V % 2 ^ k ≠ 0) := by
  obtain ⟨j, rfl, q, hq⟩ := lowA_pos h h0
  by_cases hjk : j < k
  · rw [decide_eq_true (by omega)]
    refine (decide_eq_true ?_).symm
    intro hz
    obtain ⟨d, hd⟩ : ∃ d, k = j + 1 + d := ⟨k - j - 1, by omega⟩
    have h1 : (2 : Int) ^ k ∣ V := Int.dvd_of_emod_eq_zero hz
    obtain ⟨c, hc⟩ := h1
    rw [hq, hd, Int.pow_add, Int.pow_succ] at hc
    have hp := two_pos j
    have e : (2 : Int) ^ j * (2 * q + 1) = 2 ^ j * (2 * (2 ^ d * c)) := by
      rw [Int.mul_comm, hc]
      simp only [Int.mul_assoc]
    have := Int.eq_of_mul_eq_mul_left (by omega) e
    omega
  · rw [decide_eq_false (by omega)]
    refine (decide_eq_false ?_).symm
    intro hz
    apply hz
    obtain ⟨d, hd⟩ : ∃ d, j = k + d := ⟨j - k, by omega⟩
    rw [hq, hd, Int.pow_add, Int.mul_comm, Int.mul_assoc]
    exact Int.mul_emod_right _ _
theorem keep3R {W w' : World} {b g o0 o1 o2 : Nat} {x y z : Value} (h : W.cell? ⟨b, o0, none⟩ = some x ∧ W.cell? ⟨b, o1, none⟩ = some y ∧ W.cell? ⟨b, o2, none⟩ = some z) (hw : Wr g W w') (hg : b ≠ g) :
    w'.cell? ⟨b, o0, none⟩ = some x ∧ w'.cell? ⟨b, o1, none⟩ = some y ∧ w'.cell? ⟨b, o2, none⟩ = some z :=
  ⟨(hw.cell (World.block_lt_of_cell? W _ h.1) hg).trans h.1, (hw.cell (World.block_lt_of_cell? W _ h.2.1) hg).trans h.2.1, (hw.cell (World.block_lt_of_cell? W _ h.2.2) hg).trans h.2.2⟩
theorem wr5 (W : World) (g : Nat) (a b c d e : Value) : Wr g W (((((W.setCell ⟨g, 0, none⟩ a).setCell ⟨g, 1, none⟩ b).setCell ⟨g, 2, none⟩ c).setCell ⟨g, 3, none⟩ d).setCell ⟨g, 4, none⟩ e) := (((((Wr.refl g W).setCell 0 a).setCell 1 b).setCell 2 c).setCell 3 d).setCell 4 e
/-- What is cut off a whole number of more than 62 bits. -/
def vK (M : Int) : Nat := blen M - 62
theorem vK_small {M : Int} (h : 0 ≤ M) : 0 ≤ M / 2 ^ vK M ∧ M / 2 ^ vK M < 4611686018427387904 := by
  have hp := two_pos (vK M)
  refine ⟨Int.ediv_nonneg h (by omega), ?_⟩
  have h1 := blen_lt M
  have h2 : (2 : Int) ^ blen M ≤ 2 ^ (62 + vK M) := two_le (by unfold vK; omega)
  have e : (2 : Int) ^ (62 + vK M) = 4611686018427387904 * 2 ^ vK M := by rw [Int.pow_add]; rfl
  exact Int.ediv_lt_of_lt_mul hp (by omega)
theorem blen_nrm {a : Nat → Int} {n : Nat} (na : Nrm a n) : blen (val a n) ≤ 30 * n := by
  cases n with
  | zero => show blen 0 ≤ _; rw [blen_zero]; omega
  | succ m =>
    rw [blen_val na]
    have h : blen (a m) ≤ 30 := blen_le (by show a m < 1073741824; exact (na.1 m (by omega)).2)
    omega
end Go.Proofs.YtjlmpgbadgkgmaaGreatDoor

/-
  Package round: itself, rounded, To, by their contracts.
-/
namespace Go.Proofs.YtjlmpgbadgkgmaaGreatDoor
open Go Go.RowKit Go.Proofs.YtjlmpgbadgkgmaaGreatDoor.M
set_option linter.unusedSimpArgs false
set_option linter.unusedVariables false

end Go.Proofs.YtjlmpgbadgkgmaaGreatDoor
