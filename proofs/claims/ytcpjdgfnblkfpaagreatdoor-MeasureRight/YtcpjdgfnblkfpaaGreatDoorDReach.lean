/-
  Package dyadic: reach, by its contract.
-/
import Derived.Test.YtcpjdgfnblkfpaaGreatDoorDList
import Derived.Test.YtcpjdgfnblkfpaaGreatDoorDSetV
import Derived.Test.YtcpjdgfnblkfpaaGreatDoorNWr
import Derived.Deep.RegionHeld3
namespace Go.Proofs.YtcpjdgfnblkfpaaGreatDoor
open Go Go.RowKit Go.Proofs.YtcpjdgfnblkfpaaGreatDoor.M
set_option linter.unusedSimpArgs false
set_option linter.unusedVariables false

/-- A number's own block, behind a call. -/
theorem keepB {W w' : World} {g : Nat} {a b c : Value} (h : W.cell? ⟨g, 0, none⟩ = some a ∧ W.cell? ⟨g, 1, none⟩ = some b ∧ W.cell? ⟨g, 2, none⟩ = some c) (hb : Below W.heap.size W w') :
    w'.cell? ⟨g, 0, none⟩ = some a ∧ w'.cell? ⟨g, 1, none⟩ = some b ∧ w'.cell? ⟨g, 2, none⟩ = some c := ⟨cell_keeps h.1 hb, cell_keeps h.2.1 hb, cell_keeps h.2.2 hb⟩
theorem keepW {W w' : World} {g o : Nat} {a b c : Value} (h : W.cell? ⟨g, 0, none⟩ = some a ∧ W.cell? ⟨g, 1, none⟩ = some b ∧ W.cell? ⟨g, 2, none⟩ = some c) (hw : Wr o W w') (hg : g ≠ o) :
    w'.cell? ⟨g, 0, none⟩ = some a ∧ w'.cell? ⟨g, 1, none⟩ = some b ∧ w'.cell? ⟨g, 2, none⟩ = some c :=
  ⟨(hw.cell (World.block_lt_of_cell? W _ h.1) hg).trans h.1, (hw.cell (World.block_lt_of_cell? W _ h.2.1) hg).trans h.2.1, (hw.cell (World.block_lt_of_cell? W _ h.2.2) hg).trans h.2.2⟩
theorem keepS {W : World} {g o : Nat} {a b c : Value} (h : W.cell? ⟨g, 0, none⟩ = some a ∧ W.cell? ⟨g, 1, none⟩ = some b ∧ W.cell? ⟨g, 2, none⟩ = some c) (hg : g ≠ o) (x y z : Value) :
    (((W.setCell ⟨o, 0, none⟩ x).setCell ⟨o, 1, none⟩ y).setCell ⟨o, 2, none⟩ z).cell? ⟨g, 0, none⟩ = some a ∧ (((W.setCell ⟨o, 0, none⟩ x).setCell ⟨o, 1, none⟩ y).setCell ⟨o, 2, none⟩ z).cell? ⟨g, 1, none⟩ = some b ∧ (((W.setCell ⟨o, 0, none⟩ x).setCell ⟨o, 1, none⟩ y).setCell ⟨o, 2, none⟩ z).cell? ⟨g, 2, none⟩ = some c :=
  keepW h (((Wr.refl o W).setCell 0 x |>.setCell 1 y).setCell 2 z) hg
/-- Numbers that can be summed: lists without zeros on top, not too long, exponents not too far. -/
def Sane (r : NumR) : Prop := Nrm r.d r.n ∧ r.n ≤ 5000 ∧ -1100000 ≤ r.e ∧ r.e ≤ 1100000
/-- The exponents between which the bits of the first k numbers lie. -/
structure Rch (r : Nat → NumR) (k : Nat) (low high : Int) : Prop where
  none : (∀ i, i < k → (r i).n = 0) → low = 9223372036854775807 ∧ high = -9223372036854775808
  some : (∃ i, i < k ∧ 0 < (r i).n) → -1100000 ≤ low ∧ low ≤ 1100000 ∧ -1100000 ≤ high ∧ high ≤ 1250000
  all : ∀ i, i < k → 0 < (r i).n → low ≤ (r i).e ∧ (r i).e + blen (val (r i).d (r i).n) ≤ high
theorem Sane.len {x : NumR} (h : Sane x) : blen (val x.d x.n) ≤ 150000 := by
  have := blen_le (V := val x.d x.n) (k := 30 * x.n) (by rw [← P_two]; exact val_lt h.1.1)
  have := h.2.1
  omega
theorem Rch.zero {r : Nat → NumR} {k : Nat} {low high : Int} (h : Rch r k low high) (h0 : (r k).n = 0) : Rch r (k + 1) low high :=
  ⟨fun hx => h.none fun i hi => hx i (by omega), fun ⟨i, hi, hp⟩ => h.some ⟨i, by
    by_cases e : i = k
    · subst e; omega
    · omega, hp⟩, fun i hi hp => by
    by_cases e : i = k
    · subst e; omega
    · exact h.all i (by omega) hp⟩
theorem Rch.step {r : Nat → NumR} {k : Nat} {low high : Int} (h : Rch r k low high) (h0 : 0 < (r k).n) (hs : Sane (r k)) : Rch r (k + 1) (min low (r k).e) (max high ((r k).e + blen (val (r k).d (r k).n))) := by
  obtain ⟨s1, s2, s3, s4⟩ := id hs
  have s5 := hs.len
  refine ⟨fun hx => by have := hx k (by omega); omega, fun _ => ?_, fun i hi hp => ?_⟩
  · by_cases hx : ∀ i, i < k → (r i).n = 0
    · obtain ⟨a, b⟩ := h.none hx
      subst a b
      omega
    · have : ∃ i, i < k ∧ 0 < (r i).n := by
        simp only [Classical.not_forall] at hx
        obtain ⟨i, hi, hp⟩ := hx
        exact ⟨i, hi, by omega⟩
      have := h.some this
      omega
  · by_cases e : i = k
    · subst e; omega
    · have := h.all i (by omega) hp; omega
set_option maxRecDepth 100000 in
set_option maxHeartbeats 1000000 in
theorem reach_any (ao : Option Addr) (n cap : Nat) (r : Nat → NumR) (w : World) (h : Nums w ao n cap r) (hs : ∀ i, i < n → Sane (r i)) :
    Calls Tryz.prog 97 #[.slice ao n cap] w fun x w' => ∃ low high, x = .returned (.tuple #[.int .i64 low, .int .i64 high]) ∧ Rch r n low high ∧ Below w.heap.size w w' := by
  have hl := h.le
  have hm := h.max
  have HS : Hid (∀ i, i < n → Sane (r i)) := hs
  clear hs
  have hmin : ∀ (ts : Array TypeId) (t : TypeId) (x y : Int) (w : World), (Builtin.min_ ts t #[.int .i64 x, .int .i64 y]).run Tryz.prog w = .ok (.int .i64 (min x y)) w := fun ts t x y w => by rw [run_min_int2]; congr 2; omega
  have hmax : ∀ (ts : Array TypeId) (t : TypeId) (x y : Int) (w : World), (Builtin.max_ ts t #[.int .i64 x, .int .i64 y]).run Tryz.prog w = .ok (.int .i64 (max x y)) w := fun ts t x y w => by rw [run_max_int2]; congr 2; omega
  go_enter Tryz.func97, Tryz.ntmps97
  go_wp2_with fail
  go_loopw [2, 3, 8] (fun lo hi i wr => ∃ (k : Nat) (low high : Int), k ≤ n ∧ i = .int .i64 k ∧ lo = .int .i64 low ∧ hi = .int .i64 high ∧ Hid (Rch r k low high) ∧ Below w.heap.size w wr) (fun _ _ i _ => n - (intOf i).toNat)
  case atStart => exact ⟨0, _, _, Nat.zero_le _, rfl, rfl, rfl, ⟨fun _ => ⟨rfl, rfl⟩, fun ⟨i, hi, _⟩ => by omega, fun i hi => by omega⟩, bel_refl _⟩
  case round =>
    obtain ⟨k, low, high, hk, rfl, rfl, rfl, HR, hbw⟩ := hrel
    by_cases hlt : k < n
    · obtain ⟨b, off, rfl, hb, hc⟩ := h.spot (by omega)
      obtain ⟨c0, c1, c2, hR⟩ := (hc k hlt).keeps hbw hb
      have hsk := HS.out k hlt
      have hst := fun h0 => HR.out.step (k := k) h0 hsk
      have hze := fun h0 => HR.out.zero (k := k) h0
      have hlen := hsk.len
      generalize hr : r k = x at *
      obtain ⟨ng, xo, xn, xc, xd, xe⟩ := x
      obtain ⟨s1, s2, s3, s4⟩ := hsk
      simp only at c0 c1 c2 hR s1 s2 s3 s4 hst hze hlen
      by_cases h0 : xn = 0
      · subst h0
        have HZ : Hid (Rch r (k + 1) low high) := hze rfl
        clear hst hze
        go_wp2
        go_roundw
        case rel => exact ⟨k + 1, low, high, by omega, by go_num, rfl, rfl, HZ, hbw.trans ((bel_alloc _ _).mono hbw.size)⟩
        case measure => simp [intOf]; omega
      · have HZ : Hid (Rch r (k + 1) (min low xe) (max high (xe + blen (val xd xn)))) := hst (by omega)
        have hlp : (0 : Int) < xn := by omega
        have HM : Hid (∀ L H, L = min low xe → H = max high (xe + blen (val xd xn)) → Rch r (k + 1) L H) := fun L H e1 e2 => by rw [e1, e2]; exact HZ.out
        have q0 := heap_a1 wr (.cells #[.bool ng, .slice xo xn xc, .int .i64 xe] 37)
        have hbx : Below w.heap.size w (wr.alloc (.cells #[.bool ng, .slice xo xn xc, .int .i64 xe] 37)) := hbw.trans ((bel_alloc _ _).mono hbw.size)
        have hRx := hR.alloc (.cells #[.bool ng, .slice xo xn xc, .int .i64 xe] 37)
        clear HZ hst hze
        go_wp2_with fail
        generalize wr.alloc (.cells #[.bool ng, .slice xo xn xc, .int .i64 xe] 37) = wx at q0 hbx hRx ⊢
        have k0 := blkC q0 0 rfl
        have k1 := blkC q0 1 rfl
        have k2 := blkC q0 2 rfl
        have hb1 := bel_refl wx
        have C1 : ∀ W, Below wx.heap.size wx W → Calls Tryz.prog 127 #[.agg #[.bool ng, .slice xo xn xc, .int .i64 xe]] W fun y w' => y = .returned (.int .i64 (xe + blen (val xd xn))) ∧ Below W.heap.size W w' := fun W h => dtop_any ng xo xn xc xd xe W (hRx.keeps h) s1 (by omega) (by omega) (by omega)
        go_region_held3 (fun W => W.cell? ⟨wr.heap.size, 0, none⟩ = some (.bool ng) ∧ W.cell? ⟨wr.heap.size, 1, none⟩ = some (.slice xo xn xc) ∧ W.cell? ⟨wr.heap.size, 2, none⟩ = some (.int .i64 xe))
          (first | exact ⟨k0, k1, k2⟩ | assumption | exact keepB (W := wx.drew) ⟨k0, k1, k2⟩ hbv1)
          (first | (go_at_call 127; refine (C1 _ hb1.drew).mono ?_; rintro y w3 ⟨rfl, hbv1⟩) | fail)
        all_goals go_wp2
        all_goals
          go_roundw
          case rel => exact ⟨k + 1, _, _, by omega, by go_num, rfl, rfl, HM.out _ _ (by omega) (by omega), hbx.trans ((bel_trans hb1.drew hbv1).mono hbx.size)⟩
          case measure => simp [intOf]; omega
    · obtain rfl : k = n := by omega
      go_wp2
      go_ret2
      exact ⟨_, _, rfl, HR.out, hbw⟩
end Go.Proofs.YtcpjdgfnblkfpaaGreatDoor
