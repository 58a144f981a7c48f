/-
  Parts of the proof, one behind another.
-/
import Derived.Test.YtkieaijmjpckdabDoorPart1
import Derived.Test.YtkieaijmjpckdabDoorPart2
import Derived.Tactics
import Derived.Tactics2
import Derived.Defers
import Derived.Recover
import Derived.Laws.Pointers
import Derived.WalkLawsBesides
import Derived.Lib.SliceRun
import Derived.Deep.OwnRows
import Derived.Deep.RegionWith
import Derived.Deep.CutRange
import Derived.Laws.CopyOwn
import Derived.WalkMore
import Derived.ScopeJumps
/-
  Package dyadic: told, by its contract: what is reckoned out is told; where it gave up, ErrLong.
-/
namespace Go.Proofs.YtkieaijmjpckdabDoor
open Go Go.RowKit Go.Proofs.YtkieaijmjpckdabDoor.M
set_option linter.unusedSimpArgs false
set_option linter.unusedVariables false

theorem blkC {w : World} {g : Nat} {xs : Array Value} {t : TypeId} (h : w.heap[g]? = some (.cells xs t (0, 0))) (i : Nat) {v : Value} (hi : xs[i]? = some v) : w.cell? ⟨g, i, none⟩ = some v := by
  rw [cell_of_row w g i xs _ _ h]; exact hi
theorem blkF {w : World} {g : Nat} {xs : Array Value} {t : TypeId} (h : w.heap[g]? = some (.cells xs t (0, 0))) (i : Nat) : w.frozen? ⟨g, i, none⟩ = false := by
  simp [World.frozen?, h]
theorem heap_a2 (w : World) (a b : Obj) : ((w.alloc a).alloc b).heap[w.heap.size]? = some a := by
  show ((w.heap.push a).push b)[w.heap.size]? = some a
  simp [Array.getElem?_push]
theorem heap_b2 (w : World) (a b : Obj) : ((w.alloc a).alloc b).heap[w.heap.size + 1]? = some b := by
  show ((w.heap.push a).push b)[w.heap.size + 1]? = some b
  rw [Array.getElem?_push, if_pos (by simp)]
theorem size2 (w : World) (a b : Obj) : ((w.alloc a).alloc b).heap.size = w.heap.size + 2 := by
  show ((w.heap.push a).push b).size = _
  simp
theorem Out.set_below {B : Nat} {w : World} {v : Value} {n : Nat} {d : Nat → Int} (h : Out B w v n d) {a : Addr} (ha : a.block < B) (u : Value) : Out B (w.setCell a u) v n d := ownsRow_setCell_below h ha u
/-- A number that is read, in its one form. -/
def DNum (w : World) (v : Value) (V : Int) : Prop := ∃ ng s m e, v = .agg #[.bool ng, s, .int .i64 e] ∧ Dy V ng m e ∧ Num w s m
/-- A number that is answered: its list is new memory. -/
def DAns (w w' : World) (V : Int) (v : Value) : Prop := ∃ ng s m e, v = .agg #[.bool ng, s, .int .i64 e] ∧ Dy V ng m e ∧ Ans w w' m s
/-- The zero number. -/
def zeroV : Value := .agg #[.bool false, .slice none 0 0, .int .i64 0]
theorem DAns.below {w w' : World} {V : Int} {v : Value} (h : DAns w w' V v) : Below w.heap.size w w' := by
  obtain ⟨ng, s, m, e, _, _, h3⟩ := h
  exact h3.below
theorem DAns.num {w w' : World} {V : Int} {v : Value} (h : DAns w w' V v) : DNum w' v V := by
  obtain ⟨ng, s, m, e, h1, h2, h3⟩ := h
  exact ⟨ng, s, m, e, h1, h2, h3.num⟩
theorem DAns.from {w0 w w' : World} {V : Int} {v : Value} (h : DAns w w' V v) (hb : Below w0.heap.size w0 w) : DAns w0 w' V v := by
  obtain ⟨ng, s, m, e, h1, h2, h3⟩ := h
  exact ⟨ng, s, m, e, h1, h2, h3.from hb⟩
theorem DAns.stays {w w1 w2 : World} {V : Int} {v : Value} (h : DAns w w1 V v) (hb : Below w1.heap.size w1 w2) : DAns w w2 V v := by
  obtain ⟨ng, s, m, e, h1, h2, h3⟩ := h
  exact ⟨ng, s, m, e, h1, h2, h3.stays hb⟩
theorem DAns.zero {w w' : World} (hb : Below w.heap.size w w') : DAns w w' 0 zeroV := ⟨_, _, _, _, rfl, Dy.zero, Ans.nil hb⟩
theorem DNum.keeps {w w' : World} {v : Value} {V : Int} (h : DNum w v V) (hb : Below w.heap.size w w') : DNum w' v V := by
  obtain ⟨ng, s, m, e, h1, h2, h3⟩ := h
  exact ⟨ng, s, m, e, h1, h2, h3.keeps hb⟩
theorem DNum.cast {w : World} {v : Value} {V V' : Int} (h : DNum w v V) (e : V = V') : DNum w v V' := e ▸ h
theorem DNum.zero (w : World) : DNum w zeroV 0 := (DAns.zero (bel_refl w)).num
/-- A number, or ErrLong, as the document says. -/
def DFit (w w' : World) (V : Int) (v : Value) (er : Int) : Prop := Below w.heap.size w w' ∧ ((Dok V ∧ er = 0 ∧ DAns w w' V v) ∨ (¬ Dok V ∧ er = 2 ∧ v = zeroV))
theorem if_nil (w : World) : (binOp .eql 20 Value.nilIface Value.nilIface).run Tryd.prog w = .ok (.bool true) w := by kernel_rfl
theorem if_not (w : World) : (binOp .eql 20 (.iface 25 (.int .i64 2)) Value.nilIface).run Tryd.prog w = .ok (.bool false) w := by kernel_rfl
theorem if_long (w : World) : (binOp .eql 20 (.iface 25 (.int .i64 2)) (.iface 25 (.int .i64 2))).run Tryd.prog w = .ok (.bool true) w := by kernel_rfl
theorem catch_panicking (p : Addr) (x : Value) (older : List PanicEntry) (w : World) (hc : w.cell? p = some x) (hz : w.frozen? p = false) :
    CallsD Tryd.prog 31 #[.pointer (some p)] (.panicking ({ v := .iface 25 (.int .i64 2), recovered := false } :: older)) w fun e u' w' =>
      e = .returned (.tuple #[]) ∧ u' = .panicking ({ v := .iface 25 (.int .i64 2), recovered := true } :: older) ∧ w' = w.setCell p (.int .i64 2) := by
  have h1 := if_not
  have h2 := if_long
  refine callsD_of_wpS Tryd.func31 rfl fun c₀ cs hu => ?_
  apply wpS_seq
  apply wpS_region
  simp [wpOpsS, go_sem, recoverD, hu, Tryd.ntmps31, Exit.thenS]
  refine wpS_of_wp ?_
  go_wp2
  simp [bodyPostS, results, Tryd.results31]
theorem catch_idle (p : Addr) (w : World) :
    CallsD Tryd.prog 31 #[.pointer (some p)] .returning w fun e u' w' => e = .returned (.tuple #[]) ∧ u' = .returning ∧ w' = w := by
  have h1 := if_nil
  refine callsD_of_wpS Tryd.func31 rfl fun c₀ cs hu => ?_
  apply wpS_seq
  apply wpS_region
  simp [wpOpsS, go_sem, recoverD, hu, Tryd.ntmps31, Exit.thenS]
  refine wpS_of_wp ?_
  go_wp2
  cases c₀
  simp_all [bodyPostS, results, Tryd.results31]
set_option maxRecDepth 100000 in
set_option maxHeartbeats 1000000 in
theorem told_no (F : Nat) (cap : Array Value) (w : World) (hE : ∀ w, (callFunc F cap).run Tryd.prog w = .ok (.enter F cap) w) (hF : ∀ W, Below w.heap.size w W → Calls Tryd.prog F cap W fun r W' => r = .panicked [{ v := .iface 25 (.int .i64 2), recovered := false }] ∧ Below W.heap.size W W') :
    Calls Tryd.prog 15 #[.func (.func F) #[] cap] w fun r w' => r = .returned (.tuple #[.agg #[.bool false, .slice none 0 0, .int .i64 0], .int .i64 2]) ∧ Below w.heap.size w w' := by
  have hmf : ∀ (fn : Fn) (first cap : Array Value) (w : World), (Instr.makeFunc fn first cap).run Tryd.prog w = .ok (.func fn first cap) w := fun _ _ _ _ => rfl
  go_enter_defers Tryd.func15, Tryd.ntmps15
  go_wp2_with fail
  refine (hF _ (bel_alloc2 _ _ _)).mono ?_
  rintro r W' ⟨rfl, hb⟩
  have q1 := (hb.block (w.heap.size + 1) (by rw [size2]; omega)).trans (heap_b2 _ _ _)
  have q0 := (hb.block w.heap.size (by rw [size2]; omega)).trans (heap_a2 _ _ _)
  have f0 := blkF q1 0
  have k0 := blkC q1 0 rfl
  go_wp2_with fail
  refine leaves_cons (f := 31) (args := #[.pointer (some ⟨w.heap.size + 1, 0, none⟩)]) (by simp) (by simp [go_sem]) ?_
  refine (catch_panicking ⟨w.heap.size + 1, 0, none⟩ _ [] _ k0 f0).mono ?_
  rintro e u' w'' ⟨rfl, rfl, rfl⟩
  have c0 := blkC q0 0 rfl
  have c1 := blkC q0 1 rfl
  have c2 := blkC q0 2 rfl
  simp [Leaves, settle, results, Tryd.results15, go_sem, c0, c1, c2, k0]
  exact ((bel_alloc2 _ _ _).trans (hb.mono (bel_alloc2 _ _ _).size)).setCell (Nat.le_succ _) _
theorem dans_res {w W w3 : World} {V : Int} {v : Value} (hv : DAns W w3 V v) (hb : Below w.heap.size w W) {g : Nat} (h0 : w.heap.size ≤ g) (h1 : g + 1 < W.heap.size) (a b c x : Value) :
    DAns w ((((w3.setCell ⟨g, 0, none⟩ a).setCell ⟨g, 1, none⟩ b).setCell ⟨g, 2, none⟩ c).setCell ⟨g + 1, 0, none⟩ x) V v := by
  obtain ⟨ng, s, m, e, h2, h3, t, d, hO, hN, hV, hB⟩ := hv
  refine ⟨ng, s, m, e, h2, h3, t, d, ?_, hN, hV, ?_⟩
  · exact ((((hO.set_below (a := ⟨g, 0, none⟩) (by show g < _; omega) a).set_below (a := ⟨g, 1, none⟩) (by show g < _; omega) b).set_below (a := ⟨g, 2, none⟩) (by show g < _; omega) c).set_below (a := ⟨g + 1, 0, none⟩) h1 x).lower hb.size
  · exact ((((hb.trans (hB.mono hb.size)).setCell (p := ⟨g, 0, none⟩) h0 a).setCell (p := ⟨g, 1, none⟩) h0 b).setCell (p := ⟨g, 2, none⟩) h0 c).setCell (p := ⟨g + 1, 0, none⟩) (Nat.le_succ_of_le h0) x
set_option maxRecDepth 100000 in
set_option maxHeartbeats 1000000 in
theorem told_yes (F : Nat) (cap : Array Value) (w : World) (V : Int) (hE : ∀ w, (callFunc F cap).run Tryd.prog w = .ok (.enter F cap) w) (hF : ∀ W, Below w.heap.size w W → Calls Tryd.prog F cap W fun r W' => ∃ v, r = .returned v ∧ DAns W W' V v) :
    Calls Tryd.prog 15 #[.func (.func F) #[] cap] w fun r w' => ∃ v, r = .returned (.tuple #[v, .int .i64 0]) ∧ DAns w w' V v := by
  have hmf : ∀ (fn : Fn) (first cap : Array Value) (w : World), (Instr.makeFunc fn first cap).run Tryd.prog w = .ok (.func fn first cap) w := fun _ _ _ _ => rfl
  go_enter_defers Tryd.func15, Tryd.ntmps15
  go_wp2_with fail
  refine (hF _ (bel_alloc2 _ _ _)).mono ?_
  rintro r W' ⟨v, rfl, hD⟩
  have hb := hD.below
  obtain ⟨ng, s, m, e, rfl, hy, hA⟩ := id hD
  obtain ⟨so, sn, sc, rfl⟩ := hA.num.shape
  have q1 := (hb.block (w.heap.size + 1) (by rw [size2]; omega)).trans (heap_b2 _ _ _)
  have q0 := (hb.block w.heap.size (by rw [size2]; omega)).trans (heap_a2 _ _ _)
  have f0 := blkF q1 0
  have k0 := blkC q1 0 rfl
  have c0 := blkC q0 0 rfl
  have c1 := blkC q0 1 rfl
  have c2 := blkC q0 2 rfl
  have z0 := blkF q0 0
  have z1 := blkF q0 1
  have z2 := blkF q0 2
  go_wp2_with fail
  refine leaves_cons (f := 31) (args := #[.pointer (some ⟨w.heap.size + 1, 0, none⟩)]) (by simp) (by simp [go_sem]) ?_
  refine (catch_idle ⟨w.heap.size + 1, 0, none⟩ _).mono ?_
  rintro e u' w'' ⟨rfl, rfl, rfl⟩
  simp [Leaves, settle, results, Tryd.results15, go_sem, c0, c1, c2, k0]
  exact dans_res (g := w.heap.size) hD (bel_alloc2 _ _ _) (Nat.le_refl _) (by rw [size2]; omega) _ _ _ _
end Go.Proofs.YtkieaijmjpckdabDoor

/-
  Package nat: sum, difference, compare, by contracts: for every two lists of digits.
-/
namespace Go.Proofs.YtkieaijmjpckdabDoor
open Go Go.RowKit Go.Proofs.YtkieaijmjpckdabDoor.M
set_option linter.unusedSimpArgs false
set_option linter.unusedVariables false

end Go.Proofs.YtkieaijmjpckdabDoor

/-
  Package nat: product, by its contract: for every two lists of digits.
-/
namespace Go.Proofs.YtkieaijmjpckdabDoor
open Go Go.RowKit Go.Proofs.YtkieaijmjpckdabDoor.M
set_option linter.unusedSimpArgs false
set_option linter.unusedVariables false

set_option maxHeartbeats 2000000 in
theorem product_any (ao bo : Option Addr) (n m ca cb : Nat) (a b : Nat → Int) (w : World) (ha : Row w ao n ca a) (hb : Row w bo m cb b) (da : Dig a n) (db : Dig b m) (hn : n ≤ 100000) (hm : m ≤ 100000) :
    Calls Tryd.prog 36 #[.slice ao n ca, .slice bo m cb] w fun e w' => ∃ v, e = .returned v ∧ Ans w w' (val a n * val b m) v := by
  have hla := ha.le
  have hma := ha.max
  have hlb := hb.le
  have hmb := hb.max
  go_enter Tryd.func36, Tryd.ntmps36
  go_wp2_with (at_make; refine wpList_mk rfl _ _ rfl _ _ (n + m) rfl rfl (by omega) (by omega) (by omega) ?_; intro w1 hB1 hb1)
  go_loopw [18] (fun i wr => ∃ (k : Nat) (r : Nat → Int), k ≤ n ∧ i = .int .i64 k ∧ Blk wr w.heap.size (n + m) r ∧ Dig r (n + m) ∧ Hid (∀ t, k + m ≤ t → r t = 0) ∧ Hid (val r (k + m) = val a k * val b m) ∧ Below w.heap.size w wr) (fun i _ => n - (intOf i).toNat)
  case atStart => exact ⟨0, fun _ => 0, Nat.zero_le _, rfl, hB1, zero_dig _, fun _ _ => rfl, by show _ = _; rw [val_zeros (Nat.zero_le (0 + m)) (fun _ _ _ => rfl)]; show 0 = 0 * val b m; omega, hb1⟩
  case round =>
    obtain ⟨i, r0, hi, rfl, hB0, hD0, HZ0, HV0, hbw0⟩ := hrel
    by_cases hlt : i < n
    · obtain ⟨ba, fa, rfl, hba, hca⟩ := ha.spot (by omega)
      have dai := da i hlt
      go_wp2
      go_loopw [8, 30] (fun c j wr => ∃ (k : Nat) (q : Int) (r : Nat → Int), k ≤ m ∧ j = .int .i64 k ∧ c = .int .i64 q ∧ 0 ≤ q ∧ q < 1073741824 ∧ Blk wr w.heap.size (n + m) r ∧ Dig r (n + m) ∧ Hid (∀ t, i + k ≤ t → r t = r0 t) ∧ Hid (val r (i + k) + q * P (i + k) = val r0 (i + k) + a i * val b k * P i) ∧ Below w.heap.size w wr) (fun _ j _ => m - (intOf j).toNat)
      case atStart => exact ⟨0, 0, r0, Nat.zero_le _, rfl, rfl, by omega, by omega, hB0, hD0, fun _ _ => rfl, by show _ = _; show val r0 i + 0 * P i = val r0 i + a i * 0 * P i; grind, hbw0⟩
      case round =>
        obtain ⟨k, q, r, hk, rfl, rfl, hq0, hq1, hB, hD, HS, HV, hbw⟩ := hrel
        have c1 := (hbw.cell (p := ⟨ba, fa + i, none⟩) hba).trans (hca i hlt)
        by_cases hkm : k < m
        · obtain ⟨bb, fb, rfl, hbb, hcb⟩ := hb.spot (by omega)
          have c2 := (hbw.cell (p := ⟨bb, fb + k, none⟩) hbb).trans (hcb k hkm)
          have c3 := hB.cell (show i + k < n + m by omega)
          have fg := hB.frozen (i + k)
          have drk := hD (i + k) (by omega)
          have hmul := dig_mul dai (db k hkm)
          have h30 := and_30 (q + (a i * b k + r (i + k)))
          go_wp2
          go_quiet (fail)
          go_wp2
          have hs := mul_step (b := b) (j := k) HV.out (HS.out (i + k) (Nat.le_refl _))
          go_roundw
          case rel => exact ⟨k + 1, _, upd r (i + k) ((q + (a i * b k + r (i + k))) % 1073741824), by omega, by go_num, rfl, by omega, by omega, hB.store (i + k) _, hD.upd _ (mod_dig _), fun t ht => by rw [upd_other r _ (by omega)]; exact HS.out t (by omega), hs, (bDrewN hbw _).setCell (Nat.le_refl _) _⟩
          case measure => simp [intOf]; omega
        · obtain rfl : k = m := by omega
          have c3 := hB.cell (show i + k < n + k by omega)
          have fg := hB.frozen (i + k)
          go_wp2
          have hr := mul_row HV.out HV0.out
          go_roundw
          case rel => exact ⟨i + 1, upd r (i + k) q, by omega, by go_num, hB.store (i + k) _, hD.upd _ ⟨hq0, hq1⟩, fun t ht => by rw [upd_other r _ (by omega), HS.out t (by omega)]; exact HZ0.out t (by omega), by show _ = _; rw [hr, val_succ], hbw.setCell (Nat.le_refl _) _⟩
          case measure => simp [intOf]; omega
    · obtain rfl : i = n := by omega
      go_wp2_with (go_at_call 32; refine (trim_any _ _ _ _ _ (hB0.row0 (Nat.le_refl _) (by omega))).mono ?_; rintro e w3 ⟨t, ht, htop, hz, rfl, rfl⟩)
      go_ret
      obtain ⟨hN, hv⟩ := nrm_of_top hD0 ht htop hz
      exact ⟨_, rfl, t, r0, hB0.cut (Nat.le_refl _) ht (by omega), hN, by rw [hv, HV0.out], hbw0⟩
end Go.Proofs.YtkieaijmjpckdabDoor

/-
  Package nat: Cmp, Add, Sub, Mul, by contracts: for every two lists.
-/
namespace Go.Proofs.YtkieaijmjpckdabDoor
open Go Go.RowKit Go.Proofs.YtkieaijmjpckdabDoor.M
set_option linter.unusedSimpArgs false
set_option linter.unusedVariables false

theorem cmpInt_any (x y : Int) (w : World) : Calls Tryd.prog 42 #[.int .i64 x, .int .i64 y] w fun e w' => e = .returned (.int .i64 (ord x y)) ∧ w' = w := by
  by_cases h1 : x < y
  · go_enter Tryd.func42, Tryd.ntmps42
    go_wp2
    go_ret
    exact ⟨ret_int (ord_lt h1).symm, rfl⟩
  · by_cases h2 : y < x
    · go_enter Tryd.func42, Tryd.ntmps42
      go_wp2
      go_ret
      exact ⟨ret_int (ord_gt h2).symm, rfl⟩
    · go_enter Tryd.func42, Tryd.ntmps42
      go_wp2
      go_ret
      exact ⟨ret_int (ord_eq (show x = y by omega)).symm, rfl⟩

theorem ord_ge {a b : Int} (h : b ≤ a) : ¬ ord a b < 0 := by
  rcases Int.lt_or_eq_of_le h with h1 | h1
  · rw [ord_gt h1]; decide
  · rw [ord_eq h1.symm]; decide
theorem ord_len {d e : Nat → Int} {n m : Nat} (hd : Nrm d n) (he : Nrm e m) (h : n ≠ m) : ord n m = ord (val d n) (val e m) := by
  rcases Nat.lt_or_gt_of_ne h with h1 | h1
  · rw [ord_lt (by omega), ord_lt (nrm_lt hd.1 he h1)]
  · rw [ord_gt (by omega), ord_gt (nrm_lt he.1 hd h1)]
theorem ord_top {d e : Nat → Int} {n k : Nat} (hd : Dig d n) (he : Dig e n) (hk : k < n) (hs : ∀ i, k < i → i < n → d i = e i) (hne : d k ≠ e k) : ord (d k) (e k) = ord (val d n) (val e n) := by
  rcases Int.lt_or_gt_of_ne hne with h1 | h1
  · rw [ord_lt h1, ord_lt (cmp_top hd he hk hs h1)]
  · rw [ord_gt h1, ord_gt (cmp_top he hd hk (fun i a b => (hs i a b).symm) h1)]

set_option maxHeartbeats 1000000 in
theorem compare_any (ao bo : Option Addr) (n m ca cb : Nat) (a b : Nat → Int) (w : World) (ha : Row w ao n ca a) (hb : Row w bo m cb b) (na : Nrm a n) (nb : Nrm b m) :
    Calls Tryd.prog 52 #[.slice ao n ca, .slice bo m cb] w fun e w' => e = .returned (.int .i64 (ord (val a n) (val b m))) ∧ Below w.heap.size w w' := by
  have hla := ha.le
  have hma := ha.max
  have hlb := hb.le
  have hmb := hb.max
  by_cases hnm : n = m
  · subst hnm
    go_enter Tryd.func52, Tryd.ntmps52
    go_wp2
    go_loopw [19] (fun i wr => ∃ k : Nat, k ≤ n ∧ i = .int .i64 k ∧ Hid (∀ i, n - k ≤ i → i < n → a i = b i) ∧ Below w.heap.size w wr) (fun i _ => n - (intOf i).toNat)
    case atStart => exact ⟨0, Nat.zero_le _, rfl, fun i _ _ => by omega, bel_refl _⟩
    case round =>
      obtain ⟨k, hk, rfl, HS, hbw⟩ := hrel
      by_cases hlt : k < n
      · obtain ⟨ba, fa, rfl, hba, hca⟩ := ha.spot (by omega)
        obtain ⟨bb, fb, rfl, hbb, hcb⟩ := hb.spot (by omega)
        have c1 := (hbw.cell (p := ⟨ba, fa + (n - 1 - k), none⟩) hba).trans (hca (n - 1 - k) (by omega))
        have c2 := (hbw.cell (p := ⟨bb, fb + (n - 1 - k), none⟩) hbb).trans (hcb (n - 1 - k) (by omega))
        by_cases he : a (n - 1 - k) = b (n - 1 - k)
        · have he' : (a (n - 1 - k) != b (n - 1 - k)) = false := by simp [he]
          have HE : Hid (a (n - 1 - k) = b (n - 1 - k)) := he
          clear he
          go_wp2
          go_quiet (fail)
          go_wp2
          go_roundw
          case rel => exact ⟨k + 1, by omega, by go_num, fun i x y => by by_cases e : i = n - 1 - k; (· rw [e]; exact HE.out); (· exact HS.out i (by omega) y), bDrewN hbw _⟩
          case measure => simp [intOf]; omega
        · have he' : (a (n - 1 - k) != b (n - 1 - k)) = true := by simp [he]
          go_wp2
          go_quiet (fail)
          go_wp2
          go_quiet ((refine (cmpInt_any _ _ _).mono ?_; rintro _ _ ⟨rfl, rfl⟩; exact ⟨rfl, _, rfl⟩))
          go_wp2
          go_ret
          exact ⟨ret_int (ord_top na.1 nb.1 (show n - 1 - k < n by omega) (fun i x y => HS.out i (by omega) y) he), bDrewN (bDrewN hbw _) _⟩
      · obtain rfl : k = n := by omega
        go_wp2
        go_ret
        exact ⟨ret_int (ord_eq (val_congr fun i hi => HS.out i (by omega) hi)).symm, hbw⟩
  · go_enter Tryd.func52, Tryd.ntmps52
    go_wp2_with (go_at_call 42; refine (cmpInt_any _ _ _).mono ?_; rintro e w' ⟨rfl, rfl⟩)
    go_ret
    exact ⟨ret_int (ord_len na nb hnm), bel_refl _⟩

/-- What fit hands on. -/
def fitV (ao : Option Addr) (t cap : Nat) : Value := if 2000 < t then .slice none 0 0 else .slice ao t cap
def fitE (t : Nat) : Int := if 2000 < t then 2 else 0
theorem Fit.of {w w' : World} {V : Int} {ao : Option Addr} {t cap : Nat} {d : Nat → Int} (h1 : Out w.heap.size w' (.slice ao t cap) t d) (h2 : Nrm d t) (h3 : val d t = V) (hb : Below w.heap.size w w') : Fit w w' V (fitV ao t cap) (fitE t) := by
  refine ⟨hb, ?_⟩
  by_cases h : 2000 < t
  · refine .inr ⟨?_, by simp [fitE, h], by simp [fitV, h]⟩
    have a := val_top h2.1 (by omega) h2.2
    have b := P_le (show 2000 ≤ t - 1 by omega)
    omega
  · refine .inl ⟨?_, by simp [fitE, h], ?_⟩
    · have a := val_lt h2.1
      have b := P_le (show t ≤ 2000 by omega)
      omega
    · rw [show fitV ao t cap = .slice ao t cap by simp [fitV, h]]
      exact ⟨t, d, h1, h2, h3, hb⟩

/-- The two lists of a call, as they lie. -/
structure Two (w : World) (ao bo : Option Addr) (n m ca cb : Nat) (a b : Nat → Int) : Prop where
  ra : Row w ao n ca a
  rb : Row w bo m cb b
theorem Two.keeps {w w' : World} {ao bo : Option Addr} {n m ca cb : Nat} {a b : Nat → Int} (h : Two w ao bo n m ca cb a b) (hb : Below w.heap.size w w') : Two w' ao bo n m ca cb a b := ⟨h.ra.keeps hb, h.rb.keeps hb⟩

end Go.Proofs.YtkieaijmjpckdabDoor

/-
  The statements' own helpers: Same, digits, alive, by contracts.
-/
namespace Go.Proofs.YtkieaijmjpckdabDoor
open Go Go.RowKit Go.Proofs.YtkieaijmjpckdabDoor.M
set_option linter.unusedSimpArgs false
set_option linter.unusedVariables false

instance (n : Nat) (a b : Nat → Int) : Decidable (∀ i, i < n → a i = b i) := by infer_instance
/-- Are two lists one? -/
def sameB (a b : Nat → Int) (n m : Nat) : Bool := decide (n = m ∧ ∀ i, i < n → a i = b i)
theorem sameB_of {a b : Nat → Int} {n m : Nat} (ha : Nrm a n) (hb : Nrm b m) (h : val a n = val b m) : sameB a b n m = true := by
  unfold sameB; exact decide_eq_true (nrm_inj ha hb h)
set_option maxHeartbeats 1000000 in
theorem same_any (ao bo : Option Addr) (n m ca cb : Nat) (a b : Nat → Int) (w : World) (ha : Row w ao n ca a) (hb : Row w bo m cb b) :
    Calls Tryd.prog 30 #[.slice ao n ca, .slice bo m cb] w fun e w' => e = .returned (.bool (sameB a b n m)) ∧ Below w.heap.size w w' := by
  have hla := ha.le
  have hma := ha.max
  have hlb := hb.le
  have hmb := hb.max
  by_cases hnm : n = m
  · subst hnm
    go_enter Tryd.func30, Tryd.ntmps30
    go_wp2
    go_loopw [5] (fun i wr => ∃ k : Nat, k ≤ n ∧ i = .int .i64 k ∧ Hid (∀ i, i < k → a i = b i) ∧ Below w.heap.size w wr) (fun i _ => n - (intOf i).toNat)
    case atStart => exact ⟨0, Nat.zero_le _, rfl, fun i _ => by omega, bel_refl _⟩
    case round =>
      obtain ⟨k, hk, rfl, HS, hbw⟩ := hrel
      by_cases hlt : k < n
      · obtain ⟨ba, fa, rfl, hba, hca⟩ := ha.spot (by omega)
        obtain ⟨bb, fb, rfl, hbb, hcb⟩ := hb.spot (by omega)
        have c1 := (hbw.cell (p := ⟨ba, fa + k, none⟩) hba).trans (hca k hlt)
        have c2 := (hbw.cell (p := ⟨bb, fb + k, none⟩) hbb).trans (hcb k hlt)
        by_cases he : a k = b k
        · have he' : (a k != b k) = false := by simp [he]
          have HE : Hid (a k = b k) := he
          clear he
          go_wp2
          go_quiet (fail)
          go_wp2
          go_roundw
          case rel => exact ⟨k + 1, by omega, by go_num, fun i x => by by_cases e : i = k; (· rw [e]; exact HE.out); (· exact HS.out i (by omega)), bDrewN hbw _⟩
          case measure => simp [intOf]; omega
        · have he' : (a k != b k) = true := by simp [he]
          go_wp2
          go_quiet (fail)
          go_wp2
          go_ret
          exact ⟨ret_bool (decide_eq_false (fun q => he (q.2 k hlt))).symm, bDrewN hbw _⟩
      · obtain rfl : k = n := by omega
        go_wp2
        go_ret
        exact ⟨ret_bool (decide_eq_true (⟨rfl, HS.out⟩ : k = k ∧ ∀ i, i < k → a i = b i)).symm, hbw⟩
  · go_enter Tryd.func30, Tryd.ntmps30
    go_wp2
    go_ret
    exact ⟨ret_bool (decide_eq_false (fun q => hnm q.1)).symm, bel_refl _⟩
theorem same_yes (ao bo : Option Addr) (n m ca cb : Nat) (a b : Nat → Int) (w : World) (ha : Row w ao n ca a) (hb : Row w bo m cb b) (na : Nrm a n) (nb : Nrm b m) (hv : val a n = val b m) :
    Calls Tryd.prog 30 #[.slice ao n ca, .slice bo m cb] w fun e w' => e = .returned (.bool true) ∧ Below w.heap.size w w' := by
  refine (same_any ao bo n m ca cb a b w ha hb).mono ?_
  rintro e w' ⟨rfl, h⟩
  exact ⟨ret_bool (sameB_of na nb hv), h⟩
theorem same_num {w : World} {x y : Value} {V : Int} (hx : Num w x V) (hy : Num w y V) :
    Calls Tryd.prog 30 #[x, y] w fun e w' => e = .returned (.bool true) ∧ Below w.heap.size w w' := by
  obtain ⟨ao, n, ca, d, rfl, hR, h2, h3⟩ := hx
  obtain ⟨bo, m, cb, e, rfl, kR, k2, k3⟩ := hy
  exact same_yes _ _ _ _ _ _ _ _ _ hR kR h2 k2 (h3.trans k3.symm)
theorem Num.ok {d : Nat → Int} {n : Nat} (h : Nrm d n) (hV : val d n < P 2000) : okB d n = true := by
  refine okB_yes ?_ h
  by_cases hk : n ≤ 2000
  · exact hk
  · have a := val_top h.1 (by omega) h.2
    have b := P_le (show 2000 ≤ n - 1 by omega)
    omega
theorem Fit.ans {w w' : World} {V er : Int} {v : Value} (h : Fit w w' V v er) (hV : V < P 2000) : er = 0 ∧ Ans w w' V v := by
  rcases h.2 with ⟨_, h1, h2⟩ | ⟨h1, _⟩
  · exact ⟨h1, h2⟩
  · omega
theorem valid_num {w : World} {x : Value} {A : Int} (hx : Num w x A) (hA : A < P 2000) :
    Calls Tryd.prog 14 #[x] w fun e w' => e = .returned (.bool true) ∧ w' = w := by
  obtain ⟨ao, n, ca, d, rfl, hR, h2, rfl⟩ := hx
  refine (valid_any _ _ _ _ _ hR).mono ?_
  rintro e w' ⟨rfl, rfl⟩
  exact ⟨ret_bool (Num.ok h2 hA), rfl⟩
theorem P2000_big : 1152921504606846976 < P 2000 := by
  have h1 := P_le (show 3 ≤ 2000 by decide)
  have h2 : P 3 = 1073741824 * 1073741824 * 1073741824 := by decide
  omega

end Go.Proofs.YtkieaijmjpckdabDoor

/-
  Package nat: slices.Clone at ints, digits, shorten, guess, by contracts.
-/
namespace Go.Proofs.YtkieaijmjpckdabDoor
open Go Go.RowKit Go.Proofs.YtkieaijmjpckdabDoor.M
set_option linter.unusedSimpArgs false
set_option linter.unusedVariables false

/-- A copy in new memory. -/
def Cpy (w w' : World) (v : Value) (n : Nat) (d : Nat → Int) : Prop := Out w.heap.size w' v n d ∧ Below w.heap.size w w'
theorem out_empty (w : World) (d : Nat → Int) {g : Nat} (hg : g = w.heap.size) : Out w.heap.size (w.alloc (.cells #[] 3)) (.slice (some ⟨g, 0, none⟩) 0 0) 0 d := by
  subst hg
  exact ⟨by simp [vals], .inr ⟨w.heap.size, 0, #[], rfl, Nat.le_refl _, heap_alloc_new w _, Nat.le_refl _, by decide, rfl, rfl⟩⟩
set_option maxHeartbeats 400000 in
theorem clone_any (ao : Option Addr) (n cap : Nat) (d : Nat → Int) (w : World) (h : Row w ao n cap d) (hn : n ≤ 500000) :
    Calls Tryd.prog 37 #[.slice ao n cap] w fun e w' => ∃ v, e = .returned v ∧ Cpy w w' v n d := by
  cases ao with
  | none =>
    have hc := h.nl rfl
    have hl := h.le
    subst hc
    obtain rfl : n = 0 := by omega
    have hnil := fun w' : World => Lib.run_eql_slice_nil (P := Tryd.prog) w' 22 3 none 0 0 0 0 Tryd.underlying22
    go_enter Tryd.func37, Tryd.ntmps37
    go_wp2
    go_ret
    exact ⟨_, rfl, Out.nil _ _ _, bel_refl _⟩
  | some ad =>
    have hnil := fun w' : World => Lib.run_eql_slice_nil (P := Tryd.prog) w' 22 3 (some ad) n cap 0 0 Tryd.underlying22
    go_enter Tryd.func37, Tryd.ntmps37
    go_wp2_with (at_builtin; refine wpList_app rfl _ _ rfl w.heap.size _ 0 d rfl (out_empty w d rfl) _ n cap d rfl (h.alloc _) (by omega) (by simp) ?_; intro v' w1 hO1 hg1)
    go_ret
    refine ⟨_, rfl, ?_, ?_⟩
    · rw [Nat.zero_add] at hO1
      exact hO1.congr fun i hi => by simp [cat]
    · exact (bel_alloc w _).grown hg1 (by simp) (own_ge (out_empty w d rfl))

set_option maxHeartbeats 400000 in
theorem digits_nat (V : Int) (w : World) (h0 : 0 ≤ V) (h1 : V < 9223372036854775808) :
    Calls Tryd.prog 59 #[.int .i64 V] w fun e w' => ∃ v, e = .returned v ∧ Ans w w' V v := by
  have HM : Hid (V < 9223372036854775808) := h1
  clear h1
  go_enter Tryd.func59, Tryd.ntmps59
  go_wp2
  go_loopw [0, 3] (fun i v wr => ∃ (x : Int) (k : Nat) (r : Nat → Int), i = .int .i64 x ∧ 0 ≤ x ∧ k ≤ 3 ∧ Out w.heap.size wr v k r ∧ Dig r k ∧ Hid (x * P k ≤ V) ∧ Hid (x = 0 → Top r k) ∧ Hid (val r k + x * P k = V) ∧ Below w.heap.size w wr) (fun i _ _ => (intOf i).toNat)
  case atStart => exact ⟨V, 0, fun _ => 0, rfl, h0, by omega, Out.nil _ _ _, fun i hi => by omega, by show _ ≤ _; show V * 1 ≤ V; omega, fun _ => .inl rfl, by show _ = _; show 0 + V * 1 = V; omega, bel_refl _⟩
  case round =>
    obtain ⟨x, k, r, rfl, hx, hk3, hO, hD, HB, HT, HV, hbw⟩ := hrel
    by_cases hp : 0 < x
    · have h30 := and_30 x
      have hk2 : k ≤ 2 := by
        by_cases e : k = 3
        · subst e
          have a := HB.out
          have b := HM.out
          have c : P 3 = 1073741824 * 1073741824 * 1073741824 := by decide
          have d : 1 * P 3 ≤ x * P 3 := Int.mul_le_mul_of_nonneg_right (by omega) (Int.le_of_lt (P_pos 3))
          omega
        · omega
      go_wp2_with (at_builtin; refine wpList_app rfl _ _ rfl w.heap.size _ k r rfl (hO.stays (bel_alloc _ _)) _ 1 1 (fun _ => x % 1073741824) rfl (row1 _ _ rfl) (by omega) (by have := hbw.size; simp; omega) ?_; intro v' w1 hO1 hg1)
      have hb1 : Below w.heap.size w w1 := (hbw.alloc hbw.size _).grown hg1 (by have := hbw.size; simp; omega) (own_ge hO)
      have e1 : ∀ i, i < k + 1 → cat r k (fun _ => x % 1073741824) i = upd r k (x % 1073741824) i := fun i hi => by
        by_cases e : i < k
        · simp [cat, e, upd_other r _ (show i ≠ k by omega)]
        · obtain rfl : i = k := by omega
          simp [cat, upd_same]
      have hs := sum_step (c := 0) (x := x) (show val r k + 0 * P k = val r k by omega)
      rw [Int.zero_add] at hs
      go_roundw
      case rel => exact ⟨x / 1073741824, k + 1, upd r k (x % 1073741824), rfl, by omega, by omega, hO1.congr e1, dig_snoc ((hD.congr (fun i hi => (upd_other r _ (by omega)).symm))) (by rw [upd_same]; omega) (by rw [upd_same]; omega), by
          show _ ≤ _
          have a := HB.out
          rw [P_succ, show x / 1073741824 * (P k * 1073741824) = (x / 1073741824 * 1073741824) * P k by grind]
          have b : (x / 1073741824 * 1073741824) * P k ≤ x * P k := Int.mul_le_mul_of_nonneg_right (by omega) (Int.le_of_lt (P_pos k))
          omega, fun e => .inr (by rw [Nat.add_sub_cancel, upd_same]; omega), by show _ = _; rw [hs]; exact HV.out, hb1⟩
      case measure => simp [intOf]; omega
    · obtain rfl : x = 0 := by omega
      go_wp2
      go_ret
      exact ⟨_, rfl, k, r, hO, ⟨hD, HT.out (by first | rfl | trivial)⟩, by have := HV.out; omega, hbw⟩

/-- What shorten leaves of a list that lies in the caller's own memory. -/
def Sht (B : Nat) (w w' : World) (v : Value) (n : Nat) (d : Nat → Int) (D left : Int) : Prop :=
  ∃ r, Out B w' v n r ∧ Dig r n ∧ val d n = D * val r n + left ∧ 0 ≤ left ∧ left < D ∧ Below B w w'
end Go.Proofs.YtkieaijmjpckdabDoor

/-
  Package nat: guess and takeOut (one digit of a long division), by contracts.
-/
namespace Go.Proofs.YtkieaijmjpckdabDoor
open Go Go.RowKit Go.Proofs.YtkieaijmjpckdabDoor.M
set_option linter.unusedSimpArgs false
set_option linter.unusedVariables false

/-- A guess: it is the quotient, or one more. -/
def Gs (U V t : Int) : Prop := 0 ≤ t ∧ t < 1073741824 ∧ (t - 1) * V ≤ U ∧ U < (t + 1) * V
/-- What a division's step is about: U has L + 3 digits, V has L + 2, the highest bit of V is set. -/
structure Stp (u v : Nat → Int) (L : Nat) (U V : Int) : Prop where
  du : Dig u (L + 3)
  dv : Dig v (L + 2)
  top : 536870912 ≤ v (L + 1)
  eU : U = val u (L + 3)
  eV : V = val v (L + 2)
  lt : U < 1073741824 * V
theorem Stp.splitV {u v : Nat → Int} {L : Nat} {U V : Int} (h : Stp u v L U V) : V = (v (L + 1) * 1073741824 + v L) * P L + val v L := by
  rw [h.eV, val_succ, val_succ, P_succ]; grind
theorem Stp.splitU {u v : Nat → Int} {L : Nat} {U V : Int} (h : Stp u v L U V) : U = ((u (L + 2) * 1073741824 + u (L + 1)) * 1073741824 + u L) * P L + val u L := by
  rw [h.eU, val_succ, val_succ, val_succ, show P (L + 2) = P L * 1073741824 * 1073741824 from rfl, show P (L + 1) = P L * 1073741824 from rfl]; grind
theorem Stp.topU {u v : Nat → Int} {L : Nat} {U V : Int} (h : Stp u v L U V) : u (L + 2) ≤ v (L + 1) := by
  have h1 : val u (L + 3) = val u (L + 2) + u (L + 2) * P (L + 2) := val_succ _ _
  have h2 : val v (L + 2) = val v (L + 1) + v (L + 1) * P (L + 1) := val_succ _ _
  have a := val_nonneg (h.du.le (show L + 2 ≤ L + 3 by omega))
  have b := val_lt (h.dv.le (show L + 1 ≤ L + 2 by omega))
  have c := h.lt
  rw [h.eU, h.eV, h1, h2] at c
  have p := P_pos (L + 1)
  have e : P (L + 2) = P (L + 1) * 1073741824 := P_succ _
  rw [e] at c
  rcases Int.lt_or_le (v (L + 1)) (u (L + 2)) with q | q
  · have f : (v (L + 1) + 1) * (P (L + 1) * 1073741824) ≤ u (L + 2) * (P (L + 1) * 1073741824) := mul_le_r (by omega) (by omega)
    have g : (v (L + 1) + 1) * (P (L + 1) * 1073741824) = 1073741824 * (v (L + 1) * P (L + 1)) + 1073741824 * P (L + 1) := by grind
    omega
  · exact q
theorem Stp.start {u v : Nat → Int} {L : Nat} {U V : Int} (h : Stp u v L U V) {t l : Int} (ht : 0 ≤ t) (hh : u (L + 2) * 1073741824 + u (L + 1) = t * v (L + 1) + l) (hl : l < v (L + 1)) : U < (t + 1) * V := by
  have sU := h.splitU
  have sV := h.splitV
  have p := P_pos L
  have a := val_lt (h.du.le (show L ≤ L + 3 by omega))
  have b := val_nonneg (h.dv.le (show L ≤ L + 2 by omega))
  have dL := h.du L (by omega)
  have vL := h.dv L (by omega)
  have e1 : (u (L + 2) * 1073741824 + u (L + 1) + 1) * (1073741824 * P L) ≤ (t + 1) * v (L + 1) * (1073741824 * P L) := mul_le_r (by rw [Int.add_mul]; omega) (by omega)
  have e2 : 0 ≤ (t + 1) * (v L * P L + val v L) := Int.mul_nonneg (by omega) (by have := Int.mul_nonneg vL.1 (Int.le_of_lt p); omega)
  have e3 : (t + 1) * V = (t + 1) * v (L + 1) * (1073741824 * P L) + (t + 1) * (v L * P L + val v L) := by rw [sV]; grind
  have e4 : U = (u (L + 2) * 1073741824 + u (L + 1) + 1) * (1073741824 * P L) - 1073741824 * P L + u L * P L + val u L := by rw [sU]; grind
  have e5 : u L * P L ≤ 1073741823 * P L := mul_le_r (by omega) (by omega)
  omega
theorem Stp.dec {u v : Nat → Int} {L : Nat} {U V : Int} (h : Stp u v L U V) {t l : Int} (ht : 0 ≤ t) (hh : u (L + 2) * 1073741824 + u (L + 1) = t * v (L + 1) + l) (hc : l * 1073741824 + u L < t * v L) : U < t * V :=
  knuth_dec h.splitV (val_nonneg (h.dv.le (by omega))) h.splitU (val_lt (h.du.le (by omega))) (P_pos L) hh ht hc
theorem Stp.big {u v : Nat → Int} {L : Nat} {U V : Int} (h : Stp u v L U V) {t : Int} (ht : 1073741823 < t) : U < t * V := by
  have := val_nonneg h.dv
  rw [← h.eV] at this
  have e : 1073741824 * V ≤ t * V := mul_le_r (by omega) this
  have := h.lt
  omega
theorem Stp.small {u v : Nat → Int} {L : Nat} {U V : Int} (h : Stp u v L U V) {t l : Int} (hh : u (L + 2) * 1073741824 + u (L + 1) = t * v (L + 1) + l) (hl : 1073741823 < l) : t < 1073741824 := by
  rcases Int.lt_or_le t 1073741824 with q | q
  · exact q
  · have a := h.topU
    have b := (h.du (L + 1) (by omega)).2
    have c := (h.dv (L + 1) (by omega)).1
    have e : 1073741824 * v (L + 1) ≤ t * v (L + 1) := mul_le_r q c
    omega
theorem Stp.long {u v : Nat → Int} {L : Nat} {U V : Int} (h : Stp u v L U V) {t l : Int} (ht : 0 ≤ t) (hh : u (L + 2) * 1073741824 + u (L + 1) = t * v (L + 1) + l) (hl : 1073741823 < l) (hU : U < (t + 1) * V) : Gs U V t := by
  have a := knuth_long h.splitV (val_lt (h.dv.le (by omega))) (h.dv L (by omega)).2 h.splitU (val_nonneg (h.du.le (by omega))) (h.du L (by omega)).1 (P_pos L) hh ht (h.small hh hl) (by omega)
  have := val_nonneg h.dv
  rw [← h.eV] at this
  exact ⟨ht, h.small hh hl, by rw [Int.sub_mul]; omega, hU⟩
theorem Stp.done {u v : Nat → Int} {L : Nat} {U V : Int} (h : Stp u v L U V) {t l : Int} (ht : 0 ≤ t) (hh : u (L + 2) * 1073741824 + u (L + 1) = t * v (L + 1) + l) (h1 : t < 1073741824) (hc : t * v L ≤ l * 1073741824 + u L) (hU : U < (t + 1) * V) : Gs U V t :=
  ⟨ht, h1, knuth_short h.splitV (val_nonneg (h.dv.le (by omega))) (val_lt (h.dv.le (by omega))) (by have := h.top; omega) (h.dv L (by omega)).1 h.splitU (val_nonneg (h.du.le (by omega))) (P_pos L) hh ht h1 hc, hU⟩

end Go.Proofs.YtkieaijmjpckdabDoor

/-
  Package nat: takeOut (a divisor taken out of the highest digits as often as it goes), by its contract.
-/
namespace Go.Proofs.YtkieaijmjpckdabDoor
open Go Go.RowKit Go.Proofs.YtkieaijmjpckdabDoor.M
set_option linter.unusedSimpArgs false
set_option linter.unusedVariables false

theorem RowX.row {g : Nat} {w : World} {ao : Option Addr} {n cap : Nat} {d : Nat → Int} (h : RowX g w ao n cap d) (hn : 0 < n) : Row w ao n cap d :=
  ⟨h.le, h.max, (fun e => by obtain ⟨b, off, q, _⟩ := h.spot hn; rw [q] at e; cases e), fun _ => by
    obtain ⟨b, off, q, hlt, _, hc⟩ := h.spot hn
    exact ⟨b, off, q, hlt, hc⟩⟩
/-- What takeOut leaves: in the digits from at on a rest below V, t times V less. -/
def Tk (g N at_ M : Nat) (r : Nat → Int) (w w' : World) (U V t : Int) : Prop :=
  ∃ r', Blk w' g N r' ∧ (∀ i, i < at_ ∨ at_ + M < i → r' i = r i) ∧ Dig (fun i => r' (at_ + i)) (M + 1) ∧ U = t * V + val (fun i => r' (at_ + i)) (M + 1) ∧ val (fun i => r' (at_ + i)) (M + 1) < V ∧ 0 ≤ t ∧ t < 1073741824 ∧ Wr g w w'
theorem dig_upd {f : Nat → Int} {k : Nat} {x : Int} (h : Dig f k) (h0 : 0 ≤ x) (h1 : x < 1073741824) : Dig (upd f k x) (k + 1) := fun i hi => by
  by_cases e : i = k
  · rw [e, upd_same]; exact ⟨h0, h1⟩
  · rw [upd_other f x e]; exact h i (by omega)
theorem tk_end {R x p V : Int} (h0 : 0 ≤ R) (h1 : R < p) (hp : 0 < p) (hV : V < p) (h2 : 0 ≤ R + x * p) (h3 : R + x * p < V) : x = 0 := by
  rcases Int.lt_trichotomy x 0 with h | h | h
  · have : x * p ≤ -1 * p := mul_le_r (by omega) (by omega)
    omega
  · exact h
  · have : 1 * p ≤ x * p := mul_le_r (by omega) (by omega)
    omega
theorem Stp.facts {u v : Nat → Int} {L M : Nat} {U V : Int} (hM : M = L + 2) (h : Stp u v L U V) : Dig v M ∧ Dig u (M + 1) ∧ V = val v M ∧ U = val u M + u M * P M ∧ V < P M ∧ 0 ≤ U := by
  subst hM
  have e1 := h.eU
  have e2 := val_nonneg h.du
  have e3 := val_lt h.dv
  have e4 := h.eV
  refine ⟨h.dv, h.du, e4, ?_, by omega, by omega⟩
  rw [e1]; exact val_succ u (L + 2)
theorem Blk.cells {w : World} {g N : Nat} {r : Nat → Int} (h : Blk w g N r) {at_ n : Nat} (hn : at_ + n ≤ N) : ∀ i, i < n → w.cell? ⟨g, at_ + i, none⟩ = some (.int .i64 ((fun j => r (at_ + j)) i)) := fun i hi => h.cell (by omega)
end Go.Proofs.YtkieaijmjpckdabDoor

/-
  The statements' own helper digits: a valid list out of any ints, by its contract.
-/
namespace Go.Proofs.YtkieaijmjpckdabDoor
open Go Go.RowKit Go.Proofs.YtkieaijmjpckdabDoor.M
set_option linter.unusedSimpArgs false
set_option linter.unusedVariables false

theorem Out.cut {B : Nat} {w : World} {ao : Option Addr} {n cap m : Nat} {d : Nat → Int} (h : Out B w (.slice ao n cap) n d) (hm : m ≤ n) : Out B w (.slice ao m cap) m d := by
  refine ⟨by rw [vals_length]; omega, ?_⟩
  rcases h.2 with ⟨hn, h0⟩ | ⟨g, cap', cur, hv, hB, hg, hnc, hcm, hs, ht⟩
  · simp only [Value.slice.injEq] at hn
    obtain ⟨rfl, rfl, rfl⟩ := hn
    obtain rfl : m = 0 := by omega
    exact .inl ⟨rfl, rfl⟩
  · simp only [Value.slice.injEq] at hv
    obtain ⟨rfl, _, rfl⟩ := hv
    refine .inr ⟨g, cap, cur, rfl, hB, hg, by omega, hcm, hs, ?_⟩
    apply vals_ext (by simp; omega)
    intro i hi
    have e : (cur.toList.take (n * 1))[i]? = (vals d n)[i]? := by rw [ht]
    rw [List.getElem?_take, if_pos (by omega), vals_get d (by omega)] at e
    rw [List.getElem?_take, if_pos (by omega)]; exact e

/-- A list of less than N digits. -/
def AnsLt (w w' : World) (N : Nat) (v : Value) : Prop := ∃ V, Ans w w' V v ∧ V < P N
def lenOf : Value → Nat | .slice _ t _ => t | _ => 0
theorem cat_last (f : Nat → Int) (k i : Nat) (hi : i < k + 1) : cat f k (fun _ => f k) i = f i := by
  by_cases h : i < k
  · simp [cat, h]
  · simp [cat, h]; rw [show i = k by omega]
end Go.Proofs.YtkieaijmjpckdabDoor

/-
  Package nat: what stands behind divide's statements; mathematics of long division's rounds.
-/
namespace Go.Proofs.YtkieaijmjpckdabDoor
open Go Go.RowKit Go.Proofs.YtkieaijmjpckdabDoor.M
set_option linter.unusedSimpArgs false
set_option linter.unusedVariables false

theorem bel_undrew {B : Nat} {a w : World} (h : Below B a.drew w) : Below B a w := ⟨h.os, h.tape, h.output, h.size, h.block⟩
theorem Row.drew {w : World} {ao : Option Addr} {n cap : Nat} {d : Nat → Int} (h : Row w ao n cap d) : Row w.drew ao n cap d := ⟨h.le, h.max, h.nl, h.spot⟩
theorem blk_make (w : World) (N : Nat) {g : Nat} (hg : g = w.heap.size) : Blk (w.alloc (.cells (madeCells #[.int .i64 0] N) 3)) g N (fun _ => 0) := by
  subst hg
  refine ⟨_, heap_alloc_new w _, by simp [madeCells], fun i hi => ?_⟩
  rw [← Array.getElem?_toList, toList_madeCells_one]; simp [hi]
/-- What stands behind 'rest, by := make([]int, len(a)+1), raise(b, shift)', in whatever order. -/
def Cut8 (w : World) (n : Nat) (V : Int) (sr sb : Value) (wx : World) : Prop :=
  ∃ g, sr = .slice (some ⟨g, 0, none⟩) (n + 1) (n + 1) ∧ w.heap.size ≤ g ∧ Blk wx g (n + 1) (fun _ => 0) ∧ Below w.heap.size w wx ∧ ∃ bo cb t v, sb = .slice bo t cb ∧ RowX g wx bo t cb v ∧ Nrm v t ∧ val v t = V
theorem cut8_a {w w2 w3 : World} {n : Nat} {V : Int} {v : Value} (b1 : Below w.heap.size w w2) (hv : Ans (w2.alloc (.cells (madeCells #[.int .i64 0] (n + 1)) 3)).drew w3 V v) :
    Cut8 w n V (.slice (some ⟨w2.heap.size, 0, none⟩) (n + 1) (n + 1)) v w3 := by
  have b2 : Below (w2.alloc (.cells (madeCells #[.int .i64 0] (n + 1)) 3)).heap.size (w2.alloc (.cells (madeCells #[.int .i64 0] (n + 1)) 3)) w3 := bel_undrew hv.below
  have hB := (blk_make w2 (n + 1) rfl).keeps b2
  obtain ⟨t, d, hO, hN, hV, _⟩ := hv
  obtain ⟨ao, cap, rfl, hR⟩ := hO.row
  refine ⟨_, rfl, b1.size, hB, bel_trans (bel_trans b1 (bel_alloc _ _)) b2, ao, cap, t, d, rfl, ⟨hR.le, hR.max, fun hn => ?_⟩, hN, hV⟩
  obtain ⟨b, off, rfl, hlt, hc⟩ := hR.spot hn
  obtain ⟨g, hg, hge, _⟩ := hO.spot hn
  simp only [Option.some.injEq, Addr.mk.injEq] at hg
  have e : (w2.alloc (.cells (madeCells #[.int .i64 0] (n + 1)) 3)).drew.heap.size = w2.heap.size + 1 := by show (w2.alloc _).heap.size = _; simp
  rw [e] at hge
  exact ⟨b, off, rfl, hlt, by omega, hc⟩
theorem cut8_b {w w2 w3 : World} {n : Nat} {V : Int} {v : Value} (b1 : Below w.heap.size w w2) (hv : Ans w2.drew w3 V v) {w4 : World} (e4 : w4 = w3.alloc (.cells (madeCells #[.int .i64 0] (n + 1)) 3)) :
    Cut8 w n V (.slice (some ⟨w3.heap.size, 0, none⟩) (n + 1) (n + 1)) v w4 := by
  subst e4
  have b2 : Below w2.heap.size w2 w3 := bel_undrew hv.below
  have b3 := bel_trans b1 b2
  obtain ⟨t, d, hO, hN, hV, _⟩ := hv
  obtain ⟨ao, cap, rfl, hR⟩ := hO.row
  refine ⟨_, rfl, b3.size, blk_make w3 (n + 1) rfl, bel_trans b3 (bel_alloc _ _), ao, cap, t, d, rfl, ⟨hR.le, hR.max, fun hn => ?_⟩, hN, hV⟩
  obtain ⟨b, off, rfl, hlt, hc⟩ := (hR.alloc _).spot hn
  obtain ⟨b', off', q, hlt', _⟩ := hR.spot hn
  simp only [Option.some.injEq, Addr.mk.injEq] at q
  exact ⟨b, off, rfl, hlt, by omega, hc⟩

/-- Digits laid over others. -/
def ov (e : Nat → Int) (m : Nat) (r : Nat → Int) : Nat → Int := fun i => if i < m then e i else r i
/-- 'copy(xs, ys)', xs a block of the call's own, ys not longer, not empty. -/
theorem wpList_cp {w : World} {ops : Array Oper} {rest : List Oper} {o : Oper} {a : Act} {Q : Exit → Act → World → Prop} (hgd : o.guard = none) (d s : Operand)
    (ho : o.op = .call { callee := .builtin .copy, args := #[d, s], argTypes := #[22, 22] }) (g N : Nat) (r : Nat → Int) (hd : a.eval d = .slice (some ⟨g, 0, none⟩) N N) (hB : Blk w g N r)
    (bo : Option Addr) (m cb : Nat) (e : Nat → Int) (hs : a.eval s = .slice bo m cb) (hR : Row w bo m cb e) (hm0 : 0 < m) (hmN : m ≤ N)
    (h : ∀ w', Blk w' g N (ov e m r) → Wr g w w' → wpList Tryd.prog ops Q rest (a.put o.dst (goInt m)) w') : wpList Tryd.prog ops Q (o :: rest) a w := by
  obtain ⟨b, off, rfl, hlt, hc⟩ := hR.spot hm0
  obtain ⟨cur, hg, hsz, hcur⟩ := hB
  have hl : (vals e m).length = m := vals_length e m
  refine wpList_copy_own hgd d s 22 22 ho 3 Tryd.underlying22 (by kernel_rfl) g 0 N N ⟨b, off, none⟩ m cb hd hs cur 3 hg (vals e m) (by rw [hl]; exact (Nat.min_eq_left hmN).symm) ?_ (by omega) (vals_one e m) ?_
  · intro j u hu
    have hj : j < m := by have := (List.getElem?_eq_some_iff.1 hu).1; rwa [hl] at this
    rw [vals_get e hj] at hu
    rw [add_none, hc j hj]; exact hu
  · rw [hl]
    refine h _ ⟨_, setRow_heap w g _ _ _ _ hg, ?_, ?_⟩ ⟨rfl, rfl, rfl, by simp, fun k _ hk => setRow_other w g k _ hk⟩
    · simp [hl]; omega
    · intro i hi
      rw [List.getElem?_toArray, List.take_zero, List.nil_append]
      by_cases him : i < m
      · rw [List.getElem?_append_left (by omega), vals_get e him]; simp [ov, him]
      · rw [List.getElem?_append_right (by omega), hl, List.getElem?_drop, Array.getElem?_toList, show 0 + m + (i - m) = i by omega, hcur i hi]; simp [ov, him]
theorem norm_div {b v : Nat → Int} {m t s : Nat} (nb : Nrm b m) (hm : 0 < m) (hs : s + blen (b (m - 1)) = 30) (nv : Nrm v t) (hv : val v t = val b m * 2 ^ s) : t = m ∧ 536870912 ≤ v (m - 1) := by
  obtain ⟨k, rfl⟩ : ∃ k, m = k + 1 := ⟨m - 1, by omega⟩
  rw [Nat.add_sub_cancel] at hs ⊢
  have hx0 : 0 < b k := by
    have h1 := nb.1 k (by omega)
    rcases nb.2 with e | e
    · omega
    · rw [Nat.add_sub_cancel] at e; omega
  obtain ⟨c1, c2⟩ := blen_pos hx0
  have c3 := blen_lt (b k)
  have lo0 := val_nonneg (nb.1.le (Nat.le_succ k))
  have lo1 := val_lt (nb.1.le (Nat.le_succ k))
  have pk := P_pos k
  have ps := two_pos s
  have e29 : (2 : Int) ^ (blen (b k) - 1) * 2 ^ s = 536870912 := by rw [← Int.pow_add, show blen (b k) - 1 + s = 29 by omega]; rfl
  have e30 : (2 : Int) ^ blen (b k) * 2 ^ s = 1073741824 := by rw [← Int.pow_add, show blen (b k) + s = 30 by omega]; rfl
  have f1 : (2 : Int) ^ (blen (b k) - 1) * 2 ^ s ≤ b k * 2 ^ s := mul_le_r c2 (by omega)
  have f2 : (b k + 1) * 2 ^ s ≤ 2 ^ blen (b k) * 2 ^ s := mul_le_r (by omega) (by omega)
  rw [e29] at f1
  rw [e30] at f2
  have g1 : 536870912 * P k ≤ b k * 2 ^ s * P k := mul_le_r f1 (by omega)
  have g2 : (b k + 1) * 2 ^ s * P k ≤ 1073741824 * P k := mul_le_r f2 (by omega)
  have g3 : 0 ≤ val b k * 2 ^ s := Int.mul_nonneg lo0 (by omega)
  have g4 : (val b k + 1) * 2 ^ s ≤ P k * 2 ^ s := mul_le_r (by omega) (by omega)
  have eV : val v t = val b k * 2 ^ s + b k * 2 ^ s * P k := by rw [hv, val_succ]; grind
  have g5 : (b k + 1) * 2 ^ s * P k = b k * 2 ^ s * P k + P k * 2 ^ s := by grind
  rw [Int.add_mul, Int.one_mul] at g4
  have V1 : 536870912 * P k ≤ val v t := by omega
  have V2 : val v t < P (k + 1) := by rw [P_succ]; omega
  have t1 : t ≤ k + 1 := by
    by_cases h : t ≤ k + 1
    · exact h
    · have a := val_top nv.1 (by omega) nv.2
      have b := P_le (show k + 1 ≤ t - 1 by omega)
      omega
  have t2 : k + 1 ≤ t := by
    by_cases h : k + 1 ≤ t
    · exact h
    · have a := val_lt nv.1
      have b := P_le (show t ≤ k by omega)
      omega
  obtain rfl : t = k + 1 := by omega
  refine ⟨rfl, ?_⟩
  rw [val_succ] at V1
  have w1 := val_lt (nv.1.le (Nat.le_succ k))
  rcases Int.lt_or_le (v k) 536870912 with q | q
  · have : (v k + 1) * P k ≤ 536870912 * P k := mul_le_r (by omega) (by omega)
    rw [Int.add_mul] at this
    omega
  · exact q
theorem dig_zero {f : Nat → Int} {N M : Nat} (h : Dig f N) (hM : M ≤ N) (hv : val f N < P M) : ∀ i, M ≤ i → i < N → f i = 0 := by
  have e := val_split f M (N - M)
  rw [show M + (N - M) = N by omega] at e
  have a := val_nonneg (h.le hM)
  have dh : Dig (fun i => f (M + i)) (N - M) := fun i hi => h (M + i) (by omega)
  have b := val_nonneg dh
  have pm := P_pos M
  have z : val (fun i => f (M + i)) (N - M) = 0 := by
    rcases Int.lt_or_eq_of_le b with q | q
    · have : P M * 1 ≤ P M * val (fun i => f (M + i)) (N - M) := mul_le_l (by omega) (by omega)
      omega
    · exact q.symm
  have z2 : val (fun _ : Nat => (0 : Int)) (N - M) = 0 := val_zeros (Nat.zero_le _) (fun _ _ _ => rfl)
  intro i hi hiN
  have := val_inj dh (zero_dig (N - M)) (z.trans z2.symm) (i - M) (by omega)
  rwa [show M + (i - M) = i by omega] at this
theorem val_mid {r : Nat → Int} {at_ M N : Nat} (h : at_ + M ≤ N) (hz : ∀ i, at_ + M ≤ i → i < N → r i = 0) : val r N = val r at_ + P at_ * val (fun i => r (at_ + i)) M := by
  rw [val_zeros h hz, val_split]
/-- The highest digits, of which a divisor is taken out. -/
theorem div_round {r : Nat → Int} {at_ m N : Nat} {V : Int} (hd : Dig r N) (h : at_ + (m + 1) ≤ N) (hV : V < P m) (hlt : val r N < V * P (at_ + 1)) :
    (∀ i, at_ + (m + 1) ≤ i → i < N → r i = 0) ∧ val r N = val r at_ + P at_ * val (fun i => r (at_ + i)) (m + 1) ∧ val (fun i => r (at_ + i)) (m + 1) < 1073741824 * V := by
  have pa := P_pos at_
  have h1 : V * P (at_ + 1) ≤ P m * P (at_ + 1) := mul_le_r (by omega) (Int.le_of_lt (P_pos _))
  rw [← P_add, show m + (at_ + 1) = at_ + (m + 1) by omega] at h1
  have hz := dig_zero hd h (by omega)
  have e := val_mid h hz
  refine ⟨hz, e, ?_⟩
  have lo := val_nonneg (hd.le (show at_ ≤ N by omega))
  rcases Int.lt_or_le (val (fun i => r (at_ + i)) (m + 1)) (1073741824 * V) with q | q
  · exact q
  · have : P at_ * (1073741824 * V) ≤ P at_ * val (fun i => r (at_ + i)) (m + 1) := mul_le_l q (by omega)
    rw [P_succ] at hlt
    have e2 : V * (P at_ * 1073741824) = P at_ * (1073741824 * V) := by grind
    omega
theorem Num.cut_row {w : World} {ao : Option Addr} {n cap t : Nat} {d : Nat → Int} (h : Row w ao n cap d) (ht : t ≤ n) : ∃ ao' cap', cutV ao t cap = .slice ao' t cap' ∧ Row w ao' t cap' d := by
  unfold cutV
  split
  · rename_i e; subst e; exact ⟨none, 0, rfl, Row.nil _ _⟩
  · exact ⟨ao, cap, rfl, ⟨by have := h.le; omega, h.max, h.nl, fun hn => by
      obtain ⟨b, off, rfl, hlt, hc⟩ := h.spot (by omega)
      exact ⟨b, off, rfl, hlt, fun i hi => hc i (by omega)⟩⟩⟩
theorem cut_block {g t N k : Nat} (h : (cutV (some ⟨g, 0, none⟩) t N).ownBlock = some k) : k = g := by
  unfold cutV at h
  split at h
  · simp [Value.ownBlock] at h
  · simp [Value.ownBlock] at h; exact h.symm
/-- Two answers, in memory of their own each. -/
def Ans2 (w w' : World) (V1 : Int) (v1 : Value) (V2 : Int) (v2 : Value) : Prop := Ans w w' V1 v1 ∧ Ans w w' V2 v2 ∧ ∀ k, v1.ownBlock = some k → v2.ownBlock ≠ some k
/-- A quotient of shifted numbers, and its rest shifted back. -/
theorem div_back {A B Q X : Int} {s : Nat} (h : A * 2 ^ s = Q * (B * 2 ^ s) + X) (h0 : 0 ≤ X) (h1 : X < B * 2 ^ s) : Q = A / B ∧ X / 2 ^ s = A % B := by
  have ps := two_pos s
  have e1 : X = (A - Q * B) * 2 ^ s := by rw [Int.sub_mul]; grind
  have hR : X / 2 ^ s = A - Q * B := by rw [e1, Int.mul_ediv_cancel _ (by omega)]
  have r0 : 0 ≤ A - Q * B := by rw [← hR]; exact Int.ediv_nonneg h0 (by omega)
  have r1 : A - Q * B < B := by
    rcases Int.lt_or_le (A - Q * B) B with q | q
    · exact q
    · have : B * 2 ^ s ≤ (A - Q * B) * 2 ^ s := mul_le_r q (by omega)
      omega
  have := div_of (a := A) (b := B) (q := Q) (r := A - Q * B) (by omega) r0 r1
  exact ⟨this.1, by rw [hR]; exact this.2⟩

/-- Behind k rounds of a long division: the quotient's highest k digits stand, the rest is that much less. -/
def DivR (w0 : World) (g gq n t K : Nat) (v : Nat → Int) (byo : Option Addr) (bcap : Nat) (AA V : Int) (k : Nat) (wr : World) : Prop :=
  ∃ r qf, Blk wr g (n + 1) r ∧ Dig r (n + 1) ∧ Blk wr gq K qf ∧ Dig qf K ∧ (∀ i, i < K - k → qf i = 0) ∧ AA = val qf K * V + val r (n + 1) ∧ val r (n + 1) < V * P (K - k) ∧ RowX g wr byo t bcap v ∧ Below w0.heap.size w0 wr
theorem stp_of {r v : Nat → Int} {n t K L at_ k : Nat} {V : Int} (hK : K = at_ + 1 + k) (hL : t = L + 2) (hK1 : K + t ≤ n + 1) (hDr : Dig r (n + 1)) (hlt : val r (n + 1) < V * P (K - k)) (hV : V = val v t) (hv : Nrm v t) (htop : 536870912 ≤ v (t - 1)) :
    Stp (fun i => r (at_ + i)) v L (val (fun i => r (at_ + i)) (t + 1)) V := by
  subst hL
  have h := div_round (at_ := at_) (m := L + 2) (V := V) hDr (by omega) (by rw [hV]; exact val_lt hv.1) (by rwa [show at_ + 1 = K - k by omega])
  exact ⟨fun i hi => hDr (at_ + i) (by omega), hv.1, htop, rfl, hV, h.2.2⟩
theorem DivR.step {w0 : World} {g gq n t K : Nat} {v r qf : Nat → Int} {byo : Option Addr} {bcap : Nat} {AA V q : Int} {k at_ : Nat} {wr w7 : World} (hK : K = at_ + 1 + k) (hK1 : K + t ≤ n + 1)
    (hBr : Blk wr g (n + 1) r) (hDr : Dig r (n + 1)) (hBq : Blk wr gq K qf) (hDq : Dig qf K) (hzq : ∀ i, i < K - k → qf i = 0) (hA : AA = val qf K * V + val r (n + 1)) (hlt : val r (n + 1) < V * P (K - k)) (hX : RowX g wr byo t bcap v) (hbw : Below w0.heap.size w0 wr)
    (hVt : V < P t) (hne : gq ≠ g) (hg : w0.heap.size ≤ g) (hgq : w0.heap.size ≤ gq) (hne2 : 0 < t → ∀ b off, byo = some ⟨b, off, none⟩ → b ≠ gq) (hT : Tk g (n + 1) at_ t r wr w7 (val (fun i => r (at_ + i)) (t + 1)) V q) :
    DivR w0 g gq n t K v byo bcap AA V (k + 1) (w7.setCell ⟨gq, at_, none⟩ (.int .i64 q)) := by
  obtain ⟨r', hB7, hS7, hD7, hU7, hlt7, hq0, hq1, hw7⟩ := hT
  obtain ⟨hz, e, _⟩ := div_round (at_ := at_) (m := t) hDr (by omega) hVt (by rwa [show at_ + 1 = K - k by omega])
  have hBq7 : Blk w7 gq K qf := hBq.of_block (hw7.block gq hBq.lt hne)
  have hz' : ∀ i, at_ + (t + 1) ≤ i → i < n + 1 → r' i = 0 := fun i a b => by rw [hS7 i (by omega)]; exact hz i a b
  have e' := val_mid (r := r') (show at_ + (t + 1) ≤ n + 1 by omega) hz'
  have elo : val r' at_ = val r at_ := val_congr fun i hi => hS7 i (by omega)
  have hD' : Dig r' (n + 1) := fun i hi => by
    by_cases c : i < at_ ∨ at_ + t < i
    · rw [hS7 i c]; exact hDr i hi
    · have := hD7 (i - at_) (by omega)
      simp only [show at_ + (i - at_) = i by omega] at this
      exact this
  have lo0 := val_lt (hDr.le (show at_ ≤ n + 1 by omega))
  refine ⟨r', upd qf at_ q, hB7.apart (by simpa using hne.symm) _, hD', hBq7.store at_ q, hDq.upd _ ⟨hq0, hq1⟩, fun i hi => ?_, ?_, ?_, ?_, ?_⟩
  · rw [upd_other qf _ (by omega)]; exact hzq i (by omega)
  · rw [hA, val_upd qf q (show at_ < K by omega), hzq at_ (by omega), e, e', elo, hU7]; grind
  · rw [show K - (k + 1) = at_ by omega, e', elo]
    have h1 : (val (fun i => r' (at_ + i)) (t + 1) + 1) * P at_ ≤ V * P at_ := mul_le_r (by omega) (Int.le_of_lt (P_pos _))
    rw [Int.add_mul] at h1
    have h2 : P at_ * val (fun i => r' (at_ + i)) (t + 1) = val (fun i => r' (at_ + i)) (t + 1) * P at_ := Int.mul_comm _ _
    omega
  · have hx := hX.keeps hw7
    refine ⟨hx.le, hx.max, fun hn => ?_⟩
    obtain ⟨b, off, eb, hlt, hbg, hc⟩ := hx.spot hn
    exact ⟨b, off, eb, by simpa using hlt, hbg, fun i hi => by
      have := World.cell?_of_block (w := w7) (a := ⟨b, off + i, none⟩) (heap_setCell_other w7 ⟨gq, at_, none⟩ b (.int .i64 q) (hne2 hn b off eb))
      rw [this]; exact hc i hi⟩
  · exact (hw7.below hbw (by exact hbw.size) hg).setCell hgq _
theorem DivR.done {w0 : World} {g gq n t K : Nat} {v : Nat → Int} {byo : Option Addr} {bcap : Nat} {AA V : Int} {wr : World} (h : DivR w0 g gq n t K v byo bcap AA V K wr) :
    ∃ r qf, Blk wr g (n + 1) r ∧ Dig r (n + 1) ∧ Blk wr gq K qf ∧ Dig qf K ∧ AA = val qf K * V + val r (n + 1) ∧ val r (n + 1) < V ∧ Below w0.heap.size w0 wr := by
  obtain ⟨r, qf, h1, h2, h3, h4, _, h5, h6, _, h7⟩ := h
  rw [Nat.sub_self] at h6
  have e : V * P 0 = V := by show V * 1 = V; omega
  exact ⟨r, qf, h1, h2, h3, h4, h5, by omega, h7⟩
theorem ov_val {d : Nat → Int} {t N : Nat} (h : t ≤ N) : val (ov d t (fun _ => 0)) N = val d t := by
  rw [val_zeros h (fun i a _ => by simp [ov]; omega)]
  exact val_congr fun i hi => by simp [ov, hi]
theorem ov_dig {d : Nat → Int} {t N : Nat} (h : Dig d t) : Dig (ov d t (fun _ => 0)) N := fun i _ => by
  by_cases e : i < t
  · simp only [ov, e, if_true]; exact h i e
  · simp only [ov, e, if_false]; omega
end Go.Proofs.YtkieaijmjpckdabDoor

/-
  Package nat: divide, by its contract.
-/
namespace Go.Proofs.YtkieaijmjpckdabDoor
open Go Go.RowKit Go.Proofs.YtkieaijmjpckdabDoor.M
set_option linter.unusedSimpArgs false
set_option linter.unusedVariables false

theorem Out.cutV {B : Nat} {w : World} {ao : Option Addr} {n cap t : Nat} {d : Nat → Int} (h : Out B w (.slice ao n cap) n d) (ht : t ≤ n) : Out B w (cutV ao t cap) t d := by
  unfold Go.Proofs.YtkieaijmjpckdabDoor.cutV
  split
  · rename_i e; subst e; exact Out.nil _ _ _
  · exact h.cut ht
end Go.Proofs.YtkieaijmjpckdabDoor

/-
  Package nat: power, Pow, Shl, by contracts: for every number, every exponent.
-/
namespace Go.Proofs.YtkieaijmjpckdabDoor
open Go Go.RowKit Go.Proofs.YtkieaijmjpckdabDoor.M
set_option linter.unusedSimpArgs false
set_option linter.unusedVariables false

theorem pow_pos1 {A : Int} (h : 1 ≤ A) (i : Nat) : 1 ≤ A ^ i := by
  induction i with
  | zero => rw [Int.pow_zero]; omega
  | succ i ih =>
    rw [Int.pow_succ]
    have := Int.mul_le_mul ih h (by omega) (by omega)
    omega
theorem pow_mono {A : Int} (h : 1 ≤ A) {i j : Nat} (hij : i ≤ j) : A ^ i ≤ A ^ j := by
  obtain ⟨d, rfl⟩ := Nat.exists_eq_add_of_le hij
  rw [Int.pow_add]
  have a := pow_pos1 h i
  have b := pow_pos1 h d
  have : A ^ i * 1 ≤ A ^ i * A ^ d := Int.mul_le_mul_of_nonneg_left b (by omega)
  omega
theorem and_1 (x : Int) : bits .and .i64 x 1 = x % 2 := and_i64_mask x 1 (by decide)
theorem ans_one (w : World) {g : Nat} (hg : g = w.heap.size) : Ans w (w.alloc (.cells #[.int .i64 1] 3)) 1 (.slice (some ⟨g, 0, none⟩) 1 1) := by
  subst hg
  refine ⟨1, fun _ => 1, (Blk.new w #[.int .i64 1] (fun _ => 1) (fun i hi => by simp at hi; subst hi; rfl)).out (Nat.le_refl _) (Nat.le_refl _) (show 1 ≤ 9223372036854775807 by decide), ⟨fun i _ => by show (0 : Int) ≤ 1 ∧ (1 : Int) < 1073741824; omega, .inr (by show (1 : Int) ≠ 0; omega)⟩, by show (0 : Int) + 1 * 1 = 1; omega, bel_alloc _ _⟩
theorem half_pow (k b : Nat) : k / 2 ^ b = 2 * (k / 2 ^ (b + 1)) + k / 2 ^ b % 2 := by
  rw [Nat.pow_succ, ← Nat.div_div_eq_div_mul]; omega
theorem product_num {w : World} {x y : Value} {A B : Int} (hx : Num w x A) (hy : Num w y B) (hA : A < P 100000) (hB : B < P 100000) :
    Calls Tryd.prog 36 #[x, y] w fun e w' => ∃ v, e = .returned v ∧ Ans w w' (A * B) v := by
  obtain ⟨ao, n, ca, rfl⟩ := hx.shape
  obtain ⟨bo, m, cb, rfl⟩ := hy.shape
  have l1 := hx.len hA
  have l2 := hy.len hB
  obtain ⟨ao', n', ca', d, e1, hR, h2, rfl⟩ := hx
  obtain ⟨bo', m', cb', e, e2, kR, k2, rfl⟩ := hy
  simp only [Value.slice.injEq] at e1 e2
  obtain ⟨rfl, rfl, rfl⟩ := e1
  obtain ⟨rfl, rfl, rfl⟩ := e2
  exact product_any _ _ _ _ _ _ _ _ _ hR kR h2.1 k2.1 l1 l2

end Go.Proofs.YtkieaijmjpckdabDoor
