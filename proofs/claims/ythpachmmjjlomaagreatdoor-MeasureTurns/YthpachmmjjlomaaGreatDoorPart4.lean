/-
  Parts of the proof, one behind another.
-/
import Derived.Test.YthpachmmjjlomaaGreatDoorPart3
import Derived.Test.YthpachmmjjlomaaGreatDoorPart2
import Derived.Test.YthpachmmjjlomaaGreatDoorPart1
import Derived.WideLaws
import Derived.Deep.RegionHeld3
import Derived.WalkSmall
import Derived.Lib.Strings
import Derived.Lib.Slices
import Derived.Lib.Small
import Derived.Lib.Walk
import Derived.Lib.BitFns
import Derived.Lib.TrailingZeros
import Derived.Laws.Bits64b
namespace Go.Proofs.YthpachmmjjlomaaGreatDoor
open Go Go.RowKit Go.Proofs.YthpachmmjjlomaaGreatDoor.M
set_option linter.unusedSimpArgs false
set_option linter.unusedVariables false
structure Pts (w : World) (ao : Option Addr) (n cap : Nat) (px py : Nat -> Int) : Prop where
  le : n <= cap
  max : cap <= 9223372036854775807
  spot : 0 < n -> ∃ b off, ao = some ⟨b, off, none⟩ ∧ b < w.heap.size ∧ ∀ i, i < n -> w.cell? ⟨b, off + i * 2, none⟩ = some (.int .i64 (px i)) ∧ w.cell? ⟨b, off + i * 2 + 1, none⟩ = some (.int .i64 (py i))
theorem Pts.keeps {w w' : World} {ao : Option Addr} {n cap : Nat} {px py : Nat -> Int} (h : Pts w ao n cap px py) (hb : Below w.heap.size w w') : Pts w' ao n cap px py :=
  ⟨h.le, h.max, fun hn => by
    obtain ⟨b, off, rfl, hlt, hc⟩ := h.spot hn
    exact ⟨b, off, rfl, Nat.lt_of_lt_of_le hlt hb.size, fun i hi => ⟨(hb.cell (p := ⟨b, off + i * 2, none⟩) hlt).trans (hc i hi).1, (hb.cell (p := ⟨b, off + i * 2 + 1, none⟩) hlt).trans (hc i hi).2⟩⟩⟩
def allB (f : Nat -> Bool) (n : Nat) : Bool := decide (∀ i, i < n -> f i = true)
theorem allB_succ (f : Nat -> Bool) (n : Nat) : allB f (n + 1) = (allB f n && f n) := by
  unfold allB
  by_cases h : f n = true
  . rw [h, Bool.and_true]
    congr 1
    exact propext ⟨fun k i hi => k i (by omega), fun k i hi => by by_cases e : i = n; (· subst e; exact h); (· exact k i (by omega))⟩
  . have h' : f n = false := by simpa using h
    rw [h', Bool.and_false]
    exact decide_eq_false fun k => h (k n (by omega))
theorem allB_zero (f : Nat -> Bool) : allB f 0 = true := decide_eq_true fun i hi => absurd hi (Nat.not_lt_zero _)
def l2 (a b : Int) (i : Nat) : Int := if i = 0 then a else b
def l3 (a b c : Int) (i : Nat) : Int := if i = 0 then a else if i = 1 then b else c
def l4 (a b c d : Int) (i : Nat) : Int := if i = 0 then a else if i = 1 then b else if i = 2 then c else d
theorem pts3 (w : World) {g : Nat} {t : TypeId} {ax ay bx by' cx cy : Int} (h : w.heap[g]? = some (.cells #[.int .i64 ax, .int .i64 ay, .int .i64 bx, .int .i64 by', .int .i64 cx, .int .i64 cy] t (0, 0))) : Pts w (some ⟨g, 0, none⟩) 3 3 (l3 ax bx cx) (l3 ay by' cy) :=
  ⟨by omega, by omega, fun _ => ⟨g, 0, rfl, (Array.getElem?_eq_some_iff.1 h).1, fun i hi => by
    match i, hi with
    | 0, _ => exact ⟨blkC h 0 rfl, blkC h 1 rfl⟩
    | 1, _ => exact ⟨blkC h 2 rfl, blkC h 3 rfl⟩
    | 2, _ => exact ⟨blkC h 4 rfl, blkC h 5 rfl⟩⟩⟩
theorem pts4 (w : World) {g : Nat} {t : TypeId} {ax ay bx by' cx cy dx dy : Int} (h : w.heap[g]? = some (.cells #[.int .i64 ax, .int .i64 ay, .int .i64 bx, .int .i64 by', .int .i64 cx, .int .i64 cy, .int .i64 dx, .int .i64 dy] t (0, 0))) : Pts w (some ⟨g, 0, none⟩) 4 4 (l4 ax bx cx dx) (l4 ay by' cy dy) :=
  ⟨by omega, by omega, fun _ => ⟨g, 0, rfl, (Array.getElem?_eq_some_iff.1 h).1, fun i hi => by
    match i, hi with
    | 0, _ => exact ⟨blkC h 0 rfl, blkC h 1 rfl⟩
    | 1, _ => exact ⟨blkC h 2 rfl, blkC h 3 rfl⟩
    | 2, _ => exact ⟨blkC h 4 rfl, blkC h 5 rfl⟩
    | 3, _ => exact ⟨blkC h 6 rfl, blkC h 7 rfl⟩⟩⟩
theorem allB3 (P : Int -> Int -> Bool) (ax ay bx by' cx cy : Int) : allB (fun i => P (l3 ax bx cx i) (l3 ay by' cy i)) 3 = (P ax ay && P bx by' && P cx cy) := by
  rw [allB_succ, allB_succ, allB_succ, allB_zero, Bool.true_and]; rfl
theorem allB4 (P : Int -> Int -> Bool) (ax ay bx by' cx cy dx dy : Int) : allB (fun i => P (l4 ax bx cx dx i) (l4 ay by' cy dy i)) 4 = (P ax ay && P bx by' && P cx cy && P dx dy) := by
  rw [allB_succ, allB_succ, allB_succ, allB_succ, allB_zero, Bool.true_and]; rfl
theorem rng3 {a b c : Int} (ha : rng a) (hb : rng b) (hc : rng c) (i : Nat) : rng (l3 a b c i) := by unfold l3; split; assumption; split <;> assumption
theorem rng4 {a b c d : Int} (ha : rng a) (hb : rng b) (hc : rng c) (hd : rng d) (i : Nat) : rng (l4 a b c d i) := by unfold l4; split; assumption; split; assumption; split <;> assumption
def ptok (x y : Int) : Bool := pok x && pok y
set_option maxRecDepth 100000 in
set_option maxHeartbeats 1000000 in
theorem mgood_any (ao : Option Addr) (n cap : Nat) (px py : Nat -> Int) (w : World) (h : Pts w ao n cap px py) (hx : ∀ i, rng (px i)) (hy : ∀ i, rng (py i)) :
    Calls Tryz.prog 35 #[.slice ao n cap] w fun x w' => x = .returned (.bool (allB (fun i => ptok (px i) (py i)) n)) ∧ Below w.heap.size w w' := by
  have hl := h.le
  have hm := h.max
  have e0 : errF true = 0 := rfl
  have e1 : errF false = 10 := rfl
  have CC : Hid (∀ i W, Calls Tryz.prog 58 #[.agg #[.int .i64 (px i), .int .i64 (py i)]] W fun e w' => e = .returned (.int .i64 (errF (ptok (px i) (py i)))) ∧ Below W.heap.size W w') := fun i W => pointCheck (hx i) (hy i) W
  clear hx hy
  go_enter Tryz.func35, Tryz.ntmps35
  go_wp2_with fail
  go_loopw [7] (fun i wr => ∃ k : Nat, k <= n ∧ i = .int .i64 k ∧ Hid (∀ j, j < k -> ptok (px j) (py j) = true) ∧ Below w.heap.size w wr) (fun i _ => n - (intOf i).toNat)
  case atStart => exact ⟨0, Nat.zero_le _, rfl, fun j hj => by omega, bel_refl _⟩
  case round =>
    obtain ⟨k, hk, rfl, HO, hbw⟩ := hrel
    by_cases hlt : k < n
    . obtain ⟨b, off, rfl, hb, hc⟩ := h.spot (by omega)
      have c0 := (hbw.cell (p := ⟨b, off + k * 2, none⟩) hb).trans (hc k hlt).1
      have c1 := (hbw.cell (p := ⟨b, off + k * 2 + 1, none⟩) hb).trans (hc k hlt).2
      have CK : Hid (∀ W, Calls Tryz.prog 58 #[.agg #[.int .i64 (px k), .int .i64 (py k)]] W fun e w' => e = .returned (.int .i64 (errF (ptok (px k) (py k)))) ∧ Below W.heap.size W w') := CC.out k
      have HK : Hid (∀ q : ptok (px k) (py k) = false, false = allB (fun i => ptok (px i) (py i)) n) := fun q => (decide_eq_false fun hx => by have := hx k hlt; simp only at this; rw [this] at q; cases q).symm
      have HY : Hid (ptok (px k) (py k) = true -> ∀ j, j < k + 1 -> ptok (px j) (py j) = true) := fun q j hj => by
        by_cases e : j = k
        . subst e; exact q
        . exact HO.out j (by omega)
      clear hc
      by_cases hok : ptok (px k) (py k) = true
      . rw [hok, e0] at CK
        replace HY : Hid (∀ j, j < k + 1 -> ptok (px j) (py j) = true) := HY.out hok
        clear hok
        go_wp2_with (go_at_call 58; refine (CK.out _).mono ?_; rintro x w1 ⟨rfl, hb1⟩)
        go_roundw
        case rel => exact ⟨k + 1, by omega, by go_num, HY, hbw.trans ((bel_trans (bel_alloc _ _) hb1).mono hbw.size)⟩
        case measure => simp [intOf]; omega
      . have hok' : ptok (px k) (py k) = false := by simpa using hok
        rw [hok', e1] at CK
        replace HK : Hid (false = allB (fun i => ptok (px i) (py i)) n) := HK.out hok'
        clear hok hok' HY
        go_wp2_with (go_at_call 58; refine (CK.out _).mono ?_; rintro x w1 ⟨rfl, hb1⟩)
        go_ret
        exact ⟨ret_bool HK.out, hbw.trans ((bel_trans (bel_alloc _ _) hb1).mono hbw.size)⟩
    . obtain rfl : k = n := by omega
      have HD : Hid (true = allB (fun i => ptok (px i) (py i)) k) := (decide_eq_true HO.out).symm
      go_wp2
      go_ret
      exact ⟨ret_bool HD.out, hbw⟩
set_option maxRecDepth 100000 in
set_option maxHeartbeats 1000000 in
theorem lgood_any (ao : Option Addr) (n cap : Nat) (px py : Nat -> Int) (w : World) (h : Pts w ao n cap px py) (hx : ∀ i, rng (px i)) (hy : ∀ i, rng (py i)) :
    Calls Tryz.prog 5 #[.slice ao n cap] w fun x w' => x = .returned (.bool (allB (fun i => ptok (px i) (py i)) n)) ∧ Below w.heap.size w w' := by
  have hl := h.le
  have hm := h.max
  have CC : Hid (∀ i W, Calls Tryz.prog 13 #[.agg #[.int .i64 (px i), .int .i64 (py i)]] W fun e w' => e = .returned (.bool (ptok (px i) (py i))) ∧ Below W.heap.size W w') := fun i W => q_refFinite (hx i) (hy i) W
  clear hx hy
  go_enter Tryz.func5, Tryz.ntmps5
  go_wp2_with fail
  go_loopw [3] (fun i wr => ∃ k : Nat, k <= n ∧ i = .int .i64 k ∧ Hid (∀ j, j < k -> ptok (px j) (py j) = true) ∧ Below w.heap.size w wr) (fun i _ => n - (intOf i).toNat)
  case atStart => exact ⟨0, Nat.zero_le _, rfl, fun j hj => by omega, bel_refl _⟩
  case round =>
    obtain ⟨k, hk, rfl, HO, hbw⟩ := hrel
    by_cases hlt : k < n
    . obtain ⟨b, off, rfl, hb, hc⟩ := h.spot (by omega)
      have c0 := (hbw.cell (p := ⟨b, off + k * 2, none⟩) hb).trans (hc k hlt).1
      have c1 := (hbw.cell (p := ⟨b, off + k * 2 + 1, none⟩) hb).trans (hc k hlt).2
      have CK : Hid (∀ W, Calls Tryz.prog 13 #[.agg #[.int .i64 (px k), .int .i64 (py k)]] W fun e w' => e = .returned (.bool (ptok (px k) (py k))) ∧ Below W.heap.size W w') := CC.out k
      have HK : Hid (∀ q : ptok (px k) (py k) = false, false = allB (fun i => ptok (px i) (py i)) n) := fun q => (decide_eq_false fun hx => by have := hx k hlt; simp only at this; rw [this] at q; cases q).symm
      have HY : Hid (ptok (px k) (py k) = true -> ∀ j, j < k + 1 -> ptok (px j) (py j) = true) := fun q j hj => by
        by_cases e : j = k
        . subst e; exact q
        . exact HO.out j (by omega)
      clear hc
      by_cases hok : ptok (px k) (py k) = true
      . rw [hok] at CK
        replace HY : Hid (∀ j, j < k + 1 -> ptok (px j) (py j) = true) := HY.out hok
        clear hok
        go_wp2_with (go_at_call 13; refine (CK.out _).mono ?_; rintro x w1 ⟨rfl, hb1⟩)
        go_roundw
        case rel => exact ⟨k + 1, by omega, by go_num, HY, hbw.trans (hb1.mono hbw.size)⟩
        case measure => simp [intOf]; omega
      . have hok' : ptok (px k) (py k) = false := by simpa using hok
        rw [hok'] at CK
        replace HK : Hid (false = allB (fun i => ptok (px i) (py i)) n) := HK.out hok'
        clear hok hok' HY
        go_wp2_with (go_at_call 13; refine (CK.out _).mono ?_; rintro x w1 ⟨rfl, hb1⟩)
        go_ret
        exact ⟨ret_bool HK.out, hbw.trans (hb1.mono hbw.size)⟩
    . obtain rfl : k = n := by omega
      have HD : Hid (true = allB (fun i => ptok (px i) (py i)) k) := (decide_eq_true HO.out).symm
      go_wp2
      go_ret
      exact ⟨ret_bool HD.out, hbw⟩
def pttame (x y : Int) : Bool := tame x && tame y
set_option maxRecDepth 100000 in
set_option maxHeartbeats 1000000 in
theorem mtame_any (ao : Option Addr) (n cap : Nat) (px py : Nat -> Int) (w : World) (h : Pts w ao n cap px py) (hx : ∀ i, rng (px i)) (hy : ∀ i, rng (py i)) :
    Calls Tryz.prog 52 #[.slice ao n cap] w fun x w' => x = .returned (.bool (allB (fun i => pttame (px i) (py i)) n)) ∧ Below w.heap.size w w' := by
  have hl := h.le
  have hm := h.max
  have CC : Hid (∀ b W, rng b -> Calls Tryz.prog 79 #[.int .i64 b] W fun e w' => e = .returned (.bool (tame b)) ∧ w' = W) := fun b W hb => pointTame hb W
  have HX : Hid (∀ i, rng (px i)) := hx
  have HYY : Hid (∀ i, rng (py i)) := hy
  clear hx hy
  go_enter Tryz.func52, Tryz.ntmps52
  go_wp2_with fail
  go_loopw [7] (fun i wr => ∃ k : Nat, k <= n ∧ i = .int .i64 k ∧ Hid (∀ j, j < k -> pttame (px j) (py j) = true) ∧ Below w.heap.size w wr) (fun i _ => n - (intOf i).toNat)
  case atStart => exact ⟨0, Nat.zero_le _, rfl, fun j hj => by omega, bel_refl _⟩
  case round =>
    obtain ⟨k, hk, rfl, HO, hbw⟩ := hrel
    by_cases hlt : k < n
    . obtain ⟨b, off, rfl, hb, hc⟩ := h.spot (by omega)
      have c0 := (hbw.cell (p := ⟨b, off + k * 2, none⟩) hb).trans (hc k hlt).1
      have c1 := (hbw.cell (p := ⟨b, off + k * 2 + 1, none⟩) hb).trans (hc k hlt).2
      have CX : Hid (∀ W, Calls Tryz.prog 79 #[.int .i64 (px k)] W fun e w' => e = .returned (.bool (tame (px k))) ∧ w' = W) := fun W => CC.out _ W (HX.out k)
      have CY : Hid (∀ W, Calls Tryz.prog 79 #[.int .i64 (py k)] W fun e w' => e = .returned (.bool (tame (py k))) ∧ w' = W) := fun W => CC.out _ W (HYY.out k)
      have HK : Hid (pttame (px k) (py k) = false -> false = allB (fun i => pttame (px i) (py i)) n) := fun q => (decide_eq_false fun hx => by have := hx k hlt; simp only at this; rw [this] at q; cases q).symm
      have HY : Hid (pttame (px k) (py k) = true -> ∀ j, j < k + 1 -> pttame (px j) (py j) = true) := fun q j hj => by
        by_cases e : j = k
        . subst e; exact q
        . exact HO.out j (by omega)
      clear hc
      cases hp : tame (px k)
      . replace HK : Hid (false = allB (fun i => pttame (px i) (py i)) n) := HK.out (by unfold pttame; rw [hp]; rfl)
        rw [hp] at CX
        clear hp
        cases hq : tame (py k)
        . rw [hq] at CY
          clear hq
          clear HY
          (go_wp2_with fail; refine (CX.out _).mono ?_; rintro _ wz ⟨rfl, hwz⟩; replace hwz := hwz.symm; subst hwz; go_wp2)
          go_ret
          exact ⟨ret_bool HK.out, hbw.trans ((bel_alloc _ _).mono hbw.size)⟩
        . rw [hq] at CY
          clear hq
          clear HY
          (go_wp2_with fail; refine (CX.out _).mono ?_; rintro _ wz ⟨rfl, hwz⟩; replace hwz := hwz.symm; subst hwz; go_wp2)
          go_ret
          exact ⟨ret_bool HK.out, hbw.trans ((bel_alloc _ _).mono hbw.size)⟩
      . rw [hp] at CX
        cases hq : tame (py k)
        . replace HK : Hid (false = allB (fun i => pttame (px i) (py i)) n) := HK.out (by unfold pttame; rw [hp, hq]; rfl)
          rw [hq] at CY
          clear hp hq
          clear HY
          (go_wp2_with fail; refine (CX.out _).mono ?_; rintro _ wz ⟨rfl, hwz⟩; replace hwz := hwz.symm; subst hwz; go_wp2_with fail; refine (CY.out _).mono ?_; rintro _ wz ⟨rfl, hwz⟩; replace hwz := hwz.symm; subst hwz; go_wp2)
          go_ret
          exact ⟨ret_bool HK.out, hbw.trans ((bel_alloc _ _).mono hbw.size)⟩
        . replace HY : Hid (∀ j, j < k + 1 -> pttame (px j) (py j) = true) := HY.out (by unfold pttame; rw [hp, hq]; rfl)
          rw [hq] at CY
          clear hp hq HK
          (go_wp2_with fail; refine (CX.out _).mono ?_; rintro _ wz ⟨rfl, hwz⟩; replace hwz := hwz.symm; subst hwz; go_wp2_with fail; refine (CY.out _).mono ?_; rintro _ wz ⟨rfl, hwz⟩; replace hwz := hwz.symm; subst hwz; go_wp2)
          go_roundw
          case rel => exact ⟨k + 1, by omega, by go_num, HY, hbw.trans ((bel_alloc _ _).mono hbw.size)⟩
          case measure => simp [intOf]; omega
    . obtain rfl : k = n := by omega
      have HD : Hid (true = allB (fun i => pttame (px i) (py i)) k) := (decide_eq_true HO.out).symm
      go_wp2
      go_ret
      exact ⟨ret_bool HD.out, hbw⟩
end Go.Proofs.YthpachmmjjlomaaGreatDoor
namespace Go.Proofs.YthpachmmjjlomaaGreatDoor.M
open Go Ieee
set_option linter.unusedSimpArgs false
set_option linter.unusedVariables false
def rU (mag : Nat) (sh : Int) : Nat := if sh <= 0 then mag * 2 ^ (-sh).toNat else mag / 2 ^ sh.toNat
def rL (mag : Nat) (cut : Bool) (sh : Int) : Int :=
  if sh <= 0 then 0 else if mag % 2 ^ sh.toNat = 0 ∧ cut = false then 0 else if 2 * (mag % 2 ^ sh.toNat) < 2 ^ sh.toNat then 1 else if 2 * (mag % 2 ^ sh.toNat) = 2 ^ sh.toNat ∧ cut = false then 2 else 3
def rE (size low : Int) (mag : Nat) (exp : Int) : Int := max (exp + (Lib.bitLen mag : Int) - size) low
def rUp (way : Int) (neg odd : Bool) (left : Int) : Bool :=
  if way = 0 then decide (left = 3) || (decide (left = 2) && odd) else if way = 1 then decide (left ≠ 0) && neg else if way = 2 then decide (left ≠ 0) && !neg else false
def Held (A : Int) (mag : Nat) (exp : Int) (cut : Bool) : Prop := (mag : Int) * pw exp <= A ∧ A < ((mag : Int) + 1) * pw exp ∧ (cut = false ↔ A = (mag : Int) * pw exp)
structure Left (A : Int) (u : Nat) (q : Int) (left : Int) : Prop where
  lo : (u : Int) * q <= A
  hi : A < (u : Int) * q + q
  l0 : left = 0 ↔ A = (u : Int) * q
  l1 : left = 1 ↔ (u : Int) * q < A ∧ 2 * A < 2 * ((u : Int) * q) + q
  l2 : left = 2 ↔ 2 * A = 2 * ((u : Int) * q) + q
  l3 : left = 3 ↔ 2 * ((u : Int) * q) + q < 2 * A
theorem Left.mk' {A U q left : Int} {u : Nat} (hU : (u : Int) * q = U) (lo : U <= A) (hi : A < U + q) (l0 : left = 0 ↔ A = U) (l1 : left = 1 ↔ U < A ∧ 2 * A < 2 * U + q) (l2 : left = 2 ↔ 2 * A = 2 * U + q) (l3 : left = 3 ↔ 2 * U + q < 2 * A) : Left A u q left := by
  subst hU
  exact ⟨lo, hi, l0, l1, l2, l3⟩
theorem two_half (n : Nat) (h : 0 < n) : ∃ k, 2 ^ n = 2 * k ∧ 0 < k := ⟨2 ^ (n - 1), by rw [<- Nat.pow_succ', Nat.succ_eq_add_one, Nat.sub_add_cancel h], Nat.two_pow_pos _⟩
theorem left_of {A : Int} {mag : Nat} {exp e : Int} {cut : Bool} (h : Held A mag exp cut) (hc : cut = true -> 0 < e - exp) (h0 : -4194304 <= e) (h1 : -4194304 <= exp) : Left A (rU mag (e - exp)) (pw e) (rL mag cut (e - exp)) := by
  obtain ⟨a1, a2, a3⟩ := h
  have hq := pw_pos exp
  have hqe := pw_pos e
  by_cases hs : e - exp <= 0
  . have hcf : cut = false := by cases cut; rfl; have := hc rfl; omega
    have hA := a3.1 hcf
    unfold rU rL
    rw [if_pos hs, if_pos hs]
    have e1 : ((mag * 2 ^ (-(e - exp)).toNat : Nat) : Int) * pw e = A := by
      rw [hA, pw_sub (e := exp) (low := e) h0 (by omega), show (exp - e).toNat = (-(e - exp)).toNat by omega]
      push_cast
      rw [Int.mul_assoc]
    exact ⟨by rw [e1]; omega, by rw [e1]; omega, by rw [e1]; simp, by rw [e1]; constructor <;> intro h <;> omega, by rw [e1]; constructor <;> intro h <;> omega, by rw [e1]; constructor <;> intro h <;> omega⟩
  . have hp : pw e = 2 ^ (e - exp).toNat * pw exp := pw_sub h1 (by omega)
    obtain ⟨s, hsn⟩ : ∃ s, (e - exp).toNat = s := ⟨_, rfl⟩
    have hs0 : 0 < s := by omega
    unfold rU rL
    rw [if_neg hs, if_neg hs, hsn]
    rw [hsn] at hp
    obtain ⟨k, hk, hk0⟩ := two_half s hs0
    have hpn : (2 : Int) ^ s = ((2 ^ s : Nat) : Int) := by simp
    rw [hpn, hk] at hp
    rw [hk]
    have hdm := Nat.div_add_mod mag (2 * k)
    have hml := Nat.mod_lt mag (show 0 < 2 * k by omega)
    generalize mag / (2 * k) = u at *
    generalize mag % (2 * k) = t at *
    generalize hQ : pw exp = q at *
    have e1 : (mag : Int) * q = (u : Int) * (((2 * k : Nat) : Int) * q) + (t : Int) * q := by
      rw [<- hdm]; push_cast; rw [Int.add_mul]; congr 1; rw [Int.mul_comm (2 * (k : Int)) u, Int.mul_assoc]
    have e2 : ((mag : Int) + 1) * q = (mag : Int) * q + q := by rw [Int.add_mul, Int.one_mul]
    rw [e2, e1] at a2
    rw [e1] at a1 a3
    rw [hp]
    have e3 : ((2 * k : Nat) : Int) * q = 2 * ((k : Int) * q) := by push_cast; rw [Int.mul_assoc]
    have t1 : ∀ x y : Nat, x <= y -> (x : Int) * q <= (y : Int) * q := fun x y h => Int.mul_le_mul_of_nonneg_right (by omega) (by omega)
    have t2 : ∀ x y : Nat, x < y -> (x : Int) * q + q <= (y : Int) * q := fun x y h => by
      have := t1 (x + 1) y h
      push_cast at this
      rwa [Int.add_mul, Int.one_mul] at this
    have t0 : 0 <= (t : Int) * q := Int.mul_nonneg (by omega) (by omega)
    have b1 : (t : Int) * q + q <= 2 * ((k : Int) * q) := by rw [<- e3]; exact t2 t (2 * k) hml
    rw [e3] at a1 a2 a3 ⊢
    have c1 : t < k -> (t : Int) * q + q <= (k : Int) * q := t2 t k
    have c2 : t = k -> (t : Int) * q = (k : Int) * q := fun h => by rw [h]
    have c3 : k < t -> (k : Int) * q + q <= (t : Int) * q := t2 k t
    have c4 : t = 0 -> (t : Int) * q = 0 := fun h => by rw [h]; simp
    have c5 : 0 < t -> q <= (t : Int) * q := fun h => by have := t1 1 t h; rwa [Int.natCast_one, Int.one_mul] at this
    clear e1 e2 e3 t1 t2 hp
    obtain ⟨T, hT⟩ : ∃ T, (t : Int) * q = T := ⟨_, rfl⟩
    obtain ⟨K, hK⟩ : ∃ K, (k : Int) * q = K := ⟨_, rfl⟩
    obtain ⟨U, hU⟩ : ∃ U, (u : Int) * (2 * K) = U := ⟨_, rfl⟩
    rw [hT] at c1 c2 c3 c4 c5 t0 b1 a1 a2 a3
    rw [hK] at c1 c2 c3 b1 a1 a2 a3 ⊢
    rw [hU] at a1 a2 a3
    have a3' : cut = true -> A ≠ U + T := fun h h2 => by rw [a3.2 h2] at h; cases h
    cases cut
    . have hA := a3.1 rfl
      subst hA
      by_cases z0 : t = 0
      . have := c4 z0
        rw [if_pos ⟨z0, rfl⟩]
        exact Left.mk' hU (by omega) (by omega) (by constructor <;> intro h <;> omega) (by constructor <;> intro h <;> omega) (by constructor <;> intro h <;> omega) (by constructor <;> intro h <;> omega)
      . have := c5 (by omega)
        rw [if_neg (fun h => z0 h.1)]
        by_cases z1 : t < k
        . have := c1 z1
          rw [if_pos (by omega)]
          exact Left.mk' hU (by omega) (by omega) (by constructor <;> intro h <;> omega) (by constructor <;> intro h <;> omega) (by constructor <;> intro h <;> omega) (by constructor <;> intro h <;> omega)
        . rw [if_neg (by omega)]
          by_cases z2 : t = k
          . have := c2 z2
            rw [if_pos ⟨by omega, rfl⟩]
            exact Left.mk' hU (by omega) (by omega) (by constructor <;> intro h <;> omega) (by constructor <;> intro h <;> omega) (by constructor <;> intro h <;> omega) (by constructor <;> intro h <;> omega)
          . have := c3 (by omega)
            rw [if_neg (fun h => z2 (by omega))]
            exact Left.mk' hU (by omega) (by omega) (by constructor <;> intro h <;> omega) (by constructor <;> intro h <;> omega) (by constructor <;> intro h <;> omega) (by constructor <;> intro h <;> omega)
    . have hA := a3' rfl
      rw [if_neg (fun h => by cases h.2)]
      by_cases z1 : t < k
      . have := c1 z1
        rw [if_pos (by omega)]
        exact Left.mk' hU (by omega) (by omega) (by constructor <;> intro h <;> omega) (by constructor <;> intro h <;> omega) (by constructor <;> intro h <;> omega) (by constructor <;> intro h <;> omega)
      . rw [if_neg (by omega), if_neg (fun h => by cases h.2)]
        have hkt : K <= T := by
          by_cases z2 : t = k
          . have := c2 z2; omega
          . have := c3 (by omega); omega
        exact Left.mk' hU (by omega) (by omega) (by constructor <;> intro h <;> omega) (by constructor <;> intro h <;> omega) (by constructor <;> intro h <;> omega) (by constructor <;> intro h <;> omega)
theorem rU_bits {size low : Int} {mag : Nat} {exp : Int} (hs : 0 < size) (h : mag < 2 ^ 64) (h0 : mag ≠ 0) : rU mag (rE size low mag exp - exp) < 2 ^ size.toNat ∧ (low < rE size low mag exp -> 2 ^ (size.toNat - 1) <= rU mag (rE size low mag exp - exp)) := by
  obtain ⟨b1, b2, b3, b4⟩ := bitLen_spec mag h h0
  obtain ⟨n, hn⟩ : ∃ n, Lib.bitLen mag = n := ⟨_, rfl⟩
  obtain ⟨z, rfl⟩ : ∃ z : Nat, size = z := ⟨size.toNat, by omega⟩
  unfold rE rU
  rw [hn] at b1 b2 b3 b4 ⊢
  rw [Int.toNat_natCast]
  obtain ⟨e, he⟩ : ∃ e, max (exp + (n : Int) - (z : Int)) low = e := ⟨_, rfl⟩
  have he1 : exp + n - z <= e := by omega
  have he2 : low < e -> e = exp + n - z := by omega
  rw [he]
  by_cases hse : e - exp <= 0
  . rw [if_pos hse]
    obtain ⟨k, hk⟩ : ∃ k, (-(e - exp)).toNat = k := ⟨_, rfl⟩
    rw [hk]
    refine ⟨?_, fun hl => ?_⟩
    . calc mag * 2 ^ k < 2 ^ n * 2 ^ k := Nat.mul_lt_mul_of_pos_right b2 (Nat.two_pow_pos k)
        _ = 2 ^ (n + k) := by rw [Nat.pow_add]
        _ <= 2 ^ z := Nat.pow_le_pow_right (by decide) (by omega)
    . have := he2 hl
      calc 2 ^ (z - 1) <= 2 ^ (n - 1 + k) := Nat.pow_le_pow_right (by decide) (by omega)
        _ = 2 ^ (n - 1) * 2 ^ k := by rw [Nat.pow_add]
        _ <= mag * 2 ^ k := Nat.mul_le_mul_right _ b1
  . rw [if_neg hse]
    obtain ⟨k, hk⟩ : ∃ k, (e - exp).toNat = k := ⟨_, rfl⟩
    rw [hk]
    refine ⟨?_, fun hl => ?_⟩
    . rw [Nat.div_lt_iff_lt_mul (Nat.two_pow_pos k), <- Nat.pow_add]
      exact Nat.lt_of_lt_of_le b2 (Nat.pow_le_pow_right (by decide) (by omega))
    . have := he2 hl
      rw [Nat.le_div_iff_mul_le (Nat.two_pow_pos k), <- Nat.pow_add]
      exact Nat.le_trans (Nat.pow_le_pow_right (by decide) (by omega)) b1
theorem V_rung (f : Format) (a u : Nat) (h : u < 2 * f.binade) (h2 : 0 < a -> f.binade <= u) : V f (a * f.binade + u) = u * 2 ^ a ∧ V f (a * f.binade + u + 1) = (u + 1) * 2 ^ a := by
  have hB := binade_pos f
  refine ⟨V_parts f a u (by by_cases ha : a = 0 <;> omega), ?_⟩
  by_cases hu : u + 1 < 2 * f.binade
  . rw [Nat.add_assoc]
    exact V_parts f a (u + 1) (by by_cases ha : a = 0 <;> omega)
  . have e : a * f.binade + u + 1 = (a + 1) * f.binade + f.binade := by rw [Nat.add_mul]; omega
    rw [e, V_parts f (a + 1) f.binade (by omega), Nat.pow_succ, show u + 1 = f.binade * 2 by omega, Nat.mul_assoc, Nat.mul_comm (2 ^ a) 2]
theorem jzl_ge {mag : Int} (h0 : 0 < mag) (h : mag < 9223372036854775808) (k : Nat) (hk : 2 ^ k <= mag) : (k : Int) + 1 <= (jz mag : Int) + jl mag := by
  obtain ⟨m, ez, z63, eo⟩ := jz_spec h0 h
  have hj := jo_le h0 h
  have sp := bitLen_spec (jo mag).toNat (by omega) (by omega)
  have h1 : (jo mag).toNat * 2 ^ jz mag < 2 ^ Lib.bitLen (jo mag).toNat * 2 ^ jz mag := Nat.mul_lt_mul_of_pos_right sp.2.1 (Nat.two_pow_pos _)
  rw [<- Nat.pow_add] at h1
  have h2 : (((jo mag).toNat * 2 ^ jz mag : Nat) : Int) = mag := by
    rw [Int.natCast_mul, Int.toNat_of_nonneg (by omega), eo, Int.mul_comm]
    simp only [Int.natCast_pow]
    exact ez.symm
  have h3 : 2 ^ k <= (jo mag).toNat * 2 ^ jz mag := by
    have : ((2 ^ k : Nat) : Int) = 2 ^ k := by simp
    omega
  have h4 : 2 ^ k < 2 ^ (Lib.bitLen (jo mag).toNat + jz mag) := by omega
  have := (Nat.pow_lt_pow_iff_right (by decide : 1 < 2)).1 h4
  unfold jl
  omega
theorem pow2_nn (n : Nat) : (0 : Int) <= 2 ^ n := Int.le_of_lt (two_pos n)
theorem join_rung (f : Format) (fr : Nat) (hfr : fr <= 60) (hB : f.binade = 2 ^ fr) (top least : Int) (ht : 2 <= top) (u : Nat) (e : Int) (h0 : 0 < u) (hu : u <= 2 ^ (fr + 1)) (he : least <= e) (hn : least < e -> 2 ^ fr <= u) :
    let rung := (e - least).toNat * 2 ^ fr + u
    jk fr top least (u : Int) e = decide ((rung : Int) < top * 2 ^ fr) ∧ ((rung : Int) < top * 2 ^ fr -> jv fr top least (u : Int) e = rung) := by
  intro rung
  have hp60 : 2 ^ (fr + 1) <= 2 ^ 61 := Nat.pow_le_pow_right (by decide) (by omega)
  have hu63 : (u : Int) < 9223372036854775808 := by
    have : (2 : Nat) ^ 61 = 2305843009213693952 := by decide
    omega
  have hu0 : (0 : Int) < (u : Int) := by omega
  have hP : 0 < 2 ^ fr := Nat.two_pow_pos fr
  have hPi : ((2 ^ fr : Nat) : Int) = 2 ^ fr := by simp
  have hlo := jl_le hu0 hu63
  have hJ : jgood fr top least (u : Int) e = decide ((rung : Int) < top * 2 ^ fr) := by
    obtain ⟨a, ha⟩ : ∃ a, (e - least).toNat = a := ⟨_, rfl⟩
    have hr : (rung : Int) = (a : Int) * 2 ^ fr + u := by simp only [rung, ha]; push_cast; rfl
    rw [hr]
    by_cases hlt : u < 2 ^ (fr + 1)
    . by_cases hea : (a : Int) <= top - 2
      . have g := jgood_small (fr := (fr : Int)) (top := top) (least := least) (exp := e) hu0 hu63 (by omega) (by rw [Int.toNat_natCast]; exact_mod_cast hlt) he (by omega)
        rw [g]
        have : (a : Int) * 2 ^ fr <= (top - 2) * 2 ^ fr := Int.mul_le_mul_of_nonneg_right hea (by omega)
        have e2 : (top - 2) * 2 ^ fr = top * 2 ^ fr - 2 * 2 ^ fr := by rw [Int.sub_mul]
        have hu2 : (u : Int) < 2 * 2 ^ fr := by rw [Nat.pow_succ] at hlt; omega
        exact (decide_eq_true (by omega)).symm
      . have hge := hn (by omega)
        have g2 := jzl_ge hu0 hu63 fr (by rw [<- hPi]; omega)
        have g : jgood fr top least (u : Int) e = false := by
          unfold jgood jab jsh jsp
          simp only [Bool.and_eq_false_iff, decide_eq_false_iff_not]
          omega
        rw [g]
        have : (top - 1) * 2 ^ fr <= (a : Int) * 2 ^ fr := Int.mul_le_mul_of_nonneg_right (by omega) (by omega)
        have e2 : (top - 1) * 2 ^ fr = top * 2 ^ fr - 2 ^ fr := by rw [Int.sub_mul, Int.one_mul]
        exact (decide_eq_false (by omega)).symm
    . have hue : u = 2 ^ (fr + 1) := by omega
      have hpp : 2 ^ (fr + 1) < 2 ^ (fr + 2) := Nat.pow_lt_pow_right (by decide) (by omega)
      have g1 := jzl hu0 hu63 (fr + 2) (by rw [hue]; exact_mod_cast hpp)
      have g2 := jzl_ge hu0 hu63 (fr + 1) (by rw [hue]; simp)
      have hu2 : (u : Int) = 2 * 2 ^ fr := by rw [hue, Nat.pow_succ]; push_cast; omega
      have hjo : jl (u : Int) <= fr + 1 := by
        obtain ⟨mm, ez, z63, eo⟩ := jz_spec hu0 hu63
        by_cases hz : jz (u : Int) = 0
        . exfalso
          rw [hz] at ez
          rw [hu2] at ez
          simp at ez
          omega
        . omega
      by_cases hea : (a : Int) <= top - 3
      . have g : jgood fr top least (u : Int) e = true := by
          unfold jgood jab jsh jsp
          simp only [Bool.and_eq_true, decide_eq_true_eq]
          omega
        rw [g]
        have : (a : Int) * 2 ^ fr <= (top - 3) * 2 ^ fr := Int.mul_le_mul_of_nonneg_right hea (by omega)
        have e2 : (top - 3) * 2 ^ fr = top * 2 ^ fr - 3 * 2 ^ fr := by rw [Int.sub_mul]
        exact (decide_eq_true (by omega)).symm
      . have g : jgood fr top least (u : Int) e = false := by
          unfold jgood jab jsh jsp
          simp only [Bool.and_eq_false_iff, decide_eq_false_iff_not]
          omega
        rw [g]
        have : (top - 2) * 2 ^ fr <= (a : Int) * 2 ^ fr := Int.mul_le_mul_of_nonneg_right (by omega) (by omega)
        have e2 : (top - 2) * 2 ^ fr = top * 2 ^ fr - 2 * 2 ^ fr := by rw [Int.sub_mul]
        exact (decide_eq_false (by omega)).symm
  refine ⟨?_, fun hlt => ?_⟩
  . unfold jk
    rw [if_neg (by omega), if_neg (by omega)]
    exact hJ
  . have hg : jgood fr top least (u : Int) e = true := by rw [hJ]; exact decide_eq_true hlt
    have hv := V_join f fr hB top least (u : Int) e hu0 hu63 hg he
    rw [Int.toNat_natCast] at hv
    have hj0 : 0 <= jv fr top least (u : Int) e := by
      unfold jv
      rw [if_neg (by omega), if_pos hg]
      have h1 := jo_le hu0 hu63
      have h2 : 0 <= jab fr least (u : Int) e := by unfold jab jsh; unfold jgood at hg; simp only [Bool.and_eq_true, decide_eq_true_eq] at hg; omega
      have h3 : (0 : Int) <= 2 ^ (fr : Int).toNat := pow2_nn _
      have h4 : (0 : Int) <= 2 ^ (jsh fr least (u : Int) e).toNat := pow2_nn _
      have := Int.mul_nonneg h2 h3
      have := Int.mul_nonneg (show 0 <= jo (u : Int) by omega) h4
      omega
    have hV : V f rung = u * 2 ^ (e - least).toNat := by
      show V f ((e - least).toNat * 2 ^ fr + u) = _
      rw [<- hB]
      by_cases hlt2 : u < 2 ^ (fr + 1)
      . exact (V_rung f (e - least).toNat u (by rw [hB]; rw [Nat.pow_succ] at hlt2; omega) (fun h => by rw [hB]; exact hn (by omega))).1
      . have hue : u = 2 * f.binade - 1 + 1 := by rw [hB]; rw [Nat.pow_succ] at hu hlt2; omega
        have hb := binade_pos f
        have := (V_rung f (e - least).toNat (2 * f.binade - 1) (by omega) (fun h => by omega)).2
        rw [<- hue, Nat.add_assoc, <- hue] at this
        exact this
    have := V_inj f (hv.trans hV.symm)
    omega
end Go.Proofs.YthpachmmjjlomaaGreatDoor.M
namespace Go.Proofs.YthpachmmjjlomaaGreatDoor
open Go Go.RowKit Go.Proofs.YthpachmmjjlomaaGreatDoor.M
set_option linter.unusedSimpArgs false
set_option linter.unusedVariables false
theorem raise1 (ng odd : Bool) (left : Int) (w : World) : Calls Tryz.prog 169 #[.bool ng, .bool odd, .int .i64 left] w fun e w' => e = .returned (.bool (rUp 0 ng odd left)) ∧ w' = w := by
  unfold rUp
  rw [if_pos rfl]
  go_enter Tryz.func169, Tryz.ntmps169
  by_cases h3 : left = 3
  . subst h3
    go_wp2
    go_ret
    exact ⟨by simp, rfl⟩
  . by_cases h2 : left = 2
    . subst h2
      go_wp2
      go_ret
      exact ⟨by simp, rfl⟩
    . go_wp2
      go_ret
      exact ⟨by simp [h2, h3], rfl⟩
theorem raise2 (ng odd : Bool) (left : Int) (w : World) : Calls Tryz.prog 170 #[.bool ng, .bool odd, .int .i64 left] w fun e w' => e = .returned (.bool (rUp 1 ng odd left)) ∧ w' = w := by
  unfold rUp
  rw [if_neg (by decide), if_pos rfl]
  go_enter Tryz.func170, Tryz.ntmps170
  by_cases h0 : left = 0
  . subst h0
    go_wp2
    go_ret
    exact ⟨by simp, rfl⟩
  . go_wp2
    go_ret
    exact ⟨by simp [h0], rfl⟩
theorem raise3 (ng odd : Bool) (left : Int) (w : World) : Calls Tryz.prog 171 #[.bool ng, .bool odd, .int .i64 left] w fun e w' => e = .returned (.bool (rUp 2 ng odd left)) ∧ w' = w := by
  unfold rUp
  rw [if_neg (by decide), if_neg (by decide), if_pos rfl]
  go_enter Tryz.func171, Tryz.ntmps171
  by_cases h0 : left = 0
  . subst h0
    go_wp2
    go_ret
    exact ⟨by simp, rfl⟩
  . go_wp2
    go_ret
    exact ⟨by simp [h0], rfl⟩
theorem raise4 (ng odd : Bool) (left : Int) (w : World) : Calls Tryz.prog 172 #[.bool ng, .bool odd, .int .i64 left] w fun e w' => e = .returned (.bool (rUp 3 ng odd left)) ∧ w' = w := by
  unfold rUp
  rw [if_neg (by decide), if_neg (by decide), if_neg (by decide)]
  go_enter Tryz.func172, Tryz.ntmps172
  go_wp2
  go_ret
  exact ⟨rfl, rfl⟩
def wayF (way : Int) : Nat := if way = 0 then 169 else if way = 1 then 170 else if way = 2 then 171 else 172
def wayV (way : Int) : Value := .agg #[.func (.func (wayF way)) #[] #[]]
set_option maxRecDepth 100000 in
theorem wayOf_any (way : Int) (w : World) : Calls Tryz.prog 163 #[.int .i64 way] w fun e w' => e = .returned (.tuple #[if 0 <= way ∧ way <= 3 then wayV way else .agg #[.nilFunc], .bool (decide (0 <= way ∧ way <= 3))]) ∧ Below w.heap.size w w' := by
  have hmf : ∀ (fn : Fn) (first cap : Array Value) (w : World), (Instr.makeFunc fn first cap).run Tryz.prog w = .ok (.func fn first cap) w := fun _ _ _ _ => rfl
  have hst : ∀ (p : Addr) (F : Nat) (m : Mode) (w : World), (store p (.func (.func F) #[] #[]) m).run Tryz.prog w = stored Tryz.prog w p (.func (.func F) #[] #[]) m := fun p F m w => run_store _ w p _ m rfl
  have hsn : ∀ (p : Addr) (m : Mode) (w : World), (store p .nilFunc m).run Tryz.prog w = stored Tryz.prog w p .nilFunc m := fun p m w => run_store _ w p _ m rfl
  have hb2 := bel_alloc2 w (.cells #[.nilFunc] 178) (.cells #[.nilFunc, .nilFunc, .nilFunc, .nilFunc] 189)
  have q0 := heap_a2 w (.cells #[.nilFunc] 178) (.cells #[.nilFunc, .nilFunc, .nilFunc, .nilFunc] 189)
  have q1 := heap_b2 w (.cells #[.nilFunc] 178) (.cells #[.nilFunc, .nilFunc, .nilFunc, .nilFunc] 189)
  have x0 := blkC q1 0 rfl
  have x1 := blkC q1 1 rfl
  have x2 := blkC q1 2 rfl
  have x3 := blkC q1 3 rfl
  have z0 := blkF q1 0
  have z1 := blkF q1 1
  have z2 := blkF q1 2
  have z3 := blkF q1 3
  have y0 := blkC q0 0 rfl
  have y1 := blkF q0 0
  by_cases h0 : way < 0
  . go_enter Tryz.func163, Tryz.ntmps163
    go_wp2
    refine bodyPost_ret (v := .tuple #[.agg #[.nilFunc], .bool false]) (by simp [results, Tryz.results163, go_sem]) rfl ⟨?_, ?_⟩
    . rfl
    . exact bel_alloc2 _ _ _
  by_cases h4 : 4 <= way
  . go_enter Tryz.func163, Tryz.ntmps163
    go_wp2
    refine bodyPost_ret (v := .tuple #[.agg #[.nilFunc], .bool false]) (by simp [results, Tryz.results163, go_sem]) rfl ⟨?_, ?_⟩
    . rfl
    . exact bel_alloc2 _ _ _
  rw [if_pos (by omega), show decide (0 <= way ∧ way <= 3) = true from decide_eq_true (by omega)]
  have hc : way = 0 ∨ way = 1 ∨ way = 2 ∨ way = 3 := by omega
  rcases hc with rfl | rfl | rfl | rfl
  all_goals
    go_enter Tryz.func163, Tryz.ntmps163
    go_wp2
    refine bodyPost_ret (v := .tuple #[wayV _, .bool true]) (by simp [results, Tryz.results163, go_sem, wayV, wayF]; first | done | rfl) rfl ⟨rfl, ?_⟩
    exact bel_alloc2 _ _ _
def valV (ng : Bool) (mag : Nat) (exp : Int) (cut sd : Bool) : Value := .agg #[.bool ng, .int .u64 mag, .int .i64 exp, .bool cut, .bool sd]
set_option maxRecDepth 100000 in
set_option maxHeartbeats 1000000 in
theorem split_low (ng : Bool) (mag : Nat) (exp unit : Int) (cut sd : Bool) (w : World) (k : Nat) (hk : unit - exp = -(k : Int)) (hk2 : k < 20000000) (hm : mag * 2 ^ k < 18446744073709551616) :
    Calls Tryz.prog 178 #[valV ng mag exp cut sd, .int .i64 unit] w fun e w' => e = .returned (.tuple #[.int .u64 (mag * 2 ^ k : Nat), .int .i64 0]) ∧ Below w.heap.size w w' := by
  have h0 : IntKind.i64.wrap (unit - exp) = -(k : Int) := by rw [wrap_i64_eq]; omega
  unfold valV
  go_enter Tryz.func178, Tryz.ntmps178
  have hw : IntKind.u64.wrap ((mag : Int) * 2 ^ min k 64) = ((mag * 2 ^ k : Nat) : Int) := by
    rw [IntKind.wrap_u64]
    by_cases h : k <= 64
    . rw [show min k 64 = k by omega]
      have e : (mag : Int) * 2 ^ k = ((mag * 2 ^ k : Nat) : Int) := by push_cast; rfl
      rw [e]
      omega
    . have hz : mag = 0 := by
        rcases Nat.eq_zero_or_pos mag with h0 | h0
        . exact h0
        . have h1 : 2 ^ 64 <= 2 ^ k := Nat.pow_le_pow_right (by decide) (by omega)
          have h2 : 1 * 2 ^ k <= mag * 2 ^ k := Nat.mul_le_mul_right _ h0
          have h3 : (2 : Nat) ^ 64 = 18446744073709551616 := by decide
          omega
      subst hz
      simp
  generalize ((mag * 2 ^ k : Nat) : Int) = R at hw ⊢
  go_wp2
  refine bodyPost_ret (v := .tuple #[.int .u64 R, .int .i64 0]) (by simp [results, Tryz.results178, go_sem]) rfl ⟨rfl, bel_alloc _ _⟩
theorem ret_ui {a b c d : Int} (h1 : a = c) (h2 : b = d) : Ending.returned (.tuple #[.int .u64 a, .int .i64 b]) = Ending.returned (.tuple #[.int .u64 c, .int .i64 d]) := by rw [h1, h2]
theorem rL_eq {mag k t m : Nat} {cut : Bool} (hk0 : 0 < k) (hm : mag < 18446744073709551616) (ht : mag % 2 ^ k = t) (hmid : (if k <= 64 then 2 ^ (k - 1) else 0) = m) : rL mag cut (k : Int) = if t = 0 ∧ cut = false then 0 else if t < m ∨ 64 < k then 1 else if t = m ∧ cut = false then 2 else 3 := by
  unfold rL
  rw [if_neg (by omega), Int.toNat_natCast, ht]
  obtain ⟨p, hp, hp0⟩ := two_half k hk0
  have hp2 : 2 ^ (k - 1) = p := by
    have : 2 ^ k = 2 * 2 ^ (k - 1) := by rw [<- Nat.pow_succ', Nat.succ_eq_add_one, Nat.sub_add_cancel hk0]
    omega
  rw [hp]
  by_cases hk : k <= 64
  . rw [if_pos hk, hp2] at hmid
    subst hmid
    have e1 : (2 * t < 2 * p) = (t < p ∨ 64 < k) := propext ⟨fun h => .inl (by omega), fun h => by omega⟩
    have e2 : (2 * t = 2 * p ∧ cut = false) = (t = p ∧ cut = false) := propext ⟨fun h => ⟨by omega, h.2⟩, fun h => ⟨by omega, h.2⟩⟩
    simp only [e1, e2]
  . have hlt : 2 * t < 2 * p := by
      have h1 : 2 ^ 65 <= 2 ^ k := Nat.pow_le_pow_right (by decide) (by omega)
      have h2 : (2 : Nat) ^ 65 = 36893488147419103232 := by decide
      have h3 := Nat.mod_le mag (2 ^ k)
      omega
    rw [if_pos hlt, if_pos (show t < m ∨ 64 < k from .inr (by omega))]
set_option maxRecDepth 100000 in
set_option maxHeartbeats 1000000 in
theorem split_high (ng : Bool) (mag : Nat) (exp unit : Int) (cut sd : Bool) (w : World) (k : Nat) (hk : unit - exp = (k : Int)) (hk0 : 0 < k) (hk2 : k < 20000000) (hm : mag < 18446744073709551616) :
    Calls Tryz.prog 178 #[valV ng mag exp cut sd, .int .i64 unit] w fun e w' => e = .returned (.tuple #[.int .u64 (mag / 2 ^ k : Nat), .int .i64 (rL mag cut (k : Int))]) ∧ Below w.heap.size w w' := by
  have h0 : IntKind.i64.wrap (unit - exp) = (k : Int) := by rw [wrap_i64_eq]; omega
  unfold valV
  obtain ⟨u, hu⟩ : ∃ u, mag / 2 ^ k = u := ⟨_, rfl⟩
  obtain ⟨t, ht⟩ : ∃ t, mag % 2 ^ k = t := ⟨_, rfl⟩
  obtain ⟨m, hmid⟩ : ∃ m : Nat, (if k <= 64 then 2 ^ (k - 1) else 0) = m := ⟨_, rfl⟩
  have hd := Nat.div_add_mod mag (2 ^ k)
  rw [hu, ht] at hd
  have hpc : ∀ n : Nat, (2 : Int) ^ n = ((2 ^ n : Nat) : Int) := fun n => by simp
  have hbig : 64 < k -> u = 0 ∧ mag / 2 ^ 64 = 0 := fun h => by
    have h1 : 2 ^ 64 <= 2 ^ k := Nat.pow_le_pow_right (by decide) (by omega)
    have h2 : (2 : Nat) ^ 64 = 18446744073709551616 := by decide
    exact ⟨by rw [<- hu]; exact Nat.div_eq_of_lt (by omega), Nat.div_eq_of_lt (by omega)⟩
  have r1 : (mag : Int) / 2 ^ min k 64 = (u : Int) := by
    rw [hpc, <- Int.natCast_ediv]
    by_cases h : k <= 64
    . rw [show min k 64 = k by omega, hu]
    . obtain ⟨h1, h2⟩ := hbig (by omega)
      rw [show min k 64 = 64 by omega, h1, h2]
  have r2 : IntKind.u64.wrap ((u : Int) * 2 ^ min k 64) = (u : Int) * 2 ^ k := by
    rw [IntKind.wrap_u64]
    by_cases h : k <= 64
    . rw [show min k 64 = k by omega, hpc, <- Int.natCast_mul]
      have : u * 2 ^ k <= mag := by rw [Nat.mul_comm]; omega
      omega
    . obtain ⟨h1, _⟩ := hbig (by omega)
      rw [h1]
      simp
  have r3 : IntKind.u64.wrap ((mag : Int) - (u : Int) * 2 ^ k) = (t : Int) := by
    rw [IntKind.wrap_u64, hpc, <- Int.natCast_mul, Nat.mul_comm]
    have : t <= mag := by omega
    omega
  have r4 : IntKind.i64.wrap ((k : Int) - 1) = ((k - 1 : Nat) : Int) := by rw [wrap_i64_eq]; omega
  have r5 : IntKind.u64.wrap ((2 : Int) ^ min (k - 1) 64) = (m : Int) := by
    rw [IntKind.wrap_u64, <- hmid]
    by_cases h : k <= 64
    . rw [if_pos h, show min (k - 1) 64 = k - 1 by omega, hpc]
      have h1 : 2 ^ (k - 1) <= 2 ^ 63 := Nat.pow_le_pow_right (by decide) (by omega)
      have h2 : (2 : Nat) ^ 63 = 9223372036854775808 := by decide
      rw [h2] at h1
      generalize 2 ^ (k - 1) = p at h1 ⊢
      omega
    . rw [if_neg h, show min (k - 1) 64 = 64 by omega]
      decide
  have HRL : Hid (rL mag cut (k : Int) = if t = 0 ∧ cut = false then 0 else if t < m ∨ 64 < k then 1 else if t = m ∧ cut = false then 2 else 3) := rL_eq hk0 hm ht hmid
  rw [hu]
  clear hd hpc hbig hmid ht hu
  have HW : Hid (IntKind.i64.wrap (unit - exp) = (k : Int)) := h0
  have g0 := heap_alloc_new w (.cells #[.bool ng, .int .u64 mag, .int .i64 exp, .bool cut, .bool sd] 174)
  have k1 := blkC g0 1 rfl
  go_enter Tryz.func178, Tryz.ntmps178
  go_wp2
  go_region_held3 (fun W => W.cell? ⟨w.heap.size, 1, none⟩ = some (.int .u64 mag))
    (first | assumption | exact k1)
    (fail)
  all_goals go_wp2
  all_goals go_ret2
  all_goals exact ⟨ret_ui rfl (by rw [HRL.out]; clear HRL; cases cut <;> simp at * <;> (repeat' split) <;> omega), by first | exact (bel_alloc _ _).drew | exact bel_alloc _ _⟩
theorem split_any (ng : Bool) (mag : Nat) (exp unit : Int) (cut sd : Bool) (w : World) (hm : mag < 18446744073709551616) (hu : -5000000 <= unit ∧ unit <= 5000000) (he : -5000000 <= exp ∧ exp <= 5000000) (hs : unit - exp <= 0 -> rU mag (unit - exp) < 18446744073709551616) :
    Calls Tryz.prog 178 #[valV ng mag exp cut sd, .int .i64 unit] w fun e w' => e = .returned (.tuple #[.int .u64 (rU mag (unit - exp) : Nat), .int .i64 (rL mag cut (unit - exp))]) ∧ Below w.heap.size w w' := by
  by_cases h : unit - exp <= 0
  . have := hs h
    unfold rU rL at *
    rw [if_pos h] at *
    rw [if_pos h]
    exact split_low ng mag exp unit cut sd w (-(unit - exp)).toNat (by omega) (by omega) this
  . have e : unit - exp = ((unit - exp).toNat : Int) := by omega
    have e1 : rU mag (unit - exp) = mag / 2 ^ (unit - exp).toNat := by unfold rU; rw [if_neg h]
    rw [e1, e]
    exact split_high ng mag exp unit cut sd w (unit - exp).toNat e (by omega) (by omega) hm
theorem wraise_any (way : Int) (hw : 0 <= way ∧ way <= 3) (ng odd : Bool) (left : Int) (w : World) : Calls Tryz.prog (wayF way) #[.bool ng, .bool odd, .int .i64 left] w fun e w' => e = .returned (.bool (rUp way ng odd left)) ∧ w' = w := by
  have hc : way = 0 ∨ way = 1 ∨ way = 2 ∨ way = 3 := by omega
  rcases hc with rfl | rfl | rfl | rfl
  . exact raise1 ng odd left w
  . exact raise2 ng odd left w
  . exact raise3 ng odd left w
  . exact raise4 ng odd left w
theorem wraise_enter (way : Int) (cap : Array Value) (w : World) : (callFunc (wayF way) cap).run Tryz.prog w = .ok (.enter (wayF way) cap) w := by
  unfold wayF
  by_cases h0 : way = 0
  . rw [if_pos h0]; simp [go_sem]
  . rw [if_neg h0]
    by_cases h1 : way = 1
    . rw [if_pos h1]; simp [go_sem]
    . rw [if_neg h1]
      by_cases h2 : way = 2
      . rw [if_pos h2]; simp [go_sem]
      . rw [if_neg h2]; simp [go_sem]
set_option maxRecDepth 100000 in
set_option maxHeartbeats 1000000 in
theorem units_F (F : Nat) (R : Bool -> Bool -> Int -> Bool) (ng : Bool) (mag : Nat) (exp unit : Int) (cut sd : Bool) (u : Nat) (left : Int) (w : World) (hE : ∀ (cap : Array Value) (w : World), (callFunc F cap).run Tryz.prog w = .ok (.enter F cap) w)
    (hF : ∀ ng odd left W, Calls Tryz.prog F #[.bool ng, .bool odd, .int .i64 left] W fun e w' => e = .returned (.bool (R ng odd left)) ∧ w' = W) (hu : u < 18446744073709551615)
    (hS : ∀ W, Calls Tryz.prog 178 #[valV ng mag exp cut sd, .int .i64 unit] W fun e w' => e = .returned (.tuple #[.int .u64 (u : Nat), .int .i64 left]) ∧ Below W.heap.size W w') :
    Calls Tryz.prog 175 #[valV ng mag exp cut sd, .int .i64 unit, .agg #[.func (.func F) #[] #[]]] w fun e w' => e = .returned (.tuple #[.int .u64 (u + (if R ng (decide (u % 2 = 1)) left then 1 else 0) : Nat), .bool (decide (left ≠ 0))]) ∧ Below w.heap.size w w' := by
  unfold valV at *
  have hb2 := bel_alloc2 w (.cells #[.bool ng, .int .u64 mag, .int .i64 exp, .bool cut, .bool sd] 174) (.cells #[.func (.func F) #[] #[]] 178)
  have q0 := heap_a2 w (.cells #[.bool ng, .int .u64 mag, .int .i64 exp, .bool cut, .bool sd] 174) (.cells #[.func (.func F) #[] #[]] 178)
  have q1 := heap_b2 w (.cells #[.bool ng, .int .u64 mag, .int .i64 exp, .bool cut, .bool sd] 174) (.cells #[.func (.func F) #[] #[]] 178)
  obtain ⟨odd, ho⟩ : ∃ odd, decide (u % 2 = 1) = odd := ⟨_, rfl⟩
  have hodd : (bits BinOp.and IntKind.u64 (u : Int) 1 == 1) = odd := by
    rw [and_one_u64 _ (by omega) (by omega), <- ho]
    by_cases h : u % 2 = 1
    . rw [decide_eq_true h]; simp; omega
    . rw [decide_eq_false h]; simp; omega
  rw [ho]
  clear ho
  have hw1 : IntKind.u64.wrap ((u : Int) + 1) = ((u + 1 : Nat) : Int) := by rw [IntKind.wrap_u64]; omega
  go_enter Tryz.func175, Tryz.ntmps175
  go_wp2_with fail
  refine (hS _).mono ?_
  rintro _ w1 ⟨rfl, hb1⟩
  have hbw := bel_trans hb2 hb1
  have p0 := (hb1.block _ (Array.getElem?_eq_some_iff.1 q0).1).trans q0
  have p1 := (hb1.block _ (Array.getElem?_eq_some_iff.1 q1).1).trans q1
  have k0 := blkC p0 0 rfl
  have k1 := blkC p1 0 rfl
  clear hS q0 q1 hb1 hb2
  go_wp2_with fail
  refine (hF ng odd left _).mono ?_
  rintro _ _ ⟨rfl, rfl⟩
  cases hR : R ng odd left
  . have HR : Hid (R ng odd left = false) := hR
    by_cases hl : left = 0
    . go_wp2
      all_goals go_ret2
      all_goals exact ⟨by simp_all, hbw⟩
    . go_wp2
      all_goals go_ret2
      all_goals exact ⟨by simp_all, hbw⟩
  . have HR : Hid (R ng odd left = true) := hR
    by_cases hl : left = 0
    . go_wp2
      all_goals go_ret2
      all_goals exact ⟨by simp_all, hbw⟩
    . go_wp2
      all_goals go_ret2
      all_goals exact ⟨by simp_all, hbw⟩
theorem units_any (way : Int) (hw : 0 <= way ∧ way <= 3) (ng : Bool) (mag : Nat) (exp unit : Int) (cut sd : Bool) (w : World) (hm : mag < 18446744073709551616) (hu : -5000000 <= unit ∧ unit <= 5000000) (he : -5000000 <= exp ∧ exp <= 5000000) (hs : rU mag (unit - exp) < 18446744073709551615) :
    Calls Tryz.prog 175 #[valV ng mag exp cut sd, .int .i64 unit, wayV way] w fun e w' => e = .returned (.tuple #[.int .u64 (rU mag (unit - exp) + (if rUp way ng (decide (rU mag (unit - exp) % 2 = 1)) (rL mag cut (unit - exp)) then 1 else 0) : Nat), .bool (decide (rL mag cut (unit - exp) ≠ 0))]) ∧ Below w.heap.size w w' :=
  units_F (wayF way) (rUp way) ng mag exp unit cut sd _ _ w (wraise_enter way) (wraise_any way hw) hs (fun W => split_any ng mag exp unit cut sd W hm hu he (fun _ => by omega))
theorem ret_ib {a a' : Int} {c c' : Bool} (h : a = a') (l : c = c') : Ending.returned (.tuple #[.int .i64 a, .bool c]) = .returned (.tuple #[.int .i64 a', .bool c']) := by rw [h, l]
def b_Tab (w : World) : Prop := ∀ j, j < 64 -> w.cell? ⟨3, j, none⟩ = some (.int .u8 ((Lib.deBruijn64tab.getD j 0 : Nat) : Int))
theorem b_Tab.grown {w w' : World} (h : b_Tab w) (g : Gr w w') : b_Tab w' := fun j hj => gCell g (h j hj)
theorem b_tz_key (x a : Nat) (hx : x < 18446744073709551616) (hx0 : x ≠ 0) (hlow : x &&& (18446744073709551616 - x) = a) :
    IntKind.u64.wrap (bits .and .u64 (x : Int) (IntKind.u64.wrap (-(x : Int))) * 285870213051353865) / 288230376151711744 = ((a * 285870213051353865 % 18446744073709551616 / 288230376151711744 : Nat) : Int) := by
  have e1 : IntKind.u64.wrap (-(x : Int)) = ((18446744073709551616 - x : Nat) : Int) := by rw [IntKind.wrap_u64]; omega
  rw [e1, bits_and_u64_nat x _ hx (by omega), hlow, IntKind.wrap_u64]
  omega
set_option maxHeartbeats 1000000 in
theorem b_tz_core (x k idx : Nat) (w : World) (hx0 : ((x : Int) == 0) = false)
    (key : IntKind.u64.wrap (bits .and .u64 (x : Int) (IntKind.u64.wrap (-(x : Int))) * 285870213051353865) / 288230376151711744 = (idx : Int))
    (hi : idx < 64) (hk : k < 64) (hcell : w.cell? ⟨3, idx, none⟩ = some (.int .u8 k)) :
    Calls Tryz.prog 142 #[.int .u64 x] w fun e w' => e = .returned (.int .i64 k) ∧ w' = w := by
  go_enter Tryz.func142, Tryz.ntmps142
  go_wp2_with (simp only [key])
  go_ret
  exact ⟨rfl, rfl⟩
theorem b_trailing (x : Nat) (hx : x < 18446744073709551616) (h0 : x ≠ 0) (w : World) (hT : b_Tab w) :
    Calls Tryz.prog 142 #[.int .u64 x] w fun e w' => e = .returned (.int .i64 (Lib.ctz 64 x)) ∧ w' = w := by
  obtain ⟨hlow, hk⟩ := Lib.lowest_bit 64 x h0 hx
  obtain ⟨hi, htab⟩ := Lib.deBruijn64_at _ hk
  have hcell := hT _ hi
  rw [htab] at hcell
  exact b_tz_core x _ _ w (by simp; omega) (b_tz_key x _ hx h0 hlow) hi hk hcell
theorem b_len_close (x q : Int) (s : Nat) (h : q.toNat < Lib.len8tab.size) (hq0 : 0 <= q) (hq : q <= 255) (hs : s <= 56) (hb : Lib.bitLen x.toNat = s + Lib.bitLen q.toNat) :
    wrap64 ((s : Int) + wrap64 ((Lib.len8tab[q.toNat]'h).toNat : Int)) = (Lib.bitLen x.toNat : Int) := by
  have e := Lib.len8_of q hq0 hq
  have l := Lib.bitLen_le8' q hq0 hq
  unfold Lib.len8 at e
  rw [getElem?_pos Lib.len8tab q.toNat h] at e
  simp only [Option.getD_some] at e
  rw [e, hb]
  unfold wrap64
  omega
theorem b_len_close0 (x : Int) (h : x.toNat < Lib.len8tab.size) (hq0 : 0 <= x) (hq : x <= 255) :
    wrap64 (wrap64 ((Lib.len8tab[x.toNat]'h).toNat : Int)) = (Lib.bitLen x.toNat : Int) := by
  have := b_len_close x x 0 h hq0 hq (by omega) (by omega)
  simpa using this
theorem b_len_q (x q : Int) (s : Nat) (h0 : 0 <= x) (h1 : x <= 18446744073709551615) (hx : ((2 ^ s : Nat) : Int) <= x) (e : q = x / ((2 ^ s : Nat) : Int)) : Lib.bitLen x.toNat = s + Lib.bitLen q.toNat := by
  rw [Lib.bitLen_shift s x.toNat (by omega) (by omega), e]
  congr 2
  obtain ⟨n, rfl⟩ := Int.eq_ofNat_of_zero_le h0
  rw [<- Int.natCast_ediv, Int.toNat_natCast, Int.toNat_natCast]
set_option maxHeartbeats 4000000 in
set_option maxRecDepth 100000 in
theorem b_len64 (x : Int) (w : World) (h0 : 0 <= x) (h1 : x <= 18446744073709551615) :
    Calls Tryz.prog 144 #[.int .u64 x] w fun e w' => e = .returned (.int .i64 (Lib.bitLen x.toNat)) ∧ w' = w := by
  have hs : Lib.len8tab.size = 256 := by decide +kernel
  go_enter Tryz.func144, Tryz.ntmps144
  go_wp2
  all_goals go_ret
  . exact ⟨b_ret_int (b_len_close x _ 56 _ (by omega) (by omega) (by omega) (b_len_q x _ 56 h0 h1 (by omega) (by omega))), rfl⟩
  . exact ⟨b_ret_int (b_len_close x _ 48 _ (by omega) (by omega) (by omega) (b_len_q x _ 48 h0 h1 (by omega) (by omega))), rfl⟩
  . exact ⟨b_ret_int (b_len_close x _ 40 _ (by omega) (by omega) (by omega) (b_len_q x _ 40 h0 h1 (by omega) (by omega))), rfl⟩
  . exact ⟨b_ret_int (b_len_close x _ 32 _ (by omega) (by omega) (by omega) (b_len_q x _ 32 h0 h1 (by omega) (by omega))), rfl⟩
  . exact ⟨b_ret_int (b_len_close x _ 24 _ (by omega) (by omega) (by omega) (b_len_q x _ 24 h0 h1 (by omega) (by omega))), rfl⟩
  . exact ⟨b_ret_int (b_len_close x _ 16 _ (by omega) (by omega) (by omega) (b_len_q x _ 16 h0 h1 (by omega) (by omega))), rfl⟩
  . exact ⟨b_ret_int (b_len_close x _ 8 _ (by omega) (by omega) (by omega) (b_len_q x _ 8 h0 h1 (by omega) (by omega))), rfl⟩
  . exact ⟨b_ret_int (b_len_close0 x _ (by omega) (by omega)), rfl⟩
set_option maxRecDepth 100000 in
theorem b_len (x : Int) (w : World) (h0 : 0 <= x) (h1 : x <= 18446744073709551615) : Calls Tryz.prog 119 #[.int .u64 x] w fun e w' => e = .returned (.int .i64 (Lib.bitLen x.toNat)) ∧ w' = w := by
  go_enter Tryz.func119, Tryz.ntmps119
  go_wp2_with (go_at_call 144; refine (b_len64 x _ h0 h1).mono ?_; rintro _ _ ⟨rfl, rfl⟩)
  go_ret
  exact ⟨rfl, rfl⟩
set_option maxRecDepth 100000 in
set_option maxHeartbeats 1000000 in
theorem float_F (F : Nat) (ng : Bool) (mag : Nat) (exp size least : Int) (cut sd : Bool) (U : Nat) (E : Int) (other : Bool) (w : World) (hm : mag < 18446744073709551616) (he : -4500000 <= exp ∧ exp <= 4500000) (hs : 0 <= size ∧ size <= 64) (hl : -2000 <= least ∧ least <= 0) (hE : rE size least mag exp = E) (hU : U < 9223372036854775808)
    (hC : ∀ W, Calls Tryz.prog 175 #[valV ng mag exp cut sd, .int .i64 E, .agg #[.func (.func F) #[] #[]]] W fun e w' => e = .returned (.tuple #[.int .u64 (U : Nat), .bool other]) ∧ Below W.heap.size W w') :
    Calls Tryz.prog 166 #[valV ng mag exp cut sd, .int .i64 size, .int .i64 least, .agg #[.func (.func F) #[] #[]]] w fun e w' => e = .returned (.tuple #[.bool (ng && (decide (0 < U) || sd)), .int .i64 (U : Nat), .int .i64 E, .bool other]) ∧ Below w.heap.size w w' := by
  unfold valV at *
  have hb2 := bel_alloc2 w (.cells #[.bool ng, .int .u64 mag, .int .i64 exp, .bool cut, .bool sd] 174) (.cells #[.func (.func F) #[] #[]] 178)
  have q0 := heap_a2 w (.cells #[.bool ng, .int .u64 mag, .int .i64 exp, .bool cut, .bool sd] 174) (.cells #[.func (.func F) #[] #[]] 178)
  have q1 := heap_b2 w (.cells #[.bool ng, .int .u64 mag, .int .i64 exp, .bool cut, .bool sd] 174) (.cells #[.func (.func F) #[] #[]] 178)
  have k0 := blkC q0 0 rfl
  have k1 := blkC q0 1 rfl
  have k2 := blkC q0 2 rfl
  have k3 := blkC q0 3 rfl
  have k4 := blkC q0 4 rfl
  have kw := blkC q1 0 rfl
  have hbl : Lib.bitLen mag <= 64 := by
    by_cases h0 : mag = 0
    . rw [h0]; decide
    . have e64 : (2 : Nat) ^ 64 = 18446744073709551616 := by decide
      exact (M.bitLen_spec mag (by omega) h0).2.2.2
  have HE : Hid (rE size least mag exp = E) := hE
  obtain ⟨L, hL⟩ : ∃ L : Int, (Lib.bitLen mag : Int) = L := ⟨_, rfl⟩
  have hEL : max (exp + L - size) least = E := by rw [<- hL]; exact hE
  have hL2 : (Lib.bitLen ((mag : Int)).toNat : Int) = L := by rw [Int.toNat_natCast]; exact hL
  have hL0 : 0 <= L ∧ L <= 64 := by omega
  have w1 : IntKind.i64.wrap (exp + L) = exp + L := by rw [wrap_i64_eq]; omega
  have w2 : IntKind.i64.wrap (exp + L - size) = exp + L - size := by rw [wrap_i64_eq]; omega
  have wU : IntKind.i64.wrap (U : Int) = (U : Int) := by rw [wrap_i64_eq]; omega
  clear hE
  have hmax : ∀ (ts : Array TypeId) (t : TypeId) (x y : Int) (w : World), (Builtin.max_ ts t #[.int .i64 x, .int .i64 y]).run Tryz.prog w = .ok (.int .i64 (max x y)) w := fun ts t x y w => by rw [run_max_int2]; congr 2; omega
  go_enter Tryz.func166, Tryz.ntmps166
  go_wp2_with fail
  generalize (w.alloc (.cells #[.bool ng, .int .u64 mag, .int .i64 exp, .bool cut, .bool sd] 174)).alloc (.cells #[.func (.func F) #[] #[]] 178) = wx at hb2 q0 q1 k0 k1 k2 k3 k4 kw ⊢
  go_region_held3 (fun W => W.cell? ⟨w.heap.size, 2, none⟩ = some (.int .i64 exp) ∧ W.cell? ⟨w.heap.size, 1, none⟩ = some (.int .u64 mag))
    (first | assumption | exact ⟨k2, k1⟩)
    (first | (go_at_call 119; refine (b_len _ _ (by omega) (by omega)).mono ?_; rintro _ _ ⟨rfl, rfl⟩))
  all_goals
    go_wp2_with fail
    refine (hC _).mono ?_
    rintro _ w3 ⟨rfl, hb3⟩
    have hdr : Below wx.heap.size wx wx.drew := (bel_refl wx).drew
    have hb3' := bel_trans hdr hb3
    have hbw := bel_trans hb2 hb3'
    have p0 := (hb3'.block _ (Array.getElem?_eq_some_iff.1 q0).1).trans q0
    have j0 := blkC p0 0 rfl
    have j4 := blkC p0 4 rfl
    clear hC hb3 hb3' hdr q0 q1 k0 k1 k2 k3 k4 kw
    cases ng
    . go_wp2
      all_goals refine bodyPost_ret (v := .tuple #[.bool false, .int .i64 (U : Nat), .int .i64 E, .bool other]) (by simp [results, Tryz.results166, go_sem]) rfl ⟨by simp, hbw⟩
    . by_cases hu0 : U = 0
      . have hu1 : ¬ (0 : Int) < (U : Int) := by omega
        have hd : decide (0 < U) = false := decide_eq_false (by omega)
        go_wp2
        all_goals refine bodyPost_ret (v := .tuple #[.bool sd, .int .i64 (U : Nat), .int .i64 E, .bool other]) (by simp [results, Tryz.results166, go_sem, hu0]) rfl ⟨by simp [hd], hbw⟩
      . have hu1 : (0 : Int) < (U : Int) := by omega
        have hd : decide (0 < U) = true := decide_eq_true (by omega)
        go_wp2
        all_goals refine bodyPost_ret (v := .tuple #[.bool true, .int .i64 (U : Nat), .int .i64 E, .bool other]) (by simp [results, Tryz.results166, go_sem]) rfl ⟨by simp [hd], hbw⟩
end Go.Proofs.YthpachmmjjlomaaGreatDoor
