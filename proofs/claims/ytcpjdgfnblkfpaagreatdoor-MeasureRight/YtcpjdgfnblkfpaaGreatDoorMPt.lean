/-
  Lists of points, as they lie in memory; which of them are points: measure.good, plumblaw13.good, by their contracts.
-/
import Derived.Test.YtcpjdgfnblkfpaaGreatDoorQRef
import Derived.Test.YtcpjdgfnblkfpaaGreatDoorDList
namespace Go.Proofs.YtcpjdgfnblkfpaaGreatDoor
open Go Go.RowKit Go.Proofs.YtcpjdgfnblkfpaaGreatDoor.M
set_option linter.unusedSimpArgs false
set_option linter.unusedVariables false

/-- A slice of points that is read. -/
structure Pts (w : World) (ao : Option Addr) (n cap : Nat) (px py : Nat → Int) : Prop where
  le : n ≤ cap
  max : cap ≤ 9223372036854775807
  spot : 0 < n → ∃ b off, ao = some ⟨b, off, none⟩ ∧ b < w.heap.size ∧ ∀ i, i < n → w.cell? ⟨b, off + i * 2, none⟩ = some (.int .i64 (px i)) ∧ w.cell? ⟨b, off + i * 2 + 1, none⟩ = some (.int .i64 (py i))
theorem Pts.keeps {w w' : World} {ao : Option Addr} {n cap : Nat} {px py : Nat → Int} (h : Pts w ao n cap px py) (hb : Below w.heap.size w w') : Pts w' ao n cap px py :=
  ⟨h.le, h.max, fun hn => by
    obtain ⟨b, off, rfl, hlt, hc⟩ := h.spot hn
    exact ⟨b, off, rfl, Nat.lt_of_lt_of_le hlt hb.size, fun i hi => ⟨(hb.cell (p := ⟨b, off + i * 2, none⟩) hlt).trans (hc i hi).1, (hb.cell (p := ⟨b, off + i * 2 + 1, none⟩) hlt).trans (hc i hi).2⟩⟩⟩
/-- Does each have it? -/
def allB (f : Nat → Bool) (n : Nat) : Bool := decide (∀ i, i < n → f i = true)
theorem allB_succ (f : Nat → Bool) (n : Nat) : allB f (n + 1) = (allB f n && f n) := by
  unfold allB
  by_cases h : f n = true
  · rw [h, Bool.and_true]
    congr 1
    exact propext ⟨fun k i hi => k i (by omega), fun k i hi => by by_cases e : i = n; (· subst e; exact h); (· exact k i (by omega))⟩
  · have h' : f n = false := by simpa using h
    rw [h', Bool.and_false]
    exact decide_eq_false fun k => h (k n (by omega))
theorem allB_zero (f : Nat → Bool) : allB f 0 = true := decide_eq_true fun i hi => absurd hi (Nat.not_lt_zero _)
/-- Lists of two, three, four points that are laid for a call. -/
def l2 (a b : Int) (i : Nat) : Int := if i = 0 then a else b
def l3 (a b c : Int) (i : Nat) : Int := if i = 0 then a else if i = 1 then b else c
def l4 (a b c d : Int) (i : Nat) : Int := if i = 0 then a else if i = 1 then b else if i = 2 then c else d
theorem pts2 (w : World) {g : Nat} {t : TypeId} {ax ay bx by' : Int} (h : w.heap[g]? = some (.cells #[.int .i64 ax, .int .i64 ay, .int .i64 bx, .int .i64 by'] t (0, 0))) : Pts w (some ⟨g, 0, none⟩) 2 2 (l2 ax bx) (l2 ay by') :=
  ⟨by omega, by omega, fun _ => ⟨g, 0, rfl, (Array.getElem?_eq_some_iff.1 h).1, fun i hi => by
    match i, hi with
    | 0, _ => exact ⟨blkC h 0 rfl, blkC h 1 rfl⟩
    | 1, _ => exact ⟨blkC h 2 rfl, blkC h 3 rfl⟩⟩⟩
theorem pts3 (w : World) {g : Nat} {t : TypeId} {ax ay bx by' cx cy : Int} (h : w.heap[g]? = some (.cells #[.int .i64 ax, .int .i64 ay, .int .i64 bx, .int .i64 by', .int .i64 cx, .int .i64 cy] t (0, 0))) : Pts w (some ⟨g, 0, none⟩) 3 3 (l3 ax bx cx) (l3 ay by' cy) :=
  ⟨by omega, by omega, fun _ => ⟨g, 0, rfl, (Array.getElem?_eq_some_iff.1 h).1, fun i hi => by
    match i, hi with
    | 0, _ => exact ⟨blkC h 0 rfl, blkC h 1 rfl⟩
    | 1, _ => exact ⟨blkC h 2 rfl, blkC h 3 rfl⟩
    | 2, _ => exact ⟨blkC h 4 rfl, blkC h 5 rfl⟩⟩⟩
theorem pts4 (w : World) {g : Nat} {t : TypeId} {ax ay bx by' cx cy dx dy : Int} (h : w.heap[g]? = some (.cells #[.int .i64 ax, .int .i64 ay, .int .i64 bx, .int .i64 by', .int .i64 cx, .int .i64 cy, .int .i64 dx, .int .i64 dy] t (0, 0))) : Pts w (some ⟨g, 0, none⟩) 4 4 (l4 ax bx cx dx) (l4 ay by' cy dy) :=
  ⟨by omega, by omega, fun _ => ⟨g, 0, rfl, (Array.getElem?_eq_some_iff.1 h).1, fun i hi => by
    match i, hi with
    | 0, _ => exact ⟨blkC h 0 rfl, blkC h 1 rfl⟩
    | 1, _ => exact ⟨blkC h 2 rfl, blkC h 3 rfl⟩
    | 2, _ => exact ⟨blkC h 4 rfl, blkC h 5 rfl⟩
    | 3, _ => exact ⟨blkC h 6 rfl, blkC h 7 rfl⟩⟩⟩
theorem allB2 (P : Int → Int → Bool) (ax ay bx by' : Int) : allB (fun i => P (l2 ax bx i) (l2 ay by' i)) 2 = (P ax ay && P bx by') := by
  rw [allB_succ, allB_succ, allB_zero, Bool.true_and]; rfl
theorem allB3 (P : Int → Int → Bool) (ax ay bx by' cx cy : Int) : allB (fun i => P (l3 ax bx cx i) (l3 ay by' cy i)) 3 = (P ax ay && P bx by' && P cx cy) := by
  rw [allB_succ, allB_succ, allB_succ, allB_zero, Bool.true_and]; rfl
theorem allB4 (P : Int → Int → Bool) (ax ay bx by' cx cy dx dy : Int) : allB (fun i => P (l4 ax bx cx dx i) (l4 ay by' cy dy i)) 4 = (P ax ay && P bx by' && P cx cy && P dx dy) := by
  rw [allB_succ, allB_succ, allB_succ, allB_succ, allB_zero, Bool.true_and]; rfl
theorem rng2 {a b : Int} (ha : rng a) (hb : rng b) (i : Nat) : rng (l2 a b i) := by unfold l2; split <;> assumption
theorem rng3 {a b c : Int} (ha : rng a) (hb : rng b) (hc : rng c) (i : Nat) : rng (l3 a b c i) := by unfold l3; split; assumption; split <;> assumption
theorem rng4 {a b c d : Int} (ha : rng a) (hb : rng b) (hc : rng c) (hd : rng d) (i : Nat) : rng (l4 a b c d i) := by unfold l4; split; assumption; split; assumption; split <;> assumption
/-- Is it a point? -/
def ptok (x y : Int) : Bool := pok x && pok y
set_option maxRecDepth 100000 in
set_option maxHeartbeats 1000000 in
theorem mgood_any (ao : Option Addr) (n cap : Nat) (px py : Nat → Int) (w : World) (h : Pts w ao n cap px py) (hx : ∀ i, rng (px i)) (hy : ∀ i, rng (py i)) :
    Calls Tryz.prog 48 #[.slice ao n cap] w fun x w' => x = .returned (.bool (allB (fun i => ptok (px i) (py i)) n)) ∧ Below w.heap.size w w' := by
  have hl := h.le
  have hm := h.max
  have e0 : errF true = 0 := rfl
  have e1 : errF false = 10 := rfl
  have CC : Hid (∀ i W, Calls Tryz.prog 74 #[.agg #[.int .i64 (px i), .int .i64 (py i)]] W fun e w' => e = .returned (.int .i64 (errF (ptok (px i) (py i)))) ∧ Below W.heap.size W w') := fun i W => pointCheck (hx i) (hy i) W
  clear hx hy
  go_enter Tryz.func48, Tryz.ntmps48
  go_wp2_with fail
  go_loopw [7] (fun i wr => ∃ k : Nat, k ≤ n ∧ i = .int .i64 k ∧ Hid (∀ j, j < k → ptok (px j) (py j) = true) ∧ Below w.heap.size w wr) (fun i _ => n - (intOf i).toNat)
  case atStart => exact ⟨0, Nat.zero_le _, rfl, fun j hj => by omega, bel_refl _⟩
  case round =>
    obtain ⟨k, hk, rfl, HO, hbw⟩ := hrel
    by_cases hlt : k < n
    · obtain ⟨b, off, rfl, hb, hc⟩ := h.spot (by omega)
      have c0 := (hbw.cell (p := ⟨b, off + k * 2, none⟩) hb).trans (hc k hlt).1
      have c1 := (hbw.cell (p := ⟨b, off + k * 2 + 1, none⟩) hb).trans (hc k hlt).2
      have CK : Hid (∀ W, Calls Tryz.prog 74 #[.agg #[.int .i64 (px k), .int .i64 (py k)]] W fun e w' => e = .returned (.int .i64 (errF (ptok (px k) (py k)))) ∧ Below W.heap.size W w') := CC.out k
      have HK : Hid (∀ q : ptok (px k) (py k) = false, false = allB (fun i => ptok (px i) (py i)) n) := fun q => (decide_eq_false fun hx => by have := hx k hlt; simp only at this; rw [this] at q; cases q).symm
      have HY : Hid (ptok (px k) (py k) = true → ∀ j, j < k + 1 → ptok (px j) (py j) = true) := fun q j hj => by
        by_cases e : j = k
        · subst e; exact q
        · exact HO.out j (by omega)
      clear hc
      by_cases hok : ptok (px k) (py k) = true
      · rw [hok, e0] at CK
        replace HY : Hid (∀ j, j < k + 1 → ptok (px j) (py j) = true) := HY.out hok
        clear hok
        go_wp2_with (go_at_call 74; refine (CK.out _).mono ?_; rintro x w1 ⟨rfl, hb1⟩)
        go_roundw
        case rel => exact ⟨k + 1, by omega, by go_num, HY, hbw.trans ((bel_trans (bel_alloc _ _) hb1).mono hbw.size)⟩
        case measure => simp [intOf]; omega
      · have hok' : ptok (px k) (py k) = false := by simpa using hok
        rw [hok', e1] at CK
        replace HK : Hid (false = allB (fun i => ptok (px i) (py i)) n) := HK.out hok'
        clear hok hok' HY
        go_wp2_with (go_at_call 74; refine (CK.out _).mono ?_; rintro x w1 ⟨rfl, hb1⟩)
        go_ret
        exact ⟨ret_bool HK.out, hbw.trans ((bel_trans (bel_alloc _ _) hb1).mono hbw.size)⟩
    · obtain rfl : k = n := by omega
      have HD : Hid (true = allB (fun i => ptok (px i) (py i)) k) := (decide_eq_true HO.out).symm
      go_wp2
      go_ret
      exact ⟨ret_bool HD.out, hbw⟩
set_option maxRecDepth 100000 in
set_option maxHeartbeats 1000000 in
theorem lgood_any (ao : Option Addr) (n cap : Nat) (px py : Nat → Int) (w : World) (h : Pts w ao n cap px py) (hx : ∀ i, rng (px i)) (hy : ∀ i, rng (py i)) :
    Calls Tryz.prog 5 #[.slice ao n cap] w fun x w' => x = .returned (.bool (allB (fun i => ptok (px i) (py i)) n)) ∧ Below w.heap.size w w' := by
  have hl := h.le
  have hm := h.max
  have CC : Hid (∀ i W, Calls Tryz.prog 11 #[.agg #[.int .i64 (px i), .int .i64 (py i)]] W fun e w' => e = .returned (.bool (ptok (px i) (py i))) ∧ Below W.heap.size W w') := fun i W => q_refFinite (hx i) (hy i) W
  clear hx hy
  go_enter Tryz.func5, Tryz.ntmps5
  go_wp2_with fail
  go_loopw [3] (fun i wr => ∃ k : Nat, k ≤ n ∧ i = .int .i64 k ∧ Hid (∀ j, j < k → ptok (px j) (py j) = true) ∧ Below w.heap.size w wr) (fun i _ => n - (intOf i).toNat)
  case atStart => exact ⟨0, Nat.zero_le _, rfl, fun j hj => by omega, bel_refl _⟩
  case round =>
    obtain ⟨k, hk, rfl, HO, hbw⟩ := hrel
    by_cases hlt : k < n
    · obtain ⟨b, off, rfl, hb, hc⟩ := h.spot (by omega)
      have c0 := (hbw.cell (p := ⟨b, off + k * 2, none⟩) hb).trans (hc k hlt).1
      have c1 := (hbw.cell (p := ⟨b, off + k * 2 + 1, none⟩) hb).trans (hc k hlt).2
      have CK : Hid (∀ W, Calls Tryz.prog 11 #[.agg #[.int .i64 (px k), .int .i64 (py k)]] W fun e w' => e = .returned (.bool (ptok (px k) (py k))) ∧ Below W.heap.size W w') := CC.out k
      have HK : Hid (∀ q : ptok (px k) (py k) = false, false = allB (fun i => ptok (px i) (py i)) n) := fun q => (decide_eq_false fun hx => by have := hx k hlt; simp only at this; rw [this] at q; cases q).symm
      have HY : Hid (ptok (px k) (py k) = true → ∀ j, j < k + 1 → ptok (px j) (py j) = true) := fun q j hj => by
        by_cases e : j = k
        · subst e; exact q
        · exact HO.out j (by omega)
      clear hc
      by_cases hok : ptok (px k) (py k) = true
      · rw [hok] at CK
        replace HY : Hid (∀ j, j < k + 1 → ptok (px j) (py j) = true) := HY.out hok
        clear hok
        go_wp2_with (go_at_call 11; refine (CK.out _).mono ?_; rintro x w1 ⟨rfl, hb1⟩)
        go_roundw
        case rel => exact ⟨k + 1, by omega, by go_num, HY, hbw.trans (hb1.mono hbw.size)⟩
        case measure => simp [intOf]; omega
      · have hok' : ptok (px k) (py k) = false := by simpa using hok
        rw [hok'] at CK
        replace HK : Hid (false = allB (fun i => ptok (px i) (py i)) n) := HK.out hok'
        clear hok hok' HY
        go_wp2_with (go_at_call 11; refine (CK.out _).mono ?_; rintro x w1 ⟨rfl, hb1⟩)
        go_ret
        exact ⟨ret_bool HK.out, hbw.trans (hb1.mono hbw.size)⟩
    · obtain rfl : k = n := by omega
      have HD : Hid (true = allB (fun i => ptok (px i) (py i)) k) := (decide_eq_true HO.out).symm
      go_wp2
      go_ret
      exact ⟨ret_bool HD.out, hbw⟩
end Go.Proofs.YtcpjdgfnblkfpaaGreatDoor
