/-
  Package point: finite, checked, Check, CheckSpace, placeOf, order, Cmp, Same, Tame, by their contracts.
-/
import Derived.Test.YtbljcodhcodmkaaDoorQM
import Derived.Test.YtbljcodhcodmkaaDoorFloats
import Derived.Test.YtbljcodhcodmkaaDoorNRow
import Derived.Test.YtbljcodhcodmkaaDoorNWr
import Derived.Test.YtbljcodhcodmkaaDoorDTold
import Derived.Deep.RegionHeld3
namespace Go.Proofs.YtbljcodhcodmkaaDoor
open Go Go.RowKit Go.Proofs.YtbljcodhcodmkaaDoor.M
set_option linter.unusedSimpArgs false
set_option linter.unusedVariables false

theorem mathAbs {b : Int} (hb : rng b) (w : World) :
    Calls Tryd.prog 32 #[.float .f64 (wd b)] w fun e w' => e = .returned (.float .f64 (wd (rg b))) ∧ w' = w := by
  have h1 := run_bits64
  have h2 := run_from64
  go_enter Tryd.func32, Tryd.ntmps32
  go_wp2
  go_ret
  exact ⟨ret_float (q_abs hb), rfl⟩
theorem q_finite {b : Int} (hb : rng b) (w : World) :
    Calls Tryd.prog 28 #[.float .f64 (wd b)] w fun e w' => e = .returned (.bool (pok b)) ∧ w' = w := by
  have n0 := no64 hb
  obtain ⟨r1, r2⟩ := q_rg hb
  by_cases h4 : cls b = 4
  · have n1 : (FloatKind.f64.format.order (wd b) (wd b) != some .eq) = true := by rw [n0]; simp [h4]
    have hp : pok b = false := by
      cases h : pok b
      · rfl
      · exact absurd h4 (q_fin h)
    clear n0
    go_enter Tryd.func28, Tryd.ntmps28
    go_wp2
    go_ret
    exact ⟨b_ret_bool hp.symm, rfl⟩
  · have n1 : (FloatKind.f64.format.order (wd b) (wd b) != some .eq) = false := by rw [n0]; simp [h4]
    have c1 : ¬ cls (rg b) = 4 := by rw [q_cls hb]; exact h4
    have c2 : ¬ cls 9218868437227405311 = 4 := by decide
    have r3 : rng 9218868437227405311 := by unfold rng; omega
    have k1 := q_key r2
    have k2 : key 9218868437227405311 = 9218868437227405311 := by decide
    have e2 : wd 9218868437227405311 = 9218868437227405311 := by decide
    have hp := pok_rg' hb
    clear n0
    rcases Int.lt_trichotomy (rg b) 9218868437227405311 with h | h | h
    · have o := q_lt r1 r3 c1 c2 (by rw [k1, k2]; exact h)
      rw [e2] at o
      have hp' : pok b = true := by rw [hp]; simp; omega
      clear hp
      go_enter Tryd.func28, Tryd.ntmps28
      go_wp2_with (go_at_call 32; refine (mathAbs hb _).mono ?_; rintro _ _ ⟨rfl, rfl⟩)
      go_ret
      exact ⟨b_ret_bool hp'.symm, rfl⟩
    · have o := q_eq r1 r3 c1 c2 (by rw [k1, k2]; exact h)
      rw [e2] at o
      have hp' : pok b = true := by rw [hp]; simp; omega
      clear hp
      go_enter Tryd.func28, Tryd.ntmps28
      go_wp2_with (go_at_call 32; refine (mathAbs hb _).mono ?_; rintro _ _ ⟨rfl, rfl⟩)
      go_ret
      exact ⟨b_ret_bool hp'.symm, rfl⟩
    · have o := q_gt r1 r3 c1 c2 (by rw [k1, k2]; exact h)
      rw [e2] at o
      have hp' : pok b = false := by rw [hp]; simp; omega
      clear hp
      go_enter Tryd.func28, Tryd.ntmps28
      go_wp2_with (go_at_call 32; refine (mathAbs hb _).mono ?_; rintro _ _ ⟨rfl, rfl⟩)
      go_ret
      exact ⟨b_ret_bool hp'.symm, rfl⟩
theorem q_two_set {p B g o : Nat} {v x0 x1 : Value} {W : World} (hg : B ≤ g) (h : p < B ∧ B ≤ W.heap.size ∧ W.cell? ⟨p, 0, none⟩ = some x0 ∧ W.cell? ⟨p, 1, none⟩ = some x1) :
    p < B ∧ B ≤ (W.setCell ⟨g, o, none⟩ v).heap.size ∧ (W.setCell ⟨g, o, none⟩ v).cell? ⟨p, 0, none⟩ = some x0 ∧ (W.setCell ⟨g, o, none⟩ v).cell? ⟨p, 1, none⟩ = some x1 := by
  have hw : Wr g W (W.setCell ⟨g, o, none⟩ v) := (Wr.refl g W).setCell o v
  obtain ⟨h1, h2, a0, a1⟩ := h
  have hp : p < W.heap.size := by omega
  have hne : p ≠ g := by omega
  exact ⟨h1, Nat.le_trans h2 hw.size, (hw.cell hp hne).trans a0, (hw.cell hp hne).trans a1⟩
theorem q_heap_set {w : World} {g : Nat} {xs : Array Value} {t : TypeId} (h : w.heap[g]? = some (.cells xs t (0, 0))) (i : Nat) (v : Value) : (w.setCell ⟨g, i, none⟩ v).heap[g]? = some (.cells (xs.setIfInBounds i v) t (0, 0)) := by
  simp [World.setCell, Array.getElem?_modify, h]
/-- OK or ErrFinite -/
def errF (b : Bool) : Int := if b then 0 else 10
/-- Are all finite? -/
def allFin (d : Nat → Int) (n : Nat) : Bool := decide (∀ i, i < n → pok (d i) = true)
set_option maxRecDepth 100000 in
theorem q_checked (ao : Option Addr) (n cap : Nat) (d : Nat → Int) (w : World) (h : Row w ao n cap d) (hd : ∀ i, i < n → rng (d i)) :
    Calls Tryd.prog 21 #[.slice ao n cap] w fun e w' => e = .returned (.int .i64 (errF (allFin d n))) ∧ w' = w := by
  have hl := h.le
  have hm := h.max
  go_enter Tryd.func21, Tryd.ntmps21
  go_wp2_with fail
  go_loop [7] (fun i => ∃ k : Nat, k ≤ n ∧ i = .int .i64 k ∧ Hid (∀ j, j < k → pok (d j) = true)) (fun i => n - (intOf i).toNat)
  case atStart => exact ⟨0, Nat.zero_le _, rfl, fun j hj => by omega⟩
  case round =>
    obtain ⟨k, hk, rfl, HO⟩ := hrel
    by_cases hlt : k < n
    · obtain ⟨b, off, rfl, hb, hc⟩ := h.spot (by omega)
      have c0 := hc k hlt
      have hr := hd k hlt
      by_cases hok : pok (d k) = true
      · go_wp2_with (first
          | (go_at_call 29; refine (bitsFloat _ _).mono ?_; rintro _ _ ⟨rfl, rfl⟩)
          | (go_at_call 28; refine (q_finite hr _).mono ?_; rintro _ _ ⟨rfl, rfl⟩))
        go_round
        case rel => exact ⟨k + 1, by omega, by go_num, fun j hj => by
            by_cases e : j = k
            · subst e; exact hok
            · exact HO.out j (by omega)⟩
        case measure => simp [intOf]; omega
      · have hok' : pok (d k) = false := by simpa using hok
        go_wp2_with (first
          | (go_at_call 29; refine (bitsFloat _ _).mono ?_; rintro _ _ ⟨rfl, rfl⟩)
          | (go_at_call 28; refine (q_finite hr _).mono ?_; rintro _ _ ⟨rfl, rfl⟩))
        go_ret
        exact ⟨b_ret_int (by
          unfold errF
          rw [if_neg]
          intro hx
          exact hok (of_decide_eq_true hx k hlt)), rfl⟩
    · obtain rfl : k = n := by omega
      go_wp2
      go_ret
      exact ⟨b_ret_int (by unfold errF; rw [if_pos (show allFin d k = true from decide_eq_true HO.out)]), rfl⟩
theorem allFin2 (x y : Int) : allFin (fun i => if i = 0 then x else y) 2 = (pok x && pok y) := by
  unfold allFin
  rw [Bool.eq_iff_iff]
  simp
  constructor
  · intro h
    exact ⟨by simpa using h 0 (by omega), by simpa using h 1 (by omega)⟩
  · rintro ⟨h1, h2⟩ i hi
    split
    · exact h1
    · exact h2
theorem q_row2 (w : World) (o : Obj) (x y : Int) (t : TypeId) : Row ((w.alloc o).alloc (.cells #[.int .i64 x, .int .i64 y] t)) (some ⟨w.heap.size + 1, 0, none⟩) 2 2 (fun i => if i = 0 then x else y) :=
  ⟨by omega, by omega, (fun h => by cases h), fun _ => ⟨_, _, rfl, by simp, fun i hi => by
    have e : ((w.alloc o).alloc (.cells #[.int .i64 x, .int .i64 y] t)).heap[w.heap.size + 1]? = some (.cells #[.int .i64 x, .int .i64 y] t) := heap_b2 w o _
    unfold World.cell?
    rw [show ((⟨w.heap.size + 1, 0 + i, none⟩ : Addr)).block = w.heap.size + 1 from rfl, e]
    match i, hi with
    | 0, _ => rfl
    | 1, _ => rfl⟩⟩
set_option maxRecDepth 100000 in
theorem pointCheck {x y : Int} (hx : rng x) (hy : rng y) (w : World) :
    Calls Tryd.prog 10 #[.agg #[.int .i64 x, .int .i64 y]] w fun e w' => e = .returned (.int .i64 (errF (pok x && pok y))) ∧ Below w.heap.size w w' := by
  have hr := q_row2 w (.cells #[.int .i64 x, .int .i64 y] 31) x y 3
  have e2 := allFin2 x y
  go_enter Tryd.func10, Tryd.ntmps10
  go_wp2_with fail
  refine (q_checked _ _ _ _ _ hr (fun i _ => by show rng (if i = 0 then x else y); split <;> assumption)).mono ?_
  rintro _ _ ⟨rfl, rfl⟩
  go_wp2
  go_ret
  exact ⟨b_ret_int (by rw [← e2]), bel_alloc2 _ _ _⟩
end Go.Proofs.YtbljcodhcodmkaaDoor
