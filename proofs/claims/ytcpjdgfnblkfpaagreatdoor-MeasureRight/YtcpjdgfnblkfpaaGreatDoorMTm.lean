/-
  Lists of points: are all coordinates tame? measure.tame, plumbref9.Tames, by their contracts.
-/
import Derived.Test.YtcpjdgfnblkfpaaGreatDoorMPt
namespace Go.Proofs.YtcpjdgfnblkfpaaGreatDoor
open Go Go.RowKit Go.Proofs.YtcpjdgfnblkfpaaGreatDoor.M
set_option linter.unusedSimpArgs false
set_option linter.unusedVariables false

def pttame (x y : Int) : Bool := tame x && tame y
theorem tame_pok {x : Int} (hx : rng x) (h : tame x = true) : pok x = true := by
  rw [tame_fld hx] at h
  cases hp : pok x
  · have hf : fld x = 2047 := by simpa [pok] using hp
    rw [hf] at h
    have h0 : rg x = 0 := by
      by_cases e : rg x = 0
      · exact e
      · simp [e] at h
    have := pok_rg' hx
    rw [h0] at this
    rw [hp] at this
    simp at this
  · rfl
theorem tame_ok {x y : Int} (hx : rng x) (hy : rng y) (h : pttame x y = true) : ptok x y = true := by
  unfold pttame at h
  unfold ptok
  rw [Bool.and_eq_true] at h
  rw [tame_pok hx h.1, tame_pok hy h.2]; rfl
set_option maxRecDepth 100000 in
set_option maxHeartbeats 1000000 in
theorem mtame_any (ao : Option Addr) (n cap : Nat) (px py : Nat → Int) (w : World) (h : Pts w ao n cap px py) (hx : ∀ i, rng (px i)) (hy : ∀ i, rng (py i)) :
    Calls Tryz.prog 46 #[.slice ao n cap] w fun x w' => x = .returned (.bool (allB (fun i => pttame (px i) (py i)) n)) ∧ Below w.heap.size w w' := by
  have hl := h.le
  have hm := h.max
  have CC : Hid (∀ b W, rng b → Calls Tryz.prog 71 #[.int .i64 b] W fun e w' => e = .returned (.bool (tame b)) ∧ w' = W) := fun b W hb => pointTame hb W
  have HX : Hid (∀ i, rng (px i)) := hx
  have HYY : Hid (∀ i, rng (py i)) := hy
  clear hx hy
  go_enter Tryz.func46, Tryz.ntmps46
  go_wp2_with fail
  go_loopw [7] (fun i wr => ∃ k : Nat, k ≤ n ∧ i = .int .i64 k ∧ Hid (∀ j, j < k → pttame (px j) (py j) = true) ∧ Below w.heap.size w wr) (fun i _ => n - (intOf i).toNat)
  case atStart => exact ⟨0, Nat.zero_le _, rfl, fun j hj => by omega, bel_refl _⟩
  case round =>
    obtain ⟨k, hk, rfl, HO, hbw⟩ := hrel
    by_cases hlt : k < n
    · obtain ⟨b, off, rfl, hb, hc⟩ := h.spot (by omega)
      have c0 := (hbw.cell (p := ⟨b, off + k * 2, none⟩) hb).trans (hc k hlt).1
      have c1 := (hbw.cell (p := ⟨b, off + k * 2 + 1, none⟩) hb).trans (hc k hlt).2
      have CX : Hid (∀ W, Calls Tryz.prog 71 #[.int .i64 (px k)] W fun e w' => e = .returned (.bool (tame (px k))) ∧ w' = W) := fun W => CC.out _ W (HX.out k)
      have CY : Hid (∀ W, Calls Tryz.prog 71 #[.int .i64 (py k)] W fun e w' => e = .returned (.bool (tame (py k))) ∧ w' = W) := fun W => CC.out _ W (HYY.out k)
      have HK : Hid (pttame (px k) (py k) = false → false = allB (fun i => pttame (px i) (py i)) n) := fun q => (decide_eq_false fun hx => by have := hx k hlt; simp only at this; rw [this] at q; cases q).symm
      have HY : Hid (pttame (px k) (py k) = true → ∀ j, j < k + 1 → pttame (px j) (py j) = true) := fun q j hj => by
        by_cases e : j = k
        · subst e; exact q
        · exact HO.out j (by omega)
      clear hc
      cases hp : tame (px k)
      · replace HK : Hid (false = allB (fun i => pttame (px i) (py i)) n) := HK.out (by unfold pttame; rw [hp]; rfl)
        rw [hp] at CX
        clear hp
        cases hq : tame (py k)
        · rw [hq] at CY
          clear hq
          clear HY
          (go_wp2_with fail; refine (CX.out _).mono ?_; rintro _ wz ⟨rfl, hwz⟩; replace hwz := hwz.symm; subst hwz; go_wp2)
          go_ret
          exact ⟨ret_bool HK.out, hbw.trans ((bel_alloc _ _).mono hbw.size)⟩
        · rw [hq] at CY
          clear hq
          clear HY
          (go_wp2_with fail; refine (CX.out _).mono ?_; rintro _ wz ⟨rfl, hwz⟩; replace hwz := hwz.symm; subst hwz; go_wp2)
          go_ret
          exact ⟨ret_bool HK.out, hbw.trans ((bel_alloc _ _).mono hbw.size)⟩
      · rw [hp] at CX
        cases hq : tame (py k)
        · replace HK : Hid (false = allB (fun i => pttame (px i) (py i)) n) := HK.out (by unfold pttame; rw [hp, hq]; rfl)
          rw [hq] at CY
          clear hp hq
          clear HY
          (go_wp2_with fail; refine (CX.out _).mono ?_; rintro _ wz ⟨rfl, hwz⟩; replace hwz := hwz.symm; subst hwz; go_wp2_with fail; refine (CY.out _).mono ?_; rintro _ wz ⟨rfl, hwz⟩; replace hwz := hwz.symm; subst hwz; go_wp2)
          go_ret
          exact ⟨ret_bool HK.out, hbw.trans ((bel_alloc _ _).mono hbw.size)⟩
        · replace HY : Hid (∀ j, j < k + 1 → pttame (px j) (py j) = true) := HY.out (by unfold pttame; rw [hp, hq]; rfl)
          rw [hq] at CY
          clear hp hq HK
          (go_wp2_with fail; refine (CX.out _).mono ?_; rintro _ wz ⟨rfl, hwz⟩; replace hwz := hwz.symm; subst hwz; go_wp2_with fail; refine (CY.out _).mono ?_; rintro _ wz ⟨rfl, hwz⟩; replace hwz := hwz.symm; subst hwz; go_wp2)
          go_roundw
          case rel => exact ⟨k + 1, by omega, by go_num, HY, hbw.trans ((bel_alloc _ _).mono hbw.size)⟩
          case measure => simp [intOf]; omega
    · obtain rfl : k = n := by omega
      have HD : Hid (true = allB (fun i => pttame (px i) (py i)) k) := (decide_eq_true HO.out).symm
      go_wp2
      go_ret
      exact ⟨ret_bool HD.out, hbw⟩
end Go.Proofs.YtcpjdgfnblkfpaaGreatDoor
