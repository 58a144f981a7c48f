/-
  Package expansion: gather, with blocks that stay, by their contracts.
-/
import Derived.Test.YtcpjdgfnblkfpaaGreatDoorXP
namespace Go.Proofs.YtcpjdgfnblkfpaaGreatDoor
open Go Go.RowKit Go.Proofs.YtcpjdgfnblkfpaaGreatDoor.M
set_option linter.unusedSimpArgs false
set_option linter.unusedVariables false

set_option maxRecDepth 100000 in
set_option maxHeartbeats 400000 in
/-- gather, of a list f that lies below B. -/
theorem xgatherP {P : Nat → Prop} {v : Value} {s : Ls} {fo : Option Addr} {m fc : Nat} {f : Nat → Int} (w : World) (h : OutP P w v s) (hs : s.fin) (hf : ∀ W, BelP P w W → Row W fo m fc f) (hff : ∀ i, i < m → rng (f i) ∧ pok (f i) = true) (hn : s.n + m ≤ 700000) (hB : PB P w) :
    Calls Tryz.prog 82 #[v, .slice fo m fc] w fun e w' => (gaX s f m = true ∧ ∃ v', e = .returned v' ∧ OutP P w' v' (gaS s f m) ∧ BelP P w w') ∨ (gaX s f m = false ∧ e = gaveX ∧ BelP P w w') := by
  have hR := hf w (BelP.refl _ _)
  have hle := hR.le
  have hmx := hR.max
  have HF : Hid (∀ W, BelP P w W → Row W fo m fc f) := hf
  have HFF : Hid (∀ i, i < m → rng (f i) ∧ pok (f i) = true) := hff
  have HFI : Hid (∀ k, k ≤ m → gaX s f k = true → (gaS s f k).fin) := gaS_fin hs hff
  have hL := gaS_le s f
  obtain ⟨ao0, cap0, rfl⟩ := h.shape
  clear hf hff hR hs
  go_enter Tryz.func82, Tryz.ntmps82
  go_wp2_with fail
  go_loopw [0, 9] (fun hv iv wr => ∃ (k : Nat) (v0 : Value), k ≤ m ∧ iv = .int .i64 k ∧ hv = v0 ∧ Hid (gaX s f k = true) ∧ Hid (OutP P wr v0 (gaS s f k)) ∧ Hid (BelP P w wr)) (fun _ iv _ => m - (intOf iv).toNat)
  case atStart => exact ⟨0, _, Nat.zero_le _, rfl, rfl, rfl, h, BelP.refl _ _⟩
  case round =>
    obtain ⟨k, hv, hk, rfl, hve, HX, HL, HBW⟩ := hrel
    replace hve := hve.symm
    subst hve
    clear h
    have hLk := hL k
    by_cases hlt : k < m
    · obtain ⟨b, off, rfl, hbb, hc⟩ := (HF.out _ HBW.out).spot (by omega)
      have c0 := hc k hlt
      clear hc
      obtain ⟨d1, d2⟩ := HFF.out k hlt
      have hwr : PB P wr := PB.le hB HBW.out.size
      have CG : Hid (∀ W, W = wr → Calls Tryz.prog 112 #[hv, .int .i64 (f k)] W fun e w' => (gaX s f (k + 1) = true ∧ ∃ v', e = .returned v' ∧ OutP P w' v' (gaS s f (k + 1)) ∧ BelP P W w') ∨ (gaX s f m = false ∧ e = gaveX ∧ BelP P W w')) := fun W hW => by
        subst hW
        rw [gaS_succ, gaX_succ]
        refine (xgrowP W HL.out (HFI.out k hk HX.out) d1 d2 (by omega) hwr).mono ?_
        rintro e w' (⟨h1, v', h2, h3, h4⟩ | ⟨h1, h2, h3⟩)
        · exact .inl ⟨by rw [HX.out, h1]; rfl, v', h2, h3, h4⟩
        · refine .inr ⟨?_, h2, h3⟩
          cases hx : gaX s f m
          · rfl
          · have := gaX_mono (show k + 1 ≤ m by omega) hx
            rw [gaX_succ, h1, Bool.and_false] at this
            cases this
      generalize f k = fk at *
      have i0 : (0 : Int) ≤ (k : Int) := by omega
      have i1 : (k : Int) < (m : Int) := by omega
      go_wp2_with fail
      refine (CG.out _ rfl).mono ?_
      rintro _ w1 (⟨h1, v', rfl, h3, h4⟩ | ⟨h1, rfl, h3⟩)
      · go_wp2
        go_roundw
        case rel => exact ⟨k + 1, _, by omega, by go_num, rfl, h1, h3, HBW.out.trans h4⟩
        case measure => simp [intOf]; omega
      · unfold gaveX
        go_wp2
        exact ⟨rfl, .inr ⟨h1, rfl, HBW.out.trans h3⟩⟩
    · obtain rfl : k = m := by omega
      go_wp2
      go_ret
      exact .inl ⟨HX.out, _, rfl, HL.out, HBW.out⟩
end Go.Proofs.YtcpjdgfnblkfpaaGreatDoor
