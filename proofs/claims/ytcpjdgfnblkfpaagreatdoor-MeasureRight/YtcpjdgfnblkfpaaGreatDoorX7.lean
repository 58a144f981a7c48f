/-
  Package expansion: gather, grown, sum, by their contracts.
-/
import Derived.Test.YtcpjdgfnblkfpaaGreatDoorX6
namespace Go.Proofs.YtcpjdgfnblkfpaaGreatDoor
open Go Go.RowKit Go.Proofs.YtcpjdgfnblkfpaaGreatDoor.M
set_option linter.unusedSimpArgs false
set_option linter.unusedVariables false

/-- own: a copy in new memory. -/
theorem xown_any {ao : Option Addr} {n cap : Nat} {d : Nat → Int} (w : World) (h : Row w ao n cap d) (hn : n ≤ 700000) :
    Calls Tryz.prog 83 #[.slice ao n cap] w fun e w' => ∃ v', e = .returned v' ∧ LsO w.heap.size w' v' ⟨n, d⟩ ∧ w.grownBy w' none := by
  cases ao with
  | none =>
    have hc := h.nl rfl
    have hl := h.le
    subst hc
    obtain rfl : n = 0 := by omega
    refine (xown_nil w).mono ?_
    rintro e w' ⟨rfl, rfl⟩
    exact ⟨_, rfl, .inl (Out.nil _ _ _), World.grownBy.refl _ _⟩
  | some ad =>
    by_cases h0 : n = 0
    · subst h0
      refine (xown_zero ad cap h.max w).mono ?_
      rintro e w' ⟨⟨ad', rfl⟩, rfl⟩
      exact ⟨_, rfl, .inr ⟨rfl, ad', rfl⟩, World.grownBy.refl _ _⟩
    · refine (xown_some w h (by omega) hn).mono ?_
      rintro e w' ⟨v', rfl, h1, h2⟩
      exact ⟨v', rfl, .inl h1, h2⟩
theorem gaS_succ (s : Ls) (f : Nat → Int) (k : Nat) : gaS s f (k + 1) = grw (gaS s f k).n (gaS s f k).d (f k) := rfl
theorem gaX_succ (s : Ls) (f : Nat → Int) (k : Nat) : gaX s f (k + 1) = (gaX s f k && gx (gaS s f k).d (f k) (gaS s f k).n) := rfl
theorem LsO.shape {B : Nat} {w : World} {v : Value} {s : Ls} (h : LsO B w v s) : ∃ ao cap, v = .slice ao s.n cap := by
  rcases h with h | ⟨h0, ad, rfl⟩
  · obtain ⟨ao, cap, e, _⟩ := h.row
    exact ⟨ao, cap, e⟩
  · exact ⟨some ad, 0, by rw [h0]⟩
set_option maxRecDepth 100000 in
set_option maxHeartbeats 400000 in
/-- gather, of a list f that lies below B. -/
theorem xgather_any {B : Nat} {v : Value} {s : Ls} {fo : Option Addr} {m fc : Nat} {f : Nat → Int} (w : World) (h : LsO B w v s) (hs : s.fin) (hf : ∀ W, Below B w W → Row W fo m fc f) (hff : ∀ i, i < m → rng (f i) ∧ pok (f i) = true) (hn : s.n + m ≤ 700000) (hB : B ≤ w.heap.size) :
    Calls Tryz.prog 82 #[v, .slice fo m fc] w fun e w' => (gaX s f m = true ∧ ∃ v', e = .returned v' ∧ LsO B w' v' (gaS s f m) ∧ Below B w w') ∨ (gaX s f m = false ∧ e = gaveX ∧ Below B w w') := by
  have hR := hf w (Below.refl _ _)
  have hle := hR.le
  have hmx := hR.max
  have HF : Hid (∀ W, Below B w W → Row W fo m fc f) := hf
  have HFF : Hid (∀ i, i < m → rng (f i) ∧ pok (f i) = true) := hff
  have HFI : Hid (∀ k, k ≤ m → gaX s f k = true → (gaS s f k).fin) := gaS_fin hs hff
  have hL := gaS_le s f
  obtain ⟨ao0, cap0, rfl⟩ := h.shape
  clear hf hff hR hs
  go_enter Tryz.func82, Tryz.ntmps82
  go_wp2_with fail
  go_loopw [0, 9] (fun hv iv wr => ∃ (k : Nat) (v0 : Value), k ≤ m ∧ iv = .int .i64 k ∧ hv = v0 ∧ Hid (gaX s f k = true) ∧ Hid (LsO B wr v0 (gaS s f k)) ∧ Hid (Below B w wr)) (fun _ iv _ => m - (intOf iv).toNat)
  case atStart => exact ⟨0, _, Nat.zero_le _, rfl, rfl, rfl, h, Below.refl _ _⟩
  case round =>
    obtain ⟨k, hv, hk, rfl, hve, HX, HL, HBW⟩ := hrel
    replace hve := hve.symm
    subst hve
    clear h
    have hLk := hL k
    by_cases hlt : k < m
    · obtain ⟨b, off, rfl, hbb, hc⟩ := (HF.out _ HBW.out).spot (by omega)
      have c0 := hc k hlt
      clear hc
      obtain ⟨d1, d2⟩ := HFF.out k hlt
      have hwr : B ≤ wr.heap.size := Nat.le_trans hB HBW.out.size
      have CG : Hid (∀ W, W = wr → Calls Tryz.prog 112 #[hv, .int .i64 (f k)] W fun e w' => (gaX s f (k + 1) = true ∧ ∃ v', e = .returned v' ∧ LsO B w' v' (gaS s f (k + 1)) ∧ Below B W w') ∨ (gaX s f m = false ∧ e = gaveX ∧ Below B W w')) := fun W hW => by
        subst hW
        rw [gaS_succ, gaX_succ]
        refine (xgrow_L W HL.out (HFI.out k hk HX.out) d1 d2 (by omega) hwr).mono ?_
        rintro e w' (⟨h1, v', h2, h3, h4⟩ | ⟨h1, h2, h3⟩)
        · exact .inl ⟨by rw [HX.out, h1]; rfl, v', h2, h3, h4.below hwr⟩
        · refine .inr ⟨?_, h2, h3.below hwr⟩
          cases hx : gaX s f m
          · rfl
          · have := gaX_mono (show k + 1 ≤ m by omega) hx
            rw [gaX_succ, h1, Bool.and_false] at this
            cases this
      generalize f k = fk at *
      have i0 : (0 : Int) ≤ (k : Int) := by omega
      have i1 : (k : Int) < (m : Int) := by omega
      go_wp2_with fail
      refine (CG.out _ rfl).mono ?_
      rintro _ w1 (⟨h1, v', rfl, h3, h4⟩ | ⟨h1, rfl, h3⟩)
      · go_wp2
        go_roundw
        case rel => exact ⟨k + 1, _, by omega, by go_num, rfl, h1, h3, HBW.out.trans h4⟩
        case measure => simp [intOf]; omega
      · unfold gaveX
        go_wp2
        exact ⟨rfl, .inr ⟨h1, rfl, HBW.out.trans h3⟩⟩
    · obtain rfl : k = m := by omega
      go_wp2
      go_ret
      exact .inl ⟨HX.out, _, rfl, HL.out, HBW.out⟩
end Go.Proofs.YtcpjdgfnblkfpaaGreatDoor
