/-
  Parts of the proof, one behind another.
-/
import Derived.Test.YtjlmpgbadgkgmaaGreatDoorPart27
import Derived.Test.YtjlmpgbadgkgmaaGreatDoorPart13
import Derived.Test.YtjlmpgbadgkgmaaGreatDoorPart12
import Derived.Test.YtjlmpgbadgkgmaaGreatDoorPart26
import Derived.Test.YtjlmpgbadgkgmaaGreatDoorPart6
/-
  Package expansion: difference, product, by their contracts.
-/
namespace Go.Proofs.YtjlmpgbadgkgmaaGreatDoor
open Go Go.RowKit Go.Proofs.YtjlmpgbadgkgmaaGreatDoor.M
set_option linter.unusedSimpArgs false
set_option linter.unusedVariables false

/-- scale, behind an empty list of the call's own. -/
theorem xscaleP_any {P : Nat → Prop} {v : Value} {d0 : Nat → Int} {eo : Option Addr} {n ec : Nat} {d : Nat → Int} {b : Int} (w : World) (h : OutP P w v ⟨0, d0⟩) (hE : ∀ W, BelP P w W → Row W eo n ec d) (hd : ∀ i, i < n → rng (d i) ∧ pok (d i) = true) (hb : rng b) (pb : pok b = true) (hn : n ≤ 300000) (hP : PB P w) (H : ∀ W, BelP P w W → Hold4 W) :
    Calls Tryz.prog 51 #[v, .slice eo n ec, .int .i64 b] w fun e w' => (sxN d b n = true ∧ ∃ (v' : Value) (s : Ls), e = .returned v' ∧ OutP P w' v' s ∧ s.same (sclN d b n) ∧ BelP P w w') ∨ (sxN d b n = false ∧ e = gaveX ∧ BelP P w w') := by
  have hmx := (hE w (BelP.refl _ _)).max
  have hle := (hE w (BelP.refl _ _)).le
  cases n with
  | zero =>
    refine (xscale_empty w).mono ?_
    rintro e w' ⟨rfl, hw⟩
    subst hw
    exact .inl ⟨rfl, v, _, rfl, h, ⟨rfl, fun i hi => absurd hi (Nat.not_lt_zero _)⟩, BelP.refl _ _⟩
  | succ n =>
    by_cases h0 : rg b = 0
    · have e1 : sxN d b (n + 1) = true := if_pos h0
      have e2 : sclN d b (n + 1) = ⟨0, fun _ => 0⟩ := if_pos h0
      rw [e1, e2]
      refine (xscale_nought w hb h0 (by omega)).mono ?_
      rintro e w' ⟨rfl, hw⟩
      subst hw
      exact .inl ⟨rfl, v, _, rfl, h, ⟨rfl, fun i hi => absurd hi (Nat.not_lt_zero _)⟩, BelP.refl _ _⟩
    · have e1 : sxN d b (n + 1) = sx d b n := if_neg h0
      have e2 : sclN d b (n + 1) = scl ⟨0, fun _ => 0⟩ d b n := if_neg h0
      rw [e1, e2]
      refine (xscaleP w h hE (fun i hi => hd i (by omega)) hb pb h0 (show 0 + 2 * n ≤ 700000 by omega) hP H).mono ?_
      rintro e w' (⟨h1, v', h2, h3, h4⟩ | ⟨h1, h2, h3⟩)
      · refine .inl ⟨h1, v', _, h2, h3, ?_, h4⟩
        exact (ss_same (s := ⟨0, d0⟩) (t := ⟨0, fun _ => 0⟩) ⟨rfl, fun i hi => absurd hi (Nat.not_lt_zero _)⟩ d b n).add _
      · exact .inr ⟨h1, h2, h3⟩
/-- Product: the list so far; were all exact? -/
def prS (d : Nat → Int) (n : Nat) (f : Nat → Int) : Nat → Ls
  | 0 => ⟨0, fun _ => 0⟩
  | k + 1 => gaS (prS d n f k) (sclN d (f k) n).d (sclN d (f k) n).n
def prX (d : Nat → Int) (n : Nat) (f : Nat → Int) : Nat → Bool
  | 0 => true
  | k + 1 => prX d n f k && (sxN d (f k) n && gaX (prS d n f k) (sclN d (f k) n).d (sclN d (f k) n).n)
theorem prS_succ (d : Nat → Int) (n : Nat) (f : Nat → Int) (k : Nat) : prS d n f (k + 1) = gaS (prS d n f k) (sclN d (f k) n).d (sclN d (f k) n).n := rfl
theorem prX_succ (d : Nat → Int) (n : Nat) (f : Nat → Int) (k : Nat) : prX d n f (k + 1) = (prX d n f k && (sxN d (f k) n && gaX (prS d n f k) (sclN d (f k) n).d (sclN d (f k) n).n)) := rfl
theorem prS_le (d : Nat → Int) (n : Nat) (f : Nat → Int) : ∀ k, (prS d n f k).n ≤ 2 * n * k
  | 0 => Nat.zero_le _
  | k + 1 => by
    have h1 := prS_le d n f k
    have h2 := gaS_le (prS d n f k) (sclN d (f k) n).d (sclN d (f k) n).n
    have h3 := sclN_le d (f k) n
    rw [prS_succ, Nat.mul_add]
    omega
theorem prX_mono {d : Nat → Int} {n : Nat} {f : Nat → Int} : ∀ {k j}, j ≤ k → prX d n f k = true → prX d n f j = true
  | 0, j, h, hx => by
    obtain rfl : j = 0 := by omega
    rfl
  | k + 1, j, h, hx => by
    by_cases e : j = k + 1
    · subst e; exact hx
    · rw [prX_succ, Bool.and_eq_true] at hx
      exact prX_mono (by omega) hx.1
theorem ss_fin {s : Ls} {d : Nat → Int} {b : Int} {n : Nat} (hs : s.fin) (hd : ∀ i, i ≤ n → rng (d i) ∧ pok (d i) = true) (hb : rng b) : ∀ k, k ≤ n → sx d b k = true → (ss s d b k).fin
  | 0, _, hx => hs.add (prL_rng (hd 0 (by omega)).1 hb) (pX_fin (hd 0 (by omega)).1 hb hx).2
  | k + 1, hk, hx => by
    rw [sx_succ, Bool.and_eq_true, Bool.and_eq_true, Bool.and_eq_true] at hx
    obtain ⟨h1, h2, h3, h4⟩ := hx
    obtain ⟨r1, r2⟩ := sq_fin hd hb k (by omega) h1
    obtain ⟨d1, d2⟩ := hd (k + 1) hk
    rw [ss_succ]
    exact ((ss_fin hs hd hb k (by omega) h1).add (sL_rng r1 (prL_rng d1 hb)) h3).add (fL_rng (fprod_rng d1 hb) (fsum_rng r1 (prL_rng d1 hb))) (fX_fin (fprod_rng d1 hb) (fsum_rng r1 (prL_rng d1 hb)) h4).2
theorem sclN_fin {d : Nat → Int} {b : Int} {n : Nat} (hd : ∀ i, i < n → rng (d i) ∧ pok (d i) = true) (hb : rng b) (hx : sxN d b n = true) : (sclN d b n).fin := by
  cases n with
  | zero => exact fun i hi => absurd hi (Nat.not_lt_zero _)
  | succ n =>
    by_cases h0 : rg b = 0
    · have e2 : sclN d b (n + 1) = ⟨0, fun _ => 0⟩ := if_pos h0
      rw [e2]
      exact fun i hi => absurd hi (Nat.not_lt_zero _)
    · have e1 : sxN d b (n + 1) = sx d b n := if_neg h0
      have e2 : sclN d b (n + 1) = scl ⟨0, fun _ => 0⟩ d b n := if_neg h0
      rw [e1] at hx
      rw [e2]
      have hd' : ∀ i, i ≤ n → rng (d i) ∧ pok (d i) = true := fun i hi => hd i (by omega)
      obtain ⟨r1, r2⟩ := sq_fin hd' hb n (Nat.le_refl _) hx
      exact (ss_fin (fun i hi => absurd hi (Nat.not_lt_zero _)) hd' hb n (Nat.le_refl _) hx).add r1 r2
theorem prS_fin {d : Nat → Int} {n : Nat} {f : Nat → Int} {m : Nat} (hd : ∀ i, i < n → rng (d i) ∧ pok (d i) = true) (hf : ∀ i, i < m → rng (f i) ∧ pok (f i) = true) : ∀ k, k ≤ m → prX d n f k = true → (prS d n f k).fin
  | 0, _, _ => fun i hi => absurd hi (Nat.not_lt_zero _)
  | k + 1, hk, hx => by
    rw [prX_succ, Bool.and_eq_true, Bool.and_eq_true] at hx
    obtain ⟨h1, h2, h3⟩ := hx
    rw [prS_succ]
    exact gaS_fin (prS_fin hd hf k (by omega) h1) (sclN_fin hd (hf k (by omega)).1 h2) _ (Nat.le_refl _) h3
theorem Ls.same.fin {s t : Ls} (h : s.same t) (ht : t.fin) : s.fin := fun i hi => by
  rw [h.2 i hi]
  exact ht i (by rw [← h.1]; exact hi)
theorem BelP.below {P : Nat → Prop} {N : Nat} {w w' : World} (h : BelP P w w') (hP : ∀ k, k < N → P k) : Below N w w' := ⟨h.os, h.tape, h.output, h.size, fun k hk => h.block k (hP k hk)⟩
theorem Out.belP {P : Nat → Prop} {N : Nat} {w w' : World} {v : Value} {n : Nat} {d : Nat → Int} (h : Out N w v n d) (hb : BelP P w w') (hP : ∀ g, v.ownBlock = some g → P g) : Out N w' v n d := h.of_block fun g hg => hb.block g (hP g hg)
theorem OutP.raise {P : Nat → Prop} {N : Nat} {w : World} {v : Value} {s : Ls} (h : OutP P w v s) (hP : ∀ k, k < N → P k) : Out N w v s.n s.d := by
  have h1 := h.1
  rcases h1.2 with q | ⟨g, cap, cur, q1, _, q3⟩
  · exact ⟨h1.1, .inl q⟩
  · refine ⟨h1.1, .inr ⟨g, cap, cur, q1, ?_, q3⟩⟩
    have h2 := h.2 g (by rw [q1]; rfl)
    exact Nat.le_of_not_lt fun e => h2 (hP g e)
set_option maxRecDepth 100000 in
set_option maxHeartbeats 2000000 in
theorem xproduct_any {eo fo : Option Addr} {n ec m fc : Nat} {d f : Nat → Int} (w : World) (h : Row w eo n ec d) (hf : Row w fo m fc f) (hd : ∀ i, i < n → rng (d i) ∧ pok (d i) = true) (hff : ∀ i, i < m → rng (f i) ∧ pok (f i) = true) (hn : n ≤ 200) (hm : m ≤ 200) (H : Hold4 w) :
    Calls Tryz.prog 44 #[.slice eo n ec, .slice fo m fc] w fun r w' => XR w (prX d n f m) (prS d n f m) r w' := by
  have hle := hf.le
  have hmx := hf.max
  have HE : Hid (Row w eo n ec d) := h
  have HF : Hid (Row w fo m fc f) := hf
  have HD : Hid (∀ i, i < n → rng (d i) ∧ pok (d i) = true) := hd
  have HFF : Hid (∀ i, i < m → rng (f i) ∧ pok (f i) = true) := hff
  have HH : Hid (Hold4 w) := H
  have HSF : Hid (∀ k, k ≤ m → prX d n f k = true → (prS d n f k).fin) := prS_fin hd hff
  have HSL : Hid (∀ k, k ≤ m → (prS d n f k).n ≤ 80000) := fun k hk => Nat.le_trans (prS_le d n f k) (by
    have : 2 * n * k ≤ 2 * 200 * 200 := Nat.mul_le_mul (by omega) (by omega)
    omega)
  clear h hf hd hff H
  go_enter Tryz.func44, Tryz.ntmps44
  go_wp2_with fail
  go_loopw [5, 6, 11] (fun hv pv iv wr => ∃ (k : Nat) (vh vp : Value) (sh sp : Ls), k ≤ m ∧ iv = .int .i64 k ∧ hv = vh ∧ pv = vp ∧ Hid (prX d n f k = true) ∧ Hid (sh.same (prS d n f k)) ∧ Hid (Out w.heap.size wr vh sh.n sh.d) ∧ Hid (Out w.heap.size wr vp sp.n sp.d) ∧ Hid (∀ g, vp.ownBlock = some g → vh.ownBlock ≠ some g) ∧ Hid (Below w.heap.size w wr)) (fun _ _ iv _ => m - (intOf iv).toNat)
  case atStart => exact ⟨0, _, _, ⟨0, fun _ => 0⟩, ⟨0, fun _ => 0⟩, Nat.zero_le _, rfl, rfl, rfl, rfl, Ls.same.refl _, Out.nil _ _ _, Out.nil _ _ _, fun g hg => (by cases hg), Below.refl _ _⟩
  case round =>
    obtain ⟨k, vh, vp, sh, sp, hk, rfl, hve, hvp, HX, HS, HOH, HOP, HAP, HBW⟩ := hrel
    replace hve := hve.symm
    subst hve
    replace hvp := hvp.symm
    subst hvp
    by_cases hlt : k < m
    · obtain ⟨bb, off, rfl, hbb, hc⟩ := (HF.out.keeps HBW.out).spot (by omega)
      have c0 := hc k hlt
      clear hc
      obtain ⟨f1, f2⟩ := HFF.out k hlt
      obtain ⟨po, pc, rfl, hpr⟩ := HOP.out.row
      obtain ⟨ho, hcap, rfl, hhr⟩ := HOH.out.row
      have hpm := hpr.max
      have hpl := hpr.le
      clear hpr hhr
      have hsz := HBW.out.size
      have hfin := HS.out.fin (HSF.out k hk HX.out)
      have hn1 : sh.n ≤ 80000 := by rw [HS.out.1]; exact HSL.out k hk
      have HPB : Hid (PB (fun j => j < w.heap.size ∨ (Value.slice ho sh.n hcap).ownBlock = some j) wr) := fun j hj => by
        rcases hj with hj | hj
        · omega
        · exact (HOH.out.ge hj).2
      have CS : Hid (∀ W, W = wr → Calls Tryz.prog 51 #[.slice po 0 pc, .slice eo n ec, .int .i64 (f k)] W fun e w' => (sxN d (f k) n = true ∧ ∃ (v' : Value) (s : Ls), e = .returned v' ∧ OutP (fun j => j < w.heap.size ∨ (Value.slice ho sh.n hcap).ownBlock = some j) w' v' s ∧ s.same (sclN d (f k) n) ∧ BelP (fun j => j < w.heap.size ∨ (Value.slice ho sh.n hcap).ownBlock = some j) W w') ∨ (sxN d (f k) n = false ∧ e = gaveX ∧ BelP (fun j => j < w.heap.size ∨ (Value.slice ho sh.n hcap).ownBlock = some j) W w')) := fun W hW => by
        subst hW
        refine xscaleP_any (d0 := sp.d) W ⟨(HOP.out.cut (Nat.zero_le _)).lower (Nat.zero_le _), fun j hj => ?_⟩ (fun W' hW' => HE.out.keeps (HBW.out.trans (hW'.below fun j hj => .inl hj))) HD.out f1 f2 (by omega) HPB.out (fun W' hW' => HH.out.keeps (HBW.out.trans (hW'.below fun j hj => .inl hj)))
        have hj' : (Value.slice po sp.n pc).ownBlock = some j := by cases po <;> exact hj
        rintro (h | h)
        · have := (HOP.out.ge hj').1
          omega
        · exact HAP.out j hj' h
      have HXS : Hid (prX d n f (k + 1) = (prX d n f k && (sxN d (f k) n && gaX (prS d n f k) (sclN d (f k) n).d (sclN d (f k) n).n))) := prX_succ d n f k
      have HSS : Hid (prS d n f (k + 1) = gaS (prS d n f k) (sclN d (f k) n).d (sclN d (f k) n).n) := prS_succ d n f k
      have HNO : Hid (prX d n f (k + 1) = false → prX d n f m = false) := fun hno => by
        cases hx : prX d n f m
        · rfl
        · rw [prX_mono (show k + 1 ≤ m by omega) hx] at hno; cases hno
      have hn2 := sclN_le d (f k) n
      have HCF : Hid (sxN d (f k) n = true → (sclN d (f k) n).fin) := sclN_fin HD.out f1
      generalize sclN d (f k) n = SC at *
      generalize sxN d (f k) n = SX at *
      generalize f k = fk at *
      have i0 : (0 : Int) ≤ (k : Int) := by omega
      have i1 : (k : Int) < (m : Int) := by omega
      go_wp2_with fail
      refine (CS.out _ rfl).mono ?_
      rintro _ w1 (⟨h1, v1, s1, rfl, hO1, hS1, hb1⟩ | ⟨h1, rfl, hb1⟩)
      · obtain ⟨qo, qc, rfl⟩ := hO1.shape
        have hO1N : Out w.heap.size w1 (.slice qo s1.n qc) s1.n s1.d := hO1.raise fun j hj => .inl hj
        have hH1 : Out w.heap.size w1 (.slice ho sh.n hcap) sh.n sh.d := HOH.out.belP hb1 fun g hg => .inr hg
        have hB1 : Below w.heap.size w w1 := HBW.out.trans (hb1.below fun j hj => .inl hj)
        have hap1 : ∀ g, (Value.slice qo s1.n qc).ownBlock = some g → (Value.slice ho sh.n hcap).ownBlock ≠ some g := fun g hg e => hO1.2 g hg (.inr e)
        have hs1f : s1.fin := hS1.fin (HCF.out h1)
        have hs1n := hS1.1
        have HGS : Hid ((gaS sh s1.d s1.n).same (gaS (prS d n f k) SC.d SC.n) ∧ gaX sh s1.d s1.n = gaX (prS d n f k) SC.d SC.n) := by
          have := gaS_same HS.out (m := s1.n) (f := s1.d) (g := SC.d) hS1.2 s1.n (Nat.le_refl _)
          show _ ∧ _
          rw [← hS1.1]
          exact this
        have CG : Calls Tryz.prog 63 #[.slice ho sh.n hcap, .slice qo s1.n qc] w1 fun e w' => (gaX sh s1.d s1.n = true ∧ ∃ v', e = .returned v' ∧ OutP (fun j => j < w.heap.size ∨ (Value.slice qo s1.n qc).ownBlock = some j) w' v' (gaS sh s1.d s1.n) ∧ BelP (fun j => j < w.heap.size ∨ (Value.slice qo s1.n qc).ownBlock = some j) w1 w') ∨ (gaX sh s1.d s1.n = false ∧ e = gaveX ∧ BelP (fun j => j < w.heap.size ∨ (Value.slice qo s1.n qc).ownBlock = some j) w1 w') := by
          refine xgatherP w1 ⟨hH1.lower (Nat.zero_le _), fun j hj => ?_⟩ hfin (fun W hW => ?_) hs1f (by omega) (fun j hj => ?_)
          · rintro (h | h)
            · have := (hH1.ge hj).1
              omega
            · exact hap1 j h hj
          · obtain ⟨_, _, e1, hR⟩ := (hO1N.belP hW fun g hg => .inr hg).row
            simp only [Value.slice.injEq] at e1
            obtain ⟨rfl, _, rfl⟩ := e1
            exact hR
          · rcases hj with hj | hj
            · have := hB1.size
              omega
            · exact (hO1N.ge hj).2
        have HO1 : Hid (Out w.heap.size w1 (.slice qo s1.n qc) s1.n s1.d) := hO1N
        have HB1 : Hid (Below w.heap.size w w1) := hB1
        have H1 : Hid (SX = true) := h1
        clear hO1 hO1N hH1 hap1 hb1 hS1 hs1n hs1f h1 hfin CS
        generalize gaX sh s1.d s1.n = GX at *
        generalize gaS sh s1.d s1.n = GS at *
        go_wp2_with fail
        refine CG.mono ?_
        rintro _ w2 (⟨h2, v2, rfl, hO2, hb2⟩ | ⟨h2, rfl, hb2⟩)
        · obtain ⟨_, _, rfl⟩ := hO2.shape
          go_wp2
          go_roundw
          case rel => exact ⟨k + 1, _, _, GS, s1, by omega, by go_num, rfl, rfl, by show _ = _; rw [HXS.out, HX.out, H1.out, ← HGS.out.2, h2]; rfl, by show Ls.same _ _; rw [HSS.out]; exact HGS.out.1, hO2.raise fun j hj => .inl hj, HO1.out.belP hb2 fun g hg => .inr hg, fun g hg e => hO2.2 g e (.inr hg), HB1.out.trans (hb2.below fun j hj => .inl hj)⟩
          case measure => simp [intOf]; omega
        · unfold gaveX
          go_wp2
          exact ⟨rfl, .inr ⟨HNO.out (by rw [HXS.out, H1.out, ← HGS.out.2, h2]; simp), rfl⟩, HB1.out.trans (hb2.below fun j hj => .inl hj)⟩
      · unfold gaveX
        go_wp2
        exact ⟨rfl, .inr ⟨HNO.out (by rw [HXS.out, h1, Bool.false_and, Bool.and_false]), rfl⟩, HBW.out.trans (hb1.below fun j hj => .inl hj)⟩
    · obtain rfl : k = m := by omega
      obtain ⟨ho, hcap, rfl, hhr⟩ := HOH.out.row
      clear hhr
      go_wp2
      go_ret
      refine ⟨.inl ⟨HX.out, _, rfl, .inl ?_⟩, HBW.out⟩
      have := HOH.out.congr HS.out.2
      rw [HS.out.1] at this ⊢
      exact this
end Go.Proofs.YtjlmpgbadgkgmaaGreatDoor

/-
  Package plumbref7: row.summed, Sum, Diff, Product, by their contracts.
-/
namespace Go.Proofs.YtjlmpgbadgkgmaaGreatDoor
open Go Go.RowKit Go.Proofs.YtjlmpgbadgkgmaaGreatDoor.M
set_option linter.unusedSimpArgs false
set_option linter.unusedVariables false

theorem RowX.out {N rb : Nat} {w : World} {ao : Option Addr} {n cap : Nat} {d : Nat → Int} (h : Out N w (.slice ao n cap) n d) (hr : rb < N) : RowX rb w ao n cap d := by
  obtain ⟨_, _, e, hR⟩ := h.row
  simp only [Value.slice.injEq] at e
  obtain ⟨rfl, _, rfl⟩ := e
  refine ⟨hR.le, hR.max, fun hn => ?_⟩
  obtain ⟨g, rfl, h1, h2⟩ := h.spot hn
  obtain ⟨b, off, e1, h3, h4⟩ := hR.spot hn
  simp only [Option.some.injEq, Addr.mk.injEq, and_true] at e1
  obtain ⟨rfl, rfl⟩ := e1
  exact ⟨g, 0, rfl, h2, by omega, h4⟩
set_option maxRecDepth 100000 in
set_option maxHeartbeats 1000000 in
/-- summed, of a row whose steps were all exact so far. -/
theorem r7summed_any {rb n ec m fc : Nat} {eo fo : Option Addr} {d f : Nat → Int} {v0 : Value} (w : World) (hr : RwB w rb v0 false) (he : RowX rb w eo n ec d) (hR : Row w eo n ec d) (hf : RowX rb w fo m fc f) (hd : ∀ i, i < n → rng (d i) ∧ pok (d i) = true) (hff : ∀ i, i < m → rng (f i) ∧ pok (f i) = true) (hn : n + m ≤ 600000) :
    Calls Tryz.prog 45 #[.pointer (some ⟨rb, 0, none⟩), .slice eo n ec, .slice fo m fc] w fun r w' => ∃ (v : Value) (s : Ls), r = .returned v ∧ Out w.heap.size w' v s.n s.d ∧ Wr rb w w' ∧ RwB w' rb v0 (!gaX ⟨n, d⟩ f m) ∧ (gaX ⟨n, d⟩ f m = true → s.same (gaS ⟨n, d⟩ f m)) ∧ s.n ≤ n + m := by
  have HF : Hid (RowX rb w fo m fc f) := hf
  have hfl := hf.le
  have hfm := hf.max
  have HRR : Hid (RwB w rb v0 false) := hr
  have HFF : Hid (∀ i, i < m → rng (f i) ∧ pok (f i) = true) := hff
  have HFI : Hid (∀ k, k ≤ m → gaX ⟨n, d⟩ f k = true → (gaS ⟨n, d⟩ f k).fin) := gaS_fin hd hff
  have hlt := hr.lt
  have HR0 : Hid (Row w eo n ec d) := hR
  clear he hf hr hff hd hR
  go_enter Tryz.func45, Tryz.ntmps45
  go_wp2_with (at_builtin
               refine wpList_app rfl _ _ rfl w.heap.size _ 0 d rfl (Out.nil _ _ _) _ n ec d rfl HR0.out (by omega) (Nat.le_refl _) ?_
               intro v1 w1 hO0 hg1
               have hO1 : Out w.heap.size w1 v1 n d := by rw [Nat.zero_add] at hO0; exact hO0.congr fun i hi => by simp [cat]
               clear hO0
               obtain ⟨v1o, v1c, rfl, _⟩ := hO1.row)
  have HL1 : Hid (Out w.heap.size w1 (.slice v1o n v1c) n d) := hO1
  have HB1 : Hid (Below w.heap.size w w1) := grown_below hg1
  clear hO1 hg1
  go_loopw [7, 8] (fun hv iv wr => ∃ (k : Nat) (bad : Bool) (v : Value) (s : Ls), k ≤ m ∧ iv = .int .i64 k ∧ hv = v ∧ Hid (RwB wr rb v0 bad) ∧ Hid (Out w.heap.size wr v s.n s.d) ∧ Hid (Wr rb w wr) ∧ Hid (bad = false → gaX ⟨n, d⟩ f k = true ∧ s.same (gaS ⟨n, d⟩ f k)) ∧ Hid (bad = true → gaX ⟨n, d⟩ f m = false) ∧ s.n ≤ n + k) (fun _ iv _ => m - (intOf iv).toNat)
  case atStart => exact ⟨0, false, _, ⟨n, d⟩, Nat.zero_le _, rfl, by first | rfl | (rw [Nat.zero_add]), HRR.out.keeps HB1.out, HL1, wr_of HB1.out, fun _ => ⟨rfl, Ls.same.refl _⟩, fun h => (by cases h), Nat.le_refl _⟩
  case round =>
    obtain ⟨k, bad, v, s, hk, rfl, hve, HB, HO, HW, HS, HN, hsn⟩ := hrel
    replace hve := hve.symm
    subst hve
    clear HL1 HB1
    have hsz := HW.out.size
    obtain ⟨a0, a1, f0, f1⟩ := HB.out.at
    obtain ⟨ho, hc, rfl, _⟩ := HO.out.row
    have i0 : (0 : Int) ≤ (k : Int) := by omega
    by_cases hgo : k < m ∧ bad = false
    · obtain ⟨hlk, rfl⟩ := hgo
      obtain ⟨hX, hSm⟩ := HS.out rfl
      have hfin := hSm.fin (HFI.out k hk hX)
      obtain ⟨r1, r2⟩ := HFF.out k hlk
      obtain ⟨bb, off, rfl, c0⟩ := (HF.out.keeps HW.out).cellX hlk
      have CG := r7grown_any wr HB.out (RowX.out HO.out hlt) hfin r1 r2 (by omega)
      have HXS : Hid (gaX ⟨n, d⟩ f (k + 1) = gx s.d (f k) s.n) := by
        show _ = _
        rw [gaX_succ, hX, Bool.true_and, ← hSm.1, ← gx_same hSm.2 s.n (Nat.le_refl _)]
      have HSS : Hid ((grw s.n s.d (f k)).same (gaS ⟨n, d⟩ f (k + 1))) := by
        rw [gaS_succ, ← hSm.1]
        exact grw_same hSm.2
      have HNO : Hid (gaX ⟨n, d⟩ f (k + 1) = false → gaX ⟨n, d⟩ f m = false) := fun hno => by
        cases hx : gaX ⟨n, d⟩ f m
        · rfl
        · rw [gaX_mono (show k + 1 ≤ m by omega) hx] at hno; cases hno
      have i1 : (k : Int) < (m : Int) := by omega
      clear hX hSm hfin r1 r2
      generalize gx s.d (f k) s.n = GX at *
      generalize grw s.n s.d (f k) = GS at *
      generalize f k = fk at *
      go_wp2_with fail
      refine CG.mono ?_
      rintro _ w2 ⟨v2, s2, rfl, hO2, hW2, hR2, hS2, hn2⟩
      obtain ⟨_, _, rfl, _⟩ := hO2.row
      go_wp2
      go_roundw
      case rel =>
        refine ⟨k + 1, !GX, _, s2, by omega, by go_num, rfl, hR2, hO2.lower hsz, HW.out.trans hW2, fun h => ?_, fun h => HNO.out (by rw [HXS.out]; simpa using h), by omega⟩
        have hG : GX = true := by simpa using h
        rw [HXS.out]
        exact ⟨hG, (hS2 hG).trans HSS.out⟩
      case measure => simp [intOf]; omega
    · have HNB : Hid (gaX ⟨n, d⟩ f m = !bad ∧ (bad = false → s.same (gaS ⟨n, d⟩ f m))) := by
        cases bad
        · obtain rfl : k = m := by
            by_cases e : k < m
            · exact absurd ⟨e, rfl⟩ hgo
            · omega
          exact ⟨(HS.out rfl).1, fun _ => (HS.out rfl).2⟩
        · exact ⟨HN.out rfl, fun h => by cases h⟩
      have hcond2 : ¬ (k : Int) < (m : Int) ∨ bad = true := by
        cases bad
        · exact .inl fun e => hgo ⟨by omega, rfl⟩
        · exact .inr rfl
      clear hgo
      have FIN : ∃ (s' : Ls), Out w.heap.size wr (.slice ho s.n hc) s'.n s'.d ∧ Wr rb w wr ∧ RwB wr rb v0 (!gaX ⟨n, d⟩ f m) ∧ (gaX ⟨n, d⟩ f m = true → s'.same (gaS ⟨n, d⟩ f m)) ∧ s'.n ≤ n + m := by
        refine ⟨s, HO.out, HW.out, ?_, fun h => ?_, by omega⟩
        · rw [HNB.out.1, Bool.not_not]
          exact HB.out
        · rw [HNB.out.1] at h
          exact HNB.out.2 (by simpa using h)
      have HFI2 : Hid _ := FIN
      clear FIN
      rcases hcond2 with hnl | hbd
      · go_wp2
        all_goals go_ret
        all_goals first | exact ⟨_, rfl, HFI2.out⟩ | (obtain ⟨s', hs'⟩ := HFI2.out; exact ⟨_, s', rfl, hs'⟩)
      · subst hbd
        by_cases hkn : (k : Int) < (m : Int)
        all_goals
          go_wp2
          go_ret
          first | exact ⟨_, rfl, HFI2.out⟩ | (obtain ⟨s', hs'⟩ := HFI2.out; exact ⟨_, s', rfl, hs'⟩)
set_option maxRecDepth 100000 in
set_option maxHeartbeats 1000000 in
theorem r7Sum_any {n ec m fc : Nat} {eo fo : Option Addr} {d f : Nat → Int} (w : World) (he : Row w eo n ec d) (hf : Row w fo m fc f) (hd : ∀ i, i < n → rng (d i) ∧ pok (d i) = true) (hff : ∀ i, i < m → rng (f i) ∧ pok (f i) = true) (hn : n + m ≤ 4000) :
    Calls Tryz.prog 25 #[.slice eo n ec, .slice fo m fc] w fun r w' => ∃ po pc, r = .returned (.tuple #[.slice po (lsX (gaX ⟨n, d⟩ f m) (gaS ⟨n, d⟩ f m)).n pc, .int .i64 (erX (gaX ⟨n, d⟩ f m))]) ∧ Out w.heap.size w' (.slice po (lsX (gaX ⟨n, d⟩ f m) (gaS ⟨n, d⟩ f m)).n pc) (lsX (gaX ⟨n, d⟩ f m) (gaS ⟨n, d⟩ f m)).n (lsX (gaX ⟨n, d⟩ f m) (gaS ⟨n, d⟩ f m)).d ∧ Below w.heap.size w w' := by
  have hba := bel_alloc w (.cells #[.slice none 0 0, .bool false] 55)
  have CG := r7summed_any (w.alloc (.cells #[.slice none 0 0, .bool false] 55)) (heap_alloc_new w _) (RowX.of0 he hba (Nat.le_refl _)) (he.keeps hba) (RowX.of0 hf hba (Nat.le_refl _)) hd hff (show n + m ≤ 600000 by omega)
  clear he hd hf hff
  generalize gaX ⟨n, d⟩ f m = X at *
  generalize gaS ⟨n, d⟩ f m = S at *
  go_enter Tryz.func25, Tryz.ntmps25
  go_wp2_with fail
  refine CG.mono ?_
  rintro _ w1 ⟨v, s, rfl, hO, hW, hR, hS, hsn⟩
  obtain ⟨vo, vc, rfl, _⟩ := hO.row
  obtain ⟨a0, a1, f0, f1⟩ := hR.at
  have hR2 := hR.set0 (.slice vo s.n vc)
  have hO2 := (hO.rw hR 0 (.slice vo s.n vc)).lower hba.size
  have hW2 := (hW.setCell 0 (.slice vo s.n vc)).below hba hba.size (Nat.le_refl _)
  clear CG
  cases X
  · go_wp2_with fail
    refine (r7answer_bad _ hR2).mono ?_
    rintro _ _ ⟨rfl, rfl⟩
    go_wp2
    refine bodyPost_ret (v := .tuple #[.slice none 0 0, .int .i64 14]) (by simp [results, Tryz.results25, go_sem]) rfl ⟨none, 0, rfl, Out.nil _ _ _, hW2⟩
  · go_wp2_with fail
    refine (r7answer_ok _ hR2 (by omega)).mono ?_
    rintro _ _ ⟨rfl, rfl⟩
    go_wp2
    obtain ⟨e1, e2⟩ := hS (by first | rfl | trivial)
    have e3 : (lsX true S).n = s.n := e1.symm
    rw [e3]
    refine bodyPost_ret (v := .tuple #[.slice vo s.n vc, .int .i64 0]) (by simp [results, Tryz.results25, go_sem]) rfl ⟨vo, vc, rfl, hO2.congr e2, hW2⟩
end Go.Proofs.YtjlmpgbadgkgmaaGreatDoor

/-
  Package plumbref7: Diff, Product, by their contracts.
-/
namespace Go.Proofs.YtjlmpgbadgkgmaaGreatDoor
open Go Go.RowKit Go.Proofs.YtjlmpgbadgkgmaaGreatDoor.M
set_option linter.unusedSimpArgs false
set_option linter.unusedVariables false

set_option maxRecDepth 100000 in
set_option maxHeartbeats 1000000 in
theorem r7Diff_any {n ec m fc : Nat} {eo fo : Option Addr} {d f : Nat → Int} (w : World) (he : Row w eo n ec d) (hf : Row w fo m fc f) (hd : ∀ i, i < n → rng (d i) ∧ pok (d i) = true) (hff : ∀ i, i < m → rng (f i) ∧ pok (f i) = true) (hn : n + m ≤ 4000) :
    Calls Tryz.prog 26 #[.slice eo n ec, .slice fo m fc] w fun r w' => ∃ po pc, r = .returned (.tuple #[.slice po (lsX (gaX ⟨n, d⟩ (fun i => neg (f i)) m) (gaS ⟨n, d⟩ (fun i => neg (f i)) m)).n pc, .int .i64 (erX (gaX ⟨n, d⟩ (fun i => neg (f i)) m))]) ∧ Out w.heap.size w' (.slice po (lsX (gaX ⟨n, d⟩ (fun i => neg (f i)) m) (gaS ⟨n, d⟩ (fun i => neg (f i)) m)).n pc) (lsX (gaX ⟨n, d⟩ (fun i => neg (f i)) m) (gaS ⟨n, d⟩ (fun i => neg (f i)) m)).n (lsX (gaX ⟨n, d⟩ (fun i => neg (f i)) m) (gaS ⟨n, d⟩ (fun i => neg (f i)) m)).d ∧ Below w.heap.size w w' := by
  have CS : Hid (∀ W go gc, Below w.heap.size w W → Row W go m gc (fun i => neg (f i)) → Calls Tryz.prog 25 #[.slice eo n ec, .slice go m gc] W fun r w' => ∃ po pc, r = .returned (.tuple #[.slice po (lsX (gaX ⟨n, d⟩ (fun i => neg (f i)) m) (gaS ⟨n, d⟩ (fun i => neg (f i)) m)).n pc, .int .i64 (erX (gaX ⟨n, d⟩ (fun i => neg (f i)) m))]) ∧ Out w.heap.size w' (.slice po (lsX (gaX ⟨n, d⟩ (fun i => neg (f i)) m) (gaS ⟨n, d⟩ (fun i => neg (f i)) m)).n pc) (lsX (gaX ⟨n, d⟩ (fun i => neg (f i)) m) (gaS ⟨n, d⟩ (fun i => neg (f i)) m)).n (lsX (gaX ⟨n, d⟩ (fun i => neg (f i)) m) (gaS ⟨n, d⟩ (fun i => neg (f i)) m)).d ∧ Below w.heap.size w w') := fun W go gc hW hR =>
    (r7Sum_any W (he.keeps hW) hR hd (fun i hi => ⟨neg_rng (hff i hi).1, (neg_facts (hff i hi).1 (hff i hi).2).2.1⟩) hn).mono fun _ _ ⟨po, pc, h1, h2, h3⟩ => ⟨po, pc, h1, h2.lower hW.size, bel_trans hW h3⟩
  have HF : Hid (Row w fo m fc f) := hf
  have HFF : Hid (∀ i, i < m → rng (f i) ∧ pok (f i) = true) := hff
  have hfl := hf.le
  have hfm := hf.max
  generalize lsX (gaX ⟨n, d⟩ (fun i => neg (f i)) m) (gaS ⟨n, d⟩ (fun i => neg (f i)) m) = L at *
  generalize erX (gaX ⟨n, d⟩ (fun i => neg (f i)) m) = E at *
  clear he hf hd hff
  go_enter Tryz.func26, Tryz.ntmps26
  go_wp2_with fail
  go_loopw [6, 7] (fun gv iv wr => ∃ (k : Nat) (v : Value), k ≤ m ∧ iv = .int .i64 k ∧ gv = v ∧ Hid (Out w.heap.size wr v k (fun i => neg (f i))) ∧ Hid (Below w.heap.size w wr)) (fun _ iv _ => m - (intOf iv).toNat)
  case atStart => exact ⟨0, _, Nat.zero_le _, rfl, rfl, Out.nil _ _ _, Below.refl _ _⟩
  case round =>
    obtain ⟨k, v, hk, rfl, hve, HO, HBW⟩ := hrel
    replace hve := hve.symm
    subst hve
    have hsz := HBW.out.size
    obtain ⟨go, gc, rfl, hgr⟩ := HO.out.row
    by_cases hlt : k < m
    · obtain ⟨bb, off, rfl, hbb, hc⟩ := (HF.out.keeps HBW.out).spot (by omega)
      have c0 := hc k hlt
      clear hc hgr
      have rk := (HFF.out k hlt).1
      have CN := fun W => refNeg (f k) W rk
      have HNK : Hid ((fun i => neg (f i)) k = neg (f k)) := rfl
      generalize neg (f k) = nk at *
      generalize f k = fk at *
      have i0 : (0 : Int) ≤ (k : Int) := by omega
      have i1 : (k : Int) < (m : Int) := by omega
      go_wp2_with (first
        | (go_at_call 46; refine (CN _).mono ?_; rintro _ wz ⟨rfl, hw⟩; replace hw := hw.symm; subst hw)
        | (at_builtin
           refine wpList_app rfl _ _ rfl w.heap.size _ k (fun i => neg (f i)) rfl (HO.out.stays (bel_alloc _ _)) _ 1 1 (fun _ => nk) rfl (row1 _ _ rfl) (by omega) (by simp; omega) ?_
           intro v1 w1 hO1 hg1
           obtain ⟨v1o, v1c, rfl, _⟩ := hO1.row))
      go_roundw
      case rel =>
        refine ⟨k + 1, _, by omega, by go_num, rfl, ?_, ?_⟩
        · refine Out.congr hO1 fun i hi => ?_
          by_cases e : i < k
          · simp [cat, e]
          · obtain rfl : i = k := by omega
            simp only [cat, Nat.lt_irrefl, if_false]
            exact HNK.out.symm
        · exact HBW.out.trans (((Below.refl _ wr).alloc hsz _).grown hg1 (by simp; omega) (own_ge HO.out))
      case measure => simp [intOf]; omega
    · obtain rfl : k = m := by omega
      go_wp2_with fail
      refine (CS.out _ _ _ HBW.out hgr).mono ?_
      rintro _ w2 ⟨po, pc, rfl, h2, h3⟩
      go_wp2
      refine bodyPost_ret (v := .tuple #[.slice po L.n pc, .int .i64 E]) (by simp [results, Tryz.results26, go_sem]) rfl ⟨po, pc, rfl, h2, h3⟩
set_option maxRecDepth 100000 in
set_option maxHeartbeats 1000000 in
/-- summed, of a row where a step was not exact: a copy. -/
theorem r7summed_bad {rb n ec m fc : Nat} {eo fo : Option Addr} {d : Nat → Int} {v0 : Value} (w : World) (hr : RwB w rb v0 true) (hR : Row w eo n ec d) (hn : n ≤ 600000) (hm : m ≤ 9223372036854775807) :
    Calls Tryz.prog 45 #[.pointer (some ⟨rb, 0, none⟩), .slice eo n ec, .slice fo m fc] w fun r w' => ∃ (v : Value), r = .returned v ∧ Out w.heap.size w' v n d ∧ Below w.heap.size w w' ∧ RwB w' rb v0 true := by
  have HRR : Hid (RwB w rb v0 true) := hr
  have HR0 : Hid (Row w eo n ec d) := hR
  clear hr hR
  go_enter Tryz.func45, Tryz.ntmps45
  go_wp2_with (at_builtin
               refine wpList_app rfl _ _ rfl w.heap.size _ 0 d rfl (Out.nil _ _ _) _ n ec d rfl HR0.out (by omega) (Nat.le_refl _) ?_
               intro v1 w1 hO0 hg1
               have hO1 : Out w.heap.size w1 v1 n d := by rw [Nat.zero_add] at hO0; exact hO0.congr fun i hi => by simp [cat]
               clear hO0
               obtain ⟨v1o, v1c, rfl, _⟩ := hO1.row)
  have HB1 : Hid (Below w.heap.size w w1) := grown_below hg1
  have HR1 : Hid (RwB w1 rb v0 true) := HRR.out.keeps HB1.out
  have HL1 : Hid (Out w.heap.size w1 (.slice v1o n v1c) n d) := hO1
  obtain ⟨a0, a1, f0, f1⟩ := HR1.out.at
  clear hO1 hg1
  go_loopw [7, 8] (fun hv iv wr => hv = .slice v1o n v1c ∧ iv = .int .i64 0 ∧ wr = w1) (fun _ iv _ => 0)
  case atStart => exact ⟨rfl, rfl, rfl⟩
  case round =>
    obtain ⟨rfl, rfl, rfl⟩ := hrel
    by_cases hm0 : (0 : Int) < (m : Int)
    all_goals
      go_wp2
      go_ret
      exact ⟨_, rfl, HL1.out, HB1.out, HR1.out⟩
theorem RowX.outT {N rb : Nat} {w : World} {ao : Option Addr} {n cap : Nat} {d : Nat → Int} {v : Value} {bad : Bool} (h : Out N w (.slice ao n cap) n d) (hr : RwB w rb v bad) : RowX rb w ao n cap d := by
  obtain ⟨_, _, e, hR⟩ := h.row
  simp only [Value.slice.injEq] at e
  obtain ⟨rfl, _, rfl⟩ := e
  refine ⟨hR.le, hR.max, fun hn => ?_⟩
  obtain ⟨g, rfl, h1, h2⟩ := h.spot hn
  obtain ⟨b, off, e1, h3, h4⟩ := hR.spot hn
  simp only [Option.some.injEq, Addr.mk.injEq, and_true] at e1
  obtain ⟨rfl, rfl⟩ := e1
  exact ⟨g, 0, rfl, h2, fun e => hr.ne h (by rw [e]; rfl), h4⟩
theorem Out.wrR {N rb : Nat} {w w' : World} {x v : Value} {n : Nat} {d : Nat → Int} {bad : Bool} (h : Out N w x n d) (hr : RwB w rb v bad) (hW : Wr rb w w') : Out N w' x n d :=
  h.of_block fun g hg => hW.block g (h.ge hg).2 fun e => hr.ne h (by rw [hg, e])
theorem Out.rowS {N : Nat} {w : World} {ao : Option Addr} {n cap : Nat} {d : Nat → Int} (h : Out N w (.slice ao n cap) n d) : Row w ao n cap d := by
  obtain ⟨_, _, e, hR⟩ := h.row
  simp only [Value.slice.injEq] at e
  obtain ⟨rfl, _, rfl⟩ := e
  exact hR
set_option maxRecDepth 100000 in
set_option maxHeartbeats 2000000 in
theorem r7Product_any {n ec m fc : Nat} {eo fo : Option Addr} {d f : Nat → Int} (w : World) (he : Row w eo n ec d) (hf : Row w fo m fc f) (hd : ∀ i, i < n → rng (d i) ∧ pok (d i) = true) (hff : ∀ i, i < m → rng (f i) ∧ pok (f i) = true) (hn : n ≤ 200) (hm : m ≤ 200) (hnm : (prS d n f m).n ≤ 4000) :
    Calls Tryz.prog 27 #[.slice eo n ec, .slice fo m fc] w fun r w' => ∃ po pc, r = .returned (.tuple #[.slice po (lsX (prX d n f m) (prS d n f m)).n pc, .int .i64 (erX (prX d n f m))]) ∧ Out w.heap.size w' (.slice po (lsX (prX d n f m) (prS d n f m)).n pc) (lsX (prX d n f m) (prS d n f m)).n (lsX (prX d n f m) (prS d n f m)).d ∧ Below w.heap.size w w' := by
  have HE : Hid (Row w eo n ec d) := he
  have HF : Hid (Row w fo m fc f) := hf
  have hfl := hf.le
  have hfm := hf.max
  have HD : Hid (∀ i, i < n → rng (d i) ∧ pok (d i) = true) := hd
  have HFF : Hid (∀ i, i < m → rng (f i) ∧ pok (f i) = true) := hff
  have HSF : Hid (∀ k, k ≤ m → prX d n f k = true → (prS d n f k).fin) := prS_fin hd hff
  have HSL : Hid (∀ k, k ≤ m → (prS d n f k).n ≤ 80000) := fun k hk => Nat.le_trans (prS_le d n f k) (by
    have : 2 * n * k ≤ 2 * 200 * 200 := Nat.mul_le_mul (by omega) (by omega)
    omega)
  clear he hf hd hff
  have hba := bel_alloc w (.cells #[.slice none 0 0, .bool false] 55)
  go_enter Tryz.func27, Tryz.ntmps27
  go_wp2_with fail
  go_loopw [7, 8] (fun hv iv wr => ∃ (k : Nat) (bad : Bool) (v : Value) (s : Ls), k ≤ m ∧ iv = .int .i64 k ∧ hv = v ∧ Hid (RwB wr w.heap.size (.slice none 0 0) bad) ∧ Hid (Out w.heap.size wr v s.n s.d) ∧ Hid (Below w.heap.size w wr) ∧ Hid (bad = false → prX d n f k = true ∧ s.same (prS d n f k)) ∧ Hid (bad = true → prX d n f m = false) ∧ s.n ≤ 400 * k) (fun _ iv _ => m - (intOf iv).toNat)
  case atStart => exact ⟨0, false, _, ⟨0, fun _ => 0⟩, Nat.zero_le _, rfl, rfl, heap_alloc_new w _, Out.nil _ _ _, hba, fun _ => ⟨rfl, Ls.same.refl _⟩, fun h => (by cases h), Nat.zero_le _⟩
  case round =>
    obtain ⟨k, bad, v, s, hk, rfl, hve, HB, HO, HBW, HS, HN, hsn⟩ := hrel
    replace hve := hve.symm
    subst hve
    have hsz := HBW.out.size
    obtain ⟨a0, a1, f0, f1⟩ := HB.out.at
    obtain ⟨ho, hc, rfl, _⟩ := HO.out.row
    have i0 : (0 : Int) ≤ (k : Int) := by omega
    by_cases hgo : k < m ∧ bad = false
    · obtain ⟨hlk, rfl⟩ := hgo
      obtain ⟨hX, hSm⟩ := HS.out rfl
      have hfin := hSm.fin (HSF.out k hk hX)
      obtain ⟨r1, r2⟩ := HFF.out k hlk
      obtain ⟨bb, off, rfl, hbb, hcs⟩ := (HF.out.keeps HBW.out).spot (by omega)
      have c0 := hcs k hlk
      clear hcs
      have CS := r7scaled_any wr HB.out (RowX.of0 HE.out HBW.out (Nat.le_refl _)) HD.out r1 r2 (by omega)
      have HXS : Hid (prX d n f (k + 1) = (sxN d (f k) n && gaX (prS d n f k) (sclN d (f k) n).d (sclN d (f k) n).n)) := by
        show _ = _
        rw [prX_succ, hX, Bool.true_and]
      have HSS : Hid (prS d n f (k + 1) = gaS (prS d n f k) (sclN d (f k) n).d (sclN d (f k) n).n) := prS_succ d n f k
      have HNO : Hid (prX d n f (k + 1) = false → prX d n f m = false) := fun hno => by
        cases hx : prX d n f m
        · rfl
        · rw [prX_mono (show k + 1 ≤ m by omega) hx] at hno; cases hno
      have HCF : Hid (sxN d (f k) n = true → (sclN d (f k) n).fin) := sclN_fin HD.out r1
      have HL1 : Hid ((prS d n f (k + 1)).n ≤ 80000) := HSL.out (k + 1) (by omega)
      have HSM : Hid (s.same (prS d n f k)) := hSm
      have HFN : Hid s.fin := hfin
      have i1 : (k : Int) < (m : Int) := by omega
      clear hX hSm hfin r1 r2
      generalize sclN d (f k) n = SC at *
      generalize sxN d (f k) n = SX at *
      generalize f k = fk at *
      go_wp2_with fail
      refine CS.mono ?_
      rintro _ w1 ⟨v1, s1, rfl, hO1, hW1, hR1, hS1, hn1⟩
      obtain ⟨qo, qc, rfl, _⟩ := hO1.row
      have hH1 := HO.out.wrR HB.out hW1
      have hB1 : Below w.heap.size w w1 := hW1.below HBW.out hsz (Nat.le_refl _)
      have hs1 := hW1.size
      clear CS
      cases SX
      · have C2 := r7summed_bad (fo := qo) (m := s1.n) (fc := qc) w1 hR1 hH1.rowS (by omega) (by omega)
        go_wp2_with fail
        refine C2.mono ?_
        rintro _ w2 ⟨v2, rfl, hO2, hb2, hR2⟩
        obtain ⟨_, _, rfl, _⟩ := hO2.row
        go_wp2
        go_roundw
        case rel => exact ⟨k + 1, true, _, s, by omega, by go_num, rfl, hR2, hO2.lower hB1.size, hB1.trans (hb2.mono hB1.size), fun h => (by cases h), fun _ => HNO.out (by rw [HXS.out]; rfl), by omega⟩
        case measure => simp [intOf]; omega
      · obtain ⟨e1, e2⟩ := hS1 rfl
        have hf1 : s1.fin := Ls.same.fin ⟨e1, e2⟩ (HCF.out rfl)
        have HGS : Hid ((gaS ⟨s.n, s.d⟩ s1.d s1.n).same (gaS (prS d n f k) SC.d SC.n) ∧ gaX ⟨s.n, s.d⟩ s1.d s1.n = gaX (prS d n f k) SC.d SC.n) := by
          have := gaS_same (s := ⟨s.n, s.d⟩) HSM.out (m := s1.n) (f := s1.d) (g := SC.d) e2 s1.n (Nat.le_refl _)
          show _ ∧ _
          rw [← e1]
          exact this
        have C2 := r7summed_any w1 hR1 (RowX.outT hH1 hR1) hH1.rowS (RowX.outT hO1 hR1) HFN.out hf1 (by omega)
        clear e1 e2 hf1 hS1
        generalize gaX ⟨s.n, s.d⟩ s1.d s1.n = GX at *
        generalize gaS ⟨s.n, s.d⟩ s1.d s1.n = GS at *
        go_wp2_with fail
        refine C2.mono ?_
        rintro _ w2 ⟨v2, s2, rfl, hO2, hW2, hR2, hS2, hn2⟩
        obtain ⟨_, _, rfl, _⟩ := hO2.row
        go_wp2
        go_roundw
        case rel =>
          refine ⟨k + 1, !GX, _, s2, by omega, by go_num, rfl, hR2, hO2.lower hB1.size, hW2.below hB1 hB1.size (Nat.le_refl _), fun h => ?_, fun h => HNO.out (by rw [HXS.out, ← HGS.out.2]; simpa using h), ?_⟩
          · have hG : GX = true := by simpa using h
            rw [HXS.out, HSS.out, ← HGS.out.2, hG]
            exact ⟨rfl, (hS2 hG).trans HGS.out.1⟩
          · omega
        case measure => simp [intOf]; omega
    · have HNB : Hid (prX d n f m = !bad ∧ (bad = false → s.same (prS d n f m))) := by
        cases bad
        · obtain rfl : k = m := by
            by_cases e : k < m
            · exact absurd ⟨e, rfl⟩ hgo
            · omega
          exact ⟨(HS.out rfl).1, fun _ => (HS.out rfl).2⟩
        · exact ⟨HN.out rfl, fun h => by cases h⟩
      have hcond2 : ¬ (k : Int) < (m : Int) ∨ bad = true := by
        cases bad
        · exact .inl fun e => hgo ⟨by omega, rfl⟩
        · exact .inr rfl
      clear hgo
      have hR2 := HB.out.set0 (.slice ho s.n hc)
      have hO2 := HO.out.rw HB.out 0 (.slice ho s.n hc)
      have hW2 : Below w.heap.size w (wr.setCell ⟨w.heap.size, 0, none⟩ (.slice ho s.n hc)) := HBW.out.setCell (Nat.le_refl _) _
      have HO2 : Hid _ := hO2
      clear hO2
      have hcases : (bad = true ∧ prX d n f m = false) ∨ (bad = false ∧ ¬ (k : Int) < (m : Int) ∧ prX d n f m = true) := by
        cases bad
        · exact .inr ⟨rfl, hcond2.resolve_right (by simp), HNB.out.1⟩
        · exact .inl ⟨rfl, HNB.out.1⟩
      rcases hcases with ⟨rfl, hx⟩ | ⟨rfl, hnl, hx⟩
      · by_cases hkn : (k : Int) < (m : Int)
        all_goals
          go_wp2_with fail
          refine (r7answer_bad _ hR2).mono ?_
          rintro _ _ ⟨rfl, rfl⟩
          go_wp2
          refine bodyPost_ret (v := .tuple #[.slice none 0 0, .int .i64 14]) (by simp [results, Tryz.results27, go_sem]) rfl ⟨none, 0, by rw [hx]; rfl, by rw [hx]; exact Out.nil _ _ _, hW2⟩
      · have hsame := HNB.out.2 rfl
        have HSA : Hid (s.same (prS d n f m)) := hsame
        have hs4 : s.n ≤ 4096 := by rw [hsame.1]; omega
        clear hsame
        go_wp2_with fail
        refine (r7answer_ok _ hR2 hs4).mono ?_
        rintro _ _ ⟨rfl, rfl⟩
        go_wp2
        have e3 : (lsX true (prS d n f m)).n = s.n := HSA.out.1.symm
        refine bodyPost_ret (v := .tuple #[.slice ho s.n hc, .int .i64 0]) (by simp [results, Tryz.results27, go_sem]) rfl ⟨ho, hc, by rw [hx, e3]; rfl, by rw [hx, e3]; exact Out.congr HO2.out HSA.out.2, hW2⟩
end Go.Proofs.YtjlmpgbadgkgmaaGreatDoor

/-
  Package expansion: difference, by its contract.
-/
namespace Go.Proofs.YtjlmpgbadgkgmaaGreatDoor
open Go Go.RowKit Go.Proofs.YtjlmpgbadgkgmaaGreatDoor.M
set_option linter.unusedSimpArgs false
set_option linter.unusedVariables false

theorem XR.from {w0 w w' : World} {ok : Bool} {s : Ls} {r : Ending} (h : XR w ok s r w') (hb : Below w0.heap.size w0 w) : XR w0 ok s r w' := by
  obtain ⟨h1, h2⟩ := h
  refine ⟨?_, bel_trans hb h2⟩
  rcases h1 with ⟨a, v, b, c⟩ | h
  · exact .inl ⟨a, v, b, c.lower hb.size⟩
  · exact .inr h
/-- The first k turned. -/
def trn (f : Nat → Int) (k : Nat) : Nat → Int := fun i => if i < k then neg (f i) else f i
theorem trn_upd (f : Nat → Int) (k : Nat) : upd (trn f k) k (neg (f k)) = trn f (k + 1) := by
  funext i
  by_cases e : i = k
  · subst e; rw [upd_same]; unfold trn; rw [if_pos (by omega)]
  · rw [upd_other _ _ e]; unfold trn
    by_cases h : i < k
    · rw [if_pos h, if_pos (by omega)]
    · rw [if_neg h, if_neg (by omega)]
set_option maxRecDepth 100000 in
set_option maxHeartbeats 1000000 in
theorem xdiff_any {eo fo : Option Addr} {n ec m fc : Nat} {d f : Nat → Int} (w : World) (h : Row w eo n ec d) (hf : Row w fo m fc f) (hd : ∀ i, i < n → rng (d i) ∧ pok (d i) = true) (hff : ∀ i, i < m → rng (f i) ∧ pok (f i) = true) (hn : n + m ≤ 600000) (H : Hold4 w) :
    Calls Tryz.prog 43 #[.slice eo n ec, .slice fo m fc] w fun r w' => XR w (gaX ⟨n, d⟩ (fun i => neg (f i)) m) (gaS ⟨n, d⟩ (fun i => neg (f i)) m) r w' := by
  have CO := xown_any w hf (by omega)
  have HF : Hid (∀ i, i < m → rng (f i) ∧ pok (f i) = true) := hff
  have HH : Hid (Hold4 w) := H
  have CS : Hid (∀ W vo vc, Below w.heap.size w W → Row W vo m vc (fun i => neg (f i)) → Calls Tryz.prog 42 #[.slice eo n ec, .slice vo m vc] W fun r w' => XR w (gaX ⟨n, d⟩ (fun i => neg (f i)) m) (gaS ⟨n, d⟩ (fun i => neg (f i)) m) r w') := fun W vo vc hW hR =>
    (xsum_any W (h.keeps hW) hR hd (fun i hi => ⟨neg_rng (hff i hi).1, (neg_facts (hff i hi).1 (hff i hi).2).2.1⟩) (by omega)).mono fun _ _ hx => hx.from hW
  generalize gaX ⟨n, d⟩ (fun i => neg (f i)) m = X at *
  generalize gaS ⟨n, d⟩ (fun i => neg (f i)) m = S at *
  clear h hf hff H hd
  go_enter Tryz.func43, Tryz.ntmps43
  go_wp2_with fail
  refine CO.mono ?_
  rintro _ w1 ⟨v, rfl, hL, hg⟩
  obtain ⟨ao, cc, rfl, hRR⟩ := hL.row
  have hcm := hRR.max
  have hcl := hRR.le
  have HL : Hid (LsO w.heap.size w1 (.slice ao m cc) ⟨m, f⟩) := hL
  have HB1 : Hid (Below w.heap.size w w1) := grown_below hg
  clear hL hg CO hRR
  go_wp2_with fail
  go_loopw [12] (fun iv wr => ∃ k : Nat, k ≤ m ∧ iv = .int .i64 k ∧ Hid (LsO w.heap.size wr (.slice ao m cc) ⟨m, trn f k⟩) ∧ Hid (Below w.heap.size w wr)) (fun iv _ => m - (intOf iv).toNat)
  case atStart =>
    refine ⟨0, Nat.zero_le _, rfl, ?_, HB1⟩
    have e : trn f 0 = f := by funext i; unfold trn; rw [if_neg (by omega)]
    rw [e]
    exact HL
  case round =>
    obtain ⟨k, hk, rfl, HLk, HBW⟩ := hrel
    clear HL HB1
    have hsz := HBW.out.size
    by_cases hlt : k < m
    · have hO : Out w.heap.size wr (.slice ao m cc) m (trn f k) := by
        rcases HLk.out with h | ⟨h0, _⟩
        · exact h
        · have h0' : m = 0 := h0
          omega
      obtain ⟨g, rfl, hg1, hg2⟩ := hO.spot (by omega)
      have c0 := hO.cell hlt
      have e0 : trn f k k = f k := by unfold trn; rw [if_neg (by omega)]
      rw [e0] at c0
      obtain ⟨rk, pk⟩ := HF.out k hlt
      have CN : Hid (∀ W, Below w.heap.size w W → Calls Tryz.prog 64 #[.int .i64 (f k)] W fun e w' => e = .returned (.int .i64 (neg (f k))) ∧ Below W.heap.size W w') := fun W hW => (bitsNeg _ W (HH.out.keeps hW).env.lays rk).mono fun _ _ ⟨h1, h2⟩ => ⟨h1, h2.be⟩
      have HT : Hid (upd (trn f k) k (neg (f k)) = trn f (k + 1)) := trn_upd f k
      have HO : Hid (Out w.heap.size wr (.slice (some ⟨g, 0, none⟩) m cc) m (trn f k)) := hO
      clear hO e0 rk pk
      generalize neg (f k) = nk at *
      generalize f k = fk at *
      have i0 : (0 : Int) ≤ (k : Int) := by omega
      have i1 : (k : Int) < (m : Int) := by omega
      go_wp2_with fail
      refine (CN.out _ HBW.out).mono ?_
      rintro _ w2 ⟨rfl, hb2⟩
      have hO2 := HO.out.stays hb2
      have c2 := hO2.cell hlt
      have fz := hO2.frozen k
      have HO2 : Hid (Out w.heap.size w2 (.slice (some ⟨g, 0, none⟩) m cc) m (trn f k)) := hO2
      have HB2 : Hid (Below w.heap.size w w2) := HBW.out.trans (hb2.mono hsz)
      clear hO2 hb2
      generalize trn f k k = tk at *
      go_wp2
      go_roundw
      case rel =>
        refine ⟨k + 1, by omega, by go_num, ?_, HB2.out.setCell hg1 _⟩
        have := HO2.out.store hlt nk
        rw [HT.out] at this
        exact .inl this
      case measure => simp [intOf]; omega
    · obtain rfl : k = m := by omega
      obtain ⟨ao', cc', e1, hR⟩ := HLk.out.row
      simp only [Value.slice.injEq] at e1
      obtain ⟨rfl, _, rfl⟩ := e1
      have hR2 : Row wr ao k cc (fun i => neg (f i)) := hR.congr fun i hi => by
        show trn f k i = _
        unfold trn
        rw [if_pos hi]
      clear hR
      go_wp2_with fail
      refine (CS.out _ _ _ HBW.out hR2).mono ?_
      rintro _ w2 ⟨(⟨h1, v', rfl, h3⟩ | ⟨h1, rfl⟩), h4⟩
      · obtain ⟨ao', cc', rfl⟩ := h3.shape
        go_wp2
        go_ret
        exact ⟨.inl ⟨h1, _, rfl, h3⟩, h4⟩
      · unfold gaveX
        go_wp2
        exact ⟨rfl, .inr ⟨h1, rfl⟩, h4⟩
set_option maxRecDepth 100000 in
theorem xDiff {eo fo : Option Addr} {n ec m fc : Nat} {d f : Nat → Int} (w : World) (h : Row w eo n ec d) (hf : Row w fo m fc f) (hr : ∀ i, i < n → rng (d i)) (hrf : ∀ i, i < m → rng (f i)) (hv : xval d n = true) (hu : xval f m = true) (hn : n + m ≤ 300000) (H : Hold4 w) :
    Calls Tryz.prog 23 #[.slice eo n ec, .slice fo m fc] w fun r w' => XA w (gaX ⟨n, d⟩ (fun i => neg (f i)) m) (gaS ⟨n, d⟩ (fun i => neg (f i)) m) r w' := by
  have hEG : ∀ (cap : Array Value) (w : World), (callFunc 43 cap).run Tryz.prog w = .ok (.enter 43 cap) w := by
    intro cap w
    simp [go_sem]
  have hd : ∀ i, i < n → rng (d i) ∧ pok (d i) = true := fun i hi => ⟨hr i hi, xval_fin hv i hi⟩
  have hff : ∀ i, i < m → rng (f i) ∧ pok (f i) = true := fun i hi => ⟨hrf i hi, xval_fin hu i hi⟩
  have CW := xwl_ok 43 w (gaX ⟨n, d⟩ (fun i => neg (f i)) m) (gaS ⟨n, d⟩ (fun i => neg (f i)) m) hEG h hf hv hu H (fun W hW => xdiff_any W (h.keeps hW) (hf.keeps hW) hd hff (by omega) (H.keeps hW))
  generalize gaX ⟨n, d⟩ (fun i => neg (f i)) m = X at *
  generalize gaS ⟨n, d⟩ (fun i => neg (f i)) m = S at *
  go_enter Tryz.func23, Tryz.ntmps23
  go_wp2_with fail
  refine CW.mono ?_
  rintro _ w1 ⟨(⟨h1, v, rfl, h2⟩ | ⟨h1, rfl⟩), hb⟩
  · obtain ⟨ao, cc, rfl⟩ := h2.shape
    go_wp2
    refine bodyPost_ret (v := .tuple #[.slice ao S.n cc, .int .i64 0]) (by simp [results, Tryz.results23, go_sem]) rfl ⟨.inl ⟨h1, _, rfl, h2⟩, hb⟩
  · go_wp2
    refine bodyPost_ret (v := .tuple #[.slice none 0 0, .int .i64 14]) (by simp [results, Tryz.results23, go_sem]) rfl ⟨.inr ⟨h1, rfl⟩, hb⟩
set_option maxRecDepth 100000 in
theorem xProduct {eo fo : Option Addr} {n ec m fc : Nat} {d f : Nat → Int} (w : World) (h : Row w eo n ec d) (hf : Row w fo m fc f) (hr : ∀ i, i < n → rng (d i)) (hrf : ∀ i, i < m → rng (f i)) (hv : xval d n = true) (hu : xval f m = true) (hn : n ≤ 200) (hm : m ≤ 200) (H : Hold4 w) :
    Calls Tryz.prog 24 #[.slice eo n ec, .slice fo m fc] w fun r w' => XA w (prX d n f m) (prS d n f m) r w' := by
  have hEG : ∀ (cap : Array Value) (w : World), (callFunc 44 cap).run Tryz.prog w = .ok (.enter 44 cap) w := by
    intro cap w
    simp [go_sem]
  have hd : ∀ i, i < n → rng (d i) ∧ pok (d i) = true := fun i hi => ⟨hr i hi, xval_fin hv i hi⟩
  have hff : ∀ i, i < m → rng (f i) ∧ pok (f i) = true := fun i hi => ⟨hrf i hi, xval_fin hu i hi⟩
  have CW := xwl_ok 44 w (prX d n f m) (prS d n f m) hEG h hf hv hu H (fun W hW => xproduct_any W (h.keeps hW) (hf.keeps hW) hd hff hn hm (H.keeps hW))
  generalize prX d n f m = X at *
  generalize prS d n f m = S at *
  go_enter Tryz.func24, Tryz.ntmps24
  go_wp2_with fail
  refine CW.mono ?_
  rintro _ w1 ⟨(⟨h1, v, rfl, h2⟩ | ⟨h1, rfl⟩), hb⟩
  · obtain ⟨ao, cc, rfl⟩ := h2.shape
    go_wp2
    refine bodyPost_ret (v := .tuple #[.slice ao S.n cc, .int .i64 0]) (by simp [results, Tryz.results24, go_sem]) rfl ⟨.inl ⟨h1, _, rfl, h2⟩, hb⟩
  · go_wp2
    refine bodyPost_ret (v := .tuple #[.slice none 0 0, .int .i64 14]) (by simp [results, Tryz.results24, go_sem]) rfl ⟨.inr ⟨h1, rfl⟩, hb⟩
set_option maxRecDepth 100000 in
set_option maxHeartbeats 1000000 in
theorem xwl_bad2 (G : Nat) {eo fo : Option Addr} {n ec m fc : Nat} {d f : Nat → Int} (w : World) (h : Row w eo n ec d) (hf : Row w fo m fc f) (hv : xval d n = true) (hu : xval f m = false) (H : Hold4 w) :
    Calls Tryz.prog 41 #[.slice eo n ec, .slice fo m fc, .func (.func G) #[] #[]] w fun r w' => r = .returned (.tuple #[.slice none 0 0, .int .i64 1]) ∧ Below w.heap.size w w' := by
  have hmf : ∀ (fn : Fn) (first cap : Array Value) (w : World), (Instr.makeFunc fn first cap).run Tryz.prog w = .ok (.func fn first cap) w := fun _ _ _ _ => rfl
  have hst : ∀ p F m w, (store p (.func (.func F) #[] #[]) m).run Tryz.prog w = stored Tryz.prog w p (.func (.func F) #[] #[]) m := fun p F m w => run_store _ w p _ m rfl
  have hE : ∀ (cap : Array Value) (w : World), (callFunc 62 cap).run Tryz.prog w = .ok (.enter 62 cap) w := by
    intro cap w
    simp [go_sem]
  have k0 := h3_0 w (.cells #[.slice eo n ec] 22) (.cells #[.slice fo m fc] 22) (.cells #[.func (.func G) #[] #[]] 61)
  have k1 := h3_1 w (.cells #[.slice eo n ec] 22) (.cells #[.slice fo m fc] 22) (.cells #[.func (.func G) #[] #[]] 61)
  have k2 := h3_2 w (.cells #[.slice eo n ec] 22) (.cells #[.slice fo m fc] 22) (.cells #[.func (.func G) #[] #[]] 61)
  have hb0 := bel_a3 w (.cells #[.slice eo n ec] 22) (.cells #[.slice fo m fc] 22) (.cells #[.func (.func G) #[] #[]] 61)
  have CV := fun W hW => xvalid_any W (h.keeps hW) (H.keeps hW)
  rw [hv] at CV
  go_enter Tryz.func41, Tryz.ntmps41
  go_wp2_with fail
  generalize ((w.alloc (.cells #[.slice eo n ec] 22)).alloc (.cells #[.slice fo m fc] 22)).alloc (.cells #[.func (.func G) #[] #[]] 61) = x0 at k0 k1 k2 hb0 ⊢
  refine (CV _ hb0).mono ?_
  rintro _ y1 ⟨rfl, hw1⟩
  have k1 := (hw1.block _ (Array.getElem?_eq_some_iff.1 k1).1).trans k1
  have c1 := blkC k1 0 rfl
  have hbA := bel_trans hb0 hw1
  have CU := xvalid_any _ (hf.keeps hbA) (H.keeps hbA)
  rw [hu] at CU
  go_wp2_with fail
  refine CU.mono ?_
  rintro _ y2 ⟨rfl, hw2⟩
  go_wp2
  all_goals refine bodyPost_ret (v := .tuple #[.slice none 0 0, .int .i64 1]) (by simp [results, Tryz.results41, go_sem]) rfl ⟨rfl, by first | exact bel_trans hbA hw2 | exact (bel_trans hbA hw2).drew⟩
set_option maxRecDepth 100000 in
theorem xSum_badA {eo fo : Option Addr} {n ec m fc : Nat} {d f : Nat → Int} (w : World) (h : Row w eo n ec d) (hf : Row w fo m fc f) (hv : xval d n = false) (H : Hold4 w) :
    Calls Tryz.prog 22 #[.slice eo n ec, .slice fo m fc] w fun r w' => r = .returned (.tuple #[.slice none 0 0, .int .i64 1]) ∧ Below w.heap.size w w' := by
  have CW := xwl_bad 42 w h hf hv H
  go_enter Tryz.func22, Tryz.ntmps22
  go_wp2_with fail
  refine CW.mono ?_
  rintro _ w1 ⟨rfl, hb⟩
  go_wp2
  refine bodyPost_ret (v := .tuple #[.slice none 0 0, .int .i64 1]) (by simp [results, Tryz.results22, go_sem]) rfl ⟨rfl, hb⟩
set_option maxRecDepth 100000 in
theorem xSum_badB {eo fo : Option Addr} {n ec m fc : Nat} {d f : Nat → Int} (w : World) (h : Row w eo n ec d) (hf : Row w fo m fc f) (hv : xval d n = true) (hu : xval f m = false) (H : Hold4 w) :
    Calls Tryz.prog 22 #[.slice eo n ec, .slice fo m fc] w fun r w' => r = .returned (.tuple #[.slice none 0 0, .int .i64 1]) ∧ Below w.heap.size w w' := by
  have CW := xwl_bad2 42 w h hf hv hu H
  go_enter Tryz.func22, Tryz.ntmps22
  go_wp2_with fail
  refine CW.mono ?_
  rintro _ w1 ⟨rfl, hb⟩
  go_wp2
  refine bodyPost_ret (v := .tuple #[.slice none 0 0, .int .i64 1]) (by simp [results, Tryz.results22, go_sem]) rfl ⟨rfl, hb⟩
set_option maxRecDepth 100000 in
theorem xDiff_badA {eo fo : Option Addr} {n ec m fc : Nat} {d f : Nat → Int} (w : World) (h : Row w eo n ec d) (hf : Row w fo m fc f) (hv : xval d n = false) (H : Hold4 w) :
    Calls Tryz.prog 23 #[.slice eo n ec, .slice fo m fc] w fun r w' => r = .returned (.tuple #[.slice none 0 0, .int .i64 1]) ∧ Below w.heap.size w w' := by
  have CW := xwl_bad 43 w h hf hv H
  go_enter Tryz.func23, Tryz.ntmps23
  go_wp2_with fail
  refine CW.mono ?_
  rintro _ w1 ⟨rfl, hb⟩
  go_wp2
  refine bodyPost_ret (v := .tuple #[.slice none 0 0, .int .i64 1]) (by simp [results, Tryz.results23, go_sem]) rfl ⟨rfl, hb⟩
set_option maxRecDepth 100000 in
theorem xDiff_badB {eo fo : Option Addr} {n ec m fc : Nat} {d f : Nat → Int} (w : World) (h : Row w eo n ec d) (hf : Row w fo m fc f) (hv : xval d n = true) (hu : xval f m = false) (H : Hold4 w) :
    Calls Tryz.prog 23 #[.slice eo n ec, .slice fo m fc] w fun r w' => r = .returned (.tuple #[.slice none 0 0, .int .i64 1]) ∧ Below w.heap.size w w' := by
  have CW := xwl_bad2 43 w h hf hv hu H
  go_enter Tryz.func23, Tryz.ntmps23
  go_wp2_with fail
  refine CW.mono ?_
  rintro _ w1 ⟨rfl, hb⟩
  go_wp2
  refine bodyPost_ret (v := .tuple #[.slice none 0 0, .int .i64 1]) (by simp [results, Tryz.results23, go_sem]) rfl ⟨rfl, hb⟩
set_option maxRecDepth 100000 in
theorem xProduct_badA {eo fo : Option Addr} {n ec m fc : Nat} {d f : Nat → Int} (w : World) (h : Row w eo n ec d) (hf : Row w fo m fc f) (hv : xval d n = false) (H : Hold4 w) :
    Calls Tryz.prog 24 #[.slice eo n ec, .slice fo m fc] w fun r w' => r = .returned (.tuple #[.slice none 0 0, .int .i64 1]) ∧ Below w.heap.size w w' := by
  have CW := xwl_bad 44 w h hf hv H
  go_enter Tryz.func24, Tryz.ntmps24
  go_wp2_with fail
  refine CW.mono ?_
  rintro _ w1 ⟨rfl, hb⟩
  go_wp2
  refine bodyPost_ret (v := .tuple #[.slice none 0 0, .int .i64 1]) (by simp [results, Tryz.results24, go_sem]) rfl ⟨rfl, hb⟩
set_option maxRecDepth 100000 in
theorem xProduct_badB {eo fo : Option Addr} {n ec m fc : Nat} {d f : Nat → Int} (w : World) (h : Row w eo n ec d) (hf : Row w fo m fc f) (hv : xval d n = true) (hu : xval f m = false) (H : Hold4 w) :
    Calls Tryz.prog 24 #[.slice eo n ec, .slice fo m fc] w fun r w' => r = .returned (.tuple #[.slice none 0 0, .int .i64 1]) ∧ Below w.heap.size w w' := by
  have CW := xwl_bad2 44 w h hf hv hu H
  go_enter Tryz.func24, Tryz.ntmps24
  go_wp2_with fail
  refine CW.mono ?_
  rintro _ w1 ⟨rfl, hb⟩
  go_wp2
  refine bodyPost_ret (v := .tuple #[.slice none 0 0, .int .i64 1]) (by simp [results, Tryz.results24, go_sem]) rfl ⟨rfl, hb⟩
end Go.Proofs.YtjlmpgbadgkgmaaGreatDoor
