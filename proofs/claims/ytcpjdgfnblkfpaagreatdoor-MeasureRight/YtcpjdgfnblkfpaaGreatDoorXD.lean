/-
  Package expansion: difference, product, by their contracts.
-/
import Derived.Test.YtcpjdgfnblkfpaaGreatDoorXPg
import Derived.Test.YtcpjdgfnblkfpaaGreatDoorXPs
import Derived.Test.YtcpjdgfnblkfpaaGreatDoorP7M
import Derived.Test.YtcpjdgfnblkfpaaGreatDoorXI
namespace Go.Proofs.YtcpjdgfnblkfpaaGreatDoor
open Go Go.RowKit Go.Proofs.YtcpjdgfnblkfpaaGreatDoor.M
set_option linter.unusedSimpArgs false
set_option linter.unusedVariables false

/-- scale, behind an empty list of the call's own. -/
theorem xscaleP_any {P : Nat → Prop} {v : Value} {d0 : Nat → Int} {eo : Option Addr} {n ec : Nat} {d : Nat → Int} {b : Int} (w : World) (h : OutP P w v ⟨0, d0⟩) (hE : ∀ W, BelP P w W → Row W eo n ec d) (hd : ∀ i, i < n → rng (d i) ∧ pok (d i) = true) (hb : rng b) (pb : pok b = true) (hn : n ≤ 300000) (hP : PB P w) (H : ∀ W, BelP P w W → Hold4 W) :
    Calls Tryz.prog 85 #[v, .slice eo n ec, .int .i64 b] w fun e w' => (sxN d b n = true ∧ ∃ (v' : Value) (s : Ls), e = .returned v' ∧ OutP P w' v' s ∧ s.same (sclN d b n) ∧ BelP P w w') ∨ (sxN d b n = false ∧ e = gaveX ∧ BelP P w w') := by
  have hmx := (hE w (BelP.refl _ _)).max
  have hle := (hE w (BelP.refl _ _)).le
  cases n with
  | zero =>
    refine (xscale_empty w).mono ?_
    rintro e w' ⟨rfl, hw⟩
    subst hw
    exact .inl ⟨rfl, v, _, rfl, h, ⟨rfl, fun i hi => absurd hi (Nat.not_lt_zero _)⟩, BelP.refl _ _⟩
  | succ n =>
    by_cases h0 : rg b = 0
    · have e1 : sxN d b (n + 1) = true := if_pos h0
      have e2 : sclN d b (n + 1) = ⟨0, fun _ => 0⟩ := if_pos h0
      rw [e1, e2]
      refine (xscale_nought w hb h0 (by omega)).mono ?_
      rintro e w' ⟨rfl, hw⟩
      subst hw
      exact .inl ⟨rfl, v, _, rfl, h, ⟨rfl, fun i hi => absurd hi (Nat.not_lt_zero _)⟩, BelP.refl _ _⟩
    · have e1 : sxN d b (n + 1) = sx d b n := if_neg h0
      have e2 : sclN d b (n + 1) = scl ⟨0, fun _ => 0⟩ d b n := if_neg h0
      rw [e1, e2]
      refine (xscaleP w h hE (fun i hi => hd i (by omega)) hb pb h0 (show 0 + 2 * n ≤ 700000 by omega) hP H).mono ?_
      rintro e w' (⟨h1, v', h2, h3, h4⟩ | ⟨h1, h2, h3⟩)
      · refine .inl ⟨h1, v', _, h2, h3, ?_, h4⟩
        exact (ss_same (s := ⟨0, d0⟩) (t := ⟨0, fun _ => 0⟩) ⟨rfl, fun i hi => absurd hi (Nat.not_lt_zero _)⟩ d b n).add _
      · exact .inr ⟨h1, h2, h3⟩
/-- Product: the list so far; were all exact? -/
def prS (d : Nat → Int) (n : Nat) (f : Nat → Int) : Nat → Ls
  | 0 => ⟨0, fun _ => 0⟩
  | k + 1 => gaS (prS d n f k) (sclN d (f k) n).d (sclN d (f k) n).n
def prX (d : Nat → Int) (n : Nat) (f : Nat → Int) : Nat → Bool
  | 0 => true
  | k + 1 => prX d n f k && (sxN d (f k) n && gaX (prS d n f k) (sclN d (f k) n).d (sclN d (f k) n).n)
theorem prS_succ (d : Nat → Int) (n : Nat) (f : Nat → Int) (k : Nat) : prS d n f (k + 1) = gaS (prS d n f k) (sclN d (f k) n).d (sclN d (f k) n).n := rfl
theorem prX_succ (d : Nat → Int) (n : Nat) (f : Nat → Int) (k : Nat) : prX d n f (k + 1) = (prX d n f k && (sxN d (f k) n && gaX (prS d n f k) (sclN d (f k) n).d (sclN d (f k) n).n)) := rfl
theorem prS_le (d : Nat → Int) (n : Nat) (f : Nat → Int) : ∀ k, (prS d n f k).n ≤ 2 * n * k
  | 0 => Nat.zero_le _
  | k + 1 => by
    have h1 := prS_le d n f k
    have h2 := gaS_le (prS d n f k) (sclN d (f k) n).d (sclN d (f k) n).n
    have h3 := sclN_le d (f k) n
    rw [prS_succ, Nat.mul_add]
    omega
theorem prX_mono {d : Nat → Int} {n : Nat} {f : Nat → Int} : ∀ {k j}, j ≤ k → prX d n f k = true → prX d n f j = true
  | 0, j, h, hx => by
    obtain rfl : j = 0 := by omega
    rfl
  | k + 1, j, h, hx => by
    by_cases e : j = k + 1
    · subst e; exact hx
    · rw [prX_succ, Bool.and_eq_true] at hx
      exact prX_mono (by omega) hx.1
theorem ss_fin {s : Ls} {d : Nat → Int} {b : Int} {n : Nat} (hs : s.fin) (hd : ∀ i, i ≤ n → rng (d i) ∧ pok (d i) = true) (hb : rng b) : ∀ k, k ≤ n → sx d b k = true → (ss s d b k).fin
  | 0, _, hx => hs.add (prL_rng (hd 0 (by omega)).1 hb) (pX_fin (hd 0 (by omega)).1 hb hx).2
  | k + 1, hk, hx => by
    rw [sx_succ, Bool.and_eq_true, Bool.and_eq_true, Bool.and_eq_true] at hx
    obtain ⟨h1, h2, h3, h4⟩ := hx
    obtain ⟨r1, r2⟩ := sq_fin hd hb k (by omega) h1
    obtain ⟨d1, d2⟩ := hd (k + 1) hk
    rw [ss_succ]
    exact ((ss_fin hs hd hb k (by omega) h1).add (sL_rng r1 (prL_rng d1 hb)) h3).add (fL_rng (fprod_rng d1 hb) (fsum_rng r1 (prL_rng d1 hb))) (fX_fin (fprod_rng d1 hb) (fsum_rng r1 (prL_rng d1 hb)) h4).2
theorem sclN_fin {d : Nat → Int} {b : Int} {n : Nat} (hd : ∀ i, i < n → rng (d i) ∧ pok (d i) = true) (hb : rng b) (hx : sxN d b n = true) : (sclN d b n).fin := by
  cases n with
  | zero => exact fun i hi => absurd hi (Nat.not_lt_zero _)
  | succ n =>
    by_cases h0 : rg b = 0
    · have e2 : sclN d b (n + 1) = ⟨0, fun _ => 0⟩ := if_pos h0
      rw [e2]
      exact fun i hi => absurd hi (Nat.not_lt_zero _)
    · have e1 : sxN d b (n + 1) = sx d b n := if_neg h0
      have e2 : sclN d b (n + 1) = scl ⟨0, fun _ => 0⟩ d b n := if_neg h0
      rw [e1] at hx
      rw [e2]
      have hd' : ∀ i, i ≤ n → rng (d i) ∧ pok (d i) = true := fun i hi => hd i (by omega)
      obtain ⟨r1, r2⟩ := sq_fin hd' hb n (Nat.le_refl _) hx
      exact (ss_fin (fun i hi => absurd hi (Nat.not_lt_zero _)) hd' hb n (Nat.le_refl _) hx).add r1 r2
theorem prS_fin {d : Nat → Int} {n : Nat} {f : Nat → Int} {m : Nat} (hd : ∀ i, i < n → rng (d i) ∧ pok (d i) = true) (hf : ∀ i, i < m → rng (f i) ∧ pok (f i) = true) : ∀ k, k ≤ m → prX d n f k = true → (prS d n f k).fin
  | 0, _, _ => fun i hi => absurd hi (Nat.not_lt_zero _)
  | k + 1, hk, hx => by
    rw [prX_succ, Bool.and_eq_true, Bool.and_eq_true] at hx
    obtain ⟨h1, h2, h3⟩ := hx
    rw [prS_succ]
    exact gaS_fin (prS_fin hd hf k (by omega) h1) (sclN_fin hd (hf k (by omega)).1 h2) _ (Nat.le_refl _) h3
theorem Ls.same.fin {s t : Ls} (h : s.same t) (ht : t.fin) : s.fin := fun i hi => by
  rw [h.2 i hi]
  exact ht i (by rw [← h.1]; exact hi)
theorem BelP.below {P : Nat → Prop} {N : Nat} {w w' : World} (h : BelP P w w') (hP : ∀ k, k < N → P k) : Below N w w' := ⟨h.os, h.tape, h.output, h.size, fun k hk => h.block k (hP k hk)⟩
theorem Out.belP {P : Nat → Prop} {N : Nat} {w w' : World} {v : Value} {n : Nat} {d : Nat → Int} (h : Out N w v n d) (hb : BelP P w w') (hP : ∀ g, v.ownBlock = some g → P g) : Out N w' v n d := h.of_block fun g hg => hb.block g (hP g hg)
theorem OutP.raise {P : Nat → Prop} {N : Nat} {w : World} {v : Value} {s : Ls} (h : OutP P w v s) (hP : ∀ k, k < N → P k) : Out N w v s.n s.d := by
  have h1 := h.1
  rcases h1.2 with q | ⟨g, cap, cur, q1, _, q3⟩
  · exact ⟨h1.1, .inl q⟩
  · refine ⟨h1.1, .inr ⟨g, cap, cur, q1, ?_, q3⟩⟩
    have h2 := h.2 g (by rw [q1]; rfl)
    exact Nat.le_of_not_lt fun e => h2 (hP g e)
set_option maxRecDepth 100000 in
set_option maxHeartbeats 2000000 in
theorem xproduct_any {eo fo : Option Addr} {n ec m fc : Nat} {d f : Nat → Int} (w : World) (h : Row w eo n ec d) (hf : Row w fo m fc f) (hd : ∀ i, i < n → rng (d i) ∧ pok (d i) = true) (hff : ∀ i, i < m → rng (f i) ∧ pok (f i) = true) (hn : n ≤ 200) (hm : m ≤ 200) (H : Hold4 w) :
    Calls Tryz.prog 56 #[.slice eo n ec, .slice fo m fc] w fun r w' => XR w (prX d n f m) (prS d n f m) r w' := by
  have hle := hf.le
  have hmx := hf.max
  have HE : Hid (Row w eo n ec d) := h
  have HF : Hid (Row w fo m fc f) := hf
  have HD : Hid (∀ i, i < n → rng (d i) ∧ pok (d i) = true) := hd
  have HFF : Hid (∀ i, i < m → rng (f i) ∧ pok (f i) = true) := hff
  have HH : Hid (Hold4 w) := H
  have HSF : Hid (∀ k, k ≤ m → prX d n f k = true → (prS d n f k).fin) := prS_fin hd hff
  have HSL : Hid (∀ k, k ≤ m → (prS d n f k).n ≤ 80000) := fun k hk => Nat.le_trans (prS_le d n f k) (by
    have : 2 * n * k ≤ 2 * 200 * 200 := Nat.mul_le_mul (by omega) (by omega)
    omega)
  clear h hf hd hff H
  go_enter Tryz.func56, Tryz.ntmps56
  go_wp2_with fail
  go_loopw [5, 6, 11] (fun hv pv iv wr => ∃ (k : Nat) (vh vp : Value) (sh sp : Ls), k ≤ m ∧ iv = .int .i64 k ∧ hv = vh ∧ pv = vp ∧ Hid (prX d n f k = true) ∧ Hid (sh.same (prS d n f k)) ∧ Hid (Out w.heap.size wr vh sh.n sh.d) ∧ Hid (Out w.heap.size wr vp sp.n sp.d) ∧ Hid (∀ g, vp.ownBlock = some g → vh.ownBlock ≠ some g) ∧ Hid (Below w.heap.size w wr)) (fun _ _ iv _ => m - (intOf iv).toNat)
  case atStart => exact ⟨0, _, _, ⟨0, fun _ => 0⟩, ⟨0, fun _ => 0⟩, Nat.zero_le _, rfl, rfl, rfl, rfl, Ls.same.refl _, Out.nil _ _ _, Out.nil _ _ _, fun g hg => (by cases hg), Below.refl _ _⟩
  case round =>
    obtain ⟨k, vh, vp, sh, sp, hk, rfl, hve, hvp, HX, HS, HOH, HOP, HAP, HBW⟩ := hrel
    replace hve := hve.symm
    subst hve
    replace hvp := hvp.symm
    subst hvp
    by_cases hlt : k < m
    · obtain ⟨bb, off, rfl, hbb, hc⟩ := (HF.out.keeps HBW.out).spot (by omega)
      have c0 := hc k hlt
      clear hc
      obtain ⟨f1, f2⟩ := HFF.out k hlt
      obtain ⟨po, pc, rfl, hpr⟩ := HOP.out.row
      obtain ⟨ho, hcap, rfl, hhr⟩ := HOH.out.row
      have hpm := hpr.max
      have hpl := hpr.le
      clear hpr hhr
      have hsz := HBW.out.size
      have hfin := HS.out.fin (HSF.out k hk HX.out)
      have hn1 : sh.n ≤ 80000 := by rw [HS.out.1]; exact HSL.out k hk
      have HPB : Hid (PB (fun j => j < w.heap.size ∨ (Value.slice ho sh.n hcap).ownBlock = some j) wr) := fun j hj => by
        rcases hj with hj | hj
        · omega
        · exact (HOH.out.ge hj).2
      have CS : Hid (∀ W, W = wr → Calls Tryz.prog 85 #[.slice po 0 pc, .slice eo n ec, .int .i64 (f k)] W fun e w' => (sxN d (f k) n = true ∧ ∃ (v' : Value) (s : Ls), e = .returned v' ∧ OutP (fun j => j < w.heap.size ∨ (Value.slice ho sh.n hcap).ownBlock = some j) w' v' s ∧ s.same (sclN d (f k) n) ∧ BelP (fun j => j < w.heap.size ∨ (Value.slice ho sh.n hcap).ownBlock = some j) W w') ∨ (sxN d (f k) n = false ∧ e = gaveX ∧ BelP (fun j => j < w.heap.size ∨ (Value.slice ho sh.n hcap).ownBlock = some j) W w')) := fun W hW => by
        subst hW
        refine xscaleP_any (d0 := sp.d) W ⟨(HOP.out.cut (Nat.zero_le _)).lower (Nat.zero_le _), fun j hj => ?_⟩ (fun W' hW' => HE.out.keeps (HBW.out.trans (hW'.below fun j hj => .inl hj))) HD.out f1 f2 (by omega) HPB.out (fun W' hW' => HH.out.keeps (HBW.out.trans (hW'.below fun j hj => .inl hj)))
        have hj' : (Value.slice po sp.n pc).ownBlock = some j := by cases po <;> exact hj
        rintro (h | h)
        · have := (HOP.out.ge hj').1
          omega
        · exact HAP.out j hj' h
      have HXS : Hid (prX d n f (k + 1) = (prX d n f k && (sxN d (f k) n && gaX (prS d n f k) (sclN d (f k) n).d (sclN d (f k) n).n))) := prX_succ d n f k
      have HSS : Hid (prS d n f (k + 1) = gaS (prS d n f k) (sclN d (f k) n).d (sclN d (f k) n).n) := prS_succ d n f k
      have HNO : Hid (prX d n f (k + 1) = false → prX d n f m = false) := fun hno => by
        cases hx : prX d n f m
        · rfl
        · rw [prX_mono (show k + 1 ≤ m by omega) hx] at hno; cases hno
      have hn2 := sclN_le d (f k) n
      have HCF : Hid (sxN d (f k) n = true → (sclN d (f k) n).fin) := sclN_fin HD.out f1
      generalize sclN d (f k) n = SC at *
      generalize sxN d (f k) n = SX at *
      generalize f k = fk at *
      have i0 : (0 : Int) ≤ (k : Int) := by omega
      have i1 : (k : Int) < (m : Int) := by omega
      go_wp2_with fail
      refine (CS.out _ rfl).mono ?_
      rintro _ w1 (⟨h1, v1, s1, rfl, hO1, hS1, hb1⟩ | ⟨h1, rfl, hb1⟩)
      · obtain ⟨qo, qc, rfl⟩ := hO1.shape
        have hO1N : Out w.heap.size w1 (.slice qo s1.n qc) s1.n s1.d := hO1.raise fun j hj => .inl hj
        have hH1 : Out w.heap.size w1 (.slice ho sh.n hcap) sh.n sh.d := HOH.out.belP hb1 fun g hg => .inr hg
        have hB1 : Below w.heap.size w w1 := HBW.out.trans (hb1.below fun j hj => .inl hj)
        have hap1 : ∀ g, (Value.slice qo s1.n qc).ownBlock = some g → (Value.slice ho sh.n hcap).ownBlock ≠ some g := fun g hg e => hO1.2 g hg (.inr e)
        have hs1f : s1.fin := hS1.fin (HCF.out h1)
        have hs1n := hS1.1
        have HGS : Hid ((gaS sh s1.d s1.n).same (gaS (prS d n f k) SC.d SC.n) ∧ gaX sh s1.d s1.n = gaX (prS d n f k) SC.d SC.n) := by
          have := gaS_same HS.out (m := s1.n) (f := s1.d) (g := SC.d) hS1.2 s1.n (Nat.le_refl _)
          show _ ∧ _
          rw [← hS1.1]
          exact this
        have CG : Calls Tryz.prog 82 #[.slice ho sh.n hcap, .slice qo s1.n qc] w1 fun e w' => (gaX sh s1.d s1.n = true ∧ ∃ v', e = .returned v' ∧ OutP (fun j => j < w.heap.size ∨ (Value.slice qo s1.n qc).ownBlock = some j) w' v' (gaS sh s1.d s1.n) ∧ BelP (fun j => j < w.heap.size ∨ (Value.slice qo s1.n qc).ownBlock = some j) w1 w') ∨ (gaX sh s1.d s1.n = false ∧ e = gaveX ∧ BelP (fun j => j < w.heap.size ∨ (Value.slice qo s1.n qc).ownBlock = some j) w1 w') := by
          refine xgatherP w1 ⟨hH1.lower (Nat.zero_le _), fun j hj => ?_⟩ hfin (fun W hW => ?_) hs1f (by omega) (fun j hj => ?_)
          · rintro (h | h)
            · have := (hH1.ge hj).1
              omega
            · exact hap1 j h hj
          · obtain ⟨_, _, e1, hR⟩ := (hO1N.belP hW fun g hg => .inr hg).row
            simp only [Value.slice.injEq] at e1
            obtain ⟨rfl, _, rfl⟩ := e1
            exact hR
          · rcases hj with hj | hj
            · have := hB1.size
              omega
            · exact (hO1N.ge hj).2
        have HO1 : Hid (Out w.heap.size w1 (.slice qo s1.n qc) s1.n s1.d) := hO1N
        have HB1 : Hid (Below w.heap.size w w1) := hB1
        have H1 : Hid (SX = true) := h1
        clear hO1 hO1N hH1 hap1 hb1 hS1 hs1n hs1f h1 hfin CS
        generalize gaX sh s1.d s1.n = GX at *
        generalize gaS sh s1.d s1.n = GS at *
        go_wp2_with fail
        refine CG.mono ?_
        rintro _ w2 (⟨h2, v2, rfl, hO2, hb2⟩ | ⟨h2, rfl, hb2⟩)
        · obtain ⟨_, _, rfl⟩ := hO2.shape
          go_wp2
          go_roundw
          case rel => exact ⟨k + 1, _, _, GS, s1, by omega, by go_num, rfl, rfl, by show _ = _; rw [HXS.out, HX.out, H1.out, ← HGS.out.2, h2]; rfl, by show Ls.same _ _; rw [HSS.out]; exact HGS.out.1, hO2.raise fun j hj => .inl hj, HO1.out.belP hb2 fun g hg => .inr hg, fun g hg e => hO2.2 g e (.inr hg), HB1.out.trans (hb2.below fun j hj => .inl hj)⟩
          case measure => simp [intOf]; omega
        · unfold gaveX
          go_wp2
          exact ⟨rfl, .inr ⟨HNO.out (by rw [HXS.out, H1.out, ← HGS.out.2, h2]; simp), rfl⟩, HB1.out.trans (hb2.below fun j hj => .inl hj)⟩
      · unfold gaveX
        go_wp2
        exact ⟨rfl, .inr ⟨HNO.out (by rw [HXS.out, h1, Bool.false_and, Bool.and_false]), rfl⟩, HBW.out.trans (hb1.below fun j hj => .inl hj)⟩
    · obtain rfl : k = m := by omega
      obtain ⟨ho, hcap, rfl, hhr⟩ := HOH.out.row
      clear hhr
      go_wp2
      go_ret
      refine ⟨.inl ⟨HX.out, _, rfl, .inl ?_⟩, HBW.out⟩
      have := HOH.out.congr HS.out.2
      rw [HS.out.1] at this ⊢
      exact this
end Go.Proofs.YtcpjdgfnblkfpaaGreatDoor
