/-
  Parts of the proof, one behind another.
-/
import Derived.Test.YtmgndnabaemgkaaDoorPart13
import Derived.Test.YtmgndnabaemgkaaDoorPart14
import Derived.Test.YtmgndnabaemgkaaDoorPart7
import Derived.Test.YtmgndnabaemgkaaDoorPart6
import Derived.Laws.MakeOwn
import Derived.Test.YtmgndnabaemgkaaDoorPart12
import Derived.Test.YtmgndnabaemgkaaDoorPart8
/-
  plumblaw7.made of at most six floats, by its contract; what it makes, for products.
-/
namespace Go.Proofs.YtmgndnabaemgkaaDoor
open Go Go.RowKit Go.Proofs.YtmgndnabaemgkaaDoor.M
set_option linter.unusedSimpArgs false
set_option linter.unusedVariables false

def mdT (z : Nat → Int) (l : Nat) : Ls := gaS ⟨0, fun _ => 0⟩ (fun i => mdb (z i)) (min l 6)
theorem gs_dv {d : Nat → Int} {q : Int} {n s : Nat} (hd : ∀ i, i < n → rng (d i) ∧ pok (d i) = true) (hq : rng q) (pq : pok q = true) (vd : ∀ i, i < n → (2 ^ s : Int) ∣ iV (d i)) (vq : (2 ^ s : Int) ∣ iV q) : ∀ k, k ≤ n → gx d q k = true → (2 ^ s : Int) ∣ iV (gq d q k) ∧ ∀ i, i < (gs d q k).n → (2 ^ s : Int) ∣ iV ((gs d q k).d i)
  | 0, _, _ => ⟨vq, fun i hi => absurd hi (Nat.not_lt_zero _)⟩
  | k + 1, hk, hx => by
    have hx' : (gx d q k && pok (gl d q k)) = true := hx
    rw [Bool.and_eq_true] at hx'
    obtain ⟨h1, h2⟩ := gs_dv hd hq pq vd vq k (by omega) hx'.1
    obtain ⟨r1, r2⟩ := gq_fin hd hq pq k (by omega) hx'.1
    obtain ⟨d1, d2⟩ := hd k (by omega)
    have f2 : pok (sL (gq d q k) (d k)) = true := hx'.2
    have nr := fsum_nr r1 d1 f2
    have e := (sL_exact r1 d1 f2).2.2
    have h3 : (2 ^ s : Int) ∣ iV (gq d q k) + iV (d k) := Int.dvd_add h1 (vd k (by omega))
    have h4 := nr_dvd nr h3
    refine ⟨h4, ?_⟩
    show ∀ i, i < ((gs d q k).add (gl d q k)).n → (2 ^ s : Int) ∣ iV (((gs d q k).add (gl d q k)).d i)
    refine add_all (fun x => (2 ^ s : Int) ∣ iV x) h2 fun _ => ?_
    show (2 ^ s : Int) ∣ iV (sL (gq d q k) (d k))
    have : iV (sL (gq d q k) (d k)) = iV (gq d q k) + iV (d k) - iV (fsum (gq d q k) (d k)) := by omega
    rw [this]
    exact Int.dvd_sub h3 h4
theorem gaS_dv {s : Ls} {f : Nat → Int} {m g : Nat} (hs : s.fin) (hf : ∀ i, i < m → rng (f i) ∧ pok (f i) = true) (vs : ∀ i, i < s.n → (2 ^ g : Int) ∣ iV (s.d i)) (vf : ∀ i, i < m → (2 ^ g : Int) ∣ iV (f i)) : ∀ k, k ≤ m → gaX s f k = true → ∀ i, i < (gaS s f k).n → (2 ^ g : Int) ∣ iV ((gaS s f k).d i)
  | 0, _, _ => vs
  | k + 1, hk, hx => by
    rw [gaX_succ, Bool.and_eq_true] at hx
    have ih := gaS_dv hs hf vs vf k (by omega) hx.1
    have hfin := gaS_fin hs hf k (by omega) hx.1
    obtain ⟨f1, f2⟩ := hf k (by omega)
    obtain ⟨h1, h2⟩ := gs_dv hfin f1 f2 ih (vf k (by omega)) (gaS s f k).n (Nat.le_refl _) hx.2
    rw [gaS_succ]
    show ∀ i, i < ((gs (gaS s f k).d (f k) (gaS s f k).n).add (gq (gaS s f k).d (f k) (gaS s f k).n)).n → _
    exact add_all (fun x => (2 ^ g : Int) ∣ iV x) h2 fun _ => h1
theorem mid_dv (z : Int) : (2 ^ 822 : Int) ∣ iV (mdb z) := by
  obtain ⟨h1, hp, _, _⟩ := mid_facts z
  have h2 := (mid_fld z).2
  have hf0 : fld (mdb z) ≠ 2047 := by omega
  have hf1 : fld (mdb z) ≠ 0 := by omega
  have e2 : pexp (mdb z) = fld (mdb z) - 1075 := by unfold pexp; rw [if_neg hf0, if_neg hf1]
  apply Int.dvd_natAbs.1
  rw [iV_form h1 hp]
  have hx : 822 ≤ (pexp (mdb z) + 1074).toNat := by rw [e2]; omega
  exact Int.dvd_trans (p2dvd hx) ⟨pmag (mdb z), by rw [Int.mul_comm]⟩
/-- What is known of an expansion that made made of six. -/
structure Mt (E : Ls) : Prop where
  xv : XV E.d E.n
  mid : ∀ j, j < E.n → Mid (E.d j)
  le : E.n ≤ 6
theorem mt_of (z : Nat → Int) (l : Nat) : Mt (mdT z l) := by
  have hf : ∀ i, i < 6 → rng ((fun i => mdb (z i)) i) ∧ pok ((fun i => mdb (z i)) i) = true := fun i _ => ⟨(mid_facts (z i)).1, (mid_facts (z i)).2.1⟩
  obtain ⟨h1, h2, h3, _⟩ := gaS_all3 (s := ⟨0, fun _ => 0⟩) (f := fun i => mdb (z i)) (m := 6) (b := 1130) ⟨fun i hi => absurd hi (Nat.not_lt_zero _), fun i hi => absurd hi (Nat.not_lt_zero _)⟩ hf (fun i hi => absurd hi (Nat.not_lt_zero _)) (fun i _ => (mid_facts (z i)).2.2.2) (by decide) (min l 6) (by omega)
  have h4 := gaS_dv (s := ⟨0, fun _ => 0⟩) (f := fun i => mdb (z i)) (m := 6) (g := 822) (fun i hi => absurd hi (Nat.not_lt_zero _)) hf (fun i hi => absurd hi (Nat.not_lt_zero _)) (fun i _ => mid_dv (z i)) (min l 6) (by omega) h1
  have h5 : (mdT z l).n ≤ 0 + min l 6 := gaS_le ⟨0, fun _ => 0⟩ (fun i => mdb (z i)) (min l 6)
  exact ⟨h2, fun j hj => ⟨(h2.fin j hj).1, (h2.fin j hj).2.1, (h2.fin j hj).2.2, h4 j hj, p2_up (h3 j hj) (by omega)⟩, by omega⟩
theorem Row.cell0 {w : World} {b off n cap : Nat} {d : Nat → Int} (h : Row w (some ⟨b, off, none⟩) n cap d) (hn : 0 < n) : w.cell? ⟨b, off, none⟩ = some (.int .i64 (d 0)) := by
  obtain ⟨b', off', e, _, hc⟩ := h.spot hn
  simp only [Option.some.injEq, Addr.mk.injEq, and_true] at e
  obtain ⟨rfl, rfl⟩ := e
  have := hc 0 hn
  rwa [Nat.add_zero] at this
/-- Products, in the scale. -/
theorem k_scale {P a b : Int} (h : 2 ^ 1074 * P = a * b) : P * pw (-1074) * 2 ^ 4194304 = a * pw (-1074) * (b * pw (-1074)) := by
  have h1 := pw_mul (a := -1074) (b := -1074) (by decide) (by decide)
  have h2 : pw (-1074) = pw (-2148) * 2 ^ 1074 := by
    have := pw_add (e := -2148) (by decide) 1074
    rw [show (-2148 : Int) + ((1074 : Nat) : Int) = -1074 by decide] at this
    exact this
  have e1 : a * pw (-1074) * (b * pw (-1074)) = a * b * (pw (-1074) * pw (-1074)) := by
    generalize pw (-1074) = Y
    grind
  rw [e1, h1, ← h]
  have h3 : pw (-1074 + -1074) = pw (-2148) := by rw [show (-1074 : Int) + -1074 = -2148 by decide]
  rw [h3, h2]
  generalize pw (-2148) = Y
  generalize (2 : Int) ^ 4194304 = X
  generalize (2 : Int) ^ 1074 = Z
  grind
set_option maxRecDepth 100000 in
set_option maxHeartbeats 1000000 in
theorem made6_any {lo : Option Addr} {l lc : Nat} {z : Nat → Int} (w : World) (h : Row w lo l lc z) (H : Hold4 w) :
    Calls Tryd.prog 4 #[.slice lo l lc, .int .i64 6] w fun r w' => ∃ eo ec, r = .returned (.tuple #[.slice eo (mdT z l).n ec, .bool true]) ∧ Row w' eo (mdT z l).n ec (mdT z l).d ∧ Below w.heap.size w w' := by
  have HR : Hid (Row w lo l lc z) := h
  have hle := h.le
  have hmx := h.max
  have HH : Hid (Hold4 w) := H
  clear h H
  go_enter Tryd.func4, Tryd.ntmps4
  go_wp2_with fail
  go_loopw [6, 7] (fun ev iv wr => ∃ (k : Nat) (eo : Option Addr) (ec : Nat), k ≤ min l 6 ∧ iv = .int .i64 k ∧ ev = .slice eo (gaS ⟨0, fun _ => 0⟩ (fun i => mdb (z i)) k).n ec ∧ Hid (Row wr eo (gaS ⟨0, fun _ => 0⟩ (fun i => mdb (z i)) k).n ec (gaS ⟨0, fun _ => 0⟩ (fun i => mdb (z i)) k).d) ∧ Below w.heap.size w wr) (fun _ iv _ => 6 - (intOf iv).toNat)
  case atStart => exact ⟨0, none, 0, Nat.zero_le _, rfl, rfl, Row.nil _ _, bel_refl _⟩
  case round =>
    obtain ⟨k, eo, ec, hk, rfl, rfl, HE, hbw⟩ := hrel
    by_cases hlt : k < min l 6
    · obtain ⟨bb, off, rfl, hbb, hc⟩ := (HR.out.keeps hbw).spot (by omega)
      have c0 := hc k (by omega)
      clear hc
      obtain ⟨x1, x2, x3⟩ := mdS_all z k (by omega)
      obtain ⟨m1, m2, m3, m4⟩ := mid_facts (z k)
      have CG := fun W (hW : Below wr.heap.size wr W) => xGrow W (HE.out.keeps hW) (fun i hi => (x2.fin i hi).1) (xval_of x2) m1 m2 (by have := gaS_le ⟨0, fun _ => 0⟩ (fun i => mdb (z i)) k; have : (gaS ⟨0, fun _ => 0⟩ (fun i => mdb (z i)) k).n ≤ 0 + k := this; omega) (HH.out.keeps (bel_trans hbw hW))
      have HX : Hid (gx (gaS ⟨0, fun _ => 0⟩ (fun i => mdb (z i)) k).d (mdb (z k)) (gaS ⟨0, fun _ => 0⟩ (fun i => mdb (z i)) k).n = true) := by
        have := (mdS_all z (k + 1) (by omega)).1
        rw [gaX_succ, Bool.and_eq_true] at this
        exact this.2
      have HS : Hid (gaS ⟨0, fun _ => 0⟩ (fun i => mdb (z i)) (k + 1) = grw (gaS ⟨0, fun _ => 0⟩ (fun i => mdb (z i)) k).n (gaS ⟨0, fun _ => 0⟩ (fun i => mdb (z i)) k).d (mdb (z k))) := gaS_succ _ _ _
      have HMD : Hid (bits .or .i64 (bits .andNot .i64 (z k) 9218868437227405312) ((823 + z k / 4503599627370496 % 256) * 4503599627370496) = mdb (z k)) := rfl
      clear x1 x2 x3 m1 m2 m3 m4
      have i0 : (0 : Int) ≤ (k : Int) := by omega
      have i1 : (k : Int) < (l : Int) := by omega
      have i2 : (k : Int) < 6 := by omega
      go_wp2_with fail
      go_region_held3 (fun W => W.cell? ⟨bb, off + k, none⟩ = some (.int .i64 (z k))) (first | exact c0 | go_keep | fail) (fail)
      all_goals
        go_wp2_with fail
        rw [mdb_eq]
        refine (CG _ (bel_refl _).drew).mono ?_
        rintro _ w2 hx
        obtain ⟨ao, cap, rfl, hR2, hb2⟩ := hx.yes HX.out
        have hb2' := bel_trans (bel_refl wr).drew hb2
        go_wp2
        go_roundw
        case rel => exact ⟨k + 1, ao, cap, by omega, by go_num, by rw [HS.out], by show Row _ _ _ _ _; rw [HS.out]; exact hR2, bel_trans hbw hb2'⟩
        case measure => simp [intOf]; omega
    · obtain rfl : k = min l 6 := by omega
      have HFIN : Hid (Row wr eo (mdT z l).n ec (mdT z l).d) := HE.out
      have HSE : Hid (gaS ⟨0, fun _ => 0⟩ (fun i => mdb (z i)) (min l 6) = mdT z l) := rfl
      rw [HSE.out]
      generalize hK : min l 6 = K at *
      have hor : ¬ (K : Int) < (l : Int) ∨ ¬ (K : Int) < 6 := by omega
      clear HE HSE
      rcases hor with h1 | h1
      · go_wp2
        all_goals refine bodyPost_ret (v := .tuple #[.slice eo (mdT z l).n ec, .bool true]) (by simp [results, Tryd.results4, go_sem]) rfl ⟨_, _, rfl, HFIN.out, hbw⟩
      · by_cases h2 : (K : Int) < (l : Int)
        all_goals
          go_wp2
          refine bodyPost_ret (v := .tuple #[.slice eo (mdT z l).n ec, .bool true]) (by simp [results, Tryd.results4, go_sem]) rfl ⟨_, _, rfl, HFIN.out, hbw⟩
end Go.Proofs.YtmgndnabaemgkaaDoor

/-
  Package dyadic: products, Dot, by contracts.
-/
namespace Go.Proofs.YtmgndnabaemgkaaDoor
open Go Go.RowKit Go.Proofs.YtmgndnabaemgkaaDoor.M
set_option linter.unusedSimpArgs false
set_option linter.unusedVariables false

/-- A block of N numbers that is the call's own; the first k are those of q. -/
def BlkN (w : World) (g N k : Nat) (q : Nat → NumR) : Prop :=
  ∃ cur : Array Value, w.heap[g]? = some (.cells cur 27 (0, 0)) ∧ cur.size = N * 3 ∧ ∀ i, i < k → (cur[i * 3]? = some (.bool (q i).ng) ∧ cur[i * 3 + 1]? = some (.slice (q i).ao (q i).n (q i).cap) ∧ cur[i * 3 + 2]? = some (.int .i64 (q i).e)) ∧ Row w (q i).ao (q i).n (q i).cap (q i).d
theorem info_num : ∃ i, Tryd.prog.info? 27 = some i ∧ i.zero = some (.agg #[.bool false, .slice none 0 0, .int .i64 0]) ∧ i.size = 3 ∧ i.bytes = 40 := by
  have h : (Tryd.prog.info? 27).map (fun i => (i.zero, i.size, i.bytes)) = some (some (.agg #[.bool false, .slice none 0 0, .int .i64 0]), 3, 40) := by kernel_rfl
  obtain ⟨i, hi, hzz⟩ := Option.map_eq_some_iff.1 h
  simp only [Prod.mk.injEq] at hzz
  exact ⟨i, hi, hzz⟩
theorem make_nums (n : Nat) (hn : n ≤ 100000) (w : World) :
    (Instr.makeSlice 57 (.int .i64 (n : Int)) (.int .i64 (n : Int))).run Tryd.prog w = .ok (.slice (some ⟨w.heap.size, 0, none⟩) n n) (w.alloc (.cells (madeCells #[.bool false, .slice none 0 0, .int .i64 0] (n * 3)) 27)) := by
  obtain ⟨i, hi, hz, hs, hb⟩ := info_num
  have := run_make (P := Tryd.prog) w 57 27 i _ Tryd.underlying57 hi hz .i64 .i64 n n (by omega) (Int.le_refl _) (by rw [hb]; omega) (by omega)
  simp only [Int.toNat_natCast, hs] at this
  exact this
def updN (q : Nat → NumR) (k : Nat) (x : NumR) : Nat → NumR := fun j => if j = k then x else q j
theorem updN_same (q : Nat → NumR) (k : Nat) (x : NumR) : updN q k x k = x := by simp [updN]
theorem updN_other (q : Nat → NumR) {k j : Nat} (x : NumR) (h : j ≠ k) : updN q k x j = q j := by simp [updN, h]
theorem keep3W {W w' : World} {b g o0 o1 o2 : Nat} {x y z : Value} (h : W.cell? ⟨b, o0, none⟩ = some x ∧ W.cell? ⟨b, o1, none⟩ = some y ∧ W.cell? ⟨b, o2, none⟩ = some z) (hw : Wr g W w') (hg : b ≠ g) :
    w'.cell? ⟨b, o0, none⟩ = some x ∧ w'.cell? ⟨b, o1, none⟩ = some y ∧ w'.cell? ⟨b, o2, none⟩ = some z :=
  ⟨(hw.cell (World.block_lt_of_cell? W _ h.1) hg).trans h.1, (hw.cell (World.block_lt_of_cell? W _ h.2.1) hg).trans h.2.1, (hw.cell (World.block_lt_of_cell? W _ h.2.2) hg).trans h.2.2⟩
theorem keep3B {W w' : World} {b o0 o1 o2 : Nat} {x y z : Value} (h : W.cell? ⟨b, o0, none⟩ = some x ∧ W.cell? ⟨b, o1, none⟩ = some y ∧ W.cell? ⟨b, o2, none⟩ = some z) (hb : Below W.heap.size W w') :
    w'.cell? ⟨b, o0, none⟩ = some x ∧ w'.cell? ⟨b, o1, none⟩ = some y ∧ w'.cell? ⟨b, o2, none⟩ = some z := ⟨cell_keeps h.1 hb, cell_keeps h.2.1 hb, cell_keeps h.2.2 hb⟩
theorem wr3 (W : World) (g o0 o1 o2 : Nat) (x y z : Value) : Wr g W (((W.setCell ⟨g, o0, none⟩ x).setCell ⟨g, o1, none⟩ y).setCell ⟨g, o2, none⟩ z) := (((Wr.refl g W).setCell o0 x).setCell o1 y).setCell o2 z
theorem Row.wrN {w w' : World} {g : Nat} {ao : Option Addr} {n cap : Nat} {d : Nat → Int} (h : Row w ao n cap d) (hw : Wr g w w') {cur : Array Value} {z : Nat × Nat} (hg : w.heap[g]? = some (.cells cur 27 z)) (ht : ∀ b off, ao = some ⟨b, off, none⟩ → 0 < n → b ≠ g) : Row w' ao n cap d :=
  ⟨h.le, h.max, h.nl, fun hn => by
    obtain ⟨b, off, rfl, hlt, hc⟩ := h.spot hn
    exact ⟨b, off, rfl, Nat.lt_of_lt_of_le hlt hw.size, fun i hi => (hw.cell (p := ⟨b, off + i, none⟩) hlt (ht b off rfl hn)).trans (hc i hi)⟩⟩
theorem Ans.open {w w' : World} {V : Int} {so : Option Addr} {sn sc : Nat} (h : Ans w w' V (.slice so sn sc)) : ∃ d, Row w' so sn sc d ∧ Nrm d sn ∧ val d sn = V ∧ ∀ b off, so = some ⟨b, off, none⟩ → w.heap.size ≤ b := by
  obtain ⟨t, d, hO, hN, hV, _⟩ := h
  have hge := own_ge hO
  obtain ⟨so', sc', e, hR⟩ := hO.row
  simp only [Value.slice.injEq] at e
  obtain ⟨rfl, rfl, rfl⟩ := e
  exact ⟨d, hR, hN, hV, fun b off hb => hge b (by rw [hb]; rfl)⟩
theorem bel_set3' {w0 w : World} {g o0 o1 o2 : Nat} (h : Below w0.heap.size w0 w) (hg : w0.heap.size ≤ g) (x y z : Value) : Below w0.heap.size w0 (((w.setCell ⟨g, o0, none⟩ x).setCell ⟨g, o1, none⟩ y).setCell ⟨g, o2, none⟩ z) := ((h.setCell (p := ⟨g, o0, none⟩) hg x).setCell (p := ⟨g, o1, none⟩) hg y).setCell (p := ⟨g, o2, none⟩) hg z
theorem set3_get {cur : Array Value} {k : Nat} {x y z : Value} (h : k * 3 + 2 < cur.size) (i : Nat) :
    let c := ((cur.setIfInBounds (k * 3) x).setIfInBounds (k * 3 + 1) y).setIfInBounds (k * 3 + 2) z
    (i = k → c[i * 3]? = some x ∧ c[i * 3 + 1]? = some y ∧ c[i * 3 + 2]? = some z) ∧ (i ≠ k → c[i * 3]? = cur[i * 3]? ∧ c[i * 3 + 1]? = cur[i * 3 + 1]? ∧ c[i * 3 + 2]? = cur[i * 3 + 2]?) := by
  intro c
  refine ⟨fun e => ?_, fun e => ?_⟩
  · subst e
    refine ⟨?_, ?_, ?_⟩
    · show (((cur.setIfInBounds (i * 3) x).setIfInBounds (i * 3 + 1) y).setIfInBounds (i * 3 + 2) z)[i * 3]? = some x
      rw [Array.getElem?_setIfInBounds_ne (by omega), Array.getElem?_setIfInBounds_ne (by omega), Array.getElem?_setIfInBounds_self_of_lt (by omega)]
    · show (((cur.setIfInBounds (i * 3) x).setIfInBounds (i * 3 + 1) y).setIfInBounds (i * 3 + 2) z)[i * 3 + 1]? = some y
      rw [Array.getElem?_setIfInBounds_ne (by omega), Array.getElem?_setIfInBounds_self_of_lt (by simp; omega)]
    · show (((cur.setIfInBounds (i * 3) x).setIfInBounds (i * 3 + 1) y).setIfInBounds (i * 3 + 2) z)[i * 3 + 2]? = some z
      rw [Array.getElem?_setIfInBounds_self_of_lt (by simp; omega)]
  · refine ⟨?_, ?_, ?_⟩
    all_goals
      show (((cur.setIfInBounds (k * 3) x).setIfInBounds (k * 3 + 1) y).setIfInBounds (k * 3 + 2) z)[_]? = _
      rw [Array.getElem?_setIfInBounds_ne (by omega), Array.getElem?_setIfInBounds_ne (by omega), Array.getElem?_setIfInBounds_ne (by omega)]
theorem BlkN.step {wr w3 : World} {g N k : Nat} {q : Nat → NumR} (h : BlkN wr g N k q) (hb : Below wr.heap.size wr w3) (x : NumR) (hx : Row w3 x.ao x.n x.cap x.d) (hk : k < N) (hg : ∀ i b' off, i < k → (q i).ao = some ⟨b', off, none⟩ → 0 < (q i).n → g < b') (hg2 : ∀ b' off, x.ao = some ⟨b', off, none⟩ → 0 < x.n → g < b') :
    BlkN (((w3.setCell ⟨g, k * 3, none⟩ (.bool x.ng)).setCell ⟨g, k * 3 + 1, none⟩ (.slice x.ao x.n x.cap)).setCell ⟨g, k * 3 + 2, none⟩ (.int .i64 x.e)) g N (k + 1) (updN q k x) := by
  obtain ⟨cur, hcur, hsz, hc⟩ := h
  have q0 := (hb.block g (Array.getElem?_eq_some_iff.1 hcur).1).trans hcur
  have q1 := heap_set (heap_set (heap_set q0 (k * 3) (.bool x.ng)) (k * 3 + 1) (.slice x.ao x.n x.cap)) (k * 3 + 2) (.int .i64 x.e)
  have hw := wr3 w3 g (k * 3) (k * 3 + 1) (k * 3 + 2) (.bool x.ng) (.slice x.ao x.n x.cap) (.int .i64 x.e)
  refine ⟨_, q1, by simp [hsz], fun i hi => ?_⟩
  have hs := set3_get (cur := cur) (k := k) (x := .bool x.ng) (y := .slice x.ao x.n x.cap) (z := .int .i64 x.e) (by omega) i
  by_cases e : i = k
  · subst e
    rw [updN_same]
    exact ⟨hs.1 rfl, hx.wrN hw q0 fun b' off he hn => by have := hg2 b' off he hn; omega⟩
  · rw [updN_other q x e]
    obtain ⟨s0, s1, s2⟩ := hs.2 e
    obtain ⟨⟨c0, c1, c2⟩, hR⟩ := hc i (by omega)
    refine ⟨⟨s0.trans c0, s1.trans c1, s2.trans c2⟩, (hR.keeps hb).wrN hw q0 fun b' off he hn => ?_⟩
    have := hg i b' off (by omega) he hn
    omega
theorem BlkN.nums {w : World} {g N : Nat} {q : Nat → NumR} (h : BlkN w g N N q) (hN : N ≤ 100000) : Nums w (some ⟨g, 0, none⟩) N N q := by
  obtain ⟨cur, hcur, hsz, hc⟩ := h
  refine ⟨Nat.le_refl _, by omega, fun _ => ⟨g, 0, rfl, (Array.getElem?_eq_some_iff.1 hcur).1, fun i hi => ?_⟩⟩
  obtain ⟨⟨c0, c1, c2⟩, hR⟩ := hc i hi
  rw [Nat.zero_add]
  exact ⟨blkC hcur _ c0, blkC hcur _ c1, blkC hcur _ c2, hR⟩
end Go.Proofs.YtmgndnabaemgkaaDoor

/-
  Package expansion: difference, by its contract.
-/
namespace Go.Proofs.YtmgndnabaemgkaaDoor
open Go Go.RowKit Go.Proofs.YtmgndnabaemgkaaDoor.M
set_option linter.unusedSimpArgs false
set_option linter.unusedVariables false

theorem XR.from {w0 w w' : World} {ok : Bool} {s : Ls} {r : Ending} (h : XR w ok s r w') (hb : Below w0.heap.size w0 w) : XR w0 ok s r w' := by
  obtain ⟨h1, h2⟩ := h
  refine ⟨?_, bel_trans hb h2⟩
  rcases h1 with ⟨a, v, b, c⟩ | h
  · exact .inl ⟨a, v, b, c.lower hb.size⟩
  · exact .inr h
set_option maxRecDepth 100000 in
theorem xProduct {eo fo : Option Addr} {n ec m fc : Nat} {d f : Nat → Int} (w : World) (h : Row w eo n ec d) (hf : Row w fo m fc f) (hr : ∀ i, i < n → rng (d i)) (hrf : ∀ i, i < m → rng (f i)) (hv : xval d n = true) (hu : xval f m = true) (hn : n ≤ 200) (hm : m ≤ 200) (H : Hold4 w) :
    Calls Tryd.prog 7 #[.slice eo n ec, .slice fo m fc] w fun r w' => XA w (prX d n f m) (prS d n f m) r w' := by
  have hEG : ∀ (cap : Array Value) (w : World), (callFunc 17 cap).run Tryd.prog w = .ok (.enter 17 cap) w := by
    intro cap w
    simp [go_sem]
  have hd : ∀ i, i < n → rng (d i) ∧ pok (d i) = true := fun i hi => ⟨hr i hi, xval_fin hv i hi⟩
  have hff : ∀ i, i < m → rng (f i) ∧ pok (f i) = true := fun i hi => ⟨hrf i hi, xval_fin hu i hi⟩
  have CW := xwl_ok 17 w (prX d n f m) (prS d n f m) hEG h hf hv hu H (fun W hW => xproduct_any W (h.keeps hW) (hf.keeps hW) hd hff hn hm (H.keeps hW))
  generalize prX d n f m = X at *
  generalize prS d n f m = S at *
  go_enter Tryd.func7, Tryd.ntmps7
  go_wp2_with fail
  refine CW.mono ?_
  rintro _ w1 ⟨(⟨h1, v, rfl, h2⟩ | ⟨h1, rfl⟩), hb⟩
  · obtain ⟨ao, cc, rfl⟩ := h2.shape
    go_wp2
    refine bodyPost_ret (v := .tuple #[.slice ao S.n cc, .int .i64 0]) (by simp [results, Tryd.results7, go_sem]) rfl ⟨.inl ⟨h1, _, rfl, h2⟩, hb⟩
  · go_wp2
    refine bodyPost_ret (v := .tuple #[.slice none 0 0, .int .i64 14]) (by simp [results, Tryd.results7, go_sem]) rfl ⟨.inr ⟨h1, rfl⟩, hb⟩
end Go.Proofs.YtmgndnabaemgkaaDoor

/-
  Package expansion: Exact, by its contract.
-/
namespace Go.Proofs.YtmgndnabaemgkaaDoor
open Go Go.RowKit Go.Proofs.YtmgndnabaemgkaaDoor.M
set_option linter.unusedSimpArgs false
set_option linter.unusedVariables false

/-- The exact sum, in the scale. -/
def psm (d : Nat → Int) : Nat → Int
  | 0 => 0
  | k + 1 => psm d k + patV (d k)
theorem psm_succ (d : Nat → Int) (k : Nat) : psm d (k + 1) = psm d k + patV (d k) := rfl
theorem psm_lsm {d : Nat → Int} : ∀ {n}, (∀ i, i < n → rng (d i) ∧ pok (d i) = true) → psm d n = lsm d n * pw (-1074)
  | 0, _ => by show (0 : Int) = 0 * _; rw [Int.zero_mul]
  | n + 1, h => by
    rw [psm_succ, lsm_succ, Int.add_mul, psm_lsm fun i hi => h i (by omega), patV_iV (h n (by omega)).1 (h n (by omega)).2]
theorem sumV_psm {q : Nat → NumR} {d : Nat → Int} : ∀ {n}, (∀ i, i < n → (q i).V = patV (d i)) → sumV q n = psm d n
  | 0, _ => rfl
  | n + 1, h => by
    have h1 := h n (by omega)
    unfold NumR.V at h1
    show sumV q n + sg (q n).ng (val (q n).d (q n).n) * pw (q n).e = psm d n + patV (d n)
    rw [sumV_psm fun i hi => h i (by omega), h1]
set_option maxRecDepth 100000 in
set_option maxHeartbeats 2000000 in
theorem xExact_any {eo : Option Addr} {n ec : Nat} {d : Nat → Int} (w : World) (h : Row w eo n ec d) (hv : xval d n = true) (hr : ∀ i, i < n → rng (d i)) (hn : n ≤ 1000) (H : Hold4 w) :
    Calls Tryd.prog 15 #[.slice eo n ec] w fun x w' => ∃ v er, x = .returned (.tuple #[v, .int .i64 er]) ∧ DFit w w' (psm d n) v er := by
  have hle := h.le
  have hmx := h.max
  have hmake := make_nums n (by omega)
  have HR : Hid (Row w eo n ec d) := h
  have HH : Hid (Hold4 w) := H
  have HF : Hid (∀ i, i < n → rng (d i) ∧ pok (d i) = true) := fun i hi => ⟨hr i hi, xval_fin hv i hi⟩
  have CV : Hid (∀ W, Below w.heap.size w W → Calls Tryd.prog 14 #[.slice eo n ec] W fun e w' => e = .returned (.bool true) ∧ Below W.heap.size W w') := fun W hW => by
    have := xvalid_any W (h.keeps hW) (H.keeps hW)
    rw [hv] at this
    exact this
  clear h H hr hv
  go_enter Tryd.func15, Tryd.ntmps15
  go_wp2_with fail
  have hb0 := bel_alloc w (.cells #[.bool false, .slice none 0 0, .int .i64 0] 27)
  refine (CV.out _ hb0).mono ?_
  rintro _ w1 ⟨rfl, hb1⟩
  go_wp2_with fail
  have hbw1 := bel_trans hb0 hb1
  have hbx := bel_alloc w1 (.cells (madeCells #[.bool false, .slice none 0 0, .int .i64 0] (n * 3)) 27)
  have g0 := heap_a1 w1 (.cells (madeCells #[.bool false, .slice none 0 0, .int .i64 0] (n * 3)) 27)
  have HB0 : Hid (BlkN (w1.alloc (.cells (madeCells #[.bool false, .slice none 0 0, .int .i64 0] (n * 3)) 27)) w1.heap.size n 0 (fun _ => ⟨false, none, 0, 0, fun _ => 0, 0⟩)) := ⟨_, g0, by rw [size_madeCells], fun i hi => by omega⟩
  have hs1 := hbw1.size
  clear g0 hmake
  have hbwx := bel_trans hbw1 hbx
  have hbrx := bel_trans hb1 hbx
  generalize w1.alloc (.cells (madeCells #[.bool false, .slice none 0 0, .int .i64 0] (n * 3)) 27) = wx at hbx HB0 hbwx hbrx ⊢
  go_loopw [16] (fun iv wr => ∃ (k : Nat) (q : Nat → NumR), k ≤ n ∧ iv = .int .i64 k ∧ Hid (BlkN wr w1.heap.size n k q) ∧ Hid (∀ i, i < k → okR (q i) = true ∧ (q i).V = patV (d i)) ∧ Hid (∀ i b' off, i < k → (q i).ao = some ⟨b', off, none⟩ → 0 < (q i).n → w1.heap.size < b') ∧ Below w.heap.size w wr ∧ Below (w.alloc (.cells #[.bool false, .slice none 0 0, .int .i64 0] 27)).heap.size (w.alloc (.cells #[.bool false, .slice none 0 0, .int .i64 0] 27)) wr) (fun iv _ => n - (intOf iv).toNat)
  case atStart => exact ⟨0, _, Nat.zero_le _, rfl, HB0, fun i hi => by omega, fun i b' off hi => by omega, hbwx, hbrx⟩
  case round =>
    obtain ⟨k, q, hk, rfl, HQ, HV, HG, hbw, hbr⟩ := hrel
    clear HB0 hbx
    by_cases hlt : k < n
    · obtain ⟨bb, off, rfl, hbb, hc⟩ := (HR.out.keeps hbw).spot (by omega)
      have c0 := hc k hlt
      clear hc
      obtain ⟨rk, pk⟩ := HF.out k hlt
      have CO : Hid (∀ W, Hold4 W → Calls Tryd.prog 11 #[.int .i64 (d k)] W fun r w' => ∃ v, r = .returned (.tuple #[v, .int .i64 0]) ∧ DAns W w' (patV (d k)) v) := fun W hW => of_ok pk hW
      have hok : Dok (patV (d k)) := (patV_bd pk).ok (by omega)
      have i0 : (0 : Int) ≤ (k : Int) := by omega
      have i1 : (k : Int) < (n : Int) := by omega
      obtain ⟨cur, hcur, hsz, hcells⟩ := HQ.out
      have e0 : k * 3 < cur.size := by omega
      have e1 : k * 3 + 1 < cur.size := by omega
      have e2 : k * 3 + 2 < cur.size := by omega
      obtain ⟨v0, hv0⟩ : ∃ v, cur[k * 3]? = some v := ⟨_, Array.getElem?_eq_getElem e0⟩
      obtain ⟨v1, hv1⟩ : ∃ v, cur[k * 3 + 1]? = some v := ⟨_, Array.getElem?_eq_getElem e1⟩
      obtain ⟨v2, hv2⟩ : ∃ v, cur[k * 3 + 2]? = some v := ⟨_, Array.getElem?_eq_getElem e2⟩
      have HCV : Hid (cur[k * 3]? = some v0 ∧ cur[k * 3 + 1]? = some v1 ∧ cur[k * 3 + 2]? = some v2) := ⟨hv0, hv1, hv2⟩
      have HCUR : Hid (wr.heap[w1.heap.size]? = some (.cells cur 27 (0, 0))) := hcur
      have hgs : w1.heap.size < wr.heap.size := (Array.getElem?_eq_some_iff.1 hcur).1
      have HDK : Hid (∀ x, d k = x → d k = x) := fun _ h => h
      clear hcells hv0 hv1 hv2 hcur hsz e0 e1 e2 rk pk
      go_wp2_with fail
      refine (CO.out _ (HH.out.keeps hbw)).mono ?_
      rintro _ w3 ⟨v, rfl, hA⟩
      obtain ⟨⟨x_g, x_o, x_n, x_c, x_d, x_e⟩, rfl, hRx, okx, hVx⟩ := hA.num.open hok
      have HRX : Hid (Row w3 x_o x_n x_c x_d) := hRx
      have HOX : Hid (okR ⟨x_g, x_o, x_n, x_c, x_d, x_e⟩ = true ∧ (⟨x_g, x_o, x_n, x_c, x_d, x_e⟩ : NumR).V = patV (d k)) := ⟨okx, hVx⟩
      have HGD : Hid (∀ b' off, x_o = some ⟨b', off, none⟩ → wr.heap.size ≤ b') := by
        obtain ⟨g', s', m', e', hve, hy, ha⟩ := hA
        simp [NumR.v] at hve
        obtain ⟨_, rfl, _⟩ := hve
        obtain ⟨_, _, _, _, h9⟩ := ha.open
        exact h9
      clear okx hVx hRx
      have hbv1 := hA.below
      unfold NumR.v
      have q0 := (hbv1.block w1.heap.size hgs).trans HCUR.out
      have x0 := blkC q0 (k * 3) HCV.out.1
      have x1 := blkC q0 (k * 3 + 1) HCV.out.2.1
      have x2 := blkC q0 (k * 3 + 2) HCV.out.2.2
      have z0 := blkF q0 (k * 3)
      have z1 := blkF q0 (k * 3 + 1)
      have z2 := blkF q0 (k * 3 + 2)
      go_wp2
      go_roundw
      case rel =>
        have hgs2 : ∀ b' off, x_o = some ⟨b', off, none⟩ → 0 < x_n → w1.heap.size < b' := fun b' off he _ => by
          have h9 := HGD.out b' off he
          omega
        refine ⟨k + 1, updN q k ⟨x_g, x_o, x_n, x_c, x_d, x_e⟩, by omega, by go_num, BlkN.step (x := ⟨x_g, x_o, x_n, x_c, x_d, x_e⟩) HQ.out hbv1 HRX.out hlt HG.out hgs2, fun i hi => ?_, fun i b' off hi he hn' => ?_, bel_set3' (bel_trans hbw hbv1) hs1 _ _ _, bel_set3' (bel_trans hbr hbv1) hb1.size _ _ _⟩
        · by_cases e : i = k
          · subst e
            rw [updN_same]
            exact HOX.out
          · rw [updN_other _ _ e]
            exact HV.out i (by omega)
        · by_cases e : i = k
          · subst e
            rw [updN_same] at he hn'
            exact hgs2 b' off he hn'
          · rw [updN_other _ _ e] at he hn'
            exact HG.out i b' off (by omega) he hn'
      case measure => simp [intOf]; omega
    · obtain rfl : k = n := by omega
      have CS := dsum_ok (some ⟨w1.heap.size, 0, none⟩) k k q wr (HQ.out.nums (by omega)) (decide_eq_true fun i hi => (HV.out i hi).1) (by omega) (HH.out.keeps hbw).tab
      rw [sumV_psm fun i hi => (HV.out i hi).2] at CS
      have hgw : w.heap.size < wr.heap.size := by
        have h1 : w.heap.size < w1.heap.size := Nat.lt_of_lt_of_le (by rw [size1]; omega) hb1.size
        obtain ⟨cur, hcur, _⟩ := HQ.out
        have := (Array.getElem?_eq_some_iff.1 hcur).1
        omega
      have qr := (hbr.block w.heap.size (by rw [size1]; omega)).trans (heap_a1 w (.cells #[.bool false, .slice none 0 0, .int .i64 0] 27))
      go_wp2_with fail
      refine CS.mono ?_
      rintro _ w4 ⟨v, er, rfl, hF⟩
      obtain ⟨ng', so, sn, sc, e', rfl⟩ := hF.shape
      have q0 := (hF.1.block w.heap.size hgw).trans qr
      have x0 := blkC q0 0 rfl
      have x1 := blkC q0 1 rfl
      have x2 := blkC q0 2 rfl
      have z0 := blkF q0 0
      have z1 := blkF q0 1
      have z2 := blkF q0 2
      go_wp2
      refine bodyPost_ret (v := .tuple #[.agg #[.bool ng', .slice so sn sc, .int .i64 e'], .int .i64 er]) (by simp [results, Tryd.results15, go_sem, x0, x1, x2]) rfl ⟨_, _, rfl, ?_⟩
      exact dfit_res (g := w.heap.size) hF hbw (Nat.le_refl _) hgw _ _ _
end Go.Proofs.YtmgndnabaemgkaaDoor

/-
  plumblaw7.value, same, by their contracts.
-/
namespace Go.Proofs.YtmgndnabaemgkaaDoor
open Go Go.RowKit Go.Proofs.YtmgndnabaemgkaaDoor.M
set_option linter.unusedSimpArgs false
set_option linter.unusedVariables false

theorem psm_bd {d : Nat → Int} : ∀ {n}, (∀ i, i < n → pok (d i) = true) → n ≤ 1000 → Bd (4000 + n) (psm d n)
  | 0, _, _ => ⟨0, by show (0 : Int) = 0 * _; rw [Int.zero_mul], by have := two_pos (2 * (4000 + 0)); omega, two_pos _⟩
  | n + 1, h, hn => by
    have h1 := psm_bd (n := n) (fun i hi => h i (by omega)) (by omega)
    have h2 := (patV_bd (h n (by omega))).up (show 4000 ≤ 4000 + n by omega) (by omega)
    rw [psm_succ]
    exact h1.add h2 (by omega)
set_option maxRecDepth 100000 in
set_option maxHeartbeats 1000000 in
theorem same7_any {w : World} {x y : Value} {A B : Int} (hx : DNum w x A) (hy : DNum w y B) (oA : Dok A) (oB : Dok B) :
    Calls Tryd.prog 9 #[x, y] w fun r w' => r = .returned (.bool (ord A B == 0)) ∧ Below w.heap.size w w' := by
  obtain ⟨a_g, a_s, a_m, a_e, rfl, a_y, a_num⟩ := id hx
  obtain ⟨b_g, b_s, b_m, b_e, rfl, b_y, b_num⟩ := id hy
  obtain ⟨a_o, a_n, a_c, rfl⟩ := a_num.shape
  obtain ⟨b_o, b_n, b_c, rfl⟩ := b_num.shape
  have hb2 := bel_alloc2 w (.cells #[.bool a_g, .slice a_o a_n a_c, .int .i64 a_e] 27) (.cells #[.bool b_g, .slice b_o b_n b_c, .int .i64 b_e] 27)
  have CC := cmp_D (hx.keeps hb2) (hy.keeps hb2) oA oB
  clear hx hy a_y b_y a_num b_num
  generalize ord A B = c at *
  go_enter Tryd.func9, Tryd.ntmps9
  go_wp2_with fail
  refine CC.mono ?_
  rintro _ w1 ⟨rfl, hb1⟩
  go_wp2
  go_ret
  exact ⟨rfl, bel_trans hb2 hb1⟩
set_option maxRecDepth 100000 in
set_option maxHeartbeats 1000000 in
theorem value_ok {eo : Option Addr} {n ec : Nat} {d : Nat → Int} {w : World} (h : Row w eo n ec d) (xv : XV d n) (hn : n ≤ 1000) (H : Hold4 w) :
    Calls Tryd.prog 6 #[.slice eo n ec] w fun r w' => ∃ v, r = .returned (.tuple #[v, .bool true]) ∧ DAns w w' (psm d n) v := by
  have hv := xval_of xv
  have hok : Dok (psm d n) := (psm_bd (fun i hi => (xv.fin i hi).2.1) hn).ok (by omega)
  have hb0 := bel_alloc w (.cells #[.bool false, .slice none 0 0, .int .i64 0] 27)
  have CE := xExact_any _ (h.keeps hb0) hv (fun i hi => (xv.fin i hi).1) hn (H.keeps hb0)
  have CV : Hid (∀ W, Below w.heap.size w W → Calls Tryd.prog 14 #[.slice eo n ec] W fun e w' => e = .returned (.bool true) ∧ Below W.heap.size W w') := fun W hW => by
    have := xvalid_any W (h.keeps hW) (H.keeps hW)
    rw [hv] at this
    exact this
  clear h H xv hv
  generalize psm d n = V at *
  go_enter Tryd.func6, Tryd.ntmps6
  go_wp2_with fail
  refine CE.mono ?_
  rintro _ w1 ⟨v, er, rfl, hb1, (⟨_, rfl, hA⟩ | ⟨hno, _⟩)⟩
  · obtain ⟨x_g, x_o, x_n, x_c, x_e, rfl⟩ := dans_shape hA
    have q0 := (hb1.block w.heap.size (by rw [size1]; omega)).trans (heap_a1 _ _)
    have hbw1 := bel_trans hb0 hb1
    have hlw : w.heap.size < w1.heap.size := Nat.lt_of_lt_of_le (by rw [size1]; omega) hb1.size
    have hbx := bel_alloc w1 (.cells #[.bool x_g, .slice x_o x_n x_c, .int .i64 x_e] 27)
    have qx := heap_a1 w1 (.cells #[.bool x_g, .slice x_o x_n x_c, .int .i64 x_e] 27)
    have q1 := (hbx.block w.heap.size hlw).trans q0
    have kc0 : (w1.alloc (.cells #[.bool x_g, .slice x_o x_n x_c, .int .i64 x_e] 27)).drew.cell? ⟨w1.heap.size, 0, none⟩ = some (.bool x_g) ∧ (w1.alloc (.cells #[.bool x_g, .slice x_o x_n x_c, .int .i64 x_e] 27)).drew.cell? ⟨w1.heap.size, 1, none⟩ = some (.slice x_o x_n x_c) ∧ (w1.alloc (.cells #[.bool x_g, .slice x_o x_n x_c, .int .i64 x_e] 27)).drew.cell? ⟨w1.heap.size, 2, none⟩ = some (.int .i64 x_e) := ⟨blkC qx 0 rfl, blkC qx 1 rfl, blkC qx 2 rfl⟩
    have HQ1 : Hid (w1.heap.size ≤ (w1.alloc (.cells #[.bool x_g, .slice x_o x_n x_c, .int .i64 x_e] 27)).heap.size) := hbx.size
    have HBX : Hid (Below w.heap.size w (w1.alloc (.cells #[.bool x_g, .slice x_o x_n x_c, .int .i64 x_e] 27))) := bel_trans hbw1 hbx
    have HBY : Hid (Below w1.heap.size w1 (w1.alloc (.cells #[.bool x_g, .slice x_o x_n x_c, .int .i64 x_e] 27))) := hbx
    go_wp2_with fail
    generalize w1.alloc (.cells #[.bool x_g, .slice x_o x_n x_c, .int .i64 x_e] 27) = wy at *
    go_region_held3 (fun W => W.cell? ⟨w1.heap.size, 0, none⟩ = some (.bool x_g) ∧ W.cell? ⟨w1.heap.size, 1, none⟩ = some (.slice x_o x_n x_c) ∧ W.cell? ⟨w1.heap.size, 2, none⟩ = some (.int .i64 x_e))
      (first | assumption | exact kc0 | exact kc1 | exact keep3W kc1 (wr3 _ _ _ _ _ _ _ _) (by omega) | exact keep3W kc0 (wr3 _ _ _ _ _ _ _ _) (by omega) | fail)
      ((go_at_call 14; refine (CV.out _ HBX.out.drew).mono ?_; rintro _ w3 ⟨rfl, hb3⟩; have kc1 := keep3B kc0 hb3; have q3 := (hb3.block w.heap.size (Nat.lt_of_lt_of_le hlw HQ1.out)).trans q1; have x0 := blkC q3 0 rfl; have x1 := blkC q3 1 rfl; have x2 := blkC q3 2 rfl; have z0 := blkF q3 0; have z1 := blkF q3 1; have z2 := blkF q3 2))
    all_goals go_wp2
    all_goals
      refine bodyPost_ret (v := .tuple #[.agg #[.bool x_g, .slice x_o x_n x_c, .int .i64 x_e], .bool true]) (by simp [results, Tryd.results6, go_sem, x0, x1, x2]) rfl ⟨_, rfl, ?_⟩
      have hA3 := (hA.stays HBY.out).stays (bel_trans (bel_refl wy).drew hb3)
      exact dans_res3 (g := w.heap.size) hA3 hb0 (Nat.le_refl _) (by rw [size1]; omega) _ _ _
  · exact absurd hok hno
end Go.Proofs.YtmgndnabaemgkaaDoor
