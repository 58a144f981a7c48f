/-
  Parts of the proof, one behind another.
-/
import Derived.Test.YtmgndnabaemgkaaDoorPart11
import Derived.Test.YtmgndnabaemgkaaDoorPart3
import Derived.Test.YtmgndnabaemgkaaDoorPart10
import Derived.Test.YtmgndnabaemgkaaDoorPart4
import Derived.Test.YtmgndnabaemgkaaDoorPart1
import Derived.Test.YtmgndnabaemgkaaDoorPart7
/-
  Package expansion: Valid, by its contract.
-/
namespace Go.Proofs.YtmgndnabaemgkaaDoor
open Go Go.RowKit Go.Proofs.YtmgndnabaemgkaaDoor.M
set_option linter.unusedSimpArgs false
set_option linter.unusedVariables false

/-- The exponent of the least power of 2 that is greater than the last of the first k; are the first k an expansion? -/
def xab (d : Nat → Int) : Nat → Int
  | 0 => -9223372036854775808
  | k + 1 => pexp (d k) + blen (pmag (d k))
def xok (d : Nat → Int) (k : Nat) : Bool := !decide (pmag (d k) = 0) && !decide (pexp (d k) + jz (pmag (d k)) < xab d k)
def xval (d : Nat → Int) : Nat → Bool
  | 0 => true
  | k + 1 => xval d k && xok d k
theorem xval_succ (d : Nat → Int) (k : Nat) : xval d (k + 1) = (xval d k && xok d k) := rfl
theorem xval_mono {d : Nat → Int} : ∀ {k j}, j ≤ k → xval d k = true → xval d j = true
  | 0, j, h, hx => by
    obtain rfl : j = 0 := by omega
    rfl
  | k + 1, j, h, hx => by
    by_cases e : j = k + 1
    · subst e; exact hx
    · rw [xval_succ, Bool.and_eq_true] at hx
      exact xval_mono (by omega) hx.1
theorem xmag_in (b : Int) : 0 ≤ pmag b ∧ pmag b < 9007199254740992 ∧ -2000 ≤ pexp b ∧ pexp b ≤ 2000 := by
  cases h : pok b
  · have : fld b = 2047 := by simpa [pok] using h
    unfold pmag pexp
    rw [if_pos this, if_pos this]
    omega
  · have := pmag_in h
    omega
theorem jz_small (b : Int) : pmag b ≠ 0 → jz (pmag b) ≤ 64 := fun hne => by
  have hm := xmag_in b
  have h1 : (pmag b).toNat < 2 ^ 64 := Nat.lt_of_lt_of_le (show (pmag b).toNat < 9007199254740992 by omega) (by decide)
  exact Nat.le_of_lt (Lib.lowest_bit 64 (pmag b).toNat (by omega) h1).2
set_option maxRecDepth 100000 in
set_option maxHeartbeats 1000000 in
theorem xvalid_any {eo : Option Addr} {n ec : Nat} {d : Nat → Int} (w : World) (h : Row w eo n ec d) (H : Hold4 w) :
    Calls Tryd.prog 14 #[.slice eo n ec] w fun e w' => e = .returned (.bool (xval d n)) ∧ Below w.heap.size w w' := by
  have hle := h.le
  have hmx := h.max
  have HR : Hid (Row w eo n ec d) := h
  have HH : Hid (Hold4 w) := H
  clear h H
  go_enter Tryd.func14, Tryd.ntmps14
  go_wp2_with fail
  go_loopw [3, 12] (fun av iv wr => ∃ k : Nat, k ≤ n ∧ iv = .int .i64 k ∧ av = .int .i64 (xab d k) ∧ Hid (xval d k = true) ∧ Below w.heap.size w wr) (fun _ iv _ => n - (intOf iv).toNat)
  case atStart => exact ⟨0, Nat.zero_le _, rfl, rfl, rfl, bel_refl _⟩
  case round =>
    obtain ⟨k, hk, rfl, rfl, HX, hbw⟩ := hrel
    by_cases hlt : k < n
    · obtain ⟨b, off, rfl, hbb, hc⟩ := (HR.out.keeps hbw).spot (by omega)
      have c0 := hc k hlt
      clear hc
      have H := HH.out.keeps hbw
      have CP := bitsPartsA (d k) wr H.lay
      have m1 := xmag_in (d k)
      have HNO : Hid (xok d k = false → xval d n = false) := fun hno => by
        cases hx : xval d n
        · rfl
        · have := xval_mono (show k + 1 ≤ n by omega) hx
          rw [xval_succ, hno, Bool.and_false] at this
          cases this
      have HO : Hid (xok d k = (!decide (pmag (d k) = 0) && !decide (pexp (d k) + jz (pmag (d k)) < xab d k))) := rfl
      have HA : Hid (xab d (k + 1) = pexp (d k) + blen (pmag (d k))) := rfl
      have hab : -9223372036854775808 ≤ xab d k := by
        cases k with
        | zero => exact Int.le_refl _
        | succ j =>
          show _ ≤ pexp (d j) + ((blen (pmag (d j)) : Nat) : Int)
          have := xmag_in (d j)
          omega
      have CT : Hid (∀ W, b_Tab W → 0 < pmag (d k) → Calls Tryd.prog 29 #[.int .u64 (pmag (d k))] W fun e w' => e = .returned (.int .i64 (jz (pmag (d k)))) ∧ w' = W) := fun W hT hp => tzero_any _ hp (by omega) W hT
      have CL : Hid (∀ W, Calls Tryd.prog 30 #[.int .u64 (pmag (d k))] W fun e w' => e = .returned (.int .i64 (blen (pmag (d k)))) ∧ w' = W) := fun W => len_any _ W (by omega) (by omega)
      have hj := jz_small (d k)
      have hbl : blen (pmag (d k)) ≤ 63 := blen_le (show pmag (d k) < 9223372036854775808 by omega)
      have cv : IntKind.u64.wrap (pmag (d k)) = pmag (d k) := by rw [IntKind.wrap_u64]; omega
      generalize hmg : pmag (d k) = mg at *
      generalize hex : pexp (d k) = ex at *
      generalize pneg (d k) = ng at *
      generalize pok (d k) = fn at *
      generalize hdk : d k = dk at *
      generalize hbn : blen mg = bn at *
      clear hmg hex hdk hbn
      have i0 : (0 : Int) ≤ (k : Int) := by omega
      have i1 : (k : Int) < (n : Int) := by omega
      by_cases hm : mg = 0
      · subst hm
        have hno : Hid (false = xval d n) := (HNO.out (by rw [HO.out]; simp)).symm
        go_wp2_with fail
        refine CP.mono ?_
        rintro _ w1 ⟨rfl, hb1⟩
        go_wp2
        all_goals go_ret
        all_goals exact ⟨ret_bool hno.out, by first | exact bel_trans hbw hb1 | exact (bel_trans hbw hb1).drew⟩
      · have hm0 : (mg == 0) = false := by simpa using hm
        have hmp : 0 < mg := by omega
        have hj' := hj hm
        generalize hjj : jz mg = jj at *
        clear hj hjj
        by_cases hl : ex + (jj : Int) < xab d k
        · have hno : Hid (false = xval d n) := (HNO.out (by rw [HO.out]; simp [hl])).symm
          generalize xab d k = ab at *
          go_wp2_with fail
          refine CP.mono ?_
          rintro _ w1 ⟨rfl, hb1⟩
          have hbw1 := bel_trans hbw hb1
          have HT : Hid (b_Tab w1) := (HH.out.keeps hbw1).tab
          go_wp2_with (go_at_call 29; refine (CT.out _ HT.out hmp).mono ?_; rintro _ wz ⟨rfl, hw⟩; replace hw := hw.symm; subst hw)
          all_goals go_ret
          all_goals exact ⟨ret_bool hno.out, by first | exact hbw1 | exact hbw1.drew⟩
        · have hyes : xval d (k + 1) = true := by rw [xval_succ, HX.out, HO.out]; simp [hl, hm]
          have hl' : ¬ (ex + (jj : Int) < xab d k) := hl
          clear hl
          generalize xab d k = ab at *
          go_wp2_with fail
          refine CP.mono ?_
          rintro _ w1 ⟨rfl, hb1⟩
          have hbw1 := bel_trans hbw hb1
          have HT : Hid (b_Tab w1) := (HH.out.keeps hbw1).tab
          go_wp2_with (first
            | (go_at_call 29; refine (CT.out _ HT.out hmp).mono ?_; rintro _ wz ⟨rfl, hw⟩; replace hw := hw.symm; subst hw)
            | (go_at_call 30; refine (CL.out _).mono ?_; rintro _ wz ⟨rfl, hw⟩; replace hw := hw.symm; subst hw))
          go_roundw
          case rel => exact ⟨k + 1, by omega, by go_num, by rw [HA.out], hyes, by first | exact hbw1 | exact hbw1.drew⟩
          case measure => simp [intOf]; omega
    · obtain rfl : k = n := by omega
      go_wp2
      go_ret
      exact ⟨ret_bool HX.out.symm, hbw⟩
end Go.Proofs.YtmgndnabaemgkaaDoor

/-
  Package expansion: the closures, withFloat, withList; Grow, Scale, Sum, by their contracts.
-/
namespace Go.Proofs.YtmgndnabaemgkaaDoor
open Go Go.RowKit Go.Proofs.YtmgndnabaemgkaaDoor.M
set_option linter.unusedSimpArgs false
set_option linter.unusedVariables false

/-- What is reckoned: a list in new memory, or nothing. -/
def XR (w : World) (ok : Bool) (s : Ls) (r : Ending) (w' : World) : Prop := ((ok = true ∧ ∃ v, r = .returned v ∧ LsO w.heap.size w' v s) ∨ (ok = false ∧ r = gaveX)) ∧ Below w.heap.size w w'
/-- What is told of it. -/
def XA (w : World) (ok : Bool) (s : Ls) (r : Ending) (w' : World) : Prop := ((ok = true ∧ ∃ v, r = .returned (.tuple #[v, .int .i64 0]) ∧ LsO w.heap.size w' v s) ∨ (ok = false ∧ r = .returned (.tuple #[.slice none 0 0, .int .i64 14]))) ∧ Below w.heap.size w w'
theorem xtold_any (F : Nat) (cap : Array Value) (w : World) (ok : Bool) (s : Ls) (hE : ∀ w, (callFunc F cap).run Tryd.prog w = .ok (.enter F cap) w) (hF : ∀ W, Below w.heap.size w W → Calls Tryd.prog F cap W fun r W' => XR W ok s r W') :
    Calls Tryd.prog 32 #[.func (.func F) #[] cap] w fun r w' => XA w ok s r w' := by
  cases ok
  · refine (xtold_no F cap w hE fun W hW => (hF W hW).mono ?_).mono ?_
    · rintro r W' ⟨(⟨h, _⟩ | ⟨_, h⟩), hb⟩
      · cases h
      · exact ⟨h, hb⟩
    · rintro r w' ⟨h, hb⟩
      exact ⟨.inr ⟨rfl, h⟩, hb⟩
  · refine (xtold_yes F cap w s hE fun W hW => (hF W hW).mono ?_).mono ?_
    · rintro r W' ⟨(⟨_, v, h1, h2⟩ | ⟨h, _⟩), hb⟩
      · exact ⟨v, h1, h2, hb⟩
      · cases h
    · rintro r w' ⟨v, h1, h2, hb⟩
      exact ⟨.inl ⟨rfl, v, h1, h2⟩, hb⟩
set_option maxRecDepth 100000 in
theorem xwf1 (G : Nat) (eo : Option Addr) (n ec : Nat) (b : Int) (p0 p1 p2 : Addr) (w : World) (ok : Bool) (s : Ls) (hEG : ∀ (cap : Array Value) (w : World), (callFunc G cap).run Tryd.prog w = .ok (.enter G cap) w) (c0 : w.cell? p0 = some (.func (.func G) #[] #[])) (c1 : w.cell? p1 = some (.slice eo n ec)) (c2 : w.cell? p2 = some (.int .i64 b))
    (hG : Calls Tryd.prog G #[.slice eo n ec, .int .i64 b] w fun r w' => XR w ok s r w') :
    Calls Tryd.prog 44 #[.pointer (some p0), .pointer (some p1), .pointer (some p2)] w fun r w' => XR w ok s r w' := by
  go_enter Tryd.func44, Tryd.ntmps44
  go_wp2_with fail
  refine hG.mono ?_
  rintro r w' ⟨(⟨h1, v, rfl, h2⟩ | ⟨h1, rfl⟩), hb⟩
  · obtain ⟨ao, cc, rfl⟩ := h2.shape
    go_wp2
    go_ret
    exact ⟨.inl ⟨h1, _, rfl, h2⟩, hb⟩
  · unfold gaveX
    go_wp2
    exact ⟨rfl, .inr ⟨h1, rfl⟩, hb⟩
set_option maxRecDepth 100000 in
theorem xwl1 (G : Nat) (eo fo : Option Addr) (n ec m fc : Nat) (p0 p1 p2 : Addr) (w : World) (ok : Bool) (s : Ls) (hEG : ∀ (cap : Array Value) (w : World), (callFunc G cap).run Tryd.prog w = .ok (.enter G cap) w) (c0 : w.cell? p0 = some (.func (.func G) #[] #[])) (c1 : w.cell? p1 = some (.slice eo n ec)) (c2 : w.cell? p2 = some (.slice fo m fc))
    (hG : Calls Tryd.prog G #[.slice eo n ec, .slice fo m fc] w fun r w' => XR w ok s r w') :
    Calls Tryd.prog 33 #[.pointer (some p0), .pointer (some p1), .pointer (some p2)] w fun r w' => XR w ok s r w' := by
  go_enter Tryd.func33, Tryd.ntmps33
  go_wp2_with fail
  refine hG.mono ?_
  rintro r w' ⟨(⟨h1, v, rfl, h2⟩ | ⟨h1, rfl⟩), hb⟩
  · obtain ⟨ao, cc, rfl⟩ := h2.shape
    go_wp2
    go_ret
    exact ⟨.inl ⟨h1, _, rfl, h2⟩, hb⟩
  · unfold gaveX
    go_wp2
    exact ⟨rfl, .inr ⟨h1, rfl⟩, hb⟩
end Go.Proofs.YtmgndnabaemgkaaDoor

/-
  Package expansion: withFloat, withList, by their contracts.
-/
namespace Go.Proofs.YtmgndnabaemgkaaDoor
open Go Go.RowKit Go.Proofs.YtmgndnabaemgkaaDoor.M
set_option linter.unusedSimpArgs false
set_option linter.unusedVariables false

set_option maxRecDepth 100000 in
set_option maxHeartbeats 1000000 in
theorem xwf_ok (G : Nat) {eo : Option Addr} {n ec : Nat} {d : Nat → Int} {b : Int} (w : World) (ok : Bool) (s : Ls) (hEG : ∀ (cap : Array Value) (w : World), (callFunc G cap).run Tryd.prog w = .ok (.enter G cap) w) (h : Row w eo n ec d) (hv : xval d n = true) (pb : pok b = true) (H : Hold4 w)
    (hG : ∀ W, Below w.heap.size w W → Calls Tryd.prog G #[.slice eo n ec, .int .i64 b] W fun r w' => XR W ok s r w') :
    Calls Tryd.prog 24 #[.slice eo n ec, .int .i64 b, .func (.func G) #[] #[]] w fun r w' => XA w ok s r w' := by
  have hmf : ∀ (fn : Fn) (first cap : Array Value) (w : World), (Instr.makeFunc fn first cap).run Tryd.prog w = .ok (.func fn first cap) w := fun _ _ _ _ => rfl
  have hst : ∀ p F m w, (store p (.func (.func F) #[] #[]) m).run Tryd.prog w = stored Tryd.prog w p (.func (.func F) #[] #[]) m := fun p F m w => run_store _ w p _ m rfl
  have hE : ∀ (cap : Array Value) (w : World), (callFunc 44 cap).run Tryd.prog w = .ok (.enter 44 cap) w := by
    intro cap w
    simp [go_sem]
  have k0 := h3_0 w (.cells #[.slice eo n ec] 22) (.cells #[.int .i64 b] 3) (.cells #[.func (.func G) #[] #[]] 52)
  have k1 := h3_1 w (.cells #[.slice eo n ec] 22) (.cells #[.int .i64 b] 3) (.cells #[.func (.func G) #[] #[]] 52)
  have k2 := h3_2 w (.cells #[.slice eo n ec] 22) (.cells #[.int .i64 b] 3) (.cells #[.func (.func G) #[] #[]] 52)
  have hb0 := bel_a3 w (.cells #[.slice eo n ec] 22) (.cells #[.int .i64 b] 3) (.cells #[.func (.func G) #[] #[]] 52)
  have CV := fun W hW => xvalid_any W (h.keeps hW) (H.keeps hW)
  rw [hv] at CV
  have CP := fun W hW => bitsPartsA b W (H.keeps hW).lay
  rw [pb] at CP
  go_enter Tryd.func24, Tryd.ntmps24
  go_wp2_with fail
  generalize ((w.alloc (.cells #[.slice eo n ec] 22)).alloc (.cells #[.int .i64 b] 3)).alloc (.cells #[.func (.func G) #[] #[]] 52) = x0 at k0 k1 k2 hb0 ⊢
  refine (CV _ hb0).mono ?_
  rintro _ y1 ⟨rfl, hw1⟩
  have k0 := (hw1.block _ (Array.getElem?_eq_some_iff.1 k0).1).trans k0
  have k1 := (hw1.block _ (Array.getElem?_eq_some_iff.1 k1).1).trans k1
  have k2 := (hw1.block _ (Array.getElem?_eq_some_iff.1 k2).1).trans k2
  have hbA := bel_trans hb0 hw1
  have c1 := blkC k1 0 rfl
  go_wp2_with fail
  refine (CP _ hbA).mono ?_
  rintro _ y2 ⟨rfl, hw2⟩
  have k0 := (hw2.block _ (Array.getElem?_eq_some_iff.1 k0).1).trans k0
  have k1 := (hw2.block _ (Array.getElem?_eq_some_iff.1 k1).1).trans k1
  have k2 := (hw2.block _ (Array.getElem?_eq_some_iff.1 k2).1).trans k2
  have hbB := bel_trans hbA hw2
  have c0 := blkC k0 0 rfl
  have c1 := blkC k1 0 rfl
  have c2 := blkC k2 0 rfl
  go_wp2_with fail
  refine (xtold_any 44 _ _ ok s (hE _) (fun W hW => ?_)).mono ?_
  · have k0 := (hW.block _ (Array.getElem?_eq_some_iff.1 k0).1).trans k0
    have k1 := (hW.block _ (Array.getElem?_eq_some_iff.1 k1).1).trans k1
    have k2 := (hW.block _ (Array.getElem?_eq_some_iff.1 k2).1).trans k2
    exact xwf1 G eo n ec b _ _ _ W ok s hEG (blkC k2 0 rfl) (blkC k0 0 rfl) (blkC k1 0 rfl) (hG W (bel_trans hbB hW))
  rintro r w2 ⟨(⟨h1, v, rfl, h2⟩ | ⟨h1, rfl⟩), hb2⟩
  · obtain ⟨ao, cc, rfl⟩ := h2.shape
    go_wp2
    refine bodyPost_ret (v := .tuple #[.slice ao s.n cc, .int .i64 0]) (by simp [results, Tryd.results24, go_sem]) rfl ⟨.inl ⟨h1, _, rfl, h2.lower hbB.size⟩, bel_trans hbB hb2⟩
  · go_wp2
    refine bodyPost_ret (v := .tuple #[.slice none 0 0, .int .i64 14]) (by simp [results, Tryd.results24, go_sem]) rfl ⟨.inr ⟨h1, rfl⟩, bel_trans hbB hb2⟩
set_option maxRecDepth 100000 in
set_option maxHeartbeats 1000000 in
theorem xwl_ok (G : Nat) {eo fo : Option Addr} {n ec m fc : Nat} {d f : Nat → Int} (w : World) (ok : Bool) (s : Ls) (hEG : ∀ (cap : Array Value) (w : World), (callFunc G cap).run Tryd.prog w = .ok (.enter G cap) w) (h : Row w eo n ec d) (hf : Row w fo m fc f) (hv : xval d n = true) (hu : xval f m = true) (H : Hold4 w)
    (hG : ∀ W, Below w.heap.size w W → Calls Tryd.prog G #[.slice eo n ec, .slice fo m fc] W fun r w' => XR W ok s r w') :
    Calls Tryd.prog 16 #[.slice eo n ec, .slice fo m fc, .func (.func G) #[] #[]] w fun r w' => XA w ok s r w' := by
  have hmf : ∀ (fn : Fn) (first cap : Array Value) (w : World), (Instr.makeFunc fn first cap).run Tryd.prog w = .ok (.func fn first cap) w := fun _ _ _ _ => rfl
  have hst : ∀ p F m w, (store p (.func (.func F) #[] #[]) m).run Tryd.prog w = stored Tryd.prog w p (.func (.func F) #[] #[]) m := fun p F m w => run_store _ w p _ m rfl
  have hE : ∀ (cap : Array Value) (w : World), (callFunc 33 cap).run Tryd.prog w = .ok (.enter 33 cap) w := by
    intro cap w
    simp [go_sem]
  have k0 := h3_0 w (.cells #[.slice eo n ec] 22) (.cells #[.slice fo m fc] 22) (.cells #[.func (.func G) #[] #[]] 43)
  have k1 := h3_1 w (.cells #[.slice eo n ec] 22) (.cells #[.slice fo m fc] 22) (.cells #[.func (.func G) #[] #[]] 43)
  have k2 := h3_2 w (.cells #[.slice eo n ec] 22) (.cells #[.slice fo m fc] 22) (.cells #[.func (.func G) #[] #[]] 43)
  have hb0 := bel_a3 w (.cells #[.slice eo n ec] 22) (.cells #[.slice fo m fc] 22) (.cells #[.func (.func G) #[] #[]] 43)
  have CV := fun W hW => xvalid_any W (h.keeps hW) (H.keeps hW)
  rw [hv] at CV
  have CP := fun W hW => xvalid_any W (hf.keeps hW) (H.keeps hW)
  rw [hu] at CP
  go_enter Tryd.func16, Tryd.ntmps16
  go_wp2_with fail
  generalize ((w.alloc (.cells #[.slice eo n ec] 22)).alloc (.cells #[.slice fo m fc] 22)).alloc (.cells #[.func (.func G) #[] #[]] 43) = x0 at k0 k1 k2 hb0 ⊢
  refine (CV _ hb0).mono ?_
  rintro _ y1 ⟨rfl, hw1⟩
  have k0 := (hw1.block _ (Array.getElem?_eq_some_iff.1 k0).1).trans k0
  have k1 := (hw1.block _ (Array.getElem?_eq_some_iff.1 k1).1).trans k1
  have k2 := (hw1.block _ (Array.getElem?_eq_some_iff.1 k2).1).trans k2
  have hbA := bel_trans hb0 hw1
  have c1 := blkC k1 0 rfl
  go_wp2_with fail
  refine (CP _ hbA).mono ?_
  rintro _ y2 ⟨rfl, hw2⟩
  have k0 := (hw2.block _ (Array.getElem?_eq_some_iff.1 k0).1).trans k0
  have k1 := (hw2.block _ (Array.getElem?_eq_some_iff.1 k1).1).trans k1
  have k2 := (hw2.block _ (Array.getElem?_eq_some_iff.1 k2).1).trans k2
  have hbB := bel_trans hbA hw2
  have c0 := blkC k0 0 rfl
  have c1 := blkC k1 0 rfl
  have c2 := blkC k2 0 rfl
  go_wp2_with fail
  refine (xtold_any 33 _ _ ok s (hE _) (fun W hW => ?_)).mono ?_
  · have k0 := (hW.block _ (Array.getElem?_eq_some_iff.1 k0).1).trans k0
    have k1 := (hW.block _ (Array.getElem?_eq_some_iff.1 k1).1).trans k1
    have k2 := (hW.block _ (Array.getElem?_eq_some_iff.1 k2).1).trans k2
    exact xwl1 G eo fo n ec m fc _ _ _ W ok s hEG (blkC k2 0 rfl) (blkC k0 0 rfl) (blkC k1 0 rfl) (hG W (bel_trans hbB hW))
  rintro r w2 ⟨(⟨h1, v, rfl, h2⟩ | ⟨h1, rfl⟩), hb2⟩
  · obtain ⟨ao, cc, rfl⟩ := h2.shape
    go_wp2
    refine bodyPost_ret (v := .tuple #[.slice ao s.n cc, .int .i64 0]) (by simp [results, Tryd.results16, go_sem]) rfl ⟨.inl ⟨h1, _, rfl, h2.lower hbB.size⟩, bel_trans hbB hb2⟩
  · go_wp2
    refine bodyPost_ret (v := .tuple #[.slice none 0 0, .int .i64 14]) (by simp [results, Tryd.results16, go_sem]) rfl ⟨.inr ⟨h1, rfl⟩, bel_trans hbB hb2⟩
end Go.Proofs.YtmgndnabaemgkaaDoor

/-
  Package expansion: grown, sum, scaled; Grow, Sum, Scale, by their contracts.
-/
namespace Go.Proofs.YtmgndnabaemgkaaDoor
open Go Go.RowKit Go.Proofs.YtmgndnabaemgkaaDoor.M
set_option linter.unusedSimpArgs false
set_option linter.unusedVariables false

theorem xval_fin {d : Nat → Int} : ∀ {n}, xval d n = true → ∀ i, i < n → pok (d i) = true
  | 0, _, i, hi => absurd hi (Nat.not_lt_zero _)
  | n + 1, h, i, hi => by
    rw [xval_succ, Bool.and_eq_true] at h
    by_cases e : i = n
    · subst e
      have h2 := h.2
      unfold xok at h2
      rw [Bool.and_eq_true] at h2
      cases hp : pok (d i)
      · exfalso
        have hf : fld (d i) = 2047 := by simpa [pok] using hp
        have : pmag (d i) = 0 := by unfold pmag; rw [if_pos hf]
        simp [this] at h2
      · rfl
    · exact xval_fin h.1 i (by omega)
theorem XR.of_gr {w w1 w' : World} {ok : Bool} {s : Ls} {r : Ending} (hb : w.grownBy w1 none) (h : (ok = true ∧ ∃ v, r = .returned v ∧ LsO w.heap.size w' v s ∧ Below w.heap.size w1 w') ∨ (ok = false ∧ r = gaveX ∧ Below w.heap.size w1 w')) : XR w ok s r w' := by
  have hb0 : Below w.heap.size w w1 := grown_below hb
  rcases h with ⟨h1, v, h2, h3, h4⟩ | ⟨h1, h2, h3⟩
  · exact ⟨.inl ⟨h1, v, h2, h3⟩, hb0.trans h4⟩
  · exact ⟨.inr ⟨h1, h2⟩, hb0.trans h3⟩
set_option maxRecDepth 100000 in
theorem xgrown_any {eo : Option Addr} {n ec : Nat} {d : Nat → Int} {b : Int} (w : World) (h : Row w eo n ec d) (hd : ∀ i, i < n → rng (d i) ∧ pok (d i) = true) (hb : rng b) (pb : pok b = true) (hn : n ≤ 600000) :
    Calls Tryd.prog 28 #[.slice eo n ec, .int .i64 b] w fun r w' => XR w (gx d b n) (grw n d b) r w' := by
  have CO := xown_any w h (by omega)
  have CG : Hid (∀ W v, W.heap.size ≥ w.heap.size → LsO w.heap.size W v ⟨n, d⟩ → Calls Tryd.prog 47 #[v, .int .i64 b] W fun e w' => (gx d b n = true ∧ ∃ v', e = .returned v' ∧ LsO w.heap.size w' v' (grw n d b) ∧ Below w.heap.size W w') ∨ (gx d b n = false ∧ e = gaveX ∧ Below w.heap.size W w')) := fun W v hW hL => by
    refine (xgrow_L W hL hd hb pb (show n ≤ 800000 by omega) hW).mono ?_
    rintro e w' (⟨h1, v', h2, h3, h4⟩ | ⟨h1, h2, h3⟩)
    · exact .inl ⟨h1, v', h2, h3, h4.below hW⟩
    · exact .inr ⟨h1, h2, h3.below hW⟩
  generalize gx d b n = X at *
  generalize hS : grw n d b = S at *
  clear hS
  go_enter Tryd.func28, Tryd.ntmps28
  go_wp2_with fail
  refine CO.mono ?_
  rintro _ w1 ⟨v, rfl, hL, hg⟩
  obtain ⟨ao, cc, rfl⟩ := hL.shape
  go_wp2_with fail
  refine (CG.out _ _ hg.size hL).mono ?_
  rintro _ w2 (⟨h1, v', rfl, h3, h4⟩ | ⟨h1, rfl, h3⟩)
  · obtain ⟨ao', cc', rfl⟩ := h3.shape
    go_wp2
    go_ret
    exact XR.of_gr hg (.inl ⟨h1, _, rfl, h3, h4⟩)
  · unfold gaveX
    go_wp2
    exact ⟨rfl, XR.of_gr hg (.inr ⟨h1, rfl, h3⟩)⟩
/-- The list that scaled tells, of n floats. -/
def sclN (d : Nat → Int) (b : Int) : Nat → Ls
  | 0 => ⟨0, fun _ => 0⟩
  | n + 1 => if rg b = 0 then ⟨0, fun _ => 0⟩ else scl ⟨0, fun _ => 0⟩ d b n
def sxN (d : Nat → Int) (b : Int) : Nat → Bool
  | 0 => true
  | n + 1 => if rg b = 0 then true else sx d b n
set_option maxRecDepth 100000 in
theorem xscaled_any {eo : Option Addr} {n ec : Nat} {d : Nat → Int} {b : Int} (w : World) (h : Row w eo n ec d) (hd : ∀ i, i < n → rng (d i) ∧ pok (d i) = true) (hb : rng b) (pb : pok b = true) (hn : n ≤ 300000) (H : Hold4 w) :
    Calls Tryd.prog 25 #[.slice eo n ec, .int .i64 b] w fun r w' => XR w (sxN d b n) (sclN d b n) r w' := by
  have hle := h.le
  have hmx := h.max
  have CS : Calls Tryd.prog 34 #[.slice none 0 0, .slice eo n ec, .int .i64 b] w fun r w' => XR w (sxN d b n) (sclN d b n) r w' := by
    cases n with
    | zero =>
      refine (xscale_empty w).mono ?_
      rintro r w' ⟨rfl, rfl⟩
      exact ⟨.inl ⟨rfl, _, rfl, .inl (Out.nil _ _ _)⟩, bel_refl _⟩
    | succ n =>
      by_cases h0 : rg b = 0
      · have e1 : sxN d b (n + 1) = true := if_pos h0
        have e2 : sclN d b (n + 1) = ⟨0, fun _ => 0⟩ := if_pos h0
        rw [e1, e2]
        refine (xscale_nought w hb h0 (by omega)).mono ?_
        rintro r w' ⟨rfl, rfl⟩
        exact ⟨.inl ⟨rfl, _, rfl, .inl (Out.nil _ _ _)⟩, bel_refl _⟩
      · have e1 : sxN d b (n + 1) = sx d b n := if_neg h0
        have e2 : sclN d b (n + 1) = scl ⟨0, fun _ => 0⟩ d b n := if_neg h0
        rw [e1, e2]
        refine (xscale_some (B := w.heap.size) (s := ⟨0, fun _ => 0⟩) w (.inl (Out.nil _ _ _)) (fun W hW => h.keeps hW) (fun i hi => hd i (by omega)) hb pb h0 (show 0 + 2 * n ≤ 700000 by omega) (Nat.le_refl _) (fun W hW => H.keeps hW)).mono ?_
        rintro r w' (⟨h1, v', h2, h3, h4⟩ | ⟨h1, h2, h3⟩)
        · exact ⟨.inl ⟨h1, v', h2, h3⟩, h4⟩
        · exact ⟨.inr ⟨h1, h2⟩, h3⟩
  generalize sxN d b n = X at *
  generalize sclN d b n = S at *
  go_enter Tryd.func25, Tryd.ntmps25
  go_wp2_with fail
  refine CS.mono ?_
  rintro _ w2 ⟨(⟨h1, v', rfl, h3⟩ | ⟨h1, rfl⟩), h4⟩
  · obtain ⟨ao', cc', rfl⟩ := h3.shape
    go_wp2
    go_ret
    exact ⟨.inl ⟨h1, _, rfl, h3⟩, h4⟩
  · unfold gaveX
    go_wp2
    exact ⟨rfl, .inr ⟨h1, rfl⟩, h4⟩
end Go.Proofs.YtmgndnabaemgkaaDoor

/-
  Package expansion: Grow, Scale, Sum, by their contracts.
-/
namespace Go.Proofs.YtmgndnabaemgkaaDoor
open Go Go.RowKit Go.Proofs.YtmgndnabaemgkaaDoor.M
set_option linter.unusedSimpArgs false
set_option linter.unusedVariables false

set_option maxRecDepth 100000 in
theorem xGrow {eo : Option Addr} {n ec : Nat} {d : Nat → Int} {b : Int} (w : World) (h : Row w eo n ec d) (hr : ∀ i, i < n → rng (d i)) (hv : xval d n = true) (hb : rng b) (pb : pok b = true) (hn : n ≤ 300000) (H : Hold4 w) :
    Calls Tryd.prog 12 #[.slice eo n ec, .int .i64 b] w fun r w' => XA w (gx d b n) (grw n d b) r w' := by
  have hEG : ∀ (cap : Array Value) (w : World), (callFunc 28 cap).run Tryd.prog w = .ok (.enter 28 cap) w := by
    intro cap w
    simp [go_sem]
  have hd : ∀ i, i < n → rng (d i) ∧ pok (d i) = true := fun i hi => ⟨hr i hi, xval_fin hv i hi⟩
  have CW := xwf_ok 28 w (gx d b n) (grw n d b) hEG h hv pb H (fun W hW => xgrown_any W (h.keeps hW) hd hb pb (by omega))
  generalize gx d b n = X at *
  generalize grw n d b = S at *
  go_enter Tryd.func12, Tryd.ntmps12
  go_wp2_with fail
  refine CW.mono ?_
  rintro _ w1 ⟨(⟨h1, v, rfl, h2⟩ | ⟨h1, rfl⟩), hb⟩
  · obtain ⟨ao, cc, rfl⟩ := h2.shape
    go_wp2
    refine bodyPost_ret (v := .tuple #[.slice ao S.n cc, .int .i64 0]) (by simp [results, Tryd.results12, go_sem]) rfl ⟨.inl ⟨h1, _, rfl, h2⟩, hb⟩
  · go_wp2
    refine bodyPost_ret (v := .tuple #[.slice none 0 0, .int .i64 14]) (by simp [results, Tryd.results12, go_sem]) rfl ⟨.inr ⟨h1, rfl⟩, hb⟩
set_option maxRecDepth 100000 in
theorem xScale {eo : Option Addr} {n ec : Nat} {d : Nat → Int} {b : Int} (w : World) (h : Row w eo n ec d) (hr : ∀ i, i < n → rng (d i)) (hv : xval d n = true) (hb : rng b) (pb : pok b = true) (hn : n ≤ 300000) (H : Hold4 w) :
    Calls Tryd.prog 10 #[.slice eo n ec, .int .i64 b] w fun r w' => XA w (sxN d b n) (sclN d b n) r w' := by
  have hEG : ∀ (cap : Array Value) (w : World), (callFunc 25 cap).run Tryd.prog w = .ok (.enter 25 cap) w := by
    intro cap w
    simp [go_sem]
  have hd : ∀ i, i < n → rng (d i) ∧ pok (d i) = true := fun i hi => ⟨hr i hi, xval_fin hv i hi⟩
  have CW := xwf_ok 25 w (sxN d b n) (sclN d b n) hEG h hv pb H (fun W hW => xscaled_any W (h.keeps hW) hd hb pb hn (H.keeps hW))
  generalize sxN d b n = X at *
  generalize sclN d b n = S at *
  go_enter Tryd.func10, Tryd.ntmps10
  go_wp2_with fail
  refine CW.mono ?_
  rintro _ w1 ⟨(⟨h1, v, rfl, h2⟩ | ⟨h1, rfl⟩), hb⟩
  · obtain ⟨ao, cc, rfl⟩ := h2.shape
    go_wp2
    refine bodyPost_ret (v := .tuple #[.slice ao S.n cc, .int .i64 0]) (by simp [results, Tryd.results10, go_sem]) rfl ⟨.inl ⟨h1, _, rfl, h2⟩, hb⟩
  · go_wp2
    refine bodyPost_ret (v := .tuple #[.slice none 0 0, .int .i64 14]) (by simp [results, Tryd.results10, go_sem]) rfl ⟨.inr ⟨h1, rfl⟩, hb⟩
end Go.Proofs.YtmgndnabaemgkaaDoor

/-
  The steps of package eft at the constants of plumblaw7's laws.
-/
namespace Go.Proofs.YtmgndnabaemgkaaDoor
open Go Go.RowKit Go.Proofs.YtmgndnabaemgkaaDoor.M Ieee
set_option linter.unusedSimpArgs false
set_option linter.unusedVariables false

theorem xk_fw {p r : Int} {c : Nat} (h : FW p c) (hr : patW c = r) (hn : c % 9223372036854775808 ≤ 9218868437227405312) : p = r := by
  rcases h with ⟨_, hp, e⟩ | ⟨_, hN⟩
  · rw [← hr, e, patW_wd hp]
  · have := hN.2; omega
theorem xk_fsum {p q r : Int} {x y c : Nat} (hp : FW p x) (hq : FW q y) (h : Ieee.double.add x y = some c) (hr : patW c = r) (hn : c % 9223372036854775808 ≤ 9218868437227405312) : fsum p q = r := by
  rcases add_FW hp hq with ⟨z, e, f⟩ | ⟨e, _⟩
  · rw [h] at e; cases e; exact xk_fw f hr hn
  · rw [h] at e; cases e
theorem xk_fprod {p q r : Int} {x y c : Nat} (hp : FW p x) (hq : FW q y) (h : Ieee.double.mul x y = some c) (hr : patW c = r) (hn : c % 9223372036854775808 ≤ 9218868437227405312) : fprod p q = r := by
  rcases mul_FW hp hq with ⟨z, e, f⟩ | ⟨e, _⟩
  · rw [h] at e; cases e; exact xk_fw f hr hn
  · rw [h] at e; cases e
theorem xk_w1 : FW 4336966441157787648 4336966441157787648 := .inl ⟨by decide, by unfold rng; decide, by decide⟩
theorem xk_w2 : FW 4607182418800017408 4607182418800017408 := .inl ⟨by decide, by unfold rng; decide, by decide⟩
theorem xk_s3 : fsum 4336966441157787648 4607182418800017408 = 4607182418800017408 := xk_fsum xk_w1 xk_w2 (c := 4607182418800017408) (by decide +kernel) (by decide) (by decide)
theorem xk_n4336966441157787648 : M.neg 4336966441157787648 = (-4886405595696988160) := by decide
theorem xk_w4 : FW (-4886405595696988160) 13560338478012563456 := .inl ⟨by decide, by unfold rng; decide, by decide⟩
theorem xk_s4 : fsum 4607182418800017408 (-4886405595696988160) = 4607182418800017408 := xk_fsum xk_w2 xk_w4 (c := 4607182418800017408) (by decide +kernel) (by decide) (by decide)
theorem xk_sV4336966441157787648_4607182418800017408 : sV 4336966441157787648 4607182418800017408 = 4607182418800017408 := by unfold sV; simp only [xk_s3, xk_n4336966441157787648, xk_s4]
theorem xk_n4607182418800017408 : M.neg 4607182418800017408 = (-4616189618054758400) := by decide
theorem xk_w7 : FW (-4616189618054758400) 13830554455654793216 := .inl ⟨by decide, by unfold rng; decide, by decide⟩
theorem xk_s5 : fsum 4607182418800017408 (-4616189618054758400) = 0 := xk_fsum xk_w2 xk_w7 (c := 0) (by decide +kernel) (by decide) (by decide)
theorem xk_n0 : M.neg 0 = (-9223372036854775808) := by decide
theorem xk_w9 : FW (-9223372036854775808) 9223372036854775808 := .inl ⟨by decide, by unfold rng; decide, by decide⟩
theorem xk_s6 : fsum 4336966441157787648 (-9223372036854775808) = 4336966441157787648 := xk_fsum xk_w1 xk_w9 (c := 4336966441157787648) (by decide +kernel) (by decide) (by decide)
theorem xk_w10 : FW 0 0 := .inl ⟨by decide, by unfold rng; decide, by decide⟩
theorem xk_s7 : fsum 4336966441157787648 0 = 4336966441157787648 := xk_fsum xk_w1 xk_w10 (c := 4336966441157787648) (by decide +kernel) (by decide) (by decide)
theorem xk_sL4336966441157787648_4607182418800017408 : sL 4336966441157787648 4607182418800017408 = 4336966441157787648 := by unfold sL; simp only [xk_sV4336966441157787648_4607182418800017408, xk_s3, xk_n4607182418800017408, xk_s5, xk_n0, xk_s6, xk_s7]
theorem xk_w12 : FW 4611686018427387904 4611686018427387904 := .inl ⟨by decide, by unfold rng; decide, by decide⟩
theorem xk_s8 : fprod 4336966441157787648 4611686018427387904 = 4341470040785158144 := xk_fprod xk_w1 xk_w12 (c := 4341470040785158144) (by decide +kernel) (by decide) (by decide)
theorem xk_w13 : FW 4728779608772575232 4728779608772575232 := .inl ⟨by decide, by unfold rng; decide, by decide⟩
theorem xk_s9 : fprod 4728779608772575232 4336966441157787648 = 4458563631130345472 := xk_fprod xk_w13 xk_w1 (c := 4458563631130345472) (by decide +kernel) (by decide) (by decide)
theorem xk_w14 : FW 4458563631130345472 4458563631130345472 := .inl ⟨by decide, by unfold rng; decide, by decide⟩
theorem xk_s10 : fsum 4458563631130345472 (-4886405595696988160) = 4458563631096791040 := xk_fsum xk_w14 xk_w4 (c := 4458563631096791040) (by decide +kernel) (by decide) (by decide)
theorem xk_n4458563631096791040 : M.neg 4458563631096791040 = (-4764808405757984768) := by decide
theorem xk_w16 : FW (-4764808405757984768) 13681935667951566848 := .inl ⟨by decide, by unfold rng; decide, by decide⟩
theorem xk_s11 : fsum 4458563631130345472 (-4764808405757984768) = 4336966441157787648 := xk_fsum xk_w14 xk_w16 (c := 4336966441157787648) (by decide +kernel) (by decide) (by decide)
theorem xk_s12 : fsum 4336966441157787648 (-4886405595696988160) = 0 := xk_fsum xk_w1 xk_w4 (c := 0) (by decide +kernel) (by decide) (by decide)
theorem xk_cC4336966441157787648 : cC 4336966441157787648 = 4458563631130345472 := by unfold cC; simp only [xk_s9]
theorem xk_spH4336966441157787648 : spH 4336966441157787648 = 4336966441157787648 := by unfold spH; simp only [xk_cC4336966441157787648, xk_n4336966441157787648, xk_s10, xk_n4458563631096791040, xk_s11]
theorem xk_spL4336966441157787648 : spL 4336966441157787648 = 0 := by unfold spL; simp only [xk_spH4336966441157787648, xk_n4336966441157787648, xk_s12]
theorem xk_s13 : fprod 4728779608772575232 4611686018427387904 = 4733283208399945728 := xk_fprod xk_w13 xk_w12 (c := 4733283208399945728) (by decide +kernel) (by decide) (by decide)
theorem xk_n4611686018427387904 : M.neg 4611686018427387904 = (-4611686018427387904) := by decide
theorem xk_w21 : FW 4733283208399945728 4733283208399945728 := .inl ⟨by decide, by unfold rng; decide, by decide⟩
theorem xk_w22 : FW (-4611686018427387904) 13835058055282163712 := .inl ⟨by decide, by unfold rng; decide, by decide⟩
theorem xk_s14 : fsum 4733283208399945728 (-4611686018427387904) = 4733283208366391296 := xk_fsum xk_w21 xk_w22 (c := 4733283208366391296) (by decide +kernel) (by decide) (by decide)
theorem xk_n4733283208366391296 : M.neg 4733283208366391296 = (-4490088828488384512) := by decide
theorem xk_w24 : FW (-4490088828488384512) 13956655245221167104 := .inl ⟨by decide, by unfold rng; decide, by decide⟩
theorem xk_s15 : fsum 4733283208399945728 (-4490088828488384512) = 4611686018427387904 := xk_fsum xk_w21 xk_w24 (c := 4611686018427387904) (by decide +kernel) (by decide) (by decide)
theorem xk_s16 : fsum 4611686018427387904 (-4611686018427387904) = 0 := xk_fsum xk_w12 xk_w22 (c := 0) (by decide +kernel) (by decide) (by decide)
theorem xk_cC4611686018427387904 : cC 4611686018427387904 = 4733283208399945728 := by unfold cC; simp only [xk_s13]
theorem xk_spH4611686018427387904 : spH 4611686018427387904 = 4611686018427387904 := by unfold spH; simp only [xk_cC4611686018427387904, xk_n4611686018427387904, xk_s14, xk_n4733283208366391296, xk_s15]
theorem xk_spL4611686018427387904 : spL 4611686018427387904 = 0 := by unfold spL; simp only [xk_spH4611686018427387904, xk_n4611686018427387904, xk_s16]
theorem xk_n4341470040785158144 : M.neg 4341470040785158144 = (-4881901996069617664) := by decide
theorem xk_w29 : FW 4341470040785158144 4341470040785158144 := .inl ⟨by decide, by unfold rng; decide, by decide⟩
theorem xk_w30 : FW (-4881901996069617664) 13564842077639933952 := .inl ⟨by decide, by unfold rng; decide, by decide⟩
theorem xk_s17 : fsum 4341470040785158144 (-4881901996069617664) = 0 := xk_fsum xk_w29 xk_w30 (c := 0) (by decide +kernel) (by decide) (by decide)
theorem xk_T14336966441157787648_4611686018427387904 : pT1 4336966441157787648 4611686018427387904 = 0 := by unfold pT1; simp only [xk_s8, xk_spH4336966441157787648, xk_spH4611686018427387904, xk_n4341470040785158144, xk_s17]
theorem xk_s18 : fprod 0 4611686018427387904 = 0 := xk_fprod xk_w10 xk_w12 (c := 0) (by decide +kernel) (by decide) (by decide)
theorem xk_s19 : fsum 0 (-9223372036854775808) = 0 := xk_fsum xk_w10 xk_w9 (c := 0) (by decide +kernel) (by decide) (by decide)
theorem xk_T24336966441157787648_4611686018427387904 : pT2 4336966441157787648 4611686018427387904 = 0 := by unfold pT2; simp only [xk_T14336966441157787648_4611686018427387904, xk_spL4336966441157787648, xk_spH4611686018427387904, xk_s18, xk_n0, xk_s19]
theorem xk_s20 : fprod 4336966441157787648 0 = 0 := xk_fprod xk_w1 xk_w10 (c := 0) (by decide +kernel) (by decide) (by decide)
theorem xk_T34336966441157787648_4611686018427387904 : pT3 4336966441157787648 4611686018427387904 = 0 := by unfold pT3; simp only [xk_T24336966441157787648_4611686018427387904, xk_spH4336966441157787648, xk_spL4611686018427387904, xk_s20, xk_n0, xk_s19]
theorem xk_s21 : fprod 0 0 = 0 := xk_fprod xk_w10 xk_w10 (c := 0) (by decide +kernel) (by decide) (by decide)
theorem xk_prL4336966441157787648_4611686018427387904 : prL 4336966441157787648 4611686018427387904 = 0 := by unfold prL; simp only [xk_spL4336966441157787648, xk_spL4611686018427387904, xk_s21, xk_T34336966441157787648_4611686018427387904, xk_n0, xk_s19]
theorem xk_s22 : fprod 4607182418800017408 4611686018427387904 = 4611686018427387904 := xk_fprod xk_w2 xk_w12 (c := 4611686018427387904) (by decide +kernel) (by decide) (by decide)
theorem xk_s23 : fprod 4728779608772575232 4607182418800017408 = 4728779608772575232 := xk_fprod xk_w13 xk_w2 (c := 4728779608772575232) (by decide +kernel) (by decide) (by decide)
theorem xk_s24 : fsum 4728779608772575232 (-4616189618054758400) = 4728779608739020800 := xk_fsum xk_w13 xk_w7 (c := 4728779608739020800) (by decide +kernel) (by decide) (by decide)
theorem xk_n4728779608739020800 : M.neg 4728779608739020800 = (-4494592428115755008) := by decide
theorem xk_w36 : FW (-4494592428115755008) 13952151645593796608 := .inl ⟨by decide, by unfold rng; decide, by decide⟩
theorem xk_s25 : fsum 4728779608772575232 (-4494592428115755008) = 4607182418800017408 := xk_fsum xk_w13 xk_w36 (c := 4607182418800017408) (by decide +kernel) (by decide) (by decide)
theorem xk_cC4607182418800017408 : cC 4607182418800017408 = 4728779608772575232 := by unfold cC; simp only [xk_s23]
theorem xk_spH4607182418800017408 : spH 4607182418800017408 = 4607182418800017408 := by unfold spH; simp only [xk_cC4607182418800017408, xk_n4607182418800017408, xk_s24, xk_n4728779608739020800, xk_s25]
theorem xk_spL4607182418800017408 : spL 4607182418800017408 = 0 := by unfold spL; simp only [xk_spH4607182418800017408, xk_n4607182418800017408, xk_s5]
theorem xk_T14607182418800017408_4611686018427387904 : pT1 4607182418800017408 4611686018427387904 = 0 := by unfold pT1; simp only [xk_s22, xk_spH4607182418800017408, xk_spH4611686018427387904, xk_n4611686018427387904, xk_s16]
theorem xk_T24607182418800017408_4611686018427387904 : pT2 4607182418800017408 4611686018427387904 = 0 := by unfold pT2; simp only [xk_T14607182418800017408_4611686018427387904, xk_spL4607182418800017408, xk_spH4611686018427387904, xk_s18, xk_n0, xk_s19]
theorem xk_s26 : fprod 4607182418800017408 0 = 0 := xk_fprod xk_w2 xk_w10 (c := 0) (by decide +kernel) (by decide) (by decide)
theorem xk_T34607182418800017408_4611686018427387904 : pT3 4607182418800017408 4611686018427387904 = 0 := by unfold pT3; simp only [xk_T24607182418800017408_4611686018427387904, xk_spH4607182418800017408, xk_spL4611686018427387904, xk_s26, xk_n0, xk_s19]
theorem xk_prL4607182418800017408_4611686018427387904 : prL 4607182418800017408 4611686018427387904 = 0 := by unfold prL; simp only [xk_spL4607182418800017408, xk_spL4611686018427387904, xk_s21, xk_T34607182418800017408_4611686018427387904, xk_n0, xk_s19]
theorem xk_s27 : fsum 4341470040785158144 0 = 4341470040785158144 := xk_fsum xk_w29 xk_w10 (c := 4341470040785158144) (by decide +kernel) (by decide) (by decide)
theorem xk_sV4341470040785158144_0 : sV 4341470040785158144 0 = 0 := by unfold sV; simp only [xk_s27, xk_n4341470040785158144, xk_s17]
theorem xk_s28 : fsum 4341470040785158144 (-9223372036854775808) = 4341470040785158144 := xk_fsum xk_w29 xk_w9 (c := 4341470040785158144) (by decide +kernel) (by decide) (by decide)
theorem xk_s29 : fsum 0 0 = 0 := xk_fsum xk_w10 xk_w10 (c := 0) (by decide +kernel) (by decide) (by decide)
theorem xk_sL4341470040785158144_0 : sL 4341470040785158144 0 = 0 := by unfold sL; simp only [xk_sV4341470040785158144_0, xk_s27, xk_n0, xk_s28, xk_n4341470040785158144, xk_s17, xk_s19, xk_s29]
theorem xk_s30 : fsum 4611686018427387904 4341470040785158144 = 4611686018427387904 := xk_fsum xk_w12 xk_w29 (c := 4611686018427387904) (by decide +kernel) (by decide) (by decide)
theorem xk_fL4611686018427387904_4341470040785158144 : fL 4611686018427387904 4341470040785158144 = 4341470040785158144 := by unfold fL; simp only [xk_s30, xk_n4611686018427387904, xk_s16, xk_n0, xk_s28]
theorem xk_rng (b : Int) (h : decide (-9223372036854775808 ≤ b ∧ b ≤ 9223372036854775807) = true) : rng b := by
  have := of_decide_eq_true h
  unfold rng
  omega
theorem gx_one (d : Nat → Int) (q : Int) : gx d q 1 = pok (sL q (d 0)) := by
  show (true && pok (sL q (d 0))) = _
  rw [Bool.true_and]
theorem grw_one (d : Nat → Int) (q : Int) : grw 1 d q = ((⟨0, d⟩ : Ls).add (sL q (d 0))).add (fsum q (d 0)) := rfl
theorem sx_one (d : Nat → Int) (b : Int) : sx d b 1 = (pX (d 0) b && (pX (d 1) b && (pok (sL (fprod (d 0) b) (prL (d 1) b)) && fX (fprod (d 1) b) (fsum (fprod (d 0) b) (prL (d 1) b))))) := rfl
theorem scl_one (s : Ls) (d : Nat → Int) (b : Int) : scl s d b 1 = (((s.add (prL (d 0) b)).add (sL (fprod (d 0) b) (prL (d 1) b))).add (fL (fprod (d 1) b) (fsum (fprod (d 0) b) (prL (d 1) b)))).add (fsum (fprod (d 1) b) (fsum (fprod (d 0) b) (prL (d 1) b))) := rfl
theorem sxN_succ {d : Nat → Int} {b : Int} {n : Nat} (h : ¬ rg b = 0) : sxN d b (n + 1) = sx d b n := if_neg h
theorem sclN_succ {d : Nat → Int} {b : Int} {n : Nat} (h : ¬ rg b = 0) : sclN d b (n + 1) = scl ⟨0, fun _ => 0⟩ d b n := if_neg h
theorem ls_no {s : Ls} {b : Int} (h : rg b = 0) : s.add b = s := if_pos h
theorem ls_yes {n : Nat} {d : Nat → Int} {b : Int} (h : ¬ rg b = 0) : (⟨n, d⟩ : Ls).add b = ⟨n + 1, upd d n b⟩ := if_neg h
theorem xk_pT : pok 4336966441157787648 = true := by decide
theorem xk_p0 : pok 0 = true := by decide
theorem xk_p1 : pok 0 = true := by decide
theorem xk_p2 : pok 0 = true := by decide
theorem xk_p3 : pok 4341470040785158144 = true := by decide
theorem xk_grow_x : gx (fun _ => 4607182418800017408) 4336966441157787648 1 = true := by
  rw [gx_one, xk_sL4336966441157787648_4607182418800017408, xk_pT]
theorem xk_grow_s : grw 1 (fun _ => 4607182418800017408) 4336966441157787648 = ⟨2, upd (upd (fun _ => 4607182418800017408) 0 4336966441157787648) 1 4607182418800017408⟩ := by
  rw [grw_one, xk_sL4336966441157787648_4607182418800017408, xk_s3, ls_yes (show ¬ rg 4336966441157787648 = 0 by decide), ls_yes (show ¬ rg 4607182418800017408 = 0 by decide)]
theorem xk_pX0 : pX 4336966441157787648 4611686018427387904 = true := by
  have h : reach 4336966441157787648 4611686018427387904 = true := by decide +kernel
  unfold pX
  rw [h, xk_prL4336966441157787648_4611686018427387904, xk_p0]
  rfl
theorem xk_pX1 : pX 4607182418800017408 4611686018427387904 = true := by
  have h : reach 4607182418800017408 4611686018427387904 = true := by decide +kernel
  unfold pX
  rw [h, xk_prL4607182418800017408_4611686018427387904, xk_p1]
  rfl
theorem xk_fX : fX 4611686018427387904 4341470040785158144 = true := by
  have h : decide ((iV 4611686018427387904).natAbs < (iV 4341470040785158144).natAbs) = false := by decide +kernel
  unfold fX
  rw [xk_fL4611686018427387904_4341470040785158144, xk_p3, h]
  rfl
theorem xk_d0 : d2 4336966441157787648 4607182418800017408 0 = 4336966441157787648 := rfl
theorem xk_d1 : d2 4336966441157787648 4607182418800017408 1 = 4607182418800017408 := rfl
theorem xk_scale_x : sxN (d2 4336966441157787648 4607182418800017408) 4611686018427387904 2 = true := by
  rw [sxN_succ (by decide), sx_one, xk_d0, xk_d1, xk_pX0, xk_pX1, xk_s8, xk_prL4607182418800017408_4611686018427387904, xk_s22, xk_s27, xk_sL4341470040785158144_0, xk_fX, xk_p2]
  rfl
theorem xk_scale_n : (sclN (d2 4336966441157787648 4607182418800017408) 4611686018427387904 2).n = 2 := by
  rw [sclN_succ (by decide), scl_one, xk_d0, xk_d1, xk_prL4336966441157787648_4611686018427387904, xk_s8, xk_prL4607182418800017408_4611686018427387904, xk_s22, xk_s27, xk_sL4341470040785158144_0, xk_fL4611686018427387904_4341470040785158144, xk_s30, ls_no (show rg 0 = 0 by decide), ls_no (show rg 0 = 0 by decide), ls_yes (show ¬ rg 4341470040785158144 = 0 by decide), ls_yes (show ¬ rg 4611686018427387904 = 0 by decide)]
theorem xk_v3 : xval (fun _ => 4607182418800017408) 1 = true := by decide +kernel
theorem xk_v4 : xval (d2 4336966441157787648 4607182418800017408) 2 = true := by decide +kernel
theorem xk_v5 : xval (upd (upd (fun _ => 4607182418800017408) 0 4336966441157787648) 1 4607182418800017408) 2 = true := by decide +kernel
end Go.Proofs.YtmgndnabaemgkaaDoor

/-
  plumblaw7.alive, by its contract.
-/
namespace Go.Proofs.YtmgndnabaemgkaaDoor
open Go Go.RowKit Go.Proofs.YtmgndnabaemgkaaDoor.M
set_option linter.unusedSimpArgs false
set_option linter.unusedVariables false

theorem LsO.row {B : Nat} {w : World} {v : Value} {s : Ls} (h : LsO B w v s) : ∃ ao cap, v = .slice ao s.n cap ∧ Row w ao s.n cap s.d := by
  rcases h with h | ⟨h0, ad, rfl⟩
  · exact h.row
  · rw [h0]
    exact ⟨some ad, 0, rfl, Nat.le_refl _, by decide, (fun q => by cases q), fun q => by omega⟩
theorem XA.yes {w w' : World} {ok : Bool} {s : Ls} {r : Ending} (h : XA w ok s r w') (ho : ok = true) : ∃ ao cap, r = .returned (.tuple #[.slice ao s.n cap, .int .i64 0]) ∧ Row w' ao s.n cap s.d ∧ Below w.heap.size w w' := by
  obtain ⟨(⟨_, v, h1, h2⟩ | ⟨h1, _⟩), hb⟩ := h
  · obtain ⟨ao, cap, rfl, hR⟩ := h2.row
    exact ⟨ao, cap, h1, hR, hb⟩
  · rw [ho] at h1; cases h1
theorem XA.no {w w' : World} {ok : Bool} {s : Ls} {r : Ending} (h : XA w ok s r w') (ho : ok = false) : r = .returned (.tuple #[.slice none 0 0, .int .i64 14]) ∧ Below w.heap.size w w' := by
  obtain ⟨(⟨h1, _⟩ | ⟨_, h1⟩), hb⟩ := h
  · rw [ho] at h1; cases h1
  · exact ⟨h1, hb⟩
theorem xk_r (b : Int) (h : decide (-9223372036854775808 ≤ b ∧ b ≤ 9223372036854775807) = true) : ∀ i : Nat, i < 1 → rng ((fun _ => b) i) := fun _ _ => xk_rng b h
theorem xk_r2 : ∀ i : Nat, i < 2 → rng (d2 4336966441157787648 4607182418800017408 i) := fun i hi => by
  match i, hi with
  | 0, _ => exact xk_rng _ (by decide)
  | 1, _ => exact xk_rng _ (by decide)
theorem xk_same : sameB (upd (upd (fun _ => 4607182418800017408) 0 4336966441157787648) 1 4607182418800017408) (d2 4336966441157787648 4607182418800017408) 2 2 = true := by
  refine decide_eq_true ⟨rfl, fun i hi => ?_⟩
  match i, hi with
  | 0, _ => rfl
  | 1, _ => rfl
set_option maxRecDepth 100000 in
set_option maxHeartbeats 1000000 in
theorem alive7 (w : World) (H : Hold4 w) : Calls Tryd.prog 5 #[] w fun e w' => e = .returned (.bool true) ∧ Below w.heap.size w w' := by
  have HH : Hid (Hold4 w) := H
  have C1 : Hid (∀ W ao cap, Hold4 W → Row W ao 1 cap (fun _ => 4607182418800017408) → Calls Tryd.prog 12 #[.slice ao 1 cap, .int .i64 4336966441157787648] W fun r w' => ∃ ao cap, r = .returned (.tuple #[.slice ao 2 cap, .int .i64 0]) ∧ Row w' ao 2 cap (upd (upd (fun _ => 4607182418800017408) 0 4336966441157787648) 1 4607182418800017408) ∧ Below W.heap.size W w') := fun W ao cap hW hR => by
    have h := xGrow W hR (xk_r _ (by decide)) xk_v3 (xk_rng _ (by decide)) xk_pT (by decide) hW
    rw [xk_grow_s] at h
    exact h.mono fun r w' hx => hx.yes xk_grow_x
  have C2 : Hid (∀ W ao cap, Hold4 W → Row W ao 2 cap (d2 4336966441157787648 4607182418800017408) → Calls Tryd.prog 10 #[.slice ao 2 cap, .int .i64 4611686018427387904] W fun r w' => ∃ ao cap, r = .returned (.tuple #[.slice ao 2 cap, .int .i64 0]) ∧ Below W.heap.size W w') := fun W ao cap hW hR => by
    have h := xScale (b := 4611686018427387904) W hR xk_r2 xk_v4 (xk_rng _ (by decide)) (by decide) (by decide) hW
    refine h.mono fun r w' hx => ?_
    obtain ⟨ao, cap, e1, e2, e3⟩ := hx.yes xk_scale_x
    rw [xk_scale_n] at e1
    exact ⟨ao, cap, e1, e3⟩
  clear H
  go_enter Tryd.func5, Tryd.ntmps5
  go_wp2_with fail
  have hb0 := bel_alloc w (.cells #[.int .i64 4607182418800017408] 3)
  refine (C1.out _ _ _ (HH.out.keeps hb0) (row1 w _ rfl)).mono ?_
  rintro _ w1 ⟨ao1, cap1, rfl, hR1, hb1⟩
  have hb01 := bel_trans hb0 hb1
  have hb2 := bel_alloc w1 (.cells #[.int .i64 4336966441157787648, .int .i64 4607182418800017408] 3)
  have hb02 := bel_trans hb01 hb2
  go_wp2_with fail
  refine (C2.out _ _ _ (HH.out.keeps hb02) (row2 w1 _ _ rfl)).mono ?_
  rintro _ w2 ⟨ao2, cap2, rfl, hb3⟩
  have hb03 := bel_trans hb02 hb3
  have hR2 := (hR1.keeps hb2).keeps hb3
  have hb4 := bel_alloc w2 (.cells #[.int .i64 4336966441157787648, .int .i64 4607182418800017408] 3)
  have CS := same_any _ _ _ _ _ _ _ _ _ (hR2.keeps hb4) (row2 w2 4336966441157787648 4607182418800017408 rfl)
  rw [xk_same] at CS
  go_wp2_with fail
  refine CS.mono ?_
  rintro _ w3 ⟨rfl, hb5⟩
  have hb05 := bel_trans (bel_trans hb03 hb4) hb5
  have CV := xvalid_any w3 ((hR2.keeps hb4).keeps hb5) (HH.out.keeps hb05)
  rw [xk_v5] at CV
  clear CS
  go_wp2_with fail
  refine CV.mono ?_
  rintro _ w4 ⟨rfl, hb6⟩
  go_wp2
  all_goals go_ret
  all_goals exact ⟨rfl, by first | exact bel_trans hb05 hb6 | exact (bel_trans hb05 hb6).drew⟩
end Go.Proofs.YtmgndnabaemgkaaDoor

/-
  Two floats that overlap, stand the wrong way round, or of which one is a nought or none: no expansion.
-/
namespace Go.Proofs.YtmgndnabaemgkaaDoor
open Go Go.RowKit Go.Proofs.YtmgndnabaemgkaaDoor.M
set_option linter.unusedSimpArgs false
set_option linter.unusedVariables false

end Go.Proofs.YtmgndnabaemgkaaDoor

/-
  EftHalves: Split is finite where floats are not too great; its halves have 26 bits.
-/
namespace Go.Proofs.YtmgndnabaemgkaaDoor
open Go Go.RowKit Go.Proofs.YtmgndnabaemgkaaDoor.M Ieee
set_option linter.unusedSimpArgs false
set_option linter.unusedVariables false

theorem k_sp1 {a c B M : Int} (h : (a.natAbs : Int) ≤ B) (hM : 268435455 * B ≤ M) : ((134217729 * a).natAbs : Int) ≤ M := by omega
theorem k_sp2 {a c B M : Int} (h : (a.natAbs : Int) ≤ B) (hM : 268435455 * B ≤ M) (r : 1000 * (c - 134217729 * a).natAbs ≤ (134217729 * a).natAbs) : ((c - a).natAbs : Int) ≤ M ∧ ((c - a).natAbs : Int) ≤ 200000000 * B := by omega
theorem k_sp3 {a c d B M : Int} (h : (a.natAbs : Int) ≤ B) (hM : 268435455 * B ≤ M) (g : ((c - a).natAbs : Int) ≤ 200000000 * B) (r : 1000 * (d - (c - a)).natAbs ≤ (c - a).natAbs) : ((c - d).natAbs : Int) ≤ M ∧ ((c - d).natAbs : Int) ≤ 300000 * B := by omega
theorem k_sp4 {a c d x B M : Int} (h : (a.natAbs : Int) ≤ B) (hM : 268435455 * B ≤ M) (g : ((c - d).natAbs : Int) ≤ 300000 * B) (r : 1000 * (x - (c - d)).natAbs ≤ (c - d).natAbs) : ((a - x).natAbs : Int) ≤ M := by omega
theorem sp_fin {p B : Int} (hp : M.rng p) (pp : pok p = true) (h : ((iV p).natAbs : Int) ≤ B) (hM : 268435455 * B ≤ maxV) : pok (spL p) = true := by
  have rc : M.rng (cC p) := fprod_rng spl_rng hp
  have rd := fsum_rng rc (neg_rng hp)
  have rH : M.rng (spH p) := fsum_rng rc (neg_rng rd)
  have S1 := stp_split hp pp
  have pc := S1.fin (k_sp1 (c := 0) h hM)
  have r1 := nr_rel (S1.nr pc)
  obtain ⟨g1, g2⟩ := k_sp2 h hM r1
  have S2 := stp_diff rc hp pc pp
  have pd := S2.fin g1
  have r2 := nr_rel (S2.nr pd)
  obtain ⟨g3, g4⟩ := k_sp3 h hM g2 r2
  have S3 := stp_diff rc rd pc pd
  have pH := S3.fin g3
  have r3 := nr_rel (S3.nr pH)
  exact (stp_diff hp rH pp pH).fin (k_sp4 h hM g4 r3)
end Go.Proofs.YtmgndnabaemgkaaDoor

/-
  The mathematics of EftPremise: where floats are not too great all steps are finite.
-/
namespace Go.Proofs.YtmgndnabaemgkaaDoor
open Go Go.RowKit Go.Proofs.YtmgndnabaemgkaaDoor.M Ieee
set_option linter.unusedSimpArgs false
set_option linter.unusedVariables false

theorem pr_1 {a b h M : Int} (h1 : ((a.natAbs : Int) + b.natAbs) ≤ M) : ((a + b).natAbs : Int) ≤ M := by omega
theorem pr_2 {a b h M : Int} (ha : 2 * (a.natAbs : Int) ≤ M) (hb : 2 * (b.natAbs : Int) ≤ M) (e1 : (h - (a + b)).natAbs ≤ (a - (a + b)).natAbs) : ((h - a).natAbs : Int) ≤ M := by omega
theorem pr_3 {a b h v M : Int} (ha : 2 * (a.natAbs : Int) ≤ M) (e2 : (h - (a + b)).natAbs ≤ (b - (a + b)).natAbs) (e3 : (v - (h - a)).natAbs ≤ (b - (h - a)).natAbs) : ((h - v).natAbs : Int) ≤ M := by omega
theorem pr_4 {a b h v u M : Int} (ha : 2 * (a.natAbs : Int) ≤ M) (e2 : (h - (a + b)).natAbs ≤ (b - (a + b)).natAbs) (e3 : (v - (h - a)).natAbs ≤ (b - (h - a)).natAbs) (e4 : (u - (h - v)).natAbs ≤ (a - (h - v)).natAbs) : ((a - u).natAbs : Int) ≤ M ∧ (a - u).natAbs ≤ 2 * (h - (a + b)).natAbs := by omega
theorem pr_5 {a b h v M : Int} (hb : 2 * (b.natAbs : Int) ≤ M) (e1 : (h - (a + b)).natAbs ≤ (a - (a + b)).natAbs) (e3 : (v - (h - a)).natAbs ≤ (b - (h - a)).natAbs) : ((b - v).natAbs : Int) ≤ M ∧ (b - v).natAbs ≤ 2 * (h - (a + b)).natAbs := by omega
theorem pr_6 {S h x y p q M : Int} (hM : (S.natAbs : Int) ≤ M) (r : 1000 * (h - S).natAbs ≤ S.natAbs) (g1 : x.natAbs ≤ 2 * (h - S).natAbs) (g2 : y.natAbs ≤ 2 * (h - S).natAbs) (n1 : (p - x).natAbs ≤ (0 - x).natAbs) (n2 : (q - y).natAbs ≤ (0 - y).natAbs) : ((p + q).natAbs : Int) ≤ M := by omega
theorem sum_fin {p q : Int} (hp : M.rng p) (hq : M.rng q) (pp : pok p = true) (pq : pok q = true) (h1 : 2 * ((iV p).natAbs : Int) ≤ maxV) (h2 : 2 * ((iV q).natAbs : Int) ≤ maxV) : pok (fsum p q) = true ∧ pok (sL p q) = true := by
  have rh := fsum_rng hp hq
  have rv : M.rng (sV p q) := fsum_rng rh (neg_rng hp)
  have rU := fsum_rng rh (neg_rng rv)
  have rX := fsum_rng hp (neg_rng rU)
  have rY := fsum_rng hq (neg_rng rv)
  have Sh := stp_sum hp hq pp pq
  have hM := pr_1 (h := 0) (a := iV p) (b := iV q) (M := maxV) (by omega)
  have ph := Sh.fin hM
  have nh := Sh.nr ph
  have e1 := nh.2 _ (fl_iV p)
  have e2 := nh.2 _ (fl_iV q)
  have Sv := stp_diff rh hp ph pp
  have pv := Sv.fin (pr_2 h1 h2 e1)
  have nv := Sv.nr pv
  have e3 := nv.2 _ (fl_iV q)
  have SU := stp_diff rh rv ph pv
  have pU := SU.fin (pr_3 h1 e2 e3)
  have e4 := (SU.nr pU).2 _ (fl_iV p)
  have SX := stp_diff hp rU pp pU
  obtain ⟨g1, g2⟩ := pr_4 h1 e2 e3 e4
  have pX := SX.fin g1
  have SY := stp_diff hq rv pq pv
  obtain ⟨g3, g4⟩ := pr_5 h2 e1 e3
  have pY := SY.fin g3
  exact ⟨ph, (stp_sum rX rY pX pY).fin (pr_6 hM (nr_rel nh) g2 g4 ((SX.nr pX).2 _ fl_zero) ((SY.nr pY).2 _ fl_zero))⟩
/-- A half is little. -/
theorem hlv_small {a h l : Int} (H : Hlv a h l) : 67108864 * (l.natAbs : Int) ≤ (a.natAbs : Int) := by
  by_cases h0 : a = 0
  · have := H.zero h0
    have := H.sum
    omega
  · obtain ⟨x, j, s, g1, g2⟩ := H.spl h0
    have e : 2 ^ x * a - 2 ^ x * h = 2 ^ x * l := by rw [← Int.mul_sub]; congr 1; have := H.sum; omega
    have u4 := s.low
    rw [e, natAbs_p2] at u4
    rw [natAbs_p2] at g1
    have hx := p2 x
    have hj := p2 j
    have : (2 : Int) ^ x * (67108864 * (l.natAbs : Int)) ≤ 2 ^ x * (a.natAbs : Int) := by
      rw [show (2 : Int) ^ x * (67108864 * (l.natAbs : Int)) = 67108864 * (2 ^ x * (l.natAbs : Int)) by ac_rfl]
      omega
    exact Int.le_of_mul_le_mul_left this hx
theorem pr_ratio {K T U a b x y c : Int} (hK : 0 < K) (hT : K * T = a * b) (hU : K * U = x * y) (h : c * ((x * y).natAbs : Int) ≤ ((a * b).natAbs : Int)) : c * (U.natAbs : Int) ≤ (T.natAbs : Int) := by
  rw [← hT, ← hU, Int.natAbs_mul, Int.natAbs_mul, Int.natCast_mul, Int.natCast_mul, show ((K.natAbs : Nat) : Int) = K by omega, show c * (K * (U.natAbs : Int)) = K * (c * (U.natAbs : Int)) by ac_rfl] at h
  exact Int.le_of_mul_le_mul_left h hK
theorem pr_m1 {q r a b : Int} (hq : 67108864 * (q.natAbs : Int) ≤ (a.natAbs : Int)) (hr : (r.natAbs : Int) ≤ 2 * (b.natAbs : Int)) : 33554432 * ((q * r).natAbs : Int) ≤ ((a * b).natAbs : Int) := by
  rw [Int.natAbs_mul, Int.natAbs_mul, Int.natCast_mul, Int.natCast_mul]
  have h1 := Int.mul_le_mul hq hr (by omega) (by omega)
  generalize (q.natAbs : Int) = Q at *
  generalize (r.natAbs : Int) = R at *
  generalize (a.natAbs : Int) = A at *
  generalize (b.natAbs : Int) = B at *
  rw [show 67108864 * Q * R = 67108864 * (Q * R) by ac_rfl, show A * (2 * B) = 2 * (A * B) by ac_rfl] at h1
  omega
end Go.Proofs.YtmgndnabaemgkaaDoor

/-
  Plain mathematics: which numbers in their one form are floats. No Go text in sight.
-/
namespace Go.Proofs.YtmgndnabaemgkaaDoor
open Go Go.RowKit Go.Proofs.YtmgndnabaemgkaaDoor.M
set_option linter.unusedSimpArgs false
set_option linter.unusedVariables false

end Go.Proofs.YtmgndnabaemgkaaDoor

/-
  Package plumbref7, plainly: the ends of a float; lists that are added to from nothing.
-/
namespace Go.Proofs.YtmgndnabaemgkaaDoor
open Go Go.RowKit Go.Proofs.YtmgndnabaemgkaaDoor.M
set_option linter.unusedSimpArgs false
set_option linter.unusedVariables false

/-- What is no nought, is none, by its class. -/
theorem cls_nought {b : Int} (hb : rng b) : cls b = 0 ↔ rg b = 0 := by
  have h1 := q_cls hb
  rw [← h1]
  constructor
  · intro h
    have hr := (q_rg hb).1
    have h0 : 0 ≤ rg b := (q_rg hb).2
    generalize rg b = r at *
    unfold rng at hr
    unfold cls fld frc at h
    split at h
    · split at h <;> omega
    · split at h
      · split at h
        · omega
        · omega
      · omega
  · intro h; rw [h]; decide
theorem Ls.same.refl (s : Ls) : s.same s := ⟨rfl, fun _ _ => rfl⟩
theorem Ls.same.symm {s t : Ls} (h : s.same t) : t.same s := ⟨h.1.symm, fun i hi => (h.2 i (by rw [h.1]; exact hi)).symm⟩
theorem Ls.same.trans {s t u : Ls} (h : s.same t) (k : t.same u) : s.same u := ⟨h.1.trans k.1, fun i hi => (h.2 i hi).trans (k.2 i (by rw [← h.1]; exact hi))⟩
/-- Grow hangs on the list's floats alone. -/
theorem gq_same {d f : Nat → Int} {q : Int} {n : Nat} (h : ∀ i, i < n → d i = f i) : ∀ k, k ≤ n → gq d q k = gq f q k
  | 0, _ => rfl
  | k + 1, hk => by
    show fsum (gq d q k) (d k) = fsum (gq f q k) (f k)
    rw [gq_same h k (by omega), h k (by omega)]
theorem gl_same {d f : Nat → Int} {q : Int} {n : Nat} (h : ∀ i, i < n → d i = f i) (k : Nat) (hk : k < n) : gl d q k = gl f q k := by
  unfold gl
  rw [gq_same h k (by omega), h k hk]
theorem gx_same {d f : Nat → Int} {q : Int} {n : Nat} (h : ∀ i, i < n → d i = f i) : ∀ k, k ≤ n → gx d q k = gx f q k
  | 0, _ => rfl
  | k + 1, hk => by
    show (gx d q k && pok (gl d q k)) = (gx f q k && pok (gl f q k))
    rw [gx_same h k (by omega), gl_same h k (by omega)]
theorem gs_same {d f : Nat → Int} {q : Int} {n : Nat} (h : ∀ i, i < n → d i = f i) : ∀ k, k ≤ n → (gs d q k).same (gs f q k)
  | 0, _ => ⟨rfl, fun i hi => absurd hi (Nat.not_lt_zero _)⟩
  | k + 1, hk => by
    show ((gs d q k).add (gl d q k)).same ((gs f q k).add (gl f q k))
    rw [gl_same h k (by omega)]
    exact (gs_same h k (by omega)).add _
theorem grw_same {d f : Nat → Int} {q : Int} {n : Nat} (h : ∀ i, i < n → d i = f i) : (grw n d q).same (grw n f q) := by
  unfold grw
  rw [gq_same h n (Nat.le_refl _)]
  exact (gs_same h n (Nat.le_refl _)).add _
theorem ss_same {s t : Ls} (h : s.same t) (d : Nat → Int) (b : Int) : ∀ k, (ss s d b k).same (ss t d b k)
  | 0 => h.add _
  | k + 1 => ((ss_same h d b k).add _).add _
theorem gaS_same {s t : Ls} (h : s.same t) {f g : Nat → Int} {m : Nat} (hf : ∀ i, i < m → f i = g i) : ∀ k, k ≤ m → (gaS s f k).same (gaS t g k) ∧ gaX s f k = gaX t g k
  | 0, _ => ⟨h, rfl⟩
  | k + 1, hk => by
    obtain ⟨h1, h2⟩ := gaS_same h hf k (by omega)
    rw [gaS_succ, gaS_succ, gaX_succ, gaX_succ, h2, hf k (by omega), ← h1.1, gx_same h1.2 _ (Nat.le_refl _)]
    exact ⟨grw_same h1.2, rfl⟩
theorem sclN_le (d : Nat → Int) (b : Int) : ∀ n, (sclN d b n).n ≤ 2 * n
  | 0 => Nat.le_refl _
  | n + 1 => by
    show (if rg b = 0 then (⟨0, fun _ => 0⟩ : Ls) else scl ⟨0, fun _ => 0⟩ d b n).n ≤ _
    split
    · exact Nat.zero_le _
    · have h1 := ss_le ⟨0, fun _ => 0⟩ d b n
      have h2 := ((ss ⟨0, fun _ => 0⟩ d b n).add_le (sq d b n)).2
      have h1' : (ss ⟨0, fun _ => 0⟩ d b n).n ≤ 0 + 2 * n + 1 := h1
      show ((ss ⟨0, fun _ => 0⟩ d b n).add (sq d b n)).n ≤ _
      omega
end Go.Proofs.YtmgndnabaemgkaaDoor
