/-
  Parts of the proof, one behind another.
-/
import Derived.Test.YtjlmpgbadgkgmaaDoorPart13
import Derived.Test.YtjlmpgbadgkgmaaDoorPart4
import Derived.Test.YtjlmpgbadgkgmaaDoorPart12
/-
  Package expansion: withFloat, withList, by their contracts.
-/
namespace Go.Proofs.YtjlmpgbadgkgmaaDoor
open Go Go.RowKit Go.Proofs.YtjlmpgbadgkgmaaDoor.M
set_option linter.unusedSimpArgs false
set_option linter.unusedVariables false

set_option maxRecDepth 100000 in
set_option maxHeartbeats 1000000 in
theorem xwf_ok (G : Nat) {eo : Option Addr} {n ec : Nat} {d : Nat → Int} {b : Int} (w : World) (ok : Bool) (s : Ls) (hEG : ∀ (cap : Array Value) (w : World), (callFunc G cap).run Tryd.prog w = .ok (.enter G cap) w) (h : Row w eo n ec d) (hv : xval d n = true) (pb : pok b = true) (H : Hold4 w)
    (hG : ∀ W, Below w.heap.size w W → Calls Tryd.prog G #[.slice eo n ec, .int .i64 b] W fun r w' => XR W ok s r w') :
    Calls Tryd.prog 14 #[.slice eo n ec, .int .i64 b, .func (.func G) #[] #[]] w fun r w' => XA w ok s r w' := by
  have hmf : ∀ (fn : Fn) (first cap : Array Value) (w : World), (Instr.makeFunc fn first cap).run Tryd.prog w = .ok (.func fn first cap) w := fun _ _ _ _ => rfl
  have hst : ∀ p F m w, (store p (.func (.func F) #[] #[]) m).run Tryd.prog w = stored Tryd.prog w p (.func (.func F) #[] #[]) m := fun p F m w => run_store _ w p _ m rfl
  have hE : ∀ (cap : Array Value) (w : World), (callFunc 26 cap).run Tryd.prog w = .ok (.enter 26 cap) w := by
    intro cap w
    simp [go_sem]
  have k0 := h3_0 w (.cells #[.slice eo n ec] 24) (.cells #[.int .i64 b] 3) (.cells #[.func (.func G) #[] #[]] 36)
  have k1 := h3_1 w (.cells #[.slice eo n ec] 24) (.cells #[.int .i64 b] 3) (.cells #[.func (.func G) #[] #[]] 36)
  have k2 := h3_2 w (.cells #[.slice eo n ec] 24) (.cells #[.int .i64 b] 3) (.cells #[.func (.func G) #[] #[]] 36)
  have hb0 := bel_a3 w (.cells #[.slice eo n ec] 24) (.cells #[.int .i64 b] 3) (.cells #[.func (.func G) #[] #[]] 36)
  have CV := fun W hW => xvalid_any W (h.keeps hW) (H.keeps hW)
  rw [hv] at CV
  have CP := fun W hW => bitsPartsA b W (H.keeps hW).lay
  rw [pb] at CP
  go_enter Tryd.func14, Tryd.ntmps14
  go_wp2_with fail
  generalize ((w.alloc (.cells #[.slice eo n ec] 24)).alloc (.cells #[.int .i64 b] 3)).alloc (.cells #[.func (.func G) #[] #[]] 36) = x0 at k0 k1 k2 hb0 ⊢
  refine (CV _ hb0).mono ?_
  rintro _ y1 ⟨rfl, hw1⟩
  have k0 := (hw1.block _ (Array.getElem?_eq_some_iff.1 k0).1).trans k0
  have k1 := (hw1.block _ (Array.getElem?_eq_some_iff.1 k1).1).trans k1
  have k2 := (hw1.block _ (Array.getElem?_eq_some_iff.1 k2).1).trans k2
  have hbA := bel_trans hb0 hw1
  have c1 := blkC k1 0 rfl
  go_wp2_with fail
  refine (CP _ hbA).mono ?_
  rintro _ y2 ⟨rfl, hw2⟩
  have k0 := (hw2.block _ (Array.getElem?_eq_some_iff.1 k0).1).trans k0
  have k1 := (hw2.block _ (Array.getElem?_eq_some_iff.1 k1).1).trans k1
  have k2 := (hw2.block _ (Array.getElem?_eq_some_iff.1 k2).1).trans k2
  have hbB := bel_trans hbA hw2
  have c0 := blkC k0 0 rfl
  have c1 := blkC k1 0 rfl
  have c2 := blkC k2 0 rfl
  go_wp2_with fail
  refine (xtold_any 26 _ _ ok s (hE _) (fun W hW => ?_)).mono ?_
  · have k0 := (hW.block _ (Array.getElem?_eq_some_iff.1 k0).1).trans k0
    have k1 := (hW.block _ (Array.getElem?_eq_some_iff.1 k1).1).trans k1
    have k2 := (hW.block _ (Array.getElem?_eq_some_iff.1 k2).1).trans k2
    exact xwf1 G eo n ec b _ _ _ W ok s hEG (blkC k2 0 rfl) (blkC k0 0 rfl) (blkC k1 0 rfl) (hG W (bel_trans hbB hW))
  rintro r w2 ⟨(⟨h1, v, rfl, h2⟩ | ⟨h1, rfl⟩), hb2⟩
  · obtain ⟨ao, cc, rfl⟩ := h2.shape
    go_wp2
    refine bodyPost_ret (v := .tuple #[.slice ao s.n cc, .int .i64 0]) (by simp [results, Tryd.results14, go_sem]) rfl ⟨.inl ⟨h1, _, rfl, h2.lower hbB.size⟩, bel_trans hbB hb2⟩
  · go_wp2
    refine bodyPost_ret (v := .tuple #[.slice none 0 0, .int .i64 14]) (by simp [results, Tryd.results14, go_sem]) rfl ⟨.inr ⟨h1, rfl⟩, bel_trans hbB hb2⟩
set_option maxRecDepth 100000 in
set_option maxHeartbeats 1000000 in
theorem xwf_bad (G : Nat) {eo : Option Addr} {n ec : Nat} {d : Nat → Int} {b : Int} (w : World) (h : Row w eo n ec d) (hv : xval d n = false) (H : Hold4 w) :
    Calls Tryd.prog 14 #[.slice eo n ec, .int .i64 b, .func (.func G) #[] #[]] w fun r w' => r = .returned (.tuple #[.slice none 0 0, .int .i64 1]) ∧ Below w.heap.size w w' := by
  have hmf : ∀ (fn : Fn) (first cap : Array Value) (w : World), (Instr.makeFunc fn first cap).run Tryd.prog w = .ok (.func fn first cap) w := fun _ _ _ _ => rfl
  have hst : ∀ p F m w, (store p (.func (.func F) #[] #[]) m).run Tryd.prog w = stored Tryd.prog w p (.func (.func F) #[] #[]) m := fun p F m w => run_store _ w p _ m rfl
  have hE : ∀ (cap : Array Value) (w : World), (callFunc 26 cap).run Tryd.prog w = .ok (.enter 26 cap) w := by
    intro cap w
    simp [go_sem]
  have k0 := h3_0 w (.cells #[.slice eo n ec] 24) (.cells #[.int .i64 b] 3) (.cells #[.func (.func G) #[] #[]] 36)
  have k1 := h3_1 w (.cells #[.slice eo n ec] 24) (.cells #[.int .i64 b] 3) (.cells #[.func (.func G) #[] #[]] 36)
  have k2 := h3_2 w (.cells #[.slice eo n ec] 24) (.cells #[.int .i64 b] 3) (.cells #[.func (.func G) #[] #[]] 36)
  have hb0 := bel_a3 w (.cells #[.slice eo n ec] 24) (.cells #[.int .i64 b] 3) (.cells #[.func (.func G) #[] #[]] 36)
  have CV := fun W hW => xvalid_any W (h.keeps hW) (H.keeps hW)
  rw [hv] at CV
  go_enter Tryd.func14, Tryd.ntmps14
  go_wp2_with fail
  generalize ((w.alloc (.cells #[.slice eo n ec] 24)).alloc (.cells #[.int .i64 b] 3)).alloc (.cells #[.func (.func G) #[] #[]] 36) = x0 at k0 k1 k2 hb0 ⊢
  refine (CV _ hb0).mono ?_
  rintro _ y1 ⟨rfl, hw1⟩
  go_wp2
  refine bodyPost_ret (v := .tuple #[.slice none 0 0, .int .i64 1]) (by simp [results, Tryd.results14, go_sem]) rfl ⟨rfl, bel_trans hb0 hw1⟩
set_option maxRecDepth 100000 in
set_option maxHeartbeats 1000000 in
theorem xwl_ok (G : Nat) {eo fo : Option Addr} {n ec m fc : Nat} {d f : Nat → Int} (w : World) (ok : Bool) (s : Ls) (hEG : ∀ (cap : Array Value) (w : World), (callFunc G cap).run Tryd.prog w = .ok (.enter G cap) w) (h : Row w eo n ec d) (hf : Row w fo m fc f) (hv : xval d n = true) (hu : xval f m = true) (H : Hold4 w)
    (hG : ∀ W, Below w.heap.size w W → Calls Tryd.prog G #[.slice eo n ec, .slice fo m fc] W fun r w' => XR W ok s r w') :
    Calls Tryd.prog 17 #[.slice eo n ec, .slice fo m fc, .func (.func G) #[] #[]] w fun r w' => XA w ok s r w' := by
  have hmf : ∀ (fn : Fn) (first cap : Array Value) (w : World), (Instr.makeFunc fn first cap).run Tryd.prog w = .ok (.func fn first cap) w := fun _ _ _ _ => rfl
  have hst : ∀ p F m w, (store p (.func (.func F) #[] #[]) m).run Tryd.prog w = stored Tryd.prog w p (.func (.func F) #[] #[]) m := fun p F m w => run_store _ w p _ m rfl
  have hE : ∀ (cap : Array Value) (w : World), (callFunc 30 cap).run Tryd.prog w = .ok (.enter 30 cap) w := by
    intro cap w
    simp [go_sem]
  have k0 := h3_0 w (.cells #[.slice eo n ec] 24) (.cells #[.slice fo m fc] 24) (.cells #[.func (.func G) #[] #[]] 38)
  have k1 := h3_1 w (.cells #[.slice eo n ec] 24) (.cells #[.slice fo m fc] 24) (.cells #[.func (.func G) #[] #[]] 38)
  have k2 := h3_2 w (.cells #[.slice eo n ec] 24) (.cells #[.slice fo m fc] 24) (.cells #[.func (.func G) #[] #[]] 38)
  have hb0 := bel_a3 w (.cells #[.slice eo n ec] 24) (.cells #[.slice fo m fc] 24) (.cells #[.func (.func G) #[] #[]] 38)
  have CV := fun W hW => xvalid_any W (h.keeps hW) (H.keeps hW)
  rw [hv] at CV
  have CP := fun W hW => xvalid_any W (hf.keeps hW) (H.keeps hW)
  rw [hu] at CP
  go_enter Tryd.func17, Tryd.ntmps17
  go_wp2_with fail
  generalize ((w.alloc (.cells #[.slice eo n ec] 24)).alloc (.cells #[.slice fo m fc] 24)).alloc (.cells #[.func (.func G) #[] #[]] 38) = x0 at k0 k1 k2 hb0 ⊢
  refine (CV _ hb0).mono ?_
  rintro _ y1 ⟨rfl, hw1⟩
  have k0 := (hw1.block _ (Array.getElem?_eq_some_iff.1 k0).1).trans k0
  have k1 := (hw1.block _ (Array.getElem?_eq_some_iff.1 k1).1).trans k1
  have k2 := (hw1.block _ (Array.getElem?_eq_some_iff.1 k2).1).trans k2
  have hbA := bel_trans hb0 hw1
  have c1 := blkC k1 0 rfl
  go_wp2_with fail
  refine (CP _ hbA).mono ?_
  rintro _ y2 ⟨rfl, hw2⟩
  have k0 := (hw2.block _ (Array.getElem?_eq_some_iff.1 k0).1).trans k0
  have k1 := (hw2.block _ (Array.getElem?_eq_some_iff.1 k1).1).trans k1
  have k2 := (hw2.block _ (Array.getElem?_eq_some_iff.1 k2).1).trans k2
  have hbB := bel_trans hbA hw2
  have c0 := blkC k0 0 rfl
  have c1 := blkC k1 0 rfl
  have c2 := blkC k2 0 rfl
  go_wp2_with fail
  refine (xtold_any 30 _ _ ok s (hE _) (fun W hW => ?_)).mono ?_
  · have k0 := (hW.block _ (Array.getElem?_eq_some_iff.1 k0).1).trans k0
    have k1 := (hW.block _ (Array.getElem?_eq_some_iff.1 k1).1).trans k1
    have k2 := (hW.block _ (Array.getElem?_eq_some_iff.1 k2).1).trans k2
    exact xwl1 G eo fo n ec m fc _ _ _ W ok s hEG (blkC k2 0 rfl) (blkC k0 0 rfl) (blkC k1 0 rfl) (hG W (bel_trans hbB hW))
  rintro r w2 ⟨(⟨h1, v, rfl, h2⟩ | ⟨h1, rfl⟩), hb2⟩
  · obtain ⟨ao, cc, rfl⟩ := h2.shape
    go_wp2
    refine bodyPost_ret (v := .tuple #[.slice ao s.n cc, .int .i64 0]) (by simp [results, Tryd.results17, go_sem]) rfl ⟨.inl ⟨h1, _, rfl, h2.lower hbB.size⟩, bel_trans hbB hb2⟩
  · go_wp2
    refine bodyPost_ret (v := .tuple #[.slice none 0 0, .int .i64 14]) (by simp [results, Tryd.results17, go_sem]) rfl ⟨.inr ⟨h1, rfl⟩, bel_trans hbB hb2⟩
set_option maxRecDepth 100000 in
set_option maxHeartbeats 1000000 in
theorem xwl_bad (G : Nat) {eo fo : Option Addr} {n ec m fc : Nat} {d f : Nat → Int} (w : World) (h : Row w eo n ec d) (hf : Row w fo m fc f) (hv : xval d n = false) (H : Hold4 w) :
    Calls Tryd.prog 17 #[.slice eo n ec, .slice fo m fc, .func (.func G) #[] #[]] w fun r w' => r = .returned (.tuple #[.slice none 0 0, .int .i64 1]) ∧ Below w.heap.size w w' := by
  have hmf : ∀ (fn : Fn) (first cap : Array Value) (w : World), (Instr.makeFunc fn first cap).run Tryd.prog w = .ok (.func fn first cap) w := fun _ _ _ _ => rfl
  have hst : ∀ p F m w, (store p (.func (.func F) #[] #[]) m).run Tryd.prog w = stored Tryd.prog w p (.func (.func F) #[] #[]) m := fun p F m w => run_store _ w p _ m rfl
  have hE : ∀ (cap : Array Value) (w : World), (callFunc 30 cap).run Tryd.prog w = .ok (.enter 30 cap) w := by
    intro cap w
    simp [go_sem]
  have k0 := h3_0 w (.cells #[.slice eo n ec] 24) (.cells #[.slice fo m fc] 24) (.cells #[.func (.func G) #[] #[]] 38)
  have k1 := h3_1 w (.cells #[.slice eo n ec] 24) (.cells #[.slice fo m fc] 24) (.cells #[.func (.func G) #[] #[]] 38)
  have k2 := h3_2 w (.cells #[.slice eo n ec] 24) (.cells #[.slice fo m fc] 24) (.cells #[.func (.func G) #[] #[]] 38)
  have hb0 := bel_a3 w (.cells #[.slice eo n ec] 24) (.cells #[.slice fo m fc] 24) (.cells #[.func (.func G) #[] #[]] 38)
  have CV := fun W hW => xvalid_any W (h.keeps hW) (H.keeps hW)
  rw [hv] at CV
  go_enter Tryd.func17, Tryd.ntmps17
  go_wp2_with fail
  generalize ((w.alloc (.cells #[.slice eo n ec] 24)).alloc (.cells #[.slice fo m fc] 24)).alloc (.cells #[.func (.func G) #[] #[]] 38) = x0 at k0 k1 k2 hb0 ⊢
  refine (CV _ hb0).mono ?_
  rintro _ y1 ⟨rfl, hw1⟩
  go_wp2
  all_goals refine bodyPost_ret (v := .tuple #[.slice none 0 0, .int .i64 1]) (by simp [results, Tryd.results17, go_sem]) rfl ⟨rfl, by first | exact bel_trans hb0 hw1 | exact (bel_trans hb0 hw1).drew⟩
end Go.Proofs.YtjlmpgbadgkgmaaDoor

/-
  Package expansion: grown, sum, scaled; Grow, Sum, Scale, by their contracts.
-/
namespace Go.Proofs.YtjlmpgbadgkgmaaDoor
open Go Go.RowKit Go.Proofs.YtjlmpgbadgkgmaaDoor.M
set_option linter.unusedSimpArgs false
set_option linter.unusedVariables false

theorem xval_fin {d : Nat → Int} : ∀ {n}, xval d n = true → ∀ i, i < n → pok (d i) = true
  | 0, _, i, hi => absurd hi (Nat.not_lt_zero _)
  | n + 1, h, i, hi => by
    rw [xval_succ, Bool.and_eq_true] at h
    by_cases e : i = n
    · subst e
      have h2 := h.2
      unfold xok at h2
      rw [Bool.and_eq_true] at h2
      cases hp : pok (d i)
      · exfalso
        have hf : fld (d i) = 2047 := by simpa [pok] using hp
        have : pmag (d i) = 0 := by unfold pmag; rw [if_pos hf]
        simp [this] at h2
      · rfl
    · exact xval_fin h.1 i (by omega)
theorem XR.of_gr {w w1 w' : World} {ok : Bool} {s : Ls} {r : Ending} (hb : w.grownBy w1 none) (h : (ok = true ∧ ∃ v, r = .returned v ∧ LsO w.heap.size w' v s ∧ Below w.heap.size w1 w') ∨ (ok = false ∧ r = gaveX ∧ Below w.heap.size w1 w')) : XR w ok s r w' := by
  have hb0 : Below w.heap.size w w1 := grown_below hb
  rcases h with ⟨h1, v, h2, h3, h4⟩ | ⟨h1, h2, h3⟩
  · exact ⟨.inl ⟨h1, v, h2, h3⟩, hb0.trans h4⟩
  · exact ⟨.inr ⟨h1, h2⟩, hb0.trans h3⟩
set_option maxRecDepth 100000 in
theorem xgrown_any {eo : Option Addr} {n ec : Nat} {d : Nat → Int} {b : Int} (w : World) (h : Row w eo n ec d) (hd : ∀ i, i < n → rng (d i) ∧ pok (d i) = true) (hb : rng b) (pb : pok b = true) (hn : n ≤ 600000) :
    Calls Tryd.prog 15 #[.slice eo n ec, .int .i64 b] w fun r w' => XR w (gx d b n) (grw n d b) r w' := by
  have CO := xown_any w h (by omega)
  have CG : Hid (∀ W v, W.heap.size ≥ w.heap.size → LsO w.heap.size W v ⟨n, d⟩ → Calls Tryd.prog 27 #[v, .int .i64 b] W fun e w' => (gx d b n = true ∧ ∃ v', e = .returned v' ∧ LsO w.heap.size w' v' (grw n d b) ∧ Below w.heap.size W w') ∨ (gx d b n = false ∧ e = gaveX ∧ Below w.heap.size W w')) := fun W v hW hL => by
    refine (xgrow_L W hL hd hb pb (show n ≤ 800000 by omega) hW).mono ?_
    rintro e w' (⟨h1, v', h2, h3, h4⟩ | ⟨h1, h2, h3⟩)
    · exact .inl ⟨h1, v', h2, h3, h4.below hW⟩
    · exact .inr ⟨h1, h2, h3.below hW⟩
  generalize gx d b n = X at *
  generalize hS : grw n d b = S at *
  clear hS
  go_enter Tryd.func15, Tryd.ntmps15
  go_wp2_with fail
  refine CO.mono ?_
  rintro _ w1 ⟨v, rfl, hL, hg⟩
  obtain ⟨ao, cc, rfl⟩ := hL.shape
  go_wp2_with fail
  refine (CG.out _ _ hg.size hL).mono ?_
  rintro _ w2 (⟨h1, v', rfl, h3, h4⟩ | ⟨h1, rfl, h3⟩)
  · obtain ⟨ao', cc', rfl⟩ := h3.shape
    go_wp2
    go_ret
    exact XR.of_gr hg (.inl ⟨h1, _, rfl, h3, h4⟩)
  · unfold gaveX
    go_wp2
    exact ⟨rfl, XR.of_gr hg (.inr ⟨h1, rfl, h3⟩)⟩
set_option maxRecDepth 100000 in
theorem xsum_any {eo fo : Option Addr} {n ec m fc : Nat} {d f : Nat → Int} (w : World) (h : Row w eo n ec d) (hf : Row w fo m fc f) (hd : ∀ i, i < n → rng (d i) ∧ pok (d i) = true) (hff : ∀ i, i < m → rng (f i) ∧ pok (f i) = true) (hn : n + m ≤ 600000) :
    Calls Tryd.prog 18 #[.slice eo n ec, .slice fo m fc] w fun r w' => XR w (gaX ⟨n, d⟩ f m) (gaS ⟨n, d⟩ f m) r w' := by
  have CO := xown_any w h (by omega)
  have CG : Hid (∀ W v, w.grownBy W none → LsO w.heap.size W v ⟨n, d⟩ → Calls Tryd.prog 31 #[v, .slice fo m fc] W fun e w' => (gaX ⟨n, d⟩ f m = true ∧ ∃ v', e = .returned v' ∧ LsO w.heap.size w' v' (gaS ⟨n, d⟩ f m) ∧ Below w.heap.size W w') ∨ (gaX ⟨n, d⟩ f m = false ∧ e = gaveX ∧ Below w.heap.size W w')) := fun W v hW hL =>
    xgather_any W hL hd (fun W' hW' => hf.keeps ((grown_below hW).trans hW')) hff (show n + m ≤ 700000 by omega) hW.size
  generalize gaX ⟨n, d⟩ f m = X at *
  generalize gaS ⟨n, d⟩ f m = S at *
  go_enter Tryd.func18, Tryd.ntmps18
  go_wp2_with fail
  refine CO.mono ?_
  rintro _ w1 ⟨v, rfl, hL, hg⟩
  obtain ⟨ao, cc, rfl⟩ := hL.shape
  go_wp2_with fail
  refine (CG.out _ _ hg hL).mono ?_
  rintro _ w2 (⟨h1, v', rfl, h3, h4⟩ | ⟨h1, rfl, h3⟩)
  · obtain ⟨ao', cc', rfl⟩ := h3.shape
    go_wp2
    go_ret
    exact XR.of_gr hg (.inl ⟨h1, _, rfl, h3, h4⟩)
  · unfold gaveX
    go_wp2
    exact ⟨rfl, XR.of_gr hg (.inr ⟨h1, rfl, h3⟩)⟩
/-- The list that scaled tells, of n floats. -/
def sclN (d : Nat → Int) (b : Int) : Nat → Ls
  | 0 => ⟨0, fun _ => 0⟩
  | n + 1 => if rg b = 0 then ⟨0, fun _ => 0⟩ else scl ⟨0, fun _ => 0⟩ d b n
def sxN (d : Nat → Int) (b : Int) : Nat → Bool
  | 0 => true
  | n + 1 => if rg b = 0 then true else sx d b n
set_option maxRecDepth 100000 in
theorem xscaled_any {eo : Option Addr} {n ec : Nat} {d : Nat → Int} {b : Int} (w : World) (h : Row w eo n ec d) (hd : ∀ i, i < n → rng (d i) ∧ pok (d i) = true) (hb : rng b) (pb : pok b = true) (hn : n ≤ 300000) (H : Hold4 w) :
    Calls Tryd.prog 16 #[.slice eo n ec, .int .i64 b] w fun r w' => XR w (sxN d b n) (sclN d b n) r w' := by
  have hle := h.le
  have hmx := h.max
  have CS : Calls Tryd.prog 29 #[.slice none 0 0, .slice eo n ec, .int .i64 b] w fun r w' => XR w (sxN d b n) (sclN d b n) r w' := by
    cases n with
    | zero =>
      refine (xscale_empty w).mono ?_
      rintro r w' ⟨rfl, rfl⟩
      exact ⟨.inl ⟨rfl, _, rfl, .inl (Out.nil _ _ _)⟩, bel_refl _⟩
    | succ n =>
      by_cases h0 : rg b = 0
      · have e1 : sxN d b (n + 1) = true := if_pos h0
        have e2 : sclN d b (n + 1) = ⟨0, fun _ => 0⟩ := if_pos h0
        rw [e1, e2]
        refine (xscale_nought w hb h0 (by omega)).mono ?_
        rintro r w' ⟨rfl, rfl⟩
        exact ⟨.inl ⟨rfl, _, rfl, .inl (Out.nil _ _ _)⟩, bel_refl _⟩
      · have e1 : sxN d b (n + 1) = sx d b n := if_neg h0
        have e2 : sclN d b (n + 1) = scl ⟨0, fun _ => 0⟩ d b n := if_neg h0
        rw [e1, e2]
        refine (xscale_some (B := w.heap.size) (s := ⟨0, fun _ => 0⟩) w (.inl (Out.nil _ _ _)) (fun W hW => h.keeps hW) (fun i hi => hd i (by omega)) hb pb h0 (show 0 + 2 * n ≤ 700000 by omega) (Nat.le_refl _) (fun W hW => H.keeps hW)).mono ?_
        rintro r w' (⟨h1, v', h2, h3, h4⟩ | ⟨h1, h2, h3⟩)
        · exact ⟨.inl ⟨h1, v', h2, h3⟩, h4⟩
        · exact ⟨.inr ⟨h1, h2⟩, h3⟩
  generalize sxN d b n = X at *
  generalize sclN d b n = S at *
  go_enter Tryd.func16, Tryd.ntmps16
  go_wp2_with fail
  refine CS.mono ?_
  rintro _ w2 ⟨(⟨h1, v', rfl, h3⟩ | ⟨h1, rfl⟩), h4⟩
  · obtain ⟨ao', cc', rfl⟩ := h3.shape
    go_wp2
    go_ret
    exact ⟨.inl ⟨h1, _, rfl, h3⟩, h4⟩
  · unfold gaveX
    go_wp2
    exact ⟨rfl, .inr ⟨h1, rfl⟩, h4⟩
end Go.Proofs.YtjlmpgbadgkgmaaDoor

/-
  Package expansion: Grow, Scale, Sum, by their contracts.
-/
namespace Go.Proofs.YtjlmpgbadgkgmaaDoor
open Go Go.RowKit Go.Proofs.YtjlmpgbadgkgmaaDoor.M
set_option linter.unusedSimpArgs false
set_option linter.unusedVariables false

set_option maxRecDepth 100000 in
theorem xGrow {eo : Option Addr} {n ec : Nat} {d : Nat → Int} {b : Int} (w : World) (h : Row w eo n ec d) (hr : ∀ i, i < n → rng (d i)) (hv : xval d n = true) (hb : rng b) (pb : pok b = true) (hn : n ≤ 300000) (H : Hold4 w) :
    Calls Tryd.prog 7 #[.slice eo n ec, .int .i64 b] w fun r w' => XA w (gx d b n) (grw n d b) r w' := by
  have hEG : ∀ (cap : Array Value) (w : World), (callFunc 15 cap).run Tryd.prog w = .ok (.enter 15 cap) w := by
    intro cap w
    simp [go_sem]
  have hd : ∀ i, i < n → rng (d i) ∧ pok (d i) = true := fun i hi => ⟨hr i hi, xval_fin hv i hi⟩
  have CW := xwf_ok 15 w (gx d b n) (grw n d b) hEG h hv pb H (fun W hW => xgrown_any W (h.keeps hW) hd hb pb (by omega))
  generalize gx d b n = X at *
  generalize grw n d b = S at *
  go_enter Tryd.func7, Tryd.ntmps7
  go_wp2_with fail
  refine CW.mono ?_
  rintro _ w1 ⟨(⟨h1, v, rfl, h2⟩ | ⟨h1, rfl⟩), hb⟩
  · obtain ⟨ao, cc, rfl⟩ := h2.shape
    go_wp2
    refine bodyPost_ret (v := .tuple #[.slice ao S.n cc, .int .i64 0]) (by simp [results, Tryd.results7, go_sem]) rfl ⟨.inl ⟨h1, _, rfl, h2⟩, hb⟩
  · go_wp2
    refine bodyPost_ret (v := .tuple #[.slice none 0 0, .int .i64 14]) (by simp [results, Tryd.results7, go_sem]) rfl ⟨.inr ⟨h1, rfl⟩, hb⟩
set_option maxRecDepth 100000 in
theorem xScale {eo : Option Addr} {n ec : Nat} {d : Nat → Int} {b : Int} (w : World) (h : Row w eo n ec d) (hr : ∀ i, i < n → rng (d i)) (hv : xval d n = true) (hb : rng b) (pb : pok b = true) (hn : n ≤ 300000) (H : Hold4 w) :
    Calls Tryd.prog 8 #[.slice eo n ec, .int .i64 b] w fun r w' => XA w (sxN d b n) (sclN d b n) r w' := by
  have hEG : ∀ (cap : Array Value) (w : World), (callFunc 16 cap).run Tryd.prog w = .ok (.enter 16 cap) w := by
    intro cap w
    simp [go_sem]
  have hd : ∀ i, i < n → rng (d i) ∧ pok (d i) = true := fun i hi => ⟨hr i hi, xval_fin hv i hi⟩
  have CW := xwf_ok 16 w (sxN d b n) (sclN d b n) hEG h hv pb H (fun W hW => xscaled_any W (h.keeps hW) hd hb pb hn (H.keeps hW))
  generalize sxN d b n = X at *
  generalize sclN d b n = S at *
  go_enter Tryd.func8, Tryd.ntmps8
  go_wp2_with fail
  refine CW.mono ?_
  rintro _ w1 ⟨(⟨h1, v, rfl, h2⟩ | ⟨h1, rfl⟩), hb⟩
  · obtain ⟨ao, cc, rfl⟩ := h2.shape
    go_wp2
    refine bodyPost_ret (v := .tuple #[.slice ao S.n cc, .int .i64 0]) (by simp [results, Tryd.results8, go_sem]) rfl ⟨.inl ⟨h1, _, rfl, h2⟩, hb⟩
  · go_wp2
    refine bodyPost_ret (v := .tuple #[.slice none 0 0, .int .i64 14]) (by simp [results, Tryd.results8, go_sem]) rfl ⟨.inr ⟨h1, rfl⟩, hb⟩
set_option maxRecDepth 100000 in
theorem xSum {eo fo : Option Addr} {n ec m fc : Nat} {d f : Nat → Int} (w : World) (h : Row w eo n ec d) (hf : Row w fo m fc f) (hr : ∀ i, i < n → rng (d i)) (hrf : ∀ i, i < m → rng (f i)) (hv : xval d n = true) (hu : xval f m = true) (hn : n + m ≤ 300000) (H : Hold4 w) :
    Calls Tryd.prog 9 #[.slice eo n ec, .slice fo m fc] w fun r w' => XA w (gaX ⟨n, d⟩ f m) (gaS ⟨n, d⟩ f m) r w' := by
  have hEG : ∀ (cap : Array Value) (w : World), (callFunc 18 cap).run Tryd.prog w = .ok (.enter 18 cap) w := by
    intro cap w
    simp [go_sem]
  have hd : ∀ i, i < n → rng (d i) ∧ pok (d i) = true := fun i hi => ⟨hr i hi, xval_fin hv i hi⟩
  have hff : ∀ i, i < m → rng (f i) ∧ pok (f i) = true := fun i hi => ⟨hrf i hi, xval_fin hu i hi⟩
  have CW := xwl_ok 18 w (gaX ⟨n, d⟩ f m) (gaS ⟨n, d⟩ f m) hEG h hf hv hu H (fun W hW => xsum_any W (h.keeps hW) (hf.keeps hW) hd hff (by omega))
  generalize gaX ⟨n, d⟩ f m = X at *
  generalize gaS ⟨n, d⟩ f m = S at *
  go_enter Tryd.func9, Tryd.ntmps9
  go_wp2_with fail
  refine CW.mono ?_
  rintro _ w1 ⟨(⟨h1, v, rfl, h2⟩ | ⟨h1, rfl⟩), hb⟩
  · obtain ⟨ao, cc, rfl⟩ := h2.shape
    go_wp2
    refine bodyPost_ret (v := .tuple #[.slice ao S.n cc, .int .i64 0]) (by simp [results, Tryd.results9, go_sem]) rfl ⟨.inl ⟨h1, _, rfl, h2⟩, hb⟩
  · go_wp2
    refine bodyPost_ret (v := .tuple #[.slice none 0 0, .int .i64 14]) (by simp [results, Tryd.results9, go_sem]) rfl ⟨.inr ⟨h1, rfl⟩, hb⟩
set_option maxRecDepth 100000 in
theorem xSum_bad {eo fo : Option Addr} {n ec m fc : Nat} {d f : Nat → Int} (w : World) (h : Row w eo n ec d) (hf : Row w fo m fc f) (hv : xval d n = false) (H : Hold4 w) :
    Calls Tryd.prog 9 #[.slice eo n ec, .slice fo m fc] w fun r w' => r = .returned (.tuple #[.slice none 0 0, .int .i64 1]) ∧ Below w.heap.size w w' := by
  have CW := xwl_bad 18 w h hf hv H
  go_enter Tryd.func9, Tryd.ntmps9
  go_wp2_with fail
  refine CW.mono ?_
  rintro _ w1 ⟨rfl, hb⟩
  go_wp2
  refine bodyPost_ret (v := .tuple #[.slice none 0 0, .int .i64 1]) (by simp [results, Tryd.results9, go_sem]) rfl ⟨rfl, hb⟩
end Go.Proofs.YtjlmpgbadgkgmaaDoor

/-
  The steps of package eft at the constants of plumblaw7's laws.
-/
namespace Go.Proofs.YtjlmpgbadgkgmaaDoor
open Go Go.RowKit Go.Proofs.YtjlmpgbadgkgmaaDoor.M Ieee
set_option linter.unusedSimpArgs false
set_option linter.unusedVariables false

theorem xk_fw {p r : Int} {c : Nat} (h : FW p c) (hr : patW c = r) (hn : c % 9223372036854775808 ≤ 9218868437227405312) : p = r := by
  rcases h with ⟨_, hp, e⟩ | ⟨_, hN⟩
  · rw [← hr, e, patW_wd hp]
  · have := hN.2; omega
theorem xk_fsum {p q r : Int} {x y c : Nat} (hp : FW p x) (hq : FW q y) (h : Ieee.double.add x y = some c) (hr : patW c = r) (hn : c % 9223372036854775808 ≤ 9218868437227405312) : fsum p q = r := by
  rcases add_FW hp hq with ⟨z, e, f⟩ | ⟨e, _⟩
  · rw [h] at e; cases e; exact xk_fw f hr hn
  · rw [h] at e; cases e
theorem xk_fprod {p q r : Int} {x y c : Nat} (hp : FW p x) (hq : FW q y) (h : Ieee.double.mul x y = some c) (hr : patW c = r) (hn : c % 9223372036854775808 ≤ 9218868437227405312) : fprod p q = r := by
  rcases mul_FW hp hq with ⟨z, e, f⟩ | ⟨e, _⟩
  · rw [h] at e; cases e; exact xk_fw f hr hn
  · rw [h] at e; cases e
theorem xk_w0 : FW 9218868437227405311 9218868437227405311 := .inl ⟨by decide, by unfold rng; decide, by decide⟩
theorem xk_s1 : fsum 9218868437227405311 9218868437227405311 = 9218868437227405312 := xk_fsum xk_w0 xk_w0 (c := 9218868437227405312) (by decide +kernel) (by decide) (by decide)
theorem xk_s2 : fprod 9218868437227405311 9218868437227405311 = 9218868437227405312 := xk_fprod xk_w0 xk_w0 (c := 9218868437227405312) (by decide +kernel) (by decide) (by decide)
theorem xk_w1 : FW 4336966441157787648 4336966441157787648 := .inl ⟨by decide, by unfold rng; decide, by decide⟩
theorem xk_w2 : FW 4607182418800017408 4607182418800017408 := .inl ⟨by decide, by unfold rng; decide, by decide⟩
theorem xk_s3 : fsum 4336966441157787648 4607182418800017408 = 4607182418800017408 := xk_fsum xk_w1 xk_w2 (c := 4607182418800017408) (by decide +kernel) (by decide) (by decide)
theorem xk_n4336966441157787648 : M.neg 4336966441157787648 = (-4886405595696988160) := by decide
theorem xk_w4 : FW (-4886405595696988160) 13560338478012563456 := .inl ⟨by decide, by unfold rng; decide, by decide⟩
theorem xk_s4 : fsum 4607182418800017408 (-4886405595696988160) = 4607182418800017408 := xk_fsum xk_w2 xk_w4 (c := 4607182418800017408) (by decide +kernel) (by decide) (by decide)
theorem xk_sV4336966441157787648_4607182418800017408 : sV 4336966441157787648 4607182418800017408 = 4607182418800017408 := by unfold sV; simp only [xk_s3, xk_n4336966441157787648, xk_s4]
theorem xk_n4607182418800017408 : M.neg 4607182418800017408 = (-4616189618054758400) := by decide
theorem xk_w7 : FW (-4616189618054758400) 13830554455654793216 := .inl ⟨by decide, by unfold rng; decide, by decide⟩
theorem xk_s5 : fsum 4607182418800017408 (-4616189618054758400) = 0 := xk_fsum xk_w2 xk_w7 (c := 0) (by decide +kernel) (by decide) (by decide)
theorem xk_n0 : M.neg 0 = (-9223372036854775808) := by decide
theorem xk_w9 : FW (-9223372036854775808) 9223372036854775808 := .inl ⟨by decide, by unfold rng; decide, by decide⟩
theorem xk_s6 : fsum 4336966441157787648 (-9223372036854775808) = 4336966441157787648 := xk_fsum xk_w1 xk_w9 (c := 4336966441157787648) (by decide +kernel) (by decide) (by decide)
theorem xk_w10 : FW 0 0 := .inl ⟨by decide, by unfold rng; decide, by decide⟩
theorem xk_s7 : fsum 4336966441157787648 0 = 4336966441157787648 := xk_fsum xk_w1 xk_w10 (c := 4336966441157787648) (by decide +kernel) (by decide) (by decide)
theorem xk_sL4336966441157787648_4607182418800017408 : sL 4336966441157787648 4607182418800017408 = 4336966441157787648 := by unfold sL; simp only [xk_sV4336966441157787648_4607182418800017408, xk_s3, xk_n4607182418800017408, xk_s5, xk_n0, xk_s6, xk_s7]
theorem xk_w12 : FW 4611686018427387904 4611686018427387904 := .inl ⟨by decide, by unfold rng; decide, by decide⟩
theorem xk_s8 : fprod 4336966441157787648 4611686018427387904 = 4341470040785158144 := xk_fprod xk_w1 xk_w12 (c := 4341470040785158144) (by decide +kernel) (by decide) (by decide)
theorem xk_w13 : FW 4728779608772575232 4728779608772575232 := .inl ⟨by decide, by unfold rng; decide, by decide⟩
theorem xk_s9 : fprod 4728779608772575232 4336966441157787648 = 4458563631130345472 := xk_fprod xk_w13 xk_w1 (c := 4458563631130345472) (by decide +kernel) (by decide) (by decide)
theorem xk_w14 : FW 4458563631130345472 4458563631130345472 := .inl ⟨by decide, by unfold rng; decide, by decide⟩
theorem xk_s10 : fsum 4458563631130345472 (-4886405595696988160) = 4458563631096791040 := xk_fsum xk_w14 xk_w4 (c := 4458563631096791040) (by decide +kernel) (by decide) (by decide)
theorem xk_n4458563631096791040 : M.neg 4458563631096791040 = (-4764808405757984768) := by decide
theorem xk_w16 : FW (-4764808405757984768) 13681935667951566848 := .inl ⟨by decide, by unfold rng; decide, by decide⟩
theorem xk_s11 : fsum 4458563631130345472 (-4764808405757984768) = 4336966441157787648 := xk_fsum xk_w14 xk_w16 (c := 4336966441157787648) (by decide +kernel) (by decide) (by decide)
theorem xk_s12 : fsum 4336966441157787648 (-4886405595696988160) = 0 := xk_fsum xk_w1 xk_w4 (c := 0) (by decide +kernel) (by decide) (by decide)
theorem xk_cC4336966441157787648 : cC 4336966441157787648 = 4458563631130345472 := by unfold cC; simp only [xk_s9]
theorem xk_spH4336966441157787648 : spH 4336966441157787648 = 4336966441157787648 := by unfold spH; simp only [xk_cC4336966441157787648, xk_n4336966441157787648, xk_s10, xk_n4458563631096791040, xk_s11]
theorem xk_spL4336966441157787648 : spL 4336966441157787648 = 0 := by unfold spL; simp only [xk_spH4336966441157787648, xk_n4336966441157787648, xk_s12]
theorem xk_s13 : fprod 4728779608772575232 4611686018427387904 = 4733283208399945728 := xk_fprod xk_w13 xk_w12 (c := 4733283208399945728) (by decide +kernel) (by decide) (by decide)
theorem xk_n4611686018427387904 : M.neg 4611686018427387904 = (-4611686018427387904) := by decide
theorem xk_w21 : FW 4733283208399945728 4733283208399945728 := .inl ⟨by decide, by unfold rng; decide, by decide⟩
theorem xk_w22 : FW (-4611686018427387904) 13835058055282163712 := .inl ⟨by decide, by unfold rng; decide, by decide⟩
theorem xk_s14 : fsum 4733283208399945728 (-4611686018427387904) = 4733283208366391296 := xk_fsum xk_w21 xk_w22 (c := 4733283208366391296) (by decide +kernel) (by decide) (by decide)
theorem xk_n4733283208366391296 : M.neg 4733283208366391296 = (-4490088828488384512) := by decide
theorem xk_w24 : FW (-4490088828488384512) 13956655245221167104 := .inl ⟨by decide, by unfold rng; decide, by decide⟩
theorem xk_s15 : fsum 4733283208399945728 (-4490088828488384512) = 4611686018427387904 := xk_fsum xk_w21 xk_w24 (c := 4611686018427387904) (by decide +kernel) (by decide) (by decide)
theorem xk_s16 : fsum 4611686018427387904 (-4611686018427387904) = 0 := xk_fsum xk_w12 xk_w22 (c := 0) (by decide +kernel) (by decide) (by decide)
theorem xk_cC4611686018427387904 : cC 4611686018427387904 = 4733283208399945728 := by unfold cC; simp only [xk_s13]
theorem xk_spH4611686018427387904 : spH 4611686018427387904 = 4611686018427387904 := by unfold spH; simp only [xk_cC4611686018427387904, xk_n4611686018427387904, xk_s14, xk_n4733283208366391296, xk_s15]
theorem xk_spL4611686018427387904 : spL 4611686018427387904 = 0 := by unfold spL; simp only [xk_spH4611686018427387904, xk_n4611686018427387904, xk_s16]
theorem xk_n4341470040785158144 : M.neg 4341470040785158144 = (-4881901996069617664) := by decide
theorem xk_w29 : FW 4341470040785158144 4341470040785158144 := .inl ⟨by decide, by unfold rng; decide, by decide⟩
theorem xk_w30 : FW (-4881901996069617664) 13564842077639933952 := .inl ⟨by decide, by unfold rng; decide, by decide⟩
theorem xk_s17 : fsum 4341470040785158144 (-4881901996069617664) = 0 := xk_fsum xk_w29 xk_w30 (c := 0) (by decide +kernel) (by decide) (by decide)
theorem xk_T14336966441157787648_4611686018427387904 : pT1 4336966441157787648 4611686018427387904 = 0 := by unfold pT1; simp only [xk_s8, xk_spH4336966441157787648, xk_spH4611686018427387904, xk_n4341470040785158144, xk_s17]
theorem xk_s18 : fprod 0 4611686018427387904 = 0 := xk_fprod xk_w10 xk_w12 (c := 0) (by decide +kernel) (by decide) (by decide)
theorem xk_s19 : fsum 0 (-9223372036854775808) = 0 := xk_fsum xk_w10 xk_w9 (c := 0) (by decide +kernel) (by decide) (by decide)
theorem xk_T24336966441157787648_4611686018427387904 : pT2 4336966441157787648 4611686018427387904 = 0 := by unfold pT2; simp only [xk_T14336966441157787648_4611686018427387904, xk_spL4336966441157787648, xk_spH4611686018427387904, xk_s18, xk_n0, xk_s19]
theorem xk_s20 : fprod 4336966441157787648 0 = 0 := xk_fprod xk_w1 xk_w10 (c := 0) (by decide +kernel) (by decide) (by decide)
theorem xk_T34336966441157787648_4611686018427387904 : pT3 4336966441157787648 4611686018427387904 = 0 := by unfold pT3; simp only [xk_T24336966441157787648_4611686018427387904, xk_spH4336966441157787648, xk_spL4611686018427387904, xk_s20, xk_n0, xk_s19]
theorem xk_s21 : fprod 0 0 = 0 := xk_fprod xk_w10 xk_w10 (c := 0) (by decide +kernel) (by decide) (by decide)
theorem xk_prL4336966441157787648_4611686018427387904 : prL 4336966441157787648 4611686018427387904 = 0 := by unfold prL; simp only [xk_spL4336966441157787648, xk_spL4611686018427387904, xk_s21, xk_T34336966441157787648_4611686018427387904, xk_n0, xk_s19]
theorem xk_s22 : fprod 4607182418800017408 4611686018427387904 = 4611686018427387904 := xk_fprod xk_w2 xk_w12 (c := 4611686018427387904) (by decide +kernel) (by decide) (by decide)
theorem xk_s23 : fprod 4728779608772575232 4607182418800017408 = 4728779608772575232 := xk_fprod xk_w13 xk_w2 (c := 4728779608772575232) (by decide +kernel) (by decide) (by decide)
theorem xk_s24 : fsum 4728779608772575232 (-4616189618054758400) = 4728779608739020800 := xk_fsum xk_w13 xk_w7 (c := 4728779608739020800) (by decide +kernel) (by decide) (by decide)
theorem xk_n4728779608739020800 : M.neg 4728779608739020800 = (-4494592428115755008) := by decide
theorem xk_w36 : FW (-4494592428115755008) 13952151645593796608 := .inl ⟨by decide, by unfold rng; decide, by decide⟩
theorem xk_s25 : fsum 4728779608772575232 (-4494592428115755008) = 4607182418800017408 := xk_fsum xk_w13 xk_w36 (c := 4607182418800017408) (by decide +kernel) (by decide) (by decide)
theorem xk_cC4607182418800017408 : cC 4607182418800017408 = 4728779608772575232 := by unfold cC; simp only [xk_s23]
theorem xk_spH4607182418800017408 : spH 4607182418800017408 = 4607182418800017408 := by unfold spH; simp only [xk_cC4607182418800017408, xk_n4607182418800017408, xk_s24, xk_n4728779608739020800, xk_s25]
theorem xk_spL4607182418800017408 : spL 4607182418800017408 = 0 := by unfold spL; simp only [xk_spH4607182418800017408, xk_n4607182418800017408, xk_s5]
theorem xk_T14607182418800017408_4611686018427387904 : pT1 4607182418800017408 4611686018427387904 = 0 := by unfold pT1; simp only [xk_s22, xk_spH4607182418800017408, xk_spH4611686018427387904, xk_n4611686018427387904, xk_s16]
theorem xk_T24607182418800017408_4611686018427387904 : pT2 4607182418800017408 4611686018427387904 = 0 := by unfold pT2; simp only [xk_T14607182418800017408_4611686018427387904, xk_spL4607182418800017408, xk_spH4611686018427387904, xk_s18, xk_n0, xk_s19]
theorem xk_s26 : fprod 4607182418800017408 0 = 0 := xk_fprod xk_w2 xk_w10 (c := 0) (by decide +kernel) (by decide) (by decide)
theorem xk_T34607182418800017408_4611686018427387904 : pT3 4607182418800017408 4611686018427387904 = 0 := by unfold pT3; simp only [xk_T24607182418800017408_4611686018427387904, xk_spH4607182418800017408, xk_spL4611686018427387904, xk_s26, xk_n0, xk_s19]
theorem xk_prL4607182418800017408_4611686018427387904 : prL 4607182418800017408 4611686018427387904 = 0 := by unfold prL; simp only [xk_spL4607182418800017408, xk_spL4611686018427387904, xk_s21, xk_T34607182418800017408_4611686018427387904, xk_n0, xk_s19]
theorem xk_s27 : fsum 4341470040785158144 0 = 4341470040785158144 := xk_fsum xk_w29 xk_w10 (c := 4341470040785158144) (by decide +kernel) (by decide) (by decide)
theorem xk_sV4341470040785158144_0 : sV 4341470040785158144 0 = 0 := by unfold sV; simp only [xk_s27, xk_n4341470040785158144, xk_s17]
theorem xk_s28 : fsum 4341470040785158144 (-9223372036854775808) = 4341470040785158144 := xk_fsum xk_w29 xk_w9 (c := 4341470040785158144) (by decide +kernel) (by decide) (by decide)
theorem xk_s29 : fsum 0 0 = 0 := xk_fsum xk_w10 xk_w10 (c := 0) (by decide +kernel) (by decide) (by decide)
theorem xk_sL4341470040785158144_0 : sL 4341470040785158144 0 = 0 := by unfold sL; simp only [xk_sV4341470040785158144_0, xk_s27, xk_n0, xk_s28, xk_n4341470040785158144, xk_s17, xk_s19, xk_s29]
theorem xk_s30 : fsum 4611686018427387904 4341470040785158144 = 4611686018427387904 := xk_fsum xk_w12 xk_w29 (c := 4611686018427387904) (by decide +kernel) (by decide) (by decide)
theorem xk_fL4611686018427387904_4341470040785158144 : fL 4611686018427387904 4341470040785158144 = 4341470040785158144 := by unfold fL; simp only [xk_s30, xk_n4611686018427387904, xk_s16, xk_n0, xk_s28]
theorem xk_rng (b : Int) (h : decide (-9223372036854775808 ≤ b ∧ b ≤ 9223372036854775807) = true) : rng b := by
  have := of_decide_eq_true h
  unfold rng
  omega
theorem gx_one (d : Nat → Int) (q : Int) : gx d q 1 = pok (sL q (d 0)) := by
  show (true && pok (sL q (d 0))) = _
  rw [Bool.true_and]
theorem grw_one (d : Nat → Int) (q : Int) : grw 1 d q = ((⟨0, d⟩ : Ls).add (sL q (d 0))).add (fsum q (d 0)) := rfl
theorem sx_zero (d : Nat → Int) (b : Int) : sx d b 0 = pX (d 0) b := rfl
theorem sx_one (d : Nat → Int) (b : Int) : sx d b 1 = (pX (d 0) b && (pX (d 1) b && (pok (sL (fprod (d 0) b) (prL (d 1) b)) && fX (fprod (d 1) b) (fsum (fprod (d 0) b) (prL (d 1) b))))) := rfl
theorem scl_one (s : Ls) (d : Nat → Int) (b : Int) : scl s d b 1 = (((s.add (prL (d 0) b)).add (sL (fprod (d 0) b) (prL (d 1) b))).add (fL (fprod (d 1) b) (fsum (fprod (d 0) b) (prL (d 1) b)))).add (fsum (fprod (d 1) b) (fsum (fprod (d 0) b) (prL (d 1) b))) := rfl
theorem sxN_succ {d : Nat → Int} {b : Int} {n : Nat} (h : ¬ rg b = 0) : sxN d b (n + 1) = sx d b n := if_neg h
theorem sclN_succ {d : Nat → Int} {b : Int} {n : Nat} (h : ¬ rg b = 0) : sclN d b (n + 1) = scl ⟨0, fun _ => 0⟩ d b n := if_neg h
theorem ls_no {s : Ls} {b : Int} (h : rg b = 0) : s.add b = s := if_pos h
theorem ls_yes {n : Nat} {d : Nat → Int} {b : Int} (h : ¬ rg b = 0) : (⟨n, d⟩ : Ls).add b = ⟨n + 1, upd d n b⟩ := if_neg h
theorem xk_pt : pok 9218868437227405311 = true := by decide
theorem xk_pi : pok 9218868437227405312 = false := by decide
/-- Grow of (top) and top is not exact. -/
theorem xk_grow_top : gx (fun _ => 9218868437227405311) 9218868437227405311 1 = false := by
  rw [gx_one]
  cases h : pok (sL 9218868437227405311 9218868437227405311)
  · rfl
  · have := (sL_exact (xk_rng _ (by decide)) (xk_rng _ (by decide)) h).2.1
    rw [xk_s1, xk_pi] at this
    cases this
theorem xk_scale_top : sxN (fun _ => 9218868437227405311) 9218868437227405311 1 = false := by
  rw [sxN_succ (by decide), sx_zero]
  cases h : pX 9218868437227405311 9218868437227405311
  · rfl
  · have := (pX_fin (xk_rng _ (by decide)) (xk_rng _ (by decide)) h).1
    rw [xk_s2, xk_pi] at this
    cases this
theorem xk_scale_one : sxN (fun _ => 1) 1 1 = false := by
  have h : reach 1 1 = false := by decide +kernel
  rw [sxN_succ (by decide), sx_zero]
  unfold pX
  rw [h, Bool.and_false]
theorem xk_pT : pok 4336966441157787648 = true := by decide
theorem xk_p0 : pok 0 = true := by decide
theorem xk_p1 : pok 0 = true := by decide
theorem xk_p2 : pok 0 = true := by decide
theorem xk_p3 : pok 4341470040785158144 = true := by decide
theorem xk_grow_x : gx (fun _ => 4607182418800017408) 4336966441157787648 1 = true := by
  rw [gx_one, xk_sL4336966441157787648_4607182418800017408, xk_pT]
theorem xk_grow_s : grw 1 (fun _ => 4607182418800017408) 4336966441157787648 = ⟨2, upd (upd (fun _ => 4607182418800017408) 0 4336966441157787648) 1 4607182418800017408⟩ := by
  rw [grw_one, xk_sL4336966441157787648_4607182418800017408, xk_s3, ls_yes (show ¬ rg 4336966441157787648 = 0 by decide), ls_yes (show ¬ rg 4607182418800017408 = 0 by decide)]
theorem xk_pX0 : pX 4336966441157787648 4611686018427387904 = true := by
  have h : reach 4336966441157787648 4611686018427387904 = true := by decide +kernel
  unfold pX
  rw [h, xk_prL4336966441157787648_4611686018427387904, xk_p0]
  rfl
theorem xk_pX1 : pX 4607182418800017408 4611686018427387904 = true := by
  have h : reach 4607182418800017408 4611686018427387904 = true := by decide +kernel
  unfold pX
  rw [h, xk_prL4607182418800017408_4611686018427387904, xk_p1]
  rfl
theorem xk_fX : fX 4611686018427387904 4341470040785158144 = true := by
  have h : decide ((iV 4611686018427387904).natAbs < (iV 4341470040785158144).natAbs) = false := by decide +kernel
  unfold fX
  rw [xk_fL4611686018427387904_4341470040785158144, xk_p3, h]
  rfl
theorem xk_d0 : d2 4336966441157787648 4607182418800017408 0 = 4336966441157787648 := rfl
theorem xk_d1 : d2 4336966441157787648 4607182418800017408 1 = 4607182418800017408 := rfl
theorem xk_scale_x : sxN (d2 4336966441157787648 4607182418800017408) 4611686018427387904 2 = true := by
  rw [sxN_succ (by decide), sx_one, xk_d0, xk_d1, xk_pX0, xk_pX1, xk_s8, xk_prL4607182418800017408_4611686018427387904, xk_s22, xk_s27, xk_sL4341470040785158144_0, xk_fX, xk_p2]
  rfl
theorem xk_scale_n : (sclN (d2 4336966441157787648 4607182418800017408) 4611686018427387904 2).n = 2 := by
  rw [sclN_succ (by decide), scl_one, xk_d0, xk_d1, xk_prL4336966441157787648_4611686018427387904, xk_s8, xk_prL4607182418800017408_4611686018427387904, xk_s22, xk_s27, xk_sL4341470040785158144_0, xk_fL4611686018427387904_4341470040785158144, xk_s30, ls_no (show rg 0 = 0 by decide), ls_no (show rg 0 = 0 by decide), ls_yes (show ¬ rg 4341470040785158144 = 0 by decide), ls_yes (show ¬ rg 4611686018427387904 = 0 by decide)]
theorem xk_v1 : xval (fun _ => 9218868437227405311) 1 = true := by decide +kernel
theorem xk_v2 : xval (fun _ => 1) 1 = true := by decide +kernel
theorem xk_v3 : xval (fun _ => 4607182418800017408) 1 = true := by decide +kernel
theorem xk_v4 : xval (d2 4336966441157787648 4607182418800017408) 2 = true := by decide +kernel
theorem xk_v5 : xval (upd (upd (fun _ => 4607182418800017408) 0 4336966441157787648) 1 4607182418800017408) 2 = true := by decide +kernel
end Go.Proofs.YtjlmpgbadgkgmaaDoor

/-
  plumblaw7.alive, by its contract.
-/
namespace Go.Proofs.YtjlmpgbadgkgmaaDoor
open Go Go.RowKit Go.Proofs.YtjlmpgbadgkgmaaDoor.M
set_option linter.unusedSimpArgs false
set_option linter.unusedVariables false

theorem LsO.row {B : Nat} {w : World} {v : Value} {s : Ls} (h : LsO B w v s) : ∃ ao cap, v = .slice ao s.n cap ∧ Row w ao s.n cap s.d := by
  rcases h with h | ⟨h0, ad, rfl⟩
  · exact h.row
  · rw [h0]
    exact ⟨some ad, 0, rfl, Nat.le_refl _, by decide, (fun q => by cases q), fun q => by omega⟩
theorem XA.yes {w w' : World} {ok : Bool} {s : Ls} {r : Ending} (h : XA w ok s r w') (ho : ok = true) : ∃ ao cap, r = .returned (.tuple #[.slice ao s.n cap, .int .i64 0]) ∧ Row w' ao s.n cap s.d ∧ Below w.heap.size w w' := by
  obtain ⟨(⟨_, v, h1, h2⟩ | ⟨h1, _⟩), hb⟩ := h
  · obtain ⟨ao, cap, rfl, hR⟩ := h2.row
    exact ⟨ao, cap, h1, hR, hb⟩
  · rw [ho] at h1; cases h1
theorem XA.no {w w' : World} {ok : Bool} {s : Ls} {r : Ending} (h : XA w ok s r w') (ho : ok = false) : r = .returned (.tuple #[.slice none 0 0, .int .i64 14]) ∧ Below w.heap.size w w' := by
  obtain ⟨(⟨h1, _⟩ | ⟨_, h1⟩), hb⟩ := h
  · rw [ho] at h1; cases h1
  · exact ⟨h1, hb⟩
theorem xk_r (b : Int) (h : decide (-9223372036854775808 ≤ b ∧ b ≤ 9223372036854775807) = true) : ∀ i : Nat, i < 1 → rng ((fun _ => b) i) := fun _ _ => xk_rng b h
theorem xk_r2 : ∀ i : Nat, i < 2 → rng (d2 4336966441157787648 4607182418800017408 i) := fun i hi => by
  match i, hi with
  | 0, _ => exact xk_rng _ (by decide)
  | 1, _ => exact xk_rng _ (by decide)
theorem xk_same : sameB (upd (upd (fun _ => 4607182418800017408) 0 4336966441157787648) 1 4607182418800017408) (d2 4336966441157787648 4607182418800017408) 2 2 = true := by
  refine decide_eq_true ⟨rfl, fun i hi => ?_⟩
  match i, hi with
  | 0, _ => rfl
  | 1, _ => rfl
set_option maxRecDepth 100000 in
set_option maxHeartbeats 1000000 in
theorem alive7 (w : World) (H : Hold4 w) : Calls Tryd.prog 10 #[] w fun e w' => e = .returned (.bool true) ∧ Below w.heap.size w w' := by
  have HH : Hid (Hold4 w) := H
  have C1 : Hid (∀ W ao cap, Hold4 W → Row W ao 1 cap (fun _ => 4607182418800017408) → Calls Tryd.prog 7 #[.slice ao 1 cap, .int .i64 4336966441157787648] W fun r w' => ∃ ao cap, r = .returned (.tuple #[.slice ao 2 cap, .int .i64 0]) ∧ Row w' ao 2 cap (upd (upd (fun _ => 4607182418800017408) 0 4336966441157787648) 1 4607182418800017408) ∧ Below W.heap.size W w') := fun W ao cap hW hR => by
    have h := xGrow W hR (xk_r _ (by decide)) xk_v3 (xk_rng _ (by decide)) xk_pT (by decide) hW
    rw [xk_grow_s] at h
    exact h.mono fun r w' hx => hx.yes xk_grow_x
  have C2 : Hid (∀ W ao cap, Hold4 W → Row W ao 2 cap (d2 4336966441157787648 4607182418800017408) → Calls Tryd.prog 8 #[.slice ao 2 cap, .int .i64 4611686018427387904] W fun r w' => ∃ ao cap, r = .returned (.tuple #[.slice ao 2 cap, .int .i64 0]) ∧ Below W.heap.size W w') := fun W ao cap hW hR => by
    have h := xScale (b := 4611686018427387904) W hR xk_r2 xk_v4 (xk_rng _ (by decide)) (by decide) (by decide) hW
    refine h.mono fun r w' hx => ?_
    obtain ⟨ao, cap, e1, e2, e3⟩ := hx.yes xk_scale_x
    rw [xk_scale_n] at e1
    exact ⟨ao, cap, e1, e3⟩
  clear H
  go_enter Tryd.func10, Tryd.ntmps10
  go_wp2_with fail
  have hb0 := bel_alloc w (.cells #[.int .i64 4607182418800017408] 3)
  refine (C1.out _ _ _ (HH.out.keeps hb0) (row1 w _ rfl)).mono ?_
  rintro _ w1 ⟨ao1, cap1, rfl, hR1, hb1⟩
  have hb01 := bel_trans hb0 hb1
  have hb2 := bel_alloc w1 (.cells #[.int .i64 4336966441157787648, .int .i64 4607182418800017408] 3)
  have hb02 := bel_trans hb01 hb2
  go_wp2_with fail
  refine (C2.out _ _ _ (HH.out.keeps hb02) (row2 w1 _ _ rfl)).mono ?_
  rintro _ w2 ⟨ao2, cap2, rfl, hb3⟩
  have hb03 := bel_trans hb02 hb3
  have hR2 := (hR1.keeps hb2).keeps hb3
  have hb4 := bel_alloc w2 (.cells #[.int .i64 4336966441157787648, .int .i64 4607182418800017408] 3)
  have CS := same_any _ _ _ _ _ _ _ _ _ (hR2.keeps hb4) (row2 w2 4336966441157787648 4607182418800017408 rfl)
  rw [xk_same] at CS
  go_wp2_with fail
  refine CS.mono ?_
  rintro _ w3 ⟨rfl, hb5⟩
  have hb05 := bel_trans (bel_trans hb03 hb4) hb5
  have CV := xvalid_any w3 ((hR2.keeps hb4).keeps hb5) (HH.out.keeps hb05)
  rw [xk_v5] at CV
  clear CS
  go_wp2_with fail
  refine CV.mono ?_
  rintro _ w4 ⟨rfl, hb6⟩
  go_wp2
  all_goals go_ret
  all_goals exact ⟨rfl, by first | exact bel_trans hb05 hb6 | exact (bel_trans hb05 hb6).drew⟩
end Go.Proofs.YtjlmpgbadgkgmaaDoor

/-
  Two floats that overlap, stand the wrong way round, or of which one is a nought or none: no expansion.
-/
namespace Go.Proofs.YtjlmpgbadgkgmaaDoor
open Go Go.RowKit Go.Proofs.YtjlmpgbadgkgmaaDoor.M
set_option linter.unusedSimpArgs false
set_option linter.unusedVariables false

theorem cls_some {b : Int} (h : pok b = true) (hm : pmag b ≠ 0) : cls b = 1 ∨ cls b = 2 := by
  have hf : fld b ≠ 2047 := by simpa [pok] using h
  unfold pmag at hm
  unfold cls
  rw [if_neg hf] at hm ⊢
  by_cases h0 : fld b = 0
  · rw [if_pos h0] at hm ⊢
    rw [if_neg hm]
    exact .inl rfl
  · rw [if_neg h0]
    exact .inr rfl
theorem xabs_rg {b : Int} (hb : rng b) (h : pok b = true) : abs b = rg b := by
  unfold abs
  rw [if_neg (fin_cls hb h).1]
  rfl
theorem xabs_rng {a : Int} (ha : rng a) : rng (abs a) := by
  unfold rng at *
  unfold abs
  split
  · omega
  · split <;> omega
theorem xpair_less {a b : Int} (ha : rng a) (hb : rng b) (pa : pok a = true) (pb : pok b = true) (mb : pmag b ≠ 0) (h : pexp a + blen (pmag a) ≤ pexp b + jz (pmag b)) : less (abs a) (abs b) = true := by
  obtain ⟨i0, i1, i2, i3⟩ := pmag_in pa
  obtain ⟨j0, j1, j2, j3⟩ := pmag_in pb
  obtain ⟨m, hm, _, _⟩ := jz_spec (show 0 < pmag b by omega) (by omega)
  have o := abs_order ha hb pa pb
  have l := less_order (q_rg ha).1 (q_rg hb).1
  have o' : (FloatKind.f64.format.order (wd (rg a)) (wd (rg b)) == some .lt) = decide ((iV a).natAbs < (iV b).natAbs) := o
  rw [xabs_rg ha pa, xabs_rg hb pb, ← l, o']
  refine decide_eq_true ?_
  have e1 := iV_form ha pa
  have e2 := iV_form hb pb
  have hl := blen_lt (pmag a)
  have p1 := two_pos (pexp a + 1074).toNat
  have p2 := two_pos (pexp b + 1074).toNat
  have s1 : pmag a * 2 ^ (pexp a + 1074).toNat < 2 ^ blen (pmag a) * 2 ^ (pexp a + 1074).toNat := Int.mul_lt_mul_of_pos_right hl p1
  rw [← Int.pow_add] at s1
  have s2 : (2 : Int) ^ (blen (pmag a) + (pexp a + 1074).toNat) ≤ 2 ^ (jz (pmag b) + (pexp b + 1074).toNat) := two_le (by omega)
  have s3 : (2 : Int) ^ jz (pmag b) ≤ pmag b := by
    have p3 := two_pos (jz (pmag b))
    have h1 : (2 : Int) ^ jz (pmag b) * 1 ≤ 2 ^ jz (pmag b) * (2 * m + 1) := Int.mul_le_mul_of_nonneg_left (by omega) (by omega)
    rw [← hm] at h1
    omega
  have s4 : (2 : Int) ^ jz (pmag b) * 2 ^ (pexp b + 1074).toNat ≤ pmag b * 2 ^ (pexp b + 1074).toNat := Int.mul_le_mul_of_nonneg_right s3 (by omega)
  rw [← Int.pow_add] at s4
  omega
theorem xpair_ok {a b : Int} (ha : rng a) (hb : rng b) (h : xval (d2 a b) 2 = true) : (cls a = 1 ∨ cls a = 2) ∧ (cls b = 1 ∨ cls b = 2) ∧ less (abs a) (abs b) = true := by
  have f0 := xval_fin h 0 (by decide)
  have f1 := xval_fin h 1 (by decide)
  have e0 : d2 a b 0 = a := rfl
  have e1 : d2 a b 1 = b := rfl
  rw [e0] at f0
  rw [e1] at f1
  rw [xval_succ, xval_succ, Bool.and_eq_true, Bool.and_eq_true] at h
  obtain ⟨⟨_, h1⟩, h2⟩ := h
  unfold xok at h1 h2
  rw [e0] at h1
  rw [e1] at h2
  have e2 : xab (d2 a b) 1 = pexp a + blen (pmag a) := rfl
  rw [e2] at h2
  simp only [Bool.and_eq_true, Bool.not_eq_true', decide_eq_false_iff_not] at h1 h2
  exact ⟨cls_some f0 h1.1, cls_some f1 h2.1, xpair_less ha hb f0 f1 h2.1 (by omega)⟩
end Go.Proofs.YtjlmpgbadgkgmaaDoor
