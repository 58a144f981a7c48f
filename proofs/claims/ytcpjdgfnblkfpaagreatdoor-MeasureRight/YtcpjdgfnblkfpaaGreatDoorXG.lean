/-
  Package expansion: withFloat, withList, by their contracts.
-/
import Derived.Test.YtcpjdgfnblkfpaaGreatDoorXF
namespace Go.Proofs.YtcpjdgfnblkfpaaGreatDoor
open Go Go.RowKit Go.Proofs.YtcpjdgfnblkfpaaGreatDoor.M
set_option linter.unusedSimpArgs false
set_option linter.unusedVariables false

set_option maxRecDepth 100000 in
set_option maxHeartbeats 1000000 in
theorem xwl_ok (G : Nat) {eo fo : Option Addr} {n ec m fc : Nat} {d f : Nat → Int} (w : World) (ok : Bool) (s : Ls) (hEG : ∀ (cap : Array Value) (w : World), (callFunc G cap).run Tryz.prog w = .ok (.enter G cap) w) (h : Row w eo n ec d) (hf : Row w fo m fc f) (hv : xval d n = true) (hu : xval f m = true) (H : Hold4 w)
    (hG : ∀ W, Below w.heap.size w W → Calls Tryz.prog G #[.slice eo n ec, .slice fo m fc] W fun r w' => XR W ok s r w') :
    Calls Tryz.prog 53 #[.slice eo n ec, .slice fo m fc, .func (.func G) #[] #[]] w fun r w' => XA w ok s r w' := by
  have hmf : ∀ (fn : Fn) (first cap : Array Value) (w : World), (Instr.makeFunc fn first cap).run Tryz.prog w = .ok (.func fn first cap) w := fun _ _ _ _ => rfl
  have hst : ∀ p F m w, (store p (.func (.func F) #[] #[]) m).run Tryz.prog w = stored Tryz.prog w p (.func (.func F) #[] #[]) m := fun p F m w => run_store _ w p _ m rfl
  have hE : ∀ (cap : Array Value) (w : World), (callFunc 81 cap).run Tryz.prog w = .ok (.enter 81 cap) w := by
    intro cap w
    simp [go_sem]
  have k0 := h3_0 w (.cells #[.slice eo n ec] 35) (.cells #[.slice fo m fc] 35) (.cells #[.func (.func G) #[] #[]] 92)
  have k1 := h3_1 w (.cells #[.slice eo n ec] 35) (.cells #[.slice fo m fc] 35) (.cells #[.func (.func G) #[] #[]] 92)
  have k2 := h3_2 w (.cells #[.slice eo n ec] 35) (.cells #[.slice fo m fc] 35) (.cells #[.func (.func G) #[] #[]] 92)
  have hb0 := bel_a3 w (.cells #[.slice eo n ec] 35) (.cells #[.slice fo m fc] 35) (.cells #[.func (.func G) #[] #[]] 92)
  have CV := fun W hW => xvalid_any W (h.keeps hW) (H.keeps hW)
  rw [hv] at CV
  have CP := fun W hW => xvalid_any W (hf.keeps hW) (H.keeps hW)
  rw [hu] at CP
  go_enter Tryz.func53, Tryz.ntmps53
  go_wp2_with fail
  generalize ((w.alloc (.cells #[.slice eo n ec] 35)).alloc (.cells #[.slice fo m fc] 35)).alloc (.cells #[.func (.func G) #[] #[]] 92) = x0 at k0 k1 k2 hb0 ⊢
  refine (CV _ hb0).mono ?_
  rintro _ y1 ⟨rfl, hw1⟩
  have k0 := (hw1.block _ (Array.getElem?_eq_some_iff.1 k0).1).trans k0
  have k1 := (hw1.block _ (Array.getElem?_eq_some_iff.1 k1).1).trans k1
  have k2 := (hw1.block _ (Array.getElem?_eq_some_iff.1 k2).1).trans k2
  have hbA := bel_trans hb0 hw1
  have c1 := blkC k1 0 rfl
  go_wp2_with fail
  refine (CP _ hbA).mono ?_
  rintro _ y2 ⟨rfl, hw2⟩
  have k0 := (hw2.block _ (Array.getElem?_eq_some_iff.1 k0).1).trans k0
  have k1 := (hw2.block _ (Array.getElem?_eq_some_iff.1 k1).1).trans k1
  have k2 := (hw2.block _ (Array.getElem?_eq_some_iff.1 k2).1).trans k2
  have hbB := bel_trans hbA hw2
  have c0 := blkC k0 0 rfl
  have c1 := blkC k1 0 rfl
  have c2 := blkC k2 0 rfl
  go_wp2_with fail
  refine (xtold_any 81 _ _ ok s (hE _) (fun W hW => ?_)).mono ?_
  · have k0 := (hW.block _ (Array.getElem?_eq_some_iff.1 k0).1).trans k0
    have k1 := (hW.block _ (Array.getElem?_eq_some_iff.1 k1).1).trans k1
    have k2 := (hW.block _ (Array.getElem?_eq_some_iff.1 k2).1).trans k2
    exact xwl1 G eo fo n ec m fc _ _ _ W ok s hEG (blkC k2 0 rfl) (blkC k0 0 rfl) (blkC k1 0 rfl) (hG W (bel_trans hbB hW))
  rintro r w2 ⟨(⟨h1, v, rfl, h2⟩ | ⟨h1, rfl⟩), hb2⟩
  · obtain ⟨ao, cc, rfl⟩ := h2.shape
    go_wp2
    refine bodyPost_ret (v := .tuple #[.slice ao s.n cc, .int .i64 0]) (by simp [results, Tryz.results53, go_sem]) rfl ⟨.inl ⟨h1, _, rfl, h2.lower hbB.size⟩, bel_trans hbB hb2⟩
  · go_wp2
    refine bodyPost_ret (v := .tuple #[.slice none 0 0, .int .i64 14]) (by simp [results, Tryz.results53, go_sem]) rfl ⟨.inr ⟨h1, rfl⟩, bel_trans hbB hb2⟩
set_option maxRecDepth 100000 in
set_option maxHeartbeats 1000000 in
theorem xwl_bad (G : Nat) {eo fo : Option Addr} {n ec m fc : Nat} {d f : Nat → Int} (w : World) (h : Row w eo n ec d) (hf : Row w fo m fc f) (hv : xval d n = false) (H : Hold4 w) :
    Calls Tryz.prog 53 #[.slice eo n ec, .slice fo m fc, .func (.func G) #[] #[]] w fun r w' => r = .returned (.tuple #[.slice none 0 0, .int .i64 1]) ∧ Below w.heap.size w w' := by
  have hmf : ∀ (fn : Fn) (first cap : Array Value) (w : World), (Instr.makeFunc fn first cap).run Tryz.prog w = .ok (.func fn first cap) w := fun _ _ _ _ => rfl
  have hst : ∀ p F m w, (store p (.func (.func F) #[] #[]) m).run Tryz.prog w = stored Tryz.prog w p (.func (.func F) #[] #[]) m := fun p F m w => run_store _ w p _ m rfl
  have hE : ∀ (cap : Array Value) (w : World), (callFunc 81 cap).run Tryz.prog w = .ok (.enter 81 cap) w := by
    intro cap w
    simp [go_sem]
  have k0 := h3_0 w (.cells #[.slice eo n ec] 35) (.cells #[.slice fo m fc] 35) (.cells #[.func (.func G) #[] #[]] 92)
  have k1 := h3_1 w (.cells #[.slice eo n ec] 35) (.cells #[.slice fo m fc] 35) (.cells #[.func (.func G) #[] #[]] 92)
  have k2 := h3_2 w (.cells #[.slice eo n ec] 35) (.cells #[.slice fo m fc] 35) (.cells #[.func (.func G) #[] #[]] 92)
  have hb0 := bel_a3 w (.cells #[.slice eo n ec] 35) (.cells #[.slice fo m fc] 35) (.cells #[.func (.func G) #[] #[]] 92)
  have CV := fun W hW => xvalid_any W (h.keeps hW) (H.keeps hW)
  rw [hv] at CV
  go_enter Tryz.func53, Tryz.ntmps53
  go_wp2_with fail
  generalize ((w.alloc (.cells #[.slice eo n ec] 35)).alloc (.cells #[.slice fo m fc] 35)).alloc (.cells #[.func (.func G) #[] #[]] 92) = x0 at k0 k1 k2 hb0 ⊢
  refine (CV _ hb0).mono ?_
  rintro _ y1 ⟨rfl, hw1⟩
  go_wp2
  all_goals refine bodyPost_ret (v := .tuple #[.slice none 0 0, .int .i64 1]) (by simp [results, Tryz.results53, go_sem]) rfl ⟨rfl, by first | exact bel_trans hb0 hw1 | exact (bel_trans hb0 hw1).drew⟩
end Go.Proofs.YtcpjdgfnblkfpaaGreatDoor
