/-
  Package sites, by contracts: Drop.
-/
import Derived.Test.YtbljcodhcodmkaaDoorTAdd
namespace Go.Proofs.YtbljcodhcodmkaaDoor
open Go Go.RowKit Go.Proofs.YtbljcodhcodmkaaDoor.M
set_option linter.unusedSimpArgs false
set_option linter.unusedVariables false

theorem StF.drop {n : Nat} {px py : Nat → Int} {al : Nat → Bool} {f : Int → Int → Option Int} (h : StF n px py al f) {i : Nat} (hi : i < n) (ha : al i = true) : StF n px py (updT al i false) (fdel f (px i) (py i)) := by
  refine ⟨h.nrm, fun j hj hja => ?_, fun x y v hv => ?_⟩
  · by_cases e : j = i
    · subst e; rw [updT_same] at hja; cases hja
    · rw [updT_other _ _ e] at hja
      have k1 := h.fnd j hj hja
      have k2 := h.fnd i hi ha
      unfold fdel
      rw [if_neg (fun q => e (by rw [q.1, q.2, k2] at k1; simp at k1; omega))]
      exact k1
  · unfold fdel at hv
    by_cases e : x = px i ∧ y = py i
    · rw [if_pos e] at hv; cases hv
    · rw [if_neg e] at hv
      obtain ⟨j, hj, e1, e2, e3, e4⟩ := h.back x y v hv
      have ne : j ≠ i := fun q => e (by rw [← e3, ← e4, q]; exact ⟨rfl, rfl⟩)
      exact ⟨j, hj, e1, by rw [updT_other _ _ ne]; exact e2, e3, e4⟩
set_option maxRecDepth 100000 in
set_option maxHeartbeats 2000000 in
theorem tDrop_ok {B : Nat} {w : World} {g n s : Nat} {px py : Nat → Int} {al : Nat → Bool} {f : Int → Int → Option Int} (h : SetR B w g n s px py al f) (hB : B ≤ w.heap.size) {i : Nat} (hi : i < n) (ha : al i = true) :
    Calls Tryd.prog 11 #[.pointer (some ⟨g, 0, none⟩), .int .i64 (i : Int)] w fun r w' => r = .returned (.int .i64 0) ∧ SetR B w' g n (s - 1) px py (updT al i false) (fdel f (px i) (py i)) ∧ FrS B w w' := by
  have CA : Hid (Calls Tryd.prog 8 #[.pointer (some ⟨g, 0, none⟩), .int .i64 (i : Int)] w fun r w' => r = .returned (.tuple #[.agg #[.int .i64 (px i), .int .i64 (py i)], .int .i64 0]) ∧ Below w.heap.size w w') := tAt_ok h hi ha
  have HS : Hid (∀ W, Below w.heap.size w W → SetR B W g n s px py al f) := fun W hb => h.keeps hb
  have HST := hideIt (h.stF.drop hi ha)
  have HN := hideIt (h.stF.nrm i hi)
  have HFN : Hid ((f (px i) (py i)).isSome = true) := by rw [h.stF.fnd i hi ha]; rfl
  have hmost := h.most
  have i0 : (0 : Int) ≤ (i : Int) := by omega
  have i1 : (i : Int) < (n : Int) := by omega
  clear h
  go_enter Tryd.func11, Tryd.ntmps11
  go_wp2_with fail
  refine CA.out.mono ?_
  rintro _ y1 ⟨rfl, hw1⟩
  have hb2 := bel_trans hw1 (bel_alloc y1 (.cells #[.int .i64 (px i), .int .i64 (py i)] 31))
  have p_k := t_new y1 (.cells #[.int .i64 (px i), .int .i64 (py i)] 31)
  have hsz : y1.heap.size < (y1.alloc (.cells #[.int .i64 (px i), .int .i64 (py i)] 31)).heap.size := (Array.getElem?_eq_some_iff.1 p_k).1
  obtain ⟨gv, mv, h1, hg, h3, h4, h5, h6⟩ := HS.out _ hb2
  rcases h6 with ⟨rfl, rfl, rfl, rfl⟩ | ⟨b, rfl, hbb, hM⟩
  · omega
  obtain ⟨xo, xc, rfl, hle, hmx, hxo⟩ := h3.shape
  obtain ⟨r, rfl⟩ := hxo (by omega)
  obtain ⟨c0, c1, _, _⟩ := t_blkC h1
  obtain ⟨d0, d1, d2, d3⟩ := h3.cell hi
  -- what the store leaves
  obtain ⟨_, _, cur, z, hz⟩ := h3.typed (g := r) rfl
  obtain ⟨es, cl, hc⟩ := hM.lt
  have n1 : g ≠ r := fun e => by rw [← e, h1] at hz; simp at hz
  have n2 : b ≠ r := fun e => by rw [← e, hc] at hz; cases hz
  have n3 : y1.heap.size ≠ r := fun e => by rw [← e, p_k] at hz; simp at hz
  have n4 : g ≠ b := fun e => by rw [← e, h1] at hc; cases hc
  have x_g := (Below.heap_setCell (y1.alloc (.cells #[.int .i64 (px i), .int .i64 (py i)] 31)) ⟨r, i * 3 + 2, none⟩ (.bool false) g n1).trans h1
  have x_p := (Below.heap_setCell (y1.alloc (.cells #[.int .i64 (px i), .int .i64 (py i)] 31)) ⟨r, i * 3 + 2, none⟩ (.bool false) y1.heap.size n3).trans p_k
  have x_o := h3.set hi false
  have x_m : Mp ((y1.alloc (.cells #[.int .i64 (px i), .int .i64 (py i)] 31)).setCell ⟨r, i * 3 + 2, none⟩ (.bool false)).drew b n f s := hM.of_block (Below.heap_setCell _ _ _ _ n2)
  have x_f : FrS B w ((y1.alloc (.cells #[.int .i64 (px i), .int .i64 (py i)] 31)).setCell ⟨r, i * 3 + 2, none⟩ (.bool false)) := (FrS.of_below hb2).trans (FrS.set _ (h3.typed (g := r) rfl).1 (by rw [hz]; exact fun q => q.2 rfl))
  obtain ⟨e0, e1, _, _⟩ := t_blkC x_g
  obtain ⟨r0, r1, _, _⟩ := t_blkC x_p
  obtain ⟨w5, hr5, hM5, ht5⟩ := x_m.drop 0 HN.out.1 HN.out.2.1
  rw [HFN.out, if_pos rfl] at hM5
  have HXO := hideIt x_o
  have HXG := hideIt x_g
  have HXF := hideIt x_f
  have HM5 := hideIt hM5
  have HT5 := hideIt ht5
  clear h1 h3 h4 hM hc hz x_p x_m x_o x_g x_f hM5 ht5 hxo
  go_wp2_with fail
  clear c0 c1 d0 d1 d2 d3 p_k
  generalize (y1.alloc (.cells #[.int .i64 (px i), .int .i64 (py i)] 31)).setCell ⟨r, i * 3 + 2, none⟩ (.bool false) = x4 at *
  go_region
  all_goals
    go_wp2
    go_ret
    have hg5 := HT5.out.grown
    have f5 : FrS B x4 w5 := (FrS.of_below (bel_refl x4).drew).trans (FrS.of_grown hg5 fun k hk => by
      cases hk
      obtain ⟨es, cl, es', cl', hh, _⟩ := HT5.out
      exact ⟨hbb, by rw [hh]; exact fun q => q⟩)
    refine ⟨rfl, ⟨_, _, (hg5.block g (Array.getElem?_eq_some_iff.1 HXG.out).1 (fun e => n4 (by cases e; rfl))).trans HXG.out, hg, HXO.out.of_block fun k hk => hg5.block k (HXO.out.typed hk).2.1 (fun e => ?_), HST.out, hmost, .inr ⟨b, rfl, hbb, HM5.out⟩⟩, HXF.out.trans f5⟩
    obtain ⟨_, _, cur, z, hz⟩ := HXO.out.typed hk
    obtain ⟨es, cl, es', cl', hh, _⟩ := HT5.out
    cases e
    have hh' : x4.heap[b]? = some (.map es cl) := hh
    rw [hh'] at hz
    cases hz
end Go.Proofs.YtbljcodhcodmkaaDoor
