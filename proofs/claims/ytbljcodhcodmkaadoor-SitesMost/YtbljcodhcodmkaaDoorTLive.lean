/-
  plumblaw15: the test that something is there at all.
-/
import Derived.Test.YtbljcodhcodmkaaDoorTPts
namespace Go.Proofs.YtbljcodhcodmkaaDoor
open Go Go.RowKit Go.Proofs.YtbljcodhcodmkaaDoor.M
set_option linter.unusedSimpArgs false
set_option linter.unusedVariables false

theorem FrS.lays {B : Nat} {w w' : World} (h : FrS B w w') (L : Lays w) (hB : ∀ W, Below B w W → Lays W) (hs : B ≤ w.heap.size) : Lays w' := hB w' (h.below hs)
set_option maxRecDepth 100000 in
set_option maxHeartbeats 2000000 in
theorem live15 (w : World) (L : Lays w) : Calls Tryd.prog 5 #[] w fun r w' => r = .returned (.bool true) ∧ Below w.heap.size w w' := by
  have HL : Hid (∀ W, Below w.heap.size w W → Lays W) := fun W hb => L.below' hb
  have r0 : rng 0 := by unfold rng; omega
  have r1 : rng 4607182418800017408 := by unfold rng; omega
  have CN : Hid (Calls Tryd.prog 6 #[] w fun r w' => r = .returned (.pointer (some ⟨w.heap.size, 0, none⟩)) ∧ SetR w.heap.size w' w.heap.size 0 0 (fun _ => 0) (fun _ => 0) (fun _ => false) (fun _ _ => none) ∧ Below w.heap.size w w') := tNew w
  have hnil : ∀ (g : Nat) (W : World), (binOp .eql 25 (.pointer (some ⟨g, 0, none⟩)) (.pointer none)).run Tryd.prog W = .ok (.bool false) W := fun _ _ => by kernel_rfl
  go_enter Tryd.func5, Tryd.ntmps5
  go_wp2_with fail
  refine CN.out.mono ?_
  rintro _ y1 ⟨rfl, S1, hb1⟩
  have S2 := S1.keeps (bel_alloc y1 (.cells #[.int .i64 4607182418800017408, .int .i64 0] 31))
  have hb2 := bel_trans hb1 (bel_alloc y1 (.cells #[.int .i64 4607182418800017408, .int .i64 0] 31))
  have o_k := t_new y1 (.cells #[.int .i64 4607182418800017408, .int .i64 0] 31)
  have CA : Hid (Calls Tryd.prog 7 #[.pointer (some ⟨w.heap.size, 0, none⟩), .agg #[.int .i64 0, .int .i64 0]] (y1.alloc (.cells #[.int .i64 4607182418800017408, .int .i64 0] 31)) fun r w' => r = .returned (.tuple #[.int .i64 0, .int .i64 0]) ∧ SetR w.heap.size w' w.heap.size 1 1 (updT (fun _ => 0) 0 0) (updT (fun _ => 0) 0 0) (updT (fun _ => false) 0 true) (fput (fun _ _ => none) 0 0 0) ∧ FrS w.heap.size (y1.alloc (.cells #[.int .i64 4607182418800017408, .int .i64 0] 31)) w') := tAdd_new S2 (HL.out _ hb2) r0 r0 hb2.size (by decide) rfl (by omega)
  clear S1
  go_wp2_with fail
  generalize y1.heap.size = p at *
  generalize y1.alloc (.cells #[.int .i64 4607182418800017408, .int .i64 0] 31) = x2 at *
  refine CA.out.mono ?_
  rintro _ y3 ⟨rfl, S3, F3⟩
  have hb3 := hb2.trans (F3.below hb2.size)
  have o_3 := F3.blk o_k (by decide) (by decide)
  have CB : Hid (Calls Tryd.prog 7 #[.pointer (some ⟨w.heap.size, 0, none⟩), .agg #[.int .i64 4607182418800017408, .int .i64 0]] y3 fun r w' => r = .returned (.tuple #[.int .i64 1, .int .i64 0]) ∧ SetR w.heap.size w' w.heap.size 2 2 (updT (updT (fun _ => 0) 0 0) 1 4607182418800017408) (updT (updT (fun _ => 0) 0 0) 1 0) (updT (updT (fun _ => false) 0 true) 1 true) (fput (fput (fun _ _ => none) 0 0 0) 4607182418800017408 0 1) ∧ FrS w.heap.size y3 w') := tAdd_new S3 (HL.out _ hb3) r1 r0 hb3.size (by decide) (by decide) (by omega)
  obtain ⟨c0, c1, _, _⟩ := t_blkC o_3
  clear S3 o_k S2
  go_wp2_with fail
  clear c0 c1
  refine CB.out.mono ?_
  rintro _ y4 ⟨rfl, S4, F4⟩
  have hb4 := hb3.trans (F4.below hb3.size)
  have o_4 := F4.blk o_3 (by decide) (by decide)
  have CC : Hid (Calls Tryd.prog 7 #[.pointer (some ⟨w.heap.size, 0, none⟩), .agg #[.int .i64 4607182418800017408, .int .i64 0]] y4 fun r w' => r = .returned (.tuple #[.int .i64 1, .int .i64 20]) ∧ Below y4.heap.size y4 w') := tAdd_same S4 (HL.out _ hb4) r1 r0 (by decide) (v := 1) (by decide)
  have HS4 := hideIt S4
  obtain ⟨c0, c1, _, _⟩ := t_blkC o_4
  clear S4 o_3
  go_wp2_with fail
  clear c0 c1
  refine CC.out.mono ?_
  rintro _ y5 ⟨rfl, hw5⟩
  have CL : Hid (Calls Tryd.prog 17 #[.pointer (some ⟨w.heap.size, 0, none⟩)] y5 fun r w' => r = .returned (.int .i64 2) ∧ Below y5.heap.size y5 w') := tLen (HS4.out.keeps hw5)
  clear o_4
  go_wp2_with fail
  refine CL.out.mono ?_
  rintro _ y6 ⟨rfl, hw6⟩
  go_wp2
  go_ret
  exact ⟨rfl, hb4.trans ((bel_trans hw5 hw6).mono hb4.size)⟩
end Go.Proofs.YtbljcodhcodmkaaDoor
