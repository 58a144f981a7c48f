/-
  Package round: kind.values, by its contracts.
-/
import Derived.Test.YtcpjdgfnblkfpaaGreatDoorRTo
import Derived.Test.YtcpjdgfnblkfpaaGreatDoorDDot
import Derived.Test.YtcpjdgfnblkfpaaGreatDoorRNear2
namespace Go.Proofs.YtcpjdgfnblkfpaaGreatDoor
open Go Go.RowKit Go.Proofs.YtcpjdgfnblkfpaaGreatDoor.M
set_option linter.unusedSimpArgs false
set_option linter.unusedVariables false

set_option maxRecDepth 100000 in
set_option maxHeartbeats 2000000 in
theorem values_ok (F G : Nat) (oo : Option Addr) (n cap : Nat) (d V : Nat → Int) (w : World) (hR : Row w oo n cap d) (hn : n ≤ 100000)
    (hEF : ∀ (cap : Array Value) (w : World), (callFunc F cap).run Tryz.prog w = .ok (.enter F cap) w)
    (C : ∀ i, i < n → ∀ W, Below w.heap.size w W → Calls Tryz.prog F #[.int .i64 (d i)] W fun r w' => ∃ v, r = .returned (.tuple #[v, .int .i64 0]) ∧ DAns W w' (V i) v) :
    Calls Tryz.prog 156 #[.agg #[.func (.func F) #[] #[], .func (.func G) #[] #[]], .slice oo n cap] w fun x w' => ∃ g q, x = .returned (.tuple #[.slice (some ⟨g, 0, none⟩) n n, .bool true]) ∧ w.heap.size ≤ g ∧ Nums w' (some ⟨g, 0, none⟩) n n q ∧ Below w.heap.size w w' ∧ ∀ i, i < n → Nrm (q i).d (q i).n ∧ Dy (V i) (q i).ng (val (q i).d (q i).n) (q i).e := by
  have hle := hR.le
  have hma := hR.max
  have hmake := make_nums n hn
  have hst : ∀ (p : Addr) (F : Nat) (m : Mode) (w : World), (store p (.func (.func F) #[] #[]) m).run Tryz.prog w = stored Tryz.prog w p (.func (.func F) #[] #[]) m := fun p F m w => run_store _ w p _ m rfl
  have ha1 := bel_alloc w (.cells #[.func (.func F) #[] #[], .func (.func G) #[] #[]] 164)
  have q1 := heap_alloc_new w (.cells #[.func (.func F) #[] #[], .func (.func G) #[] #[]] 164)
  have k0 := blkC q1 0 rfl
  have k1 := blkC q1 1 rfl
  go_enter Tryz.func156, Tryz.ntmps156
  go_wp2_with fail
  have hb0 := bel_alloc2 w (.cells #[.func (.func F) #[] #[], .func (.func G) #[] #[]] 164) (.cells (madeCells #[.bool false, .slice none 0 0, .int .i64 0] (n * 3)) 37)
  have g1 := heap_b2 w (.cells #[.func (.func F) #[] #[], .func (.func G) #[] #[]] 164) (.cells (madeCells #[.bool false, .slice none 0 0, .int .i64 0] (n * 3)) 37)
  have g0 := heap_a2 w (.cells #[.func (.func F) #[] #[], .func (.func G) #[] #[]] 164) (.cells (madeCells #[.bool false, .slice none 0 0, .int .i64 0] (n * 3)) 37)
  have HB0 : Hid (BlkN ((w.alloc (.cells #[.func (.func F) #[] #[], .func (.func G) #[] #[]] 164)).alloc (.cells (madeCells #[.bool false, .slice none 0 0, .int .i64 0] (n * 3)) 37)) (w.heap.size + 1) n 0 (fun _ => ⟨false, none, 0, 0, fun _ => 0, 0⟩)) := ⟨_, g1, by rw [size_madeCells], fun i hi => by omega⟩
  clear g1 hmake q1 k0 k1 ha1
  generalize (w.alloc (.cells #[.func (.func F) #[] #[], .func (.func G) #[] #[]] 164)).alloc (.cells (madeCells #[.bool false, .slice none 0 0, .int .i64 0] (n * 3)) 37) = wx at hb0 HB0 g0 ⊢
  go_loopw [16] (fun iv wr => ∃ (k : Nat) (q : Nat → NumR), k ≤ n ∧ iv = .int .i64 k ∧ Hid (BlkN wr (w.heap.size + 1) n k q) ∧ Hid (∀ i, i < k → Nrm (q i).d (q i).n ∧ Dy (V i) (q i).ng (val (q i).d (q i).n) (q i).e) ∧ Hid (∀ i b' off, i < k → (q i).ao = some ⟨b', off, none⟩ → 0 < (q i).n → w.heap.size + 1 < b') ∧ Hid (wr.heap[w.heap.size]? = some (.cells #[.func (.func F) #[] #[], .func (.func G) #[] #[]] 164 (0, 0))) ∧ Below w.heap.size w wr) (fun iv _ => n - (intOf iv).toNat)
  case atStart => exact ⟨0, _, Nat.zero_le _, rfl, HB0, fun i hi => by omega, fun i b' off hi => by omega, g0, hb0⟩
  case round =>
    obtain ⟨k, q, hk, rfl, HQ, HF, HG, HK, hbw⟩ := hrel
    clear HB0 hb0 g0
    by_cases hlt : k < n
    · obtain ⟨ba, oa, rfl, hba, hca⟩ := hR.spot (by omega)
      have c0 := (hbw.cell (p := ⟨ba, oa + k, none⟩) hba).trans (hca k hlt)
      have CF := C k hlt
      have kf := blkC HK.out 0 rfl
      obtain ⟨cur, hcur, hsz, hcells⟩ := HQ.out
      have e0 : k * 3 < cur.size := by omega
      have e1 : k * 3 + 1 < cur.size := by omega
      have e2 : k * 3 + 2 < cur.size := by omega
      obtain ⟨v0, hv0⟩ : ∃ v, cur[k * 3]? = some v := ⟨_, Array.getElem?_eq_getElem e0⟩
      obtain ⟨v1, hv1⟩ : ∃ v, cur[k * 3 + 1]? = some v := ⟨_, Array.getElem?_eq_getElem e1⟩
      obtain ⟨v2, hv2⟩ : ∃ v, cur[k * 3 + 2]? = some v := ⟨_, Array.getElem?_eq_getElem e2⟩
      have HV : Hid (cur[k * 3]? = some v0 ∧ cur[k * 3 + 1]? = some v1 ∧ cur[k * 3 + 2]? = some v2) := ⟨hv0, hv1, hv2⟩
      have HCUR : Hid (wr.heap[w.heap.size + 1]? = some (.cells cur 37 (0, 0))) := hcur
      have hgs : w.heap.size + 1 < wr.heap.size := (Array.getElem?_eq_some_iff.1 hcur).1
      clear hcells hv0 hv1 hv2 hcur hsz e0 e1 e2 hca C
      have i0 : (0 : Int) ≤ (k : Int) := by omega
      have i1 : (k : Int) < (n : Int) := by omega
      generalize d k = x at *
      go_wp2_with fail
      refine (CF _ hbw).mono ?_
      rintro _ w3 ⟨v, rfl, hD⟩
      have hb3 := hD.below
      have HD : Hid (DAns wr w3 (V k) v) := hD
      obtain ⟨g, s0, m0, e, rfl, _, hA0⟩ := id hD
      obtain ⟨so, sn, sc, rfl⟩ := hA0.num.shape
      clear hD CF hA0
      have hb4 := bel_trans hb3 (bel_alloc w3 (.cells #[.bool g, .slice so sn sc, .int .i64 e] 37))
      have q0 := (hb4.block (w.heap.size + 1) hgs).trans HCUR.out
      have HK4 : Hid ((w3.alloc (.cells #[.bool g, .slice so sn sc, .int .i64 e] 37)).heap[w.heap.size]? = some (.cells #[.func (.func F) #[] #[], .func (.func G) #[] #[]] 164 (0, 0))) := (hb4.block _ (Array.getElem?_eq_some_iff.1 HK.out).1).trans HK.out
      have qx := heap_a1 w3 (.cells #[.bool g, .slice so sn sc, .int .i64 e] 37)
      have t0 := blkC qx 0 rfl
      have t1 := blkC qx 1 rfl
      have t2 := blkC qx 2 rfl
      have x0 := blkC q0 (k * 3) HV.out.1
      have x1 := blkC q0 (k * 3 + 1) HV.out.2.1
      have x2 := blkC q0 (k * 3 + 2) HV.out.2.2
      have f0 := blkF q0 (k * 3)
      have f1 := blkF q0 (k * 3 + 1)
      have f2 := blkF q0 (k * 3 + 2)
      have hn1 : w.heap.size + 1 ≠ w.heap.size := by omega
      clear q0 qx kf
      go_wp2
      all_goals
        go_roundw
        case rel =>
          obtain ⟨ng, s, m, e', h1, hyy, hA⟩ := HD.out
          simp only [Value.agg.injEq, Array.mk.injEq, List.cons.injEq, Value.bool.injEq, Value.int.injEq, true_and, and_true] at h1
          obtain ⟨rfl, rfl, rfl⟩ := h1
          obtain ⟨dd, hRd, hNd, hVd, hgd⟩ := hA.open
          have hgs2 : ∀ b' off, so = some ⟨b', off, none⟩ → 0 < sn → w.heap.size + 1 < b' := fun b' off he _ => by
            have h9 := hgd b' off he
            omega
          refine ⟨k + 1, updN q k ⟨g, so, sn, sc, dd, e⟩, by omega, by go_num, BlkN.step (x := ⟨g, so, sn, sc, dd, e⟩) HQ.out hb4 (hRd.keeps (bel_alloc _ _)) hlt HG.out hgs2, fun i hi => ?_, fun i b' off hi he hn' => ?_, ?_, bel_set3' (bel_trans hbw hb4) (by omega) _ _ _⟩
          · by_cases ei : i = k
            · subst ei
              rw [updN_same]
              exact ⟨hNd, by rw [hVd]; exact hyy⟩
            · rw [updN_other _ _ ei]
              exact HF.out i (by omega)
          · by_cases ei : i = k
            · subst ei
              rw [updN_same] at he hn'
              exact hgs2 b' off he hn'
            · rw [updN_other _ _ ei] at he hn'
              exact HG.out i b' off (by omega) he hn'
          · show _ = _
            rw [heap_setCell_other _ ⟨w.heap.size + 1, _, none⟩ w.heap.size _ (Ne.symm hn1), heap_setCell_other _ ⟨w.heap.size + 1, _, none⟩ w.heap.size _ (Ne.symm hn1), heap_setCell_other _ ⟨w.heap.size + 1, _, none⟩ w.heap.size _ (Ne.symm hn1)]
            exact HK4.out
        case measure => simp [intOf]; omega
    · obtain rfl : k = n := by omega
      go_wp2
      all_goals refine bodyPost_ret (v := .tuple #[.slice (some ⟨w.heap.size + 1, 0, none⟩) k k, .bool true]) (by simp [results, Tryz.results156, go_sem]) rfl ⟨_, q, rfl, by omega, HQ.out.nums hn, hbw, HF.out⟩
end Go.Proofs.YtcpjdgfnblkfpaaGreatDoor
