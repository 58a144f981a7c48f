/-
  Parts of the proof, one behind another.
-/
import Derived.Test.YtnhkagiionkjaaaGreatDoorPart13
import Derived.Test.YtnhkagiionkjaaaGreatDoorPart12
import Derived.Test.YtnhkagiionkjaaaGreatDoorPart11
/-
  Package plumbref3: Sum, Dot, by contracts.
-/
namespace Go.Proofs.YtnhkagiionkjaaaGreatDoor
open Go Go.RowKit Go.Proofs.YtnhkagiionkjaaaGreatDoor.M
set_option linter.unusedSimpArgs false
set_option linter.unusedVariables false

theorem RSum.rd {B : Nat} {W w' : World} {A C : Int} {x y v : Value} (h : RSum W w' A C x y v) (hx : DRd B W A x) (hy : DRd B W C y) (hB : B ≤ W.heap.size) : DRd B w' (A + C) v := by
  rcases h.2 with h1 | ⟨rfl, rfl⟩ | ⟨rfl, rfl⟩
  · exact (h1.dan.lower hB).rd
  · rw [Int.zero_add]; exact hy.ik (Ik.of h.1 hB)
  · rw [Int.add_zero]; exact hx.ik (Ik.of h.1 hB)
/-- A sum so far: new memory, or one of the numbers. -/
def Src (B : Nat) (w : World) (n : Nat) (r : Nat → NumR) (V : Int) (v : Value) : Prop := DAn B w V v ∨ ∃ i, i < n ∧ v = (r i).v ∧ V = (r i).V
theorem Src.keeps {B : Nat} {w w' : World} {n : Nat} {r : Nat → NumR} {V : Int} {v : Value} (h : Src B w n r V v) (hb : Below w.heap.size w w') : Src B w' n r V v := by
  rcases h with h | h
  · exact .inl (h.keeps hb)
  · exact .inr h
theorem ints_set3 {w : World} {g o0 o1 o2 : Nat} {xs : Array Value} {z : Nat × Nat} (hg : w.heap[g]? = some (.cells xs 25 z)) (x y u : Value) : ∀ (g' : Nat) (cur : Array Value) z', w.heap[g']? = some (.cells cur 3 z') → (((w.setCell ⟨g, o0, none⟩ x).setCell ⟨g, o1, none⟩ y).setCell ⟨g, o2, none⟩ u).heap[g']? = w.heap[g']? := fun g' cur z' hc => by
  refine (wr3 w g o0 o1 o2 x y u).block g' (Array.getElem?_eq_some_iff.1 hc).1 fun e => ?_
  subst e
  rw [hg] at hc
  simp at hc
theorem Src.set3 {B : Nat} {w : World} {n : Nat} {r : Nat → NumR} {V : Int} {v : Value} (h : Src B w n r V v) {g o0 o1 o2 : Nat} {xs : Array Value} {z : Nat × Nat} (hg : w.heap[g]? = some (.cells xs 25 z)) (x y u : Value) : Src B (((w.setCell ⟨g, o0, none⟩ x).setCell ⟨g, o1, none⟩ y).setCell ⟨g, o2, none⟩ u) n r V v := by
  rcases h with h | h
  · exact .inl (h.of_blocks (ints_set3 hg x y u))
  · exact .inr h
theorem Src.num {B : Nat} {w0 w : World} {ao : Option Addr} {n cap : Nat} {r : Nat → NumR} {V : Int} {v : Value} (h : Src B w n r V v) (hN : Nums w0 ao n cap r) (ok : ∀ i, i < n → okR (r i) = true) (hb : Below w0.heap.size w0 w) : DNum w v V := by
  rcases h with h | ⟨i, hi, rfl, rfl⟩
  · exact h.num
  · obtain ⟨b, off, _, _, hc⟩ := hN.spot (by omega)
    exact (DRd.of0 (hc i hi).row (ok i hi) hb).num
theorem Src.rd {w0 w : World} {ao : Option Addr} {n cap : Nat} {r : Nat → NumR} {V : Int} {v : Value} (h : Src w0.heap.size w n r V v) (hN : Nums w0 ao n cap r) (ok : ∀ i, i < n → okR (r i) = true) (hb : Below w0.heap.size w0 w) : DRd w0.heap.size w V v := by
  rcases h with h | ⟨i, hi, rfl, rfl⟩
  · exact h.rd
  · obtain ⟨b, off, _, _, hc⟩ := hN.spot (by omega)
    exact DRd.of0 (hc i hi).row (ok i hi) hb
theorem bd_sumV {r : Nat → NumR} {K : Nat} (hK : K ≤ 520000) : ∀ m, m ≤ 1000 → (∀ i, i < m → Bd K (r i).V) → Bd (K + m) (sumV r m)
  | 0, _, _ => ⟨0, by rw [Int.zero_mul]; rfl, by have := two_pos (2 * (K + 0)); omega, by have := two_pos (2 * (K + 0)); omega⟩
  | m + 1, hm, h => (bd_sumV hK m (by omega) fun i hi => h i (by omega)).add ((h m (by omega)).up (by omega) (by omega)) (by omega)
theorem bd_dotK {a b : Nat → NumR} {K : Nat} (hK : K ≤ 260000) : ∀ m, m ≤ 1000 → (∀ i, i < m → Bd K (a i).V ∧ Half (a i)) → (∀ i, i < m → Bd K (b i).V ∧ Half (b i)) → Bd (2 * K + m) (dotV a b m)
  | 0, _, _, _ => ⟨0, by rw [Int.zero_mul]; rfl, by have := two_pos (2 * (2 * K + 0)); omega, by have := two_pos (2 * (2 * K + 0)); omega⟩
  | m + 1, hm, h, k => by
    obtain ⟨h1, h2⟩ := h m (by omega)
    obtain ⟨k1, k2⟩ := k m (by omega)
    unfold Half at h2 k2
    exact (bd_dotK hK m (by omega) (fun i hi => h i (by omega)) (fun i hi => k i (by omega))).add ((h1.mul k1 (mulV_eq (by omega) (by omega)) (by omega)).up (by omega) (by omega)) (by omega)
theorem bel_trans' {w wr w3 : World} (h : Below w.heap.size w wr) (k : Below wr.heap.size wr w3) : Below w.heap.size w w3 := h.trans (k.mono h.size)
set_option maxRecDepth 100000 in
set_option maxHeartbeats 4000000 in
theorem rsum3_any {w0 : World} (ao : Option Addr) (n cap : Nat) (r : Nat → NumR) (h : Nums w0 ao n cap r) (ok : ∀ i, i < n → okR (r i) = true) (hbd : ∀ i, i < n → Bd 260000 (r i).V) (hn : n ≤ 500) (w : World) (hb0 : Below w0.heap.size w0 w) :
    Calls Tryz.prog 86 #[.slice ao n cap] w fun x w' => ∃ v, x = .returned v ∧ Below w.heap.size w w' ∧ Src w0.heap.size w' n r (sumV r n) v := by
  have hl := h.le
  have hm := h.max
  have hb2 := bel_alloc2 w (.cells #[.bool false, .slice none 0 0, .int .i64 0] 25) (.cells #[.bool false, .slice none 0 0, .int .i64 0] 25)
  have g0 := heap_a2 w (.cells #[.bool false, .slice none 0 0, .int .i64 0] 25) (.cells #[.bool false, .slice none 0 0, .int .i64 0] 25)
  have g1 := heap_b2 w (.cells #[.bool false, .slice none 0 0, .int .i64 0] 25) (.cells #[.bool false, .slice none 0 0, .int .i64 0] 25)
  go_enter Tryz.func86, Tryz.ntmps86
  go_wp2_with fail
  generalize (w.alloc (.cells #[.bool false, .slice none 0 0, .int .i64 0] 25)).alloc (.cells #[.bool false, .slice none 0 0, .int .i64 0] 25) = wx at hb2 g0 g1 ⊢
  go_loopw [4] (fun iv wr => ∃ (k : Nat) (s_g : Bool) (s_o : Option Addr) (s_n s_c : Nat) (s_e : Int), k ≤ n ∧ iv = .int .i64 k ∧ Hid (wr.heap[w.heap.size]? = some (.cells #[.bool false, .slice none 0 0, .int .i64 0] 25 (0, 0))) ∧ Hid (wr.heap[w.heap.size + 1]? = some (.cells #[.bool s_g, .slice s_o s_n s_c, .int .i64 s_e] 25 (0, 0))) ∧ Hid (Src w0.heap.size wr n r (sumV r k) (.agg #[.bool s_g, .slice s_o s_n s_c, .int .i64 s_e])) ∧ Below w.heap.size w wr) (fun iv _ => n - (intOf iv).toNat)
  case atStart => exact ⟨0, false, none, 0, 0, 0, Nat.zero_le _, rfl, g0, g1, .inl ⟨_, _, _, _, rfl, Dy.zero, An.nil _ _⟩, hb2⟩
  case round =>
    obtain ⟨k, s_g, s_o, s_n, s_c, s_e, hk, rfl, HG0, HG1, HS, hbw⟩ := hrel
    clear g0 g1 hb2
    have hbr : Below w0.heap.size w0 wr := hb0.trans (hbw.mono hb0.size)
    by_cases hlt : k < n
    · obtain ⟨b, off, rfl, hb, hc⟩ := h.spot (by omega)
      obtain ⟨c0, c1, c2, hR⟩ := (hc k hlt).keeps hbr hb
      have CA : ∀ W, Below wr.heap.size wr W → Calls Tryz.prog 40 #[.agg #[.bool s_g, .slice s_o s_n s_c, .int .i64 s_e], (r k).v] W fun x w' => ∃ n_g n_o n_n n_c n_e, x = .returned (.agg #[.bool n_g, .slice n_o n_n n_c, .int .i64 n_e]) ∧ Below W.heap.size W w' ∧ Src w0.heap.size w' n r (sumV r (k + 1)) (.agg #[.bool n_g, .slice n_o n_n n_c, .int .i64 n_e]) := fun W hW => by
        have hbW : Below w0.heap.size w0 W := hbr.trans (hW.mono hbr.size)
        have hN1 := (HS.out.keeps hW).num h ok hbW
        have hN2 : DNum W (r k).v (r k).V := (DRd.of0 (hc k hlt).row (ok k hlt) hbW).num
        refine (radd_D hN1 hN2 (K := 260500) (by decide) ((bd_sumV (by decide) k (by omega) fun i hi => hbd i (by omega)).up (by omega) (by omega)) ((hbd k hlt).up (by omega) (by omega))).mono ?_
        rintro x w' ⟨v, rfl, hr⟩
        have hv : Src w0.heap.size w' n r (sumV r (k + 1)) v := by
          have e : sumV r (k + 1) = sumV r k + (r k).V := rfl
          rw [e]
          rcases hr.2 with h1 | ⟨h1, rfl⟩ | ⟨h1, rfl⟩
          · exact .inl (h1.dan.lower hbW.size)
          · exact .inr ⟨k, hlt, rfl, by rw [h1, Int.zero_add]⟩
          · rw [h1, Int.add_zero]; exact (HS.out.keeps hW).keeps hr.1
        have hsh : ∃ n_g n_o n_n n_c n_e, v = .agg #[.bool n_g, .slice n_o n_n n_c, .int .i64 n_e] := by
          rcases hv with ⟨ng, s, m, e, rfl, _, hA⟩ | ⟨i, _, rfl, _⟩
          · obtain ⟨so, sn, sc, rfl⟩ := hA.shape
            exact ⟨_, _, _, _, _, rfl⟩
          · exact ⟨_, _, _, _, _, rfl⟩
        obtain ⟨n_g, n_o, n_n, n_c, n_e, rfl⟩ := hsh
        exact ⟨_, _, _, _, _, rfl, hr.1, hv⟩
      generalize hrk : r k = rk at c0 c1 c2 CA
      unfold NumR.v at CA
      obtain ⟨q_g, q_o, q_n, q_c, q_d, q_e⟩ := rk
      simp only at c0 c1 c2 CA
      clear hrk hR hc
      have f0 := blkC HG1.out 0 rfl
      have f1 := blkC HG1.out 1 rfl
      have f2 := blkC HG1.out 2 rfl
      have i0 : (0 : Int) ≤ (k : Int) := by omega
      have i1 : (k : Int) < (n : Int) := by omega
      have hb1 := bel_refl wr
      go_wp2_with fail
      go_region_with (go_at_call 40; refine (CA _ (by first | exact hb1.drew | exact hb1)).mono ?_; rintro x w3 ⟨n_g, n_o, n_n, n_c, n_e, rfl, hbv, hSv⟩; have hbv' : Below wr.heap.size wr w3 := bel_trans hb1.drew hbv; have q1 := (hbv'.block _ (Array.getElem?_eq_some_iff.1 HG1.out).1).trans HG1.out; have q0 := (hbv'.block _ (Array.getElem?_eq_some_iff.1 HG0.out).1).trans HG0.out; have x0 := blkC q1 0 rfl; have x1 := blkC q1 1 rfl; have x2 := blkC q1 2 rfl; have z0 := blkF q1 0; have z1 := blkF q1 1; have z2 := blkF q1 2)
      all_goals go_wp2
      all_goals
        go_roundw
        case rel => exact ⟨k + 1, n_g, n_o, n_n, n_c, n_e, by omega, by go_num, ((wr3 w3 (w.heap.size + 1) 0 1 2 (.bool n_g) (.slice n_o n_n n_c) (.int .i64 n_e)).block w.heap.size (Array.getElem?_eq_some_iff.1 q0).1 (by omega)).trans q0, heap_set (heap_set (heap_set q1 0 (.bool n_g)) 1 (.slice n_o n_n n_c)) 2 (.int .i64 n_e), hSv.set3 q1 _ _ _, bel_set3' (bel_trans' hbw hbv') (by omega) _ _ _⟩
        case measure => simp [intOf]; omega
    · obtain rfl : k = n := by omega
      have f0 := blkC HG1.out 0 rfl
      have f1 := blkC HG1.out 1 rfl
      have f2 := blkC HG1.out 2 rfl
      have x0 := blkC HG0.out 0 rfl
      have x1 := blkC HG0.out 1 rfl
      have x2 := blkC HG0.out 2 rfl
      have z0 := blkF HG0.out 0
      have z1 := blkF HG0.out 1
      have z2 := blkF HG0.out 2
      go_wp2
      refine bodyPost_ret (v := .agg #[.bool s_g, .slice s_o s_n s_c, .int .i64 s_e]) (by simp [results, Tryz.results86, go_sem, x0, x1, x2]) rfl ⟨_, rfl, bel_set3' hbw (Nat.le_refl _) _ _ _, ?_⟩
      exact HS.out.set3 HG0.out _ _ _
set_option maxRecDepth 100000 in
set_option maxHeartbeats 4000000 in
theorem rdot3_any {w0 : World} (ao bo : Option Addr) (n ca cb : Nat) (a b : Nat → NumR) (ha : Nums w0 ao n ca a) (hb : Nums w0 bo n cb b) (oa : ∀ i, i < n → okR (a i) = true) (ob : ∀ i, i < n → okR (b i) = true) (la : ∀ i, i < n → Bd 260000 (a i).V ∧ Half (a i)) (lb : ∀ i, i < n → Bd 260000 (b i).V ∧ Half (b i)) (hn : n ≤ 500) (w : World) (hb0 : Below w0.heap.size w0 w) :
    Calls Tryz.prog 47 #[.slice ao n ca, .slice bo n cb] w fun x w' => ∃ v, x = .returned v ∧ Below w.heap.size w w' ∧ DRd w0.heap.size w' (dotV a b n) v := by
  have hl := ha.le
  have hm := ha.max
  have hl' := hb.le
  have hm' := hb.max
  have hb2 := bel_alloc2 w (.cells #[.bool false, .slice none 0 0, .int .i64 0] 25) (.cells #[.bool false, .slice none 0 0, .int .i64 0] 25)
  have g0 := heap_a2 w (.cells #[.bool false, .slice none 0 0, .int .i64 0] 25) (.cells #[.bool false, .slice none 0 0, .int .i64 0] 25)
  have g1 := heap_b2 w (.cells #[.bool false, .slice none 0 0, .int .i64 0] 25) (.cells #[.bool false, .slice none 0 0, .int .i64 0] 25)
  go_enter Tryz.func47, Tryz.ntmps47
  go_wp2_with fail
  generalize (w.alloc (.cells #[.bool false, .slice none 0 0, .int .i64 0] 25)).alloc (.cells #[.bool false, .slice none 0 0, .int .i64 0] 25) = wx at hb2 g0 g1 ⊢
  go_loopw [6] (fun iv wr => ∃ (k : Nat) (s_g : Bool) (s_o : Option Addr) (s_n s_c : Nat) (s_e : Int), k ≤ n ∧ iv = .int .i64 k ∧ Hid (wr.heap[w.heap.size]? = some (.cells #[.bool false, .slice none 0 0, .int .i64 0] 25 (0, 0))) ∧ Hid (wr.heap[w.heap.size + 1]? = some (.cells #[.bool s_g, .slice s_o s_n s_c, .int .i64 s_e] 25 (0, 0))) ∧ Hid (DAn w0.heap.size wr (dotV a b k) (.agg #[.bool s_g, .slice s_o s_n s_c, .int .i64 s_e])) ∧ Below w.heap.size w wr) (fun iv _ => n - (intOf iv).toNat)
  case atStart => exact ⟨0, false, none, 0, 0, 0, Nat.zero_le _, rfl, g0, g1, ⟨_, _, _, _, rfl, Dy.zero, An.nil _ _⟩, hb2⟩
  case round =>
    obtain ⟨k, s_g, s_o, s_n, s_c, s_e, hk, rfl, HG0, HG1, HS, hbw⟩ := hrel
    clear g0 g1 hb2
    have hbr : Below w0.heap.size w0 wr := hb0.trans (hbw.mono hb0.size)
    by_cases hlt : k < n
    · obtain ⟨ba, oa', rfl, hba, hca⟩ := ha.spot (by omega)
      obtain ⟨bb, ob', rfl, hbb, hcb⟩ := hb.spot (by omega)
      obtain ⟨c0, c1, c2, ra⟩ := (hca k hlt).keeps hbr hba
      obtain ⟨d0, d1, d2, rb⟩ := (hcb k hlt).keeps hbr hbb
      have CM : ∀ W, Below wr.heap.size wr W → Calls Tryz.prog 42 #[(a k).v, (b k).v] W fun x w' => ∃ m_g m_o m_n m_c m_e, x = .returned (.agg #[.bool m_g, .slice m_o m_n m_c, .int .i64 m_e]) ∧ Below W.heap.size W w' ∧ DAn w0.heap.size w' (mulV (a k) (b k)) (.agg #[.bool m_g, .slice m_o m_n m_c, .int .i64 m_e]) := fun W hW => by
        refine (rmul3_any (a k) (b k) W (ra.keeps hW) (rb.keeps hW) (okR_sane (oa k hlt)) (okR_sane (ob k hlt))).mono ?_
        rintro x w' ⟨v, rfl, hA⟩
        obtain ⟨m_g, s, m, m_e, rfl, _, hA2⟩ := id hA
        obtain ⟨so, sn, sc, rfl⟩ := hA2.num.shape
        exact ⟨_, _, _, _, _, rfl, hA.below, hA.dan.lower (Nat.le_trans hbr.size hW.size)⟩
      have CA : ∀ W m_g m_o m_n m_c m_e, Below wr.heap.size wr W → DAn w0.heap.size W (mulV (a k) (b k)) (.agg #[.bool m_g, .slice m_o m_n m_c, .int .i64 m_e]) → Calls Tryz.prog 40 #[.agg #[.bool s_g, .slice s_o s_n s_c, .int .i64 s_e], .agg #[.bool m_g, .slice m_o m_n m_c, .int .i64 m_e]] W fun x w' => ∃ n_g n_o n_n n_c n_e, x = .returned (.agg #[.bool n_g, .slice n_o n_n n_c, .int .i64 n_e]) ∧ Below W.heap.size W w' ∧ DAn w0.heap.size w' (dotV a b (k + 1)) (.agg #[.bool n_g, .slice n_o n_n n_c, .int .i64 n_e]) := fun W m_g m_o m_n m_c m_e hW hM => by
        obtain ⟨x1, x2⟩ := la k hlt
        obtain ⟨y1, y2⟩ := lb k hlt
        have hMb : Bd (2 * 260000) (mulV (a k) (b k)) := x1.mul y1 (mulV_eq (by unfold Half at x2; omega) (by unfold Half at y2; omega)) (by omega)
        refine (radd_D (HS.out.keeps hW).num hM.num (K := 520500) (by decide) ((bd_dotK (by decide) k (by omega) (fun i hi => la i (by omega)) (fun i hi => lb i (by omega))).up (by omega) (by omega)) (hMb.up (by omega) (by omega))).mono ?_
        rintro x w' ⟨v, rfl, hr⟩
        have hv : DAn w0.heap.size w' (dotV a b (k + 1)) v := by
          have e : dotV a b (k + 1) = dotV a b k + mulV (a k) (b k) := rfl
          rw [e]
          rcases hr.2 with h1 | ⟨h1, rfl⟩ | ⟨h1, rfl⟩
          · exact h1.dan.lower (Nat.le_trans hbr.size hW.size)
          · rw [h1, Int.zero_add]; exact hM.keeps hr.1
          · rw [h1, Int.add_zero]; exact (HS.out.keeps hW).keeps hr.1
        obtain ⟨n_g, s, m, n_e, rfl, _, hA⟩ := id hv
        obtain ⟨so, sn, sc, rfl⟩ := hA.shape
        exact ⟨_, _, _, _, _, rfl, hr.1, hv⟩
      have HCA : Hid _ := CA
      generalize hak : a k = ak at c0 c1 c2 CM
      generalize hbk : b k = bk at d0 d1 d2 CM
      have HAK : Hid (a k = ak) := hak
      have HBK : Hid (b k = bk) := hbk
      obtain ⟨MV, hMV⟩ : ∃ V, V = mulV (a k) (b k) := ⟨_, rfl⟩
      rw [← hak, ← hbk, ← hMV] at CM
      rw [← hMV] at CA
      rw [hak, hbk] at CM
      clear HCA hMV hak hbk ra rb hca hcb HAK HBK
      unfold NumR.v at CM
      obtain ⟨p_g, p_o, p_n, p_c, p_d, p_e⟩ := ak
      obtain ⟨q_g, q_o, q_n, q_c, q_d, q_e⟩ := bk
      simp only at c0 c1 c2 d0 d1 d2 CM
      have f0 := blkC HG1.out 0 rfl
      have f1 := blkC HG1.out 1 rfl
      have f2 := blkC HG1.out 2 rfl
      have i0 : (0 : Int) ≤ (k : Int) := by omega
      have i1 : (k : Int) < (n : Int) := by omega
      have hb1 := bel_refl wr
      go_wp2_with fail
      go_region_with (first | (go_at_call 40; refine (CA _ _ _ _ _ _ hbm' hM).mono ?_; rintro x w4 ⟨n_g, n_o, n_n, n_c, n_e, rfl, hbv, hSv⟩; have hbv' : Below wr.heap.size wr w4 := bel_trans hbm' hbv; have q1 := (hbv'.block _ (Array.getElem?_eq_some_iff.1 HG1.out).1).trans HG1.out; have q0 := (hbv'.block _ (Array.getElem?_eq_some_iff.1 HG0.out).1).trans HG0.out; have x0 := blkC q1 0 rfl; have x1 := blkC q1 1 rfl; have x2 := blkC q1 2 rfl; have z0 := blkF q1 0; have z1 := blkF q1 1; have z2 := blkF q1 2) | (go_at_call 42; refine (CM _ (by first | exact hb1.drew | exact hb1)).mono ?_; rintro x w3 ⟨m_g, m_o, m_n, m_c, m_e, rfl, hbm, hM⟩; have hbm' : Below wr.heap.size wr w3 := bel_trans hb1.drew hbm; have e0 := cell_keeps f0 hbm'; have e1 := cell_keeps f1 hbm'; have e2 := cell_keeps f2 hbm'))
      all_goals go_wp2
      all_goals
        go_roundw
        case rel => exact ⟨k + 1, n_g, n_o, n_n, n_c, n_e, by omega, by go_num, ((wr3 w4 (w.heap.size + 1) 0 1 2 (.bool n_g) (.slice n_o n_n n_c) (.int .i64 n_e)).block w.heap.size (Array.getElem?_eq_some_iff.1 q0).1 (by omega)).trans q0, heap_set (heap_set (heap_set q1 0 (.bool n_g)) 1 (.slice n_o n_n n_c)) 2 (.int .i64 n_e), hSv.of_blocks (ints_set3 q1 _ _ _), bel_set3' (bel_trans' hbw hbv') (by omega) _ _ _⟩
        case measure => simp [intOf]; omega
    · obtain rfl : k = n := by omega
      have f0 := blkC HG1.out 0 rfl
      have f1 := blkC HG1.out 1 rfl
      have f2 := blkC HG1.out 2 rfl
      have x0 := blkC HG0.out 0 rfl
      have x1 := blkC HG0.out 1 rfl
      have x2 := blkC HG0.out 2 rfl
      have z0 := blkF HG0.out 0
      have z1 := blkF HG0.out 1
      have z2 := blkF HG0.out 2
      go_wp2
      refine bodyPost_ret (v := .agg #[.bool s_g, .slice s_o s_n s_c, .int .i64 s_e]) (by simp [results, Tryz.results47, go_sem, x0, x1, x2]) rfl ⟨_, rfl, bel_set3' hbw (Nat.le_refl _) _ _ _, ?_⟩
      exact (HS.out.of_blocks (ints_set3 HG0.out _ _ _)).rd
end Go.Proofs.YtnhkagiionkjaaaGreatDoor

/-
  plumblaw3.sum, by its contract.
-/
namespace Go.Proofs.YtnhkagiionkjaaaGreatDoor
open Go Go.RowKit Go.Proofs.YtnhkagiionkjaaaGreatDoor.M
set_option linter.unusedSimpArgs false
set_option linter.unusedVariables false

theorem src_shape {B : Nat} {w : World} {n : Nat} {r : Nat → NumR} {V : Int} {v : Value} (h : Src B w n r V v) : ∃ n_g n_o n_n n_c n_e, v = .agg #[.bool n_g, .slice n_o n_n n_c, .int .i64 n_e] := by
  rcases h with ⟨ng, s, m, e, rfl, _, hA⟩ | ⟨i, _, rfl, _⟩
  · obtain ⟨so, sn, sc, rfl⟩ := hA.shape
    exact ⟨_, _, _, _, _, rfl⟩
  · exact ⟨_, _, _, _, _, rfl⟩
set_option maxRecDepth 100000 in
theorem law3sum_bad (ao : Option Addr) (n cap : Nat) (w : World) :
    Calls Tryz.prog 46 #[.slice ao n cap, .bool true] w fun x w' => x = .returned zeroV ∧ Below w.heap.size w w' := by
  go_enter Tryz.func46, Tryz.ntmps46
  go_wp2
  refine bodyPost_ret (v := zeroV) (by simp [results, Tryz.results46, go_sem, zeroV]) rfl ⟨rfl, ?_⟩
  exact bel_alloc _ _
set_option maxRecDepth 100000 in
theorem law3sum_ok {w0 : World} (ao : Option Addr) (n cap : Nat) (r : Nat → NumR) (h : Nums w0 ao n cap r) (ok : ∀ i, i < n → okR (r i) = true) (hbd : ∀ i, i < n → Bd 260000 (r i).V) (hn : n ≤ 500) (w : World) (hb0 : Below w0.heap.size w0 w) :
    Calls Tryz.prog 46 #[.slice ao n cap, .bool false] w fun x w' => ∃ v, x = .returned v ∧ Below w.heap.size w w' ∧ Src w0.heap.size w' n r (sumV r n) v := by
  have hb1 := bel_alloc w (.cells #[.bool false, .slice none 0 0, .int .i64 0] 25)
  have g0 := heap_a1 w (.cells #[.bool false, .slice none 0 0, .int .i64 0] 25)
  have CS := rsum3_any ao n cap r h ok hbd hn _ (hb0.trans (hb1.mono hb0.size))
  go_enter Tryz.func46, Tryz.ntmps46
  go_wp2_with fail
  generalize w.alloc (.cells #[.bool false, .slice none 0 0, .int .i64 0] 25) = wx at hb1 g0 CS ⊢
  refine CS.mono ?_
  rintro x w1 ⟨v, rfl, hbv, hD⟩
  obtain ⟨n_g, n_o, n_n, n_c, n_e, rfl⟩ := src_shape hD
  have q0 := (hbv.block _ (Array.getElem?_eq_some_iff.1 g0).1).trans g0
  have x0 := blkC q0 0 rfl
  have x1 := blkC q0 1 rfl
  have x2 := blkC q0 2 rfl
  have z0 := blkF q0 0
  have z1 := blkF q0 1
  have z2 := blkF q0 2
  have HDD : Hid _ := hD
  clear hD
  go_wp2
  refine bodyPost_ret (v := .agg #[.bool n_g, .slice n_o n_n n_c, .int .i64 n_e]) (by simp [results, Tryz.results46, go_sem, x0, x1, x2]) rfl ⟨_, rfl, bel_set3' (bel_trans hb1 hbv) (Nat.le_refl _) _ _ _, ?_⟩
  exact Src.set3 HDD.out q0 _ _ _
end Go.Proofs.YtnhkagiionkjaaaGreatDoor

/-
  plumblaw3.light: not too long, exponents not too far, by its contract.
-/
namespace Go.Proofs.YtnhkagiionkjaaaGreatDoor
open Go Go.RowKit Go.Proofs.YtnhkagiionkjaaaGreatDoor.M
set_option linter.unusedSimpArgs false
set_option linter.unusedVariables false

/-- A number that light lets pass. -/
def Lgt (x : NumR) : Prop := x.n ≤ 2100 ∧ (okR x = true → -200000 ≤ x.e ∧ x.e ≤ 200000)
def LtP (w : World) (n : Nat) (r : Nat → NumR) (x : Ending) (w' : World) : Prop := ∃ b, x = .returned (.bool b) ∧ Below w.heap.size w w' ∧ (b = true → n ≤ 6000 ∧ ∀ i, i < n → Lgt (r i))
theorem LtP.of {w : World} {n : Nat} {r : Nat → NumR} {b : Bool} {w' : World} (h1 : Below w.heap.size w w') (h2 : b = true → n ≤ 6000 ∧ ∀ i, i < n → Lgt (r i)) : LtP w n r (.returned (.bool b)) w' := ⟨b, rfl, h1, h2⟩
set_option maxRecDepth 100000 in
set_option maxHeartbeats 2000000 in
theorem light_any (ao : Option Addr) (n cap : Nat) (r : Nat → NumR) (w : World) (h : Nums w ao n cap r) :
    Calls Tryz.prog 4 #[.slice ao n cap] w (LtP w n r) := by
  have hl := h.le
  have hm := h.max
  go_enter Tryz.func4, Tryz.ntmps4
  go_wp2_with fail
  go_loopw [3, 4] (fun tv iv wr => ∃ (k t : Nat), k ≤ n ∧ t ≤ 8101 ∧ tv = .int .i64 t ∧ iv = .int .i64 k ∧ Hid (∀ j, j < k → Lgt (r j)) ∧ Below w.heap.size w wr) (fun _ iv _ => n - (intOf iv).toNat)
  case atStart => exact ⟨0, 0, Nat.zero_le _, by omega, rfl, rfl, fun j hj => by omega, bel_refl _⟩
  case round =>
    obtain ⟨k, t, hk, ht, rfl, rfl, HO, hbw⟩ := hrel
    by_cases hlt : k < n
    · by_cases hk6 : k ≤ 6000
      · by_cases ht6 : t ≤ 6000
        · obtain ⟨b, off, rfl, hb, hc⟩ := h.spot (by omega)
          obtain ⟨c0, c1, c2, hR⟩ := (hc k hlt).keeps hbw hb
          generalize hr : r k = x at *
          have CV := fun W hb => rvalid3_any x W (hR.keeps hb)
          have hHR : Hid (r k = x) := hr
          have hlx := hR.le
          have hmx := hR.max
          have hLg : Hid (Lgt x ↔ (x.n ≤ 2100 ∧ (okR x = true → -200000 ≤ x.e ∧ x.e ≤ 200000))) := Iff.rfl
          clear hr hR
          have CK : Hid (∀ ok, okR x = ok → (x.n ≤ 2100 ∧ (ok = true → -200000 ≤ x.e ∧ x.e ≤ 200000)) → Lgt x) := fun ok h1 h2 => by rw [← h1] at h2; exact h2
          obtain ⟨ok, hok⟩ : ∃ ok, okR x = ok := ⟨_, rfl⟩
          rw [hok] at CV
          replace CK := CK.out ok hok
          have HCK : Hid _ := CK
          clear CK hok hLg
          unfold NumR.v at CV
          obtain ⟨ng, xo, xn, xc, xd, xe⟩ := x
          simp only at c0 c1 c2 CV HCK hlx hmx
          by_cases h21 : xn ≤ 2100
          · cases ok
            · go_wp2_with (go_at_call 11; refine (CV _ (bel_refl _)).mono ?_; rintro x w1 ⟨rfl, hb1⟩; have c2' := cell_keeps c2 hb1)
              go_roundw
              case rel => exact ⟨k + 1, t + 1 + xn, by omega, by omega, by go_num, by go_num, fun j hj => by
                  by_cases e : j = k
                  · subst e; rw [hHR.out]; exact HCK.out ⟨h21, fun h => by cases h⟩
                  · exact HO.out j (by omega), hbw.trans (hb1.mono hbw.size)⟩
              case measure => simp [intOf]; omega
            · by_cases he1 : 200000 < xe
              · go_wp2_with (go_at_call 11; refine (CV _ (bel_refl _)).mono ?_; rintro x w1 ⟨rfl, hb1⟩; have c2' := cell_keeps c2 hb1)
                go_ret
                exact LtP.of (hbw.trans (hb1.mono hbw.size)) (fun h => by simp at h)
              · by_cases he0 : xe < -200000
                · go_wp2_with (go_at_call 11; refine (CV _ (bel_refl _)).mono ?_; rintro x w1 ⟨rfl, hb1⟩; have c2' := cell_keeps c2 hb1)
                  go_ret
                  exact LtP.of (hbw.trans (hb1.mono hbw.size)) (fun h => by simp at h)
                · go_wp2_with (go_at_call 11; refine (CV _ (bel_refl _)).mono ?_; rintro x w1 ⟨rfl, hb1⟩; have c2' := cell_keeps c2 hb1)
                  go_roundw
                  case rel => exact ⟨k + 1, t + 1 + xn, by omega, by omega, by go_num, by go_num, fun j hj => by
                      by_cases e : j = k
                      · subst e; rw [hHR.out]; exact HCK.out ⟨h21, fun _ => ⟨by omega, by omega⟩⟩
                      · exact HO.out j (by omega), hbw.trans (hb1.mono hbw.size)⟩
                  case measure => simp [intOf]; omega
          · go_wp2
            go_ret
            exact LtP.of hbw (fun h => by cases h)
        · go_wp2
          go_ret
          exact LtP.of hbw (fun h => by simp at h)
      · have hn6 : ¬ n ≤ 6000 := by omega
        by_cases ht6 : t ≤ 6000
        · go_wp2
          go_ret
          exact LtP.of hbw (fun h => by simp at h; omega)
        · go_wp2
          go_ret
          exact LtP.of hbw (fun h => by simp at h)
    · obtain rfl : k = n := by omega
      by_cases ht6 : t ≤ 6000
      · go_wp2
        go_ret
        exact LtP.of hbw (fun h => ⟨by simp at h; omega, HO.out⟩)
      · go_wp2
        go_ret
        exact LtP.of hbw (fun h => by simp at h)
end Go.Proofs.YtnhkagiionkjaaaGreatDoor
