/-
  Package dyadic: settle, by its contract: the one form of a number, or it gives up.
-/
import Derived.Test.YtcpjdgfnblkfpaaGreatDoorDV
import Derived.Test.YtcpjdgfnblkfpaaGreatDoorDTold
import Derived.Test.YtcpjdgfnblkfpaaGreatDoorNTz
import Derived.Deep.RegionWith
import Derived.WalkLawsBesides
namespace Go.Proofs.YtcpjdgfnblkfpaaGreatDoor
open Go Go.RowKit Go.Proofs.YtcpjdgfnblkfpaaGreatDoor.M
set_option linter.unusedSimpArgs false
set_option linter.unusedVariables false

theorem lowA_pos {V l : Int} (h : LowA V l) (h0 : 0 < V) : ∃ k : Nat, l = k ∧ IsLow V k := by
  rcases h with ⟨h1, _⟩ | h
  · omega
  · exact h
theorem isLow_lt {d : Nat → Int} {n k : Nat} (hd : Dig d n) (h0 : 0 < val d n) (h : IsLow (val d n) k) : k < 30 * n := by
  have h1 := val_lt hd
  rw [P_two] at h1
  obtain ⟨a, b, c⟩ := isLow_odd h h0
  have h2 : (1 : Int) * 2 ^ k ≤ val d n / 2 ^ k * 2 ^ k := Int.mul_le_mul_of_nonneg_right (by omega) (Int.le_of_lt (two_pos k))
  exact two_lt_iff (by omega)
/-- What is answered, when a result's own variable is written behind it. -/
theorem ans_res {w W w3 : World} {V : Int} {v : Value} (hv : Ans W w3 V v) (hb : Below w.heap.size w W) {g : Nat} (h0 : w.heap.size ≤ g) (h1 : g < W.heap.size) (a b c : Value) :
    Ans w (((w3.setCell ⟨g, 0, none⟩ a).setCell ⟨g, 1, none⟩ b).setCell ⟨g, 2, none⟩ c) V v := by
  obtain ⟨t, d, hO, hN, hV, hB⟩ := hv
  refine ⟨t, d, ?_, hN, hV, ?_⟩
  · exact (((hO.set_below (a := ⟨g, 0, none⟩) h1 a).set_below (a := ⟨g, 1, none⟩) h1 b).set_below (a := ⟨g, 2, none⟩) h1 c).lower hb.size
  · exact (((hb.trans (hB.mono hb.size)).setCell (p := ⟨g, 0, none⟩) h0 a).setCell (p := ⟨g, 1, none⟩) h0 b).setCell (p := ⟨g, 2, none⟩) h0 c
set_option maxHeartbeats 1000000 in
theorem settle_zero (ng : Bool) (ao : Option Addr) (n cap : Nat) (d : Nat → Int) (e : Int) (w : World) (h : Row w ao n cap d) (hd : Dig d n) (h0 : val d n = 0) :
    Calls Tryz.prog 69 #[.agg #[.bool ng, .slice ao n cap, .int .i64 e]] w fun r w' => r = .returned zeroV ∧ Below w.heap.size w w' := by
  have hR := h.keeps (bel_alloc2 w (.cells #[.bool ng, .slice ao n cap, .int .i64 e] 37) (.cells #[.bool false, .slice none 0 0, .int .i64 0] 37))
  go_enter Tryz.func69, Tryz.ntmps69
  go_wp2_with fail
  refine (trim_any _ _ _ _ _ hR).mono ?_
  rintro r w1 ⟨t, ht, htop, hz, rfl, rfl⟩
  obtain ⟨hN, hv⟩ := nrm_of_top hd ht htop hz
  have ht0 : t = 0 := (val_zero hN).1 (by rw [hv]; exact h0)
  subst ht0
  rw [show cutV ao 0 cap = .slice none 0 0 from rfl]
  go_wp2
  refine bodyPost_ret (v := zeroV) (by simp [results, Tryz.results69, go_sem, zeroV]) rfl ⟨rfl, ?_⟩
  exact bel_alloc2 _ _ _
set_option maxRecDepth 100000 in
set_option maxHeartbeats 4000000 in
theorem settle_yes (ng : Bool) (ao : Option Addr) (n cap : Nat) (d : Nat → Int) (e : Int) (w : World) (h : Row w ao n cap d) (hd : Dig d n) (hn : n ≤ 100000) (hT : Tab w) (h0 : 0 < val d n) (l : Nat) (hl : IsLow (val d n) l)
    (he0 : -1048576 ≤ e + l) (he1 : e + l ≤ 1048576) (hs : val d n / 2 ^ l < P 2000) :
    Calls Tryz.prog 69 #[.agg #[.bool ng, .slice ao n cap, .int .i64 e]] w fun r w' => ∃ s, r = .returned (.agg #[.bool ng, s, .int .i64 (e + l)]) ∧ Ans w w' (val d n / 2 ^ l) s := by
  have hR := h.keeps (bel_alloc2 w (.cells #[.bool ng, .slice ao n cap, .int .i64 e] 37) (.cells #[.bool false, .slice none 0 0, .int .i64 0] 37))
  have hln := isLow_lt hd h0 hl
  have hb1 := bel_alloc2 w (.cells #[.bool ng, .slice ao n cap, .int .i64 e] 37) (.cells #[.bool false, .slice none 0 0, .int .i64 0] 37)
  go_enter Tryz.func69, Tryz.ntmps69
  go_wp2_with fail
  refine (trim_any _ _ _ _ _ hR).mono ?_
  rintro r w1 ⟨t, ht, htop, hz, rfl, rfl⟩
  obtain ⟨hN, hv⟩ := nrm_of_top hd ht htop hz
  have ht0 : t ≠ 0 := by rintro rfl; have := (val_zero hN).2 rfl; omega
  rw [show cutV ao t cap = .slice ao t cap by unfold cutV; rw [if_neg ht0]]
  have hn0 : ((t : Int) == 0) = false := by simp; omega
  obtain ⟨bb, fb, rfl, hbb, hcb⟩ := h.spot (by omega)
  have hRt : Row ((w.alloc (.cells #[.bool ng, .slice (some ⟨bb, fb, none⟩) n cap, .int .i64 e] 37)).alloc (.cells #[.bool false, .slice none 0 0, .int .i64 0] 37)) (some ⟨bb, fb, none⟩) t cap d := ⟨by have := h.le; omega, h.max, fun hx => by simp at hx, fun _ => by
    obtain ⟨b', f', e', q1, q2⟩ := hR.spot (by omega)
    exact ⟨b', f', e', q1, fun i hi => q2 i (by omega)⟩⟩
  have hbl : blen (val d n) ≤ 60000 + l := by
    refine blen_le ?_
    obtain ⟨_, _, c⟩ := isLow_odd hl h0
    have : (val d n / 2 ^ l) * 2 ^ l < P 2000 * 2 ^ l := Int.mul_lt_mul_of_pos_right hs (two_pos l)
    rw [c, P_two, ← Int.pow_add] at this
    exact this
  have HS : Hid (val d n / 2 ^ l < P 2000) := hs
  clear hs
  go_wp2_with fail
  refine (lowest_any _ _ _ _ _ hRt hN.1 (by omega) (hT.keeps hb1)).mono ?_
  rintro r w1 ⟨lo, rfl, hlo, rfl⟩
  rw [hv] at hlo
  obtain ⟨k, rfl, hk⟩ := lowA_pos hlo h0
  obtain rfl := low_unique hk hl
  have HL : Hid (IsLow (val d n) k) := hl
  clear hlo hk hl
  have HV : Hid (val d t = val d n) := hv
  go_wp2_with fail
  refine (bitLength_any _ _ _ _ _ hRt hN (by omega)).mono ?_
  rw [hv]
  rintro r w1 ⟨rfl, rfl⟩
  go_wp2_with fail
  have hwr : IntKind.i64.wrap (e + (k : Int)) = e + k := by rw [wrap_i64_eq]; omega
  have hb2 : Below w.heap.size w ((w.alloc (.cells #[.bool ng, .slice (some ⟨bb, fb, none⟩) n cap, .int .i64 e] 37)).alloc (.cells #[.bool false, .slice none 0 0, .int .i64 0] 37)).drew := hb1.drew
  have q0 : ((w.alloc (.cells #[.bool ng, .slice (some ⟨bb, fb, none⟩) n cap, .int .i64 e] 37)).alloc (.cells #[.bool false, .slice none 0 0, .int .i64 0] 37)).drew.heap[w.heap.size]? = some (.cells #[.bool ng, .slice (some ⟨bb, fb, none⟩) n cap, .int .i64 e] 37) := heap_a2 _ _ _
  have q1 : ((w.alloc (.cells #[.bool ng, .slice (some ⟨bb, fb, none⟩) n cap, .int .i64 e] 37)).alloc (.cells #[.bool false, .slice none 0 0, .int .i64 0] 37)).drew.heap[w.heap.size + 1]? = some (.cells #[.bool false, .slice none 0 0, .int .i64 0] 37) := heap_b2 _ _ _
  have qs : ((w.alloc (.cells #[.bool ng, .slice (some ⟨bb, fb, none⟩) n cap, .int .i64 e] 37)).alloc (.cells #[.bool false, .slice none 0 0, .int .i64 0] 37)).drew.heap.size = w.heap.size + 2 := size2 _ _ _
  go_region_with (go_at_call 104; refine (lower_any _ _ _ k d _ hRt.drew hN.1 (by omega) (by omega)).mono ?_; rintro r w3 ⟨v, rfl, hv⟩; obtain ⟨vo, vn, vc, rfl⟩ := hv.num.shape; have g0 := (hv.below.block w.heap.size (by omega)).trans q0; have g1 := (hv.below.block (w.heap.size + 1) (by omega)).trans q1; have k0 := blkC g0 0 rfl; have k2 := blkC g0 2 rfl; have k3 := blkC g1 0 rfl; have k4 := blkC g1 1 rfl; have k5 := blkC g1 2 rfl; have f0 := blkF g1 0; have f1 := blkF g1 1; have f2 := blkF g1 2; have hvv := hv.from hb2)
  all_goals go_wp2
  all_goals refine bodyPost_ret (v := .agg #[.bool ng, .slice vo vn vc, .int .i64 (e + k)]) (by simp [results, Tryz.results69, go_sem, k3, k4, k5, hwr]) rfl ⟨_, rfl, ?_⟩
  all_goals (rw [← HV.out]; exact ans_res (g := w.heap.size + 1) hv hb2 (Nat.le_succ _) (by omega) _ _ _)
set_option maxRecDepth 100000 in
set_option maxHeartbeats 1000000 in
theorem settle_no (ng : Bool) (ao : Option Addr) (n cap : Nat) (d : Nat → Int) (e : Int) (w : World) (h : Row w ao n cap d) (hd : Dig d n) (hn : n ≤ 100000) (hT : Tab w) (h0 : 0 < val d n) (l : Nat) (hl : IsLow (val d n) l)
    (hbad : e + l < -1048576 ∨ 1048576 < e + l ∨ P 2000 ≤ val d n / 2 ^ l) :
    Calls Tryz.prog 69 #[.agg #[.bool ng, .slice ao n cap, .int .i64 e]] w fun r w' => r = .panicked [{ v := .iface 29 (.int .i64 2), recovered := false }] ∧ Below w.heap.size w w' := by
  have hR := h.keeps (bel_alloc2 w (.cells #[.bool ng, .slice ao n cap, .int .i64 e] 37) (.cells #[.bool false, .slice none 0 0, .int .i64 0] 37))
  have hln := isLow_lt hd h0 hl
  have hb1 := bel_alloc2 w (.cells #[.bool ng, .slice ao n cap, .int .i64 e] 37) (.cells #[.bool false, .slice none 0 0, .int .i64 0] 37)
  have HB : Hid (e + l < -1048576 ∨ 1048576 < e + l ∨ P 2000 ≤ val d n / 2 ^ l) := hbad
  clear hbad
  go_enter Tryz.func69, Tryz.ntmps69
  go_wp2_with fail
  refine (trim_any _ _ _ _ _ hR).mono ?_
  rintro r w1 ⟨t, ht, htop, hz, rfl, rfl⟩
  obtain ⟨hN, hv⟩ := nrm_of_top hd ht htop hz
  have ht0 : t ≠ 0 := by rintro rfl; have := (val_zero hN).2 rfl; omega
  rw [show cutV ao t cap = .slice ao t cap by unfold cutV; rw [if_neg ht0]]
  have hn0 : ((t : Int) == 0) = false := by simp; omega
  obtain ⟨bb, fb, rfl, hbb, hcb⟩ := h.spot (by omega)
  have hRt : Row ((w.alloc (.cells #[.bool ng, .slice (some ⟨bb, fb, none⟩) n cap, .int .i64 e] 37)).alloc (.cells #[.bool false, .slice none 0 0, .int .i64 0] 37)) (some ⟨bb, fb, none⟩) t cap d := ⟨by have := h.le; omega, h.max, fun hx => by simp at hx, fun _ => by
    obtain ⟨b', f', e', q1, q2⟩ := hR.spot (by omega)
    exact ⟨b', f', e', q1, fun i hi => q2 i (by omega)⟩⟩
  go_wp2_with fail
  refine (lowest_any _ _ _ _ _ hRt hN.1 (by omega) (hT.keeps hb1)).mono ?_
  rintro r w1 ⟨lo, rfl, hlo, rfl⟩
  rw [hv] at hlo
  obtain ⟨k, rfl, hk⟩ := lowA_pos hlo h0
  obtain rfl := low_unique hk hl
  have HL : Hid (IsLow (val d n) k) := hl
  clear hlo hk hl
  by_cases c0 : e < -1048576 - k
  · go_wp2
    exact ⟨rfl, rfl, hb1⟩
  · by_cases c1 : 1048576 - k < e
    · go_wp2
      exact ⟨rfl, rfl, hb1⟩
    · have hbl : 60000 < (blen (val d n) : Int) - k := by
        obtain ⟨_, _, c⟩ := isLow_odd HL.out h0
        have h2 : P 2000 ≤ val d n / 2 ^ k := by rcases HB.out with x | x | x <;> first | omega | exact x
        have : P 2000 * 2 ^ k ≤ (val d n / 2 ^ k) * 2 ^ k := Int.mul_le_mul_of_nonneg_right h2 (Int.le_of_lt (two_pos k))
        rw [c, P_two, ← Int.pow_add] at this
        have := blen_ge this
        omega
      go_wp2_with fail
      refine (bitLength_any _ _ _ _ _ hRt hN (by omega)).mono ?_
      rw [hv]
      rintro r w1 ⟨rfl, rfl⟩
      have hb30 : blen (val d n) ≤ 30 * n := blen_le (by rw [← P_two]; exact val_lt hd)
      go_wp2
      exact ⟨rfl, rfl, hb1⟩
end Go.Proofs.YtcpjdgfnblkfpaaGreatDoor
