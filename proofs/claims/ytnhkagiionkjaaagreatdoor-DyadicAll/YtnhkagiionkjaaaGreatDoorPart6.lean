/-
  Parts of the proof, one behind another.
-/
import Derived.Test.YtnhkagiionkjaaaGreatDoorPart5
import Derived.Deep.RegionWith
import Derived.WalkLawsBesides
import Derived.Test.YtnhkagiionkjaaaGreatDoorPart4
import Derived.Test.YtnhkagiionkjaaaGreatDoorPart2
import Derived.Deep.LoopGhost
/-
  Package dyadic: settle, by its contract: the one form of a number, or it gives up.
-/
namespace Go.Proofs.YtnhkagiionkjaaaGreatDoor
open Go Go.RowKit Go.Proofs.YtnhkagiionkjaaaGreatDoor.M
set_option linter.unusedSimpArgs false
set_option linter.unusedVariables false

theorem lowA_pos {V l : Int} (h : LowA V l) (h0 : 0 < V) : ∃ k : Nat, l = k ∧ IsLow V k := by
  rcases h with ⟨h1, _⟩ | h
  · omega
  · exact h
theorem isLow_lt {d : Nat → Int} {n k : Nat} (hd : Dig d n) (h0 : 0 < val d n) (h : IsLow (val d n) k) : k < 30 * n := by
  have h1 := val_lt hd
  rw [P_two] at h1
  obtain ⟨a, b, c⟩ := isLow_odd h h0
  have h2 : (1 : Int) * 2 ^ k ≤ val d n / 2 ^ k * 2 ^ k := Int.mul_le_mul_of_nonneg_right (by omega) (Int.le_of_lt (two_pos k))
  exact two_lt_iff (by omega)
/-- What is answered, when a result's own variable is written behind it. -/
theorem ans_res {w W w3 : World} {V : Int} {v : Value} (hv : Ans W w3 V v) (hb : Below w.heap.size w W) {g : Nat} (h0 : w.heap.size ≤ g) (h1 : g < W.heap.size) (a b c : Value) :
    Ans w (((w3.setCell ⟨g, 0, none⟩ a).setCell ⟨g, 1, none⟩ b).setCell ⟨g, 2, none⟩ c) V v := by
  obtain ⟨t, d, hO, hN, hV, hB⟩ := hv
  refine ⟨t, d, ?_, hN, hV, ?_⟩
  · exact (((hO.set_below (a := ⟨g, 0, none⟩) h1 a).set_below (a := ⟨g, 1, none⟩) h1 b).set_below (a := ⟨g, 2, none⟩) h1 c).lower hb.size
  · exact (((hb.trans (hB.mono hb.size)).setCell (p := ⟨g, 0, none⟩) h0 a).setCell (p := ⟨g, 1, none⟩) h0 b).setCell (p := ⟨g, 2, none⟩) h0 c
set_option maxHeartbeats 1000000 in
theorem settle_zero (ng : Bool) (ao : Option Addr) (n cap : Nat) (d : Nat → Int) (e : Int) (w : World) (h : Row w ao n cap d) (hd : Dig d n) (h0 : val d n = 0) :
    Calls Tryz.prog 53 #[.agg #[.bool ng, .slice ao n cap, .int .i64 e]] w fun r w' => r = .returned zeroV ∧ Below w.heap.size w w' := by
  have hR := h.keeps (bel_alloc2 w (.cells #[.bool ng, .slice ao n cap, .int .i64 e] 25) (.cells #[.bool false, .slice none 0 0, .int .i64 0] 25))
  go_enter Tryz.func53, Tryz.ntmps53
  go_wp2_with fail
  refine (trim_any _ _ _ _ _ hR).mono ?_
  rintro r w1 ⟨t, ht, htop, hz, rfl, rfl⟩
  obtain ⟨hN, hv⟩ := nrm_of_top hd ht htop hz
  have ht0 : t = 0 := (val_zero hN).1 (by rw [hv]; exact h0)
  subst ht0
  rw [show cutV ao 0 cap = .slice none 0 0 from rfl]
  go_wp2
  refine bodyPost_ret (v := zeroV) (by simp [results, Tryz.results53, go_sem, zeroV]) rfl ⟨rfl, ?_⟩
  exact bel_alloc2 _ _ _
set_option maxRecDepth 100000 in
set_option maxHeartbeats 4000000 in
theorem settle_yes (ng : Bool) (ao : Option Addr) (n cap : Nat) (d : Nat → Int) (e : Int) (w : World) (h : Row w ao n cap d) (hd : Dig d n) (hn : n ≤ 100000) (hT : Tab w) (h0 : 0 < val d n) (l : Nat) (hl : IsLow (val d n) l)
    (he0 : -1048576 ≤ e + l) (he1 : e + l ≤ 1048576) (hs : val d n / 2 ^ l < P 2000) :
    Calls Tryz.prog 53 #[.agg #[.bool ng, .slice ao n cap, .int .i64 e]] w fun r w' => ∃ s, r = .returned (.agg #[.bool ng, s, .int .i64 (e + l)]) ∧ Ans w w' (val d n / 2 ^ l) s := by
  have hR := h.keeps (bel_alloc2 w (.cells #[.bool ng, .slice ao n cap, .int .i64 e] 25) (.cells #[.bool false, .slice none 0 0, .int .i64 0] 25))
  have hln := isLow_lt hd h0 hl
  have hb1 := bel_alloc2 w (.cells #[.bool ng, .slice ao n cap, .int .i64 e] 25) (.cells #[.bool false, .slice none 0 0, .int .i64 0] 25)
  go_enter Tryz.func53, Tryz.ntmps53
  go_wp2_with fail
  refine (trim_any _ _ _ _ _ hR).mono ?_
  rintro r w1 ⟨t, ht, htop, hz, rfl, rfl⟩
  obtain ⟨hN, hv⟩ := nrm_of_top hd ht htop hz
  have ht0 : t ≠ 0 := by rintro rfl; have := (val_zero hN).2 rfl; omega
  rw [show cutV ao t cap = .slice ao t cap by unfold cutV; rw [if_neg ht0]]
  have hn0 : ((t : Int) == 0) = false := by simp; omega
  obtain ⟨bb, fb, rfl, hbb, hcb⟩ := h.spot (by omega)
  have hRt : Row ((w.alloc (.cells #[.bool ng, .slice (some ⟨bb, fb, none⟩) n cap, .int .i64 e] 25)).alloc (.cells #[.bool false, .slice none 0 0, .int .i64 0] 25)) (some ⟨bb, fb, none⟩) t cap d := ⟨by have := h.le; omega, h.max, fun hx => by simp at hx, fun _ => by
    obtain ⟨b', f', e', q1, q2⟩ := hR.spot (by omega)
    exact ⟨b', f', e', q1, fun i hi => q2 i (by omega)⟩⟩
  have hbl : blen (val d n) ≤ 60000 + l := by
    refine blen_le ?_
    obtain ⟨_, _, c⟩ := isLow_odd hl h0
    have : (val d n / 2 ^ l) * 2 ^ l < P 2000 * 2 ^ l := Int.mul_lt_mul_of_pos_right hs (two_pos l)
    rw [c, P_two, ← Int.pow_add] at this
    exact this
  have HS : Hid (val d n / 2 ^ l < P 2000) := hs
  clear hs
  go_wp2_with fail
  refine (lowest_any _ _ _ _ _ hRt hN.1 (by omega) (hT.keeps hb1)).mono ?_
  rintro r w1 ⟨lo, rfl, hlo, rfl⟩
  rw [hv] at hlo
  obtain ⟨k, rfl, hk⟩ := lowA_pos hlo h0
  obtain rfl := low_unique hk hl
  have HL : Hid (IsLow (val d n) k) := hl
  clear hlo hk hl
  have HV : Hid (val d t = val d n) := hv
  go_wp2_with fail
  refine (bitLength_any _ _ _ _ _ hRt hN (by omega)).mono ?_
  rw [hv]
  rintro r w1 ⟨rfl, rfl⟩
  go_wp2_with fail
  have hwr : IntKind.i64.wrap (e + (k : Int)) = e + k := by rw [wrap_i64_eq]; omega
  have hb2 : Below w.heap.size w ((w.alloc (.cells #[.bool ng, .slice (some ⟨bb, fb, none⟩) n cap, .int .i64 e] 25)).alloc (.cells #[.bool false, .slice none 0 0, .int .i64 0] 25)).drew := hb1.drew
  have q0 : ((w.alloc (.cells #[.bool ng, .slice (some ⟨bb, fb, none⟩) n cap, .int .i64 e] 25)).alloc (.cells #[.bool false, .slice none 0 0, .int .i64 0] 25)).drew.heap[w.heap.size]? = some (.cells #[.bool ng, .slice (some ⟨bb, fb, none⟩) n cap, .int .i64 e] 25) := heap_a2 _ _ _
  have q1 : ((w.alloc (.cells #[.bool ng, .slice (some ⟨bb, fb, none⟩) n cap, .int .i64 e] 25)).alloc (.cells #[.bool false, .slice none 0 0, .int .i64 0] 25)).drew.heap[w.heap.size + 1]? = some (.cells #[.bool false, .slice none 0 0, .int .i64 0] 25) := heap_b2 _ _ _
  have qs : ((w.alloc (.cells #[.bool ng, .slice (some ⟨bb, fb, none⟩) n cap, .int .i64 e] 25)).alloc (.cells #[.bool false, .slice none 0 0, .int .i64 0] 25)).drew.heap.size = w.heap.size + 2 := size2 _ _ _
  go_region_with (go_at_call 91; refine (lower_any _ _ _ k d _ hRt.drew hN.1 (by omega) (by omega)).mono ?_; rintro r w3 ⟨v, rfl, hv⟩; obtain ⟨vo, vn, vc, rfl⟩ := hv.num.shape; have g0 := (hv.below.block w.heap.size (by omega)).trans q0; have g1 := (hv.below.block (w.heap.size + 1) (by omega)).trans q1; have k0 := blkC g0 0 rfl; have k2 := blkC g0 2 rfl; have k3 := blkC g1 0 rfl; have k4 := blkC g1 1 rfl; have k5 := blkC g1 2 rfl; have f0 := blkF g1 0; have f1 := blkF g1 1; have f2 := blkF g1 2; have hvv := hv.from hb2)
  all_goals go_wp2
  all_goals refine bodyPost_ret (v := .agg #[.bool ng, .slice vo vn vc, .int .i64 (e + k)]) (by simp [results, Tryz.results53, go_sem, k3, k4, k5, hwr]) rfl ⟨_, rfl, ?_⟩
  all_goals (rw [← HV.out]; exact ans_res (g := w.heap.size + 1) hv hb2 (Nat.le_succ _) (by omega) _ _ _)
set_option maxRecDepth 100000 in
set_option maxHeartbeats 1000000 in
theorem settle_no (ng : Bool) (ao : Option Addr) (n cap : Nat) (d : Nat → Int) (e : Int) (w : World) (h : Row w ao n cap d) (hd : Dig d n) (hn : n ≤ 100000) (hT : Tab w) (h0 : 0 < val d n) (l : Nat) (hl : IsLow (val d n) l)
    (hbad : e + l < -1048576 ∨ 1048576 < e + l ∨ P 2000 ≤ val d n / 2 ^ l) :
    Calls Tryz.prog 53 #[.agg #[.bool ng, .slice ao n cap, .int .i64 e]] w fun r w' => r = .panicked [{ v := .iface 41 (.int .i64 2), recovered := false }] ∧ Below w.heap.size w w' := by
  have hR := h.keeps (bel_alloc2 w (.cells #[.bool ng, .slice ao n cap, .int .i64 e] 25) (.cells #[.bool false, .slice none 0 0, .int .i64 0] 25))
  have hln := isLow_lt hd h0 hl
  have hb1 := bel_alloc2 w (.cells #[.bool ng, .slice ao n cap, .int .i64 e] 25) (.cells #[.bool false, .slice none 0 0, .int .i64 0] 25)
  have HB : Hid (e + l < -1048576 ∨ 1048576 < e + l ∨ P 2000 ≤ val d n / 2 ^ l) := hbad
  clear hbad
  go_enter Tryz.func53, Tryz.ntmps53
  go_wp2_with fail
  refine (trim_any _ _ _ _ _ hR).mono ?_
  rintro r w1 ⟨t, ht, htop, hz, rfl, rfl⟩
  obtain ⟨hN, hv⟩ := nrm_of_top hd ht htop hz
  have ht0 : t ≠ 0 := by rintro rfl; have := (val_zero hN).2 rfl; omega
  rw [show cutV ao t cap = .slice ao t cap by unfold cutV; rw [if_neg ht0]]
  have hn0 : ((t : Int) == 0) = false := by simp; omega
  obtain ⟨bb, fb, rfl, hbb, hcb⟩ := h.spot (by omega)
  have hRt : Row ((w.alloc (.cells #[.bool ng, .slice (some ⟨bb, fb, none⟩) n cap, .int .i64 e] 25)).alloc (.cells #[.bool false, .slice none 0 0, .int .i64 0] 25)) (some ⟨bb, fb, none⟩) t cap d := ⟨by have := h.le; omega, h.max, fun hx => by simp at hx, fun _ => by
    obtain ⟨b', f', e', q1, q2⟩ := hR.spot (by omega)
    exact ⟨b', f', e', q1, fun i hi => q2 i (by omega)⟩⟩
  go_wp2_with fail
  refine (lowest_any _ _ _ _ _ hRt hN.1 (by omega) (hT.keeps hb1)).mono ?_
  rintro r w1 ⟨lo, rfl, hlo, rfl⟩
  rw [hv] at hlo
  obtain ⟨k, rfl, hk⟩ := lowA_pos hlo h0
  obtain rfl := low_unique hk hl
  have HL : Hid (IsLow (val d n) k) := hl
  clear hlo hk hl
  by_cases c0 : e < -1048576 - k
  · go_wp2
    exact ⟨rfl, rfl, hb1⟩
  · by_cases c1 : 1048576 - k < e
    · go_wp2
      exact ⟨rfl, rfl, hb1⟩
    · have hbl : 60000 < (blen (val d n) : Int) - k := by
        obtain ⟨_, _, c⟩ := isLow_odd HL.out h0
        have h2 : P 2000 ≤ val d n / 2 ^ k := by rcases HB.out with x | x | x <;> first | omega | exact x
        have : P 2000 * 2 ^ k ≤ (val d n / 2 ^ k) * 2 ^ k := Int.mul_le_mul_of_nonneg_right h2 (Int.le_of_lt (two_pos k))
        rw [c, P_two, ← Int.pow_add] at this
        have := blen_ge this
        omega
      go_wp2_with fail
      refine (bitLength_any _ _ _ _ _ hRt hN (by omega)).mono ?_
      rw [hv]
      rintro r w1 ⟨rfl, rfl⟩
      have hb30 : blen (val d n) ≤ 30 * n := blen_le (by rw [← P_two]; exact val_lt hd)
      go_wp2
      exact ⟨rfl, rfl, hb1⟩
end Go.Proofs.YtnhkagiionkjaaaGreatDoor

/-
  Package dyadic: settle by the number that it is about; Make.
-/
namespace Go.Proofs.YtnhkagiionkjaaaGreatDoor
open Go Go.RowKit Go.Proofs.YtnhkagiionkjaaaGreatDoor.M
set_option linter.unusedSimpArgs false
set_option linter.unusedVariables false

theorem low_ex : ∀ (n : Nat) (M : Int), M.natAbs ≤ n → 0 < M → ∃ l, IsLow M l := by
  intro n
  induction n with
  | zero => intro M h h0; omega
  | succ n ih =>
    intro M h h0
    by_cases hp : M % 2 = 1
    · exact ⟨0, M / 2, by rw [Int.pow_zero]; omega⟩
    · obtain ⟨l, m, hm⟩ := ih (M / 2) (by omega) (by omega)
      refine ⟨l + 1, m, ?_⟩
      rw [Int.pow_succ, ← Int.mul_assoc, ← hm]; omega
theorem isLow_ex {M : Int} (h : 0 < M) : ∃ l, IsLow M l := low_ex M.natAbs M (Nat.le_refl _) h
/-- The panic of a number too long. -/
def gaveUp : Ending := .panicked [{ v := .iface 41 (.int .i64 2), recovered := false }]
theorem settle_ok {ng : Bool} {ao : Option Addr} {n cap : Nat} {d : Nat → Int} {e : Int} {w : World} (h : Row w ao n cap d) (hd : Dig d n) (hn : n ≤ 100000) (hT : Tab w) (he : -4194304 ≤ e) {V : Int} (hV : V = sg ng (val d n) * pw e) (hok : Dok V) :
    Calls Tryz.prog 53 #[.agg #[.bool ng, .slice ao n cap, .int .i64 e]] w fun r w' => ∃ v, r = .returned v ∧ DAns w w' V v := by
  by_cases h0 : val d n = 0
  · refine (settle_zero ng ao n cap d e w h hd h0).mono ?_
    rintro r w' ⟨rfl, hb⟩
    exact ⟨_, rfl, by rw [hV, h0, sg_zero, Int.zero_mul]; exact DAns.zero hb⟩
  · have hp : 0 < val d n := by have := val_nonneg hd; omega
    obtain ⟨l, hl⟩ := isLow_ex hp
    have hy := Dy.of ng hl hp he
    rw [← hV] at hy
    obtain ⟨o1, o2, o3⟩ := hy.ok.1 hok
    refine (settle_yes ng ao n cap d e w h hd hn hT hp l hl o2 o3 o1).mono ?_
    rintro r w' ⟨s, rfl, hA⟩
    exact ⟨_, rfl, _, _, _, _, rfl, hy, hA⟩
theorem settle_long {ng : Bool} {ao : Option Addr} {n cap : Nat} {d : Nat → Int} {e : Int} {w : World} (h : Row w ao n cap d) (hd : Dig d n) (hn : n ≤ 100000) (hT : Tab w) (he : -4194304 ≤ e) {V : Int} (hV : V = sg ng (val d n) * pw e) (hok : ¬ Dok V) :
    Calls Tryz.prog 53 #[.agg #[.bool ng, .slice ao n cap, .int .i64 e]] w fun r w' => r = gaveUp ∧ Below w.heap.size w w' := by
  by_cases h0 : val d n = 0
  · exact absurd (by rw [hV, h0, sg_zero, Int.zero_mul]; exact dok_zero) hok
  · have hp : 0 < val d n := by have := val_nonneg hd; omega
    obtain ⟨l, hl⟩ := isLow_ex hp
    have hy := Dy.of ng hl hp he
    rw [← hV] at hy
    have hno := fun x => hok (hy.ok.2 x)
    refine settle_no ng ao n cap d e w h hd hn hT hp l hl ?_
    by_cases c1 : e + l < -1048576
    · exact .inl c1
    · by_cases c2 : 1048576 < e + l
      · exact .inr (.inl c2)
      · exact .inr (.inr (by
          by_cases c3 : P 2000 ≤ val d n / 2 ^ l
          · exact c3
          · exact absurd ⟨by omega, by omega, by omega⟩ hno))
/-- Far below: whatever the list (of at most 100,000 digits), it gives up. -/
theorem settle_deep {ng : Bool} {ao : Option Addr} {n cap : Nat} {d : Nat → Int} {e : Int} {w : World} (h : Row w ao n cap d) (hd : Dig d n) (hn : n ≤ 100000) (hT : Tab w) (he : e < -4194304) (h0 : 0 < val d n) :
    Calls Tryz.prog 53 #[.agg #[.bool ng, .slice ao n cap, .int .i64 e]] w fun r w' => r = gaveUp ∧ Below w.heap.size w w' := by
  obtain ⟨l, hl⟩ := isLow_ex h0
  have := isLow_lt hd h0 hl
  exact settle_no ng ao n cap d e w h hd hn hT h0 l hl (.inl (by omega))
theorem DFit.shape {w w' : World} {V er : Int} {v : Value} (h : DFit w w' V v er) : ∃ ng so sn sc e, v = .agg #[.bool ng, .slice so sn sc, .int .i64 e] := by
  rcases h.2 with ⟨_, _, ng, s, m, e, h1, _, hA⟩ | ⟨_, _, h1⟩
  · obtain ⟨so, sn, sc, rfl⟩ := hA.num.shape
    exact ⟨_, _, _, _, _, h1⟩
  · exact ⟨_, _, _, _, _, h1⟩
theorem dans_res3 {w W w3 : World} {V : Int} {v : Value} (hv : DAns W w3 V v) (hb : Below w.heap.size w W) {g : Nat} (h0 : w.heap.size ≤ g) (h1 : g < W.heap.size) (a b c : Value) :
    DAns w (((w3.setCell ⟨g, 0, none⟩ a).setCell ⟨g, 1, none⟩ b).setCell ⟨g, 2, none⟩ c) V v := by
  obtain ⟨ng, s, m, e, h2, h3, hA⟩ := hv
  exact ⟨ng, s, m, e, h2, h3, ans_res hA hb h0 h1 a b c⟩
theorem dfit_res {w W w3 : World} {V er : Int} {v : Value} (hv : DFit W w3 V v er) (hb : Below w.heap.size w W) {g : Nat} (h0 : w.heap.size ≤ g) (h1 : g < W.heap.size) (a b c : Value) :
    DFit w (((w3.setCell ⟨g, 0, none⟩ a).setCell ⟨g, 1, none⟩ b).setCell ⟨g, 2, none⟩ c) V v er := by
  refine ⟨(((hb.trans (hv.1.mono hb.size)).setCell (p := ⟨g, 0, none⟩) h0 a).setCell (p := ⟨g, 1, none⟩) h0 b).setCell (p := ⟨g, 2, none⟩) h0 c, ?_⟩
  rcases hv.2 with ⟨o1, o2, o3⟩ | o
  · exact .inl ⟨o1, o2, dans_res3 o3 hb h0 h1 a b c⟩
  · exact .inr o
/-- What a call tells. -/
theorem told_fit {F : Nat} {cap : Array Value} {w : World} {V : Int} (hE : ∀ w, (callFunc F cap).run Tryz.prog w = .ok (.enter F cap) w)
    (hy : Dok V → ∀ W, Below w.heap.size w W → Calls Tryz.prog F cap W fun r W' => ∃ v, r = .returned v ∧ DAns W W' V v)
    (hn : ¬ Dok V → ∀ W, Below w.heap.size w W → Calls Tryz.prog F cap W fun r W' => r = gaveUp ∧ Below W.heap.size W W') :
    Calls Tryz.prog 51 #[.func (.func F) #[] cap] w fun r w' => ∃ v er, r = .returned (.tuple #[v, .int .i64 er]) ∧ DFit w w' V v er := by
  by_cases h : Dok V
  · refine (told_yes F cap w V hE (hy h)).mono ?_
    rintro r w' ⟨v, rfl, hD⟩
    exact ⟨v, 0, rfl, hD.below, .inl ⟨h, rfl, hD⟩⟩
  · refine (told_no F cap w hE (hn h)).mono ?_
    rintro r w' ⟨rfl, hb⟩
    exact ⟨_, 2, rfl, hb, .inr ⟨h, rfl, rfl⟩⟩
theorem heap_a1 (w : World) (a : Obj) : (w.alloc a).heap[w.heap.size]? = some a := by
  show (w.heap.push a)[w.heap.size]? = some a
  simp
theorem size1 (w : World) (a : Obj) : (w.alloc a).heap.size = w.heap.size + 1 := by
  show (w.heap.push a).size = _
  simp
theorem cell_keeps {w w' : World} {p : Addr} {v : Value} (h : w.cell? p = some v) (hb : Below w.heap.size w w') : w'.cell? p = some v :=
  (hb.cell (World.block_lt_of_cell? w _ h)).trans h
set_option maxRecDepth 100000 in
theorem make1_yes (ng : Bool) (ao : Option Addr) (n cap : Nat) (e : Int) (p0 p1 p2 : Addr) (w : World) (c0 : w.cell? p0 = some (.bool ng)) (c1 : w.cell? p1 = some (.slice ao n cap)) (c2 : w.cell? p2 = some (.int .i64 e)) {V : Int}
    (h : ∀ W, Below w.heap.size w W → Calls Tryz.prog 53 #[.agg #[.bool ng, .slice ao n cap, .int .i64 e]] W fun r W' => ∃ v, r = .returned v ∧ DAns W W' V v) :
    Calls Tryz.prog 52 #[.pointer (some p0), .pointer (some p1), .pointer (some p2)] w fun r w' => ∃ v, r = .returned v ∧ DAns w w' V v := by
  have hb := bel_alloc w (.cells #[.bool false, .slice none 0 0, .int .i64 0] 25)
  have k0 := cell_keeps c0 hb
  have k1 := cell_keeps c1 hb
  have k2 := cell_keeps c2 hb
  go_enter Tryz.func52, Tryz.ntmps52
  go_wp2_with fail
  refine (h _ hb).mono ?_
  rintro r W' ⟨v, rfl, hD⟩
  have hb2 := hD.below
  obtain ⟨ng', s, m, e', rfl, hy, hA⟩ := id hD
  obtain ⟨so, sn, sc, rfl⟩ := hA.num.shape
  have q0 := (hb2.block w.heap.size (by rw [size1]; omega)).trans (heap_a1 _ _)
  have x0 := blkC q0 0 rfl
  have x1 := blkC q0 1 rfl
  have x2 := blkC q0 2 rfl
  have z0 := blkF q0 0
  have z1 := blkF q0 1
  have z2 := blkF q0 2
  go_wp2
  refine bodyPost_ret (v := .agg #[.bool ng', .slice so sn sc, .int .i64 e']) (by simp [results, Tryz.results52, go_sem, x0, x1, x2]) rfl ⟨_, rfl, ?_⟩
  exact dans_res3 (g := w.heap.size) hD hb (Nat.le_refl _) (by rw [size1]; omega) _ _ _
set_option maxRecDepth 100000 in
theorem make1_no (ng : Bool) (ao : Option Addr) (n cap : Nat) (e : Int) (p0 p1 p2 : Addr) (w : World) (c0 : w.cell? p0 = some (.bool ng)) (c1 : w.cell? p1 = some (.slice ao n cap)) (c2 : w.cell? p2 = some (.int .i64 e))
    (h : ∀ W, Below w.heap.size w W → Calls Tryz.prog 53 #[.agg #[.bool ng, .slice ao n cap, .int .i64 e]] W fun r W' => r = gaveUp ∧ Below W.heap.size W W') :
    Calls Tryz.prog 52 #[.pointer (some p0), .pointer (some p1), .pointer (some p2)] w fun r w' => r = gaveUp ∧ Below w.heap.size w w' := by
  have hb := bel_alloc w (.cells #[.bool false, .slice none 0 0, .int .i64 0] 25)
  have k0 := cell_keeps c0 hb
  have k1 := cell_keeps c1 hb
  have k2 := cell_keeps c2 hb
  go_enter Tryz.func52, Tryz.ntmps52
  go_wp2_with fail
  refine (h _ hb).mono ?_
  rintro r W' ⟨rfl, hb2⟩
  exact ⟨rfl, rfl, bel_trans hb hb2⟩
theorem size_alloc (w : World) (a : Obj) : (w.alloc a).heap.size = w.heap.size + 1 := size1 w a
theorem heap_past {w : World} {k : Nat} {x : Obj} (o : Obj) (h : w.heap[k]? = some x) : (w.alloc o).heap[k]? = some x :=
  (Below.heap_alloc w o k (Array.getElem?_eq_some_iff.1 h).1).trans h
theorem heap_new {w : World} {k : Nat} (o : Obj) (h : k = w.heap.size) : (w.alloc o).heap[k]? = some o := by rw [h]; exact heap_a1 w o
theorem h4_0 (w : World) (a b c d : Obj) : ((((w.alloc a).alloc b).alloc c).alloc d).heap[w.heap.size]? = some a := heap_past _ (heap_past _ (heap_past _ (heap_a1 w a)))
theorem h4_1 (w : World) (a b c d : Obj) : ((((w.alloc a).alloc b).alloc c).alloc d).heap[w.heap.size + 1]? = some b := heap_past _ (heap_past _ (heap_new _ (by rw [size_alloc])))
theorem h4_2 (w : World) (a b c d : Obj) : ((((w.alloc a).alloc b).alloc c).alloc d).heap[w.heap.size + 2]? = some c := heap_past _ (heap_new _ (by rw [size_alloc, size_alloc]))
theorem h4_3 (w : World) (a b c d : Obj) : ((((w.alloc a).alloc b).alloc c).alloc d).heap[w.heap.size + 3]? = some d := heap_new _ (by rw [size_alloc, size_alloc, size_alloc])
theorem h3_0 (w : World) (a b c : Obj) : (((w.alloc a).alloc b).alloc c).heap[w.heap.size]? = some a := heap_past _ (heap_past _ (heap_a1 w a))
theorem h3_1 (w : World) (a b c : Obj) : (((w.alloc a).alloc b).alloc c).heap[w.heap.size + 1]? = some b := heap_past _ (heap_new _ (by rw [size_alloc]))
theorem h3_2 (w : World) (a b c : Obj) : (((w.alloc a).alloc b).alloc c).heap[w.heap.size + 2]? = some c := heap_new _ (by rw [size_alloc, size_alloc])
theorem bel_a3 (w : World) (a b c : Obj) : Below w.heap.size w (((w.alloc a).alloc b).alloc c) := (bel_alloc2 w a b).alloc (by rw [size2]; omega) _
theorem size3 (w : World) (a b c : Obj) : (((w.alloc a).alloc b).alloc c).heap.size = w.heap.size + 3 := by rw [size_alloc, size2]
theorem bel_a4 (w : World) (a b c d : Obj) : Below w.heap.size w ((((w.alloc a).alloc b).alloc c).alloc d) := (bel_a3 w a b c).alloc (by rw [size3]; omega) _
theorem size4 (w : World) (a b c d : Obj) : ((((w.alloc a).alloc b).alloc c).alloc d).heap.size = w.heap.size + 4 := by rw [size_alloc, size3]
set_option maxRecDepth 100000 in
theorem dmake_bad (ng : Bool) (ao : Option Addr) (n cap : Nat) (d : Nat → Int) (e : Int) (w : World) (h : Row w ao n cap d) (ok : okB d n = false) :
    Calls Tryz.prog 12 #[.bool ng, .slice ao n cap, .int .i64 e] w fun r w' => r = .returned (.tuple #[zeroV, .int .i64 11]) ∧ Below w.heap.size w w' := by
  have hmf : ∀ (fn : Fn) (first cap : Array Value) (w : World), (Instr.makeFunc fn first cap).run Tryz.prog w = .ok (.func fn first cap) w := fun _ _ _ _ => rfl
  go_enter Tryz.func12, Tryz.ntmps12
  go_wp2_with fail
  refine (valid_any _ _ _ _ _ (h.keeps (bel_a4 _ _ _ _ _))).mono ?_
  rintro r w1 ⟨rfl, rfl⟩
  go_wp2
  refine bodyPost_ret (v := .tuple #[zeroV, .int .i64 11]) (by simp [results, Tryz.results12, go_sem, zeroV]) rfl ⟨rfl, ?_⟩
  exact bel_a4 _ _ _ _ _
set_option maxRecDepth 100000 in
theorem dmake_ok (ng : Bool) (ao : Option Addr) (n cap : Nat) (d : Nat → Int) (e : Int) (w : World) (h : Row w ao n cap d) (ok : okB d n = true) (hT : Tab w) (he : -4194304 ≤ e) {V : Int} (hV : V = sg ng (val d n) * pw e) :
    Calls Tryz.prog 12 #[.bool ng, .slice ao n cap, .int .i64 e] w fun r w' => ∃ v er, r = .returned (.tuple #[v, .int .i64 er]) ∧ DFit w w' V v er := by
  have hmf : ∀ (fn : Fn) (first cap : Array Value) (w : World), (Instr.makeFunc fn first cap).run Tryz.prog w = .ok (.func fn first cap) w := fun _ _ _ _ => rfl
  obtain ⟨hn, hN⟩ := okB_out ok
  have hE : ∀ (cap : Array Value) (w : World), (callFunc 52 cap).run Tryz.prog w = .ok (.enter 52 cap) w := by
    intro cap w
    simp [go_sem]
  go_enter Tryz.func12, Tryz.ntmps12
  go_wp2_with fail
  refine (valid_any _ _ _ _ _ (h.keeps (bel_a4 _ _ _ _ _))).mono ?_
  rintro r w1 ⟨rfl, rfl⟩
  go_wp2_with fail
  refine (told_fit (V := V) (hE _) (fun hok W hW => ?_) (fun hok W hW => ?_)).mono ?_
  · have hb := bel_trans (bel_a4 w _ _ _ _) hW
    have x0 := (hW.block w.heap.size (by rw [size4]; omega)).trans (h4_0 _ _ _ _ _)
    have x1 := (hW.block (w.heap.size + 1) (by rw [size4]; omega)).trans (h4_1 _ _ _ _ _)
    have x2 := (hW.block (w.heap.size + 2) (by rw [size4]; omega)).trans (h4_2 _ _ _ _ _)
    exact make1_yes ng ao n cap e _ _ _ W (blkC x0 0 rfl) (blkC x1 0 rfl) (blkC x2 0 rfl) fun W2 hW2 => settle_ok (h.keeps (bel_trans hb hW2)) hN.1 (by omega) (hT.keeps (bel_trans hb hW2)) he hV hok
  · have hb := bel_trans (bel_a4 w _ _ _ _) hW
    have x0 := (hW.block w.heap.size (by rw [size4]; omega)).trans (h4_0 _ _ _ _ _)
    have x1 := (hW.block (w.heap.size + 1) (by rw [size4]; omega)).trans (h4_1 _ _ _ _ _)
    have x2 := (hW.block (w.heap.size + 2) (by rw [size4]; omega)).trans (h4_2 _ _ _ _ _)
    exact make1_no ng ao n cap e _ _ _ W (blkC x0 0 rfl) (blkC x1 0 rfl) (blkC x2 0 rfl) fun W2 hW2 => settle_long (h.keeps (bel_trans hb hW2)) hN.1 (by omega) (hT.keeps (bel_trans hb hW2)) he hV hok
  rintro r w1 ⟨v, er, rfl, hF⟩
  obtain ⟨ng', so, sn, sc, e', rfl⟩ := hF.shape
  have q0 := (hF.1.block (w.heap.size + 3) (by rw [size4]; omega)).trans (h4_3 _ _ _ _ _)
  have x0 := blkC q0 0 rfl
  have x1 := blkC q0 1 rfl
  have x2 := blkC q0 2 rfl
  have z0 := blkF q0 0
  have z1 := blkF q0 1
  have z2 := blkF q0 2
  go_wp2
  refine bodyPost_ret (v := .tuple #[.agg #[.bool ng', .slice so sn sc, .int .i64 e'], .int .i64 er]) (by simp [results, Tryz.results12, go_sem, x0, x1, x2]) rfl ⟨_, _, rfl, ?_⟩
  exact dfit_res (g := w.heap.size + 3) hF (bel_a4 _ _ _ _ _) (by omega) (by rw [size4]; omega) _ _ _
end Go.Proofs.YtnhkagiionkjaaaGreatDoor

/-
  Package nat: Shl, Pow, by contracts: for every number, every exponent.
-/
namespace Go.Proofs.YtnhkagiionkjaaaGreatDoor
open Go Go.RowKit Go.Proofs.YtnhkagiionkjaaaGreatDoor.M
set_option linter.unusedSimpArgs false
set_option linter.unusedVariables false

theorem P2000_two : P 2000 = 2 ^ 60000 := P_two 2000
theorem shl_long {A : Int} {k : Nat} (hA : 0 < A) (h : 60000 < k + blen A) : P 2000 ≤ A * 2 ^ k := by
  obtain ⟨c1, c2⟩ := blen_pos hA
  rw [P2000_two]
  have h1 : (2 : Int) ^ 60000 ≤ 2 ^ (blen A - 1 + k) := two_le (by omega)
  rw [Int.pow_add] at h1
  exact Int.le_trans h1 (Int.mul_le_mul_of_nonneg_right c2 (Int.le_of_lt (two_pos k)))
theorem shl_short {A : Int} {k : Nat} (h : k + blen A ≤ 60000) : A * 2 ^ k < P 2000 := by
  rw [P2000_two]
  have h1 : (2 : Int) ^ (blen A + k) ≤ 2 ^ 60000 := two_le (by omega)
  rw [Int.pow_add] at h1
  have h2 : A * 2 ^ k < 2 ^ blen A * 2 ^ k := Int.mul_lt_mul_of_pos_right (blen_lt A) (two_pos k)
  exact Int.lt_of_lt_of_le h2 h1
theorem row_drewN {w : World} {ao : Option Addr} {n cap : Nat} {d : Nat → Int} (h : Row w ao n cap d) {q : Nat} : Row (w.drewN q) ao n cap d := h.keeps (bDrewN (bel_refl _) _)
theorem pow_small {A : Int} {k : Nat} (h0 : 0 ≤ A) (h1 : A < 2) (hk : 0 < k) : A ^ k = A := by
  rcases (show A = 0 ∨ A = 1 by omega) with rfl | rfl
  · exact Int.zero_pow (by omega)
  · exact Int.one_pow
theorem two_pow_pow (a b : Nat) : ((2 : Int) ^ a) ^ b = 2 ^ (a * b) := Int.pow_mul.symm
theorem pow_le_base {A B : Int} (h0 : 0 ≤ A) (h : A ≤ B) (k : Nat) : A ^ k ≤ B ^ k := by
  induction k with
  | zero => rw [Int.pow_zero, Int.pow_zero]; omega
  | succ k ih =>
    rw [Int.pow_succ, Int.pow_succ]
    exact Int.mul_le_mul ih h h0 (Int.pow_nonneg (by omega))
theorem pow_long {A : Int} {k L : Nat} (hL : 2 ^ (L - 1) ≤ A) (h : 59999 < (L - 1) * k) : P 2000 ≤ A ^ k := by
  rw [P2000_two]
  have h1 : (2 : Int) ^ 60000 ≤ 2 ^ ((L - 1) * k) := two_le (by omega)
  rw [← two_pow_pow] at h1
  exact Int.le_trans h1 (pow_le_base (Int.le_of_lt (two_pos _)) hL k)
theorem pow_fits {A : Int} {k L : Nat} (h0 : 0 ≤ A) (hL : A < 2 ^ L) (h1 : 2 ≤ L) (h : (L - 1) * k ≤ 59999) : A ^ k < P 5000 := by
  have hk : k ≤ 59999 := by
    have : 1 * k ≤ (L - 1) * k := Nat.mul_le_mul_right k (by omega)
    omega
  have h2 : L * k ≤ 119998 := by
    have : L * k = (L - 1) * k + k := by rw [← Nat.succ_mul]; congr 1; omega
    omega
  have h3 := pow_le_base h0 (Int.le_of_lt hL) k
  rw [two_pow_pow] at h3
  have h4 : (2 : Int) ^ (L * k) < 2 ^ 150000 := two_lt (by omega)
  rw [P_two]
  exact Int.lt_of_le_of_lt h3 h4
theorem clone_num {w : World} {ao : Option Addr} {n cap : Nat} {A : Int} (hx : Num w (.slice ao n cap) A) (hn : n ≤ 500000) :
    Calls Tryz.prog 101 #[.slice ao n cap] w fun e w' => ∃ v, e = .returned v ∧ Ans w w' A v := by
  obtain ⟨ao', n', ca', d, e1, hR, h2, rfl⟩ := hx
  simp only [Value.slice.injEq] at e1
  obtain ⟨rfl, rfl, rfl⟩ := e1
  refine (clone_any _ _ _ _ _ hR hn).mono ?_
  rintro e w' ⟨v, rfl, h1, hb⟩
  exact ⟨v, rfl, n, d, h1, h2, rfl, hb⟩
end Go.Proofs.YtnhkagiionkjaaaGreatDoor

/-
  The document's own answers (plumbref2): From, Bits, Bit, Shl, Shr, by contracts over the same values.
-/
namespace Go.Proofs.YtnhkagiionkjaaaGreatDoor
open Go Go.RowKit Go.Proofs.YtnhkagiionkjaaaGreatDoor.M
set_option linter.unusedSimpArgs false
set_option linter.unusedVariables false

theorem blen_half {x : Int} (h : 0 < x) : blen x = blen (x / 2) + 1 := by
  obtain ⟨h1, h2⟩ := blen_pos h
  have h3 := blen_lt x
  obtain ⟨k, hk⟩ : ∃ k, blen x = k + 1 := ⟨blen x - 1, by omega⟩
  rw [hk] at h2 h3 ⊢
  rw [Nat.add_sub_cancel] at h2
  rw [Int.pow_succ] at h3
  cases k with
  | zero =>
    have : x = 1 := by simp at h3 h2; omega
    subst this; decide
  | succ j =>
    rw [Int.pow_succ] at h2
    have e1 : (2 : Int) ^ j ≤ x / 2 := by omega
    have e2 : x / 2 < 2 ^ (j + 1) := by omega
    rw [blen_of e1 e2]
set_option maxHeartbeats 400000 in
theorem rfrom_any (V : Int) (w : World) (h0 : 0 ≤ V) (h1 : V < 9223372036854775808) :
    Calls Tryz.prog 66 #[.int .i64 V] w fun e w' => ∃ v, e = .returned v ∧ Ans w w' V v := by
  have HM : Hid (V < 9223372036854775808) := h1
  clear h1
  go_enter Tryz.func66, Tryz.ntmps66
  go_wp2
  go_loopw [0, 3] (fun i v wr => ∃ (x : Int) (k : Nat) (r : Nat → Int), i = .int .i64 x ∧ 0 ≤ x ∧ k ≤ 3 ∧ Out w.heap.size wr v k r ∧ Dig r k ∧ Hid (x * P k ≤ V) ∧ Hid (x = 0 → Top r k) ∧ Hid (val r k + x * P k = V) ∧ Below w.heap.size w wr) (fun i _ _ => (intOf i).toNat)
  case atStart => exact ⟨V, 0, fun _ => 0, rfl, h0, by omega, Out.nil _ _ _, fun i hi => by omega, by show _ ≤ _; show V * 1 ≤ V; omega, fun _ => .inl rfl, by show _ = _; show 0 + V * 1 = V; omega, bel_refl _⟩
  case round =>
    obtain ⟨x, k, r, rfl, hx, hk3, hO, hD, HB, HT, HV, hbw⟩ := hrel
    by_cases hp : 0 < x
    · have hk2 : k ≤ 2 := by
        by_cases e : k = 3
        · subst e
          have a := HB.out
          have b := HM.out
          have c : P 3 = 1073741824 * 1073741824 * 1073741824 := by decide
          have d : 1 * P 3 ≤ x * P 3 := Int.mul_le_mul_of_nonneg_right (by omega) (Int.le_of_lt (P_pos 3))
          omega
        · omega
      have hx2 : x ≤ 9223372036854775807 := by
        have a := HB.out
        have b := HM.out
        have c : x * 1 ≤ x * P k := Int.mul_le_mul_of_nonneg_left (by have := P_pos k; omega) (by omega)
        omega
      go_wp2_with (at_builtin; refine wpList_app rfl _ _ rfl w.heap.size _ k r rfl (hO.stays (bel_alloc _ _)) _ 1 1 (fun _ => x % 1073741824) rfl (row1 _ _ rfl) (by omega) (by have := hbw.size; simp; omega) ?_; intro v' w1 hO1 hg1)
      have hb1 : Below w.heap.size w w1 := (hbw.alloc hbw.size _).grown hg1 (by have := hbw.size; simp; omega) (own_ge hO)
      have hs := sum_step (c := 0) (x := x) (show val r k + 0 * P k = val r k by omega)
      rw [Int.zero_add] at hs
      go_roundw
      case rel => exact ⟨x / 1073741824, k + 1, upd r k (x % 1073741824), rfl, by omega, by omega, hO1.congr (cat_upd r k _), dig_upd2 hD (mod_dig _), by
          show _ ≤ _
          have a := HB.out
          rw [P_succ, show x / 1073741824 * (P k * 1073741824) = (x / 1073741824 * 1073741824) * P k by grind]
          have b : (x / 1073741824 * 1073741824) * P k ≤ x * P k := Int.mul_le_mul_of_nonneg_right (by omega) (Int.le_of_lt (P_pos k))
          omega, fun e => .inr (by rw [Nat.add_sub_cancel, upd_same]; omega), by show _ = _; rw [hs]; exact HV.out, hb1⟩
      case measure => simp [intOf]; omega
    · obtain rfl : x = 0 := by omega
      go_wp2
      go_ret
      exact ⟨_, rfl, k, r, hO, ⟨hD, HT.out (by first | rfl | trivial)⟩, by have := HV.out; omega, hbw⟩
end Go.Proofs.YtnhkagiionkjaaaGreatDoor

/-
  Package nat: small, combine, heads (what Lehmer's way is made of), by contracts.
-/
namespace Go.Proofs.YtnhkagiionkjaaaGreatDoor
open Go Go.RowKit Go.Proofs.YtnhkagiionkjaaaGreatDoor.M
set_option linter.unusedSimpArgs false
set_option linter.unusedVariables false

theorem val_mono {d : Nat → Int} {n m : Nat} (h : Dig d n) (hm : m ≤ n) : val d m ≤ val d n := by
  have e := val_split d m (n - m)
  rw [show m + (n - m) = n by omega] at e
  have a := val_nonneg (show Dig (fun i => d (m + i)) (n - m) from fun i hi => h (m + i) (by omega))
  have := Int.mul_nonneg (Int.le_of_lt (P_pos m)) a
  omega
set_option maxHeartbeats 400000 in
theorem small_any (ao : Option Addr) (n cap : Nat) (d : Nat → Int) (w : World) (h : Row w ao n cap d) (hd : Dig d n) (hn : n ≤ 3) (hv : val d n < 9223372036854775808) :
    Calls Tryz.prog 102 #[.slice ao n cap] w fun e w' => e = .returned (.int .i64 (val d n)) ∧ w' = w := by
  have hl := h.le
  have hm := h.max
  have HV : Hid (val d n < 9223372036854775808) := hv
  clear hv
  go_enter Tryz.func102, Tryz.ntmps102
  go_wp2
  go_loop [3, 7] (fun v i => ∃ k : Nat, k ≤ n ∧ i = .int .i64 k ∧ v = .int .i64 (val d k)) (fun _ i => n - (intOf i).toNat)
  case atStart => exact ⟨0, Nat.zero_le _, rfl, rfl⟩
  case round =>
    obtain ⟨k, hk, rfl, rfl⟩ := hrel
    by_cases hlt : k < n
    · obtain ⟨b, off, rfl, hb, hc⟩ := h.spot (by omega)
      have c := hc k hlt
      have dk := hd k hlt
      have v0 := val_nonneg (hd.le (show k ≤ n by omega))
      have v1 := val_lt (hd.le (show k ≤ n by omega))
      have m1 := val_mono hd (show k + 1 ≤ n by omega)
      have hv2 := HV.out
      rw [P_two] at v1
      have e1 : val d (k + 1) = val d k + d k * 2 ^ (30 * k) := by rw [val_succ, P_two]
      have m0 : 0 ≤ d k * 2 ^ (30 * k) := Int.mul_nonneg dk.1 (Int.le_of_lt (two_pos _))
      have hw : wrap64 (d k * 2 ^ (30 * k)) = d k * 2 ^ (30 * k) := IntWalk.wrap64_in _ ⟨by omega, by omega⟩
      have hor : bits .or .i64 (val d k) (d k * 2 ^ (30 * k)) = val d (k + 1) := (or_add _ _ _ v0 v1 dk.1 (by omega)).trans e1.symm
      clear e1 m0 m1 hv2 v0 v1
      go_wp2
      go_round
      case rel => exact ⟨k + 1, by omega, by go_num, rfl⟩
      case measure => simp [intOf]; omega
    · obtain rfl : k = n := by omega
      go_wp2
      go_ret
      exact ⟨rfl, rfl⟩

theorem mul_bnd {x y : Int} (hx : -1073741824 < x ∧ x < 1073741824) (hy : 0 ≤ y ∧ y < 1073741824) : -1152921504606846976 ≤ x * y ∧ x * y ≤ 1152921504606846976 := by
  have h1 : x * y ≤ 1073741824 * y := Int.mul_le_mul_of_nonneg_right (by omega) hy.1
  have h2 : -1073741824 * y ≤ x * y := Int.mul_le_mul_of_nonneg_right (by omega) hy.1
  constructor <;> omega
theorem small_ans {w w' : World} {V : Int} {v : Value} (h : Ans w w' V v) (hV : V < 1152921504606846976) :
    Calls Tryz.prog 102 #[v] w' fun e w'' => e = .returned (.int .i64 V) ∧ w'' = w' := by
  have hn := h.num
  obtain ⟨ao, n, cap, rfl⟩ := hn.shape
  have hl := hn.len (show V < P 2 from hV)
  obtain ⟨ao', n', cap', d, e, hR, h2, rfl⟩ := hn
  simp only [Value.slice.injEq] at e
  obtain ⟨rfl, rfl, rfl⟩ := e
  exact small_any _ _ _ _ _ hR h2.1 (by omega) (by omega)
end Go.Proofs.YtnhkagiionkjaaaGreatDoor

/-
  Package nat's calls that take one list and a number: Int, Bit at every number; what they answer on no number and on a negative one.
-/
namespace Go.Proofs.YtnhkagiionkjaaaGreatDoor
open Go Go.RowKit Go.Proofs.YtnhkagiionkjaaaGreatDoor.M
set_option linter.unusedSimpArgs false
set_option linter.unusedVariables false

/-- A bit, at every int. -/
def bitI (A n : Int) : Bool := if n < 0 then false else bitB A n.toNat
theorem bitI_neg {A n : Int} (h : n < 0) : bitI A n = false := by simp [bitI, h]
theorem bitI_nat (A : Int) (i : Nat) : bitI A i = bitB A i := by simp [bitI]
theorem bitI_big {A n : Int} (h0 : 0 ≤ A) (h : (blen A : Int) ≤ n) : bitI A n = false := by
  unfold bitI
  split
  · rfl
  · exact bit_high h0 (by omega)
theorem blen60 {A : Int} (hA : A < P 2000) : blen A ≤ 60000 := blen_le (by rw [← P2000_two]; exact hA)
theorem int_bad (ao : Option Addr) (n ca : Nat) (a : Nat → Int) (w : World) (h : Row w ao n ca a) (hbad : okB a n = false) :
    Calls Tryz.prog 70 #[.slice ao n ca] w fun e w' => e = .returned (.tuple #[.int .i64 0, .bool false]) ∧ w' = w := by
  go_enter Tryz.func70, Tryz.ntmps70
  go_wp2_with fail
  refine (valid_any _ _ _ _ _ h).mono ?_
  rintro e w' ⟨rfl, rfl⟩
  go_wp2
  go_ret2
  exact ⟨rfl, rfl⟩
/-- The int of a number, and whether it is one. -/
def intV (A : Int) : Int := if blen A ≤ 63 then A else 0
theorem int_num {w : World} {x : Value} {A : Int} (hx : Num w x A) (hA : A < P 2000) :
    Calls Tryz.prog 70 #[x] w fun e w' => e = .returned (.tuple #[.int .i64 (intV A), .bool (decide (blen A ≤ 63))]) ∧ w' = w := by
  have A0 := hx.nonneg
  obtain ⟨ao, t, ca, rfl⟩ := hx.shape
  have hx0 := hx
  obtain ⟨ao', t', ca', d, e, hR, h2, rfl⟩ := hx
  simp only [Value.slice.injEq] at e
  obtain ⟨rfl, rfl, rfl⟩ := e
  have ok := Num.ok h2 hA
  have hn2 := (okB_out ok).1
  clear hA
  by_cases hb : blen (val d t) ≤ 63
  · have h63 : val d t < 9223372036854775808 := Int.lt_of_lt_of_le (blen_lt _) (Int.le_trans (two_le hb) (by decide))
    have h3 : t ≤ 3 := hx0.len (k := 3) (Int.lt_of_lt_of_le h63 (by decide))
    have HV : Hid (intV (val d t) = val d t) := by show _ = _; simp [intV, hb]
    have hbi : ((blen (val d t) : Nat) : Int) ≤ 63 := by omega
    have HS := small_any ao t ca d w hR h2.1 h3 h63
    have HS' : Hid (Calls Tryz.prog 102 #[.slice ao t ca] w fun e w' => e = .returned (.int .i64 (val d t)) ∧ w' = w) := HS
    clear HS h63 hx0
    go_enter Tryz.func70, Tryz.ntmps70
    go_wp2_with fail
    refine (valid_any _ _ _ _ _ hR).mono ?_
    rintro e w' ⟨rfl, rfl⟩
    go_wp2_with fail
    refine (bitLength_any _ _ _ _ _ hR h2 (by omega)).mono ?_
    rintro e w' ⟨rfl, rfl⟩
    go_wp2_with fail
    refine HS'.out.mono ?_
    rintro e w' ⟨rfl, rfl⟩
    go_wp2
    go_ret2
    exact ⟨by rw [HV.out, decide_eq_true hb]; rfl, rfl⟩
  · have HV : Hid (intV (val d t) = 0) := by show _ = _; simp [intV, hb]
    have hbi : (63 : Int) < ((blen (val d t) : Nat) : Int) := by omega
    go_enter Tryz.func70, Tryz.ntmps70
    go_wp2_with fail
    refine (valid_any _ _ _ _ _ hR).mono ?_
    rintro e w' ⟨rfl, rfl⟩
    go_wp2_with fail
    refine (bitLength_any _ _ _ _ _ hR h2 (by omega)).mono ?_
    rintro e w' ⟨rfl, rfl⟩
    go_wp2
    go_ret2
    exact ⟨by rw [HV.out, decide_eq_false hb]; rfl, rfl⟩
end Go.Proofs.YtnhkagiionkjaaaGreatDoor

/-
  The document's own answers (plumbref2): Shl, Shr, by contracts over the same values.
-/
namespace Go.Proofs.YtnhkagiionkjaaaGreatDoor
open Go Go.RowKit Go.Proofs.YtnhkagiionkjaaaGreatDoor.M
set_option linter.unusedSimpArgs false
set_option linter.unusedVariables false

set_option maxHeartbeats 1000000 in
theorem rshl_qp (ao : Option Addr) (n ca q p : Nat) (a : Nat → Int) (w : World) (ha : Row w ao n ca a) (da : Dig a n) (hn : n ≤ 100000) (hq : q ≤ 100000) (hp : p < 30) (k : Int) (hk : k = 30 * q + p) :
    Calls Tryz.prog 78 #[.slice ao n ca, .int .i64 k] w fun e w' => ∃ v, e = .returned v ∧ Ans w w' (P q * (2 ^ p * val a n)) v := by
  have hla := ha.le
  have hma := ha.max
  have e1 : k / 30 = q := by omega
  have e2 : k % 30 = p := by omega
  have hk0 : 0 ≤ k := by omega
  clear hk
  have hu := two_pos p
  have hu2 : (2 : Int) ^ p ≤ 2 ^ 29 := two_le (by omega)
  by_cases hn0 : n = 0
  · subst hn0
    have H0 : Hid (P q * (2 ^ p * val a 0) = 0) := by show _ = _; simp [val]
    go_enter Tryz.func78, Tryz.ntmps78
    go_wp2
    go_ret
    exact ⟨_, rfl, by rw [H0.out]; exact Ans.nil (bel_refl _)⟩
  · have en : ((n : Int) == 0) = false := by simp; omega
    go_enter Tryz.func78, Tryz.ntmps78
    go_wp2_with (at_make; refine wpList_mk rfl _ _ rfl _ _ q rfl rfl (by omega) (by omega) (by omega) ?_; intro w1 hB1 hb1)
    rw [e2]
    go_loopw [5, 7, 8] (fun l c i wr => ∃ (k : Nat) (c' : Int) (r : Nat → Int), k ≤ n ∧ i = .int .i64 k ∧ c = .int .i64 c' ∧ 0 ≤ c' ∧ c' < 2 ^ p ∧ Out w.heap.size wr l (q + k) r ∧ Dig r (q + k) ∧ Hid (∀ i, i < q → r i = 0) ∧ Hid (val (fun i => r (q + i)) k + c' * P k = 2 ^ p * val a k) ∧ Below w.heap.size w wr) (fun _ _ i _ => n - (intOf i).toNat)
    case atStart => exact ⟨0, 0, fun _ => 0, Nat.zero_le _, rfl, rfl, by omega, hu, hB1.out (Nat.le_refl _) (Nat.le_refl _) (by omega), zero_dig _, fun _ _ => rfl, by show _ = _; show (0 : Int) + 0 * 1 = 2 ^ p * 0; omega, hb1⟩
    case round =>
      obtain ⟨k, c, r, hk, rfl, rfl, hc0, hc1, hO, hD, HZ, HV, hbw⟩ := hrel
      by_cases hlt : k < n
      · obtain ⟨ba, fa, rfl, hba, hca⟩ := ha.spot (by omega)
        have c1 := (hbw.cell (p := ⟨ba, fa + k, none⟩) hba).trans (hca k hlt)
        have dk := da k hlt
        obtain ⟨s0, s1, s2⟩ := shl_dig dk (show p ≤ 30 by omega)
        have hc2 : (a k * 2 ^ p + c) / 1073741824 < 2 ^ p := by omega
        go_wp2_with (at_builtin; refine wpList_app rfl _ _ rfl w.heap.size _ (q + k) r rfl (hO.stays (bel_alloc _ _)) _ 1 1 (fun _ => (a k * 2 ^ p + c) % 1073741824) rfl (row1 _ _ rfl) (by omega) (by have := hbw.size; simp; omega) ?_; intro v' w1 hO1 hg1)
        have hb1 : Below w.heap.size w w1 := (hbw.alloc hbw.size _).grown hg1 (by have := hbw.size; simp; omega) (own_ge hO)
        have hs := sum_step (x := a k * 2 ^ p) HV.out
        rw [Int.add_comm c] at hs
        go_roundw
        case rel => exact ⟨k + 1, (a k * 2 ^ p + c) / 1073741824, upd r (q + k) ((a k * 2 ^ p + c) % 1073741824), by omega, by go_num, rfl, by omega, hc2, hO1.congr (cat_upd r (q + k) _), dig_upd2 hD (mod_dig _), fun i hi => by rw [upd_other r _ (by omega)]; exact HZ.out i hi, by show _ = _; rw [upd_shift, hs, val_succ]; grind, hb1⟩
        case measure => simp [intOf]; omega
      · obtain rfl : k = n := by omega
        go_wp2_with (at_builtin; refine wpList_app rfl _ _ rfl w.heap.size _ (q + k) r rfl (hO.stays (bel_alloc _ _)) _ 1 1 (fun _ => c) rfl (row1 _ _ rfl) (by omega) (by have := hbw.size; simp; omega) ?_; intro v' w1 hO1 hg1)
        have hb1 : Below w.heap.size w w1 := (hbw.alloc hbw.size _).grown hg1 (by have := hbw.size; simp; omega) (own_ge hO)
        have D2 : Dig (upd r (q + k) c) (q + k + 1) := dig_upd2 hD ⟨hc0, by omega⟩
        refine (rtrim_ans (hO1.congr (cat_upd r (q + k) c)) D2 hb1).mono ?_
        rintro e w3 ⟨v', rfl, hA, rfl⟩
        go_wp2
        go_ret
        refine ⟨_, rfl, ?_⟩
        rw [Nat.add_assoc, val_shift0 _ _ _ (fun i hi => by rw [upd_other r _ (by omega)]; exact HZ.out i hi), upd_shift, val_succ, upd_same, val_upd_ge _ _ (Nat.le_refl _), HV.out] at hA
        exact hA
theorem rshl_any (ao : Option Addr) (n ca k : Nat) (a : Nat → Int) (w : World) (ha : Row w ao n ca a) (da : Dig a n) (hn : n ≤ 100000) (hk : k ≤ 2000000) :
    Calls Tryz.prog 78 #[.slice ao n ca, .int .i64 k] w fun e w' => ∃ v, e = .returned v ∧ Ans w w' (val a n * 2 ^ k) v := by
  refine (rshl_qp ao n ca (k / 30) (k % 30) a w ha da hn (by omega) (by omega) k (by omega)).mono ?_
  rintro e w' ⟨v, he, h⟩
  refine ⟨v, he, ?_⟩
  rw [two_split k]
  rwa [show val a n * (P (k / 30) * 2 ^ (k % 30)) = P (k / 30) * (2 ^ (k % 30) * val a n) by grind]

set_option maxRecDepth 100000 in
set_option maxHeartbeats 1000000 in
theorem rshr_qp (ao : Option Addr) (n ca q p : Nat) (a : Nat → Int) (w : World) (ha : Row w ao n ca a) (da : Dig a n) (hn : n ≤ 100000) (hp : p < 30) (k : Int) (hk : k = 30 * q + p) (hkm : k ≤ 4000000) :
    Calls Tryz.prog 98 #[.slice ao n ca, .int .i64 k] w fun e w' => ∃ v, e = .returned v ∧ Ans w w' (val a n / P q / 2 ^ p) v := by
  have hla := ha.le
  have hma := ha.max
  have e1 : k / 30 = q := by omega
  have e2 : k % 30 = p := by omega
  have hk0 : 0 ≤ k := by omega
  have hq1 : q ≤ 200000 := by omega
  clear hk
  have hu := two_pos p
  have hu2 : (2 : Int) ^ p ≤ 2 ^ 29 := two_le (by omega)
  have huv : (2 : Int) ^ p * 2 ^ (30 - p) = 1073741824 := by rw [← Int.pow_add, show p + (30 - p) = 30 by omega]; rfl
  have HU : Hid ((2 : Int) ^ p * 2 ^ (30 - p) = 1073741824) := huv
  have hdv : (1073741824 : Int) / 2 ^ p = 2 ^ (30 - p) := by rw [← huv]; exact Int.mul_ediv_cancel_left _ (by omega)
  have hz : ((2 : Int) ^ p == 0) = false := by simp; omega
  clear huv
  by_cases hqn : n ≤ q
  · have H0 : Hid (val a n / P q / 2 ^ p = 0) := by
      show _ = _
      rw [Int.ediv_eq_zero_of_lt (val_nonneg da) (by have := val_lt da; have := P_le hqn; omega)]; exact Int.zero_ediv _
    go_enter Tryz.func98, Tryz.ntmps98
    go_wp2
    go_ret
    exact ⟨_, rfl, by rw [H0.out]; exact Ans.nil (bel_refl _)⟩
  · obtain ⟨ba, fa, rfl, hba, hca⟩ := ha.spot (by omega)
    obtain ⟨N, hN⟩ : ∃ N, n = q + N := ⟨n - q, by omega⟩
    have HN : Hid (n = q + N) := hN
    have hn1 : q + N ≤ n := by omega
    have hn2 : n ≤ q + N := by omega
    have hN0 : 0 < N := by omega
    clear hN
    go_enter Tryz.func98, Tryz.ntmps98
    go_wp2
    rw [e1, e2]
    go_loopw [5, 7] (fun l i wr => ∃ (k : Nat) (r : Nat → Int), k ≤ N ∧ i = .int .i64 ((q : Int) + k) ∧ Out w.heap.size wr l k r ∧ Hid (∀ i, i < k → r i = low (fun j => ext a n (q + j)) (2 ^ p) (2 ^ (30 - p)) i) ∧ Below w.heap.size w wr) (fun _ i _ => n - (intOf i).toNat)
    case atStart => exact ⟨0, fun _ => 0, Nat.zero_le _, by simp, Out.nil _ _ _, fun i hi => by omega, bel_refl _⟩
    case round =>
      obtain ⟨k, r, hk, rfl, hO, HV, hbw⟩ := hrel
      by_cases hlt : k < N
      · have c1 := (hbw.cell (p := ⟨ba, fa + (q + k), none⟩) hba).trans (hca (q + k) (by omega))
        have dx := da (q + k) (by omega)
        by_cases hl2 : q + k + 1 < n
        · have dy := da (q + k + 1) (by omega)
          obtain ⟨s0, s1, s2, s3, s4⟩ := shr_part dx dy hp
          have s5 : 0 ≤ a (q + k + 1) % 2 ^ p * 2 ^ (30 - p) := Int.mul_nonneg s3 (Int.le_of_lt (two_pos _))
          have s6 : (2 : Int) ^ (30 - p) ≤ 2 ^ 30 := two_le (by omega)
          have c2 := (hbw.cell (p := ⟨ba, fa + (q + k + 1), none⟩) hba).trans (hca (q + k + 1) (by omega))
          clear s2
          go_wp2
          go_quiet (fail)
          go_wp2_with (at_builtin; refine wpList_app rfl _ _ rfl w.heap.size _ k r rfl ((hO.stays (bDrewN (bel_refl _) _)).stays (bel_alloc _ _)) _ 1 1 (fun _ => (a (q + k) / 2 ^ p + a (q + k + 1) % 2 ^ p * 2 ^ (30 - p))) rfl (row1 _ _ rfl) (by omega) (by have := hbw.size; simp [World.drewN]; omega) ?_; intro v' w1 hO1 hg1)
          have hb1 : Below w.heap.size w w1 := ((bDrewN hbw _).alloc hbw.size _).grown hg1 (by have := hbw.size; simp [World.drewN]; omega) (own_ge hO)
          go_roundw
          case rel => exact ⟨k + 1, upd r k (a (q + k) / 2 ^ p + a (q + k + 1) % 2 ^ p * 2 ^ (30 - p)), by omega, by go_num, hO1.congr (cat_upd r k _), fun i hi => by
              by_cases e : i = k
              · rw [e, upd_same]
                show _ = ext a n (q + k) / 2 ^ p + ext a n (q + (k + 1)) % 2 ^ p * 2 ^ (30 - p)
                rw [ext_lt a (by omega), ext_lt a (by omega), Nat.add_assoc]
              · rw [upd_other _ _ e]; exact HV.out i (by omega), hb1⟩
          case measure => simp [intOf]; omega
        · obtain ⟨s0, s1, _, _, _⟩ := shr_part dx dx hp
          have s6 : (2 : Int) ^ (30 - p) ≤ 2 ^ 30 := two_le (by omega)
          go_wp2_with (at_builtin; refine wpList_app rfl _ _ rfl w.heap.size _ k r rfl (hO.stays (bel_alloc _ _)) _ 1 1 (fun _ => (a (q + k) / 2 ^ p)) rfl (row1 _ _ rfl) (by omega) (by have := hbw.size; simp; omega) ?_; intro v' w1 hO1 hg1)
          have hb1 : Below w.heap.size w w1 := (hbw.alloc hbw.size _).grown hg1 (by have := hbw.size; simp; omega) (own_ge hO)
          go_roundw
          case rel => exact ⟨k + 1, upd r k (a (q + k) / 2 ^ p), by omega, by go_num, hO1.congr (cat_upd r k _), fun i hi => by
              by_cases e : i = k
              · rw [e, upd_same, low_last (s := fun j => ext a n (q + j)) (ext_ge a (by omega)), ext_lt a (by omega)]
              · rw [upd_other r _ e]; exact HV.out i (by omega), hb1⟩
          case measure => simp [intOf]; omega
      · obtain rfl : k = N := by omega
        have DS : Dig (fun j => ext a n (q + j)) (k + 1) := fun i hi => ext_dig da (q + k + 1) (q + i) (by omega)
        have D2 : Dig r k := (low_dig hu HU.out DS).congr fun i hi => (HV.out i hi).symm
        have HD2 : Hid (Dig r k) := D2
        clear D2 DS
        go_wp2_with fail
        refine (rtrim_ans hO HD2.out hbw).mono ?_
        rintro e w3 ⟨v', rfl, hA, rfl⟩
        go_wp2
        go_ret
        refine ⟨_, rfl, ?_⟩
        rw [val_congr HV.out, low_eq (s := fun j => ext a n (q + j)) hu HU.out (ext_ge a (by omega))] at hA
        have e3 := val_drop a (show q ≤ n by omega) da
        rw [← e3, show n - q = k by omega]
        rw [show val (fun j => ext a n (q + j)) k = val (fun i => a (q + i)) k from val_congr fun i hi => ext_lt a (by omega)] at hA
        exact hA
theorem rshr_any (ao : Option Addr) (n ca k : Nat) (a : Nat → Int) (w : World) (ha : Row w ao n ca a) (da : Dig a n) (hn : n ≤ 100000) (hk : k ≤ 4000000) :
    Calls Tryz.prog 98 #[.slice ao n ca, .int .i64 k] w fun e w' => ∃ v, e = .returned v ∧ Ans w w' (val a n / 2 ^ k) v := by
  refine (rshr_qp ao n ca (k / 30) (k % 30) a w ha da hn (by omega) k (by omega) (by omega)).mono ?_
  rintro e w' ⟨v, he, h⟩
  refine ⟨v, he, ?_⟩
  rw [two_split k, ← Int.ediv_ediv_of_nonneg (Int.le_of_lt (P_pos _))]
  exact h
end Go.Proofs.YtnhkagiionkjaaaGreatDoor

/-
  Package nat: root, Root, by contracts: for every number.
-/
namespace Go.Proofs.YtnhkagiionkjaaaGreatDoor
open Go Go.RowKit Go.Proofs.YtnhkagiionkjaaaGreatDoor.M
set_option linter.unusedSimpArgs false
set_option linter.unusedVariables false

/-- The square root, cut: the greatest s with s s <= A. -/
def IsRoot (A s : Int) : Prop := 0 ≤ s ∧ s * s ≤ A ∧ A < (s + 1) * (s + 1)
theorem root_above {A s : Int} (hA : 0 ≤ A) (hs : 0 < s) (h : A < s * s) : ∀ r, r * r ≤ A → r < s := fun r hr => by
  rcases Int.lt_or_le r s with q | q
  · exact q
  · have := Int.mul_le_mul q q (by omega) (by omega)
    omega
/-- s is not below the root. -/
def Abv (A s : Int) : Prop := ∀ r, 0 ≤ r → r * r ≤ A → r ≤ s
theorem abv_start {A : Int} (hA : 0 ≤ A) {k : Nat} (h : A < 2 ^ (2 * k)) : Abv A (2 ^ k) := fun r h0 hr => by
  rcases Int.lt_or_le (2 ^ k) r with q | q
  · have h1 := Int.mul_le_mul (Int.le_of_lt q) (Int.le_of_lt q) (Int.le_of_lt (two_pos k)) h0
    rw [← Int.pow_add, ← Nat.two_mul] at h1
    omega
  · exact q
theorem abv_next {A s : Int} (hs : 0 < s) (h : Abv A s) : Abv A ((s + A / s) / 2) := fun r h0 hr => newton_above hs hr
theorem abv_done {A s : Int} (hs : 0 < s) (h : Abv A s) (hst : s ≤ (s + A / s) / 2) : IsRoot A s := by
  refine ⟨by omega, newton_stop hs hst, ?_⟩
  rcases Int.lt_or_le A ((s + 1) * (s + 1)) with q | q
  · exact q
  · have := h (s + 1) (by omega) q
    omega
theorem Num.parts {w : World} {v : Value} {V : Int} (h : Num w v V) {k : Nat} (hV : V < P k) : ∃ ao n cap d, v = .slice ao n cap ∧ Row w ao n cap d ∧ Nrm d n ∧ val d n = V ∧ n ≤ k := by
  obtain ⟨ao, n, cap, rfl⟩ := h.shape
  have hl := h.len hV
  obtain ⟨ao', n', cap', d, e, hR, h2, h3⟩ := h
  simp only [Value.slice.injEq] at e
  obtain ⟨rfl, rfl, rfl⟩ := e
  exact ⟨ao, n, cap, d, rfl, hR, h2, h3, hl⟩
theorem lower_num {w : World} {x : Value} {A : Int} (hx : Num w x A) (hA : A < P 6000) (k : Nat) (hk : (k : Int) < 9223372036854775808) :
    Calls Tryz.prog 91 #[x, .int .i64 k] w fun e w' => ∃ v, e = .returned v ∧ Ans w w' (A / 2 ^ k) v := by
  obtain ⟨ao, n, ca, d, rfl, hR, h2, rfl, hl⟩ := hx.parts hA
  exact lower_any _ _ _ _ _ _ hR h2.1 (by omega) hk
theorem lower_half {w : World} {x : Value} {A : Int} (hx : Num w x A) (hA : A < P 6000) :
    Calls Tryz.prog 91 #[x, .int .i64 1] w fun e w' => ∃ v, e = .returned v ∧ Ans w w' (A / 2) v := lower_num hx hA 1 (by decide)
theorem compare_num {w : World} {x y : Value} {A B : Int} (hx : Num w x A) (hy : Num w y B) :
    Calls Tryz.prog 119 #[x, y] w fun e w' => e = .returned (.int .i64 (ord A B)) ∧ Below w.heap.size w w' := by
  obtain ⟨ao, n, ca, d, rfl, hR, h2, rfl⟩ := hx
  obtain ⟨bo, m, cb, e, rfl, kR, k2, rfl⟩ := hy
  exact compare_any _ _ _ _ _ _ _ _ _ hR kR h2 k2
theorem raise_num {w : World} {x : Value} {A : Int} (hx : Num w x A) (hA : A < P 5000) (k : Nat) (hk : k ≤ 1000000) :
    Calls Tryz.prog 120 #[x, .int .i64 k] w fun e w' => ∃ v, e = .returned v ∧ Ans w w' (A * 2 ^ k) v := by
  obtain ⟨ao, n, ca, d, rfl, hR, h2, rfl, hl⟩ := hx.parts hA
  exact raise_any _ _ _ _ _ _ hR h2.1 (by omega) hk
theorem bitLength_num {w : World} {x : Value} {A : Int} (hx : Num w x A) (hA : A < P 5000) :
    Calls Tryz.prog 90 #[x] w fun e w' => e = .returned (.int .i64 (blen A)) ∧ w' = w := by
  obtain ⟨ao, n, ca, d, rfl, hR, h2, rfl, hl⟩ := hx.parts hA
  exact bitLength_any _ _ _ _ _ hR h2 (by omega)

/-- A root that is answered. -/
def RootA (w w' : World) (A : Int) (v : Value) : Prop := ∃ s, Ans w w' s v ∧ IsRoot A s
theorem root_bnd {A s : Int} (hA : A < P 2000) (hA0 : 0 ≤ A) (hs : 0 < s) (h3 : s < P 3000) : A / s < P 5000 ∧ s < P 5000 ∧ s + A / s < P 6000 := by
  have h1 : A / s ≤ A := Int.ediv_le_self _ hA0
  have p1 := P_le (show 2000 ≤ 3000 by decide)
  have p2 := P_le (show 3000 ≤ 5000 by decide)
  have p3 : P 3000 + P 3000 ≤ P 6000 := by
    have h := P_le (show 3001 ≤ 6000 by decide)
    have e : P 3001 = P 3000 * 1073741824 := P_succ 3000
    have := P_pos 3000
    generalize P 3000 = X at *
    generalize P 6000 = Y at *
    generalize P 3001 = Z at *
    omega
  generalize P 3000 = X at *
  generalize P 6000 = Y at *
  generalize P 5000 = Z at *
  generalize P 2000 = T at *
  refine ⟨?_, ?_, ?_⟩ <;> omega
/-- Where a root's rounds stand: s is in new memory, and not below the root. -/
def RootR (w0 : World) (A : Int) (v : Value) (s : Int) (wr : World) : Prop := Ans w0 wr s v ∧ 0 < s ∧ Abv A s ∧ s < P 3000
end Go.Proofs.YtnhkagiionkjaaaGreatDoor

/-
  The document's own Low, Pow, Root, by contracts over the same values.
-/
namespace Go.Proofs.YtnhkagiionkjaaaGreatDoor
open Go Go.RowKit Go.Proofs.YtnhkagiionkjaaaGreatDoor.M
set_option linter.unusedSimpArgs false
set_option linter.unusedVariables false

theorem lowA_unique {A l m : Int} (h : LowA A l) (k : LowA A m) : l = m := by
  have hz : ∀ i : Nat, ¬ IsLow 0 i := fun i ⟨q, e⟩ => by
    have h2 := two_pos i
    have h3 : (2 * q + 1) ≠ 0 := by omega
    rcases Int.mul_eq_zero.1 e.symm with h | h
    · exact h3 h
    · omega
  rcases h with ⟨h0, h1⟩ | ⟨i, h1, hi⟩ <;> rcases k with ⟨k0, k1⟩ | ⟨j, k1, hj⟩
  · omega
  · subst h0; exact absurd hj (hz j)
  · subst k0; exact absurd hi (hz i)
  · rw [h1, k1, low_unique hi hj]
set_option maxHeartbeats 400000 in
theorem rlow_any (ao : Option Addr) (n cap : Nat) (d : Nat → Int) (w : World) (h : Row w ao n cap d) (hd : Dig d n) (hn : n ≤ 100000) :
    Calls Tryz.prog 97 #[.slice ao n cap] w fun e w' => ∃ l, e = .returned (.int .i64 l) ∧ LowA (val d n) l ∧ w' = w := by
  have hl := h.le
  have hm := h.max
  go_enter Tryz.func97, Tryz.ntmps97
  go_wp2
  go_loop [3] (fun i => ∃ k : Nat, k ≤ n ∧ i = .int .i64 k ∧ Hid (∀ j, j < k → d j = 0)) (fun i => n - (intOf i).toNat)
  case atStart => exact ⟨0, Nat.zero_le _, rfl, fun j hj => by omega⟩
  case round =>
    obtain ⟨k, hk, rfl, HZ⟩ := hrel
    by_cases hlt : k < n
    · obtain ⟨b, off, rfl, hb, hc⟩ := h.spot (by omega)
      have c := hc k hlt
      have dk := hd k hlt
      by_cases h0 : d k = 0
      · have e0 : (d k != 0) = false := by simp [h0]
        go_wp2
        go_round
        case rel => exact ⟨k + 1, by omega, by go_num, fun j hj => by by_cases e : j = k; (· rw [e]; exact h0); (· exact HZ.out j (by omega))⟩
        case measure => simp [intOf]; omega
      · have e0 : (d k != 0) = true := by simp [h0]
        have hpos : 0 < d k := by omega
        go_wp2
        go_loop [4, 5] (fun s v => ∃ (x : Int) (t : Nat), s = .int .i64 ((30 * k + t : Nat) : Int) ∧ v = .int .i64 x ∧ 0 < x ∧ x < 1073741824 ∧ t ≤ 30 ∧ Hid (x * 2 ^ t = d k)) (fun _ v => (intOf v).toNat)
        case atStart => exact ⟨d k, 0, by go_num, rfl, hpos, dk.2, by omega, by show _ = _; simp⟩
        case round =>
          obtain ⟨x, t, rfl, rfl, hx0, hx1, ht, HT⟩ := hrel
          by_cases he : x % 2 = 0
          · have ee : (x % 2 == 0) = true := by simp [he]
            have HT2 : Hid (x / 2 * 2 ^ (t + 1) = d k) := by
              show _ = _
              rw [Int.pow_succ, Int.mul_comm (2 ^ t) 2, ← Int.mul_assoc, show x / 2 * 2 = x by omega]; exact HT.out
            have ht2 : t + 1 ≤ 30 := by
              have h1 : 1 * 2 ^ (t + 1) ≤ x / 2 * 2 ^ (t + 1) := Int.mul_le_mul_of_nonneg_right (by omega) (Int.le_of_lt (two_pos _))
              rw [HT2.out] at h1
              have h2 : (2 : Int) ^ (t + 1) < 2 ^ 30 := by have : (2 : Int) ^ 30 = 1073741824 := rfl; omega
              have := two_lt_iff h2
              omega
            go_wp2
            go_round
            case rel => exact ⟨x / 2, t + 1, by go_num, rfl, by omega, by omega, ht2, HT2.out⟩
            case measure => simp [intOf]; omega
          · have ee : (x % 2 == 0) = false := by simp [he]
            have HL : Hid (IsLow (d k) t) := ⟨x / 2, by rw [show 2 * (x / 2) + 1 = x by omega]; exact HT.out.symm⟩
            go_wp2
            go_ret
            exact ⟨_, rfl, .inr ⟨30 * k + t, rfl, isLow_val hlt HZ.out HL.out (low_lt hpos dk.2 HL.out)⟩, rfl⟩
    · obtain rfl : k = n := by omega
      go_wp2
      go_ret
      exact ⟨_, rfl, .inl ⟨by rw [val_zeros (Nat.zero_le _) (fun i _ hi => HZ.out i hi)]; rfl, rfl⟩, rfl⟩
/-- A list of one. -/
theorem an_one (w : World) (x : Int) (h0 : 0 < x) (h1 : x < 1073741824) {g B : Nat} (hg : g = w.heap.size) (hB : B ≤ w.heap.size) : An B (w.alloc (.cells #[.int .i64 x] 3)) (.slice (some ⟨g, 0, none⟩) 1 1) x := by
  subst hg
  exact ⟨1, fun _ => x, (Blk.new w #[.int .i64 x] (fun _ => x) (fun i hi => by simp at hi; subst hi; rfl)).out hB (Nat.le_refl _) (show 1 ≤ 9223372036854775807 by decide), ⟨fun i _ => ⟨by show 0 ≤ x; omega, h1⟩, .inr (by show x ≠ 0; omega)⟩, by show 0 + x * 1 = x; omega⟩
end Go.Proofs.YtnhkagiionkjaaaGreatDoor
