/-
  Package expansion: difference, by its contract.
-/
import Derived.Test.YtcpjdgfnblkfpaaGreatDoorXD
import Derived.Test.YtcpjdgfnblkfpaaGreatDoorXL
namespace Go.Proofs.YtcpjdgfnblkfpaaGreatDoor
open Go Go.RowKit Go.Proofs.YtcpjdgfnblkfpaaGreatDoor.M
set_option linter.unusedSimpArgs false
set_option linter.unusedVariables false

theorem XR.from {w0 w w' : World} {ok : Bool} {s : Ls} {r : Ending} (h : XR w ok s r w') (hb : Below w0.heap.size w0 w) : XR w0 ok s r w' := by
  obtain ⟨h1, h2⟩ := h
  refine ⟨?_, bel_trans hb h2⟩
  rcases h1 with ⟨a, v, b, c⟩ | h
  · exact .inl ⟨a, v, b, c.lower hb.size⟩
  · exact .inr h
/-- The first k turned. -/
def trn (f : Nat → Int) (k : Nat) : Nat → Int := fun i => if i < k then neg (f i) else f i
theorem trn_upd (f : Nat → Int) (k : Nat) : upd (trn f k) k (neg (f k)) = trn f (k + 1) := by
  funext i
  by_cases e : i = k
  · subst e; rw [upd_same]; unfold trn; rw [if_pos (by omega)]
  · rw [upd_other _ _ e]; unfold trn
    by_cases h : i < k
    · rw [if_pos h, if_pos (by omega)]
    · rw [if_neg h, if_neg (by omega)]
set_option maxRecDepth 100000 in
set_option maxHeartbeats 1000000 in
theorem xdiff_any {eo fo : Option Addr} {n ec m fc : Nat} {d f : Nat → Int} (w : World) (h : Row w eo n ec d) (hf : Row w fo m fc f) (hd : ∀ i, i < n → rng (d i) ∧ pok (d i) = true) (hff : ∀ i, i < m → rng (f i) ∧ pok (f i) = true) (hn : n + m ≤ 600000) (H : Hold4 w) :
    Calls Tryz.prog 55 #[.slice eo n ec, .slice fo m fc] w fun r w' => XR w (gaX ⟨n, d⟩ (fun i => neg (f i)) m) (gaS ⟨n, d⟩ (fun i => neg (f i)) m) r w' := by
  have CO := xown_any w hf (by omega)
  have HF : Hid (∀ i, i < m → rng (f i) ∧ pok (f i) = true) := hff
  have HH : Hid (Hold4 w) := H
  have CS : Hid (∀ W vo vc, Below w.heap.size w W → Row W vo m vc (fun i => neg (f i)) → Calls Tryz.prog 54 #[.slice eo n ec, .slice vo m vc] W fun r w' => XR w (gaX ⟨n, d⟩ (fun i => neg (f i)) m) (gaS ⟨n, d⟩ (fun i => neg (f i)) m) r w') := fun W vo vc hW hR =>
    (xsum_any W (h.keeps hW) hR hd (fun i hi => ⟨neg_rng (hff i hi).1, (neg_facts (hff i hi).1 (hff i hi).2).2.1⟩) (by omega)).mono fun _ _ hx => hx.from hW
  generalize gaX ⟨n, d⟩ (fun i => neg (f i)) m = X at *
  generalize gaS ⟨n, d⟩ (fun i => neg (f i)) m = S at *
  clear h hf hff H hd
  go_enter Tryz.func55, Tryz.ntmps55
  go_wp2_with fail
  refine CO.mono ?_
  rintro _ w1 ⟨v, rfl, hL, hg⟩
  obtain ⟨ao, cc, rfl, hRR⟩ := hL.row
  have hcm := hRR.max
  have hcl := hRR.le
  have HL : Hid (LsO w.heap.size w1 (.slice ao m cc) ⟨m, f⟩) := hL
  have HB1 : Hid (Below w.heap.size w w1) := grown_below hg
  clear hL hg CO hRR
  go_wp2_with fail
  go_loopw [12] (fun iv wr => ∃ k : Nat, k ≤ m ∧ iv = .int .i64 k ∧ Hid (LsO w.heap.size wr (.slice ao m cc) ⟨m, trn f k⟩) ∧ Hid (Below w.heap.size w wr)) (fun iv _ => m - (intOf iv).toNat)
  case atStart =>
    refine ⟨0, Nat.zero_le _, rfl, ?_, HB1⟩
    have e : trn f 0 = f := by funext i; unfold trn; rw [if_neg (by omega)]
    rw [e]
    exact HL
  case round =>
    obtain ⟨k, hk, rfl, HLk, HBW⟩ := hrel
    clear HL HB1
    have hsz := HBW.out.size
    by_cases hlt : k < m
    · have hO : Out w.heap.size wr (.slice ao m cc) m (trn f k) := by
        rcases HLk.out with h | ⟨h0, _⟩
        · exact h
        · have h0' : m = 0 := h0
          omega
      obtain ⟨g, rfl, hg1, hg2⟩ := hO.spot (by omega)
      have c0 := hO.cell hlt
      have e0 : trn f k k = f k := by unfold trn; rw [if_neg (by omega)]
      rw [e0] at c0
      obtain ⟨rk, pk⟩ := HF.out k hlt
      have CN : Hid (∀ W, Below w.heap.size w W → Calls Tryz.prog 84 #[.int .i64 (f k)] W fun e w' => e = .returned (.int .i64 (neg (f k))) ∧ Below W.heap.size W w') := fun W hW => (bitsNeg _ W (HH.out.keeps hW).env.lays rk).mono fun _ _ ⟨h1, h2⟩ => ⟨h1, h2.be⟩
      have HT : Hid (upd (trn f k) k (neg (f k)) = trn f (k + 1)) := trn_upd f k
      have HO : Hid (Out w.heap.size wr (.slice (some ⟨g, 0, none⟩) m cc) m (trn f k)) := hO
      clear hO e0 rk pk
      generalize neg (f k) = nk at *
      generalize f k = fk at *
      have i0 : (0 : Int) ≤ (k : Int) := by omega
      have i1 : (k : Int) < (m : Int) := by omega
      go_wp2_with fail
      refine (CN.out _ HBW.out).mono ?_
      rintro _ w2 ⟨rfl, hb2⟩
      have hO2 := HO.out.stays hb2
      have c2 := hO2.cell hlt
      have fz := hO2.frozen k
      have HO2 : Hid (Out w.heap.size w2 (.slice (some ⟨g, 0, none⟩) m cc) m (trn f k)) := hO2
      have HB2 : Hid (Below w.heap.size w w2) := HBW.out.trans (hb2.mono hsz)
      clear hO2 hb2
      generalize trn f k k = tk at *
      go_wp2
      go_roundw
      case rel =>
        refine ⟨k + 1, by omega, by go_num, ?_, HB2.out.setCell hg1 _⟩
        have := HO2.out.store hlt nk
        rw [HT.out] at this
        exact .inl this
      case measure => simp [intOf]; omega
    · obtain rfl : k = m := by omega
      obtain ⟨ao', cc', e1, hR⟩ := HLk.out.row
      simp only [Value.slice.injEq] at e1
      obtain ⟨rfl, _, rfl⟩ := e1
      have hR2 : Row wr ao k cc (fun i => neg (f i)) := hR.congr fun i hi => by
        show trn f k i = _
        unfold trn
        rw [if_pos hi]
      clear hR
      go_wp2_with fail
      refine (CS.out _ _ _ HBW.out hR2).mono ?_
      rintro _ w2 ⟨(⟨h1, v', rfl, h3⟩ | ⟨h1, rfl⟩), h4⟩
      · obtain ⟨ao', cc', rfl⟩ := h3.shape
        go_wp2
        go_ret
        exact ⟨.inl ⟨h1, _, rfl, h3⟩, h4⟩
      · unfold gaveX
        go_wp2
        exact ⟨rfl, .inr ⟨h1, rfl⟩, h4⟩
set_option maxRecDepth 100000 in
theorem xDiff {eo fo : Option Addr} {n ec m fc : Nat} {d f : Nat → Int} (w : World) (h : Row w eo n ec d) (hf : Row w fo m fc f) (hr : ∀ i, i < n → rng (d i)) (hrf : ∀ i, i < m → rng (f i)) (hv : xval d n = true) (hu : xval f m = true) (hn : n + m ≤ 300000) (H : Hold4 w) :
    Calls Tryz.prog 33 #[.slice eo n ec, .slice fo m fc] w fun r w' => XA w (gaX ⟨n, d⟩ (fun i => neg (f i)) m) (gaS ⟨n, d⟩ (fun i => neg (f i)) m) r w' := by
  have hEG : ∀ (cap : Array Value) (w : World), (callFunc 55 cap).run Tryz.prog w = .ok (.enter 55 cap) w := by
    intro cap w
    simp [go_sem]
  have hd : ∀ i, i < n → rng (d i) ∧ pok (d i) = true := fun i hi => ⟨hr i hi, xval_fin hv i hi⟩
  have hff : ∀ i, i < m → rng (f i) ∧ pok (f i) = true := fun i hi => ⟨hrf i hi, xval_fin hu i hi⟩
  have CW := xwl_ok 55 w (gaX ⟨n, d⟩ (fun i => neg (f i)) m) (gaS ⟨n, d⟩ (fun i => neg (f i)) m) hEG h hf hv hu H (fun W hW => xdiff_any W (h.keeps hW) (hf.keeps hW) hd hff (by omega) (H.keeps hW))
  generalize gaX ⟨n, d⟩ (fun i => neg (f i)) m = X at *
  generalize gaS ⟨n, d⟩ (fun i => neg (f i)) m = S at *
  go_enter Tryz.func33, Tryz.ntmps33
  go_wp2_with fail
  refine CW.mono ?_
  rintro _ w1 ⟨(⟨h1, v, rfl, h2⟩ | ⟨h1, rfl⟩), hb⟩
  · obtain ⟨ao, cc, rfl⟩ := h2.shape
    go_wp2
    refine bodyPost_ret (v := .tuple #[.slice ao S.n cc, .int .i64 0]) (by simp [results, Tryz.results33, go_sem]) rfl ⟨.inl ⟨h1, _, rfl, h2⟩, hb⟩
  · go_wp2
    refine bodyPost_ret (v := .tuple #[.slice none 0 0, .int .i64 14]) (by simp [results, Tryz.results33, go_sem]) rfl ⟨.inr ⟨h1, rfl⟩, hb⟩
set_option maxRecDepth 100000 in
theorem xProduct {eo fo : Option Addr} {n ec m fc : Nat} {d f : Nat → Int} (w : World) (h : Row w eo n ec d) (hf : Row w fo m fc f) (hr : ∀ i, i < n → rng (d i)) (hrf : ∀ i, i < m → rng (f i)) (hv : xval d n = true) (hu : xval f m = true) (hn : n ≤ 200) (hm : m ≤ 200) (H : Hold4 w) :
    Calls Tryz.prog 34 #[.slice eo n ec, .slice fo m fc] w fun r w' => XA w (prX d n f m) (prS d n f m) r w' := by
  have hEG : ∀ (cap : Array Value) (w : World), (callFunc 56 cap).run Tryz.prog w = .ok (.enter 56 cap) w := by
    intro cap w
    simp [go_sem]
  have hd : ∀ i, i < n → rng (d i) ∧ pok (d i) = true := fun i hi => ⟨hr i hi, xval_fin hv i hi⟩
  have hff : ∀ i, i < m → rng (f i) ∧ pok (f i) = true := fun i hi => ⟨hrf i hi, xval_fin hu i hi⟩
  have CW := xwl_ok 56 w (prX d n f m) (prS d n f m) hEG h hf hv hu H (fun W hW => xproduct_any W (h.keeps hW) (hf.keeps hW) hd hff hn hm (H.keeps hW))
  generalize prX d n f m = X at *
  generalize prS d n f m = S at *
  go_enter Tryz.func34, Tryz.ntmps34
  go_wp2_with fail
  refine CW.mono ?_
  rintro _ w1 ⟨(⟨h1, v, rfl, h2⟩ | ⟨h1, rfl⟩), hb⟩
  · obtain ⟨ao, cc, rfl⟩ := h2.shape
    go_wp2
    refine bodyPost_ret (v := .tuple #[.slice ao S.n cc, .int .i64 0]) (by simp [results, Tryz.results34, go_sem]) rfl ⟨.inl ⟨h1, _, rfl, h2⟩, hb⟩
  · go_wp2
    refine bodyPost_ret (v := .tuple #[.slice none 0 0, .int .i64 14]) (by simp [results, Tryz.results34, go_sem]) rfl ⟨.inr ⟨h1, rfl⟩, hb⟩
set_option maxRecDepth 100000 in
set_option maxHeartbeats 1000000 in
theorem xwl_bad2 (G : Nat) {eo fo : Option Addr} {n ec m fc : Nat} {d f : Nat → Int} (w : World) (h : Row w eo n ec d) (hf : Row w fo m fc f) (hv : xval d n = true) (hu : xval f m = false) (H : Hold4 w) :
    Calls Tryz.prog 53 #[.slice eo n ec, .slice fo m fc, .func (.func G) #[] #[]] w fun r w' => r = .returned (.tuple #[.slice none 0 0, .int .i64 1]) ∧ Below w.heap.size w w' := by
  have hmf : ∀ (fn : Fn) (first cap : Array Value) (w : World), (Instr.makeFunc fn first cap).run Tryz.prog w = .ok (.func fn first cap) w := fun _ _ _ _ => rfl
  have hst : ∀ p F m w, (store p (.func (.func F) #[] #[]) m).run Tryz.prog w = stored Tryz.prog w p (.func (.func F) #[] #[]) m := fun p F m w => run_store _ w p _ m rfl
  have hE : ∀ (cap : Array Value) (w : World), (callFunc 81 cap).run Tryz.prog w = .ok (.enter 81 cap) w := by
    intro cap w
    simp [go_sem]
  have k0 := h3_0 w (.cells #[.slice eo n ec] 35) (.cells #[.slice fo m fc] 35) (.cells #[.func (.func G) #[] #[]] 92)
  have k1 := h3_1 w (.cells #[.slice eo n ec] 35) (.cells #[.slice fo m fc] 35) (.cells #[.func (.func G) #[] #[]] 92)
  have k2 := h3_2 w (.cells #[.slice eo n ec] 35) (.cells #[.slice fo m fc] 35) (.cells #[.func (.func G) #[] #[]] 92)
  have hb0 := bel_a3 w (.cells #[.slice eo n ec] 35) (.cells #[.slice fo m fc] 35) (.cells #[.func (.func G) #[] #[]] 92)
  have CV := fun W hW => xvalid_any W (h.keeps hW) (H.keeps hW)
  rw [hv] at CV
  go_enter Tryz.func53, Tryz.ntmps53
  go_wp2_with fail
  generalize ((w.alloc (.cells #[.slice eo n ec] 35)).alloc (.cells #[.slice fo m fc] 35)).alloc (.cells #[.func (.func G) #[] #[]] 92) = x0 at k0 k1 k2 hb0 ⊢
  refine (CV _ hb0).mono ?_
  rintro _ y1 ⟨rfl, hw1⟩
  have k1 := (hw1.block _ (Array.getElem?_eq_some_iff.1 k1).1).trans k1
  have c1 := blkC k1 0 rfl
  have hbA := bel_trans hb0 hw1
  have CU := xvalid_any _ (hf.keeps hbA) (H.keeps hbA)
  rw [hu] at CU
  go_wp2_with fail
  refine CU.mono ?_
  rintro _ y2 ⟨rfl, hw2⟩
  go_wp2
  all_goals refine bodyPost_ret (v := .tuple #[.slice none 0 0, .int .i64 1]) (by simp [results, Tryz.results53, go_sem]) rfl ⟨rfl, by first | exact bel_trans hbA hw2 | exact (bel_trans hbA hw2).drew⟩
set_option maxRecDepth 100000 in
theorem xSum_badA {eo fo : Option Addr} {n ec m fc : Nat} {d f : Nat → Int} (w : World) (h : Row w eo n ec d) (hf : Row w fo m fc f) (hv : xval d n = false) (H : Hold4 w) :
    Calls Tryz.prog 32 #[.slice eo n ec, .slice fo m fc] w fun r w' => r = .returned (.tuple #[.slice none 0 0, .int .i64 1]) ∧ Below w.heap.size w w' := by
  have CW := xwl_bad 54 w h hf hv H
  go_enter Tryz.func32, Tryz.ntmps32
  go_wp2_with fail
  refine CW.mono ?_
  rintro _ w1 ⟨rfl, hb⟩
  go_wp2
  refine bodyPost_ret (v := .tuple #[.slice none 0 0, .int .i64 1]) (by simp [results, Tryz.results32, go_sem]) rfl ⟨rfl, hb⟩
set_option maxRecDepth 100000 in
theorem xSum_badB {eo fo : Option Addr} {n ec m fc : Nat} {d f : Nat → Int} (w : World) (h : Row w eo n ec d) (hf : Row w fo m fc f) (hv : xval d n = true) (hu : xval f m = false) (H : Hold4 w) :
    Calls Tryz.prog 32 #[.slice eo n ec, .slice fo m fc] w fun r w' => r = .returned (.tuple #[.slice none 0 0, .int .i64 1]) ∧ Below w.heap.size w w' := by
  have CW := xwl_bad2 54 w h hf hv hu H
  go_enter Tryz.func32, Tryz.ntmps32
  go_wp2_with fail
  refine CW.mono ?_
  rintro _ w1 ⟨rfl, hb⟩
  go_wp2
  refine bodyPost_ret (v := .tuple #[.slice none 0 0, .int .i64 1]) (by simp [results, Tryz.results32, go_sem]) rfl ⟨rfl, hb⟩
set_option maxRecDepth 100000 in
theorem xDiff_badA {eo fo : Option Addr} {n ec m fc : Nat} {d f : Nat → Int} (w : World) (h : Row w eo n ec d) (hf : Row w fo m fc f) (hv : xval d n = false) (H : Hold4 w) :
    Calls Tryz.prog 33 #[.slice eo n ec, .slice fo m fc] w fun r w' => r = .returned (.tuple #[.slice none 0 0, .int .i64 1]) ∧ Below w.heap.size w w' := by
  have CW := xwl_bad 55 w h hf hv H
  go_enter Tryz.func33, Tryz.ntmps33
  go_wp2_with fail
  refine CW.mono ?_
  rintro _ w1 ⟨rfl, hb⟩
  go_wp2
  refine bodyPost_ret (v := .tuple #[.slice none 0 0, .int .i64 1]) (by simp [results, Tryz.results33, go_sem]) rfl ⟨rfl, hb⟩
set_option maxRecDepth 100000 in
theorem xDiff_badB {eo fo : Option Addr} {n ec m fc : Nat} {d f : Nat → Int} (w : World) (h : Row w eo n ec d) (hf : Row w fo m fc f) (hv : xval d n = true) (hu : xval f m = false) (H : Hold4 w) :
    Calls Tryz.prog 33 #[.slice eo n ec, .slice fo m fc] w fun r w' => r = .returned (.tuple #[.slice none 0 0, .int .i64 1]) ∧ Below w.heap.size w w' := by
  have CW := xwl_bad2 55 w h hf hv hu H
  go_enter Tryz.func33, Tryz.ntmps33
  go_wp2_with fail
  refine CW.mono ?_
  rintro _ w1 ⟨rfl, hb⟩
  go_wp2
  refine bodyPost_ret (v := .tuple #[.slice none 0 0, .int .i64 1]) (by simp [results, Tryz.results33, go_sem]) rfl ⟨rfl, hb⟩
set_option maxRecDepth 100000 in
theorem xProduct_badA {eo fo : Option Addr} {n ec m fc : Nat} {d f : Nat → Int} (w : World) (h : Row w eo n ec d) (hf : Row w fo m fc f) (hv : xval d n = false) (H : Hold4 w) :
    Calls Tryz.prog 34 #[.slice eo n ec, .slice fo m fc] w fun r w' => r = .returned (.tuple #[.slice none 0 0, .int .i64 1]) ∧ Below w.heap.size w w' := by
  have CW := xwl_bad 56 w h hf hv H
  go_enter Tryz.func34, Tryz.ntmps34
  go_wp2_with fail
  refine CW.mono ?_
  rintro _ w1 ⟨rfl, hb⟩
  go_wp2
  refine bodyPost_ret (v := .tuple #[.slice none 0 0, .int .i64 1]) (by simp [results, Tryz.results34, go_sem]) rfl ⟨rfl, hb⟩
set_option maxRecDepth 100000 in
theorem xProduct_badB {eo fo : Option Addr} {n ec m fc : Nat} {d f : Nat → Int} (w : World) (h : Row w eo n ec d) (hf : Row w fo m fc f) (hv : xval d n = true) (hu : xval f m = false) (H : Hold4 w) :
    Calls Tryz.prog 34 #[.slice eo n ec, .slice fo m fc] w fun r w' => r = .returned (.tuple #[.slice none 0 0, .int .i64 1]) ∧ Below w.heap.size w w' := by
  have CW := xwl_bad2 56 w h hf hv hu H
  go_enter Tryz.func34, Tryz.ntmps34
  go_wp2_with fail
  refine CW.mono ?_
  rintro _ w1 ⟨rfl, hb⟩
  go_wp2
  refine bodyPost_ret (v := .tuple #[.slice none 0 0, .int .i64 1]) (by simp [results, Tryz.results34, go_sem]) rfl ⟨rfl, hb⟩
end Go.Proofs.YtcpjdgfnblkfpaaGreatDoor
