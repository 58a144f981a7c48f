/-
  Package expansion: add, grow, with blocks that stay, by their contracts.
-/
import Derived.Test.YtcpjdgfnblkfpaaGreatDoorX7
import Derived.Test.YtcpjdgfnblkfpaaGreatDoorNKeep
import Derived.Lib.AppendZerosOnto
namespace Go.Proofs.YtcpjdgfnblkfpaaGreatDoor
open Go Go.RowKit Go.Proofs.YtcpjdgfnblkfpaaGreatDoor.M
set_option linter.unusedSimpArgs false
set_option linter.unusedVariables false

/-- The blocks P are there; they stay. -/
def PB (P : Nat → Prop) (w : World) : Prop := ∀ k, P k → k < w.heap.size
structure BelP (P : Nat → Prop) (w w' : World) : Prop where
  os : w'.os = w.os
  tape : w'.tape = w.tape
  output : w'.output = w.output
  size : w.heap.size ≤ w'.heap.size
  block : ∀ k, P k → w'.heap[k]? = w.heap[k]?
theorem BelP.refl (P : Nat → Prop) (w : World) : BelP P w w := ⟨rfl, rfl, rfl, Nat.le_refl _, fun _ _ => rfl⟩
theorem BelP.trans {P : Nat → Prop} {a b c : World} (h : BelP P a b) (k : BelP P b c) : BelP P a c :=
  ⟨k.os.trans h.os, k.tape.trans h.tape, k.output.trans h.output, Nat.le_trans h.size k.size, fun i hi => (k.block i hi).trans (h.block i hi)⟩
theorem BelP.of {P : Nat → Prop} {w w' : World} (h : Below w.heap.size w w') (hP : PB P w) : BelP P w w' := ⟨h.os, h.tape, h.output, h.size, fun k hk => h.block k (hP k hk)⟩
theorem PB.le {P : Nat → Prop} {w w' : World} (h : PB P w) (hs : w.heap.size ≤ w'.heap.size) : PB P w' := fun k hk => Nat.lt_of_lt_of_le (h k hk) hs
/-- A list of the call's own, of none of the blocks P. -/
def OutP (P : Nat → Prop) (w : World) (v : Value) (s : Ls) : Prop := Out 0 w v s.n s.d ∧ ∀ k, v.ownBlock = some k → ¬ P k
theorem OutP.shape {P : Nat → Prop} {w : World} {v : Value} {s : Ls} (h : OutP P w v s) : ∃ ao cap, v = .slice ao s.n cap := by
  obtain ⟨ao, cap, e, _⟩ := h.1.row
  exact ⟨ao, cap, e⟩
theorem OutP.stays {P : Nat → Prop} {w w' : World} {v : Value} {s : Ls} (h : OutP P w v s) (hb : Below w.heap.size w w') : OutP P w' v s := ⟨h.1.stays hb, h.2⟩
theorem OutP.gr {P : Nat → Prop} {w w' : World} {v : Value} {s : Ls} (h : OutP P w v s) (hP : PB P w) (g : w.grownBy w' v.ownBlock) : BelP P w w' :=
  ⟨g.os, g.tape, g.output, g.size, fun k hk => g.block k (hP k hk) fun e => h.2 k e.symm hk⟩
theorem wpList_appT {w : World} {ops : Array Oper} {rest : List Oper} {o : Oper} {a : Act} {Q : Exit → Act → World → Prop} (hgd : o.guard = none) (s x : Operand) (ho : o.op = .call { callee := .builtin .append, args := #[s, x], argTypes := #[35, 35] })
    (B : Nat) (v : Value) (n : Nat) (d : Nat → Int) (hs : a.eval s = v) (hO : Out B w v n d) (bo : Option Addr) (m cb : Nat) (e : Nat → Int) (hx : a.eval x = .slice bo m cb) (hR : Row w bo m cb e) (hlen : n + m ≤ 1000000) (hB : B ≤ w.heap.size)
    (h : ∀ v' w', Out B w' v' (n + m) (cat d n e) → w.grownBy w' v.ownBlock → (v'.ownBlock = v.ownBlock ∨ v'.ownBlock = some w.heap.size) → wpList Tryz.prog ops Q rest (a.put o.dst v') w') : wpList Tryz.prog ops Q (o :: rest) a w := by
  obtain ⟨v', w', hr, h2, h3, h4⟩ := run_app o.type B v n d hO bo m cb e hR hlen hB
  exact Lib.wpList_append_run w hgd s x _ _ ho v (.slice bo m cb) hs hx _ w' hr (h v' w' h2 h3 h4)
set_option maxRecDepth 100000 in
theorem xaddP {P : Nat → Prop} {v : Value} {s : Ls} {b : Int} (w : World) (h : OutP P w v s) (hb : rng b) (hn : s.n ≤ 900000) (hP : PB P w) :
    Calls Tryz.prog 117 #[v, .int .i64 b] w fun e w' => ∃ v', e = .returned v' ∧ OutP P w' v' (s.add b) ∧ BelP P w w' := by
  have hz := fun W => xnought hb W
  by_cases h0 : rg b = 0
  · have e : s.add b = s := by unfold Ls.add; rw [if_pos h0]
    rw [decide_eq_true h0] at hz
    rw [e]
    go_enter Tryz.func117, Tryz.ntmps117
    go_wp2_with (go_at_call 114; refine (hz _).mono ?_; rintro _ _ ⟨rfl, rfl⟩)
    go_ret
    exact ⟨v, rfl, h, BelP.refl _ _⟩
  · have e : s.add b = ⟨s.n + 1, upd s.d s.n b⟩ := by unfold Ls.add; rw [if_neg h0]
    rw [decide_eq_false h0] at hz
    rw [e]
    go_enter Tryz.func117, Tryz.ntmps117
    go_wp2_with (first
      | (go_at_call 114; refine (hz _).mono ?_; rintro _ _ ⟨rfl, rfl⟩)
      | (at_builtin; refine wpList_appT rfl _ _ rfl 0 _ s.n s.d rfl (h.1.stays (bel_alloc _ _)) _ 1 1 (fun _ => b) rfl (row1 _ _ rfl) (by omega) (Nat.zero_le _) ?_; intro v' w1 hO1 hg1 hat1))
    go_ret
    refine ⟨v', rfl, ⟨hO1.congr fun i hi => ?_, fun k hk => ?_⟩, h.gr hP (grown_past hg1)⟩
    · by_cases e : i < s.n
      · simp [cat, e, upd_other s.d _ (show i ≠ s.n by omega)]
      · obtain rfl : i = s.n := by omega
        simp [cat, upd_same]
    · rcases hat1 with q | q
      · exact h.2 k (q.symm.trans hk)
      · rw [hk] at q
        intro hPk
        have := hP k hPk
        simp at q
        omega
set_option maxRecDepth 100000 in
set_option maxHeartbeats 2000000 in
theorem xgrowP_some {P : Nat → Prop} {g n cap : Nat} {d : Nat → Int} {q : Int} (w : World) (h0 : OutP P w (.slice (some ⟨g, 0, none⟩) n cap) ⟨n, d⟩) (hd : ∀ i, i < n → rng (d i) ∧ pok (d i) = true) (hq : rng q) (pq : pok q = true) (hn : n ≤ 800000) (hP : PB P w) :
    Calls Tryz.prog 112 #[.slice (some ⟨g, 0, none⟩) n cap, .int .i64 q] w fun e w' => (gx d q n = true ∧ ∃ v', e = .returned v' ∧ OutP P w' v' (grw n d q) ∧ BelP P w w') ∨ (gx d q n = false ∧ e = gaveX ∧ BelP P w w') := by
  have h : Out 0 w (.slice (some ⟨g, 0, none⟩) n cap) n d := h0.1
  have HNP : Hid (¬ P g) := h0.2 g rfl
  have HPB : Hid (PB P w) := hP
  have HGP : Hid (∀ W, w.grownBy W (some g) → BelP P w W) := fun W hW => h0.gr hP hW
  clear h0 hP
  obtain ⟨hI, hnc, hcm, hBg⟩ := h.inB
  have HQ : Hid (∀ k, k ≤ n → gx d q k = true → rng (gq d q k) ∧ pok (gq d q k) = true) := gq_fin hd hq pq
  have HDD : Hid (∀ i, i < n → rng (d i) ∧ pok (d i) = true) := hd
  have hgl : g < w.heap.size := by obtain ⟨cur, h1, _⟩ := hI; exact (Array.getElem?_eq_some_iff.1 h1).1
  clear hd h hq pq
  go_enter Tryz.func112, Tryz.ntmps112
  go_wp2_with fail
  go_loopw [1, 5, 13] (fun qv gv iv wr => ∃ k : Nat, k ≤ n ∧ iv = .int .i64 k ∧ qv = .int .i64 (gq d q k) ∧ gv = .slice (some ⟨g, 0, none⟩) (gs d q k).n cap ∧ Hid (gx d q k = true) ∧ Hid (InB wr g cap n (gs d q k)) ∧ Hid (w.grownBy wr (some g))) (fun _ _ iv _ => n - (intOf iv).toNat)
  case atStart => exact ⟨0, Nat.zero_le _, rfl, rfl, rfl, rfl, hI, World.grownBy.refl _ _⟩
  case round =>
    obtain ⟨k, hk, rfl, rfl, rfl, HX, HI, HG⟩ := hrel
    clear hI
    have hsn := gs_le d q k
    by_cases hlt : k < n
    · obtain ⟨r1, r2⟩ := HQ.out k hk HX.out
      obtain ⟨d1, d2⟩ := HDD.out k hlt
      have c0 : wr.cell? ⟨g, k, none⟩ = some (.int .i64 (d k)) := by
        obtain ⟨cur, h1, h2, h3⟩ := HI.out
        rw [cell_of_row wr g k cur _ _ h1, h3 k hlt, gs_tail d q k k (Nat.le_refl _)]
      have CT : Hid (∀ W, Calls Tryz.prog 108 #[.int .i64 (gq d q k), .int .i64 (d k)] W fun e w' => e = .returned (.tuple #[.int .i64 (gq d q (k + 1)), .int .i64 (gl d q k), .bool (pok (gl d q k))]) ∧ Below W.heap.size W w') := fun W => xtwoSum r1 d1 r2 d2 W
      have rl : rng (gl d q k) := sL_rng r1 d1
      have i0 : (0 : Int) ≤ (k : Int) := by omega
      have i1 : (k : Int) < (n : Int) := by omega
      have HS : Hid (gs d q (k + 1) = (gs d q k).add (gl d q k)) := rfl
      have HXS : Hid (gx d q (k + 1) = (gx d q k && pok (gl d q k))) := rfl
      have HNO : Hid (pok (gl d q k) = false → gx d q n = false) := fun hno => by
        cases hx : gx d q n
        · rfl
        · have := gx_mono (show k + 1 ≤ n by omega) hx
          rw [HXS.out, hno, Bool.and_false] at this
          cases this
      obtain ⟨q', hq'⟩ : ∃ q', gq d q (k + 1) = q' := ⟨_, rfl⟩
      rw [hq'] at CT
      have HQ' : Hid (gq d q (k + 1) = q') := hq'
      clear hq'
      generalize gl d q k = l at *
      generalize gq d q k = q0 at *
      generalize hd0 : d k = dk at *
      have HD0 : Hid (d k = dk) := hd0
      clear hd0 r1 r2 d1 d2
      have CA := fun W h => xadd_in (g := g) (cap := cap) (N := n) (s := gs d q k) (b := l) W h rl (by omega)
      generalize hs0 : gs d q k = s0 at *
      have HS0 : Hid (gs d q k = s0) := hs0
      clear hs0
      cases hl : pok l
      · rw [hl] at CT
        go_wp2_with fail
        refine (CT.out _).mono ?_
        rintro _ w1 ⟨rfl, hb1⟩
        go_wp2_with fail
        refine (xsure_no _ _ _).mono ?_
        rintro _ _ ⟨rfl, rfl⟩
        unfold gaveX
        go_wp2
        exact ⟨rfl, .inr ⟨HNO.out hl, rfl, HGP.out _ (grown_bel2 HG.out hb1)⟩⟩
      · rw [hl] at CT
        go_wp2_with fail
        refine (CT.out _).mono ?_
        rintro _ w1 ⟨rfl, hb1⟩
        go_wp2_with fail
        refine (xsure_yes _ _ _).mono ?_
        rintro _ _ ⟨rfl, rfl⟩
        rename_i w1
        go_wp2_with fail
        refine (CA _ (HI.out.keeps hb1)).mono ?_
        rintro _ w2 ⟨rfl, hI2, hg2⟩
        go_wp2
        go_roundw
        case rel => exact ⟨k + 1, by omega, by go_num, by rw [HQ'.out], by rw [HS.out], by show _ = _; rw [HXS.out, HX.out, hl]; rfl, by show InB _ _ _ _ _; rw [HS.out]; exact hI2, xgr_trans (grown_bel2 HG.out hb1) hg2⟩
        case measure => simp [intOf]; omega
    · obtain rfl : k = n := by omega
      have hO : OutP P wr (.slice (some ⟨g, 0, none⟩) (gs d q k).n cap) (gs d q k) := ⟨HI.out.out (B := 0) hsn hnc (Nat.zero_le _) hcm, fun j hj => by cases hj; exact HNP.out⟩
      have HQ2 : Hid (rng (gq d q k) ∧ pok (gq d q k) = true) := HQ.out k hk HX.out
      have CA : Hid (∀ W, W = wr → Calls Tryz.prog 117 #[.slice (some ⟨g, 0, none⟩) (gs d q k).n cap, .int .i64 (gq d q k)] W fun e w' => ∃ v', e = .returned v' ∧ OutP P w' v' (grw k d q) ∧ BelP P W w') := fun W hW => by
        subst hW
        exact xaddP W hO HQ2.out.1 (by omega) (HPB.out.le HG.out.size)
      generalize gq d q k = q0 at *
      generalize gs d q k = s0 at *
      clear hO
      go_wp2_with fail
      refine (CA.out _ rfl).mono ?_
      rintro _ w2 ⟨v', rfl, hO2, hg2⟩
      go_wp2
      go_ret
      exact .inl ⟨HX.out, v', rfl, hO2, (HGP.out _ HG.out).trans hg2⟩
/-- grow of a list of the call's own. -/
theorem xgrowP {P : Nat → Prop} {v : Value} {s : Ls} {q : Int} (w : World) (h : OutP P w v s) (hd : s.fin) (hq : rng q) (pq : pok q = true) (hn : s.n ≤ 800000) (hP : PB P w) :
    Calls Tryz.prog 112 #[v, .int .i64 q] w fun e w' => (gx s.d q s.n = true ∧ ∃ v', e = .returned v' ∧ OutP P w' v' (grw s.n s.d q) ∧ BelP P w w') ∨ (gx s.d q s.n = false ∧ e = gaveX ∧ BelP P w w') := by
  obtain ⟨n, d⟩ := s
  rcases id h.1.2 with ⟨rfl, h0⟩ | ⟨g, cap, cur, rfl, _⟩
  · have h0' : n = 0 := h0
    subst h0'
    have CA : Hid (∀ W, W = w → Calls Tryz.prog 117 #[.slice none 0 0, .int .i64 q] W fun e w' => ∃ v', e = .returned v' ∧ OutP P w' v' (grw 0 d q) ∧ BelP P W w') := fun W hW => by
      subst hW
      exact xaddP (s := ⟨0, d⟩) W h hq (Nat.zero_le _) hP
    clear h hd hq pq
    go_enter Tryz.func112, Tryz.ntmps112
    go_wp2_with fail
    go_loopw [1, 5, 13] (fun qv gv iv wr => iv = .int .i64 0 ∧ qv = .int .i64 q ∧ gv = .slice none 0 0 ∧ wr = w) (fun _ _ iv _ => 0)
    case atStart => exact ⟨rfl, rfl, rfl, rfl⟩
    case round =>
      obtain ⟨rfl, rfl, rfl, rfl⟩ := hrel
      go_wp2_with fail
      refine (CA.out _ rfl).mono ?_
      rintro _ w2 ⟨v', rfl, hO2, hg2⟩
      go_wp2
      go_ret
      exact .inl ⟨rfl, v', rfl, hO2, hg2⟩
  · exact xgrowP_some w h hd hq pq hn hP
end Go.Proofs.YtcpjdgfnblkfpaaGreatDoor
