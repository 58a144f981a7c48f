/-
  Package apart: Floats, Parts, Expansion; expansion.Sign, by their contracts.
-/
import Derived.Test.YtcpjdgfnblkfpaaGreatDoorMSt
import Derived.Test.YtcpjdgfnblkfpaaGreatDoorXE
import Derived.Test.YtcpjdgfnblkfpaaGreatDoorXL
import Derived.Test.YtcpjdgfnblkfpaaGreatDoorXOm
import Derived.Test.YtcpjdgfnblkfpaaGreatDoorEStep2
namespace Go.Proofs.YtcpjdgfnblkfpaaGreatDoor
open Go Go.RowKit Go.Proofs.YtcpjdgfnblkfpaaGreatDoor.M
set_option linter.unusedSimpArgs false
set_option linter.unusedVariables false

theorem told_finM {p : Int} (h : pok p = true) : told p = p := by unfold told; rw [if_neg (q_fin h)]
set_option maxRecDepth 100000 in
theorem aFloats {p q : Int} (hp : Mz p) (hq : Mz q) (w : World) (H : Hold4 w) :
    Calls Tryz.prog 52 #[.int .i64 p, .int .i64 q] w fun r w' => r = .returned (.tuple #[.float .f64 (wd (fsum p (neg q))), .float .f64 (wd (sL p (neg q)))]) ∧ Below w.heap.size w w' := by
  obtain ⟨n1, n2, n3⟩ := neg_facts hq.1 hq.2.1
  have CT : Hid (∀ W, Hold4 W → Calls Tryz.prog 78 #[.int .i64 p, .int .i64 q] W fun e w' => e = .returned (.tuple #[.int .i64 (fsum p (neg q)), .int .i64 (sL p (neg q)), .bool (pok (sL p (neg q)))]) ∧ Below W.heap.size W w') := fun W h => by
    have := twoDiff_any hp.1 hq.1 W h.env.lays
    rw [told_finM hp.2.1, told_finM n2] at this
    exact this
  have C1 : Hid (∀ W, Calls Tryz.prog 50 #[.int .i64 (fsum p (neg q))] W fun e w' => e = .returned (.float .f64 (wd (fsum p (neg q)))) ∧ w' = W) := fun W => bitsFloat _ W
  have C2 : Hid (∀ W, Calls Tryz.prog 50 #[.int .i64 (sL p (neg q))] W fun e w' => e = .returned (.float .f64 (wd (sL p (neg q)))) ∧ w' = W) := fun W => bitsFloat _ W
  clear hp hq n1 n2 n3
  generalize wd (fsum p (neg q)) = Wa at *
  generalize wd (sL p (neg q)) = Wb at *
  generalize pok (sL p (neg q)) = Wc at *
  generalize fsum p (neg q) = a at *
  generalize sL p (neg q) = b at *
  go_enter Tryz.func52, Tryz.ntmps52
  go_wp2_with fail
  refine (CT.out _ H).mono ?_
  rintro _ y1 ⟨rfl, hw1⟩
  go_wp2_with fail
  refine (C1.out _).mono ?_
  rintro _ wz ⟨rfl, hwz⟩
  replace hwz := hwz.symm
  subst hwz
  go_wp2_with fail
  refine (C2.out _).mono ?_
  rintro _ wz ⟨rfl, hwz⟩
  replace hwz := hwz.symm
  subst hwz
  go_wp2
  exact bodyPost_ret (v := .tuple #[.float .f64 Wa, .float .f64 Wb]) (by simp [results, Tryz.results52, go_sem]) rfl ⟨rfl, hw1⟩
theorem nil_order {f : Int} (hf : rng f) (pf : pok f = true) : (rg f = 0 → FloatKind.f64.format.order (wd f) 0 = some .eq) ∧ (¬ rg f = 0 → FloatKind.f64.format.order (wd f) 0 = some .lt ∨ FloatKind.f64.format.order (wd f) 0 = some .gt) := by
  have r0 : rng 0 := by unfold rng; decide
  have p0 : pok 0 = true := by decide
  have k0 : key 0 = 0 := by decide
  have kz : key f = 0 ↔ rg f = 0 := by
    unfold key rg
    unfold rng at hf
    split <;> omega
  refine ⟨fun h => ?_, fun h => ?_⟩
  · have := q_eq hf r0 (q_fin pf) (q_fin p0) (by rw [k0]; exact kz.2 h)
    rw [wd_nil] at this
    exact this
  · rcases Int.lt_trichotomy (key f) 0 with g | g | g
    · have := q_lt hf r0 (q_fin pf) (q_fin p0) (by rw [k0]; exact g)
      rw [wd_nil] at this
      exact .inl this
    · exact absurd (kz.1 g) h
    · have := q_gt hf r0 (q_fin pf) (q_fin p0) (by rw [k0]; exact g)
      rw [wd_nil] at this
      exact .inr this
def s0L : Ls := ⟨0, fun _ => 0⟩
theorem grow_bel {N : Nat} {w w1 : World} {o : Obj} {v : Value} {s : Nat} {d : Nat → Int} (h : Out N w v s d) (g : (w.alloc o).grownBy w1 v.ownBlock) (hN : N ≤ w.heap.size) : Below N w w1 := by
  have ha := bel_alloc w o
  refine ⟨g.os.trans ha.os, g.tape.trans ha.tape, g.output.trans ha.output, Nat.le_trans ha.size g.size, fun k hk => ?_⟩
  have hk' := Nat.lt_of_lt_of_le hk hN
  refine (g.block k (Nat.lt_of_lt_of_le hk' ha.size) fun e => ?_).trans (ha.block k hk')
  have := (h.ge e.symm).1
  omega
theorem add_out {B : Nat} {w : World} {v : Value} {s : Ls} {b : Int} (h0 : ¬ rg b = 0) (h : Out B w v (s.n + 1) (cat s.d s.n (fun _ => b))) : Out B w v (s.add b).n (s.add b).d := by
  have e : s.add b = ⟨s.n + 1, upd s.d s.n b⟩ := by unfold Ls.add; rw [if_neg h0]
  rw [e]
  refine h.congr fun i hi => ?_
  by_cases e : i < s.n
  · simp [cat, e, upd_other s.d _ (show i ≠ s.n by omega)]
  · obtain rfl : i = s.n := by omega
    simp [cat, upd_same]
/-- The list behind k rounds. -/
def ptL (h t : Int) : Nat → Ls
  | 0 => s0L
  | 1 => s0L.add t
  | _ => (s0L.add t).add h
def ptF (h t : Int) (k : Nat) : Int := if k = 0 then t else h
theorem ptL_succ (h t : Int) {k : Nat} (hk : k < 2) : ptL h t (k + 1) = (ptL h t k).add (ptF h t k) := by
  match k, hk with
  | 0, _ => rfl
  | 1, _ => rfl
theorem ptL_n (h t : Int) : ∀ {k : Nat}, k ≤ 2 → (ptL h t k).n ≤ 2 := fun {k} hk => by
  have a1 : ∀ (s : Ls) (b : Int), (s.add b).n ≤ s.n + 1 := fun s b => (s.add_le b).2
  match k, hk with
  | 0, _ => exact Nat.zero_le _
  | 1, _ => exact Nat.le_trans (a1 _ _) (by show 0 + 1 ≤ 2; omega)
  | 2, _ => exact Nat.le_trans (a1 _ _) (Nat.succ_le_succ (a1 _ _))
set_option maxRecDepth 100000 in
set_option maxHeartbeats 1000000 in
theorem aParts {h t : Int} (rh : rng h) (ph : pok h = true) (rt : rng t) (pt : pok t = true) (w : World) :
    Calls Tryz.prog 51 #[.float .f64 (wd h), .float .f64 (wd t)] w fun r w' => ∃ v, r = .returned v ∧ Out w.heap.size w' v (ptL h t 2).n (ptL h t 2).d ∧ Below w.heap.size w w' := by
  have CO : Hid (∀ k W, k < 2 → Calls Tryz.prog 77 #[.float .f64 (wd (ptF h t k))] W fun e w' => e = .returned (.int .i64 (ptF h t k)) ∧ w' = W) := fun k W _ => by
    unfold ptF
    split
    · exact of_FW (FW.pat (q_fin pt) rt) W
    · exact of_FW (FW.pat (q_fin ph) rh) W
  have HN : Hid (∀ k, k < 2 → (rg (ptF h t k) = 0 → FloatKind.f64.format.order (wd (ptF h t k)) 0 = some .eq) ∧ (¬ rg (ptF h t k) = 0 → FloatKind.f64.format.order (wd (ptF h t k)) 0 = some .lt ∨ FloatKind.f64.format.order (wd (ptF h t k)) 0 = some .gt)) := fun k _ => by
    unfold ptF
    split
    · exact nil_order rt pt
    · exact nil_order rh ph
  have HR : Hid (∀ k, k < 2 → rng (ptF h t k)) := fun k _ => by unfold ptF; split <;> assumption
  have hix0 : ∀ w, (Instr.index 112 (.agg #[.float .f64 (wd t), .float .f64 (wd h)]) (.int .i64 0)).run Tryz.prog w = .ok (.float .f64 (wd t)) w := fun _ => by kernel_rfl
  have hix1 : ∀ w, (Instr.index 112 (.agg #[.float .f64 (wd t), .float .f64 (wd h)]) (.int .i64 1)).run Tryz.prog w = .ok (.float .f64 (wd h)) w := fun _ => by kernel_rfl
  clear rh ph rt pt
  go_enter Tryz.func51, Tryz.ntmps51
  go_wp2_with fail
  go_loopw [5, 11] (fun v i wr => ∃ k : Nat, k ≤ 2 ∧ i = .int .i64 k ∧ Hid (Out w.heap.size wr v (ptL h t k).n (ptL h t k).d) ∧ Below w.heap.size w wr) (fun _ i _ => 2 - (intOf i).toNat)
  case atStart => exact ⟨0, by omega, rfl, Out.nil _ _ _, bel_refl _⟩
  case round =>
    obtain ⟨k, hk, rfl, HO, hbw⟩ := hrel
    by_cases hlt : k < 2
    · rcases (show k = 0 ∨ k = 1 by omega) with rfl | rfl
      · have CK : Hid (∀ W, Calls Tryz.prog 77 #[.float .f64 (wd t)] W fun e w' => e = .returned (.int .i64 t) ∧ w' = W) := fun W => CO.out 0 W (by omega)
        have HK : (rg t = 0 → FloatKind.f64.format.order (wd t) 0 = some .eq) ∧ (¬ rg t = 0 → FloatKind.f64.format.order (wd t) 0 = some .lt ∨ FloatKind.f64.format.order (wd t) 0 = some .gt) := HN.out 0 (by omega)
        have rK : rng t := HR.out 0 (by omega)
        have hN := ptL_n h t (show 0 ≤ 2 by omega)
        by_cases h0 : rg t = 0
        · have ho := HK.1 h0
          have HE : Hid (ptL h t (0 + 1) = ptL h t 0) := (ptL_succ h t (by omega)).trans (if_pos h0)
          clear HK h0 CK
          go_wp2
          go_roundw
          case rel => exact ⟨0 + 1, by omega, by go_num, (show Out w.heap.size wr _ (ptL h t (0 + 1)).n (ptL h t (0 + 1)).d by rw [HE.out]; exact HO.out), hbw⟩
          case measure => simp [intOf]
        · have ho := HK.2 h0
          have HE : Hid (ptL h t (0 + 1) = (ptL h t 0).add t) := ptL_succ h t (by omega)
          have H0 : Hid (¬ rg t = 0) := h0
          clear HK h0
          rcases ho with ho | ho
          all_goals
            go_wp2_with (first
              | (go_at_call 77; refine (CK.out _).mono ?_; rintro _ wz ⟨rfl, hwz⟩; replace hwz := hwz.symm; subst hwz)
              | (at_builtin; refine wpList_app rfl _ _ rfl w.heap.size _ (ptL h t 0).n (ptL h t 0).d rfl (HO.out.stays (bel_alloc _ _)) _ 1 1 (fun _ => t) rfl (row1 _ _ rfl) (by omega) (Nat.le_trans hbw.size (bel_alloc _ _).size) ?_; intro v' w1 hO1 hg1))
            go_roundw
            case rel => exact ⟨0 + 1, by omega, by go_num, (show Out w.heap.size _ _ (ptL h t (0 + 1)).n (ptL h t (0 + 1)).d by rw [HE.out]; exact add_out H0.out hO1), hbw.trans (grow_bel HO.out hg1 hbw.size)⟩
            case measure => simp [intOf]
      · have CK : Hid (∀ W, Calls Tryz.prog 77 #[.float .f64 (wd h)] W fun e w' => e = .returned (.int .i64 h) ∧ w' = W) := fun W => CO.out 1 W (by omega)
        have HK : (rg h = 0 → FloatKind.f64.format.order (wd h) 0 = some .eq) ∧ (¬ rg h = 0 → FloatKind.f64.format.order (wd h) 0 = some .lt ∨ FloatKind.f64.format.order (wd h) 0 = some .gt) := HN.out 1 (by omega)
        have rK : rng h := HR.out 1 (by omega)
        have hN := ptL_n h t (show 1 ≤ 2 by omega)
        by_cases h0 : rg h = 0
        · have ho := HK.1 h0
          have HE : Hid (ptL h t (1 + 1) = ptL h t 1) := (ptL_succ h t (by omega)).trans (if_pos h0)
          clear HK h0 CK
          go_wp2
          go_roundw
          case rel => exact ⟨1 + 1, by omega, by go_num, (show Out w.heap.size wr _ (ptL h t (1 + 1)).n (ptL h t (1 + 1)).d by rw [HE.out]; exact HO.out), hbw⟩
          case measure => simp [intOf]
        · have ho := HK.2 h0
          have HE : Hid (ptL h t (1 + 1) = (ptL h t 1).add h) := ptL_succ h t (by omega)
          have H0 : Hid (¬ rg h = 0) := h0
          clear HK h0
          rcases ho with ho | ho
          all_goals
            go_wp2_with (first
              | (go_at_call 77; refine (CK.out _).mono ?_; rintro _ wz ⟨rfl, hwz⟩; replace hwz := hwz.symm; subst hwz)
              | (at_builtin; refine wpList_app rfl _ _ rfl w.heap.size _ (ptL h t 1).n (ptL h t 1).d rfl (HO.out.stays (bel_alloc _ _)) _ 1 1 (fun _ => h) rfl (row1 _ _ rfl) (by omega) (Nat.le_trans hbw.size (bel_alloc _ _).size) ?_; intro v' w1 hO1 hg1))
            go_roundw
            case rel => exact ⟨1 + 1, by omega, by go_num, (show Out w.heap.size _ _ (ptL h t (1 + 1)).n (ptL h t (1 + 1)).d by rw [HE.out]; exact add_out H0.out hO1), hbw.trans (grow_bel HO.out hg1 hbw.size)⟩
            case measure => simp [intOf]
    · obtain rfl : k = 2 := by omega
      go_wp2
      go_ret
      exact ⟨_, rfl, HO.out, hbw⟩
/-- A list that can be read. -/
def XLs (w : World) (v : Value) (s : Ls) : Prop := ∃ ao cap, v = .slice ao s.n cap ∧ Row w ao s.n cap s.d
theorem XLs.keeps {w w' : World} {v : Value} {s : Ls} (h : XLs w v s) (hb : Below w.heap.size w w') : XLs w' v s := by
  obtain ⟨ao, cap, e, hR⟩ := h
  exact ⟨ao, cap, e, hR.keeps hb⟩
set_option maxRecDepth 100000 in
theorem aExp {p q : Int} (hp : Mz p) (hq : Mz q) (w : World) (H : Hold4 w) :
    Calls Tryz.prog 31 #[.int .i64 p, .int .i64 q] w fun r w' => ∃ o c, r = .returned (.slice o (dfL p q).n c) ∧ XLs w' (.slice o (dfL p q).n c) (dfL p q) ∧ Below w.heap.size w w' := by
  obtain ⟨n1, n2, n3⟩ := neg_facts hq.1 hq.2.1
  obtain ⟨f1, f2⟩ := df_fin hp hq
  have CF : Hid (∀ W, Hold4 W → Calls Tryz.prog 52 #[.int .i64 p, .int .i64 q] W fun r w' => r = .returned (.tuple #[.float .f64 (wd (fsum p (neg q))), .float .f64 (wd (sL p (neg q)))]) ∧ Below W.heap.size W w') := fun W h => aFloats hp hq W h
  have CP : Hid (∀ W, Calls Tryz.prog 51 #[.float .f64 (wd (fsum p (neg q))), .float .f64 (wd (sL p (neg q)))] W fun r w' => ∃ o c, r = .returned (.slice o (dfL p q).n c) ∧ XLs w' (.slice o (dfL p q).n c) (dfL p q) ∧ Below W.heap.size W w') := fun W => by
    refine (aParts (fsum_rng hp.1 n1) f1 (sL_rng hp.1 n1) f2 W).mono ?_
    rintro _ w' ⟨v, rfl, hO, hb⟩
    obtain ⟨ao, cap, rfl, hR⟩ := hO.row
    exact ⟨ao, cap, rfl, ⟨ao, cap, rfl, hR⟩, hb⟩
  clear hp hq n1 n2 n3 f1 f2
  generalize dfL p q = L at *
  generalize wd (fsum p (neg q)) = Wa at *
  generalize wd (sL p (neg q)) = Wb at *
  go_enter Tryz.func31, Tryz.ntmps31
  go_wp2_with fail
  refine (CF.out _ H).mono ?_
  rintro _ y1 ⟨rfl, hw1⟩
  go_wp2_with fail
  refine (CP.out _).mono ?_
  rintro _ y2 ⟨o, c, rfl, hL, hw2⟩
  have hb := bel_trans hw1 hw2
  go_wp2
  go_ret
  exact ⟨o, c, rfl, hL, hb⟩
set_option maxRecDepth 100000 in
theorem msureL (o : Option Addr) (n c : Nat) (e : Int) (w : World) :
    Calls Tryz.prog 35 #[.slice o n c, .int .i64 e] w fun r w' => r = .returned (.slice o n c) ∧ Below w.heap.size w w' := by
  go_enter Tryz.func35, Tryz.ntmps35
  go_wp2
  go_ret
  exact ⟨rfl, bel_refl _⟩
set_option maxRecDepth 100000 in
theorem mexpansions (w : World) :
    Calls Tryz.prog 16 #[] w fun r w' => r = .returned (.agg #[.func (.func 31) #[] #[], .func (.func 32) #[] #[], .func (.func 33) #[] #[], .func (.func 34) #[] #[]]) ∧ Below w.heap.size w w' := by
  have hst : ∀ p F m w, (store p (.func (.func F) #[] #[]) m).run Tryz.prog w = stored Tryz.prog w p (.func (.func F) #[] #[]) m := fun p F m w => run_store _ w p _ m rfl
  go_enter Tryz.func16, Tryz.ntmps16
  go_wp2_with fail
  have r_j := heap_a1 w (.cells #[.func (.func 31) #[] #[], .func (.func 32) #[] #[], .func (.func 33) #[] #[], .func (.func 34) #[] #[]] 50)
  have k0 := blkC r_j 0 rfl
  have k1 := blkC r_j 1 rfl
  have k2 := blkC r_j 2 rfl
  have k3 := blkC r_j 3 rfl
  exact bodyPost_ret (v := .agg #[.func (.func 31) #[] #[], .func (.func 32) #[] #[], .func (.func 33) #[] #[], .func (.func 34) #[] #[]]) (by simp [results, Tryz.results16, go_sem, k0, k1, k2, k3]) rfl ⟨rfl, bel_alloc _ _⟩
theorem iV_lt {p : Int} (hp : rng p) (h : iV p ≠ 0) : iV p < 0 ↔ p < 0 := by
  obtain ⟨k1, k2⟩ := iV_key hp
  rw [k1]
  have hz : key p ≠ 0 := fun e => by
    have a := mt k1.1
    rcases Int.lt_trichotomy (iV p) 0 with g | g | g
    · have := k1.1 g; omega
    · exact h g
    · have := k2.1 g; omega
  unfold rng at hp
  by_cases c : p < 0
  · have e : key p = -(p + 9223372036854775808) := by unfold key; rw [if_pos c]
    rw [e] at hz ⊢
    omega
  · have e : key p = p := by unfold key; rw [if_neg c]
    rw [e]
set_option maxRecDepth 100000 in
set_option maxHeartbeats 1000000 in
theorem xSign {v : Value} {s : Ls} (w : World) (h : XLs w v s) (hx : XV s.d s.n) (H : Hold4 w) :
    Calls Tryz.prog 73 #[v] w fun r w' => r = .returned (.tuple #[.int .i64 (ord (lsm s.d s.n) 0), .int .i64 0]) ∧ Below w.heap.size w w' := by
  obtain ⟨ao, cap, rfl, hR⟩ := h
  obtain ⟨n, d⟩ := s
  simp only at *
  have hle := hR.le
  have hmx := hR.max
  have CV : Hid (∀ W, Below w.heap.size w W → Calls Tryz.prog 79 #[.slice ao n cap] W fun e w' => e = .returned (.bool true) ∧ Below W.heap.size W w') := fun W hb => by
    have := xvalid_any W (hR.keeps hb) (H.keeps hb)
    rw [xval_of hx] at this
    exact this
  cases n with
  | zero =>
    have e : ord (lsm d 0) 0 = 0 := by show ord 0 0 = 0; decide
    rw [e]
    go_enter Tryz.func73, Tryz.ntmps73
    go_wp2_with fail
    refine (CV.out _ (bel_refl _)).mono ?_
    rintro _ y1 ⟨rfl, hw1⟩
    go_wp2
    exact bodyPost_ret (v := .tuple #[.int .i64 0, .int .i64 0]) (by simp [results, Tryz.results73, go_sem]) rfl ⟨rfl, hw1⟩
  | succ n =>
    obtain ⟨s1, s2⟩ := lsm_sign hx
    have hr := (hx.fin n (by omega)).1
    have hne := hx.ne (show n < n + 1 by omega)
    have hl := iV_lt hr hne
    obtain ⟨b, off, rfl, hb, hc⟩ := hR.spot (by omega)
    have i0 : (0 : Int) ≤ (n : Int) := by omega
    have i1 : (n : Int) < ((n + 1 : Nat) : Int) := by omega
    have hidx : ((n + 1 : Nat) : Int) - 1 = (n : Int) := by omega
    by_cases hd : d n < 0
    · have e : ord (lsm d (n + 1)) 0 = -1 := by
        have : lsm d (n + 1) < 0 := s2.2 (hl.2 hd)
        unfold ord; rw [if_pos this]
      rw [e]
      have hdd : decide (d n < 0) = true := decide_eq_true hd
      clear s1 s2 hl hne hr e
      have HC : Hid (∀ W, Below w.heap.size w W → W.cell? ⟨b, off + n, none⟩ = some (.int .i64 (d n))) := fun W hw => (hw.cell (p := ⟨b, off + n, none⟩) hb).trans (hc n (by omega))
      clear hc hx hd
      go_enter Tryz.func73, Tryz.ntmps73
      go_wp2_with fail
      refine (CV.out _ (bel_refl _)).mono ?_
      rintro _ y1 ⟨rfl, hw1⟩
      have c1 := HC.out _ hw1
      go_wp2
      exact bodyPost_ret (v := .tuple #[.int .i64 (-1), .int .i64 0]) (by simp [results, Tryz.results73, go_sem]) rfl ⟨rfl, hw1⟩
    · have e : ord (lsm d (n + 1)) 0 = 1 := by
        have h1 : ¬ iV (d n) < 0 := fun q => hd (hl.1 q)
        have : 0 < lsm d (n + 1) := s1.2 (by omega)
        have h2 : ¬ lsm d (n + 1) < 0 := by omega
        unfold ord; rw [if_neg h2]; first | rw [if_pos this] | (simp [this]; omega)
      rw [e]
      have hdd : decide (d n < 0) = false := decide_eq_false hd
      clear s1 s2 hl hne hr e
      have HC : Hid (∀ W, Below w.heap.size w W → W.cell? ⟨b, off + n, none⟩ = some (.int .i64 (d n))) := fun W hw => (hw.cell (p := ⟨b, off + n, none⟩) hb).trans (hc n (by omega))
      clear hc hx hd
      go_enter Tryz.func73, Tryz.ntmps73
      go_wp2_with fail
      refine (CV.out _ (bel_refl _)).mono ?_
      rintro _ y1 ⟨rfl, hw1⟩
      have c1 := HC.out _ hw1
      go_wp2
      exact bodyPost_ret (v := .tuple #[.int .i64 1, .int .i64 0]) (by simp [results, Tryz.results73, go_sem]) rfl ⟨rfl, hw1⟩
end Go.Proofs.YtcpjdgfnblkfpaaGreatDoor
