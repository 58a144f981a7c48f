/-
  Package sites: sets that are filled with points one beside the other, by Add, From, From32.
-/
import Derived.Test.YtbljcodhcodmkaaDoorTLive
import Derived.Test.YtbljcodhcodmkaaDoorMathW
import Derived.Laws.FloatArith
namespace Go.Proofs.YtbljcodhcodmkaaDoor
open Go Go.RowKit Go.Proofs.YtbljcodhcodmkaaDoor.M
set_option linter.unusedSimpArgs false
set_option linter.unusedVariables false

/-- Places c 0, c 1, .. on one line, no two the same. -/
structure OkC (c : Nat → Int) : Prop where
  nr : ∀ j, j < 65541 → NrmP (c j) 0
  inj : ∀ i j, i < 65541 → j < 65541 → c i = c j → i = j
/-- The sites are the first n of them, each there. -/
structure Ch (c : Nat → Int) (n : Nat) (px py : Nat → Int) (al : Nat → Bool) : Prop where
  x : ∀ j, j < n → px j = c j
  y : ∀ j, j < n → py j = 0
  a : ∀ j, j < n → al j = true
theorem Ch.nil (c : Nat → Int) (px py : Nat → Int) (al : Nat → Bool) : Ch c 0 px py al := ⟨fun j hj => by omega, fun j hj => by omega, fun j hj => by omega⟩
theorem Ch.put {c : Nat → Int} {n : Nat} {px py : Nat → Int} {al : Nat → Bool} (h : Ch c n px py al) : Ch c (n + 1) (updT px n (c n)) (updT py n 0) (updT al n true) := by
  refine ⟨fun j hj => ?_, fun j hj => ?_, fun j hj => ?_⟩
  · by_cases e : j = n
    · subst e; exact updT_same _ _ _
    · rw [updT_other _ _ e]; exact h.x j (by omega)
  · by_cases e : j = n
    · subst e; exact updT_same _ _ _
    · rw [updT_other _ _ e]; exact h.y j (by omega)
  · by_cases e : j = n
    · subst e; exact updT_same _ _ _
    · rw [updT_other _ _ e]; exact h.a j (by omega)
theorem Ch.none {c : Nat → Int} {n : Nat} {px py : Nat → Int} {al : Nat → Bool} {f : Int → Int → Option Int} (h : Ch c n px py al) (S : StF n px py al f) (O : OkC c) {j : Nat} (hj : n ≤ j) (h2 : j < 65541) : f (c j) 0 = none := by
  cases hf : f (c j) 0 with
  | none => rfl
  | some v =>
    obtain ⟨i, hi, _, _, e3, _⟩ := S.back _ _ _ hf
    rw [h.x i hi] at e3
    have := O.inj i j (by omega) h2 e3
    omega
theorem addC {B : Nat} {w : World} {g n : Nat} {px py : Nat → Int} {al : Nat → Bool} {f : Int → Int → Option Int} {c : Nat → Int} (S : SetR B w g n n px py al f) (C : Ch c n px py al) (O : OkC c) (L : Lays w) (hB : B ≤ w.heap.size) (hn : n < 65536) :
    Calls Tryd.prog 7 #[.pointer (some ⟨g, 0, none⟩), .agg #[.int .i64 (c n), .int .i64 0]] w fun r w' => r = .returned (.tuple #[.int .i64 n, .int .i64 0]) ∧ ∃ px' py' al' f', SetR B w' g (n + 1) (n + 1) px' py' al' f' ∧ Ch c (n + 1) px' py' al' ∧ FrS B w w' := by
  have N := O.nr n (by omega)
  have := tAdd_new S L N.rx N.ry hB (by rw [N.ox, N.oy]; rfl) (by rw [N.zx, N.zy]; exact C.none S.stF O (Nat.le_refl _) (by omega)) hn
  rw [N.zx, N.zy] at this
  exact this.mono fun r w' q => ⟨q.1, _, _, _, _, q.2.1, C.put, q.2.2⟩
theorem addC_many {B : Nat} {w : World} {g n s : Nat} {px py : Nat → Int} {al : Nat → Bool} {f : Int → Int → Option Int} {c : Nat → Int} (S : SetR B w g n s px py al f) (C : Ch c n px py al) (O : OkC c) (L : Lays w) (hn : n = 65536) {j : Nat} (hj : 65536 ≤ j) (hj2 : j < 65541) :
    Calls Tryd.prog 7 #[.pointer (some ⟨g, 0, none⟩), .agg #[.int .i64 (c j), .int .i64 0]] w fun r w' => r = .returned (.tuple #[.int .i64 0, .int .i64 22]) ∧ Below w.heap.size w w' := by
  have N := O.nr j (by omega)
  exact tAdd_many S L N.rx N.ry (by rw [N.ox, N.oy]; rfl) (by rw [N.zx, N.zy]; exact C.none S.stF O (by omega) hj2) hn
/-- Points of binary64 one beside the other, from 1.0 on. -/
def cW (j : Nat) : Int := 4607182418800017408 + (j : Int)
theorem pok_lo {b : Int} (h0 : 0 ≤ b) (h : b < 9218868437227405312) : pok b = true := by unfold pok fld; simp; omega
theorem q0_lo {b : Int} (h0 : 0 ≤ b) : q0 b = b := by unfold q0; rw [if_neg (by omega)]
theorem nrm_lo {b : Int} (h0 : 0 ≤ b) (h : b < 9218868437227405312) : NrmP b 0 := ⟨by unfold rng; omega, by unfold rng; omega, pok_lo h0 h, by decide, q0_lo h0, by decide⟩
theorem okW : OkC cW := ⟨fun j hj => nrm_lo (by unfold cW; omega) (by unfold cW; omega), fun i j _ _ h => by unfold cW at h; omega⟩
/-- Points of binary32 one beside the other, from 1.0 on, and what they are as binary64. -/
def xN (j : Nat) : Int := 1065353216 + (j : Int)
def cN (j : Nat) : Int := wide (xN j)
theorem xN_ok {j : Nat} (hj : j < 65541) : pok32 (xN j) = true ∧ pneg32 (xN j) = false ∧ 0 ≤ xN j ∧ xN j ≤ 4294967295 ∧ cls32 (xN j) = 2 := by
  have hi : in32 (xN j) = true := decide_eq_true (by unfold xN; omega)
  have h1 : pok32 (xN j) = true := by unfold pok32; rw [hi]; unfold xN fld32; simp; omega
  refine ⟨h1, by unfold pneg32; rw [h1]; simp; unfold xN; omega, by unfold xN; omega, by unfold xN; omega, ?_⟩
  unfold cls32
  unfold xN
  unfold fld32 frc32
  repeat' split
  all_goals omega
theorem cN_jv {j : Nat} (hj : j < 65541) : cN j = jv 52 2047 (-1074) (pmag32 (xN j)) (pexp32 (xN j)) ∧ 0 ≤ cN j ∧ cN j < 9218868437227405312 := by
  obtain ⟨h1, h2, _⟩ := xN_ok hj
  obtain ⟨m0, m1, e0, e1⟩ := pmag32_le h1
  have hl := jv_le (mag := pmag32 (xN j)) (exp := pexp32 (xN j)) (by unfold rng; omega)
  have e : cN j = jv 52 2047 (-1074) (pmag32 (xN j)) (pexp32 (xN j)) := by
    unfold cN wide jp
    rw [h2, Bool.and_false, if_neg (by decide)]
  rw [e]
  exact ⟨rfl, hl.1, hl.2⟩
theorem okN : OkC cN := by
  refine ⟨fun j hj => nrm_lo (cN_jv hj).2.1 (cN_jv hj).2.2, fun i j hi hj h => ?_⟩
  rw [(cN_jv hi).1, (cN_jv hj).1] at h
  have k1 := wide_lt (xN_ok hi).1 (xN_ok hj).1
  have k2 := wide_lt (xN_ok hj).1 (xN_ok hi).1
  rw [h] at k1 k2
  have n1 : ¬ rg32 (xN i) < rg32 (xN j) := fun q => by have := k1.2 q; omega
  have n2 : ¬ rg32 (xN j) < rg32 (xN i) := fun q => by have := k2.2 q; omega
  have r : ∀ a : Nat, a < 65541 → rg32 (xN a) = xN a := fun a ha => by unfold rg32 xN; rw [if_pos (by omega)]
  rw [r i hi, r j hj] at n1 n2
  unfold xN at n1 n2
  omega
theorem tWide {j : Nat} (hj : j < 65541) (w : World) (L : Lays w) :
    Calls Tryd.prog 30 #[.int .i64 (xN j)] w fun r w' => r = .returned (.tuple #[.int .i64 (cN j), .int .i64 0]) ∧ Below w.heap.size w w' := by
  obtain ⟨h1, h2, h3, h4, h5⟩ := xN_ok hj
  have hwd : wd32 (xN j) = (xN j).toNat := by unfold wd32; rw [if_pos (show in32 (xN j) = true from decide_eq_true ⟨h3, by omega⟩)]
  have hcv : ∀ w, (convert 72 60 (.float .f32 (xN j).toNat)).run Tryd.prog w = .ok (.float .f64 (wd (cN j))) w := fun w =>
    run_convert_float_float w 72 60 .f32 .f64 (xN j).toNat _ (by rw [Tryd.underlying72]; rfl) Tryd.underlying60 (conv_wide h1)
  have CC : Hid (∀ W, Below w.heap.size w W → Calls Tryd.prog 34 #[.int .i64 (xN j)] W fun e w' => e = .returned (.int .i64 2) ∧ Below W.heap.size W w') := fun W hb => (bitsClass32 _ W (L.below' hb)).mono fun e w' q => ⟨by rw [q.1, h5], q.2.be⟩
  have CF : Hid (∀ W, Calls Tryd.prog 36 #[.int .i64 (xN j)] W fun e w' => e = .returned (.float .f32 (xN j).toNat) ∧ w' = W) := fun W => by
    have := bitsFloat32' (xN j) W
    rwa [hwd] at this
  have k0 := wide_key h1
  have k : rng (cN j) ∧ ¬ cls (cN j) = 4 := ⟨k0.1, k0.2.1⟩
  clear k0
  have CO : Hid (∀ W, Calls Tryd.prog 35 #[.float .f64 (wd (cN j))] W fun e w' => e = .returned (.int .i64 (cN j)) ∧ w' = W) := fun W => by
    have := bitsOf (cN j) W k.1
    have e : told (cN j) = cN j := by unfold told; rw [if_neg k.2]
    rwa [e] at this
  have d1 : decide (xN j < 0) = false := decide_eq_false (by omega)
  have d2 : decide (4294967295 < xN j) = false := decide_eq_false (by omega)
  have d3 : ¬ xN j < 0 := by omega
  have d4 : ¬ 4294967295 < xN j := by omega
  clear h1 h2 h3 h4 h5 hwd k
  generalize (xN j).toNat = Z at *
  generalize wd (cN j) = Y at *
  generalize cN j = c at *
  generalize xN j = x at *
  go_enter Tryd.func30, Tryd.ntmps30
  go_wp2_with fail
  refine (CC.out _ (bel_refl _)).mono ?_
  rintro _ y1 ⟨rfl, hw1⟩
  go_wp2_with fail
  refine (CF.out _).mono ?_
  rintro _ _ ⟨rfl, rfl⟩
  go_wp2_with fail
  refine (CO.out _).mono ?_
  rintro _ _ ⟨rfl, rfl⟩
  go_wp2
  exact bodyPost_ret (v := .tuple #[.int .i64 c, .int .i64 0]) (by simp [results, Tryd.results30, go_sem]) rfl ⟨rfl, hw1⟩
theorem tWide0 (w : World) (L : Lays w) :
    Calls Tryd.prog 30 #[.int .i64 0] w fun r w' => r = .returned (.tuple #[.int .i64 0, .int .i64 0]) ∧ Below w.heap.size w w' := by
  have CC : Hid (∀ W, Below w.heap.size w W → Calls Tryd.prog 34 #[.int .i64 0] W fun e w' => e = .returned (.int .i64 0) ∧ Below W.heap.size W w') := fun W hb => (bitsClass32 _ W (L.below' hb)).mono fun e w' q => ⟨by rw [q.1]; rfl, q.2.be⟩
  have CF : Hid (∀ W, Calls Tryd.prog 36 #[.int .i64 0] W fun e w' => e = .returned (.float .f32 0) ∧ w' = W) := fun W => by
    have := bitsFloat32' 0 W
    rwa [show wd32 0 = 0 by decide] at this
  have CO : Hid (∀ W, Calls Tryd.prog 35 #[.float .f64 0] W fun e w' => e = .returned (.int .i64 0) ∧ w' = W) := fun W => by
    have := bitsOf 0 W (by unfold rng; omega)
    rwa [show told 0 = 0 by decide, show wd 0 = 0 by decide] at this
  have hcv : ∀ w, (convert 72 60 (.float .f32 0)).run Tryd.prog w = .ok (.float .f64 0) w := fun _ => by kernel_rfl
  go_enter Tryd.func30, Tryd.ntmps30
  go_wp2_with fail
  refine (CC.out _ (bel_refl _)).mono ?_
  rintro _ y1 ⟨rfl, hw1⟩
  go_wp2_with fail
  refine (CF.out _).mono ?_
  rintro _ _ ⟨rfl, rfl⟩
  go_wp2_with fail
  refine (CO.out _).mono ?_
  rintro _ _ ⟨rfl, rfl⟩
  go_wp2
  exact bodyPost_ret (v := .tuple #[.int .i64 0, .int .i64 0]) (by simp [results, Tryd.results30, go_sem]) rfl ⟨rfl, hw1⟩
set_option maxRecDepth 100000 in
theorem tWidened {j : Nat} (hj : j < 65541) (w : World) (L : Lays w) :
    Calls Tryd.prog 24 #[.agg #[.int .i64 (xN j), .int .i64 0]] w fun r w' => r = .returned (.tuple #[.agg #[.int .i64 (cN j), .int .i64 0], .int .i64 0]) ∧ Below w.heap.size w w' := by
  have CX : Hid (∀ W, Below w.heap.size w W → Calls Tryd.prog 30 #[.int .i64 (xN j)] W fun r w' => r = .returned (.tuple #[.int .i64 (cN j), .int .i64 0]) ∧ Below W.heap.size W w') := fun W hb => tWide hj W (L.below' hb)
  have CY : Hid (∀ W, Below w.heap.size w W → Calls Tryd.prog 30 #[.int .i64 0] W fun r w' => r = .returned (.tuple #[.int .i64 0, .int .i64 0]) ∧ Below W.heap.size W w') := fun W hb => tWide0 W (L.below' hb)
  generalize cN j = c at *
  generalize xN j = x at *
  have esz : (w.alloc (.cells #[.int .i64 x, .int .i64 0] 31)).heap.size = w.heap.size + 1 := by simp
  have hb0 := bel_alloc2 w (.cells #[.int .i64 x, .int .i64 0] 31) (.cells #[.int .i64 0, .int .i64 0] 31)
  have p_k := t_past (.cells #[.int .i64 0, .int .i64 0] 31) (t_new w (.cells #[.int .i64 x, .int .i64 0] 31))
  have r_k := t_new (w.alloc (.cells #[.int .i64 x, .int .i64 0] 31)) (.cells #[.int .i64 0, .int .i64 0] 31)
  rw [esz] at r_k
  obtain ⟨c0, c1, _, _⟩ := t_blkC p_k
  clear esz
  go_enter Tryd.func24, Tryd.ntmps24
  go_wp2_with fail
  clear c0 c1
  generalize (w.alloc (.cells #[.int .i64 x, .int .i64 0] 31)).alloc (.cells #[.int .i64 0, .int .i64 0] 31) = x0 at *
  refine (CX.out _ hb0).mono ?_
  rintro _ y1 ⟨rfl, hw1⟩
  replace p_k := (hw1.block _ (Array.getElem?_eq_some_iff.1 p_k).1).trans p_k
  replace r_k := (hw1.block _ (Array.getElem?_eq_some_iff.1 r_k).1).trans r_k
  replace hb0 := bel_trans hb0 hw1
  obtain ⟨c0, c1, _, _⟩ := t_blkC p_k
  go_wp2_with fail
  clear c0 c1
  refine (CY.out _ hb0).mono ?_
  rintro _ y2 ⟨rfl, hw2⟩
  replace r_k := (hw2.block _ (Array.getElem?_eq_some_iff.1 r_k).1).trans r_k
  replace hb0 := bel_trans hb0 hw2
  obtain ⟨c0, c1, z0, z1⟩ := t_blkC r_k
  go_wp2
  have k_j := q_heap_set (q_heap_set r_k 0 (.int .i64 c)) 1 (.int .i64 0)
  obtain ⟨k0, k1, _, _⟩ := t_blkC k_j
  exact bodyPost_ret (v := .tuple #[.agg #[.int .i64 c, .int .i64 0], .int .i64 0]) (by simp [results, Tryd.results24, go_sem, k0, k1]) rfl ⟨rfl, (hb0.setCell (Nat.le_succ _) _).setCell (Nat.le_succ _) _⟩
/-- A set that is gathered from points one beside the other: what is told of it. -/
def GaR (w : World) (m : Nat) (r : Ending) (w' : World) : Prop :=
  ((m ≤ 65536 ∧ ∃ g px py al f, r = .returned (.tuple #[.pointer (some ⟨g, 0, none⟩), .int .i64 0, .int .i64 0]) ∧ SetR w.heap.size w' g m m px py al f) ∨ (65536 < m ∧ r = .returned (.tuple #[.pointer none, .int .i64 65536, .int .i64 22]))) ∧ Below w.heap.size w w'
set_option maxRecDepth 100000 in
set_option maxHeartbeats 2000000 in
theorem tGath {F : Nat} {x c : Nat → Int} (O : OkC c) {ao : Option Addr} {m cap : Nat} (w : World) (hm : m ≤ 65540) (R : PtS w ao m cap x (fun _ => 0)) (L : Lays w) (hE : ∀ (cp : Array Value) (w : World), (callFunc F cp).run Tryd.prog w = .ok (.enter F cp) w)
    (hF : ∀ j, j < m → ∀ W, Below w.heap.size w W → Calls Tryd.prog F #[.agg #[.int .i64 (x j), .int .i64 0]] W fun r w' => r = .returned (.tuple #[.agg #[.int .i64 (c j), .int .i64 0], .int .i64 0]) ∧ Below W.heap.size W w') :
    Calls Tryd.prog 23 #[.slice ao m cap, .func (.func F) #[] #[]] w fun r w' => GaR w m r w' := by
  have CN : Hid (Calls Tryd.prog 6 #[] w fun r w' => r = .returned (.pointer (some ⟨w.heap.size, 0, none⟩)) ∧ SetR w.heap.size w' w.heap.size 0 0 (fun _ => 0) (fun _ => 0) (fun _ => false) (fun _ _ => none) ∧ Below w.heap.size w w') := tNew w
  have HL : Hid (∀ W, Below w.heap.size w W → Lays W) := fun W hb => L.below' hb
  have HF := hideIt hF
  have HR := hideIt R
  have hla := R.le
  have hma := R.max
  clear hF R L
  go_enter Tryd.func23, Tryd.ntmps23
  go_wp2_with fail
  refine CN.out.mono ?_
  rintro _ u1 ⟨rfl, S1, hu1⟩
  have HS1 := hideIt S1
  obtain ⟨g, hg⟩ : ∃ g, g = w.heap.size := ⟨_, rfl⟩
  have HS2 : Hid (SetR w.heap.size u1 g 0 0 (fun _ => 0) (fun _ => 0) (fun _ => false) (fun _ _ => none)) := by rw [hg]; exact S1
  rw [← hg]
  clear S1 CN HS1 hg
  go_wp2_with fail
  go_loopw [15] (fun iv wr => ∃ (k : Nat) (px py : Nat → Int) (al : Nat → Bool) (f : Int → Int → Option Int), k ≤ m ∧ k ≤ 65536 ∧ iv = .int .i64 k ∧ Hid (SetR w.heap.size wr g k k px py al f) ∧ Hid (Ch c k px py al) ∧ Below w.heap.size w wr) (fun iv _ => m - (intOf iv).toNat)
  case atStart => exact ⟨0, _, _, _, _, Nat.zero_le _, Nat.zero_le _, (by first | rfl | simp), HS2, Ch.nil _ _ _ _, hu1⟩
  case round =>
    obtain ⟨k, px, py, al, f, hk, hk2, rfl, HS, HC, hbw⟩ := hrel
    by_cases hlt : k < m
    · have i0 : (0 : Int) ≤ (k : Int) := by omega
      have i1 : (k : Int) < (m : Int) := by omega
      obtain ⟨ba, oa, rfl, hba, hca⟩ := HR.out.spot (by omega)
      have x0 := (hbw.cell (p := ⟨ba, oa + k * 2, none⟩) hba).trans (hca k hlt).1
      have x1 := (hbw.cell (p := ⟨ba, oa + k * 2 + 1, none⟩) hba).trans (hca k hlt).2
      have CF : Hid (∀ W, Below w.heap.size w W → Calls Tryd.prog F #[.agg #[.int .i64 (x k), .int .i64 0]] W fun r w' => r = .returned (.tuple #[.agg #[.int .i64 (c k), .int .i64 0], .int .i64 0]) ∧ Below W.heap.size W w') := HF.out k hlt
      clear hca hba
      have ob := HC.out
      generalize x k = X at *
      have hb1 := hbw.trans ((bel_alloc wr (.cells #[.int .i64 X, .int .i64 0] 31)).mono hbw.size)
      have p_k := t_new wr (.cells #[.int .i64 X, .int .i64 0] 31)
      have hS1 := HS.out.keeps (bel_alloc wr (.cells #[.int .i64 X, .int .i64 0] 31))
      obtain ⟨c0, c1, _, _⟩ := t_blkC p_k
      go_wp2_with fail
      clear c0 c1 x0 x1 p_k
      generalize wr.alloc (.cells #[.int .i64 X, .int .i64 0] 31) = w1 at *
      refine (CF.out _ hb1).mono ?_
      rintro _ w2 ⟨rfl, hw2⟩
      have hb3 := hb1.trans ((bel_trans hw2 (bel_alloc w2 (.cells #[.int .i64 (c k), .int .i64 0] 31))).mono hb1.size)
      have hS3 := hS1.keeps (bel_trans hw2 (bel_alloc w2 (.cells #[.int .i64 (c k), .int .i64 0] 31)))
      obtain ⟨c0, c1, _, _⟩ := t_blkC (t_new w2 (.cells #[.int .i64 (c k), .int .i64 0] 31))
      by_cases hl6 : k < 65536
      · have CA := hideIt (addC hS3 HC.out O (HL.out _ hb3) hb3.size hl6)
        clear hS3 hS1 ob
        generalize c k = CK at *
        go_wp2_with fail
        clear c0 c1
        generalize w2.alloc (.cells #[.int .i64 CK, .int .i64 0] 31) = w3 at *
        refine CA.out.mono ?_
        rintro _ w4 ⟨rfl, px', py', al', f', S4, C4, F4⟩
        have hb4 := hb3.trans (F4.below hb3.size)
        have HS4 := hideIt S4
        have HC4 := hideIt C4
        clear S4 C4
        go_wp2
        go_roundw
        case rel => exact ⟨k + 1, px', py', al', f', by omega, by omega, by go_num, HS4.out, HC4.out, hb4⟩
        case measure => simp [intOf]; omega
      · obtain rfl : k = 65536 := by omega
        have CA := hideIt (addC_many hS3 HC.out O (HL.out _ hb3) rfl (j := 65536) (by omega) (by omega))
        clear hS3 hS1 ob
        generalize c 65536 = CK at *
        go_wp2_with fail
        clear c0 c1
        generalize w2.alloc (.cells #[.int .i64 CK, .int .i64 0] 31) = w3 at *
        refine CA.out.mono ?_
        rintro _ w4 ⟨rfl, hw4⟩
        go_wp2
        exact bodyPost_ret (v := .tuple #[.pointer none, .int .i64 65536, .int .i64 22]) (by simp [results, Tryd.results23, go_sem]) rfl ⟨.inr ⟨hlt, rfl⟩, hb3.trans (hw4.mono hb3.size)⟩
    · obtain rfl : k = m := by omega
      have i1 : ¬ (k : Int) < (k : Int) := by omega
      go_wp2
      exact bodyPost_ret (v := .tuple #[.pointer (some ⟨g, 0, none⟩), .int .i64 0, .int .i64 0]) (by simp [results, Tryd.results23, go_sem]) rfl ⟨.inl ⟨hk2, _, _, _, _, _, rfl, HS.out⟩, hbw⟩
end Go.Proofs.YtbljcodhcodmkaaDoor
