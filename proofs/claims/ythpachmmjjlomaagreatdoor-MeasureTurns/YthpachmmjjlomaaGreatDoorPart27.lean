/-
  Parts of the proof, one behind another.
-/
import Derived.Test.YthpachmmjjlomaaGreatDoorPart20
import Derived.Test.YthpachmmjjlomaaGreatDoorPart19
import Derived.Test.YthpachmmjjlomaaGreatDoorPart26
namespace Go.Proofs.YthpachmmjjlomaaGreatDoor
open Go Go.RowKit Go.Proofs.YthpachmmjjlomaaGreatDoor.M
set_option linter.unusedSimpArgs false
set_option linter.unusedVariables false
set_option maxRecDepth 100000 in
set_option maxHeartbeats 2000000 in
theorem mAngle_walk {ax ay bx by' cx cy : Int} {V U E : Int} (w : World) (H : Hold4 w) (hV : ∀ (W : World) (ga gb gc gl : Nat), Hold4 W -> W.heap[ga]? = some (.cells #[.int .i64 ax, .int .i64 ay] 23) -> W.heap[gb]? = some (.cells #[.int .i64 bx, .int .i64 by'] 23) -> W.heap[gc]? = some (.cells #[.int .i64 cx, .int .i64 cy] 23) -> W.heap[gl]? = some (.cells #[.int .i64 ax, .int .i64 ay, .int .i64 bx, .int .i64 by', .int .i64 cx, .int .i64 cy] 23) -> Calls Tryz.prog 25 #[.agg #[.func (.func 26) #[] #[.pointer (some ⟨ga, 0, none⟩), .pointer (some ⟨gb, 0, none⟩), .pointer (some ⟨gc, 0, none⟩)], .func (.func 29) #[] #[.pointer (some ⟨ga, 0, none⟩), .pointer (some ⟨gb, 0, none⟩), .pointer (some ⟨gc, 0, none⟩)], .func (.func 31) #[] #[.pointer (some ⟨ga, 0, none⟩), .pointer (some ⟨gb, 0, none⟩), .pointer (some ⟨gc, 0, none⟩)], .func (.func 33) #[] #[.pointer (some ⟨ga, 0, none⟩), .pointer (some ⟨gb, 0, none⟩), .pointer (some ⟨gc, 0, none⟩)]], .slice (some ⟨gl, 0, none⟩) 3 3] W fun r w' => r = .returned (.tuple #[.agg #[.int .i64 V, .int .i64 U], .int .i64 E]) ∧ Below W.heap.size W w') :
    Calls Tryz.prog 7 #[.agg #[.int .i64 ax, .int .i64 ay], .agg #[.int .i64 bx, .int .i64 by'], .agg #[.int .i64 cx, .int .i64 cy]] w fun r w' => r = .returned (.tuple #[.agg #[.int .i64 V, .int .i64 U], .int .i64 E]) ∧ Below w.heap.size w w' := by
  have HV : Hid (∀ (W : World) (ga gb gc gl : Nat), Hold4 W -> W.heap[ga]? = some (.cells #[.int .i64 ax, .int .i64 ay] 23) -> W.heap[gb]? = some (.cells #[.int .i64 bx, .int .i64 by'] 23) -> W.heap[gc]? = some (.cells #[.int .i64 cx, .int .i64 cy] 23) -> W.heap[gl]? = some (.cells #[.int .i64 ax, .int .i64 ay, .int .i64 bx, .int .i64 by', .int .i64 cx, .int .i64 cy] 23) -> Calls Tryz.prog 25 #[.agg #[.func (.func 26) #[] #[.pointer (some ⟨ga, 0, none⟩), .pointer (some ⟨gb, 0, none⟩), .pointer (some ⟨gc, 0, none⟩)], .func (.func 29) #[] #[.pointer (some ⟨ga, 0, none⟩), .pointer (some ⟨gb, 0, none⟩), .pointer (some ⟨gc, 0, none⟩)], .func (.func 31) #[] #[.pointer (some ⟨ga, 0, none⟩), .pointer (some ⟨gb, 0, none⟩), .pointer (some ⟨gc, 0, none⟩)], .func (.func 33) #[] #[.pointer (some ⟨ga, 0, none⟩), .pointer (some ⟨gb, 0, none⟩), .pointer (some ⟨gc, 0, none⟩)]], .slice (some ⟨gl, 0, none⟩) 3 3] W fun r w' => r = .returned (.tuple #[.agg #[.int .i64 V, .int .i64 U], .int .i64 E]) ∧ Below W.heap.size W w') := hV
  clear hV
  have hst : ∀ p F c m w, (store p (.func (.func F) #[] c) m).run Tryz.prog w = stored Tryz.prog w p (.func (.func F) #[] c) m := fun p F c m w => run_store _ w p _ m rfl
  obtain ⟨hb0, a_k, b_k, c_k, r_k, s_k, hsz0⟩ := blks5 w (.cells #[.int .i64 ax, .int .i64 ay] 23) (.cells #[.int .i64 bx, .int .i64 by'] 23) (.cells #[.int .i64 cx, .int .i64 cy] 23) (.cells #[.int .i64 0, .int .i64 0] 28) (.cells #[.func (.func 26) #[] #[.pointer (some ⟨w.heap.size, 0, none⟩), .pointer (some ⟨w.heap.size + 1, 0, none⟩), .pointer (some ⟨w.heap.size + 1 + 1, 0, none⟩)], .func (.func 29) #[] #[.pointer (some ⟨w.heap.size, 0, none⟩), .pointer (some ⟨w.heap.size + 1, 0, none⟩), .pointer (some ⟨w.heap.size + 1 + 1, 0, none⟩)], .func (.func 31) #[] #[.pointer (some ⟨w.heap.size, 0, none⟩), .pointer (some ⟨w.heap.size + 1, 0, none⟩), .pointer (some ⟨w.heap.size + 1 + 1, 0, none⟩)], .func (.func 33) #[] #[.pointer (some ⟨w.heap.size, 0, none⟩), .pointer (some ⟨w.heap.size + 1, 0, none⟩), .pointer (some ⟨w.heap.size + 1 + 1, 0, none⟩)]] 71)
  have hsz : Hid _ := hideIt hsz0
  clear hsz0
  have f_a0 := blkC a_k 0 rfl
  have f_a1 := blkC a_k 1 rfl
  have f_b0 := blkC b_k 0 rfl
  have f_b1 := blkC b_k 1 rfl
  have f_c0 := blkC c_k 0 rfl
  have f_c1 := blkC c_k 1 rfl
  have f_s0 := blkC s_k 0 rfl
  have f_s1 := blkC s_k 1 rfl
  have f_s2 := blkC s_k 2 rfl
  have f_s3 := blkC s_k 3 rfl
  go_enter Tryz.func7, Tryz.ntmps7
  go_wp2_with fail
  clear f_a0 f_a1 f_b0 f_b1 f_c0 f_c1 f_s0 f_s1 f_s2 f_s3
  generalize (((((w.alloc (.cells #[.int .i64 ax, .int .i64 ay] 23)).alloc (.cells #[.int .i64 bx, .int .i64 by'] 23)).alloc (.cells #[.int .i64 cx, .int .i64 cy] 23)).alloc (.cells #[.int .i64 0, .int .i64 0] 28)).alloc (.cells #[.func (.func 26) #[] #[.pointer (some ⟨w.heap.size, 0, none⟩), .pointer (some ⟨w.heap.size + 1, 0, none⟩), .pointer (some ⟨w.heap.size + 1 + 1, 0, none⟩)], .func (.func 29) #[] #[.pointer (some ⟨w.heap.size, 0, none⟩), .pointer (some ⟨w.heap.size + 1, 0, none⟩), .pointer (some ⟨w.heap.size + 1 + 1, 0, none⟩)], .func (.func 31) #[] #[.pointer (some ⟨w.heap.size, 0, none⟩), .pointer (some ⟨w.heap.size + 1, 0, none⟩), .pointer (some ⟨w.heap.size + 1 + 1, 0, none⟩)], .func (.func 33) #[] #[.pointer (some ⟨w.heap.size, 0, none⟩), .pointer (some ⟨w.heap.size + 1, 0, none⟩), .pointer (some ⟨w.heap.size + 1 + 1, 0, none⟩)]] 71)) = x0 at hb0 a_k b_k c_k r_k s_k hsz ⊢
  have l_k := heap_new (.cells #[.int .i64 ax, .int .i64 ay, .int .i64 bx, .int .i64 by', .int .i64 cx, .int .i64 cy] 23) hsz.out.symm
  replace a_k := heap_past (.cells #[.int .i64 ax, .int .i64 ay, .int .i64 bx, .int .i64 by', .int .i64 cx, .int .i64 cy] 23) a_k
  replace b_k := heap_past (.cells #[.int .i64 ax, .int .i64 ay, .int .i64 bx, .int .i64 by', .int .i64 cx, .int .i64 cy] 23) b_k
  replace c_k := heap_past (.cells #[.int .i64 ax, .int .i64 ay, .int .i64 bx, .int .i64 by', .int .i64 cx, .int .i64 cy] 23) c_k
  replace r_k := heap_past (.cells #[.int .i64 ax, .int .i64 ay, .int .i64 bx, .int .i64 by', .int .i64 cx, .int .i64 cy] 23) r_k
  replace hb0 := bel_trans hb0 (bel_alloc x0 (.cells #[.int .i64 ax, .int .i64 ay, .int .i64 bx, .int .i64 by', .int .i64 cx, .int .i64 cy] 23))
  replace H := H.keeps hb0
  refine (HV.out _ _ _ _  _ H a_k b_k c_k l_k).mono ?_
  rintro _ y1 ⟨rfl, hw1⟩
  replace r_k := blk_on hw1 r_k
  replace hb0 := bel_trans hb0 hw1
  have k0 := blkC r_k 0 rfl
  have k1 := blkC r_k 1 rfl
  have z0 := blkF r_k 0
  have z1 := blkF r_k 1
  go_wp2
  exact bodyPost_ret (v := .tuple #[.agg #[.int .i64 V, .int .i64 U], .int .i64 E]) (by simp [results, Tryz.results7, go_sem, k0, k1]) rfl ⟨rfl, ((hb0.setCell (p := ⟨w.heap.size + 3, 0, none⟩) (show w.heap.size <= w.heap.size + 3 by omega) _).setCell (p := ⟨w.heap.size + 3, 1, none⟩) (show w.heap.size <= w.heap.size + 3 by omega) _)⟩
def dotX (ax ay bx by' cx cy : Int) : Int := (iV ax - iV bx) * (iV cx - iV bx) + (iV ay - iV by') * (iV cy - iV by')
theorem pat_dif {p q : Int} (hp : rng p) (hq : rng q) (pp : pok p = true) (pq : pok q = true) : patV p - patV q = (iV p - iV q) * pw (-1074) := by
  rw [patV_iV hp pp, patV_iV hq pq, Int.sub_mul]
theorem prod_scale (x y : Int) : (x * y * pw (-2148)) * 2 ^ 4194304 = (x * pw (-1074)) * (y * pw (-1074)) := by
  have h := pw_mul (a := -1074) (b := -1074) (by omega) (by omega)
  rw [show (-1074 : Int) + -1074 = -2148 by decide] at h
  generalize pw (-2148) = P at *
  generalize pw (-1074) = Q at *
  generalize (2 : Int) ^ 4194304 = Z at *
  have e : (x * Q) * (y * Q) = x * y * (Q * Q) := by grind
  rw [e, h]
  grind
theorem dot2_X {ax ay bx by' cx cy : Int} (rax : rng ax) (ray : rng ay) (rbx : rng bx) (rby : rng by') (rcx : rng cx) (rcy : rng cy) (pax : pok ax = true) (pay : pok ay = true) (pbx : pok bx = true) (pby : pok by' = true) (pcx : pok cx = true) (pcy : pok cy = true) :
    Dot2 (patV ax - patV bx) (patV ay - patV by') (patV cx - patV bx) (patV cy - patV by') (dotX ax ay bx by' cx cy * pw (-2148)) := by
  rw [pat_dif rax rbx pax pbx, pat_dif ray rby pay pby, pat_dif rcx rbx pcx pbx, pat_dif rcy rby pcy pby]
  exact ⟨_, _, prod_scale _ _, prod_scale _ _, by unfold dotX; rw [Int.add_mul]⟩
theorem ord_mulP {x q : Int} (hq : 0 < q) : ord (x * q) 0 = ord x 0 := by
  obtain ⟨h1, h2⟩ := sc_sgn (q := q) (x := x) hq
  rw [Int.mul_comm] at h1 h2
  unfold ord
  by_cases a : x < 0
  . rw [if_pos a, if_pos (h2.2 a)]
  . have a' : ¬ x * q < 0 := fun h => a (h2.1 h)
    rw [if_neg a, if_neg a']
    by_cases b : 0 < x
    . have b' := h1.2 b
      first | rw [if_pos b, if_pos b'] | simp [b, b']
    . have b' : ¬ 0 < x * q := fun h => b (h1.1 h)
      first | rw [if_neg b, if_neg b'] | simp [b, b']
theorem ord_iff {x y : Int} (h1 : 0 < x ↔ 0 < y) (h2 : x < 0 ↔ y < 0) : ord x 0 = ord y 0 := by
  unfold ord
  by_cases a : x < 0
  . rw [if_pos a, if_pos (h2.1 a)]
  . have a' : ¬ y < 0 := fun h => a (h2.2 h)
    rw [if_neg a, if_neg a']
    by_cases b : 0 < x
    . have b' := h1.1 b
      first | rw [if_pos b, if_pos b'] | simp [b, b']
    . have b' : ¬ 0 < y := fun h => b (h1.2 h)
      first | rw [if_neg b, if_neg b'] | simp [b, b']
def allT3 (ax ay bx by' cx cy : Int) : Bool := pttame ax ay && pttame bx by' && pttame cx cy
def anSt (ax ay bx by' cx cy : Int) : Int :=
  if allT3 ax ay bx by' cx cy then (if key (fprod c49 (anS ax ay bx by' cx cy)) < rg (anD ax ay bx by' cx cy) then 1 else 4)
  else (if sgK (dLo ax ay bx by' cx cy) (dHi ax ay bx by' cx cy) then 5 else 6)
theorem key_abs {m d : Int} (hm : rng m) (hd : rng d) (h : key m < rg d) : iV m <= ((iV d).natAbs : Int) := by
  obtain ⟨q1, q2⟩ := q_rg hd
  have e : iV (rg d) = ((iV d).natAbs : Int) := by
    rw [iV_abs, iV, decide_eq_false (by omega), rg_rg hd]
    rfl
  rw [<- e]
  exact iV_le hm q1 (by rw [q_key q2]; omega)
theorem sgP_iV {p : Int} (hp : rng p) : sgP p = ord (iV p) 0 := by
  obtain ⟨k1, k2⟩ := iV_key hp
  exact ord_iff k2.symm k1.symm
theorem tame3 {ax ay bx by' cx cy : Int} (rax : rng ax) (ray : rng ay) (rbx : rng bx) (rby : rng by') (rcx : rng cx) (rcy : rng cy) (h : allT3 ax ay bx by' cx cy = true) : Mz ax ∧ Mz ay ∧ Mz bx ∧ Mz by' ∧ Mz cx ∧ Mz cy := by
  unfold allT3 pttame at h
  simp only [Bool.and_eq_true] at h
  obtain ⟨⟨⟨a1, a2⟩, b1, b2⟩, c1, c2⟩ := h
  exact ⟨tame_Mz rax a1, tame_Mz ray a2, tame_Mz rbx b1, tame_Mz rby b2, tame_Mz rcx c1, tame_Mz rcy c2⟩
set_option maxRecDepth 100000 in
theorem mAngle_t {ax ay bx by' cx cy : Int} (rax : rng ax) (ray : rng ay) (rbx : rng bx) (rby : rng by') (rcx : rng cx) (rcy : rng cy) (hT : allT3 ax ay bx by' cx cy = true) (w : World) (H : Hold4 w) :
    Calls Tryz.prog 7 #[.agg #[.int .i64 ax, .int .i64 ay], .agg #[.int .i64 bx, .int .i64 by'], .agg #[.int .i64 cx, .int .i64 cy]] w fun r w' => r = .returned (.tuple #[.agg #[.int .i64 (ord (dotX ax ay bx by' cx cy) 0), .int .i64 (anSt ax ay bx by' cx cy)], .int .i64 0]) ∧ Below w.heap.size w w' := by
  obtain ⟨hax, hay, hbx, hby, hcx, hcy⟩ := tame3 rax ray rbx rby rcx rcy hT
  have hE1 : ∀ (cap : Array Value) (w : World), (callFunc 26 cap).run Tryz.prog w = .ok (.enter 26 cap) w := by intro cap w; simp [go_sem]
  have hE2 : ∀ (cap : Array Value) (w : World), (callFunc 29 cap).run Tryz.prog w = .ok (.enter 29 cap) w := by intro cap w; simp [go_sem]
  obtain ⟨⟨fS, fD, fM⟩, hsg⟩ := ang_sign hax hay hbx hby hcx hcy rfl rfl rfl rfl
  refine mAngle_walk w H fun W ga gb gc gl HW ha hb hc hl => ?_
  refine mVerdict_tame _ _ _ _ _ _ _ _ W (fun W' hw => ?_) (fun W' hw => ?_)
  . have := mtame_any _ _ _ _ _ W' ((pts3 W hl).keeps hw) (rng3 rax rbx rcx) (rng3 ray rby rcy)
    rw [allB3 pttame, show (pttame ax ay && pttame bx by' && pttame cx cy) = true from hT] at this
    exact this
  . have hst : anSt ax ay bx by' cx cy = if key (fprod c49 (anS ax ay bx by' cx cy)) < rg (anD ax ay bx by' cx cy) then 1 else 4 := by
      unfold anSt; rw [hT]; rfl
    have C0 : ∀ W2, Below W'.heap.size W' W2 -> Calls Tryz.prog 26 #[.pointer (some ⟨ga, 0, none⟩), .pointer (some ⟨gb, 0, none⟩), .pointer (some ⟨gc, 0, none⟩)] W2 fun r w' => r = .returned (.tuple #[.float .f64 (wd (anD ax ay bx by' cx cy)), .float .f64 (wd (anS ax ay bx by' cx cy))]) ∧ Below W2.heap.size W2 w' := fun W2 h2 =>
      mAng1 hax hay hbx hby hcx hcy W2 (blk_on (bel_trans hw h2) ha) (blk_on (bel_trans hw h2) hb) (blk_on (bel_trans hw h2) hc)
    by_cases hc1 : key (fprod c49 (anS ax ay bx by' cx cy)) < rg (anD ax ay bx by' cx cy)
    . have e : ord (dotX ax ay bx by' cx cy) 0 = sgP (anD ax ay bx by' cx cy) := by
        obtain ⟨r1, r2⟩ := hsg (key_abs fM.r fD.r hc1)
        rw [show sgP (anD ax ay bx by' cx cy) = ord (iV (fsum (aP ax bx cx) (aP ay by' cy))) 0 from sgP_iV fD.r]
        exact ord_iff r1 r2
      rw [hst, if_pos hc1, e]
      exact mTame_yes _ _ _ _ _ _ _ _ fD.r fD.p fS.r fS.p fM.p hc1 W' hE1 C0
    . rw [hst, if_neg hc1]
      refine mTame_no _ _ _ _ _ _ _ _ fD.r fD.p fS.r fS.p fM.p (by unfold anD anS at hc1; unfold c49 at hc1; exact Int.not_lt.1 hc1) W' hE1 C0 hE2 (fun W2 h2 => ?_)
      have H2 := HW.keeps (bel_trans hw h2)
      refine (mAngle2 hax hay hbx hby hcx hcy W2 H2 (blk_on (bel_trans hw h2) ha) (blk_on (bel_trans hw h2) hb) (blk_on (bel_trans hw h2) hc)).mono ?_
      rintro _ w3 ⟨o, c', rfl, hL, hb3⟩
      refine ⟨o, _, c', rfl, fun W4 h4 => ?_, hb3⟩
      obtain ⟨_, xv, _, xs⟩ := dL_all hax hay hbx hby hcx hcy
      have := xSign W4 (hL.keeps h4) xv ((H2.keeps hb3).keeps h4)
      have e : ord (lsm (dL ax ay bx by' cx cy).d (dL ax ay bx by' cx cy).n) 0 = ord (dotX ax ay bx by' cx cy) 0 := by
        unfold dotX
        rw [<- xs, Int.mul_comm, ord_mulP (p2 1074)]
      rw [e] at this
      exact this
set_option maxRecDepth 100000 in
theorem mAngle_w {ax ay bx by' cx cy : Int} (rax : rng ax) (ray : rng ay) (rbx : rng bx) (rby : rng by') (rcx : rng cx) (rcy : rng cy) (pax : pok ax = true) (pay : pok ay = true) (pbx : pok bx = true) (pby : pok by' = true) (pcx : pok cx = true) (pcy : pok cy = true) (hT : allT3 ax ay bx by' cx cy = false) (w : World) (H : Hold4 w) :
    Calls Tryz.prog 7 #[.agg #[.int .i64 ax, .int .i64 ay], .agg #[.int .i64 bx, .int .i64 by'], .agg #[.int .i64 cx, .int .i64 cy]] w fun r w' => r = .returned (.tuple #[.agg #[.int .i64 (ord (dotX ax ay bx by' cx cy) 0), .int .i64 (anSt ax ay bx by' cx cy)], .int .i64 0]) ∧ Below w.heap.size w w' := by
  have hE3 : ∀ (cap : Array Value) (w : World), (callFunc 31 cap).run Tryz.prog w = .ok (.enter 31 cap) w := by intro cap w; simp [go_sem]
  have hE4 : ∀ (cap : Array Value) (w : World), (callFunc 33 cap).run Tryz.prog w = .ok (.enter 33 cap) w := by intro cap w; simp [go_sem]
  have hD := dot2_X rax ray rbx rby rcx rcy pax pay pbx pby pcx pcy
  have ok := d_okk rax ray rbx rby rcx rcy pax pay pbx pby pcx pcy
  have eV : mulS (patV ax - patV bx) (patV cx - patV bx) + mulS (patV ay - patV by') (patV cy - patV by') = dotX ax ay bx by' cx cy * pw (-2148) := by
    obtain ⟨C, D, h1, h2, h3⟩ := hD
    rw [h3, mulS_of h1, mulS_of h2]
  rw [eV] at ok
  have hst : anSt ax ay bx by' cx cy = if sgK (dLo ax ay bx by' cx cy) (dHi ax ay bx by' cx cy) then 5 else 6 := by
    unfold anSt; rw [hT]; rfl
  refine mAngle_walk w H fun W ga gb gc gl HW ha hb hc hl => ?_
  refine mVerdict_wild _ _ _ _ _ _ _ _ W (fun W' hw => ?_) (fun W' hw => ?_) (fun W' hw => ?_)
  . have := mtame_any _ _ _ _ _ W' ((pts3 W hl).keeps hw) (rng3 rax rbx rcx) (rng3 ray rby rcy)
    rw [allB3 pttame, show (pttame ax ay && pttame bx by' && pttame cx cy) = false from hT] at this
    exact this
  . have := mgood_any _ _ _ _ _ W' ((pts3 W hl).keeps hw) (rng3 rax rbx rcx) (rng3 ray rby rcy)
    rw [allB3 ptok, show (ptok ax ay && ptok bx by' && ptok cx cy) = true by unfold ptok; rw [pax, pay, pbx, pby, pcx, pcy]; rfl] at this
    exact this
  . have C2 : ∀ W2, Below W'.heap.size W' W2 -> Calls Tryz.prog 31 #[.pointer (some ⟨ga, 0, none⟩), .pointer (some ⟨gb, 0, none⟩), .pointer (some ⟨gc, 0, none⟩)] W2 fun r w' => r = .returned (.agg #[.int .i64 (dLo ax ay bx by' cx cy), .int .i64 (dHi ax ay bx by' cx cy)]) ∧ Below W2.heap.size W2 w' := fun W2 h2 =>
      mAngle3 rax ray rbx rby rcx rcy pax pay pbx pby pcx pcy W2 (HW.keeps (bel_trans hw h2)) (blk_on (bel_trans hw h2) ha) (blk_on (bel_trans hw h2) hb) (blk_on (bel_trans hw h2) hc)
    have CS := fun W2 => spanSignE ok.lo.1 ok.hi.1 W2
    have hso := sgn_has ok
    rw [ord_mulP (pw_pos _)] at hso
    cases hk : sgK (dLo ax ay bx by' cx cy) (dHi ax ay bx by' cx cy)
    . rw [hk] at CS hst
      rw [hst]
      refine mWild_no _ _ _ _ _ _ _ _ W' hE3 C2 CS hE4 (fun W2 h2 => ?_)
      have H2 := HW.keeps (bel_trans hw h2)
      refine (mAngle4 pax pay pbx pby pcx pcy W2 H2 (blk_on (bel_trans hw h2) ha) (blk_on (bel_trans hw h2) hb) (blk_on (bel_trans hw h2) hc)).mono ?_
      rintro _ w3 ⟨v, V, rfl, hA, hV, hB⟩
      obtain ⟨n_g, n_o, n_n, n_c, n_e, rfl⟩ := dans_shape hA
      refine ⟨n_g, n_o, n_n, n_c, n_e, rfl, fun W4 h4 => ?_, hA.below⟩
      have := sign_D (hA.num.keeps h4) (hB.ok (by omega))
      rw [hV.unique hD, ord_mulP (pw_pos _)] at this
      exact this
    . rw [hk] at CS hst
      rw [hso hk] at CS
      rw [hst]
      exact mWild_yes (U := 0) _ _ _ _ _ _ _ _ W' hE3 C2 CS
theorem mAngle_ok {ax ay bx by' cx cy : Int} (rax : rng ax) (ray : rng ay) (rbx : rng bx) (rby : rng by') (rcx : rng cx) (rcy : rng cy) (pax : pok ax = true) (pay : pok ay = true) (pbx : pok bx = true) (pby : pok by' = true) (pcx : pok cx = true) (pcy : pok cy = true) (w : World) (H : Hold4 w) :
    Calls Tryz.prog 7 #[.agg #[.int .i64 ax, .int .i64 ay], .agg #[.int .i64 bx, .int .i64 by'], .agg #[.int .i64 cx, .int .i64 cy]] w fun r w' => r = .returned (.tuple #[.agg #[.int .i64 (ord (dotX ax ay bx by' cx cy) 0), .int .i64 (anSt ax ay bx by' cx cy)], .int .i64 0]) ∧ Below w.heap.size w w' := by
  cases hT : allT3 ax ay bx by' cx cy
  . exact mAngle_w rax ray rbx rby rcx rcy pax pay pbx pby pcx pcy hT w H
  . exact mAngle_t rax ray rbx rby rcx rcy hT w H
def FarV (ax ay bx by' cx cy dx dy V : Int) : Prop := ∃ V1 V2, Dot2 (patV ax - patV bx) (patV ay - patV by') (patV ax - patV bx) (patV ay - patV by') V1 ∧ Dot2 (patV cx - patV dx) (patV cy - patV dy) (patV cx - patV dx) (patV cy - patV dy) V2 ∧ V = V1 - V2
theorem FarV.unique {ax ay bx by' cx cy dx dy V V' : Int} (h : FarV ax ay bx by' cx cy dx dy V) (k : FarV ax ay bx by' cx cy dx dy V') : V = V' := by
  obtain ⟨a, b, h1, h2, rfl⟩ := h
  obtain ⟨c, d, k1, k2, rfl⟩ := k
  rw [h1.unique k1, h2.unique k2]
def fLo (ax ay bx by' cx cy dx dy : Int) : Int := eLo (ePlus (eOf (dLo ax ay bx by' ax ay)) (eNeg (eOf (dHi cx cy dx dy cx cy))))
def fHi (ax ay bx by' cx cy dx dy : Int) : Int := eHi (ePlus (eOf (dHi ax ay bx by' ax ay)) (eNeg (eOf (dLo cx cy dx dy cx cy))))
theorem subX {a b c d x y : Int} (s : Pin2 a b x) (t : Pin2 c d y) : Hid (∀ W, Hold4 W -> Calls Tryz.prog 44 #[.agg #[.int .i64 a, .int .i64 b], .agg #[.int .i64 c, .int .i64 d]] W fun e w' => e = .returned (.tuple #[.agg #[.int .i64 (eLo (ePlus (eOf a) (eNeg (eOf d)))), .int .i64 (eHi (ePlus (eOf b) (eNeg (eOf c))))], .int .i64 0]) ∧ Below W.heap.size W w') ∧ Okk (eLo (ePlus (eOf a) (eNeg (eOf d)))) (eHi (ePlus (eOf b) (eNeg (eOf c)))) (x - y) := by
  refine ⟨fun W h => ?_, ((show x + -y = x - y from rfl) ▸ s.h.plus t.h.neg).okk⟩
  have := spanSubE s.lo.1 s.hi.1 t.lo.1 t.hi.1 W h
  rw [s.v, t.v] at this
  exact this
def frL (ax ay bx by' cx cy dx dy : Int) : Ls := gaS ⟨(dL ax ay bx by' ax ay).n, (dL ax ay bx by' ax ay).d⟩ (fun i => neg ((dL cx cy dx dy cx cy).d i)) (dL cx cy dx dy cx cy).n
theorem dL_n {ax ay bx by' cx cy : Int} (hax : Mz ax) (hay : Mz ay) (hbx : Mz bx) (hby : Mz by') (hcx : Mz cx) (hcy : Mz cy) : (dL ax ay bx by' cx cy).n <= 16 := by
  have h1 := (pL_all hax hbx hcx).2.2.2.1
  have h2 := (pL_all hay hby hcy).2.2.2.1
  have h3 := gaS_le ⟨(pL ax bx cx).n, (pL ax bx cx).d⟩ (pL ay by' cy).d (pL ay by' cy).n
  have h4 : (dL ax ay bx by' cx cy).n <= (pL ax bx cx).n + (pL ay by' cy).n := h3
  omega
theorem frL_all {ax ay bx by' cx cy dx dy : Int} (hax : Mz ax) (hay : Mz ay) (hbx : Mz bx) (hby : Mz by') (hcx : Mz cx) (hcy : Mz cy) (hdx : Mz dx) (hdy : Mz dy) :
    gaX ⟨(dL ax ay bx by' ax ay).n, (dL ax ay bx by' ax ay).d⟩ (fun i => neg ((dL cx cy dx dy cx cy).d i)) (dL cx cy dx dy cx cy).n = true ∧ XV (frL ax ay bx by' cx cy dx dy).d (frL ax ay bx by' cx cy dx dy).n ∧
    2 ^ 1074 * lsm (frL ax ay bx by' cx cy dx dy).d (frL ax ay bx by' cx cy dx dy).n = ((iV ax - iV bx) * (iV ax - iV bx) + (iV ay - iV by') * (iV ay - iV by')) - ((iV cx - iV dx) * (iV cx - iV dx) + (iV cy - iV dy) * (iV cy - iV dy)) := by
  obtain ⟨_, a2, a3, a4⟩ := dL_all hax hay hbx hby hax hay
  obtain ⟨_, b2, b3, b4⟩ := dL_all hcx hcy hdx hdy hcx hcy
  have n2 := dL_n hcx hcy hdx hdy hcx hcy
  have hnf : ∀ i, i < (dL cx cy dx dy cx cy).n -> rng (neg ((dL cx cy dx dy cx cy).d i)) ∧ pok (neg ((dL cx cy dx dy cx cy).d i)) = true := fun i hi => ⟨(neg_facts (b2.fn i hi).1 (b2.fn i hi).2).1, (neg_facts (b2.fn i hi).1 (b2.fn i hi).2).2.1⟩
  obtain ⟨g1, g2, _, g4⟩ := gaS_all3 (s := ⟨(dL ax ay bx by' ax ay).n, (dL ax ay bx by' ax ay).d⟩) (f := fun i => neg ((dL cx cy dx dy cx cy).d i)) (m := (dL cx cy dx dy cx cy).n) (b := 1576) a2 hnf a3 (fun i hi => by
    show ((iV (neg ((dL cx cy dx dy cx cy).d i))).natAbs : Int) <= _
    rw [(neg_facts (b2.fn i hi).1 (b2.fn i hi).2).2.2]
    have := b3 i hi
    omega) (by omega) (dL cx cy dx dy cx cy).n (Nat.le_refl _)
  refine ⟨g1, g2, ?_⟩
  show 2 ^ 1074 * lsm (gaS _ _ _).d (gaS _ _ _).n = _
  rw [g4, lsm_neg b2.fn, Int.mul_add, Int.mul_neg, b4]
  have : 2 ^ 1074 * lsm (dL ax ay bx by' ax ay).d (dL ax ay bx by' ax ay).n = _ := a4
  rw [<- this]
  show _ + -_ = _ - _
  rw [<- Int.sub_eq_add_neg]
theorem xDiffM {ax ay bx by' cx cy dx dy : Int} (hax : Mz ax) (hay : Mz ay) (hbx : Mz bx) (hby : Mz by') (hcx : Mz cx) (hcy : Mz cy) (hdx : Mz dx) (hdy : Mz dy) {x y : Value} (w : World) (hx : XLs w x (dL ax ay bx by' ax ay)) (hy : XLs w y (dL cx cy dx dy cx cy)) (H : Hold4 w) :
    Calls Tryz.prog 39 #[x, y] w fun r w' => ∃ o c', r = .returned (.tuple #[.slice o (frL ax ay bx by' cx cy dx dy).n c', .int .i64 0]) ∧ XLs w' (.slice o (frL ax ay bx by' cx cy dx dy).n c') (frL ax ay bx by' cx cy dx dy) ∧ Below w.heap.size w w' := by
  obtain ⟨xo, xc, rfl, hR⟩ := hx
  obtain ⟨yo, yc, rfl, hS⟩ := hy
  obtain ⟨_, a2, a3, a4⟩ := dL_all hax hay hbx hby hax hay
  obtain ⟨_, b2, b3, b4⟩ := dL_all hcx hcy hdx hdy hcx hcy
  have n1 := dL_n hax hay hbx hby hax hay
  have n2 := dL_n hcx hcy hdx hdy hcx hcy
  refine (xDiff w hR hS (fun i hi => (a2.fin i hi).1) (fun i hi => (b2.fin i hi).1) (xval_of a2) (xval_of b2) (by omega) H).mono ?_
  intro r w' h
  obtain ⟨ao, cap, e, hQ, hb'⟩ := h.yes (frL_all hax hay hbx hby hcx hcy hdx hdy).1
  exact ⟨ao, cap, e, ⟨ao, cap, rfl, hQ⟩, hb'⟩
set_option maxRecDepth 100000 in
set_option maxHeartbeats 8000000 in
theorem mfarN_any {ax ay bx by' cx cy dx dy : Int} (pax : pok ax = true) (pay : pok ay = true) (pbx : pok bx = true) (pby : pok by' = true) (pcx : pok cx = true) (pcy : pok cy = true) (pdx : pok dx = true) (pdy : pok dy = true) (w : World) (H : Hold4 w) :
    Calls Tryz.prog 24 #[.agg #[.func (.func 47) #[] #[], .func (.func 48) #[] #[], .func (.func 49) #[] #[], .func (.func 50) #[] #[]], .agg #[.int .i64 ax, .int .i64 ay], .agg #[.int .i64 bx, .int .i64 by'], .agg #[.int .i64 cx, .int .i64 cy], .agg #[.int .i64 dx, .int .i64 dy]] w fun r w' => ∃ v V, r = .returned v ∧ DAns w w' V v ∧ FarV ax ay bx by' cx cy dx dy V ∧ Bd 8200 V := by
  have C1 : Hid (∀ W, Hold4 W -> Calls Tryz.prog 34 #[.agg #[.func (.func 47) #[] #[], .func (.func 48) #[] #[], .func (.func 49) #[] #[], .func (.func 50) #[] #[]], .agg #[.int .i64 ax, .int .i64 ay], .agg #[.int .i64 bx, .int .i64 by'], .agg #[.int .i64 ax, .int .i64 ay]] W fun r w' => ∃ v V, r = .returned v ∧ DAns W w' V v ∧ Dot2 (patV ax - patV bx) (patV ay - patV by') (patV ax - patV bx) (patV ay - patV by') V ∧ Bd 8100 V) := fun W h => mdotN_any pax pay pbx pby pax pay W h
  have C2 : Hid (∀ W, Hold4 W -> Calls Tryz.prog 34 #[.agg #[.func (.func 47) #[] #[], .func (.func 48) #[] #[], .func (.func 49) #[] #[], .func (.func 50) #[] #[]], .agg #[.int .i64 cx, .int .i64 cy], .agg #[.int .i64 dx, .int .i64 dy], .agg #[.int .i64 cx, .int .i64 cy]] W fun r w' => ∃ v V, r = .returned v ∧ DAns W w' V v ∧ Dot2 (patV cx - patV dx) (patV cy - patV dy) (patV cx - patV dx) (patV cy - patV dy) V ∧ Bd 8100 V) := fun W h => mdotN_any pcx pcy pdx pdy pcx pcy W h
  clear pax pay pbx pby pcx pcy pdx pdy
  obtain ⟨hb0, k_k, a_k, b_k, c_k, d_k, r_k, hsz0⟩ := blks6 w (.cells #[.func (.func 47) #[] #[], .func (.func 48) #[] #[], .func (.func 49) #[] #[], .func (.func 50) #[] #[]] 66) (.cells #[.int .i64 ax, .int .i64 ay] 23) (.cells #[.int .i64 bx, .int .i64 by'] 23) (.cells #[.int .i64 cx, .int .i64 cy] 23) (.cells #[.int .i64 dx, .int .i64 dy] 23) (.cells #[.bool false, .slice none 0 0, .int .i64 0] 35)
  clear hsz0
  go_enter Tryz.func24, Tryz.ntmps24
  go_wp2_with fail
  generalize ((((((w.alloc (.cells #[.func (.func 47) #[] #[], .func (.func 48) #[] #[], .func (.func 49) #[] #[], .func (.func 50) #[] #[]] 66)).alloc (.cells #[.int .i64 ax, .int .i64 ay] 23)).alloc (.cells #[.int .i64 bx, .int .i64 by'] 23)).alloc (.cells #[.int .i64 cx, .int .i64 cy] 23)).alloc (.cells #[.int .i64 dx, .int .i64 dy] 23)).alloc (.cells #[.bool false, .slice none 0 0, .int .i64 0] 35)) = x0 at hb0 k_k a_k b_k c_k d_k r_k ⊢
  have H := H.keeps hb0
  have KK1 : ∀ W, Below x0.heap.size x0 W -> W.cell? ⟨w.heap.size, 0, none⟩ = some (.func (.func 47) #[] #[]) ∧ W.cell? ⟨w.heap.size, 1, none⟩ = some (.func (.func 48) #[] #[]) ∧ W.cell? ⟨w.heap.size, 2, none⟩ = some (.func (.func 49) #[] #[]) ∧ W.cell? ⟨w.heap.size, 3, none⟩ = some (.func (.func 50) #[] #[]) ∧ W.cell? ⟨w.heap.size + 1, 0, none⟩ = some (.int .i64 ax) ∧ W.cell? ⟨w.heap.size + 1, 1, none⟩ = some (.int .i64 ay) ∧ W.cell? ⟨w.heap.size + 2, 0, none⟩ = some (.int .i64 bx) ∧ W.cell? ⟨w.heap.size + 2, 1, none⟩ = some (.int .i64 by') ∧ W.cell? ⟨w.heap.size + 3, 0, none⟩ = some (.int .i64 cx) ∧ W.cell? ⟨w.heap.size + 3, 1, none⟩ = some (.int .i64 cy) ∧ W.cell? ⟨w.heap.size + 4, 0, none⟩ = some (.int .i64 dx) ∧ W.cell? ⟨w.heap.size + 4, 1, none⟩ = some (.int .i64 dy) := fun W hb => ⟨q_cell (blkC k_k 0 rfl) hb, q_cell (blkC k_k 1 rfl) hb, q_cell (blkC k_k 2 rfl) hb, q_cell (blkC k_k 3 rfl) hb, q_cell (blkC a_k 0 rfl) hb, q_cell (blkC a_k 1 rfl) hb, q_cell (blkC b_k 0 rfl) hb, q_cell (blkC b_k 1 rfl) hb, q_cell (blkC c_k 0 rfl) hb, q_cell (blkC c_k 1 rfl) hb, q_cell (blkC d_k 0 rfl) hb, q_cell (blkC d_k 1 rfl) hb⟩
  have hC1_0 := (bel_refl x0).drew
  have hs1_0 := (bel_refl x0).drew
  have hT1_0 : Below w.heap.size w x0.drew := hb0.drew
  have H_1_0 := H.keeps (bel_refl x0).drew
  have hrs := (Array.getElem?_eq_some_iff.1 r_k).1
  have ne_k : w.heap.size ≠ w.heap.size + 1 + 1 + 1 + 1 + 1 := by omega
  have ne_a : w.heap.size + 1 ≠ w.heap.size + 1 + 1 + 1 + 1 + 1 := by omega
  have ne_b : w.heap.size + 2 ≠ w.heap.size + 1 + 1 + 1 + 1 + 1 := by omega
  have ne_c : w.heap.size + 3 ≠ w.heap.size + 1 + 1 + 1 + 1 + 1 := by omega
  have ne_d : w.heap.size + 4 ≠ w.heap.size + 1 + 1 + 1 + 1 + 1 := by omega
  go_region_held3 (fun W => W.cell? ⟨w.heap.size, 0, none⟩ = some (.func (.func 47) #[] #[]) ∧ W.cell? ⟨w.heap.size, 1, none⟩ = some (.func (.func 48) #[] #[]) ∧ W.cell? ⟨w.heap.size, 2, none⟩ = some (.func (.func 49) #[] #[]) ∧ W.cell? ⟨w.heap.size, 3, none⟩ = some (.func (.func 50) #[] #[]) ∧ W.cell? ⟨w.heap.size + 1, 0, none⟩ = some (.int .i64 ax) ∧ W.cell? ⟨w.heap.size + 1, 1, none⟩ = some (.int .i64 ay) ∧ W.cell? ⟨w.heap.size + 2, 0, none⟩ = some (.int .i64 bx) ∧ W.cell? ⟨w.heap.size + 2, 1, none⟩ = some (.int .i64 by') ∧ W.cell? ⟨w.heap.size + 3, 0, none⟩ = some (.int .i64 cx) ∧ W.cell? ⟨w.heap.size + 3, 1, none⟩ = some (.int .i64 cy) ∧ W.cell? ⟨w.heap.size + 4, 0, none⟩ = some (.int .i64 dx) ∧ W.cell? ⟨w.heap.size + 4, 1, none⟩ = some (.int .i64 dy))
    (with_reducible first | assumption | exact KK1 _ hC1_0 | exact KK1 _ hC1_1 | exact KK1 _ hC1_2 | exact KK1 _ hC1_3 | exact KK1 _ hC1_4 | exact ⟨cellS (KK1 _ hC1_4).1 ne_k _ _ _, cellS (KK1 _ hC1_4).2.1 ne_k _ _ _, cellS (KK1 _ hC1_4).2.2.1 ne_k _ _ _, cellS (KK1 _ hC1_4).2.2.2.1 ne_k _ _ _, cellS (KK1 _ hC1_4).2.2.2.2.1 ne_a _ _ _, cellS (KK1 _ hC1_4).2.2.2.2.2.1 ne_a _ _ _, cellS (KK1 _ hC1_4).2.2.2.2.2.2.1 ne_b _ _ _, cellS (KK1 _ hC1_4).2.2.2.2.2.2.2.1 ne_b _ _ _, cellS (KK1 _ hC1_4).2.2.2.2.2.2.2.2.1 ne_c _ _ _, cellS (KK1 _ hC1_4).2.2.2.2.2.2.2.2.2.1 ne_c _ _ _, cellS (KK1 _ hC1_4).2.2.2.2.2.2.2.2.2.2.1 ne_d _ _ _, cellS (KK1 _ hC1_4).2.2.2.2.2.2.2.2.2.2.2 ne_d _ _ _⟩ | fail)
    (first
      | (go_at_call 51; have _t := hs1_3; refine (msure_any _ _ _ _ _ _ _).mono ?_; rintro _ y1_4 ⟨rfl, hq1_4⟩; have hs1_4 : Below y1_3.heap.size y1_3 y1_4 := (by with_reducible first | exact hq1_4 | exact bel_trans (bel_alloc _ _) hq1_4 | exact bel_trans (bel_dr _ _) hq1_4); have hT1_4 := bel_trans hT1_3 hs1_4; have hC1_4 := bel_trans hC1_3 hs1_4; have H_1_4 := H_1_3.keeps hs1_4; have hr := blk_on hs1_4 (blk_on hs1_3 (blk_on hs1_2 (blk_on hs1_1 (blk_on hs1_0 r_k)))); have k0 := (fun _ => blkC hr 0 rfl) hs1_4; have z0 := (fun _ => blkF hr 0) hs1_4; have k1 := (fun _ => blkC hr 1 rfl) hs1_4; have z1 := (fun _ => blkF hr 1) hs1_4; have k2 := (fun _ => blkC hr 2 rfl) hs1_4; have z2 := (fun _ => blkF hr 2) hs1_4)
      | (go_at_call 49; have _t := hs1_2; refine (sub_B np1 nb1.num hB1 hB2 (by omega) (H_1_2.keeps (by with_reducible first | exact bel_refl _ | exact bel_alloc _ _ | exact bel_dr _ _)).tab).mono ?_; rintro _ y1_3 ⟨v, rfl, nm1⟩; obtain ⟨n_g, n_o, n_n, n_c, n_e, rfl⟩ := dans_shape nm1; have hq1_3 := nm1.below; have hs1_3 : Below y1_2.heap.size y1_2 y1_3 := (by with_reducible first | exact hq1_3 | exact bel_trans (bel_alloc _ _) hq1_3 | exact bel_trans (bel_dr _ _) hq1_3); have hT1_3 := bel_trans hT1_2 hs1_3; have hC1_3 := bel_trans hC1_2 hs1_3; have H_1_3 := H_1_2.keeps hs1_3)
      | (go_at_call 34; have _t := hs1_1; refine (C2.out _ (H_1_1.keeps (by with_reducible first | exact bel_refl _ | exact bel_alloc _ _ | exact bel_dr _ _))).mono ?_; rintro _ y1_2 ⟨v, V2, rfl, nb1, hV2, hB2⟩; obtain ⟨q_g, q_o, q_n, q_c, q_e, rfl⟩ := dans_shape nb1; have hq1_2 := nb1.below; have hs1_2 : Below y1_1.heap.size y1_1 y1_2 := (by with_reducible first | exact hq1_2 | exact bel_trans (bel_alloc _ _) hq1_2 | exact bel_trans (bel_dr _ _) hq1_2); have hT1_2 := bel_trans hT1_1 hs1_2; have hC1_2 := bel_trans hC1_1 hs1_2; have H_1_2 := H_1_1.keeps hs1_2; have np1 := na1.num.keeps hs1_2)
      | (go_at_call 34; refine (C1.out _ (H_1_0.keeps (by with_reducible first | exact bel_refl _ | exact bel_alloc _ _ | exact bel_dr _ _))).mono ?_; rintro _ y1_1 ⟨v, V1, rfl, na1, hV1, hB1⟩; obtain ⟨p_g, p_o, p_n, p_c, p_e, rfl⟩ := dans_shape na1; have hq1_1 := na1.below; have hs1_1 : Below x0.drew.heap.size x0.drew y1_1 := (by with_reducible first | exact hq1_1 | exact bel_trans (bel_alloc _ _) hq1_1 | exact bel_trans (bel_dr _ _) hq1_1); have hT1_1 := bel_trans hT1_0 hs1_1; have hC1_1 := bel_trans hC1_0 hs1_1; have H_1_1 := H_1_0.keeps hs1_1))
  go_wp2
  refine bodyPost_ret (v := .agg #[.bool n_g, .slice n_o n_n n_c, .int .i64 n_e]) (by simp [results, Tryz.results24, go_sem, k0, k1, k2]) rfl ⟨_, V1 - V2, rfl, ?_, ⟨V1, V2, hV1, hV2, rfl⟩, (hB1.sub hB2 (by decide)).up (by decide) (by decide)⟩
  exact dans_res3 (g := w.heap.size + 5) (nm1.stays hs1_4) (bel_trans hb0 (bel_trans (bel_trans hs1_0 hs1_1) hs1_2)) (by omega) (Nat.lt_of_lt_of_le hrs (bel_trans (bel_trans hs1_0 hs1_1) hs1_2).size) _ _ _
set_option maxRecDepth 100000 in
set_option maxHeartbeats 8000000 in
theorem mfarS_any {ax ay bx by' cx cy dx dy : Int} (rax : rng ax) (ray : rng ay) (rbx : rng bx) (rby : rng by') (rcx : rng cx) (rcy : rng cy) (rdx : rng dx) (rdy : rng dy) (pax : pok ax = true) (pay : pok ay = true) (pbx : pok bx = true) (pby : pok by' = true) (pcx : pok cx = true) (pcy : pok cy = true) (pdx : pok dx = true) (pdy : pok dy = true) (w : World) (H : Hold4 w) :
    Calls Tryz.prog 21 #[.agg #[.func (.func 42) #[] #[], .func (.func 43) #[] #[], .func (.func 44) #[] #[], .func (.func 45) #[] #[]], .agg #[.int .i64 ax, .int .i64 ay], .agg #[.int .i64 bx, .int .i64 by'], .agg #[.int .i64 cx, .int .i64 cy], .agg #[.int .i64 dx, .int .i64 dy]] w fun r w' => r = .returned (.agg #[.int .i64 (fLo ax ay bx by' cx cy dx dy), .int .i64 (fHi ax ay bx by' cx cy dx dy)]) ∧ Below w.heap.size w w' := by
  have C1 : Hid (∀ W, Hold4 W -> Calls Tryz.prog 32 #[.agg #[.func (.func 42) #[] #[], .func (.func 43) #[] #[], .func (.func 44) #[] #[], .func (.func 45) #[] #[]], .agg #[.int .i64 ax, .int .i64 ay], .agg #[.int .i64 bx, .int .i64 by'], .agg #[.int .i64 ax, .int .i64 ay]] W fun r w' => r = .returned (.agg #[.int .i64 (dLo ax ay bx by' ax ay), .int .i64 (dHi ax ay bx by' ax ay)]) ∧ Below W.heap.size W w') := fun W h => mdotS_any rax ray rbx rby rax ray pax pay pbx pby pax pay W h
  have C2 : Hid (∀ W, Hold4 W -> Calls Tryz.prog 32 #[.agg #[.func (.func 42) #[] #[], .func (.func 43) #[] #[], .func (.func 44) #[] #[], .func (.func 45) #[] #[]], .agg #[.int .i64 cx, .int .i64 cy], .agg #[.int .i64 dx, .int .i64 dy], .agg #[.int .i64 cx, .int .i64 cy]] W fun r w' => r = .returned (.agg #[.int .i64 (dLo cx cy dx dy cx cy), .int .i64 (dHi cx cy dx dy cx cy)]) ∧ Below W.heap.size W w') := fun W h => mdotS_any rcx rcy rdx rdy rcx rcy pcx pcy pdx pdy pcx pcy W h
  have C3 := (subX (okk_pin (d_okk rax ray rbx rby rax ray pax pay pbx pby pax pay)) (okk_pin (d_okk rcx rcy rdx rdy rcx rcy pcx pcy pdx pdy pcx pcy))).1
  clear rax ray rbx rby rcx rcy rdx rdy pax pay pbx pby pcx pcy pdx pdy
  unfold fLo fHi
  generalize eLo (ePlus (eOf (dLo ax ay bx by' ax ay)) (eNeg (eOf (dHi cx cy dx dy cx cy)))) = lo at *
  generalize eHi (ePlus (eOf (dHi ax ay bx by' ax ay)) (eNeg (eOf (dLo cx cy dx dy cx cy)))) = hi at *
  generalize dLo ax ay bx by' ax ay = a1 at *
  generalize dHi ax ay bx by' ax ay = a2 at *
  generalize dLo cx cy dx dy cx cy = a3 at *
  generalize dHi cx cy dx dy cx cy = a4 at *
  obtain ⟨hb0, k_k, a_k, b_k, c_k, d_k, r_k, hsz0⟩ := blks6 w (.cells #[.func (.func 42) #[] #[], .func (.func 43) #[] #[], .func (.func 44) #[] #[], .func (.func 45) #[] #[]] 59) (.cells #[.int .i64 ax, .int .i64 ay] 23) (.cells #[.int .i64 bx, .int .i64 by'] 23) (.cells #[.int .i64 cx, .int .i64 cy] 23) (.cells #[.int .i64 dx, .int .i64 dy] 23) (.cells #[.int .i64 0, .int .i64 0] 55)
  clear hsz0
  go_enter Tryz.func21, Tryz.ntmps21
  go_wp2_with fail
  generalize ((((((w.alloc (.cells #[.func (.func 42) #[] #[], .func (.func 43) #[] #[], .func (.func 44) #[] #[], .func (.func 45) #[] #[]] 59)).alloc (.cells #[.int .i64 ax, .int .i64 ay] 23)).alloc (.cells #[.int .i64 bx, .int .i64 by'] 23)).alloc (.cells #[.int .i64 cx, .int .i64 cy] 23)).alloc (.cells #[.int .i64 dx, .int .i64 dy] 23)).alloc (.cells #[.int .i64 0, .int .i64 0] 55)) = x0 at hb0 k_k a_k b_k c_k d_k r_k ⊢
  have H := H.keeps hb0
  have KK1 : ∀ W, Below x0.heap.size x0 W -> W.cell? ⟨w.heap.size, 0, none⟩ = some (.func (.func 42) #[] #[]) ∧ W.cell? ⟨w.heap.size, 1, none⟩ = some (.func (.func 43) #[] #[]) ∧ W.cell? ⟨w.heap.size, 2, none⟩ = some (.func (.func 44) #[] #[]) ∧ W.cell? ⟨w.heap.size, 3, none⟩ = some (.func (.func 45) #[] #[]) ∧ W.cell? ⟨w.heap.size + 1, 0, none⟩ = some (.int .i64 ax) ∧ W.cell? ⟨w.heap.size + 1, 1, none⟩ = some (.int .i64 ay) ∧ W.cell? ⟨w.heap.size + 2, 0, none⟩ = some (.int .i64 bx) ∧ W.cell? ⟨w.heap.size + 2, 1, none⟩ = some (.int .i64 by') ∧ W.cell? ⟨w.heap.size + 3, 0, none⟩ = some (.int .i64 cx) ∧ W.cell? ⟨w.heap.size + 3, 1, none⟩ = some (.int .i64 cy) ∧ W.cell? ⟨w.heap.size + 4, 0, none⟩ = some (.int .i64 dx) ∧ W.cell? ⟨w.heap.size + 4, 1, none⟩ = some (.int .i64 dy) := fun W hb => ⟨q_cell (blkC k_k 0 rfl) hb, q_cell (blkC k_k 1 rfl) hb, q_cell (blkC k_k 2 rfl) hb, q_cell (blkC k_k 3 rfl) hb, q_cell (blkC a_k 0 rfl) hb, q_cell (blkC a_k 1 rfl) hb, q_cell (blkC b_k 0 rfl) hb, q_cell (blkC b_k 1 rfl) hb, q_cell (blkC c_k 0 rfl) hb, q_cell (blkC c_k 1 rfl) hb, q_cell (blkC d_k 0 rfl) hb, q_cell (blkC d_k 1 rfl) hb⟩
  have hC1_0 := (bel_refl x0).drew
  have hs1_0 := (bel_refl x0).drew
  have hT1_0 : Below w.heap.size w x0.drew := hb0.drew
  have H_1_0 := H.keeps (bel_refl x0).drew
  have hrs := (Array.getElem?_eq_some_iff.1 r_k).1
  have ne_k : w.heap.size ≠ w.heap.size + 1 + 1 + 1 + 1 + 1 := by omega
  have ne_a : w.heap.size + 1 ≠ w.heap.size + 1 + 1 + 1 + 1 + 1 := by omega
  have ne_b : w.heap.size + 2 ≠ w.heap.size + 1 + 1 + 1 + 1 + 1 := by omega
  have ne_c : w.heap.size + 3 ≠ w.heap.size + 1 + 1 + 1 + 1 + 1 := by omega
  have ne_d : w.heap.size + 4 ≠ w.heap.size + 1 + 1 + 1 + 1 + 1 := by omega
  go_region_held3 (fun W => W.cell? ⟨w.heap.size, 0, none⟩ = some (.func (.func 42) #[] #[]) ∧ W.cell? ⟨w.heap.size, 1, none⟩ = some (.func (.func 43) #[] #[]) ∧ W.cell? ⟨w.heap.size, 2, none⟩ = some (.func (.func 44) #[] #[]) ∧ W.cell? ⟨w.heap.size, 3, none⟩ = some (.func (.func 45) #[] #[]) ∧ W.cell? ⟨w.heap.size + 1, 0, none⟩ = some (.int .i64 ax) ∧ W.cell? ⟨w.heap.size + 1, 1, none⟩ = some (.int .i64 ay) ∧ W.cell? ⟨w.heap.size + 2, 0, none⟩ = some (.int .i64 bx) ∧ W.cell? ⟨w.heap.size + 2, 1, none⟩ = some (.int .i64 by') ∧ W.cell? ⟨w.heap.size + 3, 0, none⟩ = some (.int .i64 cx) ∧ W.cell? ⟨w.heap.size + 3, 1, none⟩ = some (.int .i64 cy) ∧ W.cell? ⟨w.heap.size + 4, 0, none⟩ = some (.int .i64 dx) ∧ W.cell? ⟨w.heap.size + 4, 1, none⟩ = some (.int .i64 dy))
    (with_reducible first | assumption | exact KK1 _ hC1_0 | exact KK1 _ hC1_1 | exact KK1 _ hC1_2 | exact KK1 _ hC1_3 | exact KK1 _ hC1_4 | exact ⟨cellS2 (KK1 _ hC1_4).1 ne_k _ _, cellS2 (KK1 _ hC1_4).2.1 ne_k _ _, cellS2 (KK1 _ hC1_4).2.2.1 ne_k _ _, cellS2 (KK1 _ hC1_4).2.2.2.1 ne_k _ _, cellS2 (KK1 _ hC1_4).2.2.2.2.1 ne_a _ _, cellS2 (KK1 _ hC1_4).2.2.2.2.2.1 ne_a _ _, cellS2 (KK1 _ hC1_4).2.2.2.2.2.2.1 ne_b _ _, cellS2 (KK1 _ hC1_4).2.2.2.2.2.2.2.1 ne_b _ _, cellS2 (KK1 _ hC1_4).2.2.2.2.2.2.2.2.1 ne_c _ _, cellS2 (KK1 _ hC1_4).2.2.2.2.2.2.2.2.2.1 ne_c _ _, cellS2 (KK1 _ hC1_4).2.2.2.2.2.2.2.2.2.2.1 ne_d _ _, cellS2 (KK1 _ hC1_4).2.2.2.2.2.2.2.2.2.2.2 ne_d _ _⟩ | fail)
    (first
      | (go_at_call 46; have _t := hs1_3; refine (msureS _ _ _ _).mono ?_; rintro _ y1_4 ⟨rfl, hq1_4⟩; have hs1_4 : Below y1_3.heap.size y1_3 y1_4 := (by with_reducible first | exact hq1_4 | exact bel_trans (bel_alloc _ _) hq1_4 | exact bel_trans (bel_dr _ _) hq1_4); have hT1_4 := bel_trans hT1_3 hs1_4; have hC1_4 := bel_trans hC1_3 hs1_4; have H_1_4 := H_1_3.keeps hs1_4; have hr := blk_on hs1_4 (blk_on hs1_3 (blk_on hs1_2 (blk_on hs1_1 (blk_on hs1_0 r_k)))); have k0 := (fun _ => blkC hr 0 rfl) hs1_4; have z0 := (fun _ => blkF hr 0) hs1_4; have k1 := (fun _ => blkC hr 1 rfl) hs1_4; have z1 := (fun _ => blkF hr 1) hs1_4)
      | (go_at_call 44; have _t := hs1_2; refine (C3.out _ (H_1_2.keeps (by with_reducible first | exact bel_refl _ | exact bel_alloc _ _ | exact bel_dr _ _))).mono ?_; rintro _ y1_3 ⟨rfl, hq1_3⟩; have hs1_3 : Below y1_2.heap.size y1_2 y1_3 := (by with_reducible first | exact hq1_3 | exact bel_trans (bel_alloc _ _) hq1_3 | exact bel_trans (bel_dr _ _) hq1_3); have hT1_3 := bel_trans hT1_2 hs1_3; have hC1_3 := bel_trans hC1_2 hs1_3; have H_1_3 := H_1_2.keeps hs1_3)
      | (go_at_call 32; have _t := hs1_1; refine (C2.out _ (H_1_1.keeps (by with_reducible first | exact bel_refl _ | exact bel_alloc _ _ | exact bel_dr _ _))).mono ?_; rintro _ y1_2 ⟨rfl, hq1_2⟩; have hs1_2 : Below y1_1.heap.size y1_1 y1_2 := (by with_reducible first | exact hq1_2 | exact bel_trans (bel_alloc _ _) hq1_2 | exact bel_trans (bel_dr _ _) hq1_2); have hT1_2 := bel_trans hT1_1 hs1_2; have hC1_2 := bel_trans hC1_1 hs1_2; have H_1_2 := H_1_1.keeps hs1_2)
      | (go_at_call 32; refine (C1.out _ (H_1_0.keeps (by with_reducible first | exact bel_refl _ | exact bel_alloc _ _ | exact bel_dr _ _))).mono ?_; rintro _ y1_1 ⟨rfl, hq1_1⟩; have hs1_1 : Below x0.drew.heap.size x0.drew y1_1 := (by with_reducible first | exact hq1_1 | exact bel_trans (bel_alloc _ _) hq1_1 | exact bel_trans (bel_dr _ _) hq1_1); have hT1_1 := bel_trans hT1_0 hs1_1; have hC1_1 := bel_trans hC1_0 hs1_1; have H_1_1 := H_1_0.keeps hs1_1))
  go_wp2
  exact bodyPost_ret (v := .agg #[.int .i64 lo, .int .i64 hi]) (by simp [results, Tryz.results21, go_sem, k0, k1]) rfl ⟨rfl, bel_set2q hT1_4 (show w.heap.size <= w.heap.size + 1 + 1 + 1 + 1 + 1 by omega) _ _⟩
set_option maxRecDepth 100000 in
set_option maxHeartbeats 8000000 in
theorem mfarL_any {ax ay bx by' cx cy dx dy : Int} (hax : Mz ax) (hay : Mz ay) (hbx : Mz bx) (hby : Mz by') (hcx : Mz cx) (hcy : Mz cy) (hdx : Mz dx) (hdy : Mz dy) (w : World) (H : Hold4 w) :
    Calls Tryz.prog 18 #[.agg #[.func (.func 37) #[] #[], .func (.func 38) #[] #[], .func (.func 39) #[] #[], .func (.func 40) #[] #[]], .agg #[.int .i64 ax, .int .i64 ay], .agg #[.int .i64 bx, .int .i64 by'], .agg #[.int .i64 cx, .int .i64 cy], .agg #[.int .i64 dx, .int .i64 dy]] w fun r w' => ∃ o c', r = .returned (.slice o (frL ax ay bx by' cx cy dx dy).n c') ∧ XLs w' (.slice o (frL ax ay bx by' cx cy dx dy).n c') (frL ax ay bx by' cx cy dx dy) ∧ Below w.heap.size w w' := by
  have C1 : Hid (∀ W, Hold4 W -> Calls Tryz.prog 30 #[.agg #[.func (.func 37) #[] #[], .func (.func 38) #[] #[], .func (.func 39) #[] #[], .func (.func 40) #[] #[]], .agg #[.int .i64 ax, .int .i64 ay], .agg #[.int .i64 bx, .int .i64 by'], .agg #[.int .i64 ax, .int .i64 ay]] W fun r w' => ∃ o c', r = .returned (.slice o (dL ax ay bx by' ax ay).n c') ∧ XLs w' (.slice o (dL ax ay bx by' ax ay).n c') (dL ax ay bx by' ax ay) ∧ Below W.heap.size W w') := fun W h => mdotL_any hax hay hbx hby hax hay W h
  have C2 : Hid (∀ W, Hold4 W -> Calls Tryz.prog 30 #[.agg #[.func (.func 37) #[] #[], .func (.func 38) #[] #[], .func (.func 39) #[] #[], .func (.func 40) #[] #[]], .agg #[.int .i64 cx, .int .i64 cy], .agg #[.int .i64 dx, .int .i64 dy], .agg #[.int .i64 cx, .int .i64 cy]] W fun r w' => ∃ o c', r = .returned (.slice o (dL cx cy dx dy cx cy).n c') ∧ XLs w' (.slice o (dL cx cy dx dy cx cy).n c') (dL cx cy dx dy cx cy) ∧ Below W.heap.size W w') := fun W h => mdotL_any hcx hcy hdx hdy hcx hcy W h
  have C3 : Hid (∀ (x y : Value) W, XLs W x (dL ax ay bx by' ax ay) -> XLs W y (dL cx cy dx dy cx cy) -> Hold4 W -> Calls Tryz.prog 39 #[x, y] W fun r w' => ∃ o c', r = .returned (.tuple #[.slice o (frL ax ay bx by' cx cy dx dy).n c', .int .i64 0]) ∧ XLs w' (.slice o (frL ax ay bx by' cx cy dx dy).n c') (frL ax ay bx by' cx cy dx dy) ∧ Below W.heap.size W w') := fun x y W hx hy h => xDiffM hax hay hbx hby hcx hcy hdx hdy W hx hy h
  clear hax hay hbx hby hcx hcy hdx hdy
  generalize frL ax ay bx by' cx cy dx dy = E0 at *
  generalize dL ax ay bx by' ax ay = E1 at *
  generalize dL cx cy dx dy cx cy = E2 at *
  obtain ⟨hb0, k_k, a_k, b_k, c_k, d_k, hsz0⟩ := blks5 w (.cells #[.func (.func 37) #[] #[], .func (.func 38) #[] #[], .func (.func 39) #[] #[], .func (.func 40) #[] #[]] 50) (.cells #[.int .i64 ax, .int .i64 ay] 23) (.cells #[.int .i64 bx, .int .i64 by'] 23) (.cells #[.int .i64 cx, .int .i64 cy] 23) (.cells #[.int .i64 dx, .int .i64 dy] 23)
  clear hsz0
  go_enter Tryz.func18, Tryz.ntmps18
  go_wp2_with fail
  generalize (((((w.alloc (.cells #[.func (.func 37) #[] #[], .func (.func 38) #[] #[], .func (.func 39) #[] #[], .func (.func 40) #[] #[]] 50)).alloc (.cells #[.int .i64 ax, .int .i64 ay] 23)).alloc (.cells #[.int .i64 bx, .int .i64 by'] 23)).alloc (.cells #[.int .i64 cx, .int .i64 cy] 23)).alloc (.cells #[.int .i64 dx, .int .i64 dy] 23)) = x0 at hb0 k_k a_k b_k c_k d_k ⊢
  have H := H.keeps hb0
  have KK1 : ∀ W, Below x0.heap.size x0 W -> W.cell? ⟨w.heap.size, 0, none⟩ = some (.func (.func 37) #[] #[]) ∧ W.cell? ⟨w.heap.size, 1, none⟩ = some (.func (.func 38) #[] #[]) ∧ W.cell? ⟨w.heap.size, 2, none⟩ = some (.func (.func 39) #[] #[]) ∧ W.cell? ⟨w.heap.size, 3, none⟩ = some (.func (.func 40) #[] #[]) ∧ W.cell? ⟨w.heap.size + 1, 0, none⟩ = some (.int .i64 ax) ∧ W.cell? ⟨w.heap.size + 1, 1, none⟩ = some (.int .i64 ay) ∧ W.cell? ⟨w.heap.size + 2, 0, none⟩ = some (.int .i64 bx) ∧ W.cell? ⟨w.heap.size + 2, 1, none⟩ = some (.int .i64 by') ∧ W.cell? ⟨w.heap.size + 3, 0, none⟩ = some (.int .i64 cx) ∧ W.cell? ⟨w.heap.size + 3, 1, none⟩ = some (.int .i64 cy) ∧ W.cell? ⟨w.heap.size + 4, 0, none⟩ = some (.int .i64 dx) ∧ W.cell? ⟨w.heap.size + 4, 1, none⟩ = some (.int .i64 dy) := fun W hb => ⟨q_cell (blkC k_k 0 rfl) hb, q_cell (blkC k_k 1 rfl) hb, q_cell (blkC k_k 2 rfl) hb, q_cell (blkC k_k 3 rfl) hb, q_cell (blkC a_k 0 rfl) hb, q_cell (blkC a_k 1 rfl) hb, q_cell (blkC b_k 0 rfl) hb, q_cell (blkC b_k 1 rfl) hb, q_cell (blkC c_k 0 rfl) hb, q_cell (blkC c_k 1 rfl) hb, q_cell (blkC d_k 0 rfl) hb, q_cell (blkC d_k 1 rfl) hb⟩
  have hC1_0 := (bel_refl x0).drew
  have hs1_0 := (bel_refl x0).drew
  have hT1_0 : Below w.heap.size w x0.drew := hb0.drew
  have H_1_0 := H.keeps (bel_refl x0).drew
  go_region_held3 (fun W => W.cell? ⟨w.heap.size, 0, none⟩ = some (.func (.func 37) #[] #[]) ∧ W.cell? ⟨w.heap.size, 1, none⟩ = some (.func (.func 38) #[] #[]) ∧ W.cell? ⟨w.heap.size, 2, none⟩ = some (.func (.func 39) #[] #[]) ∧ W.cell? ⟨w.heap.size, 3, none⟩ = some (.func (.func 40) #[] #[]) ∧ W.cell? ⟨w.heap.size + 1, 0, none⟩ = some (.int .i64 ax) ∧ W.cell? ⟨w.heap.size + 1, 1, none⟩ = some (.int .i64 ay) ∧ W.cell? ⟨w.heap.size + 2, 0, none⟩ = some (.int .i64 bx) ∧ W.cell? ⟨w.heap.size + 2, 1, none⟩ = some (.int .i64 by') ∧ W.cell? ⟨w.heap.size + 3, 0, none⟩ = some (.int .i64 cx) ∧ W.cell? ⟨w.heap.size + 3, 1, none⟩ = some (.int .i64 cy) ∧ W.cell? ⟨w.heap.size + 4, 0, none⟩ = some (.int .i64 dx) ∧ W.cell? ⟨w.heap.size + 4, 1, none⟩ = some (.int .i64 dy))
    (with_reducible first | assumption | exact KK1 _ hC1_0 | exact KK1 _ hC1_1 | exact KK1 _ hC1_2 | exact KK1 _ hC1_3 | exact KK1 _ hC1_4 | fail)
    (first
      | (go_at_call 41; have _t := hs1_3; refine (msureL _ _ _ _ _).mono ?_; rintro _ y1_4 ⟨rfl, hq1_4⟩; have hs1_4 : Below y1_3.heap.size y1_3 y1_4 := (by with_reducible first | exact hq1_4 | exact bel_trans (bel_alloc _ _) hq1_4 | exact bel_trans (bel_dr _ _) hq1_4); have hT1_4 := bel_trans hT1_3 hs1_4; have hC1_4 := bel_trans hC1_3 hs1_4; have H_1_4 := H_1_3.keeps hs1_4; have nn1 := nm1.keeps hs1_4)
      | (go_at_call 39; have _t := hs1_2; refine (C3.out _ _ _ np1 nb1 (H_1_2.keeps (by with_reducible first | exact bel_refl _ | exact bel_alloc _ _ | exact bel_dr _ _))).mono ?_; rintro _ y1_3 ⟨no, nc, rfl, nm1, hq1_3⟩; have hs1_3 : Below y1_2.heap.size y1_2 y1_3 := (by with_reducible first | exact hq1_3 | exact bel_trans (bel_alloc _ _) hq1_3 | exact bel_trans (bel_dr _ _) hq1_3); have hT1_3 := bel_trans hT1_2 hs1_3; have hC1_3 := bel_trans hC1_2 hs1_3; have H_1_3 := H_1_2.keeps hs1_3)
      | (go_at_call 30; have _t := hs1_1; refine (C2.out _ (H_1_1.keeps (by with_reducible first | exact bel_refl _ | exact bel_alloc _ _ | exact bel_dr _ _))).mono ?_; rintro _ y1_2 ⟨qo, qc, rfl, nb1, hq1_2⟩; have hs1_2 : Below y1_1.heap.size y1_1 y1_2 := (by with_reducible first | exact hq1_2 | exact bel_trans (bel_alloc _ _) hq1_2 | exact bel_trans (bel_dr _ _) hq1_2); have hT1_2 := bel_trans hT1_1 hs1_2; have hC1_2 := bel_trans hC1_1 hs1_2; have H_1_2 := H_1_1.keeps hs1_2; have np1 := na1.keeps hs1_2)
      | (go_at_call 30; refine (C1.out _ (H_1_0.keeps (by with_reducible first | exact bel_refl _ | exact bel_alloc _ _ | exact bel_dr _ _))).mono ?_; rintro _ y1_1 ⟨po, pc, rfl, na1, hq1_1⟩; have hs1_1 : Below x0.drew.heap.size x0.drew y1_1 := (by with_reducible first | exact hq1_1 | exact bel_trans (bel_alloc _ _) hq1_1 | exact bel_trans (bel_dr _ _) hq1_1); have hT1_1 := bel_trans hT1_0 hs1_1; have hC1_1 := bel_trans hC1_0 hs1_1; have H_1_1 := H_1_0.keeps hs1_1))
  go_wp2
  go_ret
  exact ⟨no, nc, rfl, nn1, by first | exact hT1_4 | exact hT1_4.drew⟩
end Go.Proofs.YthpachmmjjlomaaGreatDoor
