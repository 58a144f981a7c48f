/-
  Parts of the proof, one behind another.
-/
import Derived.Test.YtafnigjehkpggaaGreatDoorPart18
import Derived.Test.YtafnigjehkpggaaGreatDoorPart13
import Derived.Test.YtafnigjehkpggaaGreatDoorPart8
import Derived.Test.YtafnigjehkpggaaGreatDoorPart9
import Derived.Test.YtafnigjehkpggaaGreatDoorPart16
import Derived.Test.YtafnigjehkpggaaGreatDoorPart17
import Derived.Test.YtafnigjehkpggaaGreatDoorPart20
namespace Go.Proofs.YtafnigjehkpggaaGreatDoor
open Go Go.RowKit Go.Proofs.YtafnigjehkpggaaGreatDoor.M
set_option linter.unusedSimpArgs false
set_option linter.unusedVariables false
def cLo (V:Int):Int:=if V=0 then 0 else canon (rdP 1 V)
def cHi (V:Int):Int:=if V=0 then 0 else canon (rdP 2 V)
theorem canon_patS {g:Bool} {r:Int} (h0:0 <= r) (h1:r <= 9218868437227405312):canon (patS g r)=patS (g && decide (0 < r)) r:=by
  obtain ⟨a,b,c⟩:=patS_parts (ng:=g) h0 h1
  obtain ⟨d1,d2⟩:=cls_rg a
  rw [b] at d1 d2
  unfold canon
  have n4:¬ cls (patS g r)=4:=fun q=>by have:=d1.1 q; omega
  rw [if_neg n4]
  by_cases hr:r=0
  . rw [if_pos (d2.2 hr),hr]
    cases g <;> decide
  . rw [if_neg (fun q=>hr (d2.1 q)),decide_eq_true (show 0 < r by omega),Bool.and_true]
theorem c_rung {V:Int} (h0:V ≠ 0):∃ (g:Bool) (A:Int) (r0:Nat) (left:Int),V=sg g A∧0 < A∧Rung A r0 left∧cLo V=patS (g && decide (0 < rTo 1 g r0 left)) (rTo 1 g r0 left)∧cHi V=patS (g && decide (0 < rTo 2 g r0 left)) (rTo 2 g r0 left):=by
  obtain ⟨g,A,r0,left,e,hA,hR,_,e1,e2⟩:=dir_cases h0
  have r1:=rTo_range 1 g r0 left
  have r2:=rTo_range 2 g r0 left
  refine ⟨g,A,r0,left,e,hA,hR,?_,?_⟩
  . unfold cLo; rw [if_neg h0,e1,canon_patS r1.1 r1.2]
  . unfold cHi; rw [if_neg h0,e2,canon_patS r2.1 r2.2]
theorem around_c {V:Int} {ng:Bool} {f:Int->Int × Bool} (h:RdOf V ng f):(f 1).1=cLo V∧(f 2).1=cHi V:=by
  obtain ⟨A,r0,left,e,hng,hR,hf⟩:=h
  rw [hf 1,hf 2]
  by_cases h0:V=0
  . have hA:A=0:=by
      rw [h0] at e
      cases ng
      . exact e.symm
      . have:(0:Int)=-A:=e
        omega
    have hn:ng=false:=by
      cases ng
      . rfl
      . have:=hng rfl; omega
    subst hn
    rw [hA] at hR
    obtain ⟨u1,u2⟩:=hR.unique rung_zero
    subst u1 u2
    unfold cLo cHi
    rw [if_pos h0,if_pos h0]
    have t1:=rTo_zero 1
    have t2:=rTo_zero 2
    refine ⟨?_,?_⟩
    . simp only [t1]; rfl
    . simp only [t2]; rfl
  . obtain ⟨g,B,s0,l,e',hB,hR',c1,c2⟩:=c_rung h0
    have hA:0 < A:=by
      have hA0:0 <= A:=by
        have:=hR.lo
        have hv:0 <= vS r0:=Int.mul_nonneg (by omega) (Int.le_of_lt (pw_pos _))
        omega
      have:A ≠ 0:=fun q=>h0 (by rw [e,q]; cases ng <;> rfl)
      omega
    have s1:decide (V < 0)=ng:=by rw [e]; exact sg_lt hA
    have s2:decide (V < 0)=g:=by rw [e']; exact sg_lt hB
    have hg:ng=g:=s1.symm.trans s2
    subst hg
    have hAB:=sg_inj (e.symm.trans e')
    subst hAB
    obtain ⟨u1,u2⟩:=hR.unique hR'
    subst u1 u2
    exact ⟨c1.symm,c2.symm⟩
theorem prod_c {p q:Int} (rp:rng p) (rq:rng q) (hp:pok p=true) (hq:pok q=true):canon (prLo p q)=cLo (prV p q)∧canon (prHi p q)=cHi (prV p q):=by
  have h1:=(pok_rg rp).1 hp
  have h2:=(pok_rg rq).1 hq
  have i2:¬ (rg p=9218868437227405312∨rg q=9218868437227405312):=by omega
  by_cases h0:rg p=0∨rg q=0
  . have hz:prV p q=0:=by
      obtain ⟨_,_,_,_,hC⟩:=prV_parts rp rq hp hq
      have:patV p * patV q=0:=by
        rcases h0 with h | h
        . have:patV p=0:=by rw [patV_iV rp hp]; unfold iV; rw [h]; cases decide (p < 0) <;> exact Int.zero_mul _
          rw [this,Int.zero_mul]
        . have:patV q=0:=by rw [patV_iV rq hq]; unfold iV; rw [h]; cases decide (q < 0) <;> exact Int.zero_mul _
          rw [this,Int.mul_zero]
      rw [this] at hC
      rcases Int.mul_eq_zero.1 hC with k | k
      . exact k
      . exact absurd k (Int.ne_of_gt (two_pos 4194304))
    unfold prLo prHi cLo cHi
    rw [if_pos h0,if_pos h0,if_pos hz,if_pos hz]
    exact ⟨by decide,by decide⟩
  . have hz:=prV_nz rp rq hp hq (fun k=>h0 (.inl k)) (fun k=>h0 (.inr k))
    unfold prLo prHi cLo cHi
    rw [if_neg h0,if_neg h0,if_neg i2,if_neg i2,if_neg hz,if_neg hz]
    exact ⟨rfl,rfl⟩
theorem suN_near {p q:Int} (rp:rng p) (rq:rng q) (hp:pok p=true) (hq:pok q=true):suN p q=if patV p + patV q=0 then patS (decide (hiM p q < 0) && decide (loM p q < 0)) 0 else nearP (patV p + patV q):=by
  unfold suN hiM loM
  by_cases h:rg p < rg q
  . rw [if_pos h,if_pos h,fsum_eqn rq rp hq hp,Int.add_comm]
  . rw [if_neg h,if_neg h,fsum_eqn rp rq hp hq]
theorem sum_c {p q:Int} (rp:rng p) (rq:rng q) (hp:pok p=true) (hq:pok q=true):nn (suN p q)∧canon (beLo (suN p q) (suL p q))=cLo (patV p + patV q)∧canon (beHi (suN p q) (suL p q))=cHi (patV p + patV q):=by
  have hN:=suN_near rp rq hp hq
  have hVi:patV p + patV q=(iV p + iV q) * pw (-1074):=by rw [patV_iV rp hp,patV_iV rq hq,Int.add_mul]
  have hq0:=pw_pos (-1074)
  by_cases h0:patV p + patV q=0
  . rw [if_pos h0] at hN
    have hnn:nn (suN p q):=by rw [hN]; exact patS_nn (by decide) (by decide)
    have hz:iV p + iV q=0:=by
      rcases Int.mul_eq_zero.1 (hVi.symm.trans h0) with k | k
      . exact k
      . omega
    have hpok:pok (suN p q)=true:=by rw [hN]; cases (decide (hiM p q < 0) && decide (loM p q < 0)) <;> decide
    have hi0:iV (suN p q)=0:=by rw [hN]; cases (decide (hiM p q < 0) && decide (loM p q < 0)) <;> decide
    obtain ⟨_,_,hc⟩:=su_btw rp rq hp hq hpok hnn
    rw [hi0,hz] at hc
    refine ⟨hnn,?_⟩
    rcases hc with ⟨_,b1,b2⟩ | ⟨k,_⟩ | ⟨k,_⟩
    . rw [b1,b2]
      unfold cLo cHi
      rw [if_pos h0,if_pos h0,hN]
      exact ⟨by cases (decide (hiM p q < 0) && decide (loM p q < 0)) <;> decide,by cases (decide (hiM p q < 0) && decide (loM p q < 0)) <;> decide⟩
    . omega
    . omega
  . rw [if_neg h0] at hN
    obtain ⟨g1,g2⟩:=nearP_pat h0
    have hnn:nn (suN p q):=by rw [hN]; exact ⟨g1,g2⟩
    refine ⟨hnn,?_⟩
    unfold cLo cHi
    rw [if_neg h0,if_neg h0]
    cases hf:pok (nearP (patV p + patV q))
    . have hi:=dir_inf h0 hf
      have hr:rg (suN p q)=9218868437227405312:=by
        rw [hN]
        have k1:=nn_rg (show nn (nearP (patV p + patV q)) from ⟨g1,g2⟩)
        rcases Int.lt_or_le (rg (nearP (patV p + patV q))) 9218868437227405312 with k | k
        . rw [(pok_rg g1).2 k] at hf; cases hf
        . omega
      have h1:=(pok_rg rp).1 hp
      have h2:=(pok_rg rq).1 hq
      obtain ⟨o1,o2⟩:=su_over ⟨rp,pok_clsF rp hp⟩ ⟨rq,pok_clsF rq hq⟩ (by omega) (by omega) hnn hr
      rcases Int.lt_or_gt_of_ne h0 with k | k
      . obtain ⟨e0,e1,e2⟩:=hi.2 k
        obtain ⟨b1,b2⟩:=o2 (by rw [hN,e0]; decide)
        rw [b1,b2,hN,e0,e1,e2]
        exact ⟨by decide,by decide⟩
      . obtain ⟨e0,e1,e2⟩:=hi.1 k
        obtain ⟨b1,b2⟩:=o1 (by rw [hN,e0]; decide)
        rw [b1,b2,hN,e0,e1,e2]
        exact ⟨by decide,by decide⟩
    . obtain ⟨d1,d2,d3⟩:=dir_fin h0 hf
      rw [<- hN] at d1 d2 d3 hf
      obtain ⟨_,_,hc⟩:=su_btw rp rq hp hq hf hnn
      have hvn:=patV_iV hnn.1 hf
      rw [hvn,hVi] at d1 d2 d3
      rw [hVi]
      generalize pw (-1074)=w at *
      rcases hc with ⟨k,b1,b2⟩ | ⟨k,b1,b2⟩ | ⟨k,b1,b2⟩
      . rw [b1,b2]
        obtain ⟨f1,f2⟩:=d3 (by rw [k])
        rw [<- f1,<- f2]
        exact ⟨rfl,rfl⟩
      . rw [b1,b2]
        obtain ⟨f1,f2⟩:=d1 (Int.mul_lt_mul_of_pos_right k hq0)
        rw [<- f1,<- f2]
        exact ⟨rfl,rfl⟩
      . rw [b1,b2]
        obtain ⟨f1,f2⟩:=d2 (Int.mul_lt_mul_of_pos_right k hq0)
        rw [<- f1,<- f2]
        exact ⟨rfl,rfl⟩
theorem rung_at (r:Nat):Rung (vS r) r 0:=by
  have h:=vS_lt (show r < r + 1 by omega)
  refine ⟨Int.le_refl _,h,⟨fun _=>rfl,fun _=>rfl⟩,⟨fun q=>by omega,fun q=>by omega⟩,⟨fun q=>by omega,fun q=>by omega⟩,⟨fun q=>by omega,fun q=>by omega⟩⟩
theorem rTo_at (way:Int) (g:Bool) {r:Nat} (h:(r:Int) < 9218868437227405312):rTo way g r 0=(r:Int):=by
  rw [rTo_low way h,(rUp_dn (decide (r % 2=1)) 0).2.2.2.2 way g rfl]
  simp
theorem c_at {g:Bool} {r:Nat} (h:(r:Int) < 9218868437227405312) (h0:0 < r):cLo (sg g (vS r))=patS g (r:Int)∧cHi (sg g (vS r))=patS g (r:Int):=by
  have hp:0 < vS r:=by
    have:=vS_lt h0
    have hz:vS 0=0:=by unfold vS; rw [V_zero]; exact Int.zero_mul _
    omega
  have hn:sg g (vS r) ≠ 0:=fun q=>by
    generalize vS r=y at *
    cases g
    . rw [sgFF] at q; omega
    . rw [sgTT] at q; omega
  obtain ⟨g',A,r0,left,e,hA,hR,c1,c2⟩:=c_rung hn
  have s1:decide (sg g (vS r) < 0)=g:=sg_lt hp
  have s2:decide (sg g (vS r) < 0)=g':=by rw [e]; exact sg_lt hA
  have hg:g=g':=s1.symm.trans s2
  subst hg
  have hAB:=sg_inj e
  rw [<- hAB] at hR
  obtain ⟨u1,u2⟩:=hR.unique (rung_at r)
  subst u1 u2
  rw [c1,c2,rTo_at 1 g h,rTo_at 2 g h,decide_eq_true (show (0:Int) < (r0:Int) by omega),Bool.and_true]
  exact ⟨rfl,rfl⟩
theorem q_two_keep {p B:Nat} {x0 x1:Value} {W W':World} (h:p < B∧B <= W.heap.size∧W.cell? ⟨p,0,none⟩=some x0∧W.cell? ⟨p,1,none⟩=some x1) (hb:Below W.heap.size W W') :
    p < B∧B <= W'.heap.size∧W'.cell? ⟨p,0,none⟩=some x0∧W'.cell? ⟨p,1,none⟩=some x1 :=
  ⟨h.1,Nat.le_trans h.2.1 hb.size,q_cell h.2.2.1 hb,q_cell h.2.2.2 hb⟩
theorem Lays.below' {w w':World} (h:Lays w) (hb:Below w.heap.size w w'):Lays w' :=
  ⟨q_cell h.a0 hb,q_cell h.a1 hb,q_cell h.a2 hb,trivial,trivial,trivial⟩
set_option maxRecDepth 100000 in
set_option maxHeartbeats 1000000 in
theorem spanTold {lo hi:Int} (hl:nn lo) (hh:nn hi) (w:World) (L:Lays w) :
    Calls Tryz.prog 82 #[ivl lo hi] w fun e w'=>e=.returned (spn (canon lo) (canon hi))∧Below w.heap.size w w':=by
  unfold ivl spn
  have CO1:Hid (∀ W,Calls Tryz.prog 49 #[.float .f64 (wd lo)] W fun e w'=>e=.returned (.int .i64 lo)∧w'=W):=fun W=>by
    have:=bitsOf lo W hl.1
    rw [show told lo=lo from if_neg hl.2] at this
    exact this
  have CO2:Hid (∀ W,Calls Tryz.prog 49 #[.float .f64 (wd hi)] W fun e w'=>e=.returned (.int .i64 hi)∧w'=W):=fun W=>by
    have:=bitsOf hi W hh.1
    rw [show told hi=hi from if_neg hh.2] at this
    exact this
  have CX':Hid (∀ W,Lays W->Calls Tryz.prog 117 #[.int .i64 lo] W fun e w'=>e=.returned (.int .i64 (canon lo))∧Gr W w'):=fun W LW=>bitsCanon lo W LW
  have CY':Hid (∀ W,Lays W->Calls Tryz.prog 117 #[.int .i64 hi] W fun e w'=>e=.returned (.int .i64 (canon hi))∧Gr W w'):=fun W LW=>bitsCanon hi W LW
  generalize canon lo=X at *
  generalize canon hi=Y at *
  generalize wd lo=A at *
  generalize wd hi=B at *
  have hb2:=bel_alloc2 w (.cells #[.float .f64 A,.float .f64 B] 100) (.cells #[.int .i64 0,.int .i64 0] 73)
  have p0:=heap_a2 w (.cells #[.float .f64 A,.float .f64 B] 100) (.cells #[.int .i64 0,.int .i64 0] 73)
  have p1:=heap_b2 w (.cells #[.float .f64 A,.float .f64 B] 100) (.cells #[.int .i64 0,.int .i64 0] 73)
  have hs:=size2 w (.cells #[.float .f64 A,.float .f64 B] 100) (.cells #[.int .i64 0,.int .i64 0] 73)
  have c0:=blkC p0 0 rfl
  have c1:=blkC p0 1 rfl
  have hbd:=hb2.drew
  have L1:=L.below' hbd
  clear hl hh
  go_enter Tryz.func82,Tryz.ntmps82
  go_wp2_with fail
  generalize (w.alloc (.cells #[.float .f64 A,.float .f64 B] 100)).alloc (.cells #[.int .i64 0,.int .i64 0] 73)=w1 at *
  have hc:w.heap.size < w.heap.size + 1∧w.heap.size + 1 <= w1.drew.heap.size∧w1.drew.cell? ⟨w.heap.size,0,none⟩=some (.float .f64 A)∧w1.drew.cell? ⟨w.heap.size,1,none⟩=some (.float .f64 B):=⟨by omega,by show _ <= w1.heap.size; omega,c0,c1⟩
  have hd:w1.drew.heap[w.heap.size + 1]?=some (.cells #[.int .i64 0,.int .i64 0] 73 (0,0)):=p1
  go_region_held3 (fun W=>w.heap.size < w.heap.size + 1∧w.heap.size + 1 <= W.heap.size∧W.cell? ⟨w.heap.size,0,none⟩=some (.float .f64 A)∧W.cell? ⟨w.heap.size,1,none⟩=some (.float .f64 B))
    (first | assumption | (repeat (first | exact hc | exact hc1 | exact hc2 | refine q_two_set (by omega) ?_)))
    (first
      | (go_at_call 49; have _t:=LA; refine (CO2.out _).mono ?_; rintro _ _ ⟨rfl,rfl⟩)
      | (go_at_call 49; refine (CO1.out _).mono ?_; rintro _ _ ⟨rfl,rfl⟩)
      | (go_at_call 117; have _t:=LA; refine (CY'.out _ LA).mono ?_; rintro _ w3 ⟨rfl,g3⟩; have hc2:=q_two_keep hc1 g3.be; have d2:=(g3.be.block _ (Array.getElem?_eq_some_iff.1 d1).1).trans d1; have d3:=q_heap_set d2 0 (.int .i64 X); have d4:=q_heap_set d3 1 (.int .i64 Y); have f0:=blkC d2 0 rfl; have z0:=blkF d2 0; have f1:=blkC d3 1 rfl; have z1:=blkF d3 1)
      | (go_at_call 117; refine (CX'.out _ L1).mono ?_; rintro _ w2 ⟨rfl,g2⟩; have LA:=L1.grown g2; have hc1:=q_two_keep hc g2.be; have d1:=(g2.be.block _ (Array.getElem?_eq_some_iff.1 hd).1).trans hd))
  have e0:=blkC d4 0 rfl
  have e1:=blkC d4 1 rfl
  have hbe:Below w.heap.size w ((w3.setCell ⟨w.heap.size + 1,0,none⟩ (.int .i64 X)).setCell ⟨w.heap.size + 1,1,none⟩ (.int .i64 Y)):=((bel_trans hbd (bel_trans g2.be g3.be)).setCell (p:=⟨w.heap.size + 1,0,none⟩) (Nat.le_succ _) _).setCell (p:=⟨w.heap.size + 1,1,none⟩) (Nat.le_succ _) _
  clear d1 d2 d3 d4 f0 f1 z0 z1 hd hc hc1 hc2
  generalize (w3.setCell ⟨w.heap.size + 1,0,none⟩ (.int .i64 X)).setCell ⟨w.heap.size + 1,1,none⟩ (.int .i64 Y)=wy at *
  go_wp2
  refine bodyPost_ret (v:=.agg #[.int .i64 X,.int .i64 Y]) (by simp [results,Tryz.results82,go_sem,e0,e1]) rfl ⟨rfl,hbe⟩
def twoV (ok:Bool) (v:Value):Value:=if ok then v else .agg #[.int .i64 0,.int .i64 0]
def errA (ok:Bool):Int:=if ok then 0 else 1
theorem hl_last {n:Nat} (w:World) (o:Obj) (h:n=w.heap.size):(w.alloc o).heap[n]?=some o:=by
  subst h
  show (w.heap.push o)[w.heap.size]?=_
  simp
theorem hl6 (w:World) (o0 o1 o2 o3 o4 o5:Obj):((((((w.alloc o0).alloc o1).alloc o2).alloc o3).alloc o4).alloc o5).drew.drew.drew.heap=(((((w.heap.push o0).push o1).push o2).push o3).push o4).push o5:=rfl
theorem hl6_0 {n m:Nat} {w:World} {o0 o1 o2 o3 o4 o5:Obj} (hs:w.heap.size=m) (h:n=m + 0):(((((((w.alloc o0).alloc o1).alloc o2).alloc o3).alloc o4).alloc o5).drew.drew.drew).heap[n]?=some o0:=by
  subst hs
  subst h
  rw [hl6]
  rw [Array.getElem?_push,if_neg (by first | (simp; done) | (simp; omega))]
  rw [Array.getElem?_push,if_neg (by first | (simp; done) | (simp; omega))]
  rw [Array.getElem?_push,if_neg (by first | (simp; done) | (simp; omega))]
  rw [Array.getElem?_push,if_neg (by first | (simp; done) | (simp; omega))]
  rw [Array.getElem?_push,if_neg (by first | (simp; done) | (simp; omega))]
  rw [Array.getElem?_push,if_pos (by simp)]
theorem hl6_1 {n m:Nat} {w:World} {o0 o1 o2 o3 o4 o5:Obj} (hs:w.heap.size=m) (h:n=m + 1):(((((((w.alloc o0).alloc o1).alloc o2).alloc o3).alloc o4).alloc o5).drew.drew.drew).heap[n]?=some o1:=by
  subst hs
  subst h
  rw [hl6]
  rw [Array.getElem?_push,if_neg (by first | (simp; done) | (simp; omega))]
  rw [Array.getElem?_push,if_neg (by first | (simp; done) | (simp; omega))]
  rw [Array.getElem?_push,if_neg (by first | (simp; done) | (simp; omega))]
  rw [Array.getElem?_push,if_neg (by first | (simp; done) | (simp; omega))]
  rw [Array.getElem?_push,if_pos (by simp)]
theorem hl6_2 {n m:Nat} {w:World} {o0 o1 o2 o3 o4 o5:Obj} (hs:w.heap.size=m) (h:n=m + 2):(((((((w.alloc o0).alloc o1).alloc o2).alloc o3).alloc o4).alloc o5).drew.drew.drew).heap[n]?=some o2:=by
  subst hs
  subst h
  rw [hl6]
  rw [Array.getElem?_push,if_neg (by first | (simp; done) | (simp; omega))]
  rw [Array.getElem?_push,if_neg (by first | (simp; done) | (simp; omega))]
  rw [Array.getElem?_push,if_neg (by first | (simp; done) | (simp; omega))]
  rw [Array.getElem?_push,if_pos (by simp)]
theorem hl6_3 {n m:Nat} {w:World} {o0 o1 o2 o3 o4 o5:Obj} (hs:w.heap.size=m) (h:n=m + 3):(((((((w.alloc o0).alloc o1).alloc o2).alloc o3).alloc o4).alloc o5).drew.drew.drew).heap[n]?=some o3:=by
  subst hs
  subst h
  rw [hl6]
  rw [Array.getElem?_push,if_neg (by first | (simp; done) | (simp; omega))]
  rw [Array.getElem?_push,if_neg (by first | (simp; done) | (simp; omega))]
  rw [Array.getElem?_push,if_pos (by simp)]
theorem hl6_4 {n m:Nat} {w:World} {o0 o1 o2 o3 o4 o5:Obj} (hs:w.heap.size=m) (h:n=m + 4):(((((((w.alloc o0).alloc o1).alloc o2).alloc o3).alloc o4).alloc o5).drew.drew.drew).heap[n]?=some o4:=by
  subst hs
  subst h
  rw [hl6]
  rw [Array.getElem?_push,if_neg (by first | (simp; done) | (simp; omega))]
  rw [Array.getElem?_push,if_pos (by simp)]
theorem hl6_5 {n m:Nat} {w:World} {o0 o1 o2 o3 o4 o5:Obj} (hs:w.heap.size=m) (h:n=m + 5):(((((((w.alloc o0).alloc o1).alloc o2).alloc o3).alloc o4).alloc o5).drew.drew.drew).heap[n]?=some o5:=by
  subst hs
  subst h
  rw [hl6]
  rw [Array.getElem?_push,if_pos (by simp)]
theorem hl6_b {w:World} {o0 o1 o2 o3 o4 o5:Obj}:Below w.heap.size w (((((((w.alloc o0).alloc o1).alloc o2).alloc o3).alloc o4).alloc o5).drew.drew.drew) :=
  (bel_trans (bel_alloc2 w o0 o1) (bel_trans (bel_alloc2 _ o2 o3) (bel_alloc2 _ o4 o5))).drew.drew.drew
theorem s4_keep {a b B:Nat} {x0 x1 x2 x3:Value} {W W':World} (h:(a < B∧b < B∧B <= W.heap.size)∧W.cell? ⟨a,0,none⟩=some x0∧W.cell? ⟨a,1,none⟩=some x1∧W.cell? ⟨b,0,none⟩=some x2∧W.cell? ⟨b,1,none⟩=some x3) (hb:Below W.heap.size W W') :
    (a < B∧b < B∧B <= W'.heap.size)∧W'.cell? ⟨a,0,none⟩=some x0∧W'.cell? ⟨a,1,none⟩=some x1∧W'.cell? ⟨b,0,none⟩=some x2∧W'.cell? ⟨b,1,none⟩=some x3 :=
  ⟨⟨h.1.1,h.1.2.1,Nat.le_trans h.1.2.2 hb.size⟩,q_cell h.2.1 hb,q_cell h.2.2.1 hb,q_cell h.2.2.2.1 hb,q_cell h.2.2.2.2 hb⟩
theorem s4_alloc {a b B:Nat} {x0 x1 x2 x3:Value} {W:World} (o:Obj) (h:(a < B∧b < B∧B <= W.heap.size)∧W.cell? ⟨a,0,none⟩=some x0∧W.cell? ⟨a,1,none⟩=some x1∧W.cell? ⟨b,0,none⟩=some x2∧W.cell? ⟨b,1,none⟩=some x3) :
    (a < B∧b < B∧B <= (W.alloc o).heap.size)∧(W.alloc o).cell? ⟨a,0,none⟩=some x0∧(W.alloc o).cell? ⟨a,1,none⟩=some x1∧(W.alloc o).cell? ⟨b,0,none⟩=some x2∧(W.alloc o).cell? ⟨b,1,none⟩=some x3:=s4_keep h (bel_alloc _ _)
theorem s4_drew {a b B:Nat} {x0 x1 x2 x3:Value} {W:World} (h:(a < B∧b < B∧B <= W.heap.size)∧W.cell? ⟨a,0,none⟩=some x0∧W.cell? ⟨a,1,none⟩=some x1∧W.cell? ⟨b,0,none⟩=some x2∧W.cell? ⟨b,1,none⟩=some x3) :
    (a < B∧b < B∧B <= W.drew.heap.size)∧W.drew.cell? ⟨a,0,none⟩=some x0∧W.drew.cell? ⟨a,1,none⟩=some x1∧W.drew.cell? ⟨b,0,none⟩=some x2∧W.drew.cell? ⟨b,1,none⟩=some x3:=h
theorem mulP_dir {p q way:Int} (rp:rng p) (rq:rng q) (hp:pok p=true) (hq:pok q=true) (h:prV p q ≠ 0) (hw:way ≠ 0):mulP way p q=rdP way (prV p q):=by
  unfold mulP
  have n1:¬ (way=0∨(pok p && pok q)=false):=fun k=>by
    rcases k with k | k
    . exact hw k
    . rw [hp,hq] at k; cases k
  rw [if_neg n1,if_pos h]
theorem prLo_nn {p q:Int} (hp:nn p) (hq:nn q):nn (prLo p q)∧nn (prHi p q):=by
  unfold prLo prHi
  by_cases h0:rg p=0∨rg q=0
  . rw [if_pos h0,if_pos h0]; exact ⟨nn0.1,nn0.1⟩
  . rw [if_neg h0,if_neg h0]
    by_cases hi:rg p=9218868437227405312∨rg q=9218868437227405312
    . rw [if_pos hi,if_pos hi]; exact ⟨patS_nn (by decide) (by decide),patS_nn (by decide) (by decide)⟩
    . rw [if_neg hi,if_neg hi]
      have pp:=rg_pat0 hp (fun k=>hi (.inl k))
      have pq:=rg_pat0 hq (fun k=>hi (.inr k))
      have hz:=prV_nz hp.1 hq.1 pp pq (fun k=>h0 (.inl k)) (fun k=>h0 (.inr k))
      exact ⟨⟨(rdP_pat 1 hz).1,(rdP_pat 1 hz).2⟩,⟨(rdP_pat 2 hz).1,(rdP_pat 2 hz).2⟩⟩
theorem spProduct {p q:Int} (hp:nn p) (hq:nn q) (w:World) (H:Hold4 w) :
    Calls Tryz.prog 83 #[.float .f64 (wd p),.float .f64 (wd q)] w fun e w'=>e=.returned (ivl (prLo p q) (prHi p q))∧Below w.heap.size w w':=by
  by_cases h0:rg p=0∨rg q=0
  . have e1:prLo p q=0:=by unfold prLo; rw [if_pos h0]
    have e2:prHi p q=0:=by unfold prHi; rw [if_pos h0]
    rw [e1,e2]
    exact product_zero hp hq h0 w
  . have p0:rg p ≠ 0:=fun k=>h0 (.inl k)
    have q0:rg q ≠ 0:=fun k=>h0 (.inr k)
    by_cases hi:rg p=9218868437227405312∨rg q=9218868437227405312
    . obtain ⟨f1,f2⟩:=pr_infE hp hq p0 q0 hi
      have hn:nn (fprod p q):=by rw [f1]; exact patS_nn (by decide) (by decide)
      have hd:283726776524341248 <= rg (fprod p q):=by rw [f1,(patS_parts (by decide) (by decide)).2.1]; decide
      have:=product_be hp hq p0 q0 hn hd w
      rw [f2,f1] at this
      have e1:prLo p q=patS (xsg p q) 9218868437227405312:=by unfold prLo; rw [if_neg h0,if_pos hi]
      have e2:prHi p q=patS (xsg p q) 9218868437227405312:=by unfold prHi; rw [if_neg h0,if_pos hi]
      have b1:beLo (patS (xsg p q) 9218868437227405312) 9221120237041090561=patS (xsg p q) 9218868437227405312:=by unfold beLo; rw [show less 9221120237041090561 0=false by decide]; rfl
      have b2:beHi (patS (xsg p q) 9218868437227405312) 9221120237041090561=patS (xsg p q) 9218868437227405312:=by unfold beHi; rw [show less 9221120237041090561 0=false by decide,show less 0 9221120237041090561=false by decide]; rfl
      rw [b1,b2] at this
      rw [e1,e2]
      exact this
    . have pp:=rg_pat0 hp (fun k=>hi (.inl k))
      have pq:=rg_pat0 hq (fun k=>hi (.inr k))
      have hz:=prV_nz hp.1 hq.1 pp pq p0 q0
      have e1:prLo p q=rdP 1 (prV p q):=by unfold prLo; rw [if_neg h0,if_neg hi]
      have e2:prHi p q=rdP 2 (prV p q):=by unfold prHi; rw [if_neg h0,if_neg hi]
      have hN:=fprod_fin hp.1 hq.1 pp pq hz
      have hn:nn (fprod p q):=by rw [hN]; exact ⟨(nearP_pat hz).1,(nearP_pat hz).2⟩
      rw [e1,e2]
      by_cases hd:rg (fprod p q) < 283726776524341248
      . have:=product_deep hp hq p0 q0 hn hd w H
        rwa [mulP_dir hp.1 hq.1 pp pq hz (by decide),mulP_dir hp.1 hq.1 pp pq hz (by decide)] at this
      . have:=product_be hp hq p0 q0 hn (by omega) w
        obtain ⟨b1,b2⟩:=pr_fin hp.1 hq.1 pp pq p0 q0 (by omega)
        rwa [b1,b2] at this
theorem al1 {w W:World} (h:Below w.heap.size w W) (o:Obj):Below w.heap.size w (W.alloc o):=h.alloc h.size o
theorem blk_up {w W:World} (h:Below w.heap.size w W) {g:Nat} {X:Obj} (k:w.heap[g]?=some X):W.heap[g]?=some X:=(h.block _ (Array.getElem?_eq_some_iff.1 k).1).trans k
end Go.Proofs.YtafnigjehkpggaaGreatDoor
