/- Parts of the proof. -/
import Derived.Test.YtkkpppgfoilgmaaGreatDoorPart13
set_option maxRecDepth 100000
set_option maxHeartbeats 8000000
set_option linter.unusedVariables false
set_option linter.unusedSimpArgs false
namespace Go.Proofs.YtkkpppgfoilgmaaGreatDoor
open Go Go.Proofs.Tryz Go.RowKit Go.Proofs.YtkkpppgfoilgmaaGreatDoor.M
def dt (ok:Bool) (v:Value):Value:=if ok then v else .agg #[.int .i64 0,.int .i64 0]
def dO (ok:Bool):Int:=if ok then 0 else 1
theorem iY {n:Nat} (w:World) (o:Obj) (h:n=w.heap.size):(w.alloc o).heap[n]?=some o:=by
 subst h
 show(w.heap.push o)[w.heap.size]?=_
 simp
theorem b6 {n:Nat} {w:World} {x:Obj} (k:w.heap[n]?=some x):w.drew.heap[n]?=some x:=k
theorem un (w:World) (o0 o1 o2 o3 o4 o5:Obj):((((((w.alloc o0).alloc o1).alloc o2).alloc o3).alloc o4).alloc o5).drew.drew.drew.heap=(((((w.heap.push o0).push o1).push o2).push o3).push o4).push o5:=rfl
theorem vD {n m:Nat} {w:World} {o0 o1 o2 o3 o4 o5:Obj} (hs:w.heap.size=m) (h:n=m+0):(((((((w.alloc o0).alloc o1).alloc o2).alloc o3).alloc o4).alloc o5).drew.drew.drew).heap[n]?=some o0:=by
 subst hs
 subst h
 rw[un]
 rw[Array.getElem?_push,if_neg (by first|(simp;done)|(simp;omega))]
 rw[Array.getElem?_push,if_neg (by first|(simp;done)|(simp;omega))]
 rw[Array.getElem?_push,if_neg (by first|(simp;done)|(simp;omega))]
 rw[Array.getElem?_push,if_neg (by first|(simp;done)|(simp;omega))]
 rw[Array.getElem?_push,if_neg (by first|(simp;done)|(simp;omega))]
 rw[Array.getElem?_push,if_pos (by simp)]
theorem vE {n m:Nat} {w:World} {o0 o1 o2 o3 o4 o5:Obj} (hs:w.heap.size=m) (h:n=m+1):(((((((w.alloc o0).alloc o1).alloc o2).alloc o3).alloc o4).alloc o5).drew.drew.drew).heap[n]?=some o1:=by
 subst hs
 subst h
 rw[un]
 rw[Array.getElem?_push,if_neg (by first|(simp;done)|(simp;omega))]
 rw[Array.getElem?_push,if_neg (by first|(simp;done)|(simp;omega))]
 rw[Array.getElem?_push,if_neg (by first|(simp;done)|(simp;omega))]
 rw[Array.getElem?_push,if_neg (by first|(simp;done)|(simp;omega))]
 rw[Array.getElem?_push,if_pos (by simp)]
theorem vF {n m:Nat} {w:World} {o0 o1 o2 o3 o4 o5:Obj} (hs:w.heap.size=m) (h:n=m+2):(((((((w.alloc o0).alloc o1).alloc o2).alloc o3).alloc o4).alloc o5).drew.drew.drew).heap[n]?=some o2:=by
 subst hs
 subst h
 rw[un]
 rw[Array.getElem?_push,if_neg (by first|(simp;done)|(simp;omega))]
 rw[Array.getElem?_push,if_neg (by first|(simp;done)|(simp;omega))]
 rw[Array.getElem?_push,if_neg (by first|(simp;done)|(simp;omega))]
 rw[Array.getElem?_push,if_pos (by simp)]
theorem vG {n m:Nat} {w:World} {o0 o1 o2 o3 o4 o5:Obj} (hs:w.heap.size=m) (h:n=m+3):(((((((w.alloc o0).alloc o1).alloc o2).alloc o3).alloc o4).alloc o5).drew.drew.drew).heap[n]?=some o3:=by
 subst hs
 subst h
 rw[un]
 rw[Array.getElem?_push,if_neg (by first|(simp;done)|(simp;omega))]
 rw[Array.getElem?_push,if_neg (by first|(simp;done)|(simp;omega))]
 rw[Array.getElem?_push,if_pos (by simp)]
theorem vH {n m:Nat} {w:World} {o0 o1 o2 o3 o4 o5:Obj} (hs:w.heap.size=m) (h:n=m+4):(((((((w.alloc o0).alloc o1).alloc o2).alloc o3).alloc o4).alloc o5).drew.drew.drew).heap[n]?=some o4:=by
 subst hs
 subst h
 rw[un]
 rw[Array.getElem?_push,if_neg (by first|(simp;done)|(simp;omega))]
 rw[Array.getElem?_push,if_pos (by simp)]
theorem vI {n m:Nat} {w:World} {o0 o1 o2 o3 o4 o5:Obj} (hs:w.heap.size=m) (h:n=m+5):(((((((w.alloc o0).alloc o1).alloc o2).alloc o3).alloc o4).alloc o5).drew.drew.drew).heap[n]?=some o5:=by
 subst hs
 subst h
 rw[un]
 rw[Array.getElem?_push,if_pos (by simp)]
theorem vJ {w:World} {o0 o1 o2 o3 o4 o5:Obj}:Below w.heap.size w (((((((w.alloc o0).alloc o1).alloc o2).alloc o3).alloc o4).alloc o5).drew.drew.drew) :=
 (ab (ar w o0 o1) (ab (ar _ o2 o3) (ar _ o4 o5))).drew.drew.drew
theorem iZ {a b B:Nat} {x0 x1 x2 x3:Value} {W W':World} (h:(a<B∧b<B∧B<=W.heap.size)∧W.cell? ⟨a,0,none⟩=some x0∧W.cell? ⟨a,1,none⟩=some x1∧W.cell? ⟨b,0,none⟩=some x2∧W.cell? ⟨b,1,none⟩=some x3) (hb:Below W.heap.size W W') :
  (a<B∧b<B∧B<=W'.heap.size)∧W'.cell? ⟨a,0,none⟩=some x0∧W'.cell? ⟨a,1,none⟩=some x1∧W'.cell? ⟨b,0,none⟩=some x2∧W'.cell? ⟨b,1,none⟩=some x3 :=
 ⟨⟨h.1.1,h.1.2.1,Nat.le_trans h.1.2.2 hb.size⟩,am h.2.1 hb,am h.2.2.1 hb,am h.2.2.2.1 hb,am h.2.2.2.2 hb⟩
theorem n8 {a b B:Nat} {x0 x1 x2 x3:Value} {W:World} (o:Obj) (h:(a<B∧b<B∧B<=W.heap.size)∧W.cell? ⟨a,0,none⟩=some x0∧W.cell? ⟨a,1,none⟩=some x1∧W.cell? ⟨b,0,none⟩=some x2∧W.cell? ⟨b,1,none⟩=some x3) :
  (a<B∧b<B∧B<=(W.alloc o).heap.size)∧(W.alloc o).cell? ⟨a,0,none⟩=some x0∧(W.alloc o).cell? ⟨a,1,none⟩=some x1∧(W.alloc o).cell? ⟨b,0,none⟩=some x2∧(W.alloc o).cell? ⟨b,1,none⟩=some x3:=iZ h (ae _ _)
theorem jN {a b B:Nat} {x0 x1 x2 x3:Value} {W:World} (h:(a<B∧b<B∧B<=W.heap.size)∧W.cell? ⟨a,0,none⟩=some x0∧W.cell? ⟨a,1,none⟩=some x1∧W.cell? ⟨b,0,none⟩=some x2∧W.cell? ⟨b,1,none⟩=some x3) :
  (a<B∧b<B∧B<=W.drew.heap.size)∧W.drew.cell? ⟨a,0,none⟩=some x0∧W.drew.cell? ⟨a,1,none⟩=some x1∧W.drew.cell? ⟨b,0,none⟩=some x2∧W.drew.cell? ⟨b,1,none⟩=some x3:=h
theorem qw (F:Nat) {a b c d x y:Int} (ha:au a) (hb:au b) (hc:au c) (hd:au d) (w:World) (L:eI w)
    (hE:∀ (cap:Array Value) (w:World),(callFunc F cap).run prog w=.ok (.enter F cap) w)
    (CF:Hid (aK a b=true->aK c d=true->nn x∧nn y∧∀ W,eI W->Calls prog F #[bU a b,bU c d] W fun e w'=>e=.returned (bU x y)∧Below W.heap.size W w')) :
    Calls prog 35 #[bf a b,bf c d,.func (.func F) #[] #[]] w fun e w'=>e=.returned (.tuple #[dt (aK a b&&aK c d) (bf (az x) (az y)),.int .i64 (dO (aK a b&&aK c d))])∧Below w.heap.size w w':=by
  have R1:=fun W=>gk a b W
  have R2:=fun W=>gk c d W
  have V1:Hid (∀ W,Calls prog 38 #[bU a b] W fun e w'=>e=.returned (.bool (aK a b))∧Below W.heap.size W w'):=fun W=>cM ha hb W
  have V2:Hid (∀ W,Calls prog 38 #[bU c d] W fun e w'=>e=.returned (.bool (aK c d))∧Below W.heap.size W w'):=fun W=>cM hc hd W
  unfold bf bU at *
  obtain⟨q0,q1,q2,hs,hb3⟩:=gC w (.cells #[.int .i64 a,.int .i64 b] 23) (.cells #[.int .i64 c,.int .i64 d] 23) (.cells #[.int .i64 0,.int .i64 0] 23)
  go_enter func35,ntmps35
  go_wp2_with fail
  have k0:=aa q0 0 rfl
  have k1:=aa q0 1 rfl
  have k2:=aa q1 0 rfl
  have k3:=aa q1 1 rfl
  generalize ((w.alloc (.cells #[.int .i64 a,.int .i64 b] 23)).alloc (.cells #[.int .i64 c,.int .i64 d] 23)).alloc (.cells #[.int .i64 0,.int .i64 0] 23)=wx at *
  have hst:∀ (p:Addr) (n:Nat) (m:Mode) (w:World),(store p (.float .f64 n) m).run prog w=stored prog w p (.float .f64 n) m:=fun p n m w=>run_store _ w p _ m rfl
  have hc:(w.heap.size<w.heap.size+3∧w.heap.size+1<w.heap.size+3∧w.heap.size+3<=wx.drew.heap.size)∧wx.drew.cell? ⟨w.heap.size,0,none⟩=some (.int .i64 a)∧wx.drew.cell? ⟨w.heap.size,1,none⟩=some (.int .i64 b)∧wx.drew.cell? ⟨w.heap.size+1,0,none⟩=some (.int .i64 c)∧wx.drew.cell? ⟨w.heap.size+1,1,none⟩=some (.int .i64 d):=⟨⟨by omega,by omega,by show _<=wx.heap.size;omega⟩,k0,k1,k2,k3⟩
  rename_i Q' K haK
  have H:∀ (gi gj:Nat) (W:World),W.heap[gi]?=some (.cells #[.float .f64 (wd a),.float .f64 (wd b)] 64 (0,0))->W.heap[gj]?=some (.cells #[.float .f64 (wd c),.float .f64 (wd d)] 64 (0,0))->Below wx.heap.size wx W ->
      Exit.then K Q' Exit.normal { tmps:=#[.agg #[.int .i64 a,.int .i64 b],.agg #[.int .i64 c,.int .i64 d],.func (.func F) #[] #[],.pointer (some ⟨w.heap.size,0,none⟩),.pointer (some ⟨w.heap.size+1,0,none⟩),undef,.pointer (some ⟨w.heap.size+1+1,0,none⟩),.int .i64 0,.pointer (some ⟨gi,0,none⟩),.pointer (some ⟨gj,0,none⟩),.agg #[.int .i64 a,.int .i64 b],.agg #[.float .f64 (wd a),.float .f64 (wd b)],.agg #[.int .i64 c,.int .i64 d],.agg #[.float .f64 (wd c),.float .f64 (wd d)],undef,undef,undef,undef,undef,undef,undef,undef,undef,undef,undef,undef,undef,undef],defers:=[] } W:=by
    intro gi gj W hgi hgj hbW
    clear hc k0 k1 k2 k3 q0 q1 R1 R2 hst
    have i0:=aa hgi 0 rfl
    have i1:=aa hgi 1 rfl
    have j0:=aa hgj 0 rfl
    have j1:=aa hgj 1 rfl
    go_wp2_with fail
    refine(V1.out _).mono ?_
    rintro _ w1 ⟨rfl,hb4⟩
    have hgi1:=(hb4.block _ (aGe hgi).1).trans hgi
    have hgj1:=(hb4.block _ (aGe hgj).1).trans hgj
    clear i0 i1 j0 j1
    have j0:=aa hgj1 0 rfl
    have j1:=aa hgj1 1 rfl
    by_cases h1:aK a b=false
    · rw[h1]
      have hbR:=ab hbW hb4
      have d2:=(hbR.block _ (aGe q2).1).trans q2
      have d3:=aj d2 0 (.int .i64 0)
      have d4:=aj d3 1 (.int .i64 0)
      have f0:=aa d2 0 rfl
      have z0:=af d2 0
      have f1:=aa d3 1 rfl
      have z1:=af d3 1
      have e0:=aa d4 0 rfl
      have e1:=aa d4 1 rfl
      have hbe:=((ab hb3 hbR).setCell (p:=⟨w.heap.size+1+1,0,none⟩) (show w.heap.size<=w.heap.size+1+1 by omega) (.int .i64 0)).setCell (p:=⟨w.heap.size+1+1,1,none⟩) (show w.heap.size<=w.heap.size+1+1 by omega) (.int .i64 0)
      clear d2 d3 d4
      go_wp2
      refine bodyPost_ret (v:=.tuple #[.agg #[.int .i64 0,.int .i64 0],.int .i64 1]) (by simp[results,results35,go_sem,e0,e1]) rfl ⟨by rw[h1];rfl,hbe⟩
    replace h1:aK a b=true:=by simpa using h1
    rw[h1]
    go_wp2_with fail
    refine(V2.out _).mono ?_
    rintro _ w2 ⟨rfl,hb5⟩
    have hgi2:=(hb5.block _ (aGe hgi1).1).trans hgi1
    have hgj2:=(hb5.block _ (aGe hgj1).1).trans hgj1
    clear j0 j1
    have i0:=aa hgi2 0 rfl
    have i1:=aa hgi2 1 rfl
    have j0:=aa hgj2 0 rfl
    have j1:=aa hgj2 1 rfl
    have hbR:=ab hbW (ab hb4 hb5)
    by_cases h2:aK c d=false
    · rw[h2]
      have d2:=(hbR.block _ (aGe q2).1).trans q2
      have d3:=aj d2 0 (.int .i64 0)
      have d4:=aj d3 1 (.int .i64 0)
      have f0:=aa d2 0 rfl
      have z0:=af d2 0
      have f1:=aa d3 1 rfl
      have z1:=af d3 1
      have e0:=aa d4 0 rfl
      have e1:=aa d4 1 rfl
      have hbe:=((ab hb3 hbR).setCell (p:=⟨w.heap.size+1+1,0,none⟩) (show w.heap.size<=w.heap.size+1+1 by omega) (.int .i64 0)).setCell (p:=⟨w.heap.size+1+1,1,none⟩) (show w.heap.size<=w.heap.size+1+1 by omega) (.int .i64 0)
      clear d2 d3 d4
      go_wp2
      refine bodyPost_ret (v:=.tuple #[.agg #[.int .i64 0,.int .i64 0],.int .i64 1]) (by simp[results,results35,go_sem,e0,e1]) rfl ⟨by rw[h2,Bool.and_false];rfl,hbe⟩
    replace h2:aK c d=true:=by simpa using h2
    rw[h2]
    obtain⟨nx,ny,CF'⟩:=CF.out h1 h2
    have L2:=L.below' (ab hb3 hbR)
    have CT:=fun W LW=>iX nx ny W LW
    unfold bU bf at CT
    go_wp2_with fail
    refine(CF' _ L2).mono ?_
    rintro _ w3 ⟨rfl,hb6⟩
    have L3:=L2.below' hb6
    go_wp2_with fail
    refine(CT _ L3).mono ?_
    rintro _ w4 ⟨rfl,hb7⟩
    replace hbR:=ab hbR (ab hb6 hb7)
    have d2:=(hbR.block _ (aGe q2).1).trans q2
    generalize hX:az x=X at *
    generalize hY:az y=Y at *
    have d3:=aj d2 0 (.int .i64 X)
    have d4:=aj d3 1 (.int .i64 Y)
    have f0:=aa d2 0 rfl
    have z0:=af d2 0
    have f1:=aa d3 1 rfl
    have z1:=af d3 1
    have e0:=aa d4 0 rfl
    have e1:=aa d4 1 rfl
    have hbe:=((ab hb3 hbR).setCell (p:=⟨w.heap.size+1+1,0,none⟩) (show w.heap.size<=w.heap.size+1+1 by omega) (.int .i64 X)).setCell (p:=⟨w.heap.size+1+1,1,none⟩) (show w.heap.size<=w.heap.size+1+1 by omega) (.int .i64 Y)
    clear d2 d3 d4 CT CF CF'
    go_wp2
    refine bodyPost_ret (v:=.tuple #[.agg #[.int .i64 X,.int .i64 Y],.int .i64 0]) (by simp[results,results35,go_sem,e0,e1]) rfl ⟨by rw[h1,h2,hX,hY];rfl,hbe⟩
  go_region_held3 (fun W=>(w.heap.size<w.heap.size+3∧w.heap.size+1<w.heap.size+3∧w.heap.size+3<=W.heap.size)∧W.cell? ⟨w.heap.size,0,none⟩=some (.int .i64 a)∧W.cell? ⟨w.heap.size,1,none⟩=some (.int .i64 b)∧W.cell? ⟨w.heap.size+1,0,none⟩=some (.int .i64 c)∧W.cell? ⟨w.heap.size+1,1,none⟩=some (.int .i64 d))
    (first|assumption|(repeat (first|exact hc|refine jN ?_|refine n8 _ ?_|refine kT (by first|omega|(simp;omega)) ?_)))
    (first
      | (go_at_call 37;have _t:=T1;refine(R2 _).mono ?_;rintro _ _ ⟨rfl,rfl⟩)
      | (go_at_call 37; refine (R1 _).mono ?_; rintro _ _ ⟨rfl,rfl⟩; have T1:True:=trivial))
  all_goals
    refine H _ _ _ ?_ ?_ vJ
    all_goals first
      | exact vD hs rfl
      | exact vE hs rfl
      | exact vF hs rfl
      | exact vG hs rfl
      | exact vH hs rfl
      | exact vI hs rfl
theorem sQ {p q way:Int} (rp:au p) (rq:au q) (hp:aC p=true) (hq:aC q=true) (h:b9 p q≠0) (hw:way≠0):eZ way p q=df way (b9 p q):=by
 unfold eZ
 have n1:¬ (way=0∨(aC p&&aC q)=false):=fun k=>by
  rcases k with k|k
  ·exact hw k
  ·rw[hp,hq] at k;cases k
 rw[if_neg n1,if_pos h]
theorem bM {p q:Int} (hp:nn p) (hq:nn q):nn (cz p q)∧nn (cQ p q):=by
 unfold cz cQ
 by_cases h0:rg p=0∨rg q=0
 ·rw[if_pos h0,if_pos h0];exact⟨dR.1,dR.1⟩
 ·rw[if_neg h0,if_neg h0]
  by_cases hi:rg p=9218868437227405312∨rg q=9218868437227405312
  ·rw[if_pos hi,if_pos hi];exact⟨iu (by decide) (by decide),iu (by decide) (by decide)⟩
  ·rw[if_neg hi,if_neg hi]
   have pp:=cX hp (fun k=>hi (.inl k))
   have pq:=cX hq (fun k=>hi (.inr k))
   have hz:=oR hp.1 hq.1 pp pq (fun k=>h0 (.inl k)) (fun k=>h0 (.inr k))
   exact⟨⟨(jL 1 hz).1,(jL 1 hz).2⟩,⟨(jL 2 hz).1,(jL 2 hz).2⟩⟩
theorem iw {p q:Int} (hp:nn p) (hq:nn q) (w:World) (H:ax w) :
  Calls prog 66 #[.float .f64 (wd p),.float .f64 (wd q)] w fun e w'=>e=.returned (bU (cz p q) (cQ p q))∧Below w.heap.size w w':=by
 by_cases h0:rg p=0∨rg q=0
 ·have e1:cz p q=0:=by unfold cz;rw[if_pos h0]
  have e2:cQ p q=0:=by unfold cQ;rw[if_pos h0]
  rw[e1,e2]
  exact sO hp hq h0 w
 ·have p0:rg p≠0:=fun k=>h0 (.inl k)
  have q0:rg q≠0:=fun k=>h0 (.inr k)
  by_cases hi:rg p=9218868437227405312∨rg q=9218868437227405312
  ·obtain⟨f1,f2⟩:=BK hp hq p0 q0 hi
   have hn:nn (aS p q):=by rw[f1];exact iu (by decide) (by decide)
   have hd:283726776524341248<=rg (aS p q):=by rw[f1,(dV (by decide) (by decide)).2.1];decide
   have:=oU hp hq p0 q0 hn hd w
   rw[f2,f1] at this
   have e1:cz p q=ay (bg p q) 9218868437227405312:=by unfold cz;rw[if_neg h0,if_pos hi]
   have e2:cQ p q=ay (bg p q) 9218868437227405312:=by unfold cQ;rw[if_neg h0,if_pos hi]
   have b1:c6 (ay (bg p q) 9218868437227405312) 9221120237041090561=ay (bg p q) 9218868437227405312:=by unfold c6;rw[show bI 9221120237041090561 0=false by decide];rfl
   have b2:c7 (ay (bg p q) 9218868437227405312) 9221120237041090561=ay (bg p q) 9218868437227405312:=by unfold c7;rw[show bI 9221120237041090561 0=false by decide,show bI 0 9221120237041090561=false by decide];rfl
   rw[b1,b2] at this
   rw[e1,e2]
   exact this
  ·have pp:=cX hp (fun k=>hi (.inl k))
   have pq:=cX hq (fun k=>hi (.inr k))
   have hz:=oR hp.1 hq.1 pp pq p0 q0
   have e1:cz p q=df 1 (b9 p q):=by unfold cz;rw[if_neg h0,if_neg hi]
   have e2:cQ p q=df 2 (b9 p q):=by unfold cQ;rw[if_neg h0,if_neg hi]
   have hN:=qp hp.1 hq.1 pp pq hz
   have hn:nn (aS p q):=by rw[hN];exact⟨(dZ hz).1,(dZ hz).2⟩
   rw[e1,e2]
   by_cases hd:rg (aS p q)<283726776524341248
   ·have:=sP hp hq p0 q0 hn hd w H
    rwa [sQ hp.1 hq.1 pp pq hz (by decide),sQ hp.1 hq.1 pp pq hz (by decide)] at this
   ·have:=oU hp hq p0 q0 hn (by omega) w
    obtain⟨b1,b2⟩:=DO hp.1 hq.1 pp pq p0 q0 (by omega)
    rwa [b1,b2] at this
theorem aD {w W:World} (h:Below w.heap.size w W) (o:Obj):Below w.heap.size w (W.alloc o):=h.alloc h.size o
theorem kF (w:World):w.drew.heap.size=w.heap.size:=rfl
theorem qy (w:World) (a:Obj):w.heap.size+1=(w.alloc a).heap.size:=(ak _ _).symm
theorem qA (w:World) (a b:Obj):w.heap.size+1+1=((w.alloc a).alloc b).heap.size:=by rw[ak,ak]
theorem ac {w W:World} (h:Below w.heap.size w W) {g:Nat} {X:Obj} (k:w.heap[g]?=some X):W.heap[g]?=some X:=(h.block _ (aGe k).1).trans k
theorem Ax {W:World} {g:Nat} (h:W.heap[g]?=some (.cells #[.float .f64 0,.float .f64 0,.float .f64 0,.float .f64 0,.float .f64 0,.float .f64 0,.float .f64 0,.float .f64 0] 110 (0,0))) (v0 v1 v2 v3 v4 v5 v6 v7:Nat) :
  (store ⟨g,0,none⟩ (.float .f64 v0)).run prog W=.ok () (W.setCell ⟨g,0,none⟩ (.float .f64 v0))∧(store ⟨g,1,none⟩ (.float .f64 v1)).run prog (W.setCell ⟨g,0,none⟩ (.float .f64 v0))=.ok () ((W.setCell ⟨g,0,none⟩ (.float .f64 v0)).setCell ⟨g,1,none⟩ (.float .f64 v1))∧(store ⟨g,2,none⟩ (.float .f64 v2)).run prog ((W.setCell ⟨g,0,none⟩ (.float .f64 v0)).setCell ⟨g,1,none⟩ (.float .f64 v1))=.ok () (((W.setCell ⟨g,0,none⟩ (.float .f64 v0)).setCell ⟨g,1,none⟩ (.float .f64 v1)).setCell ⟨g,2,none⟩ (.float .f64 v2))∧(store ⟨g,3,none⟩ (.float .f64 v3)).run prog (((W.setCell ⟨g,0,none⟩ (.float .f64 v0)).setCell ⟨g,1,none⟩ (.float .f64 v1)).setCell ⟨g,2,none⟩ (.float .f64 v2))=.ok () ((((W.setCell ⟨g,0,none⟩ (.float .f64 v0)).setCell ⟨g,1,none⟩ (.float .f64 v1)).setCell ⟨g,2,none⟩ (.float .f64 v2)).setCell ⟨g,3,none⟩ (.float .f64 v3))∧(store ⟨g,4,none⟩ (.float .f64 v4)).run prog ((((W.setCell ⟨g,0,none⟩ (.float .f64 v0)).setCell ⟨g,1,none⟩ (.float .f64 v1)).setCell ⟨g,2,none⟩ (.float .f64 v2)).setCell ⟨g,3,none⟩ (.float .f64 v3))=.ok () (((((W.setCell ⟨g,0,none⟩ (.float .f64 v0)).setCell ⟨g,1,none⟩ (.float .f64 v1)).setCell ⟨g,2,none⟩ (.float .f64 v2)).setCell ⟨g,3,none⟩ (.float .f64 v3)).setCell ⟨g,4,none⟩ (.float .f64 v4))∧(store ⟨g,5,none⟩ (.float .f64 v5)).run prog (((((W.setCell ⟨g,0,none⟩ (.float .f64 v0)).setCell ⟨g,1,none⟩ (.float .f64 v1)).setCell ⟨g,2,none⟩ (.float .f64 v2)).setCell ⟨g,3,none⟩ (.float .f64 v3)).setCell ⟨g,4,none⟩ (.float .f64 v4))=.ok () ((((((W.setCell ⟨g,0,none⟩ (.float .f64 v0)).setCell ⟨g,1,none⟩ (.float .f64 v1)).setCell ⟨g,2,none⟩ (.float .f64 v2)).setCell ⟨g,3,none⟩ (.float .f64 v3)).setCell ⟨g,4,none⟩ (.float .f64 v4)).setCell ⟨g,5,none⟩ (.float .f64 v5))∧(store ⟨g,6,none⟩ (.float .f64 v6)).run prog ((((((W.setCell ⟨g,0,none⟩ (.float .f64 v0)).setCell ⟨g,1,none⟩ (.float .f64 v1)).setCell ⟨g,2,none⟩ (.float .f64 v2)).setCell ⟨g,3,none⟩ (.float .f64 v3)).setCell ⟨g,4,none⟩ (.float .f64 v4)).setCell ⟨g,5,none⟩ (.float .f64 v5))=.ok () (((((((W.setCell ⟨g,0,none⟩ (.float .f64 v0)).setCell ⟨g,1,none⟩ (.float .f64 v1)).setCell ⟨g,2,none⟩ (.float .f64 v2)).setCell ⟨g,3,none⟩ (.float .f64 v3)).setCell ⟨g,4,none⟩ (.float .f64 v4)).setCell ⟨g,5,none⟩ (.float .f64 v5)).setCell ⟨g,6,none⟩ (.float .f64 v6))∧(store ⟨g,7,none⟩ (.float .f64 v7)).run prog (((((((W.setCell ⟨g,0,none⟩ (.float .f64 v0)).setCell ⟨g,1,none⟩ (.float .f64 v1)).setCell ⟨g,2,none⟩ (.float .f64 v2)).setCell ⟨g,3,none⟩ (.float .f64 v3)).setCell ⟨g,4,none⟩ (.float .f64 v4)).setCell ⟨g,5,none⟩ (.float .f64 v5)).setCell ⟨g,6,none⟩ (.float .f64 v6))=.ok () ((((((((W.setCell ⟨g,0,none⟩ (.float .f64 v0)).setCell ⟨g,1,none⟩ (.float .f64 v1)).setCell ⟨g,2,none⟩ (.float .f64 v2)).setCell ⟨g,3,none⟩ (.float .f64 v3)).setCell ⟨g,4,none⟩ (.float .f64 v4)).setCell ⟨g,5,none⟩ (.float .f64 v5)).setCell ⟨g,6,none⟩ (.float .f64 v6)).setCell ⟨g,7,none⟩ (.float .f64 v7))∧((((((((W.setCell ⟨g,0,none⟩ (.float .f64 v0)).setCell ⟨g,1,none⟩ (.float .f64 v1)).setCell ⟨g,2,none⟩ (.float .f64 v2)).setCell ⟨g,3,none⟩ (.float .f64 v3)).setCell ⟨g,4,none⟩ (.float .f64 v4)).setCell ⟨g,5,none⟩ (.float .f64 v5)).setCell ⟨g,6,none⟩ (.float .f64 v6)).setCell ⟨g,7,none⟩ (.float .f64 v7)).heap[g]?=some (.cells #[.float .f64 v0,.float .f64 v1,.float .f64 v2,.float .f64 v3,.float .f64 v4,.float .f64 v5,.float .f64 v6,.float .f64 v7] 110 (0,0)):=by
 have d1:(W.setCell ⟨g,0,none⟩ (.float .f64 v0)).heap[g]?=some (.cells #[.float .f64 v0,.float .f64 0,.float .f64 0,.float .f64 0,.float .f64 0,.float .f64 0,.float .f64 0,.float .f64 0] 110 (0,0)):=aj h 0 (.float .f64 v0)
 have d2:((W.setCell ⟨g,0,none⟩ (.float .f64 v0)).setCell ⟨g,1,none⟩ (.float .f64 v1)).heap[g]?=some (.cells #[.float .f64 v0,.float .f64 v1,.float .f64 0,.float .f64 0,.float .f64 0,.float .f64 0,.float .f64 0,.float .f64 0] 110 (0,0)):=aj d1 1 (.float .f64 v1)
 have d3:(((W.setCell ⟨g,0,none⟩ (.float .f64 v0)).setCell ⟨g,1,none⟩ (.float .f64 v1)).setCell ⟨g,2,none⟩ (.float .f64 v2)).heap[g]?=some (.cells #[.float .f64 v0,.float .f64 v1,.float .f64 v2,.float .f64 0,.float .f64 0,.float .f64 0,.float .f64 0,.float .f64 0] 110 (0,0)):=aj d2 2 (.float .f64 v2)
 have d4:((((W.setCell ⟨g,0,none⟩ (.float .f64 v0)).setCell ⟨g,1,none⟩ (.float .f64 v1)).setCell ⟨g,2,none⟩ (.float .f64 v2)).setCell ⟨g,3,none⟩ (.float .f64 v3)).heap[g]?=some (.cells #[.float .f64 v0,.float .f64 v1,.float .f64 v2,.float .f64 v3,.float .f64 0,.float .f64 0,.float .f64 0,.float .f64 0] 110 (0,0)):=aj d3 3 (.float .f64 v3)
 have d5:(((((W.setCell ⟨g,0,none⟩ (.float .f64 v0)).setCell ⟨g,1,none⟩ (.float .f64 v1)).setCell ⟨g,2,none⟩ (.float .f64 v2)).setCell ⟨g,3,none⟩ (.float .f64 v3)).setCell ⟨g,4,none⟩ (.float .f64 v4)).heap[g]?=some (.cells #[.float .f64 v0,.float .f64 v1,.float .f64 v2,.float .f64 v3,.float .f64 v4,.float .f64 0,.float .f64 0,.float .f64 0] 110 (0,0)):=aj d4 4 (.float .f64 v4)
 have d6:((((((W.setCell ⟨g,0,none⟩ (.float .f64 v0)).setCell ⟨g,1,none⟩ (.float .f64 v1)).setCell ⟨g,2,none⟩ (.float .f64 v2)).setCell ⟨g,3,none⟩ (.float .f64 v3)).setCell ⟨g,4,none⟩ (.float .f64 v4)).setCell ⟨g,5,none⟩ (.float .f64 v5)).heap[g]?=some (.cells #[.float .f64 v0,.float .f64 v1,.float .f64 v2,.float .f64 v3,.float .f64 v4,.float .f64 v5,.float .f64 0,.float .f64 0] 110 (0,0)):=aj d5 5 (.float .f64 v5)
 have d7:(((((((W.setCell ⟨g,0,none⟩ (.float .f64 v0)).setCell ⟨g,1,none⟩ (.float .f64 v1)).setCell ⟨g,2,none⟩ (.float .f64 v2)).setCell ⟨g,3,none⟩ (.float .f64 v3)).setCell ⟨g,4,none⟩ (.float .f64 v4)).setCell ⟨g,5,none⟩ (.float .f64 v5)).setCell ⟨g,6,none⟩ (.float .f64 v6)).heap[g]?=some (.cells #[.float .f64 v0,.float .f64 v1,.float .f64 v2,.float .f64 v3,.float .f64 v4,.float .f64 v5,.float .f64 v6,.float .f64 0] 110 (0,0)):=aj d6 6 (.float .f64 v6)
 have d8:((((((((W.setCell ⟨g,0,none⟩ (.float .f64 v0)).setCell ⟨g,1,none⟩ (.float .f64 v1)).setCell ⟨g,2,none⟩ (.float .f64 v2)).setCell ⟨g,3,none⟩ (.float .f64 v3)).setCell ⟨g,4,none⟩ (.float .f64 v4)).setCell ⟨g,5,none⟩ (.float .f64 v5)).setCell ⟨g,6,none⟩ (.float .f64 v6)).setCell ⟨g,7,none⟩ (.float .f64 v7)).heap[g]?=some (.cells #[.float .f64 v0,.float .f64 v1,.float .f64 v2,.float .f64 v3,.float .f64 v4,.float .f64 v5,.float .f64 v6,.float .f64 v7] 110 (0,0)):=aj d7 7 (.float .f64 v7)
 refine⟨?_,?_,?_,?_,?_,?_,?_,?_,d8⟩
 ·have f:=aa h 0 rfl
  have z:=af h 0
  rw[run_store _ _ _ _ _ rfl,f];simp only[z];rfl
 ·have f:=aa d1 1 rfl
  have z:=af d1 1
  rw[run_store _ _ _ _ _ rfl,f];simp only[z];rfl
 ·have f:=aa d2 2 rfl
  have z:=af d2 2
  rw[run_store _ _ _ _ _ rfl,f];simp only[z];rfl
 ·have f:=aa d3 3 rfl
  have z:=af d3 3
  rw[run_store _ _ _ _ _ rfl,f];simp only[z];rfl
 ·have f:=aa d4 4 rfl
  have z:=af d4 4
  rw[run_store _ _ _ _ _ rfl,f];simp only[z];rfl
 ·have f:=aa d5 5 rfl
  have z:=af d5 5
  rw[run_store _ _ _ _ _ rfl,f];simp only[z];rfl
 ·have f:=aa d6 6 rfl
  have z:=af d6 6
  rw[run_store _ _ _ _ _ rfl,f];simp only[z];rfl
 ·have f:=aa d7 7 rfl
  have z:=af d7 7
  rw[run_store _ _ _ _ _ rfl,f];simp only[z];rfl
theorem Gm (W:World) (v0 v1 v2 v3 v4 v5 v6 v7:Nat) :
  (store ⟨W.heap.size,0,none⟩ (.float .f64 v0)).run prog (W.alloc (.cells #[.float .f64 0,.float .f64 0,.float .f64 0,.float .f64 0,.float .f64 0,.float .f64 0,.float .f64 0,.float .f64 0] 110))=.ok () (W.alloc (.cells #[.float .f64 v0,.float .f64 0,.float .f64 0,.float .f64 0,.float .f64 0,.float .f64 0,.float .f64 0,.float .f64 0] 110))∧(store ⟨W.heap.size,1,none⟩ (.float .f64 v1)).run prog (W.alloc (.cells #[.float .f64 v0,.float .f64 0,.float .f64 0,.float .f64 0,.float .f64 0,.float .f64 0,.float .f64 0,.float .f64 0] 110))=.ok () (W.alloc (.cells #[.float .f64 v0,.float .f64 v1,.float .f64 0,.float .f64 0,.float .f64 0,.float .f64 0,.float .f64 0,.float .f64 0] 110))∧(store ⟨W.heap.size,2,none⟩ (.float .f64 v2)).run prog (W.alloc (.cells #[.float .f64 v0,.float .f64 v1,.float .f64 0,.float .f64 0,.float .f64 0,.float .f64 0,.float .f64 0,.float .f64 0] 110))=.ok () (W.alloc (.cells #[.float .f64 v0,.float .f64 v1,.float .f64 v2,.float .f64 0,.float .f64 0,.float .f64 0,.float .f64 0,.float .f64 0] 110))∧(store ⟨W.heap.size,3,none⟩ (.float .f64 v3)).run prog (W.alloc (.cells #[.float .f64 v0,.float .f64 v1,.float .f64 v2,.float .f64 0,.float .f64 0,.float .f64 0,.float .f64 0,.float .f64 0] 110))=.ok () (W.alloc (.cells #[.float .f64 v0,.float .f64 v1,.float .f64 v2,.float .f64 v3,.float .f64 0,.float .f64 0,.float .f64 0,.float .f64 0] 110))∧(store ⟨W.heap.size,4,none⟩ (.float .f64 v4)).run prog (W.alloc (.cells #[.float .f64 v0,.float .f64 v1,.float .f64 v2,.float .f64 v3,.float .f64 0,.float .f64 0,.float .f64 0,.float .f64 0] 110))=.ok () (W.alloc (.cells #[.float .f64 v0,.float .f64 v1,.float .f64 v2,.float .f64 v3,.float .f64 v4,.float .f64 0,.float .f64 0,.float .f64 0] 110))∧(store ⟨W.heap.size,5,none⟩ (.float .f64 v5)).run prog (W.alloc (.cells #[.float .f64 v0,.float .f64 v1,.float .f64 v2,.float .f64 v3,.float .f64 v4,.float .f64 0,.float .f64 0,.float .f64 0] 110))=.ok () (W.alloc (.cells #[.float .f64 v0,.float .f64 v1,.float .f64 v2,.float .f64 v3,.float .f64 v4,.float .f64 v5,.float .f64 0,.float .f64 0] 110))∧(store ⟨W.heap.size,6,none⟩ (.float .f64 v6)).run prog (W.alloc (.cells #[.float .f64 v0,.float .f64 v1,.float .f64 v2,.float .f64 v3,.float .f64 v4,.float .f64 v5,.float .f64 0,.float .f64 0] 110))=.ok () (W.alloc (.cells #[.float .f64 v0,.float .f64 v1,.float .f64 v2,.float .f64 v3,.float .f64 v4,.float .f64 v5,.float .f64 v6,.float .f64 0] 110))∧(store ⟨W.heap.size,7,none⟩ (.float .f64 v7)).run prog (W.alloc (.cells #[.float .f64 v0,.float .f64 v1,.float .f64 v2,.float .f64 v3,.float .f64 v4,.float .f64 v5,.float .f64 v6,.float .f64 0] 110))=.ok () (W.alloc (.cells #[.float .f64 v0,.float .f64 v1,.float .f64 v2,.float .f64 v3,.float .f64 v4,.float .f64 v5,.float .f64 v6,.float .f64 v7] 110)):=by
 refine⟨?_,?_,?_,?_,?_,?_,?_,?_⟩
 ·have h:=aB W (.cells #[.float .f64 0,.float .f64 0,.float .f64 0,.float .f64 0,.float .f64 0,.float .f64 0,.float .f64 0,.float .f64 0] 110)
  have f:=aa h 0 rfl
  have z:=af h 0
  have e:(W.alloc (.cells #[.float .f64 0,.float .f64 0,.float .f64 0,.float .f64 0,.float .f64 0,.float .f64 0,.float .f64 0,.float .f64 0] 110)).setCell ⟨W.heap.size,0,none⟩ (.float .f64 v0)=W.alloc (.cells #[.float .f64 v0,.float .f64 0,.float .f64 0,.float .f64 0,.float .f64 0,.float .f64 0,.float .f64 0,.float .f64 0] 110):=by
   rw[World.setCell_alloc_at _ _ _ _ _ rfl]
   rfl
  rw[run_store _ _ _ _ _ rfl,f];simp only[z]
  rw[<- e]
  rfl
 ·have h:=aB W (.cells #[.float .f64 v0,.float .f64 0,.float .f64 0,.float .f64 0,.float .f64 0,.float .f64 0,.float .f64 0,.float .f64 0] 110)
  have f:=aa h 1 rfl
  have z:=af h 1
  have e:(W.alloc (.cells #[.float .f64 v0,.float .f64 0,.float .f64 0,.float .f64 0,.float .f64 0,.float .f64 0,.float .f64 0,.float .f64 0] 110)).setCell ⟨W.heap.size,1,none⟩ (.float .f64 v1)=W.alloc (.cells #[.float .f64 v0,.float .f64 v1,.float .f64 0,.float .f64 0,.float .f64 0,.float .f64 0,.float .f64 0,.float .f64 0] 110):=by
   rw[World.setCell_alloc_at _ _ _ _ _ rfl]
   rfl
  rw[run_store _ _ _ _ _ rfl,f];simp only[z]
  rw[<- e]
  rfl
 ·have h:=aB W (.cells #[.float .f64 v0,.float .f64 v1,.float .f64 0,.float .f64 0,.float .f64 0,.float .f64 0,.float .f64 0,.float .f64 0] 110)
  have f:=aa h 2 rfl
  have z:=af h 2
  have e:(W.alloc (.cells #[.float .f64 v0,.float .f64 v1,.float .f64 0,.float .f64 0,.float .f64 0,.float .f64 0,.float .f64 0,.float .f64 0] 110)).setCell ⟨W.heap.size,2,none⟩ (.float .f64 v2)=W.alloc (.cells #[.float .f64 v0,.float .f64 v1,.float .f64 v2,.float .f64 0,.float .f64 0,.float .f64 0,.float .f64 0,.float .f64 0] 110):=by
   rw[World.setCell_alloc_at _ _ _ _ _ rfl]
   rfl
  rw[run_store _ _ _ _ _ rfl,f];simp only[z]
  rw[<- e]
  rfl
 ·have h:=aB W (.cells #[.float .f64 v0,.float .f64 v1,.float .f64 v2,.float .f64 0,.float .f64 0,.float .f64 0,.float .f64 0,.float .f64 0] 110)
  have f:=aa h 3 rfl
  have z:=af h 3
  have e:(W.alloc (.cells #[.float .f64 v0,.float .f64 v1,.float .f64 v2,.float .f64 0,.float .f64 0,.float .f64 0,.float .f64 0,.float .f64 0] 110)).setCell ⟨W.heap.size,3,none⟩ (.float .f64 v3)=W.alloc (.cells #[.float .f64 v0,.float .f64 v1,.float .f64 v2,.float .f64 v3,.float .f64 0,.float .f64 0,.float .f64 0,.float .f64 0] 110):=by
   rw[World.setCell_alloc_at _ _ _ _ _ rfl]
   rfl
  rw[run_store _ _ _ _ _ rfl,f];simp only[z]
  rw[<- e]
  rfl
 ·have h:=aB W (.cells #[.float .f64 v0,.float .f64 v1,.float .f64 v2,.float .f64 v3,.float .f64 0,.float .f64 0,.float .f64 0,.float .f64 0] 110)
  have f:=aa h 4 rfl
  have z:=af h 4
  have e:(W.alloc (.cells #[.float .f64 v0,.float .f64 v1,.float .f64 v2,.float .f64 v3,.float .f64 0,.float .f64 0,.float .f64 0,.float .f64 0] 110)).setCell ⟨W.heap.size,4,none⟩ (.float .f64 v4)=W.alloc (.cells #[.float .f64 v0,.float .f64 v1,.float .f64 v2,.float .f64 v3,.float .f64 v4,.float .f64 0,.float .f64 0,.float .f64 0] 110):=by
   rw[World.setCell_alloc_at _ _ _ _ _ rfl]
   rfl
  rw[run_store _ _ _ _ _ rfl,f];simp only[z]
  rw[<- e]
  rfl
 ·have h:=aB W (.cells #[.float .f64 v0,.float .f64 v1,.float .f64 v2,.float .f64 v3,.float .f64 v4,.float .f64 0,.float .f64 0,.float .f64 0] 110)
  have f:=aa h 5 rfl
  have z:=af h 5
  have e:(W.alloc (.cells #[.float .f64 v0,.float .f64 v1,.float .f64 v2,.float .f64 v3,.float .f64 v4,.float .f64 0,.float .f64 0,.float .f64 0] 110)).setCell ⟨W.heap.size,5,none⟩ (.float .f64 v5)=W.alloc (.cells #[.float .f64 v0,.float .f64 v1,.float .f64 v2,.float .f64 v3,.float .f64 v4,.float .f64 v5,.float .f64 0,.float .f64 0] 110):=by
   rw[World.setCell_alloc_at _ _ _ _ _ rfl]
   rfl
  rw[run_store _ _ _ _ _ rfl,f];simp only[z]
  rw[<- e]
  rfl
 ·have h:=aB W (.cells #[.float .f64 v0,.float .f64 v1,.float .f64 v2,.float .f64 v3,.float .f64 v4,.float .f64 v5,.float .f64 0,.float .f64 0] 110)
  have f:=aa h 6 rfl
  have z:=af h 6
  have e:(W.alloc (.cells #[.float .f64 v0,.float .f64 v1,.float .f64 v2,.float .f64 v3,.float .f64 v4,.float .f64 v5,.float .f64 0,.float .f64 0] 110)).setCell ⟨W.heap.size,6,none⟩ (.float .f64 v6)=W.alloc (.cells #[.float .f64 v0,.float .f64 v1,.float .f64 v2,.float .f64 v3,.float .f64 v4,.float .f64 v5,.float .f64 v6,.float .f64 0] 110):=by
   rw[World.setCell_alloc_at _ _ _ _ _ rfl]
   rfl
  rw[run_store _ _ _ _ _ rfl,f];simp only[z]
  rw[<- e]
  rfl
 ·have h:=aB W (.cells #[.float .f64 v0,.float .f64 v1,.float .f64 v2,.float .f64 v3,.float .f64 v4,.float .f64 v5,.float .f64 v6,.float .f64 0] 110)
  have f:=aa h 7 rfl
  have z:=af h 7
  have e:(W.alloc (.cells #[.float .f64 v0,.float .f64 v1,.float .f64 v2,.float .f64 v3,.float .f64 v4,.float .f64 v5,.float .f64 v6,.float .f64 0] 110)).setCell ⟨W.heap.size,7,none⟩ (.float .f64 v7)=W.alloc (.cells #[.float .f64 v0,.float .f64 v1,.float .f64 v2,.float .f64 v3,.float .f64 v4,.float .f64 v5,.float .f64 v6,.float .f64 v7] 110):=by
   rw[World.setCell_alloc_at _ _ _ _ _ rfl]
   rfl
  rw[run_store _ _ _ _ _ rfl,f];simp only[z]
  rw[<- e]
  rfl
theorem mC {w0 w:World} {g:Nat} (h:Below w0.heap.size w0 w) (hg:w0.heap.size<=g) (a b c d e f i j:Value):Below w0.heap.size w0 ((((((((w.setCell ⟨g,0,none⟩ a).setCell ⟨g,1,none⟩ b).setCell ⟨g,2,none⟩ c).setCell ⟨g,3,none⟩ d).setCell ⟨g,4,none⟩ e).setCell ⟨g,5,none⟩ f).setCell ⟨g,6,none⟩ i).setCell ⟨g,7,none⟩ j) :=
 (((((((h.setCell (p:=⟨g,0,none⟩) hg a).setCell (p:=⟨g,1,none⟩) hg b).setCell (p:=⟨g,2,none⟩) hg c).setCell (p:=⟨g,3,none⟩) hg d).setCell (p:=⟨g,4,none⟩) hg e).setCell (p:=⟨g,5,none⟩) hg f).setCell (p:=⟨g,6,none⟩) hg i).setCell (p:=⟨g,7,none⟩) hg j
theorem xI {a b c d:Nat} (LO HI EL EH:Nat->Nat) (w:World) (H:ax w)
    (S0:Hid (∀ W,ax W->Calls prog 66 #[.float .f64 a,.float .f64 c] W fun e w'=>e=.returned (.agg #[.float .f64 (LO 0),.float .f64 (HI 0)])∧Below W.heap.size W w'))
    (S1:Hid (∀ W,ax W->Calls prog 66 #[.float .f64 a,.float .f64 d] W fun e w'=>e=.returned (.agg #[.float .f64 (EL 0),.float .f64 (EH 0)])∧Below W.heap.size W w'))
    (S2:Hid (∀ W,ax W->Calls prog 66 #[.float .f64 b,.float .f64 c] W fun e w'=>e=.returned (.agg #[.float .f64 (EL 1),.float .f64 (EH 1)])∧Below W.heap.size W w'))
    (S3:Hid (∀ W,ax W->Calls prog 66 #[.float .f64 b,.float .f64 d] W fun e w'=>e=.returned (.agg #[.float .f64 (EL 2),.float .f64 (EH 2)])∧Below W.heap.size W w'))
    (J:Hid (∀ k,k<3->∀ W,Calls prog 48 #[.agg #[.float .f64 (LO k),.float .f64 (HI k)],.agg #[.float .f64 (EL k),.float .f64 (EH k)]] W fun e w'=>e=.returned (.agg #[.float .f64 (LO (k+1)),.float .f64 (HI (k+1))])∧Below W.heap.size W w')) :
    Calls prog 56 #[.agg #[.float .f64 a,.float .f64 b],.agg #[.float .f64 c,.float .f64 d]] w fun e w'=>e=.returned (.agg #[.float .f64 (LO 3),.float .f64 (HI 3)])∧Below w.heap.size w w':=by
  obtain⟨q0,q1,q2,hs,hb3⟩:=gC w (.cells #[.float .f64 a,.float .f64 b] 64) (.cells #[.float .f64 c,.float .f64 d] 64) (.cells #[.float .f64 0,.float .f64 0] 64)
  go_enter func56,ntmps56
  go_wp2_with fail
  generalize (((w.alloc (.cells #[.float .f64 a,.float .f64 b] 64)).alloc (.cells #[.float .f64 c,.float .f64 d] 64)).alloc (.cells #[.float .f64 0,.float .f64 0] 64))=wx3 at q0 q1 q2 hs hb3 ⊢
  have KK:∀ W,Below wx3.heap.size wx3 W->W.cell? ⟨w.heap.size,0,none⟩=some (.float .f64 a)∧W.cell? ⟨w.heap.size,1,none⟩=some (.float .f64 b)∧W.cell? ⟨w.heap.size+1,0,none⟩=some (.float .f64 c)∧W.cell? ⟨w.heap.size+1,1,none⟩=some (.float .f64 d):=fun W hb=>⟨aa (ac hb q0) 0 rfl,aa (ac hb q0) 1 rfl,aa (ac hb q1) 0 rfl,aa (ac hb q1) 1 rfl⟩
  clear q0 q1 hs
  rename_i Q0 K1 hK1
  have HN:∀ (gE:Nat) (X:World) (t:Array Value),#[t.getD 0 undef,t.getD 1 undef,t.getD 2 undef,t.getD 3 undef,.pointer (some ⟨w.heap.size+1+1,0,none⟩),.pointer (some ⟨gE,0,none⟩),t.getD 6 undef,t.getD 7 undef,t.getD 8 undef,t.getD 9 undef,t.getD 10 undef,t.getD 11 undef,t.getD 12 undef,t.getD 13 undef,t.getD 14 undef,t.getD 15 undef,t.getD 16 undef,t.getD 17 undef,t.getD 18 undef,t.getD 19 undef,t.getD 20 undef,t.getD 21 undef,t.getD 22 undef,t.getD 23 undef,t.getD 24 undef,t.getD 25 undef,t.getD 26 undef,t.getD 27 undef,t.getD 28 undef,t.getD 29 undef,t.getD 30 undef,t.getD 31 undef,t.getD 32 undef,t.getD 33 undef,t.getD 34 undef,t.getD 35 undef,t.getD 36 undef,t.getD 37 undef,t.getD 38 undef,t.getD 39 undef,t.getD 40 undef,t.getD 41 undef,t.getD 42 undef]=t->X.heap[gE]?=some (.cells #[.float .f64 (LO 0),.float .f64 (HI 0),.float .f64 (EL 0),.float .f64 (EH 0),.float .f64 (EL 1),.float .f64 (EH 1),.float .f64 (EL 2),.float .f64 (EH 2)] 110 (0,0))->Below wx3.heap.size wx3 X->wx3.heap.size<=gE->Exit.then K1 Q0 Exit.normal { tmps:=t,defers:=[] } X:=by
    intro gE X t ht n_k hX hgE
    obtain⟨u,hu⟩:∃ u:Nat->Value,t=#[u 0,u 1,u 2,u 3,.pointer (some ⟨w.heap.size+1+1,0,none⟩),.pointer (some ⟨gE,0,none⟩),u 6,u 7,u 8,u 9,u 10,u 11,u 12,u 13,u 14,u 15,u 16,u 17,u 18,u 19,u 20,u 21,u 22,u 23,u 24,u 25,u 26,u 27,u 28,u 29,u 30,u 31,u 32,u 33,u 34,u 35,u 36,u 37,u 38,u 39,u 40,u 41,u 42]:=⟨fun k=>t.getD k undef,ht.symm⟩
    clear ht
    subst hu
    clear S0 S1 S2 S3 KK
    have hst:∀ (p:Addr) (x:Nat) (m:Mode) (w:World),(store p (.float .f64 x) m).run prog w=stored prog w p (.float .f64 x) m:=fun p x m w=>run_store _ w p _ m rfl
    have hgl:=(aGe n_k).1
    have c0:=aa n_k 0 rfl
    have c1:=aa n_k 1 rfl
    have hA:=aB X (.cells #[.float .f64 (LO 0),.float .f64 (HI 0)] 64)
    have hE:=ah (.cells #[.float .f64 (LO 0),.float .f64 (HI 0)] 64) n_k
    have hB:=aD hX (.cells #[.float .f64 (LO 0),.float .f64 (HI 0)] 64)
    have hXz:=hX.size
    go_wp2_with fail
    generalize X.alloc (.cells #[.float .f64 (LO 0),.float .f64 (HI 0)] 64)=x5 at hA hE hB ⊢
    clear c0 c1 n_k
    go_loopw [34] (fun iv wr=>∃ k:Nat,k<=3∧iv=.int .i64 k∧Hid (wr.heap[X.heap.size]?=some (.cells #[.float .f64 (LO k),.float .f64 (HI k)] 64 (0,0)))∧Hid (wr.heap[gE]?=some (.cells #[.float .f64 (LO 0),.float .f64 (HI 0),.float .f64 (EL 0),.float .f64 (EH 0),.float .f64 (EL 1),.float .f64 (EH 1),.float .f64 (EL 2),.float .f64 (EH 2)] 110 (0,0)))∧Hid (Below wx3.heap.size wx3 wr)) (fun iv _=>3-(intOf iv).toNat)
    case atStart=>exact⟨0,by omega,rfl,hA,hE,hB⟩
    case round=>
      obtain⟨k,hk,rfl,HA,HE,HB⟩:=hrel
      clear hA hE hB
      by_cases hlt:k<3
      · have CJ:Hid _:=J.out k hlt
        have h3:k=0∨k=1∨k=2:=by omega
        rcases h3 with rfl|rfl|rfl
        · have e2:=aa HE.out 2 rfl
          have e3:=aa HE.out 3 rfl
          have P0:=aB wr (.cells #[.float .f64 (EL 0),.float .f64 (EH 0)] 64)
          have A1:=ah (.cells #[.float .f64 (EL 0),.float .f64 (EH 0)] 64) HA.out
          have E1:=ah (.cells #[.float .f64 (EL 0),.float .f64 (EH 0)] 64) HE.out
          have B1:=aD HB.out (.cells #[.float .f64 (EL 0),.float .f64 (EH 0)] 64)
          have p0:=aa P0 0 rfl
          have p1:=aa P0 1 rfl
          have a0:=aa A1 0 rfl
          have a1:=aa A1 1 rfl
          go_wp2_with fail
          refine(CJ.out _).mono ?_
          rintro _ w7 ⟨rfl,hb7⟩
          have A7:=ac hb7 A1
          have E7:=ac hb7 E1
          have B7:=ab B1 hb7
          have A8:=aj A7 0 (.float .f64 (LO 1))
          have A9:=aj A8 1 (.float .f64 (HI 1))
          have f0:=aa A7 0 rfl
          have z0:=af A7 0
          have f1:=aa A8 1 rfl
          have z1:=af A8 1
          have s0:(store ⟨X.heap.size,0,none⟩ (.float .f64 (LO 1))).run prog w7=.ok () (w7.setCell ⟨X.heap.size,0,none⟩ (.float .f64 (LO 1))):=by rw[run_store _ _ _ _ _ rfl,f0];simp only[z0];rfl
          have s1:(store ⟨X.heap.size,1,none⟩ (.float .f64 (HI 1))).run prog (w7.setCell ⟨X.heap.size,0,none⟩ (.float .f64 (LO 1)))=.ok () ((w7.setCell ⟨X.heap.size,0,none⟩ (.float .f64 (LO 1))).setCell ⟨X.heap.size,1,none⟩ (.float .f64 (HI 1))):=by rw[run_store _ _ _ _ _ rfl,f1];simp only[z1];rfl
          have HA9:=aA A9
          have HE9:Hid (((w7.setCell ⟨X.heap.size,0,none⟩ (.float .f64 (LO 1))).setCell ⟨X.heap.size,1,none⟩ (.float .f64 (HI 1))).heap[gE]?=some (.cells #[.float .f64 (LO 0),.float .f64 (HI 0),.float .f64 (EL 0),.float .f64 (EH 0),.float .f64 (EL 1),.float .f64 (EH 1),.float .f64 (EL 2),.float .f64 (EH 2)] 110 (0,0))):=by
            show _=_
            rw[heap_setCell_other _ ⟨X.heap.size,_,none⟩ gE _ (by show gE≠X.heap.size;omega),heap_setCell_other _ ⟨X.heap.size,_,none⟩ gE _ (by show gE≠X.heap.size;omega)]
            exact E7
          have HB9:=aA ((B7.setCell (p:=⟨X.heap.size,0,none⟩) hXz (.float .f64 (LO 1))).setCell (p:=⟨X.heap.size,1,none⟩) hXz (.float .f64 (HI 1)))
          clear A7 A8 A9 E7 B7 A1 E1 B1 P0
          go_wp2
          go_roundw
          case rel=>exact⟨1,by omega,by go_num,HA9.out,HE9.out,HB9.out⟩
          case measure=>simp[intOf]
        · have e2:=aa HE.out 4 rfl
          have e3:=aa HE.out 5 rfl
          have P0:=aB wr (.cells #[.float .f64 (EL 1),.float .f64 (EH 1)] 64)
          have A1:=ah (.cells #[.float .f64 (EL 1),.float .f64 (EH 1)] 64) HA.out
          have E1:=ah (.cells #[.float .f64 (EL 1),.float .f64 (EH 1)] 64) HE.out
          have B1:=aD HB.out (.cells #[.float .f64 (EL 1),.float .f64 (EH 1)] 64)
          have p0:=aa P0 0 rfl
          have p1:=aa P0 1 rfl
          have a0:=aa A1 0 rfl
          have a1:=aa A1 1 rfl
          go_wp2_with fail
          refine(CJ.out _).mono ?_
          rintro _ w7 ⟨rfl,hb7⟩
          have A7:=ac hb7 A1
          have E7:=ac hb7 E1
          have B7:=ab B1 hb7
          have A8:=aj A7 0 (.float .f64 (LO 2))
          have A9:=aj A8 1 (.float .f64 (HI 2))
          have f0:=aa A7 0 rfl
          have z0:=af A7 0
          have f1:=aa A8 1 rfl
          have z1:=af A8 1
          have s0:(store ⟨X.heap.size,0,none⟩ (.float .f64 (LO 2))).run prog w7=.ok () (w7.setCell ⟨X.heap.size,0,none⟩ (.float .f64 (LO 2))):=by rw[run_store _ _ _ _ _ rfl,f0];simp only[z0];rfl
          have s1:(store ⟨X.heap.size,1,none⟩ (.float .f64 (HI 2))).run prog (w7.setCell ⟨X.heap.size,0,none⟩ (.float .f64 (LO 2)))=.ok () ((w7.setCell ⟨X.heap.size,0,none⟩ (.float .f64 (LO 2))).setCell ⟨X.heap.size,1,none⟩ (.float .f64 (HI 2))):=by rw[run_store _ _ _ _ _ rfl,f1];simp only[z1];rfl
          have HA9:=aA A9
          have HE9:Hid (((w7.setCell ⟨X.heap.size,0,none⟩ (.float .f64 (LO 2))).setCell ⟨X.heap.size,1,none⟩ (.float .f64 (HI 2))).heap[gE]?=some (.cells #[.float .f64 (LO 0),.float .f64 (HI 0),.float .f64 (EL 0),.float .f64 (EH 0),.float .f64 (EL 1),.float .f64 (EH 1),.float .f64 (EL 2),.float .f64 (EH 2)] 110 (0,0))):=by
            show _=_
            rw[heap_setCell_other _ ⟨X.heap.size,_,none⟩ gE _ (by show gE≠X.heap.size;omega),heap_setCell_other _ ⟨X.heap.size,_,none⟩ gE _ (by show gE≠X.heap.size;omega)]
            exact E7
          have HB9:=aA ((B7.setCell (p:=⟨X.heap.size,0,none⟩) hXz (.float .f64 (LO 2))).setCell (p:=⟨X.heap.size,1,none⟩) hXz (.float .f64 (HI 2)))
          clear A7 A8 A9 E7 B7 A1 E1 B1 P0
          go_wp2
          go_roundw
          case rel=>exact⟨2,by omega,by go_num,HA9.out,HE9.out,HB9.out⟩
          case measure=>simp[intOf]
        · have e2:=aa HE.out 6 rfl
          have e3:=aa HE.out 7 rfl
          have P0:=aB wr (.cells #[.float .f64 (EL 2),.float .f64 (EH 2)] 64)
          have A1:=ah (.cells #[.float .f64 (EL 2),.float .f64 (EH 2)] 64) HA.out
          have E1:=ah (.cells #[.float .f64 (EL 2),.float .f64 (EH 2)] 64) HE.out
          have B1:=aD HB.out (.cells #[.float .f64 (EL 2),.float .f64 (EH 2)] 64)
          have p0:=aa P0 0 rfl
          have p1:=aa P0 1 rfl
          have a0:=aa A1 0 rfl
          have a1:=aa A1 1 rfl
          go_wp2_with fail
          refine(CJ.out _).mono ?_
          rintro _ w7 ⟨rfl,hb7⟩
          have A7:=ac hb7 A1
          have E7:=ac hb7 E1
          have B7:=ab B1 hb7
          have A8:=aj A7 0 (.float .f64 (LO 3))
          have A9:=aj A8 1 (.float .f64 (HI 3))
          have f0:=aa A7 0 rfl
          have z0:=af A7 0
          have f1:=aa A8 1 rfl
          have z1:=af A8 1
          have s0:(store ⟨X.heap.size,0,none⟩ (.float .f64 (LO 3))).run prog w7=.ok () (w7.setCell ⟨X.heap.size,0,none⟩ (.float .f64 (LO 3))):=by rw[run_store _ _ _ _ _ rfl,f0];simp only[z0];rfl
          have s1:(store ⟨X.heap.size,1,none⟩ (.float .f64 (HI 3))).run prog (w7.setCell ⟨X.heap.size,0,none⟩ (.float .f64 (LO 3)))=.ok () ((w7.setCell ⟨X.heap.size,0,none⟩ (.float .f64 (LO 3))).setCell ⟨X.heap.size,1,none⟩ (.float .f64 (HI 3))):=by rw[run_store _ _ _ _ _ rfl,f1];simp only[z1];rfl
          have HA9:=aA A9
          have HE9:Hid (((w7.setCell ⟨X.heap.size,0,none⟩ (.float .f64 (LO 3))).setCell ⟨X.heap.size,1,none⟩ (.float .f64 (HI 3))).heap[gE]?=some (.cells #[.float .f64 (LO 0),.float .f64 (HI 0),.float .f64 (EL 0),.float .f64 (EH 0),.float .f64 (EL 1),.float .f64 (EH 1),.float .f64 (EL 2),.float .f64 (EH 2)] 110 (0,0))):=by
            show _=_
            rw[heap_setCell_other _ ⟨X.heap.size,_,none⟩ gE _ (by show gE≠X.heap.size;omega),heap_setCell_other _ ⟨X.heap.size,_,none⟩ gE _ (by show gE≠X.heap.size;omega)]
            exact E7
          have HB9:=aA ((B7.setCell (p:=⟨X.heap.size,0,none⟩) hXz (.float .f64 (LO 3))).setCell (p:=⟨X.heap.size,1,none⟩) hXz (.float .f64 (HI 3)))
          clear A7 A8 A9 E7 B7 A1 E1 B1 P0
          go_wp2
          go_roundw
          case rel=>exact⟨3,by omega,by go_num,HA9.out,HE9.out,HB9.out⟩
          case measure=>simp[intOf]
      · obtain rfl:k=3:=by omega
        have a0:=aa HA.out 0 rfl
        have a1:=aa HA.out 1 rfl
        have r_k:=ac HB.out q2
        have d3:=aj r_k 0 (.float .f64 (LO 3))
        have d4:=aj d3 1 (.float .f64 (HI 3))
        have f0:=aa r_k 0 rfl
        have z0:=af r_k 0
        have f1:=aa d3 1 rfl
        have z1:=af d3 1
        have e0:=aa d4 0 rfl
        have e1:=aa d4 1 rfl
        have s0:(store ⟨w.heap.size+1+1,0,none⟩ (.float .f64 (LO 3))).run prog wr=.ok () (wr.setCell ⟨w.heap.size+1+1,0,none⟩ (.float .f64 (LO 3))):=by rw[run_store _ _ _ _ _ rfl,f0];simp only[z0];rfl
        have s1:(store ⟨w.heap.size+1+1,1,none⟩ (.float .f64 (HI 3))).run prog (wr.setCell ⟨w.heap.size+1+1,0,none⟩ (.float .f64 (LO 3)))=.ok () ((wr.setCell ⟨w.heap.size+1+1,0,none⟩ (.float .f64 (LO 3))).setCell ⟨w.heap.size+1+1,1,none⟩ (.float .f64 (HI 3))):=by rw[run_store _ _ _ _ _ rfl,f1];simp only[z1];rfl
        have hbe:=((ab hb3 HB.out).setCell (p:=⟨w.heap.size+1+1,0,none⟩) (show w.heap.size<=w.heap.size+1+1 by omega) (.float .f64 (LO 3))).setCell (p:=⟨w.heap.size+1+1,1,none⟩) (show w.heap.size<=w.heap.size+1+1 by omega) (.float .f64 (HI 3))
        clear d3 d4 r_k
        go_wp2
        refine bodyPost_ret (v:=.agg #[.float .f64 (LO 3),.float .f64 (HI 3)]) (by simp[results,results56,go_sem,e0,e1]) rfl ⟨rfl,hbe⟩
  have hxr:=ap wx3
  have hx0:=(ap wx3).drew
  go_region_held3 (fun W=>W.cell? ⟨w.heap.size,0,none⟩=some (.float .f64 a)∧W.cell? ⟨w.heap.size,1,none⟩=some (.float .f64 b)∧W.cell? ⟨w.heap.size+1,0,none⟩=some (.float .f64 c)∧W.cell? ⟨w.heap.size+1,1,none⟩=some (.float .f64 d))
    (first|with_reducible assumption|with_reducible exact KK _ (hx0)|with_reducible exact KK _ ((aD hxr _).drew)|with_reducible exact KK _ (aD hx0 _)|with_reducible exact KK _ (hw1)|with_reducible exact KK _ (aD hw1 _)|with_reducible exact KK _ (hw2)|with_reducible exact KK _ (aD hw2 _)|with_reducible exact KK _ (hw3)|with_reducible exact KK _ (aD hw3 _)|with_reducible exact KK _ (hw4)|with_reducible exact KK _ (aD hw4 _)|with_reducible exact KK _ (mC (g:=y3.heap.size) hw4 (hw3.size) _ _ _ _ _ _ _ _)|with_reducible exact KK _ (mC (g:=y2.heap.size) hw4 (hw2.size) _ _ _ _ _ _ _ _)|with_reducible exact KK _ (mC (g:=y1.heap.size) hw4 (hw1.size) _ _ _ _ _ _ _ _)|with_reducible exact KK _ (mC (g:=wx3.heap.size) hw4 (Nat.le_refl _) _ _ _ _ _ _ _ _)|fail)
    (first
      | (go_at_call 66;have _t:=T3;refine(S3.out _ (H.keeps (ab hb3 (by first|with_reducible exact hw3|with_reducible exact aD hw3 _)))).mono ?_;rintro _ y4 ⟨rfl,hc4⟩;have hw4:Below wx3.heap.size wx3 y4:=ab (by first|with_reducible exact hw3|with_reducible exact aD hw3 _) hc4;have T4:True:=trivial;first|(have hg:Below (y3.alloc (.cells #[.float .f64 0,.float .f64 0,.float .f64 0,.float .f64 0,.float .f64 0,.float .f64 0,.float .f64 0,.float .f64 0] 110)).heap.size (y3.alloc (.cells #[.float .f64 0,.float .f64 0,.float .f64 0,.float .f64 0,.float .f64 0,.float .f64 0,.float .f64 0,.float .f64 0] 110)) y4:=(by with_reducible exact hc4);have qz:y4.heap[y3.heap.size]?=some (.cells #[.float .f64 0,.float .f64 0,.float .f64 0,.float .f64 0,.float .f64 0,.float .f64 0,.float .f64 0,.float .f64 0] 110 (0,0)):=ac hg (show(y3.alloc (.cells #[.float .f64 0,.float .f64 0,.float .f64 0,.float .f64 0,.float .f64 0,.float .f64 0,.float .f64 0,.float .f64 0] 110)).heap[y3.heap.size]?=_ from aB y3 (.cells #[.float .f64 0,.float .f64 0,.float .f64 0,.float .f64 0,.float .f64 0,.float .f64 0,.float .f64 0,.float .f64 0] 110));obtain⟨s_0,s_1,s_2,s_3,s_4,s_5,s_6,s_7,qf⟩:=Ax (qz) (LO 0) (HI 0) (EL 0) (EH 0) (EL 1) (EH 1) (EL 2) (EH 2))|(have hg:Below (y2.alloc (.cells #[.float .f64 0,.float .f64 0,.float .f64 0,.float .f64 0,.float .f64 0,.float .f64 0,.float .f64 0,.float .f64 0] 110)).heap.size (y2.alloc (.cells #[.float .f64 0,.float .f64 0,.float .f64 0,.float .f64 0,.float .f64 0,.float .f64 0,.float .f64 0,.float .f64 0] 110)) y3:=(by with_reducible exact hc3);have qz:y4.heap[y2.heap.size]?=some (.cells #[.float .f64 0,.float .f64 0,.float .f64 0,.float .f64 0,.float .f64 0,.float .f64 0,.float .f64 0,.float .f64 0] 110 (0,0)):=ac hc4 (ac hg (show(y2.alloc (.cells #[.float .f64 0,.float .f64 0,.float .f64 0,.float .f64 0,.float .f64 0,.float .f64 0,.float .f64 0,.float .f64 0] 110)).heap[y2.heap.size]?=_ from aB y2 (.cells #[.float .f64 0,.float .f64 0,.float .f64 0,.float .f64 0,.float .f64 0,.float .f64 0,.float .f64 0,.float .f64 0] 110)));obtain⟨s_0,s_1,s_2,s_3,s_4,s_5,s_6,s_7,qf⟩:=Ax (qz) (LO 0) (HI 0) (EL 0) (EH 0) (EL 1) (EH 1) (EL 2) (EH 2))|(have hg:Below (y1.alloc (.cells #[.float .f64 0,.float .f64 0,.float .f64 0,.float .f64 0,.float .f64 0,.float .f64 0,.float .f64 0,.float .f64 0] 110)).heap.size (y1.alloc (.cells #[.float .f64 0,.float .f64 0,.float .f64 0,.float .f64 0,.float .f64 0,.float .f64 0,.float .f64 0,.float .f64 0] 110)) y2:=(by with_reducible exact hc2);have qz:y4.heap[y1.heap.size]?=some (.cells #[.float .f64 0,.float .f64 0,.float .f64 0,.float .f64 0,.float .f64 0,.float .f64 0,.float .f64 0,.float .f64 0] 110 (0,0)):=ac hc4 (ac hc3 (ac hg (show(y1.alloc (.cells #[.float .f64 0,.float .f64 0,.float .f64 0,.float .f64 0,.float .f64 0,.float .f64 0,.float .f64 0,.float .f64 0] 110)).heap[y1.heap.size]?=_ from aB y1 (.cells #[.float .f64 0,.float .f64 0,.float .f64 0,.float .f64 0,.float .f64 0,.float .f64 0,.float .f64 0,.float .f64 0] 110))));obtain⟨s_0,s_1,s_2,s_3,s_4,s_5,s_6,s_7,qf⟩:=Ax (qz) (LO 0) (HI 0) (EL 0) (EH 0) (EL 1) (EH 1) (EL 2) (EH 2))|(have hg:Below (wx3.alloc (.cells #[.float .f64 0,.float .f64 0,.float .f64 0,.float .f64 0,.float .f64 0,.float .f64 0,.float .f64 0,.float .f64 0] 110)).drew.heap.size (wx3.alloc (.cells #[.float .f64 0,.float .f64 0,.float .f64 0,.float .f64 0,.float .f64 0,.float .f64 0,.float .f64 0,.float .f64 0] 110)).drew y1:=(by with_reducible exact hc1);have qz:y4.heap[wx3.heap.size]?=some (.cells #[.float .f64 0,.float .f64 0,.float .f64 0,.float .f64 0,.float .f64 0,.float .f64 0,.float .f64 0,.float .f64 0] 110 (0,0)):=ac hc4 (ac hc3 (ac hc2 (ac hg (show(wx3.alloc (.cells #[.float .f64 0,.float .f64 0,.float .f64 0,.float .f64 0,.float .f64 0,.float .f64 0,.float .f64 0,.float .f64 0] 110)).drew.heap[wx3.heap.size]?=_ from aB wx3 (.cells #[.float .f64 0,.float .f64 0,.float .f64 0,.float .f64 0,.float .f64 0,.float .f64 0,.float .f64 0,.float .f64 0] 110)))));obtain⟨s_0,s_1,s_2,s_3,s_4,s_5,s_6,s_7,qf⟩:=Ax (qz) (LO 0) (HI 0) (EL 0) (EH 0) (EL 1) (EH 1) (EL 2) (EH 2))|(obtain⟨s_0,s_1,s_2,s_3,s_4,s_5,s_6,s_7⟩:=Gm y4 (LO 0) (HI 0) (EL 0) (EH 0) (EL 1) (EH 1) (EL 2) (EH 2)))
      | (go_at_call 66;have _t:=T2;refine(S2.out _ (H.keeps (ab hb3 (by first|with_reducible exact hw2|with_reducible exact aD hw2 _)))).mono ?_;rintro _ y3 ⟨rfl,hc3⟩;have hw3:Below wx3.heap.size wx3 y3:=ab (by first|with_reducible exact hw2|with_reducible exact aD hw2 _) hc3;have T3:True:=trivial)
      | (go_at_call 66;have _t:=T1;refine(S1.out _ (H.keeps (ab hb3 (by first|with_reducible exact hw1|with_reducible exact aD hw1 _)))).mono ?_;rintro _ y2 ⟨rfl,hc2⟩;have hw2:Below wx3.heap.size wx3 y2:=ab (by first|with_reducible exact hw1|with_reducible exact aD hw1 _) hc2;have T2:True:=trivial)
      | (go_at_call 66; refine (S0.out _ (H.keeps (ab hb3 (by first | with_reducible exact hx0 | with_reducible exact (aD hxr _).drew | with_reducible exact aD hx0 _)))).mono ?_; rintro _ y1 ⟨rfl,hc1⟩; have hw1:Below wx3.heap.size wx3 y1:=ab (by first | with_reducible exact hx0 | with_reducible exact (aD hxr _).drew | with_reducible exact aD hx0 _) hc1; have T1:True:=trivial))
  · exact HN y4.heap.size _ _ (by kernel_rfl) (aB _ _) (aD hw4 _) hw4.size
  · exact HN (y3.heap.size) _ _ (by kernel_rfl) qf (mC hw4 (hw3.size) _ _ _ _ _ _ _ _) (hw3.size)
  · exact HN (y2.heap.size) _ _ (by kernel_rfl) qf (mC hw4 (hw2.size) _ _ _ _ _ _ _ _) (hw2.size)
  · exact HN (y1.heap.size) _ _ (by kernel_rfl) qf (mC hw4 (hw1.size) _ _ _ _ _ _ _ _) (hw1.size)
  · exact HN (wx3.heap.size) _ _ (by kernel_rfl) qf (mC hw4 (Nat.le_refl _) _ _ _ _ _ _ _ _) (Nat.le_refl _)
end Go.Proofs.YtkkpppgfoilgmaaGreatDoor
