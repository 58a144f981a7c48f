/- Parts of the proof. -/
import Derived.Test.YtjjihmnbdeeedaaGreatDoorMa12
import Derived.Deep.RegionHeld3
import Derived.Test.YtjjihmnbdeeedaaGreatDoorMa4
import Derived.Test.YtjjihmnbdeeedaaGreatDoorMa5
import Derived.Test.YtjjihmnbdeeedaaGreatDoorMa11
import Derived.Test.YtjjihmnbdeeedaaGreatDoorMa10
import Derived.Test.YtjjihmnbdeeedaaGreatDoorMa2
import Derived.Test.YtjjihmnbdeeedaaGreatDoorMa8
import Derived.Test.YtjjihmnbdeeedaaGreatDoorMa9
set_option maxRecDepth 100000
set_option maxHeartbeats 8000000
set_option linter.unusedVariables false
set_option linter.unusedSimpArgs false
namespace Go.Proofs.YtjjihmnbdeeedaaGreatDoor
open Go Go.Proofs.Tryz Go.RowKit Go.Proofs.YtjjihmnbdeeedaaGreatDoor.M
theorem It {a b:Int} (ha:nn a) (hb:nn b) (w:World) :
  Calls prog 191 #[gk a b] w fun e w'=>e=.returned (gk (neg b) (neg a))∧Below w.heap.size w w':=by
 unfold gk
 have RM:=fun W=>ry (P:=prog) hb W
 have RX:=fun W=>ry (P:=prog) ha W
 generalize wd (neg b)=X at *
 generalize wd (neg a)=Y at *
 generalize wd a=A at *
 generalize wd b=B at *
 have hb2:=aM w (.cells #[G7 A,G7 B] 160) (.cells #[G7 0,G7 0] 160)
 have q0:=ew w (.cells #[G7 A,G7 B] 160) (.cells #[G7 0,G7 0] 160)
 have q1:=cZ w (.cells #[G7 A,G7 B] 160) (.cells #[G7 0,G7 0] 160)
 have k0:=ae q0 0 rfl
 have k1:=ae q0 1 rfl
 go_enter func191,ntmps191
 go_wp2_with fail
 clear q0 k0 k1 RM RX
 generalize (w.alloc (.cells #[G7 A,G7 B] 160)).alloc (.cells #[G7 0,G7 0] 160)=wx at *
 obtain⟨g,hg⟩:∃ g,w.heap.size+1=g:=⟨_,rfl⟩
 have hwg:w.heap.size<=g:=by omega
 rw[hg] at q1
 simp only[hg]
 clear hg
 have d2:=az q1 0 (G7 X)
 have d3:=az d2 1 (G7 Y)
 have f0:=ae q1 0 rfl
 have z0:=ah q1 0
 have f1:=ae d2 1 rfl
 have z1:=ah d2 1
 have hbe:=(hb2.setCell (p:=⟨g,0,none⟩) hwg (G7 X)).setCell (p:=⟨g,1,none⟩) hwg (G7 Y)
 have s0:(store ⟨g,0,none⟩ (G7 X)).run prog wx=.ok () (wx.setCell ⟨g,0,none⟩ (G7 X)):=by rw[run_store _ _ _ _ _ rfl,f0];simp only[z0];rfl
 have s1:(store ⟨g,1,none⟩ (G7 Y)).run prog (wx.setCell ⟨g,0,none⟩ (G7 X))=.ok () ((wx.setCell ⟨g,0,none⟩ (G7 X)).setCell ⟨g,1,none⟩ (G7 Y)):=by rw[run_store _ _ _ _ _ rfl,f1];simp only[z1];rfl
 have e0:=ae d3 0 rfl
 have e1:=ae d3 1 rfl
 clear f0 z0 f1 z1 d2 d3 q1
 simp only[s0,s1,Result.andThen]
 go_wp2
 refine bodyPost_ret (v:=.agg #[G7 X,G7 Y]) (by simp[results,results191,go_sem,e0,e1]) rfl ⟨rfl,hbe⟩
theorem Iu {a b c d t u l h:Nat} (w:World)
    (S1:Hid (∀ W,Calls prog 191 #[.agg #[G7 c,G7 d]] W fun e w'=>e=.returned (.agg #[G7 t,G7 u])∧Below W.heap.size W w'))
    (S2:Hid (∀ W,Calls prog 161 #[.agg #[G7 a,G7 b],.agg #[G7 t,G7 u]] W fun e w'=>e=.returned (.agg #[G7 l,G7 h])∧Below W.heap.size W w')) :
    Calls prog 132 #[.agg #[G7 a,G7 b],.agg #[G7 c,G7 d]] w fun e w'=>e=.returned (.agg #[G7 l,G7 h])∧Below w.heap.size w w':=by
  obtain⟨q0,q1,q2,hs,hb3⟩:=oW w (.cells #[G7 a,G7 b] 160) (.cells #[G7 c,G7 d] 160) (.cells #[G7 0,G7 0] 160)
  have k0:=ae q0 0 rfl
  have k1:=ae q0 1 rfl
  have k2:=ae q1 0 rfl
  have k3:=ae q1 1 rfl
  go_enter func132,ntmps132
  go_wp2_with fail
  generalize ((w.alloc (.cells #[G7 a,G7 b] 160)).alloc (.cells #[G7 c,G7 d] 160)).alloc (.cells #[G7 0,G7 0] 160)=wx at *
  obtain⟨g,hg⟩:∃ g,w.heap.size+1+1=g:=⟨_,rfl⟩
  have hwg:w.heap.size+2<=g:=by omega
  replace q2:wx.drew.heap[g]?=some (.cells #[G7 0,G7 0] 160 (0,0)):=by rw[<- hg];exact q2
  simp only[hg]
  clear hg
  have hc:(w.heap.size<w.heap.size+2∧w.heap.size+1<w.heap.size+2∧w.heap.size+2<=wx.drew.heap.size)∧wx.drew.cell? ⟨w.heap.size,0,none⟩=some (G7 a)∧wx.drew.cell? ⟨w.heap.size,1,none⟩=some (G7 b)∧wx.drew.cell? ⟨w.heap.size+1,0,none⟩=some (G7 c)∧wx.drew.cell? ⟨w.heap.size+1,1,none⟩=some (G7 d):=⟨⟨by omega,by omega,by show _<=wx.heap.size;omega⟩,k0,k1,k2,k3⟩
  have hbd:=hb3.drew
  clear q0 q1 k0 k1 k2 k3
  go_region_held3 (fun W=>(w.heap.size<w.heap.size+2∧w.heap.size+1<w.heap.size+2∧w.heap.size+2<=W.heap.size)∧W.cell? ⟨w.heap.size,0,none⟩=some (G7 a)∧W.cell? ⟨w.heap.size,1,none⟩=some (G7 b)∧W.cell? ⟨w.heap.size+1,0,none⟩=some (G7 c)∧W.cell? ⟨w.heap.size+1,1,none⟩=some (G7 d))
    (first|assumption|(repeat (first|exact hc|exact hc1|exact hc2|refine xi ?_|refine AM (by omega) ?_)))
    (first
      | (go_at_call 161;have _t:=hb4;refine(S2.out _).mono ?_;rintro _ w2 ⟨rfl,hb5⟩;have hc2:=qh hc1 hb5;have d2:=((ac hb4 hb5).block _ (aGe q2).1).trans q2;have d3:=az d2 0 (G7 l);have d4:=az d3 1 (G7 h);have f0:=ae d2 0 rfl;have z0:=ah d2 0;have f1:=ae d3 1 rfl;have z1:=ah d3 1;have s0:(store ⟨g,0,none⟩ (G7 l)).run prog w2=.ok () (w2.setCell ⟨g,0,none⟩ (G7 l)):=(by rw[run_store _ _ _ _ _ rfl,f0];simp only[z0];rfl);have s1:(store ⟨g,1,none⟩ (G7 h)).run prog (w2.setCell ⟨g,0,none⟩ (G7 l))=.ok () ((w2.setCell ⟨g,0,none⟩ (G7 l)).setCell ⟨g,1,none⟩ (G7 h)):=(by rw[run_store _ _ _ _ _ rfl,f1];simp only[z1];rfl))
      | (go_at_call 191; refine (S1.out _).mono ?_; rintro _ w1 ⟨rfl,hb4⟩; have hc1:=qh hc hb4))
  have e0:=ae d4 0 rfl
  have e1:=ae d4 1 rfl
  have hbe:=((ac hbd (ac hb4 hb5)).setCell (p:=⟨g,0,none⟩) (show w.heap.size<=g by omega) (G7 l)).setCell (p:=⟨g,1,none⟩) (show w.heap.size<=g by omega) (G7 h)
  clear d2 d3 d4 f0 f1 z0 z1 s0 s1 hc hc1 hc2
  generalize (w2.setCell ⟨g,0,none⟩ (G7 l)).setCell ⟨g,1,none⟩ (G7 h)=wy at *
  go_wp2
  refine bodyPost_ret (v:=.agg #[G7 l,G7 h]) (by simp[results,results132,go_sem,e0,e1]) rfl ⟨rfl,hbe⟩
theorem Bp {a:Int} (ha:ag a) (pa:ak a=true):cf a a=true:=by
 have h1:=(bM ha).1 pa
 have h4:=eN ha pa
 refine kG.2 ⟨h4,h4,Int.le_refl _,?_,?_⟩
 ·unfold au;unfold rg at h1;unfold ag at ha;split at h1<;>split<;>omega
 ·unfold au;unfold rg at h1;unfold ag at ha;split at h1<;>split<;>omega
theorem kX {a b:Int} (ha:ag a) (hb:ag b) (h:cf a b=true):nn a∧nn b∧(rg a=9218868437227405312->a<0)∧(rg b=9218868437227405312->¬ b<0)∧au a<=au b:=by
 obtain⟨va,vb,h1,h2,h3⟩:=kG.1 h
 refine⟨⟨ha,va⟩,⟨hb,vb⟩,fun q=>?_,fun q k=>?_,h1⟩
 ·rw[ql ha] at h2
  split at h2
  ·assumption
  ·omega
 ·rw[ql hb,if_pos k] at h3
  omega
theorem za {a c:Int} (h:rg a=9218868437227405312->a<0) (k:rg c=9218868437227405312->c<0):¬ (rg a=9218868437227405312∧rg c=9218868437227405312∧decide (a<0)≠decide (c<0)):=by
 rintro⟨h1,h2,h3⟩
 exact h3 (by rw[decide_eq_true (h h1),decide_eq_true (k h2)])
theorem zc {a c:Int} (h:rg a=9218868437227405312->¬ a<0) (k:rg c=9218868437227405312->¬ c<0):¬ (rg a=9218868437227405312∧rg c=9218868437227405312∧decide (a<0)≠decide (c<0)):=by
 rintro⟨h1,h2,h3⟩
 exact h3 (by rw[decide_eq_false (h h1),decide_eq_false (k h2)])
theorem pg {p:Int} (hp:nn p):(rg (neg p)=9218868437227405312↔rg p=9218868437227405312)∧(neg p<0↔¬ p<0):=by
 obtain⟨g1,g2⟩:=qe hp
 refine⟨by rw[g1],?_⟩
 by_cases a:neg p<0<;>by_cases b:p<0<;>simp[a,b] at g2 ⊢
theorem Bq {ok:Bool} {v v':Value} (h:ok=true->v=v'):kM ok v=kM ok v':=by
 cases ok
 ·rfl
 ·rw[h rfl]
theorem KI {a b c d:Int} (ha:ag a) (hb:ag b) (hc:ag c) (hd:ag d) (w:World) (H:aO w) :
    Calls prog 95 #[ek a b,ek c d] w fun e w'=>e=.returned (.tuple #[kM (cf a b&&cf c d) (ek (cD (bO (aA a) (aA c))) (cF (bO (aA b) (aA d)))),G6 (lV (cf a b&&cf c d))])∧Below w.heap.size w w':=by
  have hE:∀ (cap:Array Value) (w:World),(callFunc 161 cap).run prog w=.ok (.enter 161 cap) w:=by
    intro cap w
    simp[go_sem]
  have CJ:Hid (∀ W,aO W->Calls prog 129 #[ek a b,ek c d,.func (.func 161) #[] #[]] W fun e w'=>e=.returned (.tuple #[kM (cf a b&&cf c d) (ek (cD (bO (aA a) (aA c))) (cF (bO (aA b) (aA d)))),G6 (lV (cf a b&&cf c d))])∧Below W.heap.size W w'):=fun W LW=>by
    have:=xj 161 (x:=fj (ck a c) (eJ a c)) (y:=fl (ck b d) (eJ b d)) ha hb hc hd W LW hE (fun h1 h2=>by
      obtain⟨na,nb,a1,b1,_⟩:=kX ha hb h1
      obtain⟨nc,nd,c1,d1,_⟩:=kX hc hd h2
      have p1:=mW na nc (za a1 c1)
      have p2:=mW nb nd (zc b1 d1)
      exact ⟨(yZ p1.1).1,(yZ p2.1).2,fun W' _=>Bn W' (fun W''=>tL na nc p1.1 W'') (fun W''=>tL nb nd p2.1 W'')⟩)
    rw[Bq (v':=ek (cD (bO (aA a) (aA c))) (cF (bO (aA b) (aA d))))] at this
    · exact this
    · intro hok
      rw[Bool.and_eq_true] at hok
      obtain⟨na,nb,a1,b1,_⟩:=kX ha hb hok.1
      obtain⟨nc,nd,c1,d1,_⟩:=kX hc hd hok.2
      rw[(mW na nc (za a1 c1)).2.1,(mW nb nd (zc b1 d1)).2.2]
  have hx:∃ X Y,kM (cf a b&&cf c d) (ek (cD (bO (aA a) (aA c))) (cF (bO (aA b) (aA d))))=.agg #[G6 X,G6 Y]:=by
    unfold kM ek;split
    · exact⟨_,_,rfl⟩
    · exact⟨_,_,rfl⟩
  obtain⟨X,Y,hXY⟩:=hx
  rw[hXY] at CJ ⊢
  clear hXY
  unfold ek at *
  generalize lV (cf a b&&cf c d)=E at *
  obtain⟨q0,q1,q2,hs,hb3⟩:=oW w (.cells #[G6 a,G6 b] 72) (.cells #[G6 c,G6 d] 72) (.cells #[G6 0,G6 0] 72)
  have L2:=H.keeps hb3
  go_enter func95,ntmps95
  go_wp2_with fail
  generalize ((w.alloc (.cells #[G6 a,G6 b] 72)).alloc (.cells #[G6 c,G6 d] 72)).alloc (.cells #[G6 0,G6 0] 72)=wx at *
  refine(CJ.out _ L2).mono ?_
  rintro _ w1 ⟨rfl,hb4⟩
  have d2:=(hb4.block _ (aGe q2).1).trans q2
  have d3:=az d2 0 (G6 X)
  have d4:=az d3 1 (G6 Y)
  have f0:=ae d2 0 rfl
  have z0:=ah d2 0
  have f1:=ae d3 1 rfl
  have z1:=ah d3 1
  have e0:=ae d4 0 rfl
  have e1:=ae d4 1 rfl
  have hbe:=((ac hb3 hb4).setCell (p:=⟨w.heap.size+1+1,0,none⟩) (show w.heap.size<=w.heap.size+1+1 by omega) (G6 X)).setCell (p:=⟨w.heap.size+1+1,1,none⟩) (show w.heap.size<=w.heap.size+1+1 by omega) (G6 Y)
  clear d2 d3 d4 q0 q1 q2
  go_wp2
  refine bodyPost_ret (v:=.tuple #[.agg #[G6 X,G6 Y],G6 E]) (by simp[results,results95,go_sem,e0,e1]) rfl ⟨rfl,hbe⟩
theorem KJ {a b c d:Int} (ha:ag a) (hb:ag b) (hc:ag c) (hd:ag d) (w:World) (H:aO w) :
    Calls prog 68 #[ek a b,ek c d] w fun e w'=>e=.returned (.tuple #[kM (cf a b&&cf c d) (ek (cD (bO (aA a) (cK (aA d)))) (cF (bO (aA b) (cK (aA c))))),G6 (lV (cf a b&&cf c d))])∧Below w.heap.size w w':=by
  have hE:∀ (cap:Array Value) (w:World),(callFunc 132 cap).run prog w=.ok (.enter 132 cap) w:=by
    intro cap w
    simp[go_sem]
  have CJ:Hid (∀ W,aO W->Calls prog 129 #[ek a b,ek c d,.func (.func 132) #[] #[]] W fun e w'=>e=.returned (.tuple #[kM (cf a b&&cf c d) (ek (cD (bO (aA a) (cK (aA d)))) (cF (bO (aA b) (cK (aA c))))),G6 (lV (cf a b&&cf c d))])∧Below W.heap.size W w'):=fun W LW=>by
    have:=xj 132 (x:=fj (ck a (neg d)) (eJ a (neg d))) (y:=fl (ck b (neg c)) (eJ b (neg c))) ha hb hc hd W LW hE (fun h1 h2=>by
      obtain⟨na,nb,a1,b1,_⟩:=kX ha hb h1
      obtain⟨nc,nd,c1,d1,_⟩:=kX hc hd h2
      obtain⟨g1,g2⟩:=pg nc
      obtain⟨g3,g4⟩:=pg nd
      have p1:=mW na (ff nd).1 (za a1 (fun q=>g4.2 (d1 (g3.1 q))))
      have p2:=mW nb (ff nc).1 (zc b1 (fun q k=>(g2.1 k) (c1 (g1.1 q))))
      exact ⟨(yZ p1.1).1,(yZ p2.1).2,fun W' _=>Iu W' (fun W''=>It nc nd W'') (fun W''=>Bn W'' (fun W3=>tL na (ff nd).1 p1.1 W3) (fun W3=>tL nb (ff nc).1 p2.1 W3))⟩)
    rw[Bq (v':=ek (cD (bO (aA a) (cK (aA d)))) (cF (bO (aA b) (cK (aA c)))))] at this
    · exact this
    · intro hok
      rw[Bool.and_eq_true] at hok
      obtain⟨na,nb,a1,b1,_⟩:=kX ha hb hok.1
      obtain⟨nc,nd,c1,d1,_⟩:=kX hc hd hok.2
      obtain⟨g1,g2⟩:=pg nc
      obtain⟨g3,g4⟩:=pg nd
      rw[(mW na (ff nd).1 (za a1 (fun q=>g4.2 (d1 (g3.1 q))))).2.1,(mW nb (ff nc).1 (zc b1 (fun q k=>(g2.1 k) (c1 (g1.1 q))))).2.2,wg nd,wg nc]
  have hx:∃ X Y,kM (cf a b&&cf c d) (ek (cD (bO (aA a) (cK (aA d)))) (cF (bO (aA b) (cK (aA c)))))=.agg #[G6 X,G6 Y]:=by
    unfold kM ek;split
    · exact⟨_,_,rfl⟩
    · exact⟨_,_,rfl⟩
  obtain⟨X,Y,hXY⟩:=hx
  rw[hXY] at CJ ⊢
  clear hXY
  unfold ek at *
  generalize lV (cf a b&&cf c d)=E at *
  obtain⟨q0,q1,q2,hs,hb3⟩:=oW w (.cells #[G6 a,G6 b] 72) (.cells #[G6 c,G6 d] 72) (.cells #[G6 0,G6 0] 72)
  have L2:=H.keeps hb3
  go_enter func68,ntmps68
  go_wp2_with fail
  generalize ((w.alloc (.cells #[G6 a,G6 b] 72)).alloc (.cells #[G6 c,G6 d] 72)).alloc (.cells #[G6 0,G6 0] 72)=wx at *
  refine(CJ.out _ L2).mono ?_
  rintro _ w1 ⟨rfl,hb4⟩
  have d2:=(hb4.block _ (aGe q2).1).trans q2
  have d3:=az d2 0 (G6 X)
  have d4:=az d3 1 (G6 Y)
  have f0:=ae d2 0 rfl
  have z0:=ah d2 0
  have f1:=ae d3 1 rfl
  have z1:=ah d3 1
  have e0:=ae d4 0 rfl
  have e1:=ae d4 1 rfl
  have hbe:=((ac hb3 hb4).setCell (p:=⟨w.heap.size+1+1,0,none⟩) (show w.heap.size<=w.heap.size+1+1 by omega) (G6 X)).setCell (p:=⟨w.heap.size+1+1,1,none⟩) (show w.heap.size<=w.heap.size+1+1 by omega) (G6 Y)
  clear d2 d3 d4 q0 q1 q2
  go_wp2
  refine bodyPost_ret (v:=.tuple #[.agg #[G6 X,G6 Y],G6 E]) (by simp[results,results68,go_sem,e0,e1]) rfl ⟨rfl,hbe⟩
theorem KL {a b c d:Int} (ha:ag a) (hb:ag b) (hc:ag c) (hd:ag d) (w:World) (H:aO w) :
  Calls prog 66 #[ek a b,ek c d] w fun e w'=>e=.returned (.tuple #[kM (cf a b&&cf c d) (ek (cD (gD (aA a) (aA b) (aA c) (aA d))) (cF (gF (aA a) (aA b) (aA c) (aA d)))),G6 (lV (cf a b&&cf c d))])∧Below w.heap.size w w':=by
 have:=KE ha hb hc hd w H
 rw[Bq (v':=ek (cD (gD (aA a) (aA b) (aA c) (aA d))) (cF (gF (aA a) (aA b) (aA c) (aA d))))] at this
 ·exact this
 ·intro hok
  rw[Bool.and_eq_true] at hok
  obtain⟨na,nb,_⟩:=kX ha hb hok.1
  obtain⟨nc,nd,_⟩:=kX hc hd hok.2
  rw[(PG na nb nc nd).1,(PG na nb nc nd).2]
structure yF (c d V:Int):Prop where
 lo:nn c
 hi:nn d
 cl:aL c=c
 ch:aL d=d
 ok:cf c d=true
 kl:au c<=au (jq V)
 kh:au (jr V)<=au d
theorem fC.okk {e f:En} {V:Int} (h:fC e f V):yF (cD e) (cF f) V :=
 ⟨(tk e).1,(tk f).2,(tO e).1,(tO f).2,h.vld,h.keys.1,h.keys.2⟩
theorem nX {A B C:Int} (h:C*2^4194304=A*B):C=eO A B:=by
 unfold eO
 rw[<- h]
 exact(Int.mul_ediv_cancel _ (Int.ne_of_gt (aR _))).symm
structure oJ (s t x:Int):Prop where
 lo:nn s
 hi:nn t
 h:fC (aA s) (aA t) x
theorem oJ.v {s t x:Int} (h:oJ s t x):cf s t=true:=h.h.vldP h.lo h.hi
theorem oJ.of {lo hi b:Int} (rb:ag b) (pb:ak b=true) (h1:nn lo∧au lo<=au b) (h2:nn hi∧au b<=au hi):oJ lo hi (aq b) :=
 ⟨h1.1,h2.1,fC.of h1.1 h2.1 ⟨rb,eN rb pb⟩ pb h1.2 h2.2⟩
theorem DN {c d V:Int} (h:yF c d V):me c d=true->rZ c d=bH V 0:=by
 intro hk
 obtain⟨c1,c2,c3⟩:=PJ V
 have hl:=h.kl
 have hh:=h.kh
 have hle:=PI V
 unfold me at hk
 unfold rZ
 rw[h.ok] at hk ⊢
 simp only[Bool.true_and,if_true,Bool.or_eq_true,Bool.and_eq_true,decide_eq_true_eq] at hk ⊢
 by_cases p1:0<au c
 ·rw[if_pos p1]
  exact(gf (c1 (by omega))).symm
 ·rw[if_neg p1]
  by_cases p2:au d<0
  ·rw[if_pos p2]
   exact(gd (c2 (by omega))).symm
  ·rw[if_neg p2]
   have hz:au c=0∧au d=0:=by omega
   exact(jE (c3 (by omega) (by omega) (by omega) (by omega))).symm
def ll (a b:En):Int:=if a.i≠b.i then (if a.i<b.i then -1 else 1) else if a.i≠0 then 0 else bH a.v b.v
theorem KM {x y:Int}:bH x y<0↔x<y:=by
 rcases Int.lt_trichotomy x y with h|h|h
 ·rw[gd h];omega
 ·rw[jE h];omega
 ·rw[gf h];omega
theorem KN {x y:Int}:0<bH x y↔y<x:=by
 rcases Int.lt_trichotomy x y with h|h|h
 ·rw[gd h];omega
 ·rw[jE h];omega
 ·rw[gf h];omega
theorem DO {a b:En} (ha:a.ok) (hb:b.ok):ll a b<0↔(a.i<b.i∨(a.i=b.i∧a.v<b.v)):=by
 unfold ll En.ok at *
 by_cases h:a.i=b.i
 ·rw[if_neg (fun k=>k h)]
  by_cases k:a.i=0
  ·rw[if_neg (fun q=>q k),KM];omega
  ·rw[if_pos k];omega
 ·rw[if_pos h]
  split<;>omega
theorem DP {a b:En} (ha:a.ok) (hb:b.ok):0<ll a b↔(b.i<a.i∨(b.i=a.i∧b.v<a.v)):=by
 unfold ll En.ok at *
 by_cases h:a.i=b.i
 ·rw[if_neg (fun k=>k h)]
  by_cases k:a.i=0
  ·rw[if_neg (fun q=>q k),KN];omega
  ·rw[if_pos k];omega
 ·rw[if_pos h]
  split<;>omega
theorem NE {a b:En} (ha:a.ok) (hb:b.ok):fT a b=if ll b a<0 then b else a:=by
 unfold fT
 by_cases h:b.i<a.i∨(b.i=a.i∧b.v<a.v)
 ·rw[if_pos h,if_pos ((DO hb ha).2 h)]
 ·rw[if_neg h,if_neg (fun k=>h ((DO hb ha).1 k))]
theorem NF {a b:En} (ha:a.ok) (hb:b.ok):fU a b=if 0<ll b a then b else a:=by
 unfold fU
 by_cases h:a.i<b.i∨(a.i=b.i∧a.v<b.v)
 ·rw[if_pos h,if_pos ((DP hb ha).2 h)]
 ·rw[if_neg h,if_neg (fun k=>h ((DP hb ha).1 k))]
theorem Rp {a b:Int} (na:nn a) (nb:nn b) (v:cf a b=true) :
  me a b=(decide (0<cG (aA a))||(decide (cG (aA b)<0)||(decide (cG (aA a)=0)&&decide (cG (aA b)=0))))∧rZ a b=if me a b then cG (aA a) else 0:=by
 obtain⟨p1,p2⟩:=DM na
 obtain⟨q1,q2⟩:=DM nb
 have b1:=mX (dT a)
 have b2:=mX (dT b)
 obtain⟨_,_,h1,_,_⟩:=kG.1 v
 have hk:me a b=(decide (0<cG (aA a))||(decide (cG (aA b)<0)||(decide (cG (aA a)=0)&&decide (cG (aA b)=0)))):=by
  unfold me
  rw[v,Bool.true_and,Bool.eq_iff_iff]
  simp only[Bool.or_eq_true,Bool.and_eq_true,decide_eq_true_eq]
  omega
 refine⟨hk,?_⟩
 rw[hk]
 unfold rZ
 rw[v]
 simp only[if_true,Bool.or_eq_true,Bool.and_eq_true,decide_eq_true_eq]
 by_cases x:0<au a
 ·rw[if_pos x,if_pos (.inl (by omega))];omega
 ·rw[if_neg x]
  by_cases y:au b<0
  ·rw[if_pos y,if_pos (.inr (.inl (by omega)))];omega
  ·rw[if_neg y]
   by_cases z:cG (aA a)=0∧cG (aA b)=0
   ·rw[if_pos (.inr (.inr z))];omega
   ·rw[if_neg (by omega)]
theorem bJ {w0 w:World} {g:Nat} (h:Below w0.heap.size w0 w) (hg:w0.heap.size<=g) (x y:Value):Below w0.heap.size w0 ((w.setCell ⟨g,0,none⟩ x).setCell ⟨g,1,none⟩ y):=(h.setCell (p:=⟨g,0,none⟩) hg x).setCell (p:=⟨g,1,none⟩) hg y
def dZ (p q:Int):Int:=cD (bO (aA p) (cK (aA q)))
def ef (p q:Int):Int:=cF (bO (aA p) (cK (aA q)))
theorem jL {c d V:Int} (h:yF c d V):oJ c d V :=
 ⟨h.lo,h.hi,En.le_trans (pe h.lo (kr V).1 h.kl) (tR V).1,En.le_trans (tR V).2 (pe (kr V).2 h.hi h.kh)⟩
theorem yG {p:Int} (rp:ag p) (pp:ak p=true):oJ p p (aq p):=oJ.of rp pp ⟨⟨rp,bW pp⟩,Int.le_refl _⟩ ⟨⟨rp,bW pp⟩,Int.le_refl _⟩
theorem ug {p:Int} (h:nn p) (pp:ak p=true):ag (aL p)∧ak (aL p)=true:=by
 refine⟨Fz h.1,?_⟩
 unfold aL
 rw[if_neg h.2]
 split
 ·decide
 ·exact pp
theorem jM {p q:Int} (rp:ag p) (rq:ag q) (pp:ak p=true) (pq:ak q=true):yF (dZ p q) (ef p q) (aq p-aq q) :=
 ((show aq p + -aq q=aq p-aq q from rfl) ▸ (yG rp pp).h.plus (yG rq pq).h.neg).okk
theorem Iv {b:Int} (rb:ag b) (pb:ak b=true) (w:World) (H:aO w) :
  Calls prog 131 #[G6 b] w fun r w'=>r=.returned (.tuple #[.agg #[G6 (aL b),G6 (aL b)],G6 0])∧Below w.heap.size w w':=by
 have CP:Hid (∀ W,aO W->Calls prog 190 #[G6 b] W fun e w'=>e=.returned (.tuple #[.bool (dW b),G6 (aN b),G6 (bh b),.bool true])∧Below W.heap.size W w'):=fun W h=>by
  have:=lQ b W h.lay
  rw[pb] at this
  exact this
 have CF:Hid (∀ W,Calls prog 58 #[G6 b] W fun e w'=>e=.returned (G7 (wd b))∧w'=W):=fun W=>bU b W
 have CT:Hid (∀ W,aO W->Calls prog 187 #[.agg #[G7 (wd b),G7 (wd b)]] W fun e w'=>e=.returned (.agg #[G6 (aL b),G6 (aL b)])∧Below W.heap.size W w'):=fun W h=>AX ⟨rb,bW pb⟩ ⟨rb,bW pb⟩ W h.env.lays
 clear rb pb
 generalize aL b=cb at *
 generalize wd b=B at *
 generalize dW b=b1 at *
 generalize aN b=b2 at *
 generalize bh b=b3 at *
 have r_k:(w.alloc (.cells #[G6 0,G6 0] 72)).heap[w.heap.size]?=some (.cells #[G6 0,G6 0] 72):=aE (.cells #[G6 0,G6 0] 72) (by rfl)
 have hb0:=af w (.cells #[G6 0,G6 0] 72)
 go_enter func131,ntmps131
 go_wp2_with fail
 generalize (w.alloc (.cells #[G6 0,G6 0] 72))=x0 at hb0 r_k ⊢
 replace H:=H.keeps hb0
 refine(CP.out _ H).mono ?_
 rintro _ y1 ⟨rfl,hw1⟩
 replace r_k:=aj hw1 r_k
 replace hb0:=ac hb0 hw1
 replace H:=H.keeps hw1
 go_wp2_with fail
 refine(CF.out _).mono ?_
 rintro _ wz ⟨rfl,hwz⟩
 replace hwz:=hwz.symm
 subst hwz
 go_wp2_with fail
 refine(CT.out _ H).mono ?_
 rintro _ y2 ⟨rfl,hw2⟩
 replace r_k:=aj hw2 r_k
 replace hb0:=ac hb0 hw2
 have k0:=ae r_k 0 rfl
 have k1:=ae r_k 1 rfl
 have z0:=ah r_k 0
 have z1:=ah r_k 1
 go_wp2
 exact bodyPost_ret (v:=.tuple #[.agg #[G6 cb,G6 cb],G6 0]) (by simp[results,results131,go_sem,k0,k1]) rfl ⟨rfl,((hb0.setCell (p:=⟨w.heap.size,0,none⟩) (show w.heap.size<=w.heap.size by omega) _).setCell (p:=⟨w.heap.size,1,none⟩) (show w.heap.size<=w.heap.size by omega) _)⟩
theorem pj {p q:Int} (rp:ag p) (rq:ag q) (pp:ak p=true) (pq:ak q=true) (w:World) (H:aO w) :
  Calls prog 67 #[G6 p,G6 q] w fun r w'=>r=.returned (.agg #[G6 (dZ p q),G6 (ef p q)])∧Below w.heap.size w w':=by
 have C1:Hid (∀ W,aO W->Calls prog 131 #[G6 p] W fun r w'=>r=.returned (.tuple #[.agg #[G6 (aL p),G6 (aL p)],G6 0])∧Below W.heap.size W w'):=fun W h=>Iv rp pp W h
 have C2:Hid (∀ W,aO W->Calls prog 131 #[G6 q] W fun r w'=>r=.returned (.tuple #[.agg #[G6 (aL q),G6 (aL q)],G6 0])∧Below W.heap.size W w'):=fun W h=>Iv rq pq W h
 have C3:Hid (∀ W,aO W->Calls prog 68 #[.agg #[G6 (aL p),G6 (aL p)],.agg #[G6 (aL q),G6 (aL q)]] W fun e w'=>e=.returned (.tuple #[.agg #[G6 (dZ p q),G6 (ef p q)],G6 0])∧Below W.heap.size W w'):=fun W h=>by
  have n1:nn p:=⟨rp,bW pp⟩
  have n2:nn q:=⟨rq,bW pq⟩
  have k1:=ug n1 pp
  have k2:=ug n2 pq
  have:=KJ k1.1 k1.1 k2.1 k2.1 W h
  rw[Bp k1.1 k1.2,Bp k2.1 k2.2,mC n1,mC n2] at this
  exact this
 clear rp rq pp pq
 generalize aL p=cp at *
 generalize aL q=cq at *
 generalize dZ p q=lo at *
 generalize ef p q=hi at *
 have r_k:(w.alloc (.cells #[G6 0,G6 0] 72)).heap[w.heap.size]?=some (.cells #[G6 0,G6 0] 72):=aE (.cells #[G6 0,G6 0] 72) (by rfl)
 have hb0:=af w (.cells #[G6 0,G6 0] 72)
 go_enter func67,ntmps67
 go_wp2_with fail
 generalize (w.alloc (.cells #[G6 0,G6 0] 72))=x0 at hb0 r_k ⊢
 replace H:=H.keeps hb0
 refine(C1.out _ H).mono ?_
 rintro _ y1 ⟨rfl,hw1⟩
 replace r_k:=am (.cells #[G6 cp,G6 cp] 72) (aj hw1 r_k)
 have p_k:=aD y1 (.cells #[G6 cp,G6 cp] 72)
 replace hb0:=ac (ac hb0 hw1) (af y1 (.cells #[G6 cp,G6 cp] 72))
 replace H:=(H.keeps hw1).keeps (af y1 (.cells #[G6 cp,G6 cp] 72))
 go_wp2_with fail
 generalize y1.alloc (.cells #[G6 cp,G6 cp] 72)=x1 at r_k p_k hb0 H ⊢
 refine(C2.out _ H).mono ?_
 rintro _ y2 ⟨rfl,hw2⟩
 replace r_k:=am (.cells #[G6 cq,G6 cq] 72) (aj hw2 r_k)
 replace p_k:=am (.cells #[G6 cq,G6 cq] 72) (aj hw2 p_k)
 have q_k:=aD y2 (.cells #[G6 cq,G6 cq] 72)
 replace hb0:=ac (ac hb0 hw2) (af y2 (.cells #[G6 cq,G6 cq] 72))
 replace H:=(H.keeps hw2).keeps (af y2 (.cells #[G6 cq,G6 cq] 72))
 have f_p0:=ae p_k 0 rfl
 have f_p1:=ae p_k 1 rfl
 go_wp2_with fail
 clear f_p0 f_p1
 generalize y2.alloc (.cells #[G6 cq,G6 cq] 72)=x2 at r_k p_k q_k hb0 H ⊢
 refine(C3.out _ H).mono ?_
 rintro _ y3 ⟨rfl,hw3⟩
 replace r_k:=am (.cells #[G6 lo,G6 hi] 72) (aj hw3 r_k)
 replace hb0:=ac (ac hb0 hw3) (af y3 (.cells #[G6 lo,G6 hi] 72))
 have k0:=ae r_k 0 rfl
 have k1:=ae r_k 1 rfl
 have z0:=ah r_k 0
 have z1:=ah r_k 1
 go_wp2
 exact bodyPost_ret (v:=.agg #[G6 lo,G6 hi]) (by simp[results,results67,go_sem,k0,k1]) rfl ⟨rfl,((hb0.setCell (p:=⟨w.heap.size,0,none⟩) (show w.heap.size<=w.heap.size by omega) _).setCell (p:=⟨w.heap.size,1,none⟩) (show w.heap.size<=w.heap.size by omega) _)⟩
theorem Br (lo hi e:Int) (w:World) :
  Calls prog 96 #[.agg #[G6 lo,G6 hi],G6 e] w fun r w'=>r=.returned (.agg #[G6 lo,G6 hi])∧Below w.heap.size w w':=by
 go_enter func96,ntmps96
 go_wp2_with fail
 have r_j:=cZ w (.cells #[G6 lo,G6 hi] 72) (.cells #[G6 lo,G6 hi] 72)
 have k0:=ae r_j 0 rfl
 have k1:=ae r_j 1 rfl
 exact bodyPost_ret (v:=.agg #[G6 lo,G6 hi]) (by simp[results,results96,go_sem,k0,k1]) rfl ⟨rfl,aM _ _ _⟩
theorem PN (w:World) :
  Calls prog 39 #[] w fun r w'=>r=.returned (.agg #[.func (.func 67) #[] #[],.func (.func 95) #[] #[],.func (.func 68) #[] #[],.func (.func 66) #[] #[]])∧Below w.heap.size w w':=by
 have hst:∀ p F m w,(store p (.func (.func F) #[] #[]) m).run prog w=stored prog w p (.func (.func F) #[] #[]) m:=fun p F m w=>run_store _ w p _ m rfl
 go_enter func39,ntmps39
 go_wp2_with fail
 have r_j:=aD w (.cells #[.func (.func 67) #[] #[],.func (.func 95) #[] #[],.func (.func 68) #[] #[],.func (.func 66) #[] #[]] 76)
 have k0:=ae r_j 0 rfl
 have k1:=ae r_j 1 rfl
 have k2:=ae r_j 2 rfl
 have k3:=ae r_j 3 rfl
 exact bodyPost_ret (v:=.agg #[.func (.func 67) #[] #[],.func (.func 95) #[] #[],.func (.func 68) #[] #[],.func (.func 66) #[] #[]]) (by simp[results,results39,go_sem,k0,k1,k2,k3]) rfl ⟨rfl,af _ _⟩
def lX (a1 a2 c1 c2 V:Int):Prop:=∃ C D,C*2^4194304=a1*c1∧D*2^4194304=a2*c2∧V=C+D
theorem lX.unique {a1 a2 b1 b2 V V':Int} (h:lX a1 a2 b1 b2 V) (k:lX a1 a2 b1 b2 V'):V=V':=by
 obtain⟨C,D,h1,h2,rfl⟩:=h
 obtain⟨C',D',k1,k2,rfl⟩:=k
 rw[mM (h1.trans k1.symm),mM (h2.trans k2.symm)]
theorem tp (x_g:Bool) (x_o:Option Addr) (x_n x_c:Nat) (x_e e:Int) (w:World) :
  Calls prog 100 #[.agg #[.bool x_g,.slice x_o x_n x_c,G6 x_e],G6 e] w fun r w'=>r=.returned (.agg #[.bool x_g,.slice x_o x_n x_c,G6 x_e])∧Below w.heap.size w w':=by
 have hb0:=aM w (.cells #[.bool x_g,.slice x_o x_n x_c,G6 x_e] 40) (.cells #[.bool false,.slice none 0 0,G6 0] 40)
 have x_k:=ew w (.cells #[.bool x_g,.slice x_o x_n x_c,G6 x_e] 40) (.cells #[.bool false,.slice none 0 0,G6 0] 40)
 have r_k:=cZ w (.cells #[.bool x_g,.slice x_o x_n x_c,G6 x_e] 40) (.cells #[.bool false,.slice none 0 0,G6 0] 40)
 go_enter func100,ntmps100
 go_wp2_with fail
 have r_j:=cZ w (.cells #[.bool x_g,.slice x_o x_n x_c,G6 x_e] 40) (.cells #[.bool x_g,.slice x_o x_n x_c,G6 x_e] 40)
 have k0:=ae r_j 0 rfl
 have k1:=ae r_j 1 rfl
 have k2:=ae r_j 2 rfl
 exact bodyPost_ret (v:=.agg #[.bool x_g,.slice x_o x_n x_c,G6 x_e]) (by simp[results,results100,go_sem,k0,k1,k2]) rfl ⟨rfl,aM _ _ _⟩
theorem aS (w:World) (o:Obj):Below w.drew.heap.size w.drew (w.alloc o).drew:=ac (af w.drew o) (ap _)
theorem dO (w:World) (o:Obj):(w.alloc o).drew.heap[w.heap.size]?=some o:=aD w o
theorem sf (w:World) :
  Calls prog 42 #[] w fun r w'=>r=.returned (.agg #[.func (.func 78) #[] #[],.func (.func 97) #[] #[],.func (.func 98) #[] #[],.func (.func 99) #[] #[]])∧Below w.heap.size w w':=by
 have hst:∀ p F m w,(store p (.func (.func F) #[] #[]) m).run prog w=stored prog w p (.func (.func F) #[] #[]) m:=fun p F m w=>run_store _ w p _ m rfl
 go_enter func42,ntmps42
 go_wp2_with fail
 have r_j:=aD w (.cells #[.func (.func 78) #[] #[],.func (.func 97) #[] #[],.func (.func 98) #[] #[],.func (.func 99) #[] #[]] 83)
 have k0:=ae r_j 0 rfl
 have k1:=ae r_j 1 rfl
 have k2:=ae r_j 2 rfl
 have k3:=ae r_j 3 rfl
 exact bodyPost_ret (v:=.agg #[.func (.func 78) #[] #[],.func (.func 97) #[] #[],.func (.func 98) #[] #[],.func (.func 99) #[] #[]]) (by simp[results,results42,go_sem,k0,k1,k2,k3]) rfl ⟨rfl,af _ _⟩
theorem yH {ax ay bx by' cx cy:Int} (pax:ak ax=true) (pay:ak ay=true) (pbx:ak bx=true) (pby:ak by'=true) (pcx:ak cx=true) (pcy:ak cy=true) (w:World) (H:aO w) :
    Calls prog 43 #[.agg #[.func (.func 78) #[] #[],.func (.func 97) #[] #[],.func (.func 98) #[] #[],.func (.func 99) #[] #[]],.agg #[G6 ax,G6 ay],.agg #[G6 bx,G6 by'],.agg #[G6 cx,G6 cy]] w fun r w'=>∃ v V,r=.returned v∧bw w w' V v∧lX (aq ax-aq bx) (aq ay-aq by') (aq cx-aq bx) (aq cy-aq by') V∧Bd 8100 V:=by
  have A1:Hid (∀ W,aO W->Calls prog 78 #[G6 ax,G6 bx] W fun r w'=>∃ v,r=.returned v∧bw W w' (aq ax-aq bx) v):=fun W h=>nE pax pbx W h
  have B1:=(dp pax).sub (dp pbx) (by decide)
  have A2:Hid (∀ W,aO W->Calls prog 78 #[G6 cx,G6 bx] W fun r w'=>∃ v,r=.returned v∧bw W w' (aq cx-aq bx) v):=fun W h=>nE pcx pbx W h
  have B2:=(dp pcx).sub (dp pbx) (by decide)
  have A3:Hid (∀ W,aO W->Calls prog 78 #[G6 ay,G6 by'] W fun r w'=>∃ v,r=.returned v∧bw W w' (aq ay-aq by') v):=fun W h=>nE pay pby W h
  have B3:=(dp pay).sub (dp pby) (by decide)
  have A4:Hid (∀ W,aO W->Calls prog 78 #[G6 cy,G6 by'] W fun r w'=>∃ v,r=.returned v∧bw W w' (aq cy-aq by') v):=fun W h=>nE pcy pby W h
  have B4:=(dp pcy).sub (dp pby) (by decide)
  generalize aq ax-aq bx=a1 at *
  generalize aq cx-aq bx=c1 at *
  generalize aq ay-aq by'=a2 at *
  generalize aq cy-aq by'=c2 at *
  clear pax pay pbx pby pcx pcy
  have k_k:(w.alloc (.cells #[.func (.func 78) #[] #[],.func (.func 97) #[] #[],.func (.func 98) #[] #[],.func (.func 99) #[] #[]] 83)).heap[w.heap.size]?=some (.cells #[.func (.func 78) #[] #[],.func (.func 97) #[] #[],.func (.func 98) #[] #[],.func (.func 99) #[] #[]] 83):=aE (.cells #[.func (.func 78) #[] #[],.func (.func 97) #[] #[],.func (.func 98) #[] #[],.func (.func 99) #[] #[]] 83) (by rfl)
  have hb0:=af w (.cells #[.func (.func 78) #[] #[],.func (.func 97) #[] #[],.func (.func 98) #[] #[],.func (.func 99) #[] #[]] 83)
  replace k_k:=am (.cells #[G6 ax,G6 ay] 33) k_k
  have a_k:((w.alloc (.cells #[.func (.func 78) #[] #[],.func (.func 97) #[] #[],.func (.func 98) #[] #[],.func (.func 99) #[] #[]] 83)).alloc (.cells #[G6 ax,G6 ay] 33)).heap[w.heap.size+1]?=some (.cells #[G6 ax,G6 ay] 33):=aE (.cells #[G6 ax,G6 ay] 33) (by simp only[aw])
  replace hb0:=ac hb0 (af (w.alloc (.cells #[.func (.func 78) #[] #[],.func (.func 97) #[] #[],.func (.func 98) #[] #[],.func (.func 99) #[] #[]] 83)) (.cells #[G6 ax,G6 ay] 33))
  replace k_k:=am (.cells #[G6 bx,G6 by'] 33) k_k
  replace a_k:=am (.cells #[G6 bx,G6 by'] 33) a_k
  have b_k:(((w.alloc (.cells #[.func (.func 78) #[] #[],.func (.func 97) #[] #[],.func (.func 98) #[] #[],.func (.func 99) #[] #[]] 83)).alloc (.cells #[G6 ax,G6 ay] 33)).alloc (.cells #[G6 bx,G6 by'] 33)).heap[w.heap.size+1+1]?=some (.cells #[G6 bx,G6 by'] 33):=aE (.cells #[G6 bx,G6 by'] 33) (by simp only[aw])
  replace hb0:=ac hb0 (af ((w.alloc (.cells #[.func (.func 78) #[] #[],.func (.func 97) #[] #[],.func (.func 98) #[] #[],.func (.func 99) #[] #[]] 83)).alloc (.cells #[G6 ax,G6 ay] 33)) (.cells #[G6 bx,G6 by'] 33))
  replace k_k:=am (.cells #[G6 cx,G6 cy] 33) k_k
  replace a_k:=am (.cells #[G6 cx,G6 cy] 33) a_k
  replace b_k:=am (.cells #[G6 cx,G6 cy] 33) b_k
  have c_k:((((w.alloc (.cells #[.func (.func 78) #[] #[],.func (.func 97) #[] #[],.func (.func 98) #[] #[],.func (.func 99) #[] #[]] 83)).alloc (.cells #[G6 ax,G6 ay] 33)).alloc (.cells #[G6 bx,G6 by'] 33)).alloc (.cells #[G6 cx,G6 cy] 33)).heap[w.heap.size+1+1+1]?=some (.cells #[G6 cx,G6 cy] 33):=aE (.cells #[G6 cx,G6 cy] 33) (by simp only[aw])
  replace hb0:=ac hb0 (af (((w.alloc (.cells #[.func (.func 78) #[] #[],.func (.func 97) #[] #[],.func (.func 98) #[] #[],.func (.func 99) #[] #[]] 83)).alloc (.cells #[G6 ax,G6 ay] 33)).alloc (.cells #[G6 bx,G6 by'] 33)) (.cells #[G6 cx,G6 cy] 33))
  replace k_k:=am (.cells #[.bool false,.slice none 0 0,G6 0] 40) k_k
  replace a_k:=am (.cells #[.bool false,.slice none 0 0,G6 0] 40) a_k
  replace b_k:=am (.cells #[.bool false,.slice none 0 0,G6 0] 40) b_k
  replace c_k:=am (.cells #[.bool false,.slice none 0 0,G6 0] 40) c_k
  have r_k:(((((w.alloc (.cells #[.func (.func 78) #[] #[],.func (.func 97) #[] #[],.func (.func 98) #[] #[],.func (.func 99) #[] #[]] 83)).alloc (.cells #[G6 ax,G6 ay] 33)).alloc (.cells #[G6 bx,G6 by'] 33)).alloc (.cells #[G6 cx,G6 cy] 33)).alloc (.cells #[.bool false,.slice none 0 0,G6 0] 40)).heap[w.heap.size+1+1+1+1]?=some (.cells #[.bool false,.slice none 0 0,G6 0] 40):=aE (.cells #[.bool false,.slice none 0 0,G6 0] 40) (by simp only[aw])
  replace hb0:=ac hb0 (af ((((w.alloc (.cells #[.func (.func 78) #[] #[],.func (.func 97) #[] #[],.func (.func 98) #[] #[],.func (.func 99) #[] #[]] 83)).alloc (.cells #[G6 ax,G6 ay] 33)).alloc (.cells #[G6 bx,G6 by'] 33)).alloc (.cells #[G6 cx,G6 cy] 33)) (.cells #[.bool false,.slice none 0 0,G6 0] 40))
  go_enter func43,ntmps43
  go_wp2_with fail
  rename_i Q0 K00 hK00
  generalize (((((w.alloc (.cells #[.func (.func 78) #[] #[],.func (.func 97) #[] #[],.func (.func 98) #[] #[],.func (.func 99) #[] #[]] 83)).alloc (.cells #[G6 ax,G6 ay] 33)).alloc (.cells #[G6 bx,G6 by'] 33)).alloc (.cells #[G6 cx,G6 cy] 33)).alloc (.cells #[.bool false,.slice none 0 0,G6 0] 40))=x0 at hb0 k_k a_k b_k c_k r_k ⊢
  have H:=H.keeps hb0
  have hK1:=hK00
  have HN1:∀ (g:Nat) (x1:World) (t:Array Value) (l_g:Bool) (l_o:Option Addr) (l_n l_c:Nat) (l_e:Int) (l_V:Int),#[t.getD 0 undef,t.getD 1 undef,t.getD 2 undef,t.getD 3 undef,.pointer (some ⟨w.heap.size,0,none⟩),.pointer (some ⟨w.heap.size+1,0,none⟩),.pointer (some ⟨w.heap.size+1+1,0,none⟩),.pointer (some ⟨w.heap.size+1+1+1,0,none⟩),.pointer (some ⟨w.heap.size+1+1+1+1,0,none⟩),.pointer (some ⟨g,0,none⟩),t.getD 10 undef,t.getD 11 undef,t.getD 12 undef,t.getD 13 undef,t.getD 14 undef,t.getD 15 undef,t.getD 16 undef,t.getD 17 undef,t.getD 18 undef,t.getD 19 undef,t.getD 20 undef,t.getD 21 undef,t.getD 22 undef,t.getD 23 undef,t.getD 24 undef,t.getD 25 undef,t.getD 26 undef,t.getD 27 undef,t.getD 28 undef,t.getD 29 undef,t.getD 30 undef,t.getD 31 undef,t.getD 32 undef,t.getD 33 undef,t.getD 34 undef,t.getD 35 undef,t.getD 36 undef,t.getD 37 undef,t.getD 38 undef,t.getD 39 undef,t.getD 40 undef,t.getD 41 undef,t.getD 42 undef,t.getD 43 undef,t.getD 44 undef,t.getD 45 undef,t.getD 46 undef,t.getD 47 undef,t.getD 48 undef,t.getD 49 undef,t.getD 50 undef,t.getD 51 undef,t.getD 52 undef,t.getD 53 undef,t.getD 54 undef,t.getD 55 undef,t.getD 56 undef,t.getD 57 undef,t.getD 58 undef]=t->x0.heap.size<=g->x1.heap[g]?=some (.cells #[.bool l_g,.slice l_o l_n l_c,G6 l_e] 40 (0,0))->Below x0.heap.size x0 x1->cB w.heap.size x1 l_V (.agg #[.bool l_g,.slice l_o l_n l_c,G6 l_e])->l_V*2^4194304=a1*c1->Bd (2*(4000+1)) l_V->Exit.then K00 Q0 Exit.normal { tmps:=t,defers:=[] } x1:=by
    intro g_l x1 t l_g l_o l_n l_c l_e l_V ht l_ge l_k hw1 l_D l_E l_B
    obtain⟨u1,hu⟩:∃ u:Nat->Value,t=#[u 0,u 1,u 2,u 3,.pointer (some ⟨w.heap.size,0,none⟩),.pointer (some ⟨w.heap.size+1,0,none⟩),.pointer (some ⟨w.heap.size+1+1,0,none⟩),.pointer (some ⟨w.heap.size+1+1+1,0,none⟩),.pointer (some ⟨w.heap.size+1+1+1+1,0,none⟩),.pointer (some ⟨g_l,0,none⟩),u 10,u 11,u 12,u 13,u 14,u 15,u 16,u 17,u 18,u 19,u 20,u 21,u 22,u 23,u 24,u 25,u 26,u 27,u 28,u 29,u 30,u 31,u 32,u 33,u 34,u 35,u 36,u 37,u 38,u 39,u 40,u 41,u 42,u 43,u 44,u 45,u 46,u 47,u 48,u 49,u 50,u 51,u 52,u 53,u 54,u 55,u 56,u 57,u 58]:=⟨fun k=>t.getD k undef,ht.symm⟩
    clear ht
    subst hu
    have H:=H.keeps hw1
    have k_k:=(hw1.block _ (aGe k_k).1).trans k_k
    have a_k:=(hw1.block _ (aGe a_k).1).trans a_k
    have b_k:=(hw1.block _ (aGe b_k).1).trans b_k
    have c_k:=(hw1.block _ (aGe c_k).1).trans c_k
    have r_k:=(hw1.block _ (aGe r_k).1).trans r_k
    have hb1:=ac hb0 hw1
    go_wp2_with fail
    rename_i K2 hK2
    have HN2:∀ (g:Nat) (x2:World) (t:Array Value) (s_g:Bool) (s_o:Option Addr) (s_n s_c:Nat) (s_e:Int) (s_V:Int),#[t.getD 0 undef,t.getD 1 undef,t.getD 2 undef,t.getD 3 undef,.pointer (some ⟨w.heap.size,0,none⟩),.pointer (some ⟨w.heap.size+1,0,none⟩),.pointer (some ⟨w.heap.size+1+1,0,none⟩),.pointer (some ⟨w.heap.size+1+1+1,0,none⟩),.pointer (some ⟨w.heap.size+1+1+1+1,0,none⟩),.pointer (some ⟨g_l,0,none⟩),.pointer (some ⟨g,0,none⟩),t.getD 11 undef,t.getD 12 undef,t.getD 13 undef,t.getD 14 undef,t.getD 15 undef,t.getD 16 undef,t.getD 17 undef,t.getD 18 undef,t.getD 19 undef,t.getD 20 undef,t.getD 21 undef,t.getD 22 undef,t.getD 23 undef,t.getD 24 undef,t.getD 25 undef,t.getD 26 undef,t.getD 27 undef,t.getD 28 undef,t.getD 29 undef,t.getD 30 undef,t.getD 31 undef,t.getD 32 undef,t.getD 33 undef,t.getD 34 undef,t.getD 35 undef,t.getD 36 undef,t.getD 37 undef,t.getD 38 undef,t.getD 39 undef,t.getD 40 undef,t.getD 41 undef,t.getD 42 undef,t.getD 43 undef,t.getD 44 undef,t.getD 45 undef,t.getD 46 undef,t.getD 47 undef,t.getD 48 undef,t.getD 49 undef,t.getD 50 undef,t.getD 51 undef,t.getD 52 undef,t.getD 53 undef,t.getD 54 undef,t.getD 55 undef,t.getD 56 undef,t.getD 57 undef,t.getD 58 undef]=t->x1.heap.size<=g->x2.heap[g]?=some (.cells #[.bool s_g,.slice s_o s_n s_c,G6 s_e] 40 (0,0))->Below x1.heap.size x1 x2->cB w.heap.size x2 s_V (.agg #[.bool s_g,.slice s_o s_n s_c,G6 s_e])->s_V*2^4194304=a2*c2->Bd (2*(4000+1)) s_V->Exit.then K2 Q0 Exit.normal { tmps:=t,defers:=[] } x2:=by
      intro g_s x2 t s_g s_o s_n s_c s_e s_V ht s_ge s_k hw2 s_D s_E s_B
      obtain⟨u2,hu⟩:∃ u:Nat->Value,t=#[u 0,u 1,u 2,u 3,.pointer (some ⟨w.heap.size,0,none⟩),.pointer (some ⟨w.heap.size+1,0,none⟩),.pointer (some ⟨w.heap.size+1+1,0,none⟩),.pointer (some ⟨w.heap.size+1+1+1,0,none⟩),.pointer (some ⟨w.heap.size+1+1+1+1,0,none⟩),.pointer (some ⟨g_l,0,none⟩),.pointer (some ⟨g_s,0,none⟩),u 11,u 12,u 13,u 14,u 15,u 16,u 17,u 18,u 19,u 20,u 21,u 22,u 23,u 24,u 25,u 26,u 27,u 28,u 29,u 30,u 31,u 32,u 33,u 34,u 35,u 36,u 37,u 38,u 39,u 40,u 41,u 42,u 43,u 44,u 45,u 46,u 47,u 48,u 49,u 50,u 51,u 52,u 53,u 54,u 55,u 56,u 57,u 58]:=⟨fun k=>t.getD k undef,ht.symm⟩
      clear ht
      subst hu
      have H:=H.keeps hw2
      have k_k:=(hw2.block _ (aGe k_k).1).trans k_k
      have a_k:=(hw2.block _ (aGe a_k).1).trans a_k
      have b_k:=(hw2.block _ (aGe b_k).1).trans b_k
      have c_k:=(hw2.block _ (aGe c_k).1).trans c_k
      have r_k:=(hw2.block _ (aGe r_k).1).trans r_k
      have l_k:=(hw2.block _ (aGe l_k).1).trans l_k
      have l_D:=l_D.keeps hw2
      have hb2:=ac hb1 hw2
      have f_l0:=ae l_k 0 rfl
      have f_l1:=ae l_k 1 rfl
      have f_l2:=ae l_k 2 rfl
      have f_s0:=ae s_k 0 rfl
      have f_s1:=ae s_k 1 rfl
      have f_s2:=ae s_k 2 rfl
      have f_k1:=ae k_k 1 rfl
      go_wp2_with fail
      clear f_k1
      clear f_l0 f_l1 f_l2 f_s0 f_s1 f_s2
      have hs0:=(aGe r_k).1
      refine(Qp l_D.num s_D.num l_B s_B (by omega) H.tab).mono ?_
      rintro _ y3 ⟨v,rfl,h3⟩
      obtain⟨u3_g,u3_o,u3_n,u3_c,u3_e,rfl⟩:=bZ h3
      have hw3:=h3.below
      have u3_D:=h3.num
      have H:=H.keeps hw3
      have k_k:=(hw3.block _ (aGe k_k).1).trans k_k
      have a_k:=(hw3.block _ (aGe a_k).1).trans a_k
      have b_k:=(hw3.block _ (aGe b_k).1).trans b_k
      have c_k:=(hw3.block _ (aGe c_k).1).trans c_k
      have r_k:=(hw3.block _ (aGe r_k).1).trans r_k
      have l_k:=(hw3.block _ (aGe l_k).1).trans l_k
      have l_D:=l_D.keeps hw3
      have s_k:=(hw3.block _ (aGe s_k).1).trans s_k
      have s_D:=s_D.keeps hw3
      have hb3:=ac hb2 hw3
      go_wp2_with fail
      refine(tp _ _ _ _ _ _ _).mono ?_
      rintro _ ye ⟨rfl,hwe⟩
      have r_k:=aj hwe r_k
      have k0:=ae r_k 0 rfl
      have k1:=ae r_k 1 rfl
      have k2:=ae r_k 2 rfl
      have z0:=ah r_k 0
      have z1:=ah r_k 1
      have z2:=ah r_k 2
      go_wp2
      refine bodyPost_ret (v:=.agg #[.bool u3_g,.slice u3_o u3_n u3_c,G6 u3_e]) (by simp[results,results43,go_sem,k0,k1,k2]) rfl ⟨_,l_V+s_V,rfl,?_,⟨l_V,s_V,l_E,s_E,rfl⟩,?_⟩
      · exact cJ (g:=w.heap.size+4) (h3.stays hwe) (by assumption) (by omega) hs0 _ _ _
      · exact(l_B.add s_B (by decide)).up (by decide) (by decide)
    have KK2:∀ W,Below x1.heap.size x1 W->W.cell? ⟨w.heap.size,0,none⟩=some (.func (.func 78) #[] #[])∧W.cell? ⟨w.heap.size,3,none⟩=some (.func (.func 99) #[] #[])∧W.cell? ⟨w.heap.size+1,1,none⟩=some (G6 ay)∧W.cell? ⟨w.heap.size+2,1,none⟩=some (G6 by')∧W.cell? ⟨w.heap.size+3,1,none⟩=some (G6 cy):=fun W hb=>⟨ar (ae k_k 0 rfl) hb,ar (ae k_k 3 rfl) hb,ar (ae a_k 1 rfl) hb,ar (ae b_k 1 rfl) hb,ar (ae c_k 1 rfl) hb⟩
    have hC2_0:=(ap x1).drew
    have hT2_0:Below w.heap.size w x1.drew:=hb1.drew
    have H_2_0:=H.keeps (ap x1).drew
    have hs2_0:=(ap x1).drew
    go_region_held3 (fun W=>W.cell? ⟨w.heap.size,0,none⟩=some (.func (.func 78) #[] #[])∧W.cell? ⟨w.heap.size,3,none⟩=some (.func (.func 99) #[] #[])∧W.cell? ⟨w.heap.size+1,1,none⟩=some (G6 ay)∧W.cell? ⟨w.heap.size+2,1,none⟩=some (G6 by')∧W.cell? ⟨w.heap.size+3,1,none⟩=some (G6 cy))
      (with_reducible first|assumption|exact KK2 _ (af _ _).drew|exact KK2 _ hC2_0|exact KK2 _ hC2_1|exact KK2 _ hC2_2|exact KK2 _ hC2_3|exact KK2 _ hC2_4|exact KK2 _ (ac hC2_0 (af _ _))|exact KK2 _ (ac hC2_1 (af _ _))|exact KK2 _ (ac hC2_2 (af _ _))|exact KK2 _ (ac hC2_3 (af _ _))|exact KK2 _ (ac hC2_4 (af _ _))|exact KK2 _ (bv hC2_4 (Nat.le_refl _) _ _ _)|exact KK2 _ (bv hC2_4 hC2_1.size _ _ _)|exact KK2 _ (bv hC2_4 hC2_2.size _ _ _)|exact KK2 _ (bv hC2_4 hC2_3.size _ _ _)|fail)
      (first
        | (go_at_call 100;have _t:=hs2_3;refine(tp _ _ _ _ _ _ _).mono ?_;rintro _ y2_4 ⟨rfl,hq2_4⟩;have hs2_4:Below y2_3.heap.size y2_3 y2_4:=(by with_reducible first|exact hq2_4|exact ac (af _ _) hq2_4|exact ac (aS _ _) hq2_4);have hT2_4:=ac hT2_3 hs2_4;have hC2_4:=ac hC2_3 hs2_4;have H_2_4:=H_2_3.keeps hs2_4;have s_A:=ne2.keeps hs2_4;with_reducible first|(have qz2:y2_4.heap[x1.heap.size]?=some (.cells #[.bool false,.slice none 0 0,G6 0] 40 (0,0)):=aj hq2_4 (aj hq2_3 (aj hq2_2 (aj hq2_1 (dO x1 (.cells #[.bool false,.slice none 0 0,G6 0] 40)))));have cz2_0:=ae qz2 0 rfl;have zz2_0:=ah qz2 0;have cz2_1:=ae qz2 1 rfl;have zz2_1:=ah qz2 1;have cz2_2:=ae qz2 2 rfl;have zz2_2:=ah qz2 2)|(have qz2:y2_4.heap[y2_1.heap.size]?=some (.cells #[.bool false,.slice none 0 0,G6 0] 40 (0,0)):=aj hq2_4 (aj hq2_3 (aj hq2_2 (aD _ _)));have cz2_0:=ae qz2 0 rfl;have zz2_0:=ah qz2 0;have cz2_1:=ae qz2 1 rfl;have zz2_1:=ah qz2 1;have cz2_2:=ae qz2 2 rfl;have zz2_2:=ah qz2 2)|(have qz2:y2_4.heap[y2_2.heap.size]?=some (.cells #[.bool false,.slice none 0 0,G6 0] 40 (0,0)):=aj hq2_4 (aj hq2_3 (aD _ _));have cz2_0:=ae qz2 0 rfl;have zz2_0:=ah qz2 0;have cz2_1:=ae qz2 1 rfl;have zz2_1:=ah qz2 1;have cz2_2:=ae qz2 2 rfl;have zz2_2:=ah qz2 2)|(have qz2:y2_4.heap[y2_3.heap.size]?=some (.cells #[.bool false,.slice none 0 0,G6 0] 40 (0,0)):=aj hq2_4 (aD _ _);have cz2_0:=ae qz2 0 rfl;have zz2_0:=ah qz2 0;have cz2_1:=ae qz2 1 rfl;have zz2_1:=ah qz2 1;have cz2_2:=ae qz2 2 rfl;have zz2_2:=ah qz2 2)|skip)
        | (go_at_call 99;have _t:=hs2_2;refine(Lk (np2.keeps (by with_reducible first|exact ap _|exact af _ _|exact aS _ _)) (nb2.num.keeps (by with_reducible first|exact ap _|exact af _ _|exact aS _ _)) B3 B4 (by omega) (H_2_2.keeps (by with_reducible first|exact ap _|exact af _ _|exact aS _ _)).tab).mono ?_;rintro _ y2_3 ⟨v,s_V,rfl,nm2,s_E,s_B⟩;obtain⟨s_g,s_o,s_n,s_c,s_e,rfl⟩:=bZ nm2;have hq2_3:=nm2.below;have ne2:=nm2.dan.lower (Nat.le_trans hT2_2.size (by with_reducible first|exact Nat.le_refl _|exact(af _ _).size|exact(aS _ _).size));have hs2_3:Below y2_2.heap.size y2_2 y2_3:=(by with_reducible first|exact hq2_3|exact ac (af _ _) hq2_3|exact ac (aS _ _) hq2_3);have hT2_3:=ac hT2_2 hs2_3;have hC2_3:=ac hC2_2 hs2_3;have H_2_3:=H_2_2.keeps hs2_3)
        | (go_at_call 78;have _t:=hs2_1;refine(A4.out _ (H_2_1.keeps (by with_reducible first|exact ap _|exact af _ _|exact aS _ _))).mono ?_;rintro _ y2_2 ⟨v,rfl,nb2⟩;obtain⟨q_g,q_o,q_n,q_c,q_e,rfl⟩:=bZ nb2;have hq2_2:=nb2.below;have hs2_2:Below y2_1.heap.size y2_1 y2_2:=(by with_reducible first|exact hq2_2|exact ac (af _ _) hq2_2|exact ac (aS _ _) hq2_2);have hT2_2:=ac hT2_1 hs2_2;have hC2_2:=ac hC2_1 hs2_2;have H_2_2:=H_2_1.keeps hs2_2;have np2:=na2.num.keeps hs2_2)
        | (go_at_call 78; refine (A3.out _ (H_2_0.keeps (by with_reducible first | exact ap _ | exact af _ _ | exact aS _ _))).mono ?_; rintro _ y2_1 ⟨v,rfl,na2⟩; obtain ⟨p_g,p_o,p_n,p_c,p_e,rfl⟩:=bZ na2; have hq2_1:=na2.below; have hs2_1:Below x1.drew.heap.size x1.drew y2_1:=(by with_reducible first | exact hq2_1 | exact ac (af _ _) hq2_1 | exact ac (aS _ _) hq2_1); have hT2_1:=ac hT2_0 hs2_1; have hC2_1:=ac hC2_0 hs2_1; have H_2_1:=H_2_0.keeps hs2_1))
    · exact HN2 y2_4.heap.size _ _ _ _ _ _ _ s_V (by kernel_rfl) ((ac (ac (ac (ac (hs2_0) hs2_1) hs2_2) hs2_3) hs2_4).size) (aD _ _) (ac (ac (ac (ac (ac (hs2_0) hs2_1) hs2_2) hs2_3) hs2_4) (af _ _)) (s_A.keeps (af _ _)) s_E s_B
    · exact HN2 y2_3.heap.size _ _ _ _ _ _ _ s_V (by kernel_rfl) ((ac (ac (ac (hs2_0) hs2_1) hs2_2) hs2_3).size) (aI (aI (aI (aj hq2_4 (aD _ _)) 0 _) 1 _) 2 _) (bv (ac (ac (ac (ac (hs2_0) hs2_1) hs2_2) hs2_3) hs2_4) ((ac (ac (ac (hs2_0) hs2_1) hs2_2) hs2_3).size) _ _ _) (dN s_A (aj hq2_4 (aD _ _)) _ _ _) s_E s_B
    · exact HN2 y2_2.heap.size _ _ _ _ _ _ _ s_V (by kernel_rfl) ((ac (ac (hs2_0) hs2_1) hs2_2).size) (aI (aI (aI (aj hq2_4 (aj hq2_3 (aD _ _))) 0 _) 1 _) 2 _) (bv (ac (ac (ac (ac (hs2_0) hs2_1) hs2_2) hs2_3) hs2_4) ((ac (ac (hs2_0) hs2_1) hs2_2).size) _ _ _) (dN s_A (aj hq2_4 (aj hq2_3 (aD _ _))) _ _ _) s_E s_B
    · exact HN2 y2_1.heap.size _ _ _ _ _ _ _ s_V (by kernel_rfl) ((ac (hs2_0) hs2_1).size) (aI (aI (aI (aj hq2_4 (aj hq2_3 (aj hq2_2 (aD _ _)))) 0 _) 1 _) 2 _) (bv (ac (ac (ac (ac (hs2_0) hs2_1) hs2_2) hs2_3) hs2_4) ((ac (hs2_0) hs2_1).size) _ _ _) (dN s_A (aj hq2_4 (aj hq2_3 (aj hq2_2 (aD _ _)))) _ _ _) s_E s_B
    · exact HN2 x1.heap.size _ _ _ _ _ _ _ s_V (by kernel_rfl) (Nat.le_refl _) (aI (aI (aI (aj hq2_4 (aj hq2_3 (aj hq2_2 (aj hq2_1 (dO x1 (.cells #[.bool false,.slice none 0 0,G6 0] 40)))))) 0 _) 1 _) 2 _) (bv (ac (ac (ac (ac (hs2_0) hs2_1) hs2_2) hs2_3) hs2_4) (Nat.le_refl _) _ _ _) (dN s_A (aj hq2_4 (aj hq2_3 (aj hq2_2 (aj hq2_1 (dO x1 (.cells #[.bool false,.slice none 0 0,G6 0] 40)))))) _ _ _) s_E s_B
  have KK1:∀ W,Below x0.heap.size x0 W->W.cell? ⟨w.heap.size,0,none⟩=some (.func (.func 78) #[] #[])∧W.cell? ⟨w.heap.size,3,none⟩=some (.func (.func 99) #[] #[])∧W.cell? ⟨w.heap.size+1,0,none⟩=some (G6 ax)∧W.cell? ⟨w.heap.size+2,0,none⟩=some (G6 bx)∧W.cell? ⟨w.heap.size+3,0,none⟩=some (G6 cx):=fun W hb=>⟨ar (ae k_k 0 rfl) hb,ar (ae k_k 3 rfl) hb,ar (ae a_k 0 rfl) hb,ar (ae b_k 0 rfl) hb,ar (ae c_k 0 rfl) hb⟩
  have hC1_0:=(ap x0).drew
  have hT1_0:Below w.heap.size w x0.drew:=hb0.drew
  have H_1_0:=H.keeps (ap x0).drew
  have hs1_0:=(ap x0).drew
  go_region_held3 (fun W=>W.cell? ⟨w.heap.size,0,none⟩=some (.func (.func 78) #[] #[])∧W.cell? ⟨w.heap.size,3,none⟩=some (.func (.func 99) #[] #[])∧W.cell? ⟨w.heap.size+1,0,none⟩=some (G6 ax)∧W.cell? ⟨w.heap.size+2,0,none⟩=some (G6 bx)∧W.cell? ⟨w.heap.size+3,0,none⟩=some (G6 cx))
    (with_reducible first|assumption|exact KK1 _ (af _ _).drew|exact KK1 _ hC1_0|exact KK1 _ hC1_1|exact KK1 _ hC1_2|exact KK1 _ hC1_3|exact KK1 _ hC1_4|exact KK1 _ (ac hC1_0 (af _ _))|exact KK1 _ (ac hC1_1 (af _ _))|exact KK1 _ (ac hC1_2 (af _ _))|exact KK1 _ (ac hC1_3 (af _ _))|exact KK1 _ (ac hC1_4 (af _ _))|exact KK1 _ (bv hC1_4 (Nat.le_refl _) _ _ _)|exact KK1 _ (bv hC1_4 hC1_1.size _ _ _)|exact KK1 _ (bv hC1_4 hC1_2.size _ _ _)|exact KK1 _ (bv hC1_4 hC1_3.size _ _ _)|fail)
    (first
      | (go_at_call 100;have _t:=hs1_3;refine(tp _ _ _ _ _ _ _).mono ?_;rintro _ y1_4 ⟨rfl,hq1_4⟩;have hs1_4:Below y1_3.heap.size y1_3 y1_4:=(by with_reducible first|exact hq1_4|exact ac (af _ _) hq1_4|exact ac (aS _ _) hq1_4);have hT1_4:=ac hT1_3 hs1_4;have hC1_4:=ac hC1_3 hs1_4;have H_1_4:=H_1_3.keeps hs1_4;have l_A:=ne1.keeps hs1_4;with_reducible first|(have qz1:y1_4.heap[x0.heap.size]?=some (.cells #[.bool false,.slice none 0 0,G6 0] 40 (0,0)):=aj hq1_4 (aj hq1_3 (aj hq1_2 (aj hq1_1 (dO x0 (.cells #[.bool false,.slice none 0 0,G6 0] 40)))));have cz1_0:=ae qz1 0 rfl;have zz1_0:=ah qz1 0;have cz1_1:=ae qz1 1 rfl;have zz1_1:=ah qz1 1;have cz1_2:=ae qz1 2 rfl;have zz1_2:=ah qz1 2)|(have qz1:y1_4.heap[y1_1.heap.size]?=some (.cells #[.bool false,.slice none 0 0,G6 0] 40 (0,0)):=aj hq1_4 (aj hq1_3 (aj hq1_2 (aD _ _)));have cz1_0:=ae qz1 0 rfl;have zz1_0:=ah qz1 0;have cz1_1:=ae qz1 1 rfl;have zz1_1:=ah qz1 1;have cz1_2:=ae qz1 2 rfl;have zz1_2:=ah qz1 2)|(have qz1:y1_4.heap[y1_2.heap.size]?=some (.cells #[.bool false,.slice none 0 0,G6 0] 40 (0,0)):=aj hq1_4 (aj hq1_3 (aD _ _));have cz1_0:=ae qz1 0 rfl;have zz1_0:=ah qz1 0;have cz1_1:=ae qz1 1 rfl;have zz1_1:=ah qz1 1;have cz1_2:=ae qz1 2 rfl;have zz1_2:=ah qz1 2)|(have qz1:y1_4.heap[y1_3.heap.size]?=some (.cells #[.bool false,.slice none 0 0,G6 0] 40 (0,0)):=aj hq1_4 (aD _ _);have cz1_0:=ae qz1 0 rfl;have zz1_0:=ah qz1 0;have cz1_1:=ae qz1 1 rfl;have zz1_1:=ah qz1 1;have cz1_2:=ae qz1 2 rfl;have zz1_2:=ah qz1 2)|skip)
      | (go_at_call 99;have _t:=hs1_2;refine(Lk (np1.keeps (by with_reducible first|exact ap _|exact af _ _|exact aS _ _)) (nb1.num.keeps (by with_reducible first|exact ap _|exact af _ _|exact aS _ _)) B1 B2 (by omega) (H_1_2.keeps (by with_reducible first|exact ap _|exact af _ _|exact aS _ _)).tab).mono ?_;rintro _ y1_3 ⟨v,l_V,rfl,nm1,l_E,l_B⟩;obtain⟨l_g,l_o,l_n,l_c,l_e,rfl⟩:=bZ nm1;have hq1_3:=nm1.below;have ne1:=nm1.dan.lower (Nat.le_trans hT1_2.size (by with_reducible first|exact Nat.le_refl _|exact(af _ _).size|exact(aS _ _).size));have hs1_3:Below y1_2.heap.size y1_2 y1_3:=(by with_reducible first|exact hq1_3|exact ac (af _ _) hq1_3|exact ac (aS _ _) hq1_3);have hT1_3:=ac hT1_2 hs1_3;have hC1_3:=ac hC1_2 hs1_3;have H_1_3:=H_1_2.keeps hs1_3)
      | (go_at_call 78;have _t:=hs1_1;refine(A2.out _ (H_1_1.keeps (by with_reducible first|exact ap _|exact af _ _|exact aS _ _))).mono ?_;rintro _ y1_2 ⟨v,rfl,nb1⟩;obtain⟨q_g,q_o,q_n,q_c,q_e,rfl⟩:=bZ nb1;have hq1_2:=nb1.below;have hs1_2:Below y1_1.heap.size y1_1 y1_2:=(by with_reducible first|exact hq1_2|exact ac (af _ _) hq1_2|exact ac (aS _ _) hq1_2);have hT1_2:=ac hT1_1 hs1_2;have hC1_2:=ac hC1_1 hs1_2;have H_1_2:=H_1_1.keeps hs1_2;have np1:=na1.num.keeps hs1_2)
      | (go_at_call 78; refine (A1.out _ (H_1_0.keeps (by with_reducible first | exact ap _ | exact af _ _ | exact aS _ _))).mono ?_; rintro _ y1_1 ⟨v,rfl,na1⟩; obtain ⟨p_g,p_o,p_n,p_c,p_e,rfl⟩:=bZ na1; have hq1_1:=na1.below; have hs1_1:Below x0.drew.heap.size x0.drew y1_1:=(by with_reducible first | exact hq1_1 | exact ac (af _ _) hq1_1 | exact ac (aS _ _) hq1_1); have hT1_1:=ac hT1_0 hs1_1; have hC1_1:=ac hC1_0 hs1_1; have H_1_1:=H_1_0.keeps hs1_1))
  · exact HN1 y1_4.heap.size _ _ _ _ _ _ _ l_V (by kernel_rfl) ((ac (ac (ac (ac (hs1_0) hs1_1) hs1_2) hs1_3) hs1_4).size) (aD _ _) (ac (ac (ac (ac (ac (hs1_0) hs1_1) hs1_2) hs1_3) hs1_4) (af _ _)) (l_A.keeps (af _ _)) l_E l_B
  · exact HN1 y1_3.heap.size _ _ _ _ _ _ _ l_V (by kernel_rfl) ((ac (ac (ac (hs1_0) hs1_1) hs1_2) hs1_3).size) (aI (aI (aI (aj hq1_4 (aD _ _)) 0 _) 1 _) 2 _) (bv (ac (ac (ac (ac (hs1_0) hs1_1) hs1_2) hs1_3) hs1_4) ((ac (ac (ac (hs1_0) hs1_1) hs1_2) hs1_3).size) _ _ _) (dN l_A (aj hq1_4 (aD _ _)) _ _ _) l_E l_B
  · exact HN1 y1_2.heap.size _ _ _ _ _ _ _ l_V (by kernel_rfl) ((ac (ac (hs1_0) hs1_1) hs1_2).size) (aI (aI (aI (aj hq1_4 (aj hq1_3 (aD _ _))) 0 _) 1 _) 2 _) (bv (ac (ac (ac (ac (hs1_0) hs1_1) hs1_2) hs1_3) hs1_4) ((ac (ac (hs1_0) hs1_1) hs1_2).size) _ _ _) (dN l_A (aj hq1_4 (aj hq1_3 (aD _ _))) _ _ _) l_E l_B
  · exact HN1 y1_1.heap.size _ _ _ _ _ _ _ l_V (by kernel_rfl) ((ac (hs1_0) hs1_1).size) (aI (aI (aI (aj hq1_4 (aj hq1_3 (aj hq1_2 (aD _ _)))) 0 _) 1 _) 2 _) (bv (ac (ac (ac (ac (hs1_0) hs1_1) hs1_2) hs1_3) hs1_4) ((ac (hs1_0) hs1_1).size) _ _ _) (dN l_A (aj hq1_4 (aj hq1_3 (aj hq1_2 (aD _ _)))) _ _ _) l_E l_B
  · exact HN1 x0.heap.size _ _ _ _ _ _ _ l_V (by kernel_rfl) (Nat.le_refl _) (aI (aI (aI (aj hq1_4 (aj hq1_3 (aj hq1_2 (aj hq1_1 (dO x0 (.cells #[.bool false,.slice none 0 0,G6 0] 40)))))) 0 _) 1 _) 2 _) (bv (ac (ac (ac (ac (hs1_0) hs1_1) hs1_2) hs1_3) hs1_4) (Nat.le_refl _) _ _ _) (dN l_A (aj hq1_4 (aj hq1_3 (aj hq1_2 (aj hq1_1 (dO x0 (.cells #[.bool false,.slice none 0 0,G6 0] 40)))))) _ _ _) l_E l_B
def Bs (a b c d:Int):Int:=cD (gD (aA a) (aA b) (aA c) (aA d))
def Bt (a b c d:Int):Int:=cF (gF (aA a) (aA b) (aA c) (aA d))
def LQ (a c:Int):Int:=cD (bO (aA a) (aA c))
def LR (b d:Int):Int:=cF (bO (aA b) (aA d))
theorem KO {a b c d x y:Int} (s:oJ a b x) (t:oJ c d y):Hid (∀ W,aO W->Calls prog 66 #[.agg #[G6 a,G6 b],.agg #[G6 c,G6 d]] W fun e w'=>e=.returned (.tuple #[.agg #[G6 (Bs a b c d),G6 (Bt a b c d)],G6 0])∧Below W.heap.size W w')∧yF (Bs a b c d) (Bt a b c d) (eO x y):=by
 refine⟨fun W h=>?_,(s.h.times (dT _) (dT _) (dT _) (dT _) t.h).okk⟩
 have:=KL s.lo.1 s.hi.1 t.lo.1 t.hi.1 W h
 rw[s.v,t.v] at this
 exact this
theorem PO {a b c d x y:Int} (s:oJ a b x) (t:oJ c d y):Hid (∀ W,aO W->Calls prog 95 #[.agg #[G6 a,G6 b],.agg #[G6 c,G6 d]] W fun e w'=>e=.returned (.tuple #[.agg #[G6 (LQ a c),G6 (LR b d)],G6 0])∧Below W.heap.size W w')∧yF (LQ a c) (LR b d) (x+y):=by
 refine⟨fun W h=>?_,(s.h.plus t.h).okk⟩
 have:=KI s.lo.1 s.hi.1 t.lo.1 t.hi.1 W h
 rw[s.v,t.v] at this
 exact this
def uh (a b c:Int):Int:=Bs (dZ a b) (ef a b) (dZ c b) (ef c b)
def ui (a b c:Int):Int:=Bt (dZ a b) (ef a b) (dZ c b) (ef c b)
def lE (ax ay bx by' cx cy:Int):Int:=LQ (uh ax bx cx) (uh ay by' cy)
def lF (ax ay bx by' cx cy:Int):Int:=LR (ui ax bx cx) (ui ay by' cy)
theorem tS {a b c:Int} (ra:ag a) (rb:ag b) (rc:ag c) (pa:ak a=true) (pb:ak b=true) (pc:ak c=true):yF (uh a b c) (ui a b c) (eO (aq a-aq b) (aq c-aq b)) :=
 (KO (jL (jM ra rb pa pb)) (jL (jM rc rb pc pb))).2
theorem LS {ax ay bx by' cx cy:Int} (rax:ag ax) (ray:ag ay) (rbx:ag bx) (rby:ag by') (rcx:ag cx) (rcy:ag cy) (pax:ak ax=true) (pay:ak ay=true) (pbx:ak bx=true) (pby:ak by'=true) (pcx:ak cx=true) (pcy:ak cy=true):yF (lE ax ay bx by' cx cy) (lF ax ay bx by' cx cy) (eO (aq ax-aq bx) (aq cx-aq bx)+eO (aq ay-aq by') (aq cy-aq by')) :=
 (PO (jL (tS rax rbx rcx pax pbx pcx)) (jL (tS ray rby rcy pay pby pcy))).2
theorem Iw {ax ay bx by' cx cy:Int} (rax:ag ax) (ray:ag ay) (rbx:ag bx) (rby:ag by') (rcx:ag cx) (rcy:ag cy) (pax:ak ax=true) (pay:ak ay=true) (pbx:ak bx=true) (pby:ak by'=true) (pcx:ak cx=true) (pcy:ak cy=true) (w:World) (H:aO w) :
    Calls prog 40 #[.agg #[.func (.func 67) #[] #[],.func (.func 95) #[] #[],.func (.func 68) #[] #[],.func (.func 66) #[] #[]],.agg #[G6 ax,G6 ay],.agg #[G6 bx,G6 by'],.agg #[G6 cx,G6 cy]] w fun r w'=>r=.returned (.agg #[G6 (lE ax ay bx by' cx cy),G6 (lF ax ay bx by' cx cy)])∧Below w.heap.size w w':=by
  have A1:Hid (∀ W,aO W->Calls prog 67 #[G6 ax,G6 bx] W fun r w'=>r=.returned (.agg #[G6 (dZ ax bx),G6 (ef ax bx)])∧Below W.heap.size W w'):=fun W h=>pj rax rbx pax pbx W h
  have A2:Hid (∀ W,aO W->Calls prog 67 #[G6 cx,G6 bx] W fun r w'=>r=.returned (.agg #[G6 (dZ cx bx),G6 (ef cx bx)])∧Below W.heap.size W w'):=fun W h=>pj rcx rbx pcx pbx W h
  have A3:Hid (∀ W,aO W->Calls prog 67 #[G6 ay,G6 by'] W fun r w'=>r=.returned (.agg #[G6 (dZ ay by'),G6 (ef ay by')])∧Below W.heap.size W w'):=fun W h=>pj ray rby pay pby W h
  have A4:Hid (∀ W,aO W->Calls prog 67 #[G6 cy,G6 by'] W fun r w'=>r=.returned (.agg #[G6 (dZ cy by'),G6 (ef cy by')])∧Below W.heap.size W w'):=fun W h=>pj rcy rby pcy pby W h
  have M1:=(KO (jL (jM rax rbx pax pbx)) (jL (jM rcx rbx pcx pbx))).1
  have M2:=(KO (jL (jM ray rby pay pby)) (jL (jM rcy rby pcy pby))).1
  have S1:=(PO (jL (tS rax rbx rcx pax pbx pcx)) (jL (tS ray rby rcy pay pby pcy))).1
  clear rax ray rbx rby rcx rcy pax pay pbx pby pcx pcy
  unfold lE lF
  unfold uh ui at *
  generalize LQ (Bs (dZ ax bx) (ef ax bx) (dZ cx bx) (ef cx bx)) (Bs (dZ ay by') (ef ay by') (dZ cy by') (ef cy by'))=lo at *
  generalize LR (Bt (dZ ax bx) (ef ax bx) (dZ cx bx) (ef cx bx)) (Bt (dZ ay by') (ef ay by') (dZ cy by') (ef cy by'))=hi at *
  generalize Bs (dZ ax bx) (ef ax bx) (dZ cx bx) (ef cx bx)=l0 at *
  generalize Bt (dZ ax bx) (ef ax bx) (dZ cx bx) (ef cx bx)=l1 at *
  generalize Bs (dZ ay by') (ef ay by') (dZ cy by') (ef cy by')=s0 at *
  generalize Bt (dZ ay by') (ef ay by') (dZ cy by') (ef cy by')=s1 at *
  generalize dZ ax bx=a1 at *
  generalize ef ax bx=b1 at *
  generalize dZ cx bx=a2 at *
  generalize ef cx bx=b2 at *
  generalize dZ ay by'=a3 at *
  generalize ef ay by'=b3 at *
  generalize dZ cy by'=a4 at *
  generalize ef cy by'=b4 at *
  have k_k:(w.alloc (.cells #[.func (.func 67) #[] #[],.func (.func 95) #[] #[],.func (.func 68) #[] #[],.func (.func 66) #[] #[]] 76)).heap[w.heap.size]?=some (.cells #[.func (.func 67) #[] #[],.func (.func 95) #[] #[],.func (.func 68) #[] #[],.func (.func 66) #[] #[]] 76):=aE (.cells #[.func (.func 67) #[] #[],.func (.func 95) #[] #[],.func (.func 68) #[] #[],.func (.func 66) #[] #[]] 76) (by rfl)
  have hb0:=af w (.cells #[.func (.func 67) #[] #[],.func (.func 95) #[] #[],.func (.func 68) #[] #[],.func (.func 66) #[] #[]] 76)
  replace k_k:=am (.cells #[G6 ax,G6 ay] 33) k_k
  have a_k:((w.alloc (.cells #[.func (.func 67) #[] #[],.func (.func 95) #[] #[],.func (.func 68) #[] #[],.func (.func 66) #[] #[]] 76)).alloc (.cells #[G6 ax,G6 ay] 33)).heap[w.heap.size+1]?=some (.cells #[G6 ax,G6 ay] 33):=aE (.cells #[G6 ax,G6 ay] 33) (by simp only[aw])
  replace hb0:=ac hb0 (af (w.alloc (.cells #[.func (.func 67) #[] #[],.func (.func 95) #[] #[],.func (.func 68) #[] #[],.func (.func 66) #[] #[]] 76)) (.cells #[G6 ax,G6 ay] 33))
  replace k_k:=am (.cells #[G6 bx,G6 by'] 33) k_k
  replace a_k:=am (.cells #[G6 bx,G6 by'] 33) a_k
  have b_k:(((w.alloc (.cells #[.func (.func 67) #[] #[],.func (.func 95) #[] #[],.func (.func 68) #[] #[],.func (.func 66) #[] #[]] 76)).alloc (.cells #[G6 ax,G6 ay] 33)).alloc (.cells #[G6 bx,G6 by'] 33)).heap[w.heap.size+1+1]?=some (.cells #[G6 bx,G6 by'] 33):=aE (.cells #[G6 bx,G6 by'] 33) (by simp only[aw])
  replace hb0:=ac hb0 (af ((w.alloc (.cells #[.func (.func 67) #[] #[],.func (.func 95) #[] #[],.func (.func 68) #[] #[],.func (.func 66) #[] #[]] 76)).alloc (.cells #[G6 ax,G6 ay] 33)) (.cells #[G6 bx,G6 by'] 33))
  replace k_k:=am (.cells #[G6 cx,G6 cy] 33) k_k
  replace a_k:=am (.cells #[G6 cx,G6 cy] 33) a_k
  replace b_k:=am (.cells #[G6 cx,G6 cy] 33) b_k
  have c_k:((((w.alloc (.cells #[.func (.func 67) #[] #[],.func (.func 95) #[] #[],.func (.func 68) #[] #[],.func (.func 66) #[] #[]] 76)).alloc (.cells #[G6 ax,G6 ay] 33)).alloc (.cells #[G6 bx,G6 by'] 33)).alloc (.cells #[G6 cx,G6 cy] 33)).heap[w.heap.size+1+1+1]?=some (.cells #[G6 cx,G6 cy] 33):=aE (.cells #[G6 cx,G6 cy] 33) (by simp only[aw])
  replace hb0:=ac hb0 (af (((w.alloc (.cells #[.func (.func 67) #[] #[],.func (.func 95) #[] #[],.func (.func 68) #[] #[],.func (.func 66) #[] #[]] 76)).alloc (.cells #[G6 ax,G6 ay] 33)).alloc (.cells #[G6 bx,G6 by'] 33)) (.cells #[G6 cx,G6 cy] 33))
  replace k_k:=am (.cells #[G6 0,G6 0] 72) k_k
  replace a_k:=am (.cells #[G6 0,G6 0] 72) a_k
  replace b_k:=am (.cells #[G6 0,G6 0] 72) b_k
  replace c_k:=am (.cells #[G6 0,G6 0] 72) c_k
  have r_k:(((((w.alloc (.cells #[.func (.func 67) #[] #[],.func (.func 95) #[] #[],.func (.func 68) #[] #[],.func (.func 66) #[] #[]] 76)).alloc (.cells #[G6 ax,G6 ay] 33)).alloc (.cells #[G6 bx,G6 by'] 33)).alloc (.cells #[G6 cx,G6 cy] 33)).alloc (.cells #[G6 0,G6 0] 72)).heap[w.heap.size+1+1+1+1]?=some (.cells #[G6 0,G6 0] 72):=aE (.cells #[G6 0,G6 0] 72) (by simp only[aw])
  replace hb0:=ac hb0 (af ((((w.alloc (.cells #[.func (.func 67) #[] #[],.func (.func 95) #[] #[],.func (.func 68) #[] #[],.func (.func 66) #[] #[]] 76)).alloc (.cells #[G6 ax,G6 ay] 33)).alloc (.cells #[G6 bx,G6 by'] 33)).alloc (.cells #[G6 cx,G6 cy] 33)) (.cells #[G6 0,G6 0] 72))
  go_enter func40,ntmps40
  go_wp2_with fail
  rename_i Q0 K00 hK00
  generalize (((((w.alloc (.cells #[.func (.func 67) #[] #[],.func (.func 95) #[] #[],.func (.func 68) #[] #[],.func (.func 66) #[] #[]] 76)).alloc (.cells #[G6 ax,G6 ay] 33)).alloc (.cells #[G6 bx,G6 by'] 33)).alloc (.cells #[G6 cx,G6 cy] 33)).alloc (.cells #[G6 0,G6 0] 72))=x0 at hb0 k_k a_k b_k c_k r_k ⊢
  have H:=H.keeps hb0
  have hK1:=hK00
  have HN1:∀ (g:Nat) (x1:World) (t:Array Value),#[t.getD 0 undef,t.getD 1 undef,t.getD 2 undef,t.getD 3 undef,.pointer (some ⟨w.heap.size,0,none⟩),.pointer (some ⟨w.heap.size+1,0,none⟩),.pointer (some ⟨w.heap.size+1+1,0,none⟩),.pointer (some ⟨w.heap.size+1+1+1,0,none⟩),.pointer (some ⟨w.heap.size+1+1+1+1,0,none⟩),.pointer (some ⟨g,0,none⟩),t.getD 10 undef,t.getD 11 undef,t.getD 12 undef,t.getD 13 undef,t.getD 14 undef,t.getD 15 undef,t.getD 16 undef,t.getD 17 undef,t.getD 18 undef,t.getD 19 undef,t.getD 20 undef,t.getD 21 undef,t.getD 22 undef,t.getD 23 undef,t.getD 24 undef,t.getD 25 undef,t.getD 26 undef,t.getD 27 undef,t.getD 28 undef,t.getD 29 undef,t.getD 30 undef,t.getD 31 undef,t.getD 32 undef,t.getD 33 undef,t.getD 34 undef,t.getD 35 undef,t.getD 36 undef,t.getD 37 undef,t.getD 38 undef,t.getD 39 undef,t.getD 40 undef,t.getD 41 undef,t.getD 42 undef,t.getD 43 undef,t.getD 44 undef,t.getD 45 undef,t.getD 46 undef,t.getD 47 undef,t.getD 48 undef,t.getD 49 undef,t.getD 50 undef,t.getD 51 undef,t.getD 52 undef,t.getD 53 undef,t.getD 54 undef,t.getD 55 undef,t.getD 56 undef,t.getD 57 undef,t.getD 58 undef]=t->x0.heap.size<=g->x1.heap[g]?=some (.cells #[G6 l0,G6 l1] 72 (0,0))->Below x0.heap.size x0 x1->Exit.then K00 Q0 Exit.normal { tmps:=t,defers:=[] } x1:=by
    intro g_l x1 t ht l_ge l_k hw1
    obtain⟨u1,hu⟩:∃ u:Nat->Value,t=#[u 0,u 1,u 2,u 3,.pointer (some ⟨w.heap.size,0,none⟩),.pointer (some ⟨w.heap.size+1,0,none⟩),.pointer (some ⟨w.heap.size+1+1,0,none⟩),.pointer (some ⟨w.heap.size+1+1+1,0,none⟩),.pointer (some ⟨w.heap.size+1+1+1+1,0,none⟩),.pointer (some ⟨g_l,0,none⟩),u 10,u 11,u 12,u 13,u 14,u 15,u 16,u 17,u 18,u 19,u 20,u 21,u 22,u 23,u 24,u 25,u 26,u 27,u 28,u 29,u 30,u 31,u 32,u 33,u 34,u 35,u 36,u 37,u 38,u 39,u 40,u 41,u 42,u 43,u 44,u 45,u 46,u 47,u 48,u 49,u 50,u 51,u 52,u 53,u 54,u 55,u 56,u 57,u 58]:=⟨fun k=>t.getD k undef,ht.symm⟩
    clear ht
    subst hu
    have H:=H.keeps hw1
    have k_k:=(hw1.block _ (aGe k_k).1).trans k_k
    have a_k:=(hw1.block _ (aGe a_k).1).trans a_k
    have b_k:=(hw1.block _ (aGe b_k).1).trans b_k
    have c_k:=(hw1.block _ (aGe c_k).1).trans c_k
    have r_k:=(hw1.block _ (aGe r_k).1).trans r_k
    have hb1:=ac hb0 hw1
    go_wp2_with fail
    rename_i K2 hK2
    have HN2:∀ (g:Nat) (x2:World) (t:Array Value),#[t.getD 0 undef,t.getD 1 undef,t.getD 2 undef,t.getD 3 undef,.pointer (some ⟨w.heap.size,0,none⟩),.pointer (some ⟨w.heap.size+1,0,none⟩),.pointer (some ⟨w.heap.size+1+1,0,none⟩),.pointer (some ⟨w.heap.size+1+1+1,0,none⟩),.pointer (some ⟨w.heap.size+1+1+1+1,0,none⟩),.pointer (some ⟨g_l,0,none⟩),.pointer (some ⟨g,0,none⟩),t.getD 11 undef,t.getD 12 undef,t.getD 13 undef,t.getD 14 undef,t.getD 15 undef,t.getD 16 undef,t.getD 17 undef,t.getD 18 undef,t.getD 19 undef,t.getD 20 undef,t.getD 21 undef,t.getD 22 undef,t.getD 23 undef,t.getD 24 undef,t.getD 25 undef,t.getD 26 undef,t.getD 27 undef,t.getD 28 undef,t.getD 29 undef,t.getD 30 undef,t.getD 31 undef,t.getD 32 undef,t.getD 33 undef,t.getD 34 undef,t.getD 35 undef,t.getD 36 undef,t.getD 37 undef,t.getD 38 undef,t.getD 39 undef,t.getD 40 undef,t.getD 41 undef,t.getD 42 undef,t.getD 43 undef,t.getD 44 undef,t.getD 45 undef,t.getD 46 undef,t.getD 47 undef,t.getD 48 undef,t.getD 49 undef,t.getD 50 undef,t.getD 51 undef,t.getD 52 undef,t.getD 53 undef,t.getD 54 undef,t.getD 55 undef,t.getD 56 undef,t.getD 57 undef,t.getD 58 undef]=t->x1.heap.size<=g->x2.heap[g]?=some (.cells #[G6 s0,G6 s1] 72 (0,0))->Below x1.heap.size x1 x2->Exit.then K2 Q0 Exit.normal { tmps:=t,defers:=[] } x2:=by
      intro g_s x2 t ht s_ge s_k hw2
      obtain⟨u2,hu⟩:∃ u:Nat->Value,t=#[u 0,u 1,u 2,u 3,.pointer (some ⟨w.heap.size,0,none⟩),.pointer (some ⟨w.heap.size+1,0,none⟩),.pointer (some ⟨w.heap.size+1+1,0,none⟩),.pointer (some ⟨w.heap.size+1+1+1,0,none⟩),.pointer (some ⟨w.heap.size+1+1+1+1,0,none⟩),.pointer (some ⟨g_l,0,none⟩),.pointer (some ⟨g_s,0,none⟩),u 11,u 12,u 13,u 14,u 15,u 16,u 17,u 18,u 19,u 20,u 21,u 22,u 23,u 24,u 25,u 26,u 27,u 28,u 29,u 30,u 31,u 32,u 33,u 34,u 35,u 36,u 37,u 38,u 39,u 40,u 41,u 42,u 43,u 44,u 45,u 46,u 47,u 48,u 49,u 50,u 51,u 52,u 53,u 54,u 55,u 56,u 57,u 58]:=⟨fun k=>t.getD k undef,ht.symm⟩
      clear ht
      subst hu
      have H:=H.keeps hw2
      have k_k:=(hw2.block _ (aGe k_k).1).trans k_k
      have a_k:=(hw2.block _ (aGe a_k).1).trans a_k
      have b_k:=(hw2.block _ (aGe b_k).1).trans b_k
      have c_k:=(hw2.block _ (aGe c_k).1).trans c_k
      have r_k:=(hw2.block _ (aGe r_k).1).trans r_k
      have l_k:=(hw2.block _ (aGe l_k).1).trans l_k
      have hb2:=ac hb1 hw2
      have f_k1:=ae k_k 1 rfl
      have f_l0:=ae l_k 0 rfl
      have f_l1:=ae l_k 1 rfl
      have f_s0:=ae s_k 0 rfl
      have f_s1:=ae s_k 1 rfl
      go_wp2_with fail
      clear f_k1 f_l0 f_l1 f_s0 f_s1
      refine(S1.out _ H).mono ?_
      rintro _ ye ⟨rfl,hwe⟩
      replace r_k:=aj hwe r_k
      have hbe:=ac hb2 hwe
      go_wp2_with fail
      refine(Br _ _ _ _).mono ?_
      rintro _ yf ⟨rfl,hwf⟩
      replace r_k:=aj hwf r_k
      replace hbe:=ac hbe hwf
      have k0:=ae r_k 0 rfl
      have k1:=ae r_k 1 rfl
      have z0:=ah r_k 0
      have z1:=ah r_k 1
      go_wp2
      exact bodyPost_ret (v:=.agg #[G6 lo,G6 hi]) (by simp[results,results40,go_sem,k0,k1]) rfl ⟨rfl,((hbe.setCell (p:=⟨w.heap.size+4,0,none⟩) (show w.heap.size<=w.heap.size+4 by omega) _).setCell (p:=⟨w.heap.size+4,1,none⟩) (show w.heap.size<=w.heap.size+4 by omega) _)⟩
    have KK2:∀ W,Below x1.heap.size x1 W->W.cell? ⟨w.heap.size,0,none⟩=some (.func (.func 67) #[] #[])∧W.cell? ⟨w.heap.size,3,none⟩=some (.func (.func 66) #[] #[])∧W.cell? ⟨w.heap.size+1,1,none⟩=some (G6 ay)∧W.cell? ⟨w.heap.size+2,1,none⟩=some (G6 by')∧W.cell? ⟨w.heap.size+3,1,none⟩=some (G6 cy):=fun W hb=>⟨ar (ae k_k 0 rfl) hb,ar (ae k_k 3 rfl) hb,ar (ae a_k 1 rfl) hb,ar (ae b_k 1 rfl) hb,ar (ae c_k 1 rfl) hb⟩
    have hC2_0:=(ap x1).drew
    have hT2_0:Below w.heap.size w x1.drew:=hb1.drew
    have H_2_0:=H.keeps (ap x1).drew
    have hs2_0:=(ap x1).drew
    go_region_held3 (fun W=>W.cell? ⟨w.heap.size,0,none⟩=some (.func (.func 67) #[] #[])∧W.cell? ⟨w.heap.size,3,none⟩=some (.func (.func 66) #[] #[])∧W.cell? ⟨w.heap.size+1,1,none⟩=some (G6 ay)∧W.cell? ⟨w.heap.size+2,1,none⟩=some (G6 by')∧W.cell? ⟨w.heap.size+3,1,none⟩=some (G6 cy))
      (with_reducible first|assumption|exact KK2 _ (af _ _).drew|exact KK2 _ hC2_0|exact KK2 _ hC2_1|exact KK2 _ hC2_2|exact KK2 _ hC2_3|exact KK2 _ hC2_4|exact KK2 _ (ac hC2_0 (af _ _))|exact KK2 _ (ac hC2_1 (af _ _))|exact KK2 _ (ac hC2_2 (af _ _))|exact KK2 _ (ac hC2_3 (af _ _))|exact KK2 _ (ac hC2_4 (af _ _))|exact KK2 _ (bJ (hC2_4) (Nat.le_refl _) _ _)|exact KK2 _ (bJ (hC2_4) (hC2_1.size) _ _)|exact KK2 _ (bJ (hC2_4) (hC2_2.size) _ _)|exact KK2 _ (bJ (hC2_4) (hC2_3.size) _ _)|fail)
      (first
        | (go_at_call 96;have _t:=hs2_3;refine(Br _ _ _ _).mono ?_;rintro _ y2_4 ⟨rfl,hq2_4⟩;have hs2_4:Below y2_3.heap.size y2_3 y2_4:=(by with_reducible first|exact hq2_4|exact ac (af _ _) hq2_4|exact ac (aS _ _) hq2_4);have hT2_4:=ac hT2_3 hs2_4;have hC2_4:=ac hC2_3 hs2_4;have H_2_4:=H_2_3.keeps hs2_4;with_reducible first|(have qz2:y2_4.heap[x1.heap.size]?=some (.cells #[G6 0,G6 0] 72 (0,0)):=aj hq2_4 (aj hq2_3 (aj hq2_2 (aj hq2_1 (dO x1 (.cells #[G6 0,G6 0] 72)))));have cz2_0:=ae qz2 0 rfl;have zz2_0:=ah qz2 0;have cz2_1:=ae qz2 1 rfl;have zz2_1:=ah qz2 1)|(have qz2:y2_4.heap[y2_1.heap.size]?=some (.cells #[G6 0,G6 0] 72 (0,0)):=aj hq2_4 (aj hq2_3 (aj hq2_2 (aD _ _)));have cz2_0:=ae qz2 0 rfl;have zz2_0:=ah qz2 0;have cz2_1:=ae qz2 1 rfl;have zz2_1:=ah qz2 1)|(have qz2:y2_4.heap[y2_2.heap.size]?=some (.cells #[G6 0,G6 0] 72 (0,0)):=aj hq2_4 (aj hq2_3 (aD _ _));have cz2_0:=ae qz2 0 rfl;have zz2_0:=ah qz2 0;have cz2_1:=ae qz2 1 rfl;have zz2_1:=ah qz2 1)|(have qz2:y2_4.heap[y2_3.heap.size]?=some (.cells #[G6 0,G6 0] 72 (0,0)):=aj hq2_4 (aD _ _);have cz2_0:=ae qz2 0 rfl;have zz2_0:=ah qz2 0;have cz2_1:=ae qz2 1 rfl;have zz2_1:=ah qz2 1)|skip)
        | (go_at_call 66;have _t:=hs2_2;refine(M2.out _ (H_2_2.keeps (by with_reducible first|exact ap _|exact af _ _|exact aS _ _))).mono ?_;rintro _ y2_3 ⟨rfl,hq2_3⟩;have hs2_3:Below y2_2.heap.size y2_2 y2_3:=(by with_reducible first|exact hq2_3|exact ac (af _ _) hq2_3|exact ac (aS _ _) hq2_3);have hT2_3:=ac hT2_2 hs2_3;have hC2_3:=ac hC2_2 hs2_3;have H_2_3:=H_2_2.keeps hs2_3)
        | (go_at_call 67;have _t:=hs2_1;refine(A4.out _ (H_2_1.keeps (by with_reducible first|exact ap _|exact af _ _|exact aS _ _))).mono ?_;rintro _ y2_2 ⟨rfl,hq2_2⟩;have hs2_2:Below y2_1.heap.size y2_1 y2_2:=(by with_reducible first|exact hq2_2|exact ac (af _ _) hq2_2|exact ac (aS _ _) hq2_2);have hT2_2:=ac hT2_1 hs2_2;have hC2_2:=ac hC2_1 hs2_2;have H_2_2:=H_2_1.keeps hs2_2)
        | (go_at_call 67; refine (A3.out _ (H_2_0.keeps (by with_reducible first | exact ap _ | exact af _ _ | exact aS _ _))).mono ?_; rintro _ y2_1 ⟨rfl,hq2_1⟩; have hs2_1:Below x1.drew.heap.size x1.drew y2_1:=(by with_reducible first | exact hq2_1 | exact ac (af _ _) hq2_1 | exact ac (aS _ _) hq2_1); have hT2_1:=ac hT2_0 hs2_1; have hC2_1:=ac hC2_0 hs2_1; have H_2_1:=H_2_0.keeps hs2_1))
    · exact HN2 y2_4.heap.size _ _ (by kernel_rfl) ((ac (ac (ac (ac (hs2_0) hs2_1) hs2_2) hs2_3) hs2_4).size) (aD _ _) (ac (ac (ac (ac (ac (hs2_0) hs2_1) hs2_2) hs2_3) hs2_4) (af _ _))
    · exact HN2 y2_3.heap.size _ _ (by kernel_rfl) ((ac (ac (ac (hs2_0) hs2_1) hs2_2) hs2_3).size) (aI (aI (aj hq2_4 (aD _ _)) 0 _) 1 _) (bJ (ac (ac (ac (ac (hs2_0) hs2_1) hs2_2) hs2_3) hs2_4) ((ac (ac (ac (hs2_0) hs2_1) hs2_2) hs2_3).size) _ _)
    · exact HN2 y2_2.heap.size _ _ (by kernel_rfl) ((ac (ac (hs2_0) hs2_1) hs2_2).size) (aI (aI (aj hq2_4 (aj hq2_3 (aD _ _))) 0 _) 1 _) (bJ (ac (ac (ac (ac (hs2_0) hs2_1) hs2_2) hs2_3) hs2_4) ((ac (ac (hs2_0) hs2_1) hs2_2).size) _ _)
    · exact HN2 y2_1.heap.size _ _ (by kernel_rfl) ((ac (hs2_0) hs2_1).size) (aI (aI (aj hq2_4 (aj hq2_3 (aj hq2_2 (aD _ _)))) 0 _) 1 _) (bJ (ac (ac (ac (ac (hs2_0) hs2_1) hs2_2) hs2_3) hs2_4) ((ac (hs2_0) hs2_1).size) _ _)
    · exact HN2 x1.heap.size _ _ (by kernel_rfl) (Nat.le_refl _) (aI (aI (aj hq2_4 (aj hq2_3 (aj hq2_2 (aj hq2_1 (dO x1 (.cells #[G6 0,G6 0] 72)))))) 0 _) 1 _) (bJ (ac (ac (ac (ac (hs2_0) hs2_1) hs2_2) hs2_3) hs2_4) (Nat.le_refl _) _ _)
  have KK1:∀ W,Below x0.heap.size x0 W->W.cell? ⟨w.heap.size,0,none⟩=some (.func (.func 67) #[] #[])∧W.cell? ⟨w.heap.size,3,none⟩=some (.func (.func 66) #[] #[])∧W.cell? ⟨w.heap.size+1,0,none⟩=some (G6 ax)∧W.cell? ⟨w.heap.size+2,0,none⟩=some (G6 bx)∧W.cell? ⟨w.heap.size+3,0,none⟩=some (G6 cx):=fun W hb=>⟨ar (ae k_k 0 rfl) hb,ar (ae k_k 3 rfl) hb,ar (ae a_k 0 rfl) hb,ar (ae b_k 0 rfl) hb,ar (ae c_k 0 rfl) hb⟩
  have hC1_0:=(ap x0).drew
  have hT1_0:Below w.heap.size w x0.drew:=hb0.drew
  have H_1_0:=H.keeps (ap x0).drew
  have hs1_0:=(ap x0).drew
  go_region_held3 (fun W=>W.cell? ⟨w.heap.size,0,none⟩=some (.func (.func 67) #[] #[])∧W.cell? ⟨w.heap.size,3,none⟩=some (.func (.func 66) #[] #[])∧W.cell? ⟨w.heap.size+1,0,none⟩=some (G6 ax)∧W.cell? ⟨w.heap.size+2,0,none⟩=some (G6 bx)∧W.cell? ⟨w.heap.size+3,0,none⟩=some (G6 cx))
    (with_reducible first|assumption|exact KK1 _ (af _ _).drew|exact KK1 _ hC1_0|exact KK1 _ hC1_1|exact KK1 _ hC1_2|exact KK1 _ hC1_3|exact KK1 _ hC1_4|exact KK1 _ (ac hC1_0 (af _ _))|exact KK1 _ (ac hC1_1 (af _ _))|exact KK1 _ (ac hC1_2 (af _ _))|exact KK1 _ (ac hC1_3 (af _ _))|exact KK1 _ (ac hC1_4 (af _ _))|exact KK1 _ (bJ (hC1_4) (Nat.le_refl _) _ _)|exact KK1 _ (bJ (hC1_4) (hC1_1.size) _ _)|exact KK1 _ (bJ (hC1_4) (hC1_2.size) _ _)|exact KK1 _ (bJ (hC1_4) (hC1_3.size) _ _)|fail)
    (first
      | (go_at_call 96;have _t:=hs1_3;refine(Br _ _ _ _).mono ?_;rintro _ y1_4 ⟨rfl,hq1_4⟩;have hs1_4:Below y1_3.heap.size y1_3 y1_4:=(by with_reducible first|exact hq1_4|exact ac (af _ _) hq1_4|exact ac (aS _ _) hq1_4);have hT1_4:=ac hT1_3 hs1_4;have hC1_4:=ac hC1_3 hs1_4;have H_1_4:=H_1_3.keeps hs1_4;with_reducible first|(have qz1:y1_4.heap[x0.heap.size]?=some (.cells #[G6 0,G6 0] 72 (0,0)):=aj hq1_4 (aj hq1_3 (aj hq1_2 (aj hq1_1 (dO x0 (.cells #[G6 0,G6 0] 72)))));have cz1_0:=ae qz1 0 rfl;have zz1_0:=ah qz1 0;have cz1_1:=ae qz1 1 rfl;have zz1_1:=ah qz1 1)|(have qz1:y1_4.heap[y1_1.heap.size]?=some (.cells #[G6 0,G6 0] 72 (0,0)):=aj hq1_4 (aj hq1_3 (aj hq1_2 (aD _ _)));have cz1_0:=ae qz1 0 rfl;have zz1_0:=ah qz1 0;have cz1_1:=ae qz1 1 rfl;have zz1_1:=ah qz1 1)|(have qz1:y1_4.heap[y1_2.heap.size]?=some (.cells #[G6 0,G6 0] 72 (0,0)):=aj hq1_4 (aj hq1_3 (aD _ _));have cz1_0:=ae qz1 0 rfl;have zz1_0:=ah qz1 0;have cz1_1:=ae qz1 1 rfl;have zz1_1:=ah qz1 1)|(have qz1:y1_4.heap[y1_3.heap.size]?=some (.cells #[G6 0,G6 0] 72 (0,0)):=aj hq1_4 (aD _ _);have cz1_0:=ae qz1 0 rfl;have zz1_0:=ah qz1 0;have cz1_1:=ae qz1 1 rfl;have zz1_1:=ah qz1 1)|skip)
      | (go_at_call 66;have _t:=hs1_2;refine(M1.out _ (H_1_2.keeps (by with_reducible first|exact ap _|exact af _ _|exact aS _ _))).mono ?_;rintro _ y1_3 ⟨rfl,hq1_3⟩;have hs1_3:Below y1_2.heap.size y1_2 y1_3:=(by with_reducible first|exact hq1_3|exact ac (af _ _) hq1_3|exact ac (aS _ _) hq1_3);have hT1_3:=ac hT1_2 hs1_3;have hC1_3:=ac hC1_2 hs1_3;have H_1_3:=H_1_2.keeps hs1_3)
      | (go_at_call 67;have _t:=hs1_1;refine(A2.out _ (H_1_1.keeps (by with_reducible first|exact ap _|exact af _ _|exact aS _ _))).mono ?_;rintro _ y1_2 ⟨rfl,hq1_2⟩;have hs1_2:Below y1_1.heap.size y1_1 y1_2:=(by with_reducible first|exact hq1_2|exact ac (af _ _) hq1_2|exact ac (aS _ _) hq1_2);have hT1_2:=ac hT1_1 hs1_2;have hC1_2:=ac hC1_1 hs1_2;have H_1_2:=H_1_1.keeps hs1_2)
      | (go_at_call 67; refine (A1.out _ (H_1_0.keeps (by with_reducible first | exact ap _ | exact af _ _ | exact aS _ _))).mono ?_; rintro _ y1_1 ⟨rfl,hq1_1⟩; have hs1_1:Below x0.drew.heap.size x0.drew y1_1:=(by with_reducible first | exact hq1_1 | exact ac (af _ _) hq1_1 | exact ac (aS _ _) hq1_1); have hT1_1:=ac hT1_0 hs1_1; have hC1_1:=ac hC1_0 hs1_1; have H_1_1:=H_1_0.keeps hs1_1))
  · exact HN1 y1_4.heap.size _ _ (by kernel_rfl) ((ac (ac (ac (ac (hs1_0) hs1_1) hs1_2) hs1_3) hs1_4).size) (aD _ _) (ac (ac (ac (ac (ac (hs1_0) hs1_1) hs1_2) hs1_3) hs1_4) (af _ _))
  · exact HN1 y1_3.heap.size _ _ (by kernel_rfl) ((ac (ac (ac (hs1_0) hs1_1) hs1_2) hs1_3).size) (aI (aI (aj hq1_4 (aD _ _)) 0 _) 1 _) (bJ (ac (ac (ac (ac (hs1_0) hs1_1) hs1_2) hs1_3) hs1_4) ((ac (ac (ac (hs1_0) hs1_1) hs1_2) hs1_3).size) _ _)
  · exact HN1 y1_2.heap.size _ _ (by kernel_rfl) ((ac (ac (hs1_0) hs1_1) hs1_2).size) (aI (aI (aj hq1_4 (aj hq1_3 (aD _ _))) 0 _) 1 _) (bJ (ac (ac (ac (ac (hs1_0) hs1_1) hs1_2) hs1_3) hs1_4) ((ac (ac (hs1_0) hs1_1) hs1_2).size) _ _)
  · exact HN1 y1_1.heap.size _ _ (by kernel_rfl) ((ac (hs1_0) hs1_1).size) (aI (aI (aj hq1_4 (aj hq1_3 (aj hq1_2 (aD _ _)))) 0 _) 1 _) (bJ (ac (ac (ac (ac (hs1_0) hs1_1) hs1_2) hs1_3) hs1_4) ((ac (hs1_0) hs1_1).size) _ _)
  · exact HN1 x0.heap.size _ _ (by kernel_rfl) (Nat.le_refl _) (aI (aI (aj hq1_4 (aj hq1_3 (aj hq1_2 (aj hq1_1 (dO x0 (.cells #[G6 0,G6 0] 72)))))) 0 _) 1 _) (bJ (ac (ac (ac (ac (hs1_0) hs1_1) hs1_2) hs1_3) hs1_4) (Nat.le_refl _) _ _)
theorem Un.neg {S h:Int} (u:Un S h):Un (-S) (-h):=by
 unfold Un at *
 have e:-h - -S=-(h-S):=by omega
 rw[e,Int.natAbs_neg,Int.natAbs_neg,Int.natAbs_neg]
 exact u
theorem Sn {Y V:Int} (h:81129638414606681695789005144064*Y<=18014398509481985*V) (v:0<=V):100*(9007199254740992*Y)<=201*V:=by
 have h':9007199254740992*(9007199254740992*Y)<=18014398509481985*V:=by
  have:9007199254740992*(9007199254740992*Y)=81129638414606681695789005144064*Y:=by rw[<- Int.mul_assoc];rfl
  omega
 generalize 9007199254740992*Y=a at *
 omega
theorem PT {V W:Int} (h:9007199254740992*V<=9007199254740993*W) (w:0<=W):100*V<=101*W:=by omega
theorem So {Z D:Int} (h:Un Z D):100*(D.natAbs:Int)<=101*(Z.natAbs:Int):=by
 have:=h.1
 omega
theorem Sp {T M:Int} (h:Un T M) (t:0<=T):99*T<=100*M:=by
 have:=h.1
 omega
theorem Sq {Y Y1 Y2 V W S T M d z:Int} (y:Y<=Y1+Y2) (y1:100*(9007199254740992*Y1)<=201*V) (y2:9007199254740992*Y2<=W) (vw:100*V<=101*W) (ws:100*W<=101*S) (s:0<S) (dz:100*d<=101*z) (md:M<=d) (tm:99*T<=100*M) (ts:9007199254740992*T=16*S):Y<z:=by
 have a1:9007199254740992*Y<=9007199254740992*Y1+9007199254740992*Y2:=by omega
 have a2:100*(9007199254740992*d)<=101*(9007199254740992*z):=by omega
 have a3:9007199254740992*M<=9007199254740992*d:=by omega
 have a4:99*(9007199254740992*T)<=100*(9007199254740992*M):=by omega
 have a5:9007199254740992*Y<9007199254740992*z:=by
  generalize 9007199254740992*Y=e1 at *
  generalize 9007199254740992*Y1=e2 at *
  generalize 9007199254740992*Y2=e3 at *
  generalize 9007199254740992*d=e4 at *
  generalize 9007199254740992*z=e5 at *
  generalize 9007199254740992*M=e6 at *
  generalize 9007199254740992*T=e7 at *
  omega
 omega
theorem NG {x1 y1 x2 y2 u1 v1 u2 v2 L R S D T M:Int} (h1:Un x1 u1) (h2:Un x2 u2) (h3:Un y1 v1) (h4:Un y2 v2) (hL:Un (u1*u2) L) (hR:Un (v1*v2) R) (hS:Un ((L.natAbs:Int)+(R.natAbs:Int)) S) (hD:Un (L+R) D)
  (hT:9007199254740992*T=16*S) (hM:Un T M) (h:M<=(D.natAbs:Int)):(0<x1*x2+y1*y2↔0<D)∧(x1*x2+y1*y2<0↔D<0):=by
 have e1:-v1*v2=-(v1*v2):=Int.neg_mul _ _
 have e2:-y1*y2=-(y1*y2):=Int.neg_mul _ _
 have hR':Un (-v1*v2) (-R):=by rw[e1];exact hR.neg
 have hS':Un ((L.natAbs:Int)+((-R).natAbs:Int)) S:=by rw[Int.natAbs_neg];exact hS
 obtain⟨a0,s0,s1,hX⟩:=Hi h1 h2 h3.neg h4 hL hR' hS'
 have hD':Un (L - -R) D:=by rw[Int.sub_neg];exact hD
 have eX:x1*x2+y1*y2=x1*x2 - -y1*y2:=by rw[e2,Int.sub_neg]
 rw[eX]
 generalize -v1*v2=B at *
 generalize u1*u2=A at *
 generalize x1*x2 - -y1*y2=X at *
 generalize -R=R' at *
 rcases Int.lt_or_eq_of_le s1 with c|c
 ·have v0:(0:Int)<=(A.natAbs:Int)+(B.natAbs:Int):=by omega
  have w0:(0:Int)<=(L.natAbs:Int)+(R'.natAbs:Int):=by omega
  have t0:0<=T:=by omega
  exact Sj hD' (Sq QK (Sn hX v0) (QL hL hR') (PT a0 w0) (PT s0 s1) c (So hD') h (Sp hM t0) hT)
 ·obtain⟨l,r,_,_,x⟩:=QN hL hR' (by rw[c];exact s0) hX
  rw[l,r] at hD'
  exact Pg x hD'
def Bu:Int:=4386506037058863104
theorem DQ:ag Bu:=by unfold ag Bu;omega
theorem Bv:iV Bu=1125899906842624*2^975:=Nj (n:=973) DQ (by decide) (by decide) (by decide) (by decide) (by decide)
theorem PU:Fx 972 1026 Bu:=by
 refine⟨DQ,by decide,?_,?_⟩
 ·rw[Bv]
  exact Int.dvd_trans (dI (show 972<=975 by decide)) ⟨1125899906842624,by rw[Int.mul_comm]⟩
 ·rw[Bv,Int.natAbs_mul,Int.natCast_mul]
  have e:(((2:Int)^975).natAbs:Int)=2^975:=by have:=p2 975;omega
  rw[e,show(2:Int)^1026=2^51*2^975 by rw[<- Int.pow_add]]
  exact Int.mul_le_mul_of_nonneg_right (by decide) (Int.le_of_lt (p2 975))
theorem uW {ax ay bx by' cx cy:Int} (hax:Mz ax) (hay:Mz ay) (hbx:Mz bx) (hby:Mz by') (hcx:Mz cx) (hcy:Mz cy) {P Q S D:Int} (eP:P=aP ax bx cx) (eQ:Q=aP ay by' cy) (eS:S=aF (rg P) (rg Q)) (eD:D=aF P Q) :
    (Fx 670 1381 S∧Fx 670 1381 D∧Fx 568 1334 (aC Bu S))∧(iV (aC Bu S)<=((iV D).natAbs:Int) ->
    (0<(iV ax-iV bx)*(iV cx-iV bx)+(iV ay-iV by')*(iV cy-iV by') ↔ 0<iV D)∧((iV ax-iV bx)*(iV cx-iV bx)+(iV ay-iV by')*(iV cy-iV by')<0 ↔ iV D<0)):=by
  obtain⟨f1,n1⟩:=hax.diff hbx
  obtain⟨f2,n2⟩:=hcx.diff hbx
  obtain⟨f3,n3⟩:=hay.diff hby
  obtain⟨f4,n4⟩:=hcy.diff hby
  obtain⟨l,lu,_⟩:=f1.prod f2 (by decide) (by decide) (by decide)
  obtain⟨r,ru,_⟩:=f3.prod f4 (by decide) (by decide) (by decide)
  rw[show aC (aF ax (neg bx)) (aF cx (neg bx))=P from eP.symm] at l lu
  rw[show aC (aF ay (neg by')) (aF cy (neg by'))=Q from eQ.symm] at r ru
  obtain⟨la,le⟩:=l.abs
  obtain⟨ra,re⟩:=r.abs
  obtain⟨s,su⟩:=la.sum ra (by decide)
  obtain⟨d,du⟩:=l.sum r (by decide)
  rw[le,re] at su
  rw[<- eS] at s su
  rw[<- eD] at d du
  obtain⟨m,_,T,hT,uT⟩:=PU.prod s (by decide) (by decide) (by decide)
  refine⟨⟨s,d,m⟩,fun h=>?_⟩
  have q:=p2 1074
  have q0:=Int.le_of_lt q
  have su':=su.scale q0
  rw[Int.mul_add,<- AJ q0,<- AJ q0] at su'
  have du':=du.scale q0
  rw[Int.mul_add] at du'
  have hT':9007199254740992*(2^1074*T)=16*(2^1074*iV S):=by
    rw[hT,Bv,show(2:Int)^1074=2^99*2^975 by rw[<- Int.pow_add],show(2:Int)^99=633825300114114700748351602688 by decide]
    generalize (2:Int)^975=z
    generalize iV S=x
    rw[Int.mul_assoc,Int.mul_assoc]
    generalize z*x=y
    omega
  have hM:2^1074*iV (aC Bu S)<=((2^1074*iV D).natAbs:Int):=by
    rw[AJ q0]
    exact Int.mul_le_mul_of_nonneg_left h q0
  obtain⟨r1,r2⟩:=NG n1 n2 n3 n4 lu ru su' du' hT' (uT.scale q0) hM
  rw[r1,r2]
  exact Hj q
end Go.Proofs.YtjjihmnbdeeedaaGreatDoor
