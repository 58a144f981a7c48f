/- Parts of the proof. -/
import Derived.Test.YtkkpppgfoilgmaaGreatDoorPart16
import Derived.Test.YtkkpppgfoilgmaaGreatDoorPart6
import Derived.Test.YtkkpppgfoilgmaaGreatDoorPart9
import Derived.Test.YtkkpppgfoilgmaaGreatDoorPart12
import Derived.Test.YtkkpppgfoilgmaaGreatDoorPart13
import Derived.Test.YtkkpppgfoilgmaaGreatDoorPart14
import Derived.Test.YtkkpppgfoilgmaaGreatDoorPart15
import Derived.Test.YtkkpppgfoilgmaaGreatDoorPart7
import Derived.Test.YtkkpppgfoilgmaaGreatDoorPart5
set_option maxRecDepth 100000
set_option maxHeartbeats 8000000
set_option linter.unusedVariables false
set_option linter.unusedSimpArgs false
namespace Go.Proofs.YtkkpppgfoilgmaaGreatDoor
open Go Go.Proofs.Tryz Go.RowKit Go.Proofs.YtkkpppgfoilgmaaGreatDoor.M
theorem dT {a b:Int} (ha:au a) (hb:au b) (h:aK a b=true):nn a∧nn b∧(rg a=9218868437227405312->a<0)∧(rg b=9218868437227405312->¬ b<0)∧aw a<=aw b:=by
 obtain⟨va,vb,h1,h2,h3⟩:=cW.1 h
 refine⟨⟨ha,va⟩,⟨hb,vb⟩,fun q=>?_,fun q k=>?_,h1⟩
 ·rw[iJ ha] at h2
  split at h2
  ·assumption
  ·omega
 ·rw[iJ hb,if_pos k] at h3
  omega
theorem q5 {a c:Int} (h:rg a=9218868437227405312->a<0) (k:rg c=9218868437227405312->c<0):¬ (rg a=9218868437227405312∧rg c=9218868437227405312∧decide (a<0)≠decide (c<0)):=by
 rintro⟨h1,h2,h3⟩
 exact h3 (by rw[decide_eq_true (h h1),decide_eq_true (k h2)])
theorem q6 {a c:Int} (h:rg a=9218868437227405312->¬ a<0) (k:rg c=9218868437227405312->¬ c<0):¬ (rg a=9218868437227405312∧rg c=9218868437227405312∧decide (a<0)≠decide (c<0)):=by
 rintro⟨h1,h2,h3⟩
 exact h3 (by rw[decide_eq_false (h h1),decide_eq_false (k h2)])
theorem kG {p:Int} (hp:nn p):(rg (neg p)=9218868437227405312↔rg p=9218868437227405312)∧(neg p<0↔¬ p<0):=by
 obtain⟨g1,g2⟩:=kV hp
 refine⟨by rw[g1],?_⟩
 by_cases a:neg p<0<;>by_cases b:p<0<;>simp[a,b] at g2 ⊢
theorem tb {ok:Bool} {v v':Value} (h:ok=true->v=v'):dt ok v=dt ok v':=by
 cases ok
 ·rfl
 ·rw[h rfl]
theorem zT {a b c d:Int} (ha:au a) (hb:au b) (hc:au c) (hd:au d) (w:World) (H:ax w) :
    Calls prog 8 #[bf a b,bf c d] w fun e w'=>e=.returned (.tuple #[dt (aK a b&&aK c d) (bf (a6 (bq (ag a) (ag c))) (a7 (bq (ag b) (ag d)))),.int .i64 (dO (aK a b&&aK c d))])∧Below w.heap.size w w':=by
  have hE:∀ (cap:Array Value) (w:World),(callFunc 36 cap).run prog w=.ok (.enter 36 cap) w:=by
    intro cap w
    simp[go_sem]
  have CJ:Hid (∀ W,ax W->Calls prog 35 #[bf a b,bf c d,.func (.func 36) #[] #[]] W fun e w'=>e=.returned (.tuple #[dt (aK a b&&aK c d) (bf (a6 (bq (ag a) (ag c))) (a7 (bq (ag b) (ag d)))),.int .i64 (dO (aK a b&&aK c d))])∧Below W.heap.size W w'):=fun W LW=>by
    have:=pI 36 (x:=c6 (bt a c) (cK a c)) (y:=c7 (bt b d) (cK b d)) ha hb hc hd W LW hE (fun h1 h2=>by
      obtain⟨na,nb,a1,b1,_⟩:=dT ha hb h1
      obtain⟨nc,nd,c1,d1,_⟩:=dT hc hd h2
      have p1:=jr na nc (q5 a1 c1)
      have p2:=jr nb nd (q6 b1 d1)
      exact ⟨(qZ p1.1).1,(qZ p2.1).2,fun W' _=>s9 W' (fun W''=>mV na nc p1.1 W'') (fun W''=>mV nb nd p2.1 W'')⟩)
    rw[tb (v':=bf (a6 (bq (ag a) (ag c))) (a7 (bq (ag b) (ag d))))] at this
    · exact this
    · intro hok
      rw[Bool.and_eq_true] at hok
      obtain⟨na,nb,a1,b1,_⟩:=dT ha hb hok.1
      obtain⟨nc,nd,c1,d1,_⟩:=dT hc hd hok.2
      rw[(jr na nc (q5 a1 c1)).2.1,(jr nb nd (q6 b1 d1)).2.2]
  have hx:∃ X Y,dt (aK a b&&aK c d) (bf (a6 (bq (ag a) (ag c))) (a7 (bq (ag b) (ag d))))=.agg #[.int .i64 X,.int .i64 Y]:=by
    unfold dt bf;split
    · exact⟨_,_,rfl⟩
    · exact⟨_,_,rfl⟩
  obtain⟨X,Y,hXY⟩:=hx
  rw[hXY] at CJ ⊢
  clear hXY
  unfold bf at *
  generalize dO (aK a b&&aK c d)=E at *
  obtain⟨q0,q1,q2,hs,hb3⟩:=gC w (.cells #[.int .i64 a,.int .i64 b] 23) (.cells #[.int .i64 c,.int .i64 d] 23) (.cells #[.int .i64 0,.int .i64 0] 23)
  have L2:=H.keeps hb3
  go_enter func8,ntmps8
  go_wp2_with fail
  generalize ((w.alloc (.cells #[.int .i64 a,.int .i64 b] 23)).alloc (.cells #[.int .i64 c,.int .i64 d] 23)).alloc (.cells #[.int .i64 0,.int .i64 0] 23)=wx at *
  refine(CJ.out _ L2).mono ?_
  rintro _ w1 ⟨rfl,hb4⟩
  have d2:=(hb4.block _ (aGe q2).1).trans q2
  have d3:=aj d2 0 (.int .i64 X)
  have d4:=aj d3 1 (.int .i64 Y)
  have f0:=aa d2 0 rfl
  have z0:=af d2 0
  have f1:=aa d3 1 rfl
  have z1:=af d3 1
  have e0:=aa d4 0 rfl
  have e1:=aa d4 1 rfl
  have hbe:=((ab hb3 hb4).setCell (p:=⟨w.heap.size+1+1,0,none⟩) (show w.heap.size<=w.heap.size+1+1 by omega) (.int .i64 X)).setCell (p:=⟨w.heap.size+1+1,1,none⟩) (show w.heap.size<=w.heap.size+1+1 by omega) (.int .i64 Y)
  clear d2 d3 d4 q0 q1 q2
  go_wp2
  refine bodyPost_ret (v:=.tuple #[.agg #[.int .i64 X,.int .i64 Y],.int .i64 E]) (by simp[results,results8,go_sem,e0,e1]) rfl ⟨rfl,hbe⟩
theorem zU {a b c d:Int} (ha:au a) (hb:au b) (hc:au c) (hd:au d) (w:World) (H:ax w) :
    Calls prog 26 #[bf a b,bf c d] w fun e w'=>e=.returned (.tuple #[dt (aK a b&&aK c d) (bf (a6 (bq (ag a) (bK (ag d)))) (a7 (bq (ag b) (bK (ag c))))),.int .i64 (dO (aK a b&&aK c d))])∧Below w.heap.size w w':=by
  have hE:∀ (cap:Array Value) (w:World),(callFunc 55 cap).run prog w=.ok (.enter 55 cap) w:=by
    intro cap w
    simp[go_sem]
  have CJ:Hid (∀ W,ax W->Calls prog 35 #[bf a b,bf c d,.func (.func 55) #[] #[]] W fun e w'=>e=.returned (.tuple #[dt (aK a b&&aK c d) (bf (a6 (bq (ag a) (bK (ag d)))) (a7 (bq (ag b) (bK (ag c))))),.int .i64 (dO (aK a b&&aK c d))])∧Below W.heap.size W w'):=fun W LW=>by
    have:=pI 55 (x:=c6 (bt a (neg d)) (cK a (neg d))) (y:=c7 (bt b (neg c)) (cK b (neg c))) ha hb hc hd W LW hE (fun h1 h2=>by
      obtain⟨na,nb,a1,b1,_⟩:=dT ha hb h1
      obtain⟨nc,nd,c1,d1,_⟩:=dT hc hd h2
      obtain⟨g1,g2⟩:=kG nc
      obtain⟨g3,g4⟩:=kG nd
      have p1:=jr na (cu nd).1 (q5 a1 (fun q=>g4.2 (d1 (g3.1 q))))
      have p2:=jr nb (cu nc).1 (q6 b1 (fun q k=>(g2.1 k) (c1 (g1.1 q))))
      exact ⟨(qZ p1.1).1,(qZ p2.1).2,fun W' _=>xO W' (fun W''=>qD nc nd W'') (fun W''=>s9 W'' (fun W3=>mV na (cu nd).1 p1.1 W3) (fun W3=>mV nb (cu nc).1 p2.1 W3))⟩)
    rw[tb (v':=bf (a6 (bq (ag a) (bK (ag d)))) (a7 (bq (ag b) (bK (ag c)))))] at this
    · exact this
    · intro hok
      rw[Bool.and_eq_true] at hok
      obtain⟨na,nb,a1,b1,_⟩:=dT ha hb hok.1
      obtain⟨nc,nd,c1,d1,_⟩:=dT hc hd hok.2
      obtain⟨g1,g2⟩:=kG nc
      obtain⟨g3,g4⟩:=kG nd
      rw[(jr na (cu nd).1 (q5 a1 (fun q=>g4.2 (d1 (g3.1 q))))).2.1,(jr nb (cu nc).1 (q6 b1 (fun q k=>(g2.1 k) (c1 (g1.1 q))))).2.2,k8 nd,k8 nc]
  have hx:∃ X Y,dt (aK a b&&aK c d) (bf (a6 (bq (ag a) (bK (ag d)))) (a7 (bq (ag b) (bK (ag c)))))=.agg #[.int .i64 X,.int .i64 Y]:=by
    unfold dt bf;split
    · exact⟨_,_,rfl⟩
    · exact⟨_,_,rfl⟩
  obtain⟨X,Y,hXY⟩:=hx
  rw[hXY] at CJ ⊢
  clear hXY
  unfold bf at *
  generalize dO (aK a b&&aK c d)=E at *
  obtain⟨q0,q1,q2,hs,hb3⟩:=gC w (.cells #[.int .i64 a,.int .i64 b] 23) (.cells #[.int .i64 c,.int .i64 d] 23) (.cells #[.int .i64 0,.int .i64 0] 23)
  have L2:=H.keeps hb3
  go_enter func26,ntmps26
  go_wp2_with fail
  generalize ((w.alloc (.cells #[.int .i64 a,.int .i64 b] 23)).alloc (.cells #[.int .i64 c,.int .i64 d] 23)).alloc (.cells #[.int .i64 0,.int .i64 0] 23)=wx at *
  refine(CJ.out _ L2).mono ?_
  rintro _ w1 ⟨rfl,hb4⟩
  have d2:=(hb4.block _ (aGe q2).1).trans q2
  have d3:=aj d2 0 (.int .i64 X)
  have d4:=aj d3 1 (.int .i64 Y)
  have f0:=aa d2 0 rfl
  have z0:=af d2 0
  have f1:=aa d3 1 rfl
  have z1:=af d3 1
  have e0:=aa d4 0 rfl
  have e1:=aa d4 1 rfl
  have hbe:=((ab hb3 hb4).setCell (p:=⟨w.heap.size+1+1,0,none⟩) (show w.heap.size<=w.heap.size+1+1 by omega) (.int .i64 X)).setCell (p:=⟨w.heap.size+1+1,1,none⟩) (show w.heap.size<=w.heap.size+1+1 by omega) (.int .i64 Y)
  clear d2 d3 d4 q0 q1 q2
  go_wp2
  refine bodyPost_ret (v:=.tuple #[.agg #[.int .i64 X,.int .i64 Y],.int .i64 E]) (by simp[results,results26,go_sem,e0,e1]) rfl ⟨rfl,hbe⟩
theorem Fu {a b:Int} (ha:nn a) (hb:nn b) (w:World) (H:ax w) :
  Calls prog 44 #[bU a b] w fun e w'=>e=.returned (bU (kM a b) (vN a b))∧Below w.heap.size w w':=by
 obtain⟨n0,n1⟩:=bM ha ha
 obtain⟨m0,m1⟩:=bM hb hb
 refine tA (m:=wd (bJ (cz a a) (cz b b))) w H (fun W hW=>iw ha ha W hW) (fun W hW=>iw hb hb W hW) (fun W=>io n0 n1 m0 m1 W) (wd (kM a b)) ?_
 have ka:=iJ ha.1
 have kb:=iJ hb.1
 have ra:=fd ha
 have rb:=fd hb
 have oa:(0<aw a∧FloatKind.f64.format.order (wd a) 0=some .gt)∨(aw a<=0∧(FloatKind.f64.format.order (wd a) 0=some .lt∨FloatKind.f64.format.order (wd a) 0=some .eq)):=by
  have w0:wd 0=0:=by decide
  have k0:aw 0=0:=by decide
  rcases Int.lt_trichotomy (aw a) 0 with g|g|g
  ·have:=gL ha.1 dR.1.1 ha.2 dR.1.2 (by rw[k0];exact g);rw[w0] at this;exact .inr ⟨by omega,.inl this⟩
  ·have:=gN ha.1 dR.1.1 ha.2 dR.1.2 (by rw[k0];exact g);rw[w0] at this;exact .inr ⟨by omega,.inr this⟩
  ·have:=gM ha.1 dR.1.1 ha.2 dR.1.2 (by rw[k0];exact g);rw[w0] at this;exact .inl ⟨g,this⟩
 have ob:(aw b<0∧FloatKind.f64.format.order (wd b) 0=some .lt)∨(0<=aw b∧(FloatKind.f64.format.order (wd b) 0=some .gt∨FloatKind.f64.format.order (wd b) 0=some .eq)):=by
  have w0:wd 0=0:=by decide
  have k0:aw 0=0:=by decide
  rcases Int.lt_trichotomy (aw b) 0 with g|g|g
  ·have:=gL hb.1 dR.1.1 hb.2 dR.1.2 (by rw[k0];exact g);rw[w0] at this;exact .inl ⟨g,this⟩
  ·have:=gN hb.1 dR.1.1 hb.2 dR.1.2 (by rw[k0];exact g);rw[w0] at this;exact .inr ⟨by omega,.inr this⟩
  ·have:=gM hb.1 dR.1.1 hb.2 dR.1.2 (by rw[k0];exact g);rw[w0] at this;exact .inr ⟨by omega,.inl this⟩
 rcases oa with⟨a1,a2⟩|⟨a1,a2⟩
 ·exact .inl ⟨a2,by unfold kM;rw[if_neg (by omega)]⟩
 ·rcases ob with⟨b1,b2⟩|⟨b1,b2⟩
  ·exact .inr (.inl ⟨a2,b2,by unfold kM;rw[if_neg (by omega)]⟩)
  ·exact .inr (.inr ⟨a2,b2,by unfold kM;rw[if_pos ⟨a1,b1⟩];decide⟩)
theorem zV {a b c d:Int} (ha:au a) (hb:au b) (hc:au c) (hd:au d) (w:World) (H:ax w) :
  Calls prog 27 #[bf a b,bf c d] w fun e w'=>e=.returned (.tuple #[dt (aK a b&&aK c d) (bf (a6 (eF (ag a) (ag b) (ag c) (ag d))) (a7 (eG (ag a) (ag b) (ag c) (ag d)))),.int .i64 (dO (aK a b&&aK c d))])∧Below w.heap.size w w':=by
 have:=zP ha hb hc hd w H
 rw[tb (v':=bf (a6 (eF (ag a) (ag b) (ag c) (ag d))) (a7 (eG (ag a) (ag b) (ag c) (ag d))))] at this
 ·exact this
 ·intro hok
  rw[Bool.and_eq_true] at hok
  obtain⟨na,nb,_⟩:=dT ha hb hok.1
  obtain⟨nc,nd,_⟩:=dT hc hd hok.2
  rw[(DY na nb nc nd).1,(DY na nb nc nd).2]
theorem nD {a b:Int} (ha:au a) (hb:au b) (w:World) (H:ax w) :
  Calls prog 12 #[bf a b] w fun e w'=>e=.returned (.tuple #[dt (aK a b) (bf (a6 (eH (ag a) (ag b))) (a7 (fe (ag a) (ag b)))),.int .i64 (dO (aK a b))])∧Below w.heap.size w w':=by
 have CR:Hid (∀ W,Calls prog 37 #[.agg #[.int .i64 a,.int .i64 b]] W fun e w'=>e=.returned (.agg #[.float .f64 (wd a),.float .f64 (wd b)])∧Below W.heap.size W w'):=fun W=>fF a b W
 have CV:Hid (∀ W,Calls prog 38 #[.agg #[.float .f64 (wd a),.float .f64 (wd b)]] W fun e w'=>e=.returned (.bool (aK a b))∧Below W.heap.size W w'):=fun W=>cM ha hb W
 have CS:Hid (aK a b=true->∃ x y:Int,nn x∧nn y∧(az x=a6 (eH (ag a) (ag b))∧az y=a7 (fe (ag a) (ag b)))∧∀ W,ax W->Calls prog 44 #[.agg #[.float .f64 (wd a),.float .f64 (wd b)]] W fun e w'=>e=.returned (.agg #[.float .f64 (wd x),.float .f64 (wd y)])∧Below W.heap.size W w'):=fun hv=>by
  obtain⟨na,nb,_⟩:=dT ha hb hv
  exact⟨kM a b,vN a b,(Az na nb).1,(Az na nb).2,FX na nb,fun W h=>Fu na nb W h⟩
 unfold bf
 have hb2:=ar w (.cells #[.int .i64 a,.int .i64 b] 23) (.cells #[.int .i64 0,.int .i64 0] 23)
 have q0:=aU w (.cells #[.int .i64 a,.int .i64 b] 23) (.cells #[.int .i64 0,.int .i64 0] 23)
 have q1:=aR w (.cells #[.int .i64 a,.int .i64 b] 23) (.cells #[.int .i64 0,.int .i64 0] 23)
 have hst:∀ (p:Addr) (x:Nat) (m:Mode) (w:World),(store p (.float .f64 x) m).run prog w=stored prog w p (.float .f64 x) m:=fun p x m w=>run_store _ w p _ m rfl
 cases hv:aK a b
 ·rw[hv] at CV
  clear CS
  unfold dt dO
  simp only[Bool.false_eq_true,if_false]
  go_enter func12,ntmps12
  go_wp2_with fail
  generalize (w.alloc (.cells #[.int .i64 a,.int .i64 b] 23)).alloc (.cells #[.int .i64 0,.int .i64 0] 23)=x0 at hb2 q0 q1 ⊢
  refine(CR.out _).mono ?_
  rintro _ w1 ⟨rfl,hb1⟩
  have i_k:=aB w1 (.cells #[.float .f64 (wd a),.float .f64 (wd b)] 64)
  have hc1:=aD hb1 (.cells #[.float .f64 (wd a),.float .f64 (wd b)] 64)
  have j0:=aa i_k 0 rfl
  have j1:=aa i_k 1 rfl
  go_wp2_with fail
  generalize w1.alloc (.cells #[.float .f64 (wd a),.float .f64 (wd b)] 64)=x1 at i_k hc1 j0 j1 ⊢
  refine(CV.out _).mono ?_
  rintro _ w2 ⟨rfl,hb3⟩
  have hc2:=ab hc1 hb3
  clear j0 j1
  have d2:=ac hc2 q1
  have f0:=aa d2 0 rfl
  have z0:=af d2 0
  have f1:=aa d2 1 rfl
  have z1:=af d2 1
  have d3:=aj d2 0 (.int .i64 0)
  have d4:=aj d3 1 (.int .i64 0)
  have g1:=aa d3 1 rfl
  have y1:=af d3 1
  have e0:=aa d4 0 rfl
  have e1:=aa d4 1 rfl
  have hbe:=((ab hb2 hc2).setCell (p:=⟨w.heap.size+1,0,none⟩) (show w.heap.size<=w.heap.size+1 by omega) (.int .i64 0)).setCell (p:=⟨w.heap.size+1,1,none⟩) (show w.heap.size<=w.heap.size+1 by omega) (.int .i64 0)
  clear d2 d3 d4 q0 q1 i_k
  go_wp2
  refine bodyPost_ret (v:=.tuple #[.agg #[.int .i64 0,.int .i64 0],.int .i64 1]) (by simp[results,results12,go_sem,e0,e1]) rfl ⟨rfl,hbe⟩
 ·rw[hv] at CV
  obtain⟨x,y,nx,ny,⟨ex,ey⟩,CQ⟩:=CS.out hv
  replace CQ:=aA CQ
  have CT:Hid (∀ W,ax W->Calls prog 42 #[.agg #[.float .f64 (wd x),.float .f64 (wd y)]] W fun e w'=>e=.returned (.agg #[.int .i64 (az x),.int .i64 (az y)])∧Below W.heap.size W w'):=fun W h=>iX nx ny W h.env.lays
  rw[ex,ey] at CT
  clear CS ex ey nx ny
  unfold dt dO
  simp only[if_true]
  generalize a6 (eH (ag a) (ag b))=X at *
  generalize a7 (fe (ag a) (ag b))=Y at *
  generalize wd x=x' at *
  generalize wd y=y' at *
  go_enter func12,ntmps12
  go_wp2_with fail
  generalize (w.alloc (.cells #[.int .i64 a,.int .i64 b] 23)).alloc (.cells #[.int .i64 0,.int .i64 0] 23)=x0 at hb2 q0 q1 ⊢
  refine(CR.out _).mono ?_
  rintro _ w1 ⟨rfl,hb1⟩
  have i_k:=aB w1 (.cells #[.float .f64 (wd a),.float .f64 (wd b)] 64)
  have hc1:=aD hb1 (.cells #[.float .f64 (wd a),.float .f64 (wd b)] 64)
  have j0:=aa i_k 0 rfl
  have j1:=aa i_k 1 rfl
  go_wp2_with fail
  generalize w1.alloc (.cells #[.float .f64 (wd a),.float .f64 (wd b)] 64)=x1 at i_k hc1 j0 j1 ⊢
  refine(CV.out _).mono ?_
  rintro _ w2 ⟨rfl,hb3⟩
  have i_k:=ac hb3 i_k
  have hc2:=ab hc1 hb3
  have k0:=aa i_k 0 rfl
  have k1:=aa i_k 1 rfl
  clear j0 j1
  go_wp2_with fail
  refine(CQ.out _ (H.keeps (ab hb2 hc2))).mono ?_
  rintro _ w4 ⟨rfl,hb4⟩
  have hc3:=ab hc2 hb4
  go_wp2_with fail
  refine(CT.out _ (H.keeps (ab hb2 hc3))).mono ?_
  rintro _ w5 ⟨rfl,hb5⟩
  have hc4:=ab hc3 hb5
  have d2:=ac hc4 q1
  have d3:=aj d2 0 (.int .i64 X)
  have d4:=aj d3 1 (.int .i64 Y)
  have f0:=aa d2 0 rfl
  have z0:=af d2 0
  have f1:=aa d3 1 rfl
  have z1:=af d3 1
  have e0:=aa d4 0 rfl
  have e1:=aa d4 1 rfl
  have hbe:=((ab hb2 hc4).setCell (p:=⟨w.heap.size+1,0,none⟩) (show w.heap.size<=w.heap.size+1 by omega) (.int .i64 X)).setCell (p:=⟨w.heap.size+1,1,none⟩) (show w.heap.size<=w.heap.size+1 by omega) (.int .i64 Y)
  clear d2 d3 d4 q0 q1 i_k k0 k1
  go_wp2
  refine bodyPost_ret (v:=.tuple #[.agg #[.int .i64 X,.int .i64 Y],.int .i64 0]) (by simp[results,results12,go_sem,e0,e1]) rfl ⟨rfl,hbe⟩
theorem tc {a b:Int} (ha:au a) (hb:au b) (w:World) (H:ax w) :
  Calls prog 11 #[bf a b] w fun e w'=>e=.returned (.tuple #[dt (aK a b) (bf (a6 (bK (ag b))) (a7 (bK (ag a)))),.int .i64 (dO (aK a b))])∧Below w.heap.size w w':=by
 have CR:Hid (∀ W,Calls prog 37 #[.agg #[.int .i64 a,.int .i64 b]] W fun e w'=>e=.returned (.agg #[.float .f64 (wd a),.float .f64 (wd b)])∧Below W.heap.size W w'):=fun W=>fF a b W
 have CV:Hid (∀ W,Calls prog 38 #[.agg #[.float .f64 (wd a),.float .f64 (wd b)]] W fun e w'=>e=.returned (.bool (aK a b))∧Below W.heap.size W w'):=fun W=>cM ha hb W
 have CS:Hid (aK a b=true->∃ x y:Int,nn x∧nn y∧(az x=a6 (bK (ag b))∧az y=a7 (bK (ag a)))∧∀ W,ax W->Calls prog 43 #[.agg #[.float .f64 (wd a),.float .f64 (wd b)]] W fun e w'=>e=.returned (.agg #[.float .f64 (wd x),.float .f64 (wd y)])∧Below W.heap.size W w'):=fun hv=>by
  obtain⟨na,nb,_⟩:=dT ha hb hv
  have ea:=(dF (cu na).1).2
  have eb:=(dF (cu nb).1).1
  rw[k8 na] at ea
  rw[k8 nb] at eb
  exact⟨neg b,neg a,(cu nb).1,(cu na).1,⟨eb.symm,ea.symm⟩,fun W h=>qD na nb W⟩
 unfold bf
 have hb2:=ar w (.cells #[.int .i64 a,.int .i64 b] 23) (.cells #[.int .i64 0,.int .i64 0] 23)
 have q0:=aU w (.cells #[.int .i64 a,.int .i64 b] 23) (.cells #[.int .i64 0,.int .i64 0] 23)
 have q1:=aR w (.cells #[.int .i64 a,.int .i64 b] 23) (.cells #[.int .i64 0,.int .i64 0] 23)
 have hst:∀ (p:Addr) (x:Nat) (m:Mode) (w:World),(store p (.float .f64 x) m).run prog w=stored prog w p (.float .f64 x) m:=fun p x m w=>run_store _ w p _ m rfl
 cases hv:aK a b
 ·rw[hv] at CV
  clear CS
  unfold dt dO
  simp only[Bool.false_eq_true,if_false]
  go_enter func11,ntmps11
  go_wp2_with fail
  generalize (w.alloc (.cells #[.int .i64 a,.int .i64 b] 23)).alloc (.cells #[.int .i64 0,.int .i64 0] 23)=x0 at hb2 q0 q1 ⊢
  refine(CR.out _).mono ?_
  rintro _ w1 ⟨rfl,hb1⟩
  have i_k:=aB w1 (.cells #[.float .f64 (wd a),.float .f64 (wd b)] 64)
  have hc1:=aD hb1 (.cells #[.float .f64 (wd a),.float .f64 (wd b)] 64)
  have j0:=aa i_k 0 rfl
  have j1:=aa i_k 1 rfl
  go_wp2_with fail
  generalize w1.alloc (.cells #[.float .f64 (wd a),.float .f64 (wd b)] 64)=x1 at i_k hc1 j0 j1 ⊢
  refine(CV.out _).mono ?_
  rintro _ w2 ⟨rfl,hb3⟩
  have hc2:=ab hc1 hb3
  clear j0 j1
  have d2:=ac hc2 q1
  have f0:=aa d2 0 rfl
  have z0:=af d2 0
  have f1:=aa d2 1 rfl
  have z1:=af d2 1
  have d3:=aj d2 0 (.int .i64 0)
  have d4:=aj d3 1 (.int .i64 0)
  have g1:=aa d3 1 rfl
  have y1:=af d3 1
  have e0:=aa d4 0 rfl
  have e1:=aa d4 1 rfl
  have hbe:=((ab hb2 hc2).setCell (p:=⟨w.heap.size+1,0,none⟩) (show w.heap.size<=w.heap.size+1 by omega) (.int .i64 0)).setCell (p:=⟨w.heap.size+1,1,none⟩) (show w.heap.size<=w.heap.size+1 by omega) (.int .i64 0)
  clear d2 d3 d4 q0 q1 i_k
  go_wp2
  refine bodyPost_ret (v:=.tuple #[.agg #[.int .i64 0,.int .i64 0],.int .i64 1]) (by simp[results,results11,go_sem,e0,e1]) rfl ⟨rfl,hbe⟩
 ·rw[hv] at CV
  obtain⟨x,y,nx,ny,⟨ex,ey⟩,CQ⟩:=CS.out hv
  replace CQ:=aA CQ
  have CT:Hid (∀ W,ax W->Calls prog 42 #[.agg #[.float .f64 (wd x),.float .f64 (wd y)]] W fun e w'=>e=.returned (.agg #[.int .i64 (az x),.int .i64 (az y)])∧Below W.heap.size W w'):=fun W h=>iX nx ny W h.env.lays
  rw[ex,ey] at CT
  clear CS ex ey nx ny
  unfold dt dO
  simp only[if_true]
  generalize a6 (bK (ag b))=X at *
  generalize a7 (bK (ag a))=Y at *
  generalize wd x=x' at *
  generalize wd y=y' at *
  go_enter func11,ntmps11
  go_wp2_with fail
  generalize (w.alloc (.cells #[.int .i64 a,.int .i64 b] 23)).alloc (.cells #[.int .i64 0,.int .i64 0] 23)=x0 at hb2 q0 q1 ⊢
  refine(CR.out _).mono ?_
  rintro _ w1 ⟨rfl,hb1⟩
  have i_k:=aB w1 (.cells #[.float .f64 (wd a),.float .f64 (wd b)] 64)
  have hc1:=aD hb1 (.cells #[.float .f64 (wd a),.float .f64 (wd b)] 64)
  have j0:=aa i_k 0 rfl
  have j1:=aa i_k 1 rfl
  go_wp2_with fail
  generalize w1.alloc (.cells #[.float .f64 (wd a),.float .f64 (wd b)] 64)=x1 at i_k hc1 j0 j1 ⊢
  refine(CV.out _).mono ?_
  rintro _ w2 ⟨rfl,hb3⟩
  have i_k:=ac hb3 i_k
  have hc2:=ab hc1 hb3
  have k0:=aa i_k 0 rfl
  have k1:=aa i_k 1 rfl
  clear j0 j1
  go_wp2_with fail
  refine(CQ.out _ (H.keeps (ab hb2 hc2))).mono ?_
  rintro _ w4 ⟨rfl,hb4⟩
  have hc3:=ab hc2 hb4
  go_wp2_with fail
  refine(CT.out _ (H.keeps (ab hb2 hc3))).mono ?_
  rintro _ w5 ⟨rfl,hb5⟩
  have hc4:=ab hc3 hb5
  have d2:=ac hc4 q1
  have d3:=aj d2 0 (.int .i64 X)
  have d4:=aj d3 1 (.int .i64 Y)
  have f0:=aa d2 0 rfl
  have z0:=af d2 0
  have f1:=aa d3 1 rfl
  have z1:=af d3 1
  have e0:=aa d4 0 rfl
  have e1:=aa d4 1 rfl
  have hbe:=((ab hb2 hc4).setCell (p:=⟨w.heap.size+1,0,none⟩) (show w.heap.size<=w.heap.size+1 by omega) (.int .i64 X)).setCell (p:=⟨w.heap.size+1,1,none⟩) (show w.heap.size<=w.heap.size+1 by omega) (.int .i64 Y)
  clear d2 d3 d4 q0 q1 i_k k0 k1
  go_wp2
  refine bodyPost_ret (v:=.tuple #[.agg #[.int .i64 X,.int .i64 Y],.int .i64 0]) (by simp[results,results11,go_sem,e0,e1]) rfl ⟨rfl,hbe⟩
theorem zW {w:World} {ng:Bool} {so:Option Addr} {sn sc:Nat} {e V:Int} (h:bk w (.agg #[.bool ng,.slice so sn sc,.int .i64 e]) V) (ok:cB V) (H:ax w) :
  ∀ W,Below w.heap.size w W->Calls prog 14 #[.agg #[.bool ng,.slice so sn sc,.int .i64 e]] W fun r w'=>r=.returned (.tuple #[bf (eR V) (eS V),.int .i64 0])∧Below W.heap.size W w':=by
 obtain⟨x,h1,rfl,rfl,h4⟩:=Bp h ok H
 obtain⟨r1,r2⟩:=lM (EY h1)
 rw[<- r1,<- r2]
 clear r1 r2
 intro W hb
 ·have C1:Hid (∀ W',Below W.heap.size W W'->Calls prog 47 #[.agg #[.bool x.ng,.slice so sn sc,.int .i64 e],.int .i64 1] W' fun e w'=>e=.returned (.tuple #[.int .i64 (gI 1 x).1,.bool (gI 1 x).2,.int .i64 0])∧Below W'.heap.size W' w'):=fun W' hb'=>h4 1 W' (by omega) (ab hb hb')
  have C2:Hid (∀ W',Below W.heap.size W W'->Calls prog 47 #[.agg #[.bool x.ng,.slice so sn sc,.int .i64 e],.int .i64 2] W' fun e w'=>e=.returned (.tuple #[.int .i64 (gI 2 x).1,.bool (gI 2 x).2,.int .i64 0])∧Below W'.heap.size W' w'):=fun W' hb'=>h4 2 W' (by omega) (ab hb hb')
  unfold bf
  generalize (gI 1 x).1=X at *
  generalize (gI 2 x).1=Y at *
  generalize (gI 1 x).2=o1 at *
  generalize (gI 2 x).2=o2 at *
  generalize x.ng=ng at *
  clear h4 h1 h
  have hb2:=ar W (.cells #[.bool ng,.slice so sn sc,.int .i64 e] 26) (.cells #[.int .i64 0,.int .i64 0] 23)
  have p0:=aU W (.cells #[.bool ng,.slice so sn sc,.int .i64 e] 26) (.cells #[.int .i64 0,.int .i64 0] 23)
  have p1:=aR W (.cells #[.bool ng,.slice so sn sc,.int .i64 e] 26) (.cells #[.int .i64 0,.int .i64 0] 23)
  go_enter func14,ntmps14
  go_wp2_with fail
  generalize (W.alloc (.cells #[.bool ng,.slice so sn sc,.int .i64 e] 26)).alloc (.cells #[.int .i64 0,.int .i64 0] 23)=wx at *
  refine(C1.out _ hb2).mono ?_
  rintro _ w1 ⟨rfl,hb3⟩
  have p01:=(hb3.block _ (aGe p0).1).trans p0
  have p11:=(hb3.block _ (aGe p1).1).trans p1
  have c0:=aa p01 0 rfl
  have c1:=aa p01 1 rfl
  have c2:=aa p01 2 rfl
  have hbw:=ab hb2 hb3
  go_wp2_with fail
  refine(C2.out _ hbw).mono ?_
  rintro _ w2 ⟨rfl,hb4⟩
  have d2:=(hb4.block _ (aGe p11).1).trans p11
  have d3:=aj d2 0 (.int .i64 X)
  have d4:=aj d3 1 (.int .i64 Y)
  have f0:=aa d2 0 rfl
  have z0:=af d2 0
  have f1:=aa d3 1 rfl
  have z1:=af d3 1
  have e0:=aa d4 0 rfl
  have e1:=aa d4 1 rfl
  have hbe:Below W.heap.size W ((w2.setCell ⟨W.heap.size+1,0,none⟩ (.int .i64 X)).setCell ⟨W.heap.size+1,1,none⟩ (.int .i64 Y)):=((ab hbw hb4).setCell (p:=⟨W.heap.size+1,0,none⟩) (Nat.le_succ _) _).setCell (p:=⟨W.heap.size+1,1,none⟩) (Nat.le_succ _) _
  clear p0 p1 p01 p11 c0 c1 c2 d2 d3 d4
  go_wp2
  refine bodyPost_ret (v:=.tuple #[.agg #[.int .i64 X,.int .i64 Y],.int .i64 0]) (by simp[results,results14,go_sem,e0,e1]) rfl ⟨rfl,hbe⟩
theorem ut {A B C:Int} (h:C*2^4194304=A*B):C=dW A B:=by
 unfold dW
 rw[<- h]
 exact(Int.mul_ediv_cancel _ (Int.ne_of_gt (aJ _))).symm
structure vQ (s t x:Int):Prop where
 lo:nn s
 hi:nn t
 h:cF (ag s) (ag t) x
theorem vQ.v {s t x:Int} (h:vQ s t x):aK s t=true:=h.h.vldP h.lo h.hi
theorem vQ.of {lo hi b:Int} (rb:au b) (pb:aC b=true) (h1:nn lo∧aw lo<=aw b) (h2:nn hi∧aw b<=aw hi):vQ lo hi (aF b) :=
 ⟨h1.1,h2.1,cF.of h1.1 h2.1 ⟨rb,cN rb pb⟩ pb h1.2 h2.2⟩
def cc (a b:En):Int:=if a.i≠b.i then (if a.i<b.i then -1 else 1) else if a.i≠0 then 0 else bS a.v b.v
theorem D4 {x y:Int}:bS x y<=0↔x<=y:=by
 rcases Int.lt_trichotomy x y with h|h|h
 ·rw[dD h];omega
 ·rw[fK h];omega
 ·rw[dE h];omega
theorem zX {x y:Int}:bS x y<0↔x<y:=by
 rcases Int.lt_trichotomy x y with h|h|h
 ·rw[dD h];omega
 ·rw[fK h];omega
 ·rw[dE h];omega
theorem zY {x y:Int}:0<bS x y↔y<x:=by
 rcases Int.lt_trichotomy x y with h|h|h
 ·rw[dD h];omega
 ·rw[fK h];omega
 ·rw[dE h];omega
theorem mX {a b:En} (ha:a.ok) (hb:b.ok):cc a b<=0↔a.le b:=by
 unfold cc En.le En.ok at *
 by_cases h:a.i=b.i
 ·rw[if_neg (fun k=>k h)]
  by_cases k:a.i=0
  ·rw[if_neg (fun q=>q k),D4];omega
  ·rw[if_pos k];omega
 ·rw[if_pos h]
  split<;>omega
theorem uu {a b:En} (ha:a.ok) (hb:b.ok):cc a b<0↔(a.i<b.i∨(a.i=b.i∧a.v<b.v)):=by
 unfold cc En.ok at *
 by_cases h:a.i=b.i
 ·rw[if_neg (fun k=>k h)]
  by_cases k:a.i=0
  ·rw[if_neg (fun q=>q k),zX];omega
  ·rw[if_pos k];omega
 ·rw[if_pos h]
  split<;>omega
theorem uv {a b:En} (ha:a.ok) (hb:b.ok):0<cc a b↔(b.i<a.i∨(b.i=a.i∧b.v<a.v)):=by
 unfold cc En.ok at *
 by_cases h:a.i=b.i
 ·rw[if_neg (fun k=>k h)]
  by_cases k:a.i=0
  ·rw[if_neg (fun q=>q k),zY];omega
  ·rw[if_pos k];omega
 ·rw[if_pos h]
  split<;>omega
theorem uw {a b:En} (ha:a.ok) (hb:b.ok):(aO a b).ok:=by rcases (cI a b).2.2 with q|q<;>(rw[q];assumption)
theorem ux {a b:En} (ha:a.ok) (hb:b.ok):(aW a b).ok:=by rcases (cy a b).2.2 with q|q<;>(rw[q];assumption)
theorem BT {a b:En} (ha:a.ok) (hb:b.ok):aO a b=if cc b a<0 then b else a:=by
 unfold aO
 by_cases h:b.i<a.i∨(b.i=a.i∧b.v<a.v)
 ·rw[if_pos h,if_pos ((uu hb ha).2 h)]
 ·rw[if_neg h,if_neg (fun k=>h ((uu hb ha).1 k))]
theorem BU {a b:En} (ha:a.ok) (hb:b.ok):aW a b=if 0<cc b a then b else a:=by
 unfold aW
 by_cases h:a.i<b.i∨(a.i=b.i∧a.v<b.v)
 ·rw[if_pos h,if_pos ((uv hb ha).2 h)]
 ·rw[if_neg h,if_neg (fun k=>h ((uv hb ha).1 k))]
theorem D5 {p:Int} (hp:nn p):((ag p).i=1↔aw p=9218868437227405312)∧((ag p).i=-1↔aw p=-9218868437227405312):=by
 have hr:=fd hp
 rw[iJ hp.1]
 by_cases h:rg p=9218868437227405312
 ·rw[dS h,h]
  by_cases k:p<0
  ·simp[k]
  ·simp[k]
 ·rw[dG h]
  show((0:Int)=1↔_)∧((0:Int)=-1↔_)
  split<;>omega
def vR (lo hi:Int):Bool:=!decide (aE lo=4)&&(!decide (aE hi=4)&&(!decide ((ag lo).i=1)&&(!decide ((ag hi).i=-1)&&decide (cc (ag lo) (ag hi)<=0))))
theorem pN {lo hi:Int} (hl:au lo) (hh:au hi):vR lo hi=aK lo hi:=by
 rw[Bool.eq_iff_iff,cW]
 unfold vR
 simp only[Bool.and_eq_true,Bool.not_eq_true',decide_eq_true_eq,decide_eq_false_iff_not]
 by_cases a:aE lo=4
 ·simp[a]
 ·by_cases b:aE hi=4
  ·simp[b]
  ·have na:nn lo:=⟨hl,a⟩
   have nb:nn hi:=⟨hh,b⟩
   rw[mX (aM _) (aM _),(D5 na).1,(D5 nb).2]
   have k1:=kX na
   have k2:=kX nb
   constructor
   ·rintro⟨_,_,h1,h2,h3⟩
    have:=qY na nb h3
    exact⟨a,b,this,by omega,by omega⟩
   ·rintro⟨_,_,h1,h2,h3⟩
    exact⟨a,b,by omega,by omega,iK na nb h1⟩
theorem D6 {a b c d:Int} (na:nn a) (nb:nn b) (nc:nn c) (nd:nn d) (va:aK a b=true) (vc:aK c d=true) :
  aK (bP a c) (bJ b d)=decide (cc (aW (ag a) (ag c)) (aO (ag b) (ag d))<=0)∧az (bP a c)=a6 (aW (ag a) (ag c))∧az (bJ b d)=a7 (aO (ag b) (ag d)):=by
 obtain⟨m1,m2,m3,m4⟩:=eL na nc
 obtain⟨n1,n2,n3,n4⟩:=eK nb nd
 have kl:aw (bP a c)=aw (a6 (aW (ag a) (ag c))):=by
  obtain⟨x1,x2,x3⟩:=cy (ag a) (ag c)
  have y1:=(eT x1).1
  have y2:=(eT x2).1
  have z1:aw (a6 (ag a))=aw a:=by rw[(dF na).1,(co na).1]
  have z2:aw (a6 (ag c))=aw c:=by rw[(dF nc).1,(co nc).1]
  rcases x3 with q|q<;>(rw[q] at y1 y2 ⊢;omega)
 have kh:aw (bJ b d)=aw (a7 (aO (ag b) (ag d))):=by
  obtain⟨x1,x2,x3⟩:=cI (ag b) (ag d)
  have y1:=(eT x1).2
  have y2:=(eT x2).2
  have z1:aw (a7 (ag b))=aw b:=by rw[(dF nb).2,(co nb).1]
  have z2:aw (a7 (ag d))=aw d:=by rw[(dF nd).2,(co nd).1]
  rcases x3 with q|q<;>(rw[q] at y1 y2 ⊢;omega)
 refine⟨?_,qU m1 kl,qV n1 kh⟩
 obtain⟨_,_,v1,v2,v3⟩:=cW.1 va
 obtain⟨_,_,u1,u2,u3⟩:=cW.1 vc
 rw[Bool.eq_iff_iff,cW,decide_eq_true_iff,mX (ux (aM _) (aM _)) (uw (aM _) (aM _))]
 constructor
 ·rintro⟨_,_,h,_,_⟩
  have g1:=iK na nb v1
  have g2:=iK nc nd u1
  have g3:=fun q=>iK na nd q
  have g4:=fun q=>iK nc nb q
  exact oX (kZ g1 (g3 (by omega))) (kZ (g4 (by omega)) g2)
 ·intro h
  obtain⟨x1,x2,_⟩:=cy (ag a) (ag c)
  obtain⟨y1,y2,_⟩:=cI (ag b) (ag d)
  have g1:=qY na nd ((x1.le_trans h).le_trans y2)
  have g2:=qY nc nb ((x2.le_trans h).le_trans y1)
  exact⟨m1.2,n1.2,by omega,by omega,by omega⟩
theorem D7 {a b c d:Int} (na:nn a) (nb:nn b) (nc:nn c) (nd:nn d):az (bJ a c)=a6 (aO (ag a) (ag c))∧az (bP b d)=a7 (aW (ag b) (ag d)):=by
 have A:=mF na nc (by rw[(dF na).1,(co na).1]) (by rw[(dF nc).1,(co nc).1])
 have B:=mG nb nd (by rw[(dF nb).2,(co nb).1]) (by rw[(dF nd).2,(co nd).1])
 exact⟨qU A.1 A.2,qV B.1 B.2⟩
theorem Fv {a b:Int} (na:nn a) (nb:nn b) (v:aK a b=true) :
  mJ a b=(decide (0<a5 (ag a))||(decide (a5 (ag b)<0)||(decide (a5 (ag a)=0)&&decide (a5 (ag b)=0))))∧o6 a b=if mJ a b then a5 (ag a) else 0:=by
 obtain⟨p1,p2⟩:=mW na
 obtain⟨q1,q2⟩:=mW nb
 have b1:=js (aM a)
 have b2:=js (aM b)
 obtain⟨_,_,h1,_,_⟩:=cW.1 v
 have hk:mJ a b=(decide (0<a5 (ag a))||(decide (a5 (ag b)<0)||(decide (a5 (ag a)=0)&&decide (a5 (ag b)=0)))):=by
  unfold mJ
  rw[v,Bool.true_and,Bool.eq_iff_iff]
  simp only[Bool.or_eq_true,Bool.and_eq_true,decide_eq_true_eq]
  omega
 refine⟨hk,?_⟩
 rw[hk]
 unfold o6
 rw[v]
 simp only[if_true,Bool.or_eq_true,Bool.and_eq_true,decide_eq_true_eq]
 by_cases x:0<aw a
 ·rw[if_pos x,if_pos (.inl (by omega))];omega
 ·rw[if_neg x]
  by_cases y:aw b<0
  ·rw[if_pos y,if_pos (.inr (.inl (by omega)))];omega
  ·rw[if_neg y]
   by_cases z:a5 (ag a)=0∧a5 (ag b)=0
   ·rw[if_pos (.inr (.inr z))];omega
   ·rw[if_neg (by omega)]
theorem Fw {a b V:Int} (na:nn a) (nb:nn b):sX a b (eR V) (eS V)=(decide (cc (ag a) ⟨0,V⟩ <= 0)&&decide (cc ⟨0,V⟩ (ag b)<=0)):=by
 unfold sX
 rw[Bool.eq_iff_iff,decide_eq_true_iff,Bool.and_eq_true,decide_eq_true_iff,decide_eq_true_iff,mX (aM _) (.inl rfl),mX (.inl rfl) (aM _)]
 obtain⟨h1,h2⟩:=qW V
 constructor
 ·rintro⟨k1,k2⟩
  exact⟨(iK na (gm V).1 k1).le_trans h1,h2.le_trans (iK (gm V).2 nb k2)⟩
 ·rintro⟨k1,k2⟩
  have m1:=(eT k1).1
  have m2:=(eT k2).2
  rw[(dF na).1,(co na).1] at m1
  rw[(dF nb).2,(co nb).1] at m2
  exact⟨m1,m2⟩
theorem D8 {a b:En} (ha:a.ok) (hb:b.ok) (h:a5 a<=0∧0<=a5 b):aO (aO (aq a a) (aq b b)) ⟨0,0⟩=eH a b∧aW (aW (aq a a) (aq b b)) ⟨0,0⟩=fe a b:=by
 have o1:=dP ha ha
 have o2:=dP hb hb
 have p1:=sW ha
 have p2:=sW hb
 have om:=uw o1 o2
 have oM:=ux o1 o2
 have q1:(⟨0,0⟩:En).le (aO (aq a a) (aq b b)):=kZ p1 p2
 have q2:(⟨0,0⟩:En).le (aW (aq a a) (aq b b)):=p1.le_trans (cy _ _).1
 unfold eH fe
 rw[if_pos h]
 generalize aO (aq a a) (aq b b)=m at *
 generalize aW (aq a a) (aq b b)=M at *
 unfold En.le at q1 q2
 unfold En.ok at om oM
 simp only at q1 q2
 constructor
 ·unfold aO
  split
  ·rfl
  ·rename_i k
   exact En.eq (by show m.i=0;simp only at k;omega) (by show m.v=0;simp only at k;omega)
 ·unfold aW
  rw[if_neg (by simp only;omega)]
def F2 (v:Value) (x y:Nat):Prop:=∀ g,v.ownBlock=some g->x<=g∧g<y
theorem zZ (x:Int) (h:0<=x):x.tmod 2=x % 2:=Int.tmod_eq_emod_of_nonneg h
theorem tB (x:aI) (w:World) (h:aL w x.ao x.n x.cap x.d) :
  Calls prog 20 #[x.v] w fun r w'=>r=.returned (.bool (cr x))∧Below w.heap.size w w':=by
 have hC:=fun W hb=>u7 x.ao x.n x.cap x.d W (h.keeps hb)
 have hk:cr x=gH x.ng x.d x.n x.e:=rfl
 rw[hk]
 obtain⟨ng,ao,n,cap,d,e⟩:=x
 unfold aI.v
 simp only at *
 have hl:=h.le
 have hm:=h.max
 have hb1:=ae w (.cells #[.bool ng,.slice ao n cap,.int .i64 e] 26)
 by_cases h0:n=0
 ·subst h0
  have e0:gH ng d 0 e=(!ng&&(e == 0)):=by
   by_cases he:e=0<;>cases ng<;>simp[gH,he]
  rw[e0]
  cases ng
  ·go_enter func20,ntmps20
   go_wp2
   go_ret
   exact⟨rfl,hb1⟩
  ·go_enter func20,ntmps20
   go_wp2
   go_ret
   exact⟨rfl,hb1⟩
 ·have hn0:((n:Int) == 0)=false:=by simp;omega
  cases hB:mb d n
  ·have e0:gH ng d n e=false:=by
    refine decide_eq_false fun hx=>?_
    rcases hx with⟨q,_⟩|⟨_,⟨q1,q2⟩,_⟩
    ·exact h0 q
    ·rw[jJ q1 q2] at hB;cases hB
   rw[e0]
   go_enter func20,ntmps20
   go_wp2_with fail
   refine(hC _ hb1).mono ?_
   rw[hB]
   rintro r w1 ⟨rfl,rfl⟩
   go_wp2
   go_ret
   exact⟨rfl,hb1⟩
  ·obtain⟨hn,hN⟩:=A5 hB
   obtain⟨b,off,rfl,hb,hc⟩:=h.spot (by omega)
   have c0:=(hb1.cell (p:=⟨b,off,none⟩) hb).trans (hc 0 (by omega))
   have hd0:=(hN.1 0 (by omega)).1
   have ht:=zZ (d 0) hd0
   by_cases h1:d 0 % 2=1
   ·have h1':((d 0).tmod 2 == 1)=true:=by rw[ht,h1];rfl
    by_cases h2:-1048576<=e
    ·by_cases h3:e<=1048576
     ·have e0:gH ng d n e=true:=decide_eq_true (.inr ⟨by omega,⟨hn,hN⟩,h1,h2,h3⟩)
      rw[e0]
      go_enter func20,ntmps20
      go_wp2_with fail
      refine(hC _ hb1).mono ?_
      rw[hB]
      rintro r w1 ⟨rfl,rfl⟩
      go_wp2
      go_ret
      exact⟨bF (by first|rfl|(simp;omega)),hb1⟩
     ·have e0:gH ng d n e=false:=decide_eq_false fun hx=>by rcases hx with⟨q,_⟩|⟨_,_,_,_,q⟩<;>omega
      rw[e0]
      go_enter func20,ntmps20
      go_wp2_with fail
      refine(hC _ hb1).mono ?_
      rw[hB]
      rintro r w1 ⟨rfl,rfl⟩
      go_wp2
      go_ret
      exact⟨bF (by first|rfl|(simp;omega)),hb1⟩
    ·have e0:gH ng d n e=false:=decide_eq_false fun hx=>by rcases hx with⟨q,_⟩|⟨_,_,_,q,_⟩<;>omega
     rw[e0]
     go_enter func20,ntmps20
     go_wp2_with fail
     refine(hC _ hb1).mono ?_
     rw[hB]
     rintro r w1 ⟨rfl,rfl⟩
     go_wp2
     go_ret
     exact⟨bF (by first|rfl|(simp;omega)),hb1⟩
   ·have h1':((d 0).tmod 2 == 1)=false:=by rw[ht];simp[h1]
    have e0:gH ng d n e=false:=decide_eq_false fun hx=>by rcases hx with⟨q,_⟩|⟨_,_,q,_⟩<;>omega
    rw[e0]
    go_enter func20,ntmps20
    go_wp2_with fail
    refine(hC _ hb1).mono ?_
    rw[hB]
    rintro r w1 ⟨rfl,rfl⟩
    go_wp2
    go_ret
    exact⟨bF (by first|rfl|(simp;omega)),hb1⟩
theorem lP (ng:Bool) (ao:Option Addr) (n cap:Nat) (e:Int) (w:World) (hm:n<=9223372036854775807) :
  Calls prog 73 #[.agg #[.bool ng,.slice ao n cap,.int .i64 e]] w fun r w'=>r=.returned (.int .i64 (sgn ng n))∧Below w.heap.size w w':=by
 by_cases h0:n=0
 ·subst h0
  go_enter func73,ntmps73
  go_wp2
  go_ret
  exact⟨rfl,ae _ _⟩
 ·have hn0:((n:Int) == 0)=false:=by simp;omega
  cases ng
  ·go_enter func73,ntmps73
   go_wp2
   go_ret
   exact⟨ck (by simp[sgn,h0]),ae _ _⟩
  ·go_enter func73,ntmps73
   go_wp2
   go_ret
   exact⟨ck (by simp[sgn,h0]),ae _ _⟩
def aI.opp (x:aI):aI:=⟨if x.n=0 then x.ng else !x.ng,x.ao,x.n,x.cap,x.d,x.e⟩
theorem mK (x:aI) (w:World) (hm:x.n<=9223372036854775807) :
  Calls prog 74 #[x.v] w fun r w'=>r=.returned x.opp.v∧Below w.heap.size w w':=by
 obtain⟨ng,ao,n,cap,d,e⟩:=x
 unfold aI.v aI.opp
 simp only at *
 by_cases h0:n=0
 ·subst h0
  go_enter func74,ntmps74
  go_wp2
  refine bodyPost_ret (v:=.agg #[.bool ng,.slice ao 0 cap,.int .i64 e]) (by simp[results,results74,go_sem]) rfl ⟨rfl,?_⟩
  exact ar _ _ _
 ·have hn0:(0:Int)<n:=by omega
  rw[if_neg h0]
  go_enter func74,ntmps74
  go_wp2
  refine bodyPost_ret (v:=.agg #[.bool (!ng),.slice ao n cap,.int .i64 e]) (by simp[results,results74,go_sem]) rfl ⟨rfl,?_⟩
  exact ar _ _ _
def D9 (w w':World) (V:Int) (v:Value) (er:Int):Prop:=iD w w' V v er
theorem D9.shape {w w':World} {V er:Int} {v:Value} (h:D9 w w' V v er):∃ ng so sn sc e,v=.agg #[.bool ng,.slice so sn sc,.int .i64 e]:=by
 exact iD.shape h
def bH (B:Nat) (w:World) (V:Int) (v:Value):Prop:=∃ ng s m e,v=.agg #[.bool ng,s,.int .i64 e]∧Dy V ng m e∧An B w s m
def gG (B:Nat) (w:World) (V:Int) (v:Value) (er:Int):Prop:=(cB V∧er=0∧bH B w V v)∨(¬ cB V∧er=2∧v=eD)
theorem bv.dan {w w':World} {V:Int} {v:Value} (h:bv w w' V v):bH w.heap.size w' V v:=by
 obtain⟨ng,s,m,e,h1,h2,h3⟩:=h
 exact⟨ng,s,m,e,h1,h2,h3.an⟩
theorem An.wr {B:Nat} {w w':World} {v:Value} {V:Int} {g:Nat} (h:An B w v V) (hw:Wr g w w') (hg:g<B):An B w' v V:=by
 obtain⟨t,d,h1,h2⟩:=h
 exact⟨t,d,h1.of_block fun g' hg'=>hw.block g' (h1.ge hg').2 (by have:=(h1.ge hg').1;omega),h2⟩
theorem bH.wr {B:Nat} {w w':World} {v:Value} {V:Int} {g:Nat} (h:bH B w V v) (hw:Wr g w w') (hg:g<B):bH B w' V v:=by
 obtain⟨ng,s,m,e,h1,h2,h3⟩:=h
 exact⟨ng,s,m,e,h1,h2,h3.wr hw hg⟩
theorem bH.keeps {B:Nat} {w w':World} {v:Value} {V:Int} (h:bH B w V v) (k:Below w.heap.size w w'):bH B w' V v:=by
 obtain⟨ng,s,m,e,h1,h2,h3⟩:=h
 exact⟨ng,s,m,e,h1,h2,h3.keeps k⟩
theorem bH.lower {B B':Nat} {w:World} {v:Value} {V:Int} (h:bH B w V v) (hB:B'<=B):bH B' w V v:=by
 obtain⟨ng,s,m,e,h1,h2,h3⟩:=h
 exact⟨ng,s,m,e,h1,h2,h3.lower hB⟩
theorem bH.num {B:Nat} {w:World} {v:Value} {V:Int} (h:bH B w V v):bk w v V:=by
 obtain⟨ng,s,m,e,h1,h2,h3⟩:=h
 exact⟨ng,s,m,e,h1,h2,h3.num⟩
theorem gG.wr {B:Nat} {w w':World} {v:Value} {V er:Int} {g:Nat} (h:gG B w V v er) (hw:Wr g w w') (hg:g<B):gG B w' V v er:=by
 rcases h with⟨h1,h2,h3⟩|h
 ·exact .inl ⟨h1,h2,h3.wr hw hg⟩
 ·exact .inr h
theorem gG.keeps {B:Nat} {w w':World} {v:Value} {V er:Int} (h:gG B w V v er) (k:Below w.heap.size w w'):gG B w' V v er:=by
 rcases h with⟨h1,h2,h3⟩|h
 ·exact .inl ⟨h1,h2,h3.keeps k⟩
 ·exact .inr h
theorem gG.lower {B B':Nat} {w:World} {v:Value} {V er:Int} (h:gG B w V v er) (hB:B'<=B):gG B' w V v er:=by
 rcases h with⟨h1,h2,h3⟩|h
 ·exact .inl ⟨h1,h2,h3.lower hB⟩
 ·exact .inr h
theorem gG.shape {B:Nat} {w:World} {v:Value} {V er:Int} (h:gG B w V v er):∃ ng so sn sc e,v=.agg #[.bool ng,.slice so sn sc,.int .i64 e]:=by
 rcases h with⟨_,_,ng,s,m,e,h1,_,h3⟩|⟨_,_,rfl⟩
 ·obtain⟨so,sn,sc,rfl⟩:=h3.shape
  exact⟨_,_,_,_,_,h1⟩
 ·exact⟨_,_,_,_,_,rfl⟩
theorem gG.ge {B:Nat} {w:World} {ng:Bool} {so:Option Addr} {sn sc:Nat} {e V er:Int} (h:gG B w V (.agg #[.bool ng,.slice so sn sc,.int .i64 e]) er):F2 (.slice so sn sc) B w.heap.size:=by
 intro g hg
 rcases h with⟨_,_,ng',s,m,e',h1,_,h3⟩|⟨_,_,h1⟩
 ·simp only[Value.agg.injEq,Array.mk.injEq,List.cons.injEq,Value.bool.injEq,Value.int.injEq,and_true,true_and] at h1
  obtain⟨_,h1,_⟩:=h1
  rw[<- h1] at h3
  exact h3.ge hg
 ·simp only[eD,Value.agg.injEq,Array.mk.injEq,List.cons.injEq,Value.bool.injEq,Value.int.injEq,Value.slice.injEq,and_true,true_and] at h1
  obtain⟨_,⟨rfl,_,_⟩,_⟩:=h1
  simp[Value.ownBlock] at hg
theorem bH.parts {B:Nat} {w:World} {ng:Bool} {so:Option Addr} {sn sc:Nat} {e V:Int} (h:bH B w V (.agg #[.bool ng,.slice so sn sc,.int .i64 e])):∃ m,Dy V ng m e∧An B w (.slice so sn sc) m:=by
 obtain⟨ng',s,m,e',h1,h2,h3⟩:=h
 simp only[Value.agg.injEq,Array.mk.injEq,List.cons.injEq,Value.bool.injEq,Value.int.injEq,and_true,true_and] at h1
 obtain⟨rfl,rfl,rfl⟩:=h1
 exact⟨m,h2,h3⟩
theorem z7 {w:World} {g:Bool} {so:Option Addr} {sn sc:Nat} {e S:Int} (h:bk w (.agg #[.bool g,.slice so sn sc,.int .i64 e]) S):(sn=0↔S=0)∧sn<=9223372036854775807:=by
 obtain⟨ng,s,m,e',h1,hy,ao,n,cap,d,h2,hR,hN,hv⟩:=h
 simp only[Value.agg.injEq,Array.mk.injEq,List.cons.injEq,Value.bool.injEq,Value.int.injEq,true_and,and_true] at h1
 obtain⟨rfl,rfl,rfl⟩:=h1
 simp only[Value.slice.injEq] at h2
 obtain⟨rfl,rfl,rfl⟩:=h2
 have hm:=hR.max
 have hl:=hR.le
 refine⟨?_,by omega⟩
 rw[hy.eq_zero]
 constructor
 ·intro q
  subst q
  exact hv.symm.trans rfl
 ·intro q
  rcases Nat.eq_zero_or_pos sn with z|z
  ·exact z
  ·have h1:=dH hN.1 z hN.2
   have:=bR (sn-1)
   omega
theorem BV (b:Int) (w:World) (hb:au b) (hp:aC b=true) :
  Calls prog 62 #[.int .i64 b] w fun r w'=>∃ v,r=.returned v∧bv w w' (sg (c8 b) (bO b)*pw (b7 b)) v:=by
 obtain⟨i0,i1,i2,i3⟩:=iS hp
 have hF:=fun W=>wK (bO b) W i0 (by omega)
 have hN:=fun W ao n cap d (h:aL W ao n cap d) (hd:aY d n) (hn:n<=40000)=>ku (c8 b) ao n cap d (b7 b) W h hd hn (by omega) (by omega)
 have hP:=fun W=>yM b W hb
 generalize c8 b=ng at *
 generalize b7 b=ex at *
 generalize bO b=mg at *
 rw[hp] at hP
 go_enter func62,ntmps62
 go_wp2_with fail
 refine(hP _).mono ?_
 rintro r w1 ⟨rfl,rfl⟩
 go_wp2_with fail
 refine(hF _).mono ?_
 rintro r w2 ⟨v,rfl,hA⟩
 obtain⟨so,sn,sc,d,rfl,hR,hNr,hv⟩:=hA.num
 have hsn:sn<=100:=hA.num.len (k:=100) (by have:=gW (show 3<=100 by omega);have:P 3=1237940039285380274899124224:=rfl;omega)
 have hbw:=ab (ae w _) hA.below
 go_wp2_with fail
 refine(hN _ _ _ _ _ hR hNr.1 (by omega)).mono ?_
 rw[hv]
 rintro r w3 ⟨v,rfl,hD⟩
 obtain⟨ng',s',m',e',rfl,hyy,hA2⟩:=id hD
 obtain⟨so',sn',sc',rfl⟩:=hA2.num.shape
 have q0:=((ab hA.below hD.below).block w.heap.size (by rw[gU];omega)).trans (aB _ _)
 have x0:=aa q0 0 rfl
 have x1:=aa q0 1 rfl
 have x2:=aa q0 2 rfl
 have z0:=af q0 0
 have z1:=af q0 1
 have z2:=af q0 2
 go_wp2
 refine bodyPost_ret (v:=.agg #[.bool ng',.slice so' sn' sc',.int .i64 e']) (by simp[results,results62,go_sem,x0,x1,x2]) rfl ⟨_,rfl,?_⟩
 exact cD (g:=w.heap.size) hD hbw (Nat.le_refl _) (Nat.lt_of_lt_of_le (by rw[gU];omega) hA.below.size) _ _ _
theorem xP (x y:aI) (w:World) (hx:aL w x.ao x.n x.cap x.d) (hy:aL w y.ao y.n y.cap y.d) (sx:ju x) (sy:ju y) :
  Calls prog 75 #[x.v,y.v] w fun r w'=>∃ v,r=.returned v∧bv w w' (lB x y) v:=by
 have hV:lB x y=sg (x.ng != y.ng) (val x.d x.n*val y.d y.n)*pw (x.e+y.e):=rfl
 have he:-4194304<=x.e+y.e∧x.e+y.e<=4194304:=by have:=sx.2.2.1;have:=sy.2.2.1;have:=sx.2.2.2;have:=sy.2.2.2;omega
 have hlen:val x.d x.n*val y.d y.n<P 10000:=by
  have a1:=bX sx.1.1
  have a2:=bX sy.1.1
  have b1:=aP sx.1.1
  have b2:=aP sy.1.1
  have c1:val x.d x.n*val y.d y.n<=P x.n*val y.d y.n:=Int.mul_le_mul_of_nonneg_right (by omega) b2
  have c2:P x.n*val y.d y.n<P x.n*P y.n:=Int.mul_lt_mul_of_pos_left a2 (bR _)
  rw[<- ki] at c2
  have:=gW (show x.n+y.n<=10000 by have:=sx.2.1;have:=sy.2.1;omega)
  omega
 obtain⟨an,ao,n,ca,a,e⟩:=x
 obtain⟨bn,bo,m,cb,b,f⟩:=y
 obtain⟨s1,s2,s3,s4⟩:=sx
 obtain⟨t1,t2,t3,t4⟩:=sy
 unfold aI.v
 simp only at *
 rw[hV]
 clear hV
 generalize hVV:sg (an != bn) (val a n*val b m)*pw (e+f)=V
 have HVV:Hid (sg (an != bn) (val a n*val b m)*pw (e+f)=V):=hVV
 clear hVV
 have hw:IntKind.i64.wrap (e+f)=e+f:=by rw[a9];omega
 have hb3:=eg w (.cells #[.bool an,.slice ao n ca,.int .i64 e] 26) (.cells #[.bool bn,.slice bo m cb,.int .i64 f] 26) (.cells #[.bool false,.slice none 0 0,.int .i64 0] 26)
 have g0:=gJ w (.cells #[.bool an,.slice ao n ca,.int .i64 e] 26) (.cells #[.bool bn,.slice bo m cb,.int .i64 f] 26) (.cells #[.bool false,.slice none 0 0,.int .i64 0] 26)
 have g1:=gK w (.cells #[.bool an,.slice ao n ca,.int .i64 e] 26) (.cells #[.bool bn,.slice bo m cb,.int .i64 f] 26) (.cells #[.bool false,.slice none 0 0,.int .i64 0] 26)
 have g2:=jV w (.cells #[.bool an,.slice ao n ca,.int .i64 e] 26) (.cells #[.bool bn,.slice bo m cb,.int .i64 f] 26) (.cells #[.bool false,.slice none 0 0,.int .i64 0] 26)
 have hs3:=qQ w (.cells #[.bool an,.slice ao n ca,.int .i64 e] 26) (.cells #[.bool bn,.slice bo m cb,.int .i64 f] 26) (.cells #[.bool false,.slice none 0 0,.int .i64 0] 26)
 go_enter func75,ntmps75
 go_wp2_with fail
 have HX:=hx.keeps hb3
 have HY:=hy.keeps hb3
 generalize ((w.alloc (.cells #[.bool an,.slice ao n ca,.int .i64 e] 26)).alloc (.cells #[.bool bn,.slice bo m cb,.int .i64 f] 26)).alloc (.cells #[.bool false,.slice none 0 0,.int .i64 0] 26)=wx at hb3 g0 g1 g2 hs3 HX HY ⊢
 have k0:=aa g0 0 rfl
 have k1:=aa g0 1 rfl
 have k2:=aa g0 2 rfl
 have j0:=aa g1 0 rfl
 have j1:=aa g1 1 rfl
 have j2:=aa g1 2 rfl
 have hb1:=ap wx
 have C1:∀ W,Below wx.heap.size wx W->Calls prog 96 #[.slice ao n ca,.slice bo m cb] W fun r w'=>∃ so sn sc,r=.returned (.slice so sn sc)∧cd W w' (val a n*val b m) (.slice so sn sc)∧Below W.heap.size W w':=fun W h=>by
  refine(yH ao bo n m ca cb a b W (HX.keeps h) (HY.keeps h) s1 t1 (by omega) (by omega)).mono ?_
  rintro r w' ⟨v,rfl,hA⟩
  obtain⟨so,sn,sc,rfl⟩:=hA.num.shape
  exact⟨so,sn,sc,rfl,hA,hA.below⟩
 have C2:∀ W so sn sc,bd W (.slice so sn sc) (val a n*val b m)->Calls prog 80 #[.bool (!(an == bn)),.slice so sn sc,.int .i64 (e+f)] W fun r w'=>∃ ng s1 s2 s3 e1,r=.returned (.agg #[.bool ng,.slice s1 s2 s3,.int .i64 e1])∧bv W w' V (.agg #[.bool ng,.slice s1 s2 s3,.int .i64 e1])∧Below W.heap.size W w':=fun W so sn sc hN=>by
  have hsn:sn<=10000:=hN.len hlen
  obtain⟨ao',n',ca',d,e1,hR,h2,h3⟩:=hN
  simp only[Value.slice.injEq] at e1
  obtain⟨rfl,rfl,rfl⟩:=e1
  refine(ku (an != bn) _ _ _ d (e+f) W hR h2.1 (by omega) (by omega) (by omega)).mono ?_
  rw[h3,HVV.out]
  rintro r w' ⟨v,rfl,hD⟩
  obtain⟨ng,s,m',e1,rfl,_,hA⟩:=id hD
  obtain⟨q1,q2,q3,rfl⟩:=hA.num.shape
  exact⟨ng,q1,q2,q3,e1,rfl,hD,hD.below⟩
 clear hlen
 go_region_held3 (fun W=>(W.cell? ⟨w.heap.size,0,none⟩=some (.bool an)∧W.cell? ⟨w.heap.size,1,none⟩=some (.slice ao n ca)∧W.cell? ⟨w.heap.size,2,none⟩=some (.int .i64 e))∧W.cell? ⟨w.heap.size+1,0,none⟩=some (.bool bn)∧W.cell? ⟨w.heap.size+1,1,none⟩=some (.slice bo m cb)∧W.cell? ⟨w.heap.size+1,2,none⟩=some (.int .i64 f))
  (first|assumption|exact⟨⟨k0,k1,k2⟩,j0,j1,j2⟩|exact aQ (W:=wx.drew) hbv1 ⟨⟨k0,k1,k2⟩,j0,j1,j2⟩|exact aQ hbv2 (aQ (W:=wx.drew) hbv1 ⟨⟨k0,k1,k2⟩,j0,j1,j2⟩)|exact⟨dI (aQ hbv2 (aQ (W:=wx.drew) hbv1 ⟨⟨k0,k1,k2⟩,j0,j1,j2⟩)).1 (by omega) _ _ _,dI (aQ hbv2 (aQ (W:=wx.drew) hbv1 ⟨⟨k0,k1,k2⟩,j0,j1,j2⟩)).2 (by omega) _ _ _⟩)
  (first|(go_at_call 80;refine(C2 _ _ _ _ hv1.num).mono ?_;rintro y w4 ⟨ng4,o4,n4,c4,e4,rfl,hv2,hbv2⟩;have q0:=((ab hbv1 hbv2).block (w.heap.size+2) (by show _<wx.heap.size;omega)).trans g2;have x0:=aa q0 0 rfl;have x1:=aa q0 1 rfl;have x2:=aa q0 2 rfl;have z0:=af q0 0;have z1:=af q0 1;have z2:=af q0 2)|(go_at_call 96;refine(C1 _ hb1.drew).mono ?_;rintro y w3 ⟨so,sn,sc,rfl,hv1,hbv1⟩))
 all_goals go_wp2
 all_goals
  refine bodyPost_ret (v:=.agg #[.bool ng4,.slice o4 n4 c4,.int .i64 e4]) (by simp[results,results75,go_sem,x0,x1,x2]) rfl ⟨_,rfl,?_⟩
  exact cD (g:=w.heap.size+2) hv2 (ab hb3 (ab hb1.drew hbv1)) (by omega) (Nat.lt_of_lt_of_le (show _<wx.heap.size by omega) hbv1.size) _ _ _
end Go.Proofs.YtkkpppgfoilgmaaGreatDoor
