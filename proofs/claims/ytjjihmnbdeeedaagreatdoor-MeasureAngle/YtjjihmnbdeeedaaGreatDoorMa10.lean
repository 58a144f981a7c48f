/- Parts of the proof. -/
import Derived.Test.YtjjihmnbdeeedaaGreatDoorMa9
import Derived.Test.YtjjihmnbdeeedaaGreatDoorMa4
import Derived.Test.YtjjihmnbdeeedaaGreatDoorMa8
import Derived.Test.YtjjihmnbdeeedaaGreatDoorMa5
import Derived.Test.YtjjihmnbdeeedaaGreatDoorMa6
import Derived.Test.YtjjihmnbdeeedaaGreatDoorMa2
import Derived.Test.YtjjihmnbdeeedaaGreatDoorMa3
import Derived.Maps.AppendAt
import Derived.Laws.AppendOwnNone
import Derived.Deep.RegionHeld3
set_option maxRecDepth 100000
set_option maxHeartbeats 8000000
set_option linter.unusedVariables false
set_option linter.unusedSimpArgs false
namespace Go.Proofs.YtjjihmnbdeeedaaGreatDoor
open Go Go.Proofs.Tryz Go.RowKit Go.Proofs.YtjjihmnbdeeedaaGreatDoor.M
theorem Hv (F G:Nat) (oo:Option Addr) (n cap:Nat) (d V:Nat->Int) (w:World) (hR:aU w oo n cap d) (hn:n<=100000) (K:Nat) (hK:K<n)
  (hEF:∀ (cap:Array Value) (w:World),(callFunc F cap).run prog w=.ok (.enter F cap) w)
  (C:∀ i,i<K->∀ W,Below w.heap.size w W->Calls prog F #[G6 (d i)] W fun r w'=>∃ v,r=.returned (.tuple #[v,G6 0])∧bw W w' (V i) v)
  (CN:∀ W,Below w.heap.size w W->Calls prog F #[G6 (d K)] W fun r w'=>r=.returned (.tuple #[.agg #[.bool false,.slice none 0 0,G6 0],G6 10])∧Below W.heap.size W w') :
  Calls prog 329 #[.agg #[.func (.func F) #[] #[],.func (.func G) #[] #[]],.slice oo n cap] w fun x w'=>x=.returned (.tuple #[.slice none 0 0,.bool false])∧Below w.heap.size w w':=by
 have hle:=hR.le
 have hma:=hR.max
 have hmake:=yu n hn
 have hst:∀ (p:Addr) (F:Nat) (m:Mode) (w:World),(store p (.func (.func F) #[] #[]) m).run prog w=stored prog w p (.func (.func F) #[] #[]) m:=fun p F m w=>run_store _ w p _ m rfl
 have ha1:=af w (.cells #[.func (.func F) #[] #[],.func (.func G) #[] #[]] 294)
 have q1:=heap_alloc_new w (.cells #[.func (.func F) #[] #[],.func (.func G) #[] #[]] 294)
 have k0:=ae q1 0 rfl
 have k1:=ae q1 1 rfl
 go_enter func329,ntmps329
 go_wp2_with fail
 have hb0:=aM w (.cells #[.func (.func F) #[] #[],.func (.func G) #[] #[]] 294) (.cells (madeCells #[.bool false,.slice none 0 0,G6 0] (n*3)) 40)
 have g1:=cZ w (.cells #[.func (.func F) #[] #[],.func (.func G) #[] #[]] 294) (.cells (madeCells #[.bool false,.slice none 0 0,G6 0] (n*3)) 40)
 have g0:=ew w (.cells #[.func (.func F) #[] #[],.func (.func G) #[] #[]] 294) (.cells (madeCells #[.bool false,.slice none 0 0,G6 0] (n*3)) 40)
 have HB0:Hid (oF ((w.alloc (.cells #[.func (.func F) #[] #[],.func (.func G) #[] #[]] 294)).alloc (.cells (madeCells #[.bool false,.slice none 0 0,G6 0] (n*3)) 40)) (w.heap.size+1) n 0 (fun _=>⟨false,none,0,0,fun _=>0,0⟩)):=⟨_,g1,by rw[size_madeCells],fun i hi=>by omega⟩
 clear g1 hmake q1 k0 k1 ha1
 generalize (w.alloc (.cells #[.func (.func F) #[] #[],.func (.func G) #[] #[]] 294)).alloc (.cells (madeCells #[.bool false,.slice none 0 0,G6 0] (n*3)) 40)=wx at hb0 HB0 g0 ⊢
 go_loopw [16] (fun iv wr=>∃ (k:Nat) (q:Nat->aW),k<=K∧iv=G6 k∧Hid (oF wr (w.heap.size+1) n k q)∧Hid (∀ i,i<k->cT (q i).d (q i).n∧Dy (V i) (q i).ng (val (q i).d (q i).n) (q i).e)∧Hid (∀ i b' off,i<k->(q i).ao=some ⟨b',off,none⟩->0<(q i).n->w.heap.size+1<b')∧Hid (wr.heap[w.heap.size]?=some (.cells #[.func (.func F) #[] #[],.func (.func G) #[] #[]] 294 (0,0)))∧Below w.heap.size w wr) (fun iv _=>n-(intOf iv).toNat)
 case atStart=>exact⟨0,_,Nat.zero_le _,rfl,HB0,fun i hi=>by omega,fun i b' off hi=>by omega,g0,hb0⟩
 case round=>
  obtain⟨k,q,hk,rfl,HQ,HF,HG,HK,hbw⟩:=hrel
  clear HB0 hb0 g0
  have hlt:k<n:=by omega
  by_cases hltK:k<K
  ·obtain⟨ba,oa,rfl,hba,hca⟩:=hR.spot (by omega)
   have c0:=(hbw.cell (p:=⟨ba,oa+k,none⟩) hba).trans (hca k hlt)
   have CF:=C k hltK
   have kf:=ae HK.out 0 rfl
   obtain⟨cur,hcur,hsz,hcells⟩:=HQ.out
   have e0:k*3<cur.size:=by omega
   have e1:k*3+1<cur.size:=by omega
   have e2:k*3+2<cur.size:=by omega
   obtain⟨v0,hv0⟩:∃ v,cur[k*3]?=some v:=⟨_,Array.getElem?_eq_getElem e0⟩
   obtain⟨v1,hv1⟩:∃ v,cur[k*3+1]?=some v:=⟨_,Array.getElem?_eq_getElem e1⟩
   obtain⟨v2,hv2⟩:∃ v,cur[k*3+2]?=some v:=⟨_,Array.getElem?_eq_getElem e2⟩
   have HV:Hid (cur[k*3]?=some v0∧cur[k*3+1]?=some v1∧cur[k*3+2]?=some v2):=⟨hv0,hv1,hv2⟩
   have HCUR:Hid (wr.heap[w.heap.size+1]?=some (.cells cur 40 (0,0))):=hcur
   have hgs:w.heap.size+1<wr.heap.size:=(aGe hcur).1
   clear hcells hv0 hv1 hv2 hcur hsz e0 e1 e2 hca C
   have i0:(0:Int)<=(k:Int):=by omega
   have i1:(k:Int)<(n:Int):=by omega
   generalize d k=x at *
   go_wp2_with fail
   refine(CF _ hbw).mono ?_
   rintro _ w3 ⟨v,rfl,hD⟩
   have hb3:=hD.below
   have HD:Hid (bw wr w3 (V k) v):=hD
   obtain⟨g,s0,m0,e,rfl,_,hA0⟩:=id hD
   obtain⟨so,sn,sc,rfl⟩:=hA0.num.shape
   clear hD CF hA0
   have hb4:=ac hb3 (af w3 (.cells #[.bool g,.slice so sn sc,G6 e] 40))
   have q0:=(hb4.block (w.heap.size+1) hgs).trans HCUR.out
   have HK4:Hid ((w3.alloc (.cells #[.bool g,.slice so sn sc,G6 e] 40)).heap[w.heap.size]?=some (.cells #[.func (.func F) #[] #[],.func (.func G) #[] #[]] 294 (0,0))):=(hb4.block _ (aGe HK.out).1).trans HK.out
   have qx:=aD w3 (.cells #[.bool g,.slice so sn sc,G6 e] 40)
   have t0:=ae qx 0 rfl
   have t1:=ae qx 1 rfl
   have t2:=ae qx 2 rfl
   have x0:=ae q0 (k*3) HV.out.1
   have x1:=ae q0 (k*3+1) HV.out.2.1
   have x2:=ae q0 (k*3+2) HV.out.2.2
   have f0:=ah q0 (k*3)
   have f1:=ah q0 (k*3+1)
   have f2:=ah q0 (k*3+2)
   have hn1:w.heap.size+1≠w.heap.size:=by omega
   clear q0 qx kf
   go_wp2
   all_goals
    go_roundw
    case rel=>
     obtain⟨ng,s,m,e',h1,hyy,hA⟩:=HD.out
     simp only[Value.agg.injEq,Array.mk.injEq,List.cons.injEq,Value.bool.injEq,Value.int.injEq,true_and,and_true] at h1
     obtain⟨rfl,rfl,rfl⟩:=h1
     obtain⟨dd,hRd,hNd,hVd,hgd⟩:=hA.open
     have hgs2:∀ b' off,so=some ⟨b',off,none⟩->0<sn->w.heap.size+1<b':=fun b' off he _=>by
      have h9:=hgd b' off he
      omega
     refine⟨k+1,uP q k ⟨g,so,sn,sc,dd,e⟩,by omega,by go_num,oF.step (x:=⟨g,so,sn,sc,dd,e⟩) HQ.out hb4 (hRd.keeps (af _ _)) hlt HG.out hgs2,fun i hi=>?_,fun i b' off hi he hn'=>?_,?_,bv (ac hbw hb4) (by omega) _ _ _⟩
     ·by_cases ei:i=k
      ·subst ei
       rw[mU]
       exact⟨hNd,by rw[hVd];exact hyy⟩
      ·rw[lU _ _ ei]
       exact HF.out i (by omega)
     ·by_cases ei:i=k
      ·subst ei
       rw[mU] at he hn'
       exact hgs2 b' off he hn'
      ·rw[lU _ _ ei] at he hn'
       exact HG.out i b' off (by omega) he hn'
     ·show _=_
      rw[heap_setCell_other _ ⟨w.heap.size+1,_,none⟩ w.heap.size _ (Ne.symm hn1),heap_setCell_other _ ⟨w.heap.size+1,_,none⟩ w.heap.size _ (Ne.symm hn1),heap_setCell_other _ ⟨w.heap.size+1,_,none⟩ w.heap.size _ (Ne.symm hn1)]
      exact HK4.out
    case measure=>simp[intOf];omega
  ·obtain rfl:k=K:=by omega
   obtain⟨ba,oa,rfl,hba,hca⟩:=hR.spot (by omega)
   have c0:=(hbw.cell (p:=⟨ba,oa+k,none⟩) hba).trans (hca k hlt)
   have kf:=ae HK.out 0 rfl
   clear hca C
   have i0:(0:Int)<=(k:Int):=by omega
   have i1:(k:Int)<(n:Int):=by omega
   generalize d k=x at *
   go_wp2_with fail
   refine(CN _ hbw).mono ?_
   rintro _ w3 ⟨rfl,hb3⟩
   go_wp2
   all_goals refine bodyPost_ret (v:=.tuple #[.slice none 0 0,.bool false]) (by simp[results,results329,go_sem]) rfl ⟨rfl,ac hbw (ac hb3 (af _ _))⟩
def LD (ng:Bool) (m e:Int) (sd:Bool):Value:=ij ng (m/2^vK m).toNat (e+vK m) (decide (m % 2^vK m≠0)) sd
theorem Hw {w:World} {v:Value} {V:Int} {ng:Bool} {m e:Int} (hx:br w v V) (ok:eR V) (hy:Dy V ng m e) (hT:gz w) :
  Calls prog 303 #[v] w fun r w'=>r=.returned (LD ng m e false)∧Below w.heap.size w w':=by
 obtain⟨x,rfl,hR,hok,rfl⟩:=hx.open ok
 obtain⟨na,hn,he0,he1⟩:=ct hok
 obtain⟨rfl,rfl,rfl⟩:=(sO hok).1.unique hy
 exact BQ _ _ _ _ _ _ _ hR na hn ⟨he0,he1⟩ hT
def yv (er:Int) (mag:Nat) (sd:Bool) (b near:Int):Int:=if er≠0∨(mag=0∧sd=false) then near else b
theorem ET (way:Int) (hw:1<=way∧way<=3) (near:Int) (F G Rf:Nat) (rc:Array Value) (oo:Option Addr) (n cap:Nat) (w:World) (V:Nat->Int) (ng:Bool) (mag:Nat) (exp:Int) (cut sd:Bool) (er b:Int) (o:Bool)
  (hEG:∀ (cap:Array Value) (w:World),(callFunc G cap).run prog w=.ok (.enter G cap) w)
  (hER:∀ (cap:Array Value) (w:World),(callFunc Rf cap).run prog w=.ok (.enter Rf cap) w)
  (CV:∀ W,Below w.heap.size w W->Calls prog 329 #[.agg #[.func (.func F) #[] #[],.func (.func G) #[] #[]],.slice oo n cap] W fun x w'=>∃ g q,x=.returned (.tuple #[.slice (some ⟨g,0,none⟩) n n,.bool true])∧W.heap.size<=g∧kL w' (some ⟨g,0,none⟩) n n q∧Below W.heap.size W w'∧∀ i,i<n->cT (q i).d (q i).n∧Dy (V i) (q i).ng (val (q i).d (q i).n) (q i).e)
  (CR:∀ W g q,Below w.heap.size w W->kL W (some ⟨g,0,none⟩) n n q->(∀ i,i<n->cT (q i).d (q i).n∧Dy (V i) (q i).ng (val (q i).d (q i).n) (q i).e)->Calls prog Rf (#[.slice (some ⟨g,0,none⟩) n n] ++ rc) W fun e w'=>e=.returned (.tuple #[ij ng mag exp cut sd,G6 er])∧Below W.heap.size W w')
  (CT:∀ W,Below w.heap.size w W->Calls prog G #[ij ng mag exp cut true,mo way] W fun e w'=>e=.returned (.tuple #[G6 b,.bool o])∧Below W.heap.size W w') :
  Calls prog 314 #[.agg #[.func (.func F) #[] #[],.func (.func G) #[] #[]],G6 near,G6 way,.func (.func Rf) #[] rc,.slice oo n cap] w fun e w'=>e=.returned (.tuple #[G6 (yv er mag sd b near),G6 0])∧Below w.heap.size w w':=by
 have hst:∀ (p:Addr) (F:Nat) (m:Mode) (w:World),(store p (.func (.func F) #[] #[]) m).run prog w=stored prog w p (.func (.func F) #[] #[]) m:=fun p F m w=>run_store _ w p _ m rfl
 have hw0:0<=way∧way<=3:=by omega
 have hne:way≠0:=by omega
 unfold ij mo at *
 have CW:=fun W=>sK way W
 rw[if_pos hw0,decide_eq_true hw0] at CW
 unfold mo at CW
 generalize ld way=K at *
 have HV:Hid _:=CV
 have HR:Hid _:=CR
 have HT:Hid _:=CT
 clear CV CR CT
 have hb1:=af w (.cells #[.func (.func F) #[] #[],.func (.func G) #[] #[]] 294)
 have q1:=heap_alloc_new w (.cells #[.func (.func F) #[] #[],.func (.func G) #[] #[]] 294)
 go_enter func314,ntmps314
 go_wp2_with fail
 generalize w.alloc (.cells #[.func (.func F) #[] #[],.func (.func G) #[] #[]] 294)=x0 at hb1 q1 ⊢
 refine(CW _).mono ?_
 rintro _ w2 ⟨rfl,hb2⟩
 have q2:=heap_alloc_new w2 (.cells #[.nilFunc] 282)
 have y0:=ae q2 0 rfl
 have y1:=ah q2 0
 have p1:=(hb2.block _ (aGe q1).1).trans q1
 have hb3:=af w2 (.cells #[.func (.func K) #[] #[]] 282)
 have p2:=(hb3.block _ (aGe p1).1).trans p1
 have q3:=heap_alloc_new w2 (.cells #[.func (.func K) #[] #[]] 282)
 have c0:=ae p2 0 rfl
 have c1:=ae p2 1 rfl
 have hbx:=ac (ac hb1 hb2) hb3
 clear CW q1 p1
 go_wp2_with fail
 generalize w2.alloc (.cells #[.func (.func K) #[] #[]] 282)=x3 at hb3 p2 q3 c0 c1 hbx ⊢
 refine(HV.out _ hbx).mono ?_
 rintro _ w4 ⟨g,q,rfl,hg,hN,hb4,hf⟩
 have hb5:=ac hbx hb4
 have p2:=(hb4.block _ (aGe p2).1).trans p2
 have q3:=(hb4.block _ (aGe q3).1).trans q3
 clear c0 c1 y0 y1 q2
 go_wp2_with fail
 refine(HR.out _ g q hb5 hN hf).mono ?_
 rintro _ w6 ⟨rfl,hb6⟩
 have hb7:=ac hb5 hb6
 have p2:=(hb6.block _ (aGe p2).1).trans p2
 have q3:=(hb6.block _ (aGe q3).1).trans q3
 clear HV HR hN hf
 have hb8:=af w6 (.cells #[.bool ng,.int .u64 mag,G6 exp,.bool cut,.bool sd] 264)
 have q8:=heap_alloc_new w6 (.cells #[.bool ng,.int .u64 mag,G6 exp,.bool cut,.bool sd] 264)
 have x1':=ae q8 1 rfl
 have x4':=ae q8 4 rfl
 have z4':=ah q8 4
 have hb9:=ac hb7 hb8
 have hbX:=af w6 (.cells #[.bool ng,.int .u64 mag,G6 exp,.bool cut,.bool true] 264)
 have qX:=heap_alloc_new w6 (.cells #[.bool ng,.int .u64 mag,G6 exp,.bool cut,.bool true] 264)
 have pX:=(hbX.block _ (aGe p2).1).trans p2
 have rX:=(hbX.block _ (aGe q3).1).trans q3
 have u1:=ae pX 1 rfl
 have u2:=ae rX 0 rfl
 have v0:=ae qX 0 rfl
 have v1:=ae qX 1 rfl
 have v2:=ae qX 2 rfl
 have v3:=ae qX 3 rfl
 have v4:=ae qX 4 rfl
 have hbY:=ac hb7 hbX
 clear q8 qX pX rX p2 q3 hb8 hbX
 by_cases he:er=0
 ·subst he
  by_cases hm:mag=0
  ·subst hm
   cases sd
   ·go_wp2
    all_goals refine bodyPost_ret (v:=.tuple #[G6 near,G6 0]) (by simp[results,results314,go_sem]) rfl ⟨by simp[yv],hb9⟩
   ·have e0:((0:Nat):Int)=0:=rfl
    have HT:=HT.out
    simp only[e0] at HT hbY u1 u2 v0 v1 v2 v3 v4
    go_wp2_with fail
    refine(HT _ hbY).mono ?_
    rintro _ w10 ⟨rfl,hb10⟩
    go_wp2
    all_goals refine bodyPost_ret (v:=.tuple #[G6 b,G6 0]) (by simp[results,results314,go_sem]) rfl ⟨by simp[yv],ac hbY hb10⟩
  ·have hm':¬ ((mag:Int)=0):=by omega
   go_wp2_with fail
   refine(HT.out _ hbY).mono ?_
   rintro _ w10 ⟨rfl,hb10⟩
   go_wp2
   all_goals refine bodyPost_ret (v:=.tuple #[G6 b,G6 0]) (by simp[results,results314,go_sem]) rfl ⟨by simp[yv,hm],ac hbY hb10⟩
 ·go_wp2
  all_goals refine bodyPost_ret (v:=.tuple #[G6 near,G6 0]) (by simp[results,results314,go_sem]) rfl ⟨by simp[yv,he],hb9⟩
theorem Cb (way:Int) (hw:1<=way∧way<=3) (near:Int) (F G Rf:Nat) (rc:Array Value) (oo:Option Addr) (n cap:Nat) (w:World)
  (CV:∀ W,Below w.heap.size w W->Calls prog 329 #[.agg #[.func (.func F) #[] #[],.func (.func G) #[] #[]],.slice oo n cap] W fun x w'=>x=.returned (.tuple #[.slice none 0 0,.bool false])∧Below W.heap.size W w') :
  Calls prog 314 #[.agg #[.func (.func F) #[] #[],.func (.func G) #[] #[]],G6 near,G6 way,.func (.func Rf) #[] rc,.slice oo n cap] w fun e w'=>e=.returned (.tuple #[G6 near,G6 0])∧Below w.heap.size w w':=by
 have hst:∀ (p:Addr) (F:Nat) (m:Mode) (w:World),(store p (.func (.func F) #[] #[]) m).run prog w=stored prog w p (.func (.func F) #[] #[]) m:=fun p F m w=>run_store _ w p _ m rfl
 have hw0:0<=way∧way<=3:=by omega
 have hne:way≠0:=by omega
 have CW:=fun W=>sK way W
 rw[if_pos hw0,decide_eq_true hw0] at CW
 unfold mo at CW
 generalize ld way=K at *
 have HV:Hid _:=CV
 clear CV
 have hb1:=af w (.cells #[.func (.func F) #[] #[],.func (.func G) #[] #[]] 294)
 have q1:=heap_alloc_new w (.cells #[.func (.func F) #[] #[],.func (.func G) #[] #[]] 294)
 go_enter func314,ntmps314
 go_wp2_with fail
 generalize w.alloc (.cells #[.func (.func F) #[] #[],.func (.func G) #[] #[]] 294)=x0 at hb1 q1 ⊢
 refine(CW _).mono ?_
 rintro _ w2 ⟨rfl,hb2⟩
 have q2:=heap_alloc_new w2 (.cells #[.nilFunc] 282)
 have y0:=ae q2 0 rfl
 have y1:=ah q2 0
 have p1:=(hb2.block _ (aGe q1).1).trans q1
 have hb3:=af w2 (.cells #[.func (.func K) #[] #[]] 282)
 have p2:=(hb3.block _ (aGe p1).1).trans p1
 have c0:=ae p2 0 rfl
 have c1:=ae p2 1 rfl
 have hbx:=ac (ac hb1 hb2) hb3
 clear CW q1 p1
 go_wp2_with fail
 refine(HV.out _ hbx).mono ?_
 rintro _ w4 ⟨rfl,hb4⟩
 go_wp2
 all_goals refine bodyPost_ret (v:=.tuple #[G6 near,G6 0]) (by simp[results,results314,go_sem]) rfl ⟨rfl,ac hbx hb4⟩
theorem kL.at {w:World} {g n:Nat} {q:Nat->aW} (h:kL w (some ⟨g,0,none⟩) n n q) (i:Nat) (hi:i<n):FO w g (i*3) (q i):=by
 obtain⟨b,off,he,hlt,hc⟩:=h.spot (by omega)
 cases he
 have:=hc i hi
 rwa [Nat.zero_add] at this
theorem Hz {w:World} {g n:Nat} {q:Nat->aW} {V:Nat->Int} (h:kL w (some ⟨g,0,none⟩) n n q) (hf:∀ i,i<n->cT (q i).d (q i).n∧Dy (V i) (q i).ng (val (q i).d (q i).n) (q i).e) (i:Nat) (hi:i<n):br w (q i).v (V i) :=
 ⟨_,_,_,_,rfl,(hf i hi).2,_,_,_,_,rfl,(h.at i hi).row,(hf i hi).1,rfl⟩
theorem EU {C D A B:Int} (h:C*2^4194304=A*B) (k:D*2^4194304=A*B):C=D:=Int.eq_of_mul_eq_mul_right (Int.ne_of_gt (aR 4194304)) (h.trans k.symm)
theorem Pv {W w':World} {g:Nat} {a b c d e f:Value} (h:W.cell? ⟨g,0,none⟩=some a∧W.cell? ⟨g,1,none⟩=some b∧W.cell? ⟨g,2,none⟩=some c∧W.cell? ⟨g,3,none⟩=some d∧W.cell? ⟨g,4,none⟩=some e∧W.cell? ⟨g,5,none⟩=some f) (hb:Below W.heap.size W w') :
  w'.cell? ⟨g,0,none⟩=some a∧w'.cell? ⟨g,1,none⟩=some b∧w'.cell? ⟨g,2,none⟩=some c∧w'.cell? ⟨g,3,none⟩=some d∧w'.cell? ⟨g,4,none⟩=some e∧w'.cell? ⟨g,5,none⟩=some f :=
 ⟨aX h.1 hb,aX h.2.1 hb,aX h.2.2.1 hb,aX h.2.2.2.1 hb,aX h.2.2.2.2.1 hb,aX h.2.2.2.2.2 hb⟩
theorem HJ (g:Nat) (w:World) (q:Nat->aW) (A B C:Int) (ng:Bool) (m e:Int) (hN:kL w (some ⟨g,0,none⟩) 2 2 q) (h0:br w (q 0).v A) (h1:br w (q 1).v B) (oA:eR A) (oB:eR B) (hC:C*2^4194304=A*B) (oC:eR C) (hy:Dy C ng m e) (hT:gz w) :
  Calls prog 315 #[.slice (some ⟨g,0,none⟩) 2 2] w fun r w'=>r=.returned (.tuple #[LD ng m e false,G6 0])∧Below w.heap.size w w':=by
 have CM:Hid (∀ W,Below w.heap.size w W->Calls prog 99 #[(q 0).v,(q 1).v] W fun r w'=>∃ v,r=.returned (.tuple #[v,G6 0])∧bw W w' C v):=fun W hb=>by
  refine(Lj (h0.keeps hb) (h1.keeps hb) oA oB (hT.keeps hb)).mono ?_
  rintro r w' ⟨v,er,C',rfl,hC',hF⟩
  obtain rfl:=EU hC' hC
  obtain⟨rfl,hA⟩:=hF.yes oC
  exact⟨v,rfl,hA⟩
 have CV:Hid (∀ W v,Below w.heap.size w W->br W v C->Calls prog 303 #[v] W fun r w'=>r=.returned (LD ng m e false)∧Below W.heap.size W w'):=fun W v hb hv=>Hw hv oC hy (hT.keeps hb)
 obtain⟨c0,c1,c2,_⟩:=hN.at 0 (by decide)
 obtain⟨c3,c4,c5,_⟩:=hN.at 1 (by decide)
 unfold LD ij aW.v at *
 generalize (m/2^vK m).toNat=Q at CV ⊢
 generalize e+vK m=E at CV ⊢
 generalize decide (m % 2^vK m≠0)=R at CV ⊢
 clear h0 h1 hN oA oB hC oC hy hT
 generalize q 0=x at *
 generalize q 1=y at *
 obtain⟨x_g,x_o,x_n,x_c,x_d,x_e⟩:=x
 obtain⟨y_g,y_o,y_n,y_c,y_d,y_e⟩:=y
 simp only[Nat.zero_mul,Nat.zero_add,Nat.one_mul] at c0 c1 c2 c3 c4 c5 CM
 have q0:=heap_alloc_new w (.cells #[.bool false,.int .u64 0,G6 0,.bool false,.bool false] 264)
 have hb1:=af w (.cells #[.bool false,.int .u64 0,G6 0,.bool false,.bool false] 264)
 have d0:=aX c0 hb1
 have d1:=aX c1 hb1
 have d2:=aX c2 hb1
 have d3:=aX c3 hb1
 have d4:=aX c4 hb1
 have d5:=aX c5 hb1
 clear c0 c1 c2 c3 c4 c5
 go_enter func315,ntmps315
 go_wp2_with fail
 generalize w.alloc (.cells #[.bool false,.int .u64 0,G6 0,.bool false,.bool false] 264)=x1 at q0 hb1 d0 d1 d2 d3 d4 d5 ⊢
 have KK:∀ W,Below x1.heap.size x1 W->W.cell? ⟨g,0,none⟩=some (.bool x_g)∧W.cell? ⟨g,1,none⟩=some (.slice x_o x_n x_c)∧W.cell? ⟨g,2,none⟩=some (G6 x_e)∧W.cell? ⟨g,3,none⟩=some (.bool y_g)∧W.cell? ⟨g,4,none⟩=some (.slice y_o y_n y_c)∧W.cell? ⟨g,5,none⟩=some (G6 y_e):=fun W hb=>Pv (W:=x1) ⟨d0,d1,d2,d3,d4,d5⟩ hb
 clear d0 d1 d2 d3 d4 d5
 have i0:(0:Int)<2:=by decide
 have i1:(1:Int)<2:=by decide
 have hx0:=(ap x1).drew
 have hx1:=(af x1 (.cells #[.bool false,.slice none 0 0,G6 0] 40)).drew
 go_region_held3 (fun W=>W.cell? ⟨g,0,none⟩=some (.bool x_g)∧W.cell? ⟨g,1,none⟩=some (.slice x_o x_n x_c)∧W.cell? ⟨g,2,none⟩=some (G6 x_e)∧W.cell? ⟨g,3,none⟩=some (.bool y_g)∧W.cell? ⟨g,4,none⟩=some (.slice y_o y_n y_c)∧W.cell? ⟨g,5,none⟩=some (G6 y_e))
  (first|assumption|exact KK _ hx0|exact KK _ hx1|exact KK _ hw3|exact KK _ (ac hw3 (af _ _))|exact KK _ (bv hw3 (Nat.le_refl _) _ _ _)|fail)
  ((go_at_call 99;refine(CM.out _ (by first|exact hb1.drew|exact ac hb1 hx1)).mono ?_;rintro _ w3 ⟨v,rfl,hD⟩;obtain⟨n_g,n_o,n_n,n_c,n_e,rfl⟩:=bZ hD;have hw3:Below x1.heap.size x1 w3:=(by first|exact ac hx0 hD.below|exact ac hx1 hD.below);first|(have qz:w3.heap[x1.heap.size]?=some (.cells #[.bool false,.slice none 0 0,G6 0] 40 (0,0)):=(hD.below.block _ (by first|exact(aGe (aD x1 (.cells #[.bool false,.slice none 0 0,G6 0] 40))).1)).trans (aD x1 (.cells #[.bool false,.slice none 0 0,G6 0] 40));have cz0:=ae qz 0 rfl;have cz1:=ae qz 1 rfl;have cz2:=ae qz 2 rfl;have zz0:=ah qz 0;have zz1:=ah qz 1;have zz2:=ah qz 2)|skip))
 ·have hb4:=af w3 (.cells #[.bool n_g,.slice n_o n_n n_c,G6 n_e] 40)
  have qn:=aD w3 (.cells #[.bool n_g,.slice n_o n_n n_c,G6 n_e] 40)
  have hw4:=ac hw3 hb4
  have q4:=(hw4.block _ (aGe q0).1).trans q0
  have hD4:=hD.num.keeps hb4
  have hb5:=ac hb1 hw4
  have c0:=ae qn 0 rfl
  have c1:=ae qn 1 rfl
  have c2:=ae qn 2 rfl
  go_wp2_with fail
  refine(CV.out _ _ hb5 hD4).mono ?_
  rintro _ w6 ⟨rfl,hb6⟩
  have p1:=(hb6.block _ (aGe q4).1).trans q4
  have hbw:=ac hb5 hb6
  have x0:=ae p1 0 rfl
  have x1':=ae p1 1 rfl
  have x2:=ae p1 2 rfl
  have x3:=ae p1 3 rfl
  have x4:=ae p1 4 rfl
  have z0:=ah p1 0
  have z1:=ah p1 1
  have z2:=ah p1 2
  have z3:=ah p1 3
  have z4:=ah p1 4
  go_wp2
  all_goals refine bodyPost_ret (v:=.tuple #[.agg #[.bool ng,.int .u64 Q,G6 E,.bool R,.bool false],G6 0]) (by simp[results,results315,go_sem,x0,x1',x2,x3,x4]) rfl ⟨rfl,?_⟩
  all_goals exact(OC w6 w.heap.size _ _ _ _ _).below hbw hbw.size (Nat.le_refl _)
 ·have hw4:=bv (o0:=0) (o1:=1) (o2:=2) hw3 (Nat.le_refl _) (.bool n_g) (.slice n_o n_n n_c) (G6 n_e)
  have qn:=aI (aI (aI qz 0 (.bool n_g)) 1 (.slice n_o n_n n_c)) 2 (G6 n_e)
  have q4:=(hw4.block _ (aGe q0).1).trans q0
  have hD4:=(cJ hD hx1 (Nat.le_refl _) (aGe (aD x1 (.cells #[.bool false,.slice none 0 0,G6 0] 40))).1 (.bool n_g) (.slice n_o n_n n_c) (G6 n_e)).num
  have hb5:=ac hb1 hw4
  clear cz0 cz1 cz2 zz0 zz1 zz2 qz
  have c0:=ae qn 0 rfl
  have c1:=ae qn 1 rfl
  have c2:=ae qn 2 rfl
  go_wp2_with fail
  refine(CV.out _ _ hb5 hD4).mono ?_
  rintro _ w6 ⟨rfl,hb6⟩
  have p1:=(hb6.block _ (aGe q4).1).trans q4
  have hbw:=ac hb5 hb6
  have x0:=ae p1 0 rfl
  have x1':=ae p1 1 rfl
  have x2:=ae p1 2 rfl
  have x3:=ae p1 3 rfl
  have x4:=ae p1 4 rfl
  have z0:=ah p1 0
  have z1:=ah p1 1
  have z2:=ah p1 2
  have z3:=ah p1 3
  have z4:=ah p1 4
  go_wp2
  all_goals refine bodyPost_ret (v:=.tuple #[.agg #[.bool ng,.int .u64 Q,G6 E,.bool R,.bool false],G6 0]) (by simp[results,results315,go_sem,x0,x1',x2,x3,x4]) rfl ⟨rfl,?_⟩
  all_goals exact(OC w6 w.heap.size _ _ _ _ _).below hbw hbw.size (Nat.le_refl _)
theorem Cc (way:Int) (hw:1<=way∧way<=3) (near:Int) (Rf:Nat) (rc:Array Value) (g n:Nat) (hn:n<=100) (d:Nat->Int) (w:World) (hR:aU w (some ⟨g,0,none⟩) n n d) (hp:∀ i,i<n->ak (d i)=true) (H:aO w) (ng:Bool) (mag:Nat) (exp:Int) (cut sd:Bool) (hm:mag<18446744073709551616) (he:-4500000<=exp∧exp<=4500000)
    (hER:∀ (cap:Array Value) (w:World),(callFunc Rf cap).run prog w=.ok (.enter Rf cap) w)
    (CR:∀ W g q,Below w.heap.size w W->kL W (some ⟨g,0,none⟩) n n q->(∀ i,i<n->cT (q i).d (q i).n∧Dy (aq (d i)) (q i).ng (val (q i).d (q i).n) (q i).e)->Calls prog Rf (#[.slice (some ⟨g,0,none⟩) n n] ++ rc) W fun e w'=>e=.returned (.tuple #[ij ng mag exp cut sd,G6 0])∧Below W.heap.size W w') :
    Calls prog 314 #[.agg #[.func (.func 150) #[] #[],.func (.func 255) #[] #[]],G6 near,G6 way,.func (.func Rf) #[] rc,.slice (some ⟨g,0,none⟩) n n] w fun e w'=>e=.returned (.tuple #[G6 (yv 0 mag sd (mO way ng true mag exp cut).1 near),G6 0])∧Below w.heap.size w w':=by
  have hEF:∀ (cap:Array Value) (w:World),(callFunc 150 cap).run prog w=.ok (.enter 150 cap) w:=by
    intro cap w
    simp[go_sem]
  have hEG:∀ (cap:Array Value) (w:World),(callFunc 255 cap).run prog w=.ok (.enter 255 cap) w:=by
    intro cap w
    simp[go_sem]
  exact ET way hw near _ _ Rf rc _ n n w (fun i=>aq (d i)) ng mag exp cut sd 0 _ _ hEG hER
    (fun W hb=>(Hu _ _ _ n n d _ W (hR.keeps hb) (by omega) hEF (fun i hi W' hb'=>yW (hp i hi) ((H.keeps hb).keeps hb'))).mono fun r w' h=>by
      obtain⟨g,q,e1,e2,e3,e4,e5⟩:=h
      exact ⟨g,q,e1,e2,e3,e4,e5⟩)
    CR (fun W hb=>zP way (by omega) ng true mag exp cut W (H.keeps hb).env hm he)
theorem ue (way:Int) (hw:1<=way∧way<=3) (near:Int) (Rf:Nat) (rc:Array Value) (g n:Nat) (hn:n<=100) (d:Nat->Int) (w:World) (hR:aU w (some ⟨g,0,none⟩) n n d) (K:Nat) (hK:K<n) (hp:∀ i,i<K->ak (d i)=true) (hq:ak (d K)=false) (H:aO w) :
  Calls prog 314 #[.agg #[.func (.func 150) #[] #[],.func (.func 255) #[] #[]],G6 near,G6 way,.func (.func Rf) #[] rc,.slice (some ⟨g,0,none⟩) n n] w fun e w'=>e=.returned (.tuple #[G6 near,G6 0])∧Below w.heap.size w w':=by
 have hEF:∀ (cap:Array Value) (w:World),(callFunc 150 cap).run prog w=.ok (.enter 150 cap) w:=by
  intro cap w
  simp[go_sem]
 exact Cb way hw near _ _ Rf rc _ n n w (fun W hb=>Hv _ _ _ n n d (fun i=>aq (d i)) W (hR.keeps hb) (by omega) K hK hEF (fun i hi W' hb'=>yW (hp i hi) ((H.keeps hb).keeps hb')) (fun W' hb'=>Qw hq ((H.keeps hb).keeps hb')))
theorem Kw {w:World} {g:Nat} {a b:Int} (h:w.heap[g]?=some (.cells #[G6 a,G6 b] 3 (0,0))):aU w (some ⟨g,0,none⟩) 2 2 (fun i=>if i=0 then a else b) :=
  ⟨Nat.le_refl _,by decide,(fun h=>nomatch h),fun _=>⟨g,0,rfl,(Array.getElem?_eq_some_iff.1 h).1,fun i hi=>by
    match i,hi with
    | 0,_=>exact ae h 0 rfl
    | 1,_=>exact ae h 1 rfl⟩⟩
theorem Nv {m:Int} (h:0<m):(m/2^vK m).toNat≠0:=by
 have hb:=iJ h
 have hp:=aR (vK m)
 have h1:2^vK m<=m:=Int.le_trans (eG (by unfold vK;omega)) hb.2
 have h2:1<=m/2^vK m:=by rw[Int.le_ediv_iff_mul_le hp,Int.one_mul];exact h1
 omega
theorem Pw {m:Int} (h:0<=m):(m/2^vK m).toNat<18446744073709551616:=by
 have:=qP h
 omega
theorem Px {V:Int} {ng:Bool} {m e:Int} (hy:Dy V ng m e) (ok:eR V):-4500000<=e+vK m∧e+vK m<=4500000:=by
 obtain⟨h1,h2,h3⟩:=hy.ok.1 ok
 have h4:aQ m<=30*2000:=fO (by rw[<- ft];exact h1)
 unfold vK
 omega
theorem Ia (way:Int) (hw:1<=way∧way<=3) (near a b:Int) (Rf:Nat) (rc:Array Value) (hp:(ak a&&ak b)=false) (w:World) (go:Nat) (ko:w.heap[go]?=some (.cells #[G6 a,G6 b] 3 (0,0))) (H:aO w) :
    Calls prog 314 #[.agg #[.func (.func 150) #[] #[],.func (.func 255) #[] #[]],G6 near,G6 way,.func (.func Rf) #[] rc,.slice (some ⟨go,0,none⟩) 2 2] w fun e w'=>e=.returned (.tuple #[G6 near,G6 0])∧Below w.heap.size w w':=by
  cases h1:ak a
  · exact ue way hw near Rf rc go 2 (by decide) (fun i=>if i=0 then a else b) w (Kw ko) 0 (by decide) (fun i hi=>by omega) h1 H
  · rw[h1] at hp
    exact ue way hw near Rf rc go 2 (by decide) (fun i=>if i=0 then a else b) w (Kw ko) 1 (by decide) (fun i hi=>by
      obtain rfl:i=0:=by omega
      exact h1) hp H
theorem QQ (way:Int) (hw:1<=way∧way<=3) (near a b:Int) (ra:ag a) (rb:ag b) (w:World) (go:Nat) (ko:w.heap[go]?=some (.cells #[G6 a,G6 b] 3 (0,0))) (H:aO w) :
  Calls prog 314 #[.agg #[.func (.func 150) #[] #[],.func (.func 255) #[] #[]],G6 near,G6 way,.func (.func 315) #[] #[],.slice (some ⟨go,0,none⟩) 2 2] w fun e w'=>e=.returned (.tuple #[G6 (if (ak a&&ak b)=true∧dr a b≠0 then fH way (dr a b) else near),G6 0])∧Below w.heap.size w w':=by
 have hER:∀ (cap:Array Value) (w:World),(callFunc 315 cap).run prog w=.ok (.enter 315 cap) w:=by
  intro cap w
  simp[go_sem]
 cases hpp:(ak a&&ak b)
 ·have n1:¬ (false=true∧dr a b≠0):=fun q=>by cases q.1
  rw[if_neg n1]
  exact Ia way hw near a b _ _ hpp w go ko H
 ·simp only[Bool.and_eq_true] at hpp
  obtain⟨pa,pb⟩:=hpp
  obtain⟨_,_,_,_,hC⟩:=mT ra rb pa pb
  have ok:eR (dr a b):=((dp pa).mul (dp pb) hC (by omega)).ok (by omega)
  obtain⟨ng,m,e,hy,hm⟩:=id ok
  clear hm
  have hp:∀ i,i<2->ak (if i=0 then a else b)=true:=fun i hi=>by split<;>assumption
  have:=Cc way hw near _ #[] go 2 (by decide) (fun i=>if i=0 then a else b) w (Kw ko) hp H ng _ _ _ false (Pw hy.nonneg) (Px hy ok) hER (fun W g q hb hN hf=>HJ g W q (aq a) (aq b) (dr a b) ng m e hN (Hz hN hf 0 (by decide)) (Hz hN hf 1 (by decide)) (zT pa) (zT pb) hC ok hy (H.keeps hb).tab)
  have hA:(if true=true∧dr a b≠0 then fH way (dr a b) else near)=yv 0 (m/2^vK m).toNat false (mO way ng true (m/2^vK m).toNat (e+vK m) (decide (m % 2^vK m≠0))).1 near:=by
   unfold yv
   by_cases h0:dr a b=0
   ·have hm0:=hy.eq_zero.1 h0
    have n1:¬ (true=true∧dr a b≠0):=fun q=>q.2 h0
    have n3:(0:Int)≠0∨((m/2^vK m).toNat=0∧false=false):=.inr ⟨by rw[hm0,Int.zero_ediv];rfl,rfl⟩
    rw[if_neg n1,if_pos n3]
   ·have hm0:0<m:=by
     have:=hy.nonneg
     have:m≠0:=fun q=>h0 (hy.eq_zero.2 q)
     omega
    have n1:true=true∧dr a b≠0:=⟨rfl,h0⟩
    have n3:¬ ((0:Int)≠0∨((m/2^vK m).toNat=0∧false=false)):=fun q=>by
     rcases q with q|q
     ·exact q rfl
     ·exact Nv hm0 q.1
    rw[if_pos n1,if_neg n3,Ph hy h0 (by have:=(hy.ok.1 ok).2.1;omega)]
  rw[hA]
  exact this
theorem LF {a b way:Int} {w:World} (ra:ag a) (rb:ag b) (hw:0<=way∧way<=3) (H:aO w) :
  Calls prog 289 #[G6 a,G6 b,G6 way] w fun e w'=>e=.returned (.tuple #[G6 (iM way a b),G6 0])∧Below w.heap.size w w':=by
 have CK:Hid (∀ W go,W.heap[go]?=some (.cells #[G6 a,G6 b] 3 (0,0))->aO W->Calls prog 314 #[.agg #[.func (.func 150) #[] #[],.func (.func 255) #[] #[]],G6 (aC (aY a) (aY b)),G6 way,.func (.func 315) #[] #[],.slice (some ⟨go,0,none⟩) 2 2] W fun e w'=>e=.returned (.tuple #[G6 (iM way a b),G6 0])∧Below W.heap.size W w'):=fun W go ko H=>by
  by_cases h0:way=0
  ·have e:iM way a b=aC (aY a) (aY b):=by unfold iM;rw[if_pos (.inl h0)]
   rw[e,h0]
   exact zQ _ _ ⟨_,rfl⟩ ⟨_,rfl⟩ _ _ _ _ _ W
  ·have e:iM way a b=if (ak a&&ak b)=true∧dr a b≠0 then fH way (dr a b) else aC (aY a) (aY b):=by
    unfold iM
    cases hp:(ak a&&ak b)
    ·have n1:way=0∨false=false:=.inr rfl
     have n2:¬ (false=true∧dr a b≠0):=fun q=>by cases q.1
     rw[if_pos n1,if_neg n2]
    ·have n1:¬ (way=0∨true=false):=fun q=>by rcases q with q|q;exact h0 q;cases q
     rw[if_neg n1]
     by_cases h:dr a b≠0
     ·have n2:true=true∧dr a b≠0:=⟨rfl,h⟩
      rw[if_pos h,if_pos n2]
     ·have n2:¬ (true=true∧dr a b≠0):=fun q=>h q.2
      rw[if_neg h,if_neg n2]
   rw[e]
   exact QQ way (by omega) _ a b ra rb W go ko H
 generalize iM way a b=R at CK ⊢
 have hcv:=wO
 have hmf:∀ (fn:Fn) (first cap:Array Value) (w:World),(Instr.makeFunc fn first cap).run prog w=.ok (.func fn first cap) w:=fun _ _ _ _=>rfl
 have CF:Hid (∀ W,Calls prog 58 #[G6 a] W fun e w'=>e=.returned (G7 (wd a))∧w'=W):=fun W=>bU a W
 have CG:Hid (∀ W,Calls prog 58 #[G6 b] W fun e w'=>e=.returned (G7 (wd b))∧w'=W):=fun W=>bU b W
 have RS:Hid (∀ W,_):=fun W=>jh (P:=prog) 59 (lx ra) (lx rb) W
 go_enter func289,ntmps289
 go_wp2_with fail
 refine(Ew _).mono ?_
 rintro _ w1 ⟨rfl,hb1⟩
 obtain⟨z,w2,hrun,hz,hw2⟩:=RS.out w1
 clear RS
 generalize wd a=x at *
 generalize wd b=y at *
 generalize aC (aY a) (aY b)=near at *
 go_wp2_with fail
 refine(CF.out _).mono ?_
 rintro _ _ ⟨rfl,rfl⟩
 go_wp2_with fail
 refine(CG.out _).mono ?_
 rintro _ _ ⟨rfl,rfl⟩
 go_wp2_with fail
 have hb2:Below w.heap.size w w2:=by rcases hw2 with rfl|rfl;exact hb1;exact hb1.drew
 refine(qU hz _).mono ?_
 rintro _ _ ⟨rfl,rfl⟩
 have hb3:=ac hb2 (af _ (.cells #[G6 a,G6 b] 3))
 go_wp2_with fail
 refine(CK.out _ _ (aD _ (.cells #[G6 a,G6 b] 3)) (H.keeps hb3)).mono ?_
 rintro _ w5 ⟨rfl,hb5⟩
 go_wp2
 all_goals refine bodyPost_ret (v:=.tuple #[G6 R,G6 0]) (by simp[results,results289,go_sem]) rfl ⟨rfl,ac hb3 hb5⟩
theorem EY {w w3:World} (h3:Below (w.alloc (.cells #[G7 0,G7 0] 160)).heap.size (w.alloc (.cells #[G7 0,G7 0] 160)) w3) (U V:Nat) :
  (store ⟨w.heap.size,0,none⟩ (G7 U)).run prog w3=.ok () (w3.setCell ⟨w.heap.size,0,none⟩ (G7 U))∧(store ⟨w.heap.size,1,none⟩ (G7 V)).run prog (w3.setCell ⟨w.heap.size,0,none⟩ (G7 U))=.ok () ((w3.setCell ⟨w.heap.size,0,none⟩ (G7 U)).setCell ⟨w.heap.size,1,none⟩ (G7 V))∧((w3.setCell ⟨w.heap.size,0,none⟩ (G7 U)).setCell ⟨w.heap.size,1,none⟩ (G7 V)).cell? ⟨w.heap.size,0,none⟩=some (G7 U)∧((w3.setCell ⟨w.heap.size,0,none⟩ (G7 U)).setCell ⟨w.heap.size,1,none⟩ (G7 V)).cell? ⟨w.heap.size,1,none⟩=some (G7 V)∧Below w.heap.size w ((w3.setCell ⟨w.heap.size,0,none⟩ (G7 U)).setCell ⟨w.heap.size,1,none⟩ (G7 V)):=by
 have hg:=ud w (.cells #[G7 0,G7 0] 160)
 have hba:=af w (.cells #[G7 0,G7 0] 160)
 have d2:=(h3.block _ (aGe hg).1).trans hg
 have d3:=az d2 0 (G7 U)
 have d4:=az d3 1 (G7 V)
 have f0:=ae d2 0 rfl
 have z0:=ah d2 0
 have f1:=ae d3 1 rfl
 have z1:=ah d3 1
 refine⟨?_,?_,ae d4 0 rfl,ae d4 1 rfl,?_⟩
 ·rw[run_store _ _ _ _ _ rfl,f0];simp only[z0];rfl
 ·rw[run_store _ _ _ _ _ rfl,f1];simp only[z1];rfl
 ·exact((ac hba h3).setCell (p:=⟨w.heap.size,0,none⟩) (Nat.le_refl _) _).setCell (p:=⟨w.heap.size,1,none⟩) (Nat.le_refl _) _
theorem AO {a b:Int} (ra:ag a) (rb:ag b) (w:World) (H:aO w) :
  Calls prog 247 #[G6 a,G6 b] w fun e w'=>e=.returned (gk (iM 1 a b) (iM 2 a b))∧Below w.heap.size w w':=by
 have C1:Hid (∀ W,aO W->Calls prog 289 #[G6 a,G6 b,G6 1] W fun e w'=>e=.returned (.tuple #[G6 (iM 1 a b),G6 0])∧Below W.heap.size W w'):=fun W h=>LF ra rb (by omega) h
 have C2:Hid (∀ W,aO W->Calls prog 289 #[G6 a,G6 b,G6 2] W fun e w'=>e=.returned (.tuple #[G6 (iM 2 a b),G6 0])∧Below W.heap.size W w'):=fun W h=>LF ra rb (by omega) h
 unfold gk
 generalize iM 1 a b=l at *
 generalize iM 2 a b=h at *
 have hba:=af w (.cells #[G7 0,G7 0] 160)
 go_enter func247,ntmps247
 go_wp2_with fail
 refine(C1.out _ (H.keeps hba)).mono ?_
 rintro _ w1 ⟨rfl,hb1⟩
 have hw1:=ac hba hb1
 go_wp2_with fail
 refine(C2.out _ (H.keeps hw1)).mono ?_
 rintro _ w2 ⟨rfl,hb2⟩
 have hb3:=ac hb1 hb2
 obtain⟨s0,s1,e0,e1,hbe⟩:=EY hb3 (wd l) (wd h)
 have CF:Hid (∀ W,Calls prog 58 #[G6 l] W fun e w'=>e=.returned (G7 (wd l))∧w'=W):=fun W=>bU l W
 have CG:Hid (∀ W,Calls prog 58 #[G6 h] W fun e w'=>e=.returned (G7 (wd h))∧w'=W):=fun W=>bU h W
 go_wp2_with fail
 refine(CF.out _).mono ?_
 rintro _ wz ⟨rfl,hwz⟩
 replace hwz:=hwz.symm
 subst hwz
 go_wp2_with fail
 refine(CG.out _).mono ?_
 rintro _ wz ⟨rfl,hwz⟩
 replace hwz:=hwz.symm
 subst hwz
 go_wp2
 refine bodyPost_ret (v:=.agg #[G7 (wd l),G7 (wd h)]) (by simp[results,results247,go_sem,e0,e1]) rfl ⟨rfl,hbe⟩
theorem lB {P:Program} (t:TypeId) {p q:Int} {x y:Nat} (hx:FW p x) (hy:FW q y) (h:aH (aC p q)≠4) (w:World):(binOp .mul t (G7 x) (G7 y)).run P w=.ok (G7 (wd (aC p q))) w:=by
 obtain⟨z,w',hrun,hz⟩:=kD (P:=P) .mul (.inr (.inr (.inl rfl))) t x y w
 have hf:floatBits .mul .f64 x y=Ieee.double.mul x y:=rfl
 rw[hf] at hz
 rcases Gy hx hy with⟨z',e1,e2⟩|⟨_,e2⟩
 ·rcases hz with⟨h1,h2⟩|⟨h1,_⟩
  ·rw[e1] at h1
   cases h1
   rw[hrun,h2,(e2.of h).2.1]
  ·rw[e1] at h1;cases h1
 ·exact absurd (by rw[e2];decide) h
theorem oG {p:Int} (h:nn p) (h0:rg p≠0):FloatKind.f64.format.order (wd p) 0=some .lt∨FloatKind.f64.format.order (wd p) 0=some .gt:=by
 have n0:=kK.1
 have w0:wd 0=0:=by decide
 have k0:au 0=0:=by decide
 have hk:au p≠0:=by
  have:=kI h
  unfold au
  unfold rg at h0 this
  split at h0<;>simp_all<;>omega
 rcases Int.lt_or_gt_of_ne hk with q|q
 ·left
  have:=iG h.1 n0.1 h.2 n0.2 (by rw[k0];exact q)
  rwa [w0] at this
 ·right
  have:=iH h.1 n0.1 h.2 n0.2 (by rw[k0];exact q)
  rwa [w0] at this
theorem yw {p:Int} (h:nn p) (h0:rg p=0):FloatKind.f64.format.order (wd p) 0=some .eq:=by
 have n0:=kK.1
 have w0:wd 0=0:=by decide
 have k0:au 0=0:=by decide
 have hk:au p=0:=by
  unfold au
  unfold rg at h0
  split at h0<;>simp_all
 have:=ii h.1 n0.1 h.2 n0.2 (by rw[k0];exact hk)
 rwa [w0] at this
theorem AP {p q:Int} (hp:nn p) (hq:nn q) (h0:rg p=0∨rg q=0) (w:World) :
  Calls prog 188 #[G7 (wd p),G7 (wd q)] w fun e w'=>e=.returned (gk 0 0)∧Below w.heap.size w w':=by
 have hcv:=wO
 have w0:wd 0=0:=by decide
 unfold gk
 rw[w0]
 have hba:=af w (.cells #[G7 0,G7 0] 160)
 obtain⟨z,w1,hrun,hz,hw1⟩:=jh (P:=prog) 59 (FW.pat hp.2 hp.1) (FW.pat hq.2 hq.1) (w.alloc (.cells #[G7 0,G7 0] 160))
 have hb1:Below (w.alloc (.cells #[G7 0,G7 0] 160)).heap.size (w.alloc (.cells #[G7 0,G7 0] 160)) w1:=by
  rcases hw1 with rfl|rfl
  ·exact ap _
  ·exact(ap _).drew
 obtain⟨s0,s1,e0,e1,hbe⟩:=EY hb1 0 0
 by_cases hp0:rg p=0
 ·have o:=yw hp hp0
  generalize wd p=x at *
  generalize wd q=y at *
  clear hw1
  go_enter func188,ntmps188
  go_wp2
  refine bodyPost_ret (v:=.agg #[G7 0,G7 0]) (by simp[results,results188,go_sem,e0,e1]) rfl ⟨rfl,hbe⟩
 ·have hq0:rg q=0:=by omega
  have o2:=yw hq hq0
  rcases oG hp hp0 with o|o
  all_goals
   generalize wd p=x at *
   generalize wd q=y at *
   clear hw1
   go_enter func188,ntmps188
   go_wp2
   refine bodyPost_ret (v:=.agg #[G7 0,G7 0]) (by simp[results,results188,go_sem,e0,e1]) rfl ⟨rfl,hbe⟩
theorem AQ {p q:Int} (hp:nn p) (hq:nn q) (p0:rg p≠0) (q0:rg q≠0) (hn:nn (aC p q)) (hd:rg (aC p q)<283726776524341248) (w:World) (H:aO w) :
  Calls prog 188 #[G7 (wd p),G7 (wd q)] w fun e w'=>e=.returned (gk (iM 1 p q) (iM 2 p q))∧Below w.heap.size w w':=by
 have hcv:=wO
 have hba:=af w (.cells #[G7 0,G7 0] 160)
 have CD:Hid (∀ W,aO W->Calls prog 247 #[G6 p,G6 q] W fun e w'=>e=.returned (.agg #[G7 (wd (iM 1 p q)),G7 (wd (iM 2 p q))])∧Below W.heap.size W w'):=fun W h=>AO hp.1 hq.1 W h
 have CP:Hid (∀ W,Calls prog 124 #[G7 (wd p)] W fun e w'=>e=.returned (G6 p)∧w'=W):=fun W=>qU (FW.pat hp.2 hp.1) W
 have CQ:Hid (∀ W,Calls prog 124 #[G7 (wd q)] W fun e w'=>e=.returned (G6 q)∧w'=W):=fun W=>qU (FW.pat hq.2 hq.1) W
 have CA:Hid (∀ W,Calls prog 34 #[G7 (wd (aC p q))] W fun e w'=>e=.returned (G7 (wd (rg (aC p q))))∧w'=W):=fun W=>eE hn.1 W
 have hrun:∀ W,(binOp .mul 59 (G7 (wd p)) (G7 (wd q))).run prog W=.ok (G7 (wd (aC p q))) W:=fun W=>lB _ (FW.pat hp.2 hp.1) (FW.pat hq.2 hq.1) hn.2 W
 have od:FloatKind.f64.format.order (wd (rg (aC p q))) 283726776524341248=some .lt:=by
  obtain⟨a1,a2⟩:=jN hn.1
  have ca:¬ aH (rg (aC p q))=4:=by rw[oO hn.1];exact hn.2
  have:=iG a1 (show ag 283726776524341248 by unfold ag;omega) ca (by decide) (by rw[lK a2,show au 283726776524341248=283726776524341248 by decide];exact hd)
  rwa [show wd 283726776524341248=283726776524341248 by decide] at this
 have o1:=oG hp p0
 have o2:=oG hq q0
 unfold gk
 generalize wd (iM 1 p q)=U at *
 generalize wd (iM 2 p q)=V at *
 generalize wd (rg (aC p q))=A at *
 generalize wd (aC p q)=N at *
 generalize wd p=x at *
 generalize wd q=y at *
 rcases o1 with o1|o1<;>rcases o2 with o2|o2
 all_goals
  go_enter func188,ntmps188
  go_wp2_with fail
  refine(CA.out _).mono ?_
  rintro _ wz ⟨rfl,hwz⟩
  replace hwz:=hwz.symm
  subst hwz
  go_wp2_with fail
  refine(CP.out _).mono ?_
  rintro _ wz ⟨rfl,hwz⟩
  replace hwz:=hwz.symm
  subst hwz
  go_wp2_with fail
  refine(CQ.out _).mono ?_
  rintro _ wz ⟨rfl,hwz⟩
  replace hwz:=hwz.symm
  subst hwz
  go_wp2_with fail
  refine(CD.out _ (H.keeps hba)).mono ?_
  rintro _ w3 ⟨rfl,hb3⟩
  obtain⟨s0,s1,e0,e1,hbe⟩:=EY hb3 U V
  go_wp2
  refine bodyPost_ret (v:=.agg #[G7 U,G7 V]) (by simp[results,results188,go_sem,e0,e1]) rfl ⟨rfl,hbe⟩
theorem vV {p q:Int} (hp:nn p) (hq:nn q) (p0:rg p≠0) (q0:rg q≠0) (hn:nn (aC p q)) (hd:283726776524341248<=rg (aC p q)) (w:World) :
  Calls prog 188 #[G7 (wd p),G7 (wd q)] w fun e w'=>e=.returned (gk (fj (aC p q) (gC p q (neg (aC p q)))) (fl (aC p q) (gC p q (neg (aC p q)))))∧Below w.heap.size w w':=by
 have hcv:=wO
 have hba:=af w (.cells #[G7 0,G7 0] 160)
 have CA:Hid (∀ W,Calls prog 34 #[G7 (wd (aC p q))] W fun e w'=>e=.returned (G7 (wd (rg (aC p q))))∧w'=W):=fun W=>eE hn.1 W
 have hrun:∀ W,(binOp .mul 59 (G7 (wd p)) (G7 (wd q))).run prog W=.ok (G7 (wd (aC p q))) W:=fun W=>lB _ (FW.pat hp.2 hp.1) (FW.pat hq.2 hq.1) hn.2 W
 have hneg:∀ W,(Op.unary UnOp.neg (G7 (wd (aC p q)))).run prog W=.ok (G7 (wd (neg (aC p q)))) W:=fun W=>ry hn W
 have nm:=(ff hn).1
 obtain⟨L,w1,rF,hL,hw1⟩:=Kt (FW.pat hp.2 hp.1) (FW.pat hq.2 hq.1) (FW.pat nm.2 nm.1) (w.alloc (.cells #[G7 0,G7 0] 160))
 have hb1:Below (w.alloc (.cells #[G7 0,G7 0] 160)).heap.size (w.alloc (.cells #[G7 0,G7 0] 160)) w1:=by
  rcases hw1 with rfl|rfl
  ·exact ap _
  ·exact(ap _).drew
 have CB:Hid (∀ W,Calls prog 248 #[G7 (wd (aC p q)),G7 L] W fun e w'=>e=.returned (.agg #[G7 (wd (fj (aC p q) (gC p q (neg (aC p q))))),G7 (wd (fl (aC p q) (gC p q (neg (aC p q)))))])∧Below W.heap.size W w'):=fun W=>vT hn hL W
 have od:FloatKind.f64.format.order (wd (rg (aC p q))) 283726776524341248=some .gt∨FloatKind.f64.format.order (wd (rg (aC p q))) 283726776524341248=some .eq:=by
  obtain⟨a1,a2⟩:=jN hn.1
  have ca:¬ aH (rg (aC p q))=4:=by rw[oO hn.1];exact hn.2
  have w9:wd 283726776524341248=283726776524341248:=by decide
  have k9:au 283726776524341248=283726776524341248:=by decide
  by_cases e:rg (aC p q)=283726776524341248
  ·right
   have:=ii a1 (show ag 283726776524341248 by unfold ag;omega) ca (by decide) (by rw[lK a2,k9];exact e)
   rwa [w9] at this
  ·left
   have:=iH a1 (show ag 283726776524341248 by unfold ag;omega) ca (by decide) (by rw[lK a2,k9];omega)
   rwa [w9] at this
 have o1:=oG hp p0
 have o2:=oG hq q0
 unfold gk
 generalize wd (fj (aC p q) (gC p q (neg (aC p q))))=U at *
 generalize wd (fl (aC p q) (gC p q (neg (aC p q))))=V at *
 generalize wd (rg (aC p q))=A at *
 generalize wd (neg (aC p q))=M at *
 generalize wd (aC p q)=N at *
 generalize wd p=x at *
 generalize wd q=y at *
 clear hw1 hL hd
 rcases o1 with o1|o1<;>rcases o2 with o2|o2<;>rcases od with od|od
 all_goals
  go_enter func188,ntmps188
  go_wp2_with fail
  refine(CA.out _).mono ?_
  rintro _ wz ⟨rfl,hwz⟩
  replace hwz:=hwz.symm
  subst hwz
  go_wp2_with fail
  refine(CB.out _).mono ?_
  rintro _ w3 ⟨rfl,hb3⟩
  obtain⟨s0,s1,e0,e1,hbe⟩:=EY (ac hb1 hb3) U V
  go_wp2
  refine bodyPost_ret (v:=.agg #[G7 U,G7 V]) (by simp[results,results188,go_sem,e0,e1]) rfl ⟨rfl,hbe⟩
theorem oY {a b:Nat} {x:Int} (h:Fx a b x):FW x (wd x):=FW.pat (bW h.p) h.r
theorem yY {p q:Int} (hp:Mz p) (hq:Mz q) (w:World) :
  Calls prog 87 #[G6 p,G6 q] w fun r w'=>r=.returned (G7 (wd (aF p (neg q))))∧w'=w:=by
 have hd:=fun W=>Hr (P:=prog) 59 (FW.pat (bW hp.2.1) hp.1) (FW.pat (bW hq.2.1) hq.1) (bW (AH hp hq).1) W
 have C1:Hid (∀ W,Calls prog 58 #[G6 p] W fun e w'=>e=.returned (G7 (wd p))∧w'=W):=fun W=>bU p W
 have C2:Hid (∀ W,Calls prog 58 #[G6 q] W fun e w'=>e=.returned (G7 (wd q))∧w'=W):=fun W=>bU q W
 clear hp hq
 generalize wd p=P at *
 generalize wd q=Q at *
 generalize wd (aF p (neg q))=R at *
 go_enter func87,ntmps87
 go_wp2_with fail
 refine(C1.out _).mono ?_
 rintro _ wz ⟨rfl,hwz⟩
 replace hwz:=hwz.symm
 subst hwz
 go_wp2_with fail
 refine(C2.out _).mono ?_
 rintro _ wz ⟨rfl,hwz⟩
 replace hwz:=hwz.symm
 subst hwz
 go_wp2
 go_ret
 exact⟨rfl,rfl⟩
def aP (a b c:Int):Int:=aC (aF a (neg b)) (aF c (neg b))
theorem tM {a b c:Int} (ha:Mz a) (hb:Mz b) (hc:Mz c):Fx 670 1379 (aP a b c):=((ha.diff hb).1.prod (hc.diff hb).1 (by decide) (by decide) (by decide)).1
theorem Py {ax ay bx by' cx cy:Int} (hax:Mz ax) (hay:Mz ay) (hbx:Mz bx) (hby:Mz by') (hcx:Mz cx) (hcy:Mz cy) (w:World) :
  Calls prog 33 #[.agg #[G6 ax,G6 ay],.agg #[G6 bx,G6 by'],.agg #[G6 cx,G6 cy]] w fun r w'=>r=.returned (.tuple #[G7 (wd (aP ax bx cx)),G7 (wd (aP ay by' cy))])∧Below w.heap.size w w':=by
 have C1:Hid (∀ W,Calls prog 87 #[G6 ax,G6 bx] W fun r w'=>r=.returned (G7 (wd (aF ax (neg bx))))∧w'=W):=fun W=>yY hax hbx W
 have C2:Hid (∀ W,Calls prog 87 #[G6 cx,G6 bx] W fun r w'=>r=.returned (G7 (wd (aF cx (neg bx))))∧w'=W):=fun W=>yY hcx hbx W
 have C3:Hid (∀ W,Calls prog 87 #[G6 ay,G6 by'] W fun r w'=>r=.returned (G7 (wd (aF ay (neg by'))))∧w'=W):=fun W=>yY hay hby W
 have C4:Hid (∀ W,Calls prog 87 #[G6 cy,G6 by'] W fun r w'=>r=.returned (G7 (wd (aF cy (neg by'))))∧w'=W):=fun W=>yY hcy hby W
 have hp:=fun W=>lB (P:=prog) 59 (oY (hax.diff hbx).1) (oY (hcx.diff hbx).1) (bW (tM hax hbx hcx).p) W
 have hq:=fun W=>lB (P:=prog) 59 (oY (hay.diff hby).1) (oY (hcy.diff hby).1) (bW (tM hay hby hcy).p) W
 clear hax hay hbx hby hcx hcy
 unfold aP
 generalize wd (aC (aF ax (neg bx)) (aF cx (neg bx)))=P at *
 generalize wd (aC (aF ay (neg by')) (aF cy (neg by')))=Q at *
 generalize wd (aF ax (neg bx))=u1 at *
 generalize wd (aF cx (neg bx))=v1 at *
 generalize wd (aF ay (neg by'))=u2 at *
 generalize wd (aF cy (neg by'))=v2 at *
 have hb0:=df w (.cells #[G6 ax,G6 ay] 33) (.cells #[G6 bx,G6 by'] 33) (.cells #[G6 cx,G6 cy] 33)
 have a_k:=pD w (.cells #[G6 ax,G6 ay] 33) (.cells #[G6 bx,G6 by'] 33) (.cells #[G6 cx,G6 cy] 33)
 have b_k:=pE w (.cells #[G6 ax,G6 ay] 33) (.cells #[G6 bx,G6 by'] 33) (.cells #[G6 cx,G6 cy] 33)
 have c_k:=lh w (.cells #[G6 ax,G6 ay] 33) (.cells #[G6 bx,G6 by'] 33) (.cells #[G6 cx,G6 cy] 33)
 go_enter func33,ntmps33
 go_wp2_with fail
 generalize ((w.alloc (.cells #[G6 ax,G6 ay] 33)).alloc (.cells #[G6 bx,G6 by'] 33)).alloc (.cells #[G6 cx,G6 cy] 33)=x0 at hb0 a_k b_k c_k ⊢
 have f_a0:=ae a_k 0 rfl
 have f_a1:=ae a_k 1 rfl
 have f_b0:=ae b_k 0 rfl
 have f_b1:=ae b_k 1 rfl
 have f_c0:=ae c_k 0 rfl
 have f_c1:=ae c_k 1 rfl
 clear a_k b_k c_k
 go_quiet (first|(go_at_call 87;with_reducible exact Calls.quiet_of_same (C1.out _))|(go_at_call 87;with_reducible exact Calls.quiet_of_same (C2.out _)))
 go_wp2_with fail
 have hd:=cV (ap x0) nq
 have g_a1:=ar f_a1 hd
 have g_b1:=ar f_b1 hd
 have g_c1:=ar f_c1 hd
 have hb1:=ac hb0 hd
 generalize x0.drewN nq=x1 at g_a1 g_b1 g_c1 hb1 ⊢
 clear hd
 clear f_a0 f_a1 f_b0 f_b1 f_c0 f_c1
 go_quiet (first|(go_at_call 87;with_reducible exact Calls.quiet_of_same (C3.out _))|(go_at_call 87;with_reducible exact Calls.quiet_of_same (C4.out _)))
 go_wp2
 exact bodyPost_ret (v:=.tuple #[G7 P,G7 Q]) (by simp[results,results33,go_sem]) rfl ⟨rfl,cV hb1 _⟩
theorem Ib {w w':World} {V:Int} {v:Value} (h:bw w w' V v) (o:Obj):bw w (w'.alloc o) V v:=h.stays (af _ _)
theorem nE {p q:Int} (pp:ak p=true) (pq:ak q=true) (w:World) (H:aO w) :
  Calls prog 78 #[G6 p,G6 q] w fun r w'=>∃ v,r=.returned v∧bw w w' (aq p-aq q) v:=by
 have r_k:=aD w (.cells #[.bool false,.slice none 0 0,G6 0] 40)
 have hb0:=af w (.cells #[.bool false,.slice none 0 0,G6 0] 40)
 have B1:=dp pp
 have B2:=dp pq
 go_enter func78,ntmps78
 go_wp2_with fail
 generalize w.alloc (.cells #[.bool false,.slice none 0 0,G6 0] 40)=x0 at r_k hb0 ⊢
 have H:=H.keeps hb0
 refine(yW pp H).mono ?_
 rintro _ y1 ⟨v,rfl,h1⟩
 obtain⟨x_g,x_o,x_n,x_c,x_e,rfl⟩:=bZ h1
 have hw1:=h1.below
 have x_D:=h1.num
 have H:=H.keeps hw1
 have r_k:=(hw1.block _ (aGe r_k).1).trans r_k
 have hb1:=ac hb0 hw1
 have r_k:=am (.cells #[.bool x_g,.slice x_o x_n x_c,G6 x_e] 40) r_k
 have x_k:=aD y1 (.cells #[.bool x_g,.slice x_o x_n x_c,G6 x_e] 40)
 have x_D:=x_D.keeps (af y1 (.cells #[.bool x_g,.slice x_o x_n x_c,G6 x_e] 40))
 have H:=H.keeps (af y1 (.cells #[.bool x_g,.slice x_o x_n x_c,G6 x_e] 40))
 have hb2':=ac hb1 (af y1 (.cells #[.bool x_g,.slice x_o x_n x_c,G6 x_e] 40))
 go_wp2_with fail
 generalize y1.alloc (.cells #[.bool x_g,.slice x_o x_n x_c,G6 x_e] 40)=x2 at r_k x_k x_D H hb2' ⊢
 refine(yW pq H).mono ?_
 rintro _ y2 ⟨v,rfl,h2⟩
 obtain⟨y_g,y_o,y_n,y_c,y_e,rfl⟩:=bZ h2
 have hw2:=h2.below
 have y_D:=h2.num
 have H:=H.keeps hw2
 have r_k:=(hw2.block _ (aGe r_k).1).trans r_k
 have x_k:=(hw2.block _ (aGe x_k).1).trans x_k
 have x_D:=x_D.keeps hw2
 have hb2:=ac hb2' hw2
 have r_k:=am (.cells #[.bool y_g,.slice y_o y_n y_c,G6 y_e] 40) r_k
 have x_k:=am (.cells #[.bool y_g,.slice y_o y_n y_c,G6 y_e] 40) x_k
 have y_k:=aD y2 (.cells #[.bool y_g,.slice y_o y_n y_c,G6 y_e] 40)
 have x_D:=x_D.keeps (af y2 (.cells #[.bool y_g,.slice y_o y_n y_c,G6 y_e] 40))
 have y_D:=y_D.keeps (af y2 (.cells #[.bool y_g,.slice y_o y_n y_c,G6 y_e] 40))
 have H:=H.keeps (af y2 (.cells #[.bool y_g,.slice y_o y_n y_c,G6 y_e] 40))
 have hb3':=ac hb2 (af y2 (.cells #[.bool y_g,.slice y_o y_n y_c,G6 y_e] 40))
 have f_x0:=ae x_k 0 rfl
 have f_x1:=ae x_k 1 rfl
 have f_x2:=ae x_k 2 rfl
 go_wp2_with fail
 clear f_x0 f_x1 f_x2
 generalize y2.alloc (.cells #[.bool y_g,.slice y_o y_n y_c,G6 y_e] 40)=x3 at r_k x_k y_k x_D y_D H hb3' ⊢
 have hs0:=(aGe r_k).1
 refine(Qq x_D y_D B1 B2 (by omega) H.tab).mono ?_
 rintro _ y3 ⟨v,rfl,h3⟩
 obtain⟨n_g,n_o,n_n,n_c,n_e,rfl⟩:=bZ h3
 have hw3:=h3.below
 have n_D:=h3.num
 have H:=H.keeps hw3
 have r_k:=(hw3.block _ (aGe r_k).1).trans r_k
 have x_k:=(hw3.block _ (aGe x_k).1).trans x_k
 have x_D:=x_D.keeps hw3
 have y_k:=(hw3.block _ (aGe y_k).1).trans y_k
 have y_D:=y_D.keeps hw3
 have hb3:=ac hb3' hw3
 have r_k:=am (.cells #[.bool n_g,.slice n_o n_n n_c,G6 n_e] 40) r_k
 have k0:=ae r_k 0 rfl
 have k1:=ae r_k 1 rfl
 have k2:=ae r_k 2 rfl
 have z0:=ah r_k 0
 have z1:=ah r_k 1
 have z2:=ah r_k 2
 go_wp2
 refine bodyPost_ret (v:=.agg #[.bool n_g,.slice n_o n_n n_c,G6 n_e]) (by simp[results,results78,go_sem,k0,k1,k2]) rfl ⟨_,rfl,?_⟩
 exact cJ (g:=w.heap.size) (Ib h3 _) (by assumption) (Nat.le_refl _) hs0 _ _ _
theorem rD (ng:Bool) (ao:Option Addr) (n cap:Nat) (e:Int) (w:World) (hm:n<=9223372036854775807) :
  Calls prog 175 #[.agg #[.bool ng,.slice ao n cap,G6 e]] w fun r w'=>r=.returned (G6 (fK ng n))∧Below w.heap.size w w':=by
 by_cases h0:n=0
 ·subst h0
  go_enter func175,ntmps175
  go_wp2
  go_ret
  exact⟨rfl,af _ _⟩
 ·have hn0:((n:Int) == 0)=false:=by simp;omega
  cases ng
  ·go_enter func175,ntmps175
   go_wp2
   go_ret
   exact⟨de (by simp[fK,h0]),af _ _⟩
  ·go_enter func175,ntmps175
   go_wp2
   go_ret
   exact⟨de (by simp[fK,h0]),af _ _⟩
def aW.opp (x:aW):aW:=⟨if x.n=0 then x.ng else !x.ng,x.ao,x.n,x.cap,x.d,x.e⟩
theorem yx (x:aW) (w:World) (hm:x.n<=9223372036854775807) :
  Calls prog 180 #[x.v] w fun r w'=>r=.returned x.opp.v∧Below w.heap.size w w':=by
 obtain⟨ng,ao,n,cap,d,e⟩:=x
 unfold aW.v aW.opp
 simp only at *
 by_cases h0:n=0
 ·subst h0
  go_enter func180,ntmps180
  go_wp2
  refine bodyPost_ret (v:=.agg #[.bool ng,.slice ao 0 cap,G6 e]) (by simp[results,results180,go_sem]) rfl ⟨rfl,?_⟩
  exact aM _ _ _
 ·have hn0:(0:Int)<n:=by omega
  rw[if_neg h0]
  go_enter func180,ntmps180
  go_wp2
  refine bodyPost_ret (v:=.agg #[.bool (!ng),.slice ao n cap,G6 e]) (by simp[results,results180,go_sem]) rfl ⟨rfl,?_⟩
  exact aM _ _ _
theorem th (x y:aW) (w:World) (hx:aU w x.ao x.n x.cap x.d) (hy:aU w y.ao y.n y.cap y.d) (sx:gp x) (sy:gp y) :
  Calls prog 151 #[x.v,y.v] w fun r w'=>∃ v,r=.returned v∧bw w w' (oj x y) v:=by
 have hV:oj x y=sg (x.ng != y.ng) (val x.d x.n*val y.d y.n)*pw (x.e+y.e):=rfl
 have he:-4194304<=x.e+y.e∧x.e+y.e<=4194304:=by have:=sx.2.2.1;have:=sy.2.2.1;have:=sx.2.2.2;have:=sy.2.2.2;omega
 have hlen:val x.d x.n*val y.d y.n<P 10000:=by
  have a1:=dF sx.1.1
  have a2:=dF sy.1.1
  have b1:=bL sx.1.1
  have b2:=bL sy.1.1
  have c1:val x.d x.n*val y.d y.n<=P x.n*val y.d y.n:=Int.mul_le_mul_of_nonneg_right (by omega) b2
  have c2:P x.n*val y.d y.n<P x.n*P y.n:=Int.mul_lt_mul_of_pos_left a2 (dt _)
  rw[<- qw] at c2
  have:=nf (show x.n+y.n<=10000 by have:=sx.2.1;have:=sy.2.1;omega)
  omega
 obtain⟨an,ao,n,ca,a,e⟩:=x
 obtain⟨bn,bo,m,cb,b,f⟩:=y
 obtain⟨s1,s2,s3,s4⟩:=sx
 obtain⟨t1,t2,t3,t4⟩:=sy
 unfold aW.v
 simp only at *
 rw[hV]
 clear hV
 generalize hVV:sg (an != bn) (val a n*val b m)*pw (e+f)=V
 have HVV:Hid (sg (an != bn) (val a n*val b m)*pw (e+f)=V):=hVV
 clear hVV
 have hw:IntKind.i64.wrap (e+f)=e+f:=by rw[bK];omega
 have hb3:=df w (.cells #[.bool an,.slice ao n ca,G6 e] 40) (.cells #[.bool bn,.slice bo m cb,G6 f] 40) (.cells #[.bool false,.slice none 0 0,G6 0] 40)
 have g0:=pD w (.cells #[.bool an,.slice ao n ca,G6 e] 40) (.cells #[.bool bn,.slice bo m cb,G6 f] 40) (.cells #[.bool false,.slice none 0 0,G6 0] 40)
 have g1:=pE w (.cells #[.bool an,.slice ao n ca,G6 e] 40) (.cells #[.bool bn,.slice bo m cb,G6 f] 40) (.cells #[.bool false,.slice none 0 0,G6 0] 40)
 have g2:=lh w (.cells #[.bool an,.slice ao n ca,G6 e] 40) (.cells #[.bool bn,.slice bo m cb,G6 f] 40) (.cells #[.bool false,.slice none 0 0,G6 0] 40)
 have hs3:=nt w (.cells #[.bool an,.slice ao n ca,G6 e] 40) (.cells #[.bool bn,.slice bo m cb,G6 f] 40) (.cells #[.bool false,.slice none 0 0,G6 0] 40)
 go_enter func151,ntmps151
 go_wp2_with fail
 have HX:=hx.keeps hb3
 have HY:=hy.keeps hb3
 generalize ((w.alloc (.cells #[.bool an,.slice ao n ca,G6 e] 40)).alloc (.cells #[.bool bn,.slice bo m cb,G6 f] 40)).alloc (.cells #[.bool false,.slice none 0 0,G6 0] 40)=wx at hb3 g0 g1 g2 hs3 HX HY ⊢
 have k0:=ae g0 0 rfl
 have k1:=ae g0 1 rfl
 have k2:=ae g0 2 rfl
 have j0:=ae g1 0 rfl
 have j1:=ae g1 1 rfl
 have j2:=ae g1 2 rfl
 have hb1:=ap wx
 have C1:∀ W,Below wx.heap.size wx W->Calls prog 203 #[.slice ao n ca,.slice bo m cb] W fun r w'=>∃ so sn sc,r=.returned (.slice so sn sc)∧dE W w' (val a n*val b m) (.slice so sn sc)∧Below W.heap.size W w':=fun W h=>by
  refine(Je ao bo n m ca cb a b W (HX.keeps h) (HY.keeps h) s1 t1 (by omega) (by omega)).mono ?_
  rintro r w' ⟨v,rfl,hA⟩
  obtain⟨so,sn,sc,rfl⟩:=hA.num.shape
  exact⟨so,sn,sc,rfl,hA,hA.below⟩
 have C2:∀ W so sn sc,dU W (.slice so sn sc) (val a n*val b m)->Calls prog 202 #[.bool (!(an == bn)),.slice so sn sc,G6 (e+f)] W fun r w'=>∃ ng s1 s2 s3 e1,r=.returned (.agg #[.bool ng,.slice s1 s2 s3,G6 e1])∧bw W w' V (.agg #[.bool ng,.slice s1 s2 s3,G6 e1])∧Below W.heap.size W w':=fun W so sn sc hN=>by
  have hsn:sn<=10000:=hN.len hlen
  obtain⟨ao',n',ca',d,e1,hR,h2,h3⟩:=hN
  simp only[Value.slice.injEq] at e1
  obtain⟨rfl,rfl,rfl⟩:=e1
  refine(sP (an != bn) _ _ _ d (e+f) W hR h2.1 (by omega) (by omega) (by omega)).mono ?_
  rw[h3,HVV.out]
  rintro r w' ⟨v,rfl,hD⟩
  obtain⟨ng,s,m',e1,rfl,_,hA⟩:=id hD
  obtain⟨q1,q2,q3,rfl⟩:=hA.num.shape
  exact⟨ng,q1,q2,q3,e1,rfl,hD,hD.below⟩
 clear hlen
 go_region_held3 (fun W=>(W.cell? ⟨w.heap.size,0,none⟩=some (.bool an)∧W.cell? ⟨w.heap.size,1,none⟩=some (.slice ao n ca)∧W.cell? ⟨w.heap.size,2,none⟩=some (G6 e))∧W.cell? ⟨w.heap.size+1,0,none⟩=some (.bool bn)∧W.cell? ⟨w.heap.size+1,1,none⟩=some (.slice bo m cb)∧W.cell? ⟨w.heap.size+1,2,none⟩=some (G6 f))
  (first|assumption|exact⟨⟨k0,k1,k2⟩,j0,j1,j2⟩|exact cu (W:=wx.drew) hbv1 ⟨⟨k0,k1,k2⟩,j0,j1,j2⟩|exact cu hbv2 (cu (W:=wx.drew) hbv1 ⟨⟨k0,k1,k2⟩,j0,j1,j2⟩)|exact⟨lb (cu hbv2 (cu (W:=wx.drew) hbv1 ⟨⟨k0,k1,k2⟩,j0,j1,j2⟩)).1 (by omega) _ _ _,lb (cu hbv2 (cu (W:=wx.drew) hbv1 ⟨⟨k0,k1,k2⟩,j0,j1,j2⟩)).2 (by omega) _ _ _⟩)
  (first|(go_at_call 202;refine(C2 _ _ _ _ hv1.num).mono ?_;rintro y w4 ⟨ng4,o4,n4,c4,e4,rfl,hv2,hbv2⟩;have q0:=((ac hbv1 hbv2).block (w.heap.size+2) (by show _<wx.heap.size;omega)).trans g2;have x0:=ae q0 0 rfl;have x1:=ae q0 1 rfl;have x2:=ae q0 2 rfl;have z0:=ah q0 0;have z1:=ah q0 1;have z2:=ah q0 2)|(go_at_call 203;refine(C1 _ hb1.drew).mono ?_;rintro y w3 ⟨so,sn,sc,rfl,hv1,hbv1⟩))
 all_goals go_wp2
 all_goals
  refine bodyPost_ret (v:=.agg #[.bool ng4,.slice o4 n4 c4,G6 e4]) (by simp[results,results151,go_sem,x0,x1,x2]) rfl ⟨_,rfl,?_⟩
  exact cJ (g:=w.heap.size+2) hv2 (ac hb3 (ac hb1.drew hbv1)) (by omega) (Nat.lt_of_lt_of_le (show _<wx.heap.size by omega) hbv1.size) _ _ _
theorem tN {K:Nat} {A:Int} {ng:Bool} {m e:Int} (h:Bd K A) (hy:Dy A ng m e) (hK:K<=4194304) (h0:0<m):-(K:Int)<=e∧e<=K∧m*2^(e+K).toNat<2^(2*K):=by
 obtain⟨c,hc,c1,c2⟩:=h
 have au:∀ (b:Bool) (C:Int),0<C->C<2^(2*K)->A=sg b C*pw (-(K:Int))->-(K:Int)<=e∧e<=K∧m*2^(e+K).toNat<2^(2*K):=fun b C hC hlt hA=>by
  obtain⟨l,hl⟩:=mq hC
  have hy2:=Dy.of b hl hC (show -4194304 <= -(K:Int) by omega)
  rw[<- hA] at hy2
  obtain⟨_,rfl,rfl⟩:=hy.unique hy2
  obtain⟨d1,d2,d3⟩:=jf hl hC
  have hl2:l<2*K:=by
   have h3:(1:Int)*2^l<=C/2^l*2^l:=Int.mul_le_mul_of_nonneg_right (by omega) (Int.le_of_lt (aR l))
   rw[d3] at h3
   exact iz (by omega)
  refine⟨by omega,by omega,?_⟩
  rw[show(-(K:Int)+l+K).toNat=l by omega,d3]
  exact hlt
 by_cases hz:c=0
 ·exfalso
  rw[hz,Int.zero_mul] at hc
  have:=hy.eq_zero.1 hc
  omega
 ·by_cases hp:0<c
  ·exact au false c hp c2 (by simpa [sg] using hc)
  ·exact au true (-c) (by omega) (by omega) (by simpa [sg] using hc)
theorem AR {K:Nat} {A:Int} {ng:Bool} {m e low:Int} (h:Bd K A) (hy:Dy A ng m e) (hK:K<=4194304) (h0:0<m) (h1:-(K:Int)<=low) (h2:low<=e):m*2^(e-low).toNat<2^(2*K):=by
 obtain⟨a,b,c⟩:=tN h hy hK h0
 have h3:(2:Int)^(e-low).toNat<=2^(e+K).toNat:=eG (by omega)
 have h4:m*2^(e-low).toNat<=m*2^(e+K).toNat:=Int.mul_le_mul_of_nonneg_left h3 (by omega)
 omega
theorem DF {K:Nat} {A:Int} {ng:Bool} {m e:Int} (h:Bd K A) (hy:Dy A ng m e) (hK:K<=4194304) (h0:0<m):m<2^(2*K):=by
 obtain⟨a,b,c⟩:=tN h hy hK h0
 have h3:(1:Int)<=2^(e+K).toNat:=aR _
 have h4:m*1<=m*2^(e+K).toNat:=Int.mul_le_mul_of_nonneg_left h3 (by omega)
 omega
theorem yz {K:Nat} {d:Nat->Int} {n:Nat} (hK:K<=560000) (hN:cT d n) (h:val d n<2^(2*K)):n<=37400:=by
 by_cases h1:n<=37400
 ·exact h1
 ·exfalso
  have a:=ik hN.1 (by omega) hN.2
  have b:=nf (show 37400<=n-1 by omega)
  have c:(2:Int)^(2*K)<=2^(30*37400):=eG (by omega)
  rw[<- ft] at c
  generalize P 37400=Y at *
  omega
def nk (w w':World) (A B:Int) (x y v:Value):Prop:=Below w.heap.size w w'∧(bw w w' (A+B) v∨(A=0∧v=y)∨(B=0∧v=x))
theorem nk.num {w w':World} {A B:Int} {x y v:Value} (h:nk w w' A B x y v) (hx:br w x A) (hy:br w y B):br w' v (A+B):=by
 rcases h.2 with h1|⟨rfl,rfl⟩|⟨rfl,rfl⟩
 ·exact h1.num
 ·rw[Int.zero_add];exact hy.keeps h.1
 ·rw[Int.add_zero];exact hx.keeps h.1
theorem EZ (x y:aW) (w:World) (hm:x.n<=9223372036854775807) (hm':y.n<=9223372036854775807) (h:x.n=0) :
  Calls prog 152 #[x.v,y.v] w fun r w'=>r=.returned y.v∧Below w.heap.size w w':=by
 obtain⟨an,ao,n,ca,a,e⟩:=x
 obtain⟨bn,bo,m,cb,b,f⟩:=y
 unfold aW.v at *
 simp only at *
 subst h
 go_enter func152,ntmps152
 go_wp2
 refine bodyPost_ret (v:=.agg #[.bool bn,.slice bo m cb,G6 f]) (by simp[results,results152,go_sem]) rfl ⟨rfl,?_⟩
 exact df _ _ _ _
theorem Cd (x y:aW) (w:World) (hm:x.n<=9223372036854775807) (hm':y.n<=9223372036854775807) (h0:0<x.n) (h:y.n=0) :
  Calls prog 152 #[x.v,y.v] w fun r w'=>r=.returned x.v∧Below w.heap.size w w':=by
 obtain⟨an,ao,n,ca,a,e⟩:=x
 obtain⟨bn,bo,m,cb,b,f⟩:=y
 unfold aW.v at *
 simp only at *
 have hn0:((n:Int) == 0)=false:=by simp;omega
 subst h
 go_enter func152,ntmps152
 go_wp2
 refine bodyPost_ret (v:=.agg #[.bool an,.slice ao n ca,G6 e]) (by simp[results,results152,go_sem]) rfl ⟨rfl,?_⟩
 exact df _ _ _ _
theorem Fa (x y:aW) (w:World) (hx:aU w x.ao x.n x.cap x.d) (hy:aU w y.ao y.n y.cap y.d) (n0:0<x.n) (m0:0<y.n) (low A B V:Int)
  (hlow:low=min x.e y.e) (hl0:-600000<=low) (he:x.e<=600000) (hf:y.e<=600000)
  (H1:∀ W,Below w.heap.size w W->Calls prog 204 #[.slice x.ao x.n x.cap,G6 (x.e-low)] W fun r w'=>∃ so sn sc,r=.returned (.slice so sn sc)∧dU w' (.slice so sn sc) A∧Below W.heap.size W w')
  (H2:∀ W,Below w.heap.size w W->Calls prog 204 #[.slice y.ao y.n y.cap,G6 (y.e-low)] W fun r w'=>∃ so sn sc,r=.returned (.slice so sn sc)∧dU w' (.slice so sn sc) B∧Below W.heap.size W w')
  (H3:∀ W p q,dU W p A->dU W q B->Calls prog 205 #[p,q] W fun r w'=>∃ so sn sc,r=.returned (.slice so sn sc)∧dU w' (.slice so sn sc) (A+B)∧Below W.heap.size W w')
  (H4:∀ W p q,dU W p A->dU W q B->Calls prog 206 #[p,q] W fun r w'=>r=.returned (G6 (bH A B))∧Below W.heap.size W w')
  (H5:∀ W p q,dU W p A->dU W q B->B<=A->Calls prog 207 #[p,q] W fun r w'=>∃ so sn sc,r=.returned (.slice so sn sc)∧dU w' (.slice so sn sc) (A-B)∧Below W.heap.size W w')
  (H6:∀ W p q,dU W p A->dU W q B->A<=B->Calls prog 207 #[q,p] W fun r w'=>∃ so sn sc,r=.returned (.slice so sn sc)∧dU w' (.slice so sn sc) (B-A)∧Below W.heap.size W w')
  (H7:∀ W ng s M,dU W s M->((x.ng=y.ng∧ng=x.ng∧M=A+B)∨(x.ng≠y.ng∧B<=A∧ng=x.ng∧M=A-B)∨(x.ng≠y.ng∧A<B∧ng=y.ng∧M=B-A))->Calls prog 202 #[.bool ng,s,G6 low] W fun r w'=>∃ ng s1 s2 s3 e1,r=.returned (.agg #[.bool ng,.slice s1 s2 s3,G6 e1])∧bw W w' V (.agg #[.bool ng,.slice s1 s2 s3,G6 e1])∧Below W.heap.size W w') :
  Calls prog 152 #[x.v,y.v] w fun r w'=>∃ v,r=.returned v∧bw w w' V v:=by
 have hmin:∀ (ts:Array TypeId) (t:TypeId) (w:World),(Builtin.min_ ts t #[G6 x.e,G6 y.e]).run prog w=.ok (G6 low) w:=fun ts t w=>by rw[run_min_int2,hlow];congr 2;omega
 have hl1:low<=x.e:=by omega
 have hl2:low<=y.e:=by omega
 have HH7:Hid _:=H7
 have hm:=hx.max
 have hm':=hy.max
 clear hlow H7
 obtain⟨an,ao,n,ca,a,e⟩:=x
 obtain⟨bn,bo,m,cb,b,f⟩:=y
 unfold aW.v
 simp only at *
 have hn0:((n:Int) == 0)=false:=by simp;omega
 have hm0:((m:Int) == 0)=false:=by simp;omega
 have hb3:Below w.heap.size w (((w.alloc (.cells #[.bool an,.slice ao n ca,G6 e] 40)).alloc (.cells #[.bool bn,.slice bo m cb,G6 f] 40)).alloc (.cells #[.bool false,.slice none 0 0,G6 0] 40)):=df _ _ _ _
 have g0:=pD w (.cells #[.bool an,.slice ao n ca,G6 e] 40) (.cells #[.bool bn,.slice bo m cb,G6 f] 40) (.cells #[.bool false,.slice none 0 0,G6 0] 40)
 have g1:=pE w (.cells #[.bool an,.slice ao n ca,G6 e] 40) (.cells #[.bool bn,.slice bo m cb,G6 f] 40) (.cells #[.bool false,.slice none 0 0,G6 0] 40)
 have g2:=lh w (.cells #[.bool an,.slice ao n ca,G6 e] 40) (.cells #[.bool bn,.slice bo m cb,G6 f] 40) (.cells #[.bool false,.slice none 0 0,G6 0] 40)
 go_enter func152,ntmps152
 go_wp2_with fail
 generalize ((w.alloc (.cells #[.bool an,.slice ao n ca,G6 e] 40)).alloc (.cells #[.bool bn,.slice bo m cb,G6 f] 40)).alloc (.cells #[.bool false,.slice none 0 0,G6 0] 40)=wx at hb3 g0 g1 g2 ⊢
 refine(H1 _ hb3).mono ?_
 rintro r w1 ⟨po,pn,pc,rfl,hP,hb1⟩
 have hbx1:=ac hb3 hb1
 replace g0:=(hb1.block _ (aGe g0).1).trans g0
 replace g1:=(hb1.block _ (aGe g1).1).trans g1
 replace g2:=(hb1.block _ (aGe g2).1).trans g2
 have j1:=ae g1 1 rfl
 have j2:=ae g1 2 rfl
 go_wp2_with fail
 clear j1 j2
 refine(H2 _ hbx1).mono ?_
 rintro r w2 ⟨qo,qn,qc,rfl,hQ,hb2⟩
 have hbx2:=ac hbx1 hb2
 replace hP:=hP.keeps hb2
 replace g0:=(hb2.block _ (aGe g0).1).trans g0
 replace g1:=(hb2.block _ (aGe g1).1).trans g1
 replace g2:=(hb2.block _ (aGe g2).1).trans g2
 have k0:=ae g0 0 rfl
 have k1:=ae g0 1 rfl
 have k2:=ae g0 2 rfl
 have j0:=ae g1 0 rfl
 have j1:=ae g1 1 rfl
 have j2:=ae g1 2 rfl
 by_cases hng:an=bn
 ·subst hng
  have C1:∀ W,Below w2.heap.size w2 W->Calls prog 205 #[.slice po pn pc,.slice qo qn qc] W fun r w'=>∃ so sn sc,r=.returned (.slice so sn sc)∧dU w' (.slice so sn sc) (A+B)∧Below W.heap.size W w':=fun W h=>H3 W _ _ (hP.keeps h) (hQ.keeps h)
  have C2:∀ W so sn sc,dU W (.slice so sn sc) (A+B)->Calls prog 202 #[.bool an,.slice so sn sc,G6 low] W fun r w'=>∃ ng s1 s2 s3 e1,r=.returned (.agg #[.bool ng,.slice s1 s2 s3,G6 e1])∧bw W w' V (.agg #[.bool ng,.slice s1 s2 s3,G6 e1])∧Below W.heap.size W w':=fun W so sn sc hN=>HH7.out W an _ _ hN (.inl ⟨rfl,rfl,rfl⟩)
  clear H1 H2 H3 H4 H5 H6 HH7
  have hs3:=(aGe g2).1
  go_wp2_with fail
  have hb1:=ap w2
  go_region_held3 (fun W=>(W.cell? ⟨w.heap.size,0,none⟩=some (.bool an)∧W.cell? ⟨w.heap.size,1,none⟩=some (.slice ao n ca)∧W.cell? ⟨w.heap.size,2,none⟩=some (G6 e))∧W.cell? ⟨w.heap.size+1,0,none⟩=some (.bool an)∧W.cell? ⟨w.heap.size+1,1,none⟩=some (.slice bo m cb)∧W.cell? ⟨w.heap.size+1,2,none⟩=some (G6 f))
   (first|assumption|exact⟨⟨k0,k1,k2⟩,j0,j1,j2⟩|exact cu (W:=w2.drew) hbv1 ⟨⟨k0,k1,k2⟩,j0,j1,j2⟩|exact cu hbv2 (cu (W:=w2.drew) hbv1 ⟨⟨k0,k1,k2⟩,j0,j1,j2⟩)|exact⟨lb (cu hbv2 (cu (W:=w2.drew) hbv1 ⟨⟨k0,k1,k2⟩,j0,j1,j2⟩)).1 (by omega) _ _ _,lb (cu hbv2 (cu (W:=w2.drew) hbv1 ⟨⟨k0,k1,k2⟩,j0,j1,j2⟩)).2 (by omega) _ _ _⟩)
   (first|(go_at_call 202;refine(C2 _ _ _ _ hv1).mono ?_;rintro y w4 ⟨ng4,o4,n4,c4,e4,rfl,hv2,hbv2⟩;have q0:=((ac hbv1 hbv2).block (w.heap.size+2) (by show _<w2.heap.size;omega)).trans g2;have x0:=ae q0 0 rfl;have x1:=ae q0 1 rfl;have x2:=ae q0 2 rfl;have z0:=ah q0 0;have z1:=ah q0 1;have z2:=ah q0 2)|(go_at_call 205;refine(C1 _ hb1.drew).mono ?_;rintro y w3 ⟨so,sn,sc,rfl,hv1,hbv1⟩))
  all_goals go_wp2
  all_goals
   refine bodyPost_ret (v:=.agg #[.bool ng4,.slice o4 n4 c4,G6 e4]) (by simp[results,results152,go_sem,x0,x1,x2]) rfl ⟨_,rfl,?_⟩
   exact cJ (g:=w.heap.size+2) hv2 (ac hbx2 (ac hb1.drew hbv1)) (by omega) (Nat.lt_of_lt_of_le (show _<w2.heap.size by omega) hbv1.size) _ _ _
 ·have hng':(an == bn)=false:=by simp[hng]
  go_wp2_with fail
  refine(H4 _ _ _ hP hQ).mono ?_
  rintro r w3 ⟨rfl,hb3'⟩
  have hbx3:=ac hbx2 hb3'
  replace hP:=hP.keeps hb3'
  replace hQ:=hQ.keeps hb3'
  replace g0:=(hb3'.block _ (aGe g0).1).trans g0
  replace g1:=(hb3'.block _ (aGe g1).1).trans g1
  replace g2:=(hb3'.block _ (aGe g2).1).trans g2
  replace k0:=ae g0 0 rfl
  replace k1:=ae g0 1 rfl
  replace k2:=ae g0 2 rfl
  replace j0:=ae g1 0 rfl
  replace j1:=ae g1 1 rfl
  replace j2:=ae g1 2 rfl
  have hs3:=(aGe g2).1
  by_cases hAB:B<=A
  ·have ho:(0:Int)<=bH A B:=by
    rcases Int.lt_trichotomy A B with h|h|h
    ·omega
    ·rw[jE h];decide
    ·rw[gf h];decide
   have C1:∀ W,Below w3.heap.size w3 W->Calls prog 207 #[.slice po pn pc,.slice qo qn qc] W fun r w'=>∃ so sn sc,r=.returned (.slice so sn sc)∧dU w' (.slice so sn sc) (A-B)∧Below W.heap.size W w':=fun W h=>H5 W _ _ (hP.keeps h) (hQ.keeps h) hAB
   have C2:∀ W so sn sc,dU W (.slice so sn sc) (A-B)->Calls prog 202 #[.bool an,.slice so sn sc,G6 low] W fun r w'=>∃ ng s1 s2 s3 e1,r=.returned (.agg #[.bool ng,.slice s1 s2 s3,G6 e1])∧bw W w' V (.agg #[.bool ng,.slice s1 s2 s3,G6 e1])∧Below W.heap.size W w':=fun W so sn sc hN=>HH7.out W an _ _ hN (.inr (.inl ⟨hng,hAB,rfl,rfl⟩))
   generalize bH A B=oAB at ho ⊢
   clear H1 H2 H3 H4 H5 H6 HH7 hAB
   go_wp2_with fail
   have hb1:=ap w3
   go_region_held3 (fun W=>(W.cell? ⟨w.heap.size,0,none⟩=some (.bool an)∧W.cell? ⟨w.heap.size,1,none⟩=some (.slice ao n ca)∧W.cell? ⟨w.heap.size,2,none⟩=some (G6 e))∧W.cell? ⟨w.heap.size+1,0,none⟩=some (.bool bn)∧W.cell? ⟨w.heap.size+1,1,none⟩=some (.slice bo m cb)∧W.cell? ⟨w.heap.size+1,2,none⟩=some (G6 f))
    (first|assumption|exact⟨⟨k0,k1,k2⟩,j0,j1,j2⟩|exact cu (W:=w3.drew) hbv1 ⟨⟨k0,k1,k2⟩,j0,j1,j2⟩|exact cu hbv2 (cu (W:=w3.drew) hbv1 ⟨⟨k0,k1,k2⟩,j0,j1,j2⟩)|exact⟨lb (cu hbv2 (cu (W:=w3.drew) hbv1 ⟨⟨k0,k1,k2⟩,j0,j1,j2⟩)).1 (by omega) _ _ _,lb (cu hbv2 (cu (W:=w3.drew) hbv1 ⟨⟨k0,k1,k2⟩,j0,j1,j2⟩)).2 (by omega) _ _ _⟩)
    (first|(go_at_call 202;refine(C2 _ _ _ _ hv1).mono ?_;rintro y w4 ⟨ng4,o4,n4,c4,e4,rfl,hv2,hbv2⟩;have q0:=((ac hbv1 hbv2).block (w.heap.size+2) (by show _<w3.heap.size;omega)).trans g2;have x0:=ae q0 0 rfl;have x1:=ae q0 1 rfl;have x2:=ae q0 2 rfl;have z0:=ah q0 0;have z1:=ah q0 1;have z2:=ah q0 2)|(go_at_call 207;refine(C1 _ hb1.drew).mono ?_;rintro y w3' ⟨so,sn,sc,rfl,hv1,hbv1⟩))
   all_goals go_wp2
   all_goals
    refine bodyPost_ret (v:=.agg #[.bool ng4,.slice o4 n4 c4,G6 e4]) (by simp[results,results152,go_sem,x0,x1,x2]) rfl ⟨_,rfl,?_⟩
    exact cJ (g:=w.heap.size+2) hv2 (ac hbx3 (ac hb1.drew hbv1)) (by omega) (Nat.lt_of_lt_of_le (show _<w3.heap.size by omega) hbv1.size) _ _ _
  ·have ho:bH A B<(0:Int):=by rw[gd (by omega)];decide
   have C1:∀ W,Below w3.heap.size w3 W->Calls prog 207 #[.slice qo qn qc,.slice po pn pc] W fun r w'=>∃ so sn sc,r=.returned (.slice so sn sc)∧dU w' (.slice so sn sc) (B-A)∧Below W.heap.size W w':=fun W h=>H6 W _ _ (hP.keeps h) (hQ.keeps h) (by omega)
   have C2:∀ W so sn sc,dU W (.slice so sn sc) (B-A)->Calls prog 202 #[.bool bn,.slice so sn sc,G6 low] W fun r w'=>∃ ng s1 s2 s3 e1,r=.returned (.agg #[.bool ng,.slice s1 s2 s3,G6 e1])∧bw W w' V (.agg #[.bool ng,.slice s1 s2 s3,G6 e1])∧Below W.heap.size W w':=fun W so sn sc hN=>HH7.out W bn _ _ hN (.inr (.inr ⟨hng,by omega,rfl,rfl⟩))
   generalize bH A B=oAB at ho ⊢
   clear H1 H2 H3 H4 H5 H6 HH7 hAB
   go_wp2_with fail
   have hb1:=ap w3
   go_region_held3 (fun W=>(W.cell? ⟨w.heap.size,0,none⟩=some (.bool an)∧W.cell? ⟨w.heap.size,1,none⟩=some (.slice ao n ca)∧W.cell? ⟨w.heap.size,2,none⟩=some (G6 e))∧W.cell? ⟨w.heap.size+1,0,none⟩=some (.bool bn)∧W.cell? ⟨w.heap.size+1,1,none⟩=some (.slice bo m cb)∧W.cell? ⟨w.heap.size+1,2,none⟩=some (G6 f))
    (first|assumption|exact⟨⟨k0,k1,k2⟩,j0,j1,j2⟩|exact cu (W:=w3.drew) hbv1 ⟨⟨k0,k1,k2⟩,j0,j1,j2⟩|exact cu hbv2 (cu (W:=w3.drew) hbv1 ⟨⟨k0,k1,k2⟩,j0,j1,j2⟩)|exact⟨lb (cu hbv2 (cu (W:=w3.drew) hbv1 ⟨⟨k0,k1,k2⟩,j0,j1,j2⟩)).1 (by omega) _ _ _,lb (cu hbv2 (cu (W:=w3.drew) hbv1 ⟨⟨k0,k1,k2⟩,j0,j1,j2⟩)).2 (by omega) _ _ _⟩)
    (first|(go_at_call 202;refine(C2 _ _ _ _ hv1).mono ?_;rintro y w4 ⟨ng4,o4,n4,c4,e4,rfl,hv2,hbv2⟩;have q0:=((ac hbv1 hbv2).block (w.heap.size+2) (by show _<w3.heap.size;omega)).trans g2;have x0:=ae q0 0 rfl;have x1:=ae q0 1 rfl;have x2:=ae q0 2 rfl;have z0:=ah q0 0;have z1:=ah q0 1;have z2:=ah q0 2)|(go_at_call 207;refine(C1 _ hb1.drew).mono ?_;rintro y w3' ⟨so,sn,sc,rfl,hv1,hbv1⟩))
   all_goals go_wp2
   all_goals
    refine bodyPost_ret (v:=.agg #[.bool ng4,.slice o4 n4 c4,G6 e4]) (by simp[results,results152,go_sem,x0,x1,x2]) rfl ⟨_,rfl,?_⟩
    exact cJ (g:=w.heap.size+2) hv2 (ac hbx3 (ac hb1.drew hbv1)) (by omega) (Nat.lt_of_lt_of_le (show _<w3.heap.size by omega) hbv1.size) _ _ _
theorem Pz {an bn:Bool} {A B low:Int} {ng:Bool} {M:Int} (h:(an=bn∧ng=an∧M=A+B)∨(an≠bn∧B<=A∧ng=an∧M=A-B)∨(an≠bn∧A<B∧ng=bn∧M=B-A)) :
  sg ng M*pw low=sg an A*pw low+sg bn B*pw low:=by
 rw[<- Int.add_mul]
 congr 1
 rcases h with⟨rfl,rfl,rfl⟩|⟨h1,h2,rfl,rfl⟩|⟨h1,h2,rfl,rfl⟩
 ·cases ng<;>simp[sg]<;>omega
 ·cases ng<;>cases bn<;>simp[sg] at *<;>omega
 ·cases an<;>cases ng<;>simp[sg] at *<;>omega
theorem dU.digits {w:World} {so:Option Addr} {sn sc:Nat} {M:Int} (h:dU w (.slice so sn sc) M) {K:Nat} (hK:K<=560000) (hM:M<2^(2*K)+2^(2*K)):∃ d,aU w so sn sc d∧cT d sn∧val d sn=M∧sn<=37500:=by
 obtain⟨ao,n,ca,d,e,hR,hN,hv⟩:=h
 simp only[Value.slice.injEq] at e
 obtain⟨rfl,rfl,rfl⟩:=e
 refine⟨d,hR,hN,hv,?_⟩
 by_cases h1:sn<=37500
 ·exact h1
 ·exfalso
  have a:=ik hN.1 (by omega) hN.2
  have b:=nf (show 37500<=sn-1 by omega)
  have c:(2:Int)^(2*K)<=2^(30*37400):=eG (by omega)
  have c2:(2:Int)^(30*37400)*2<=2^(30*37500):=by
   rw[<- Int.pow_succ]
   exact eG (by omega)
  rw[<- ft 37500] at c2
  generalize P 37500=Y at *
  generalize (2:Int)^(30*37400)=Z at *
  omega
theorem yA (x y:aW) (w:World) (hx:aU w x.ao x.n x.cap x.d) (hy:aU w y.ao y.n y.cap y.d) (dx:Dy x.V x.ng (val x.d x.n) x.e) (nx:cT x.d x.n) (dy:Dy y.V y.ng (val y.d y.n) y.e) (ny:cT y.d y.n) {K:Nat} (hK:K<=560000) (bx:Bd K x.V) (bY:Bd K y.V) :
  Calls prog 152 #[x.v,y.v] w fun r w'=>∃ v,r=.returned v∧nk w w' x.V y.V x.v y.v v:=by
 by_cases h0:x.n=0
 ·refine(EZ x y w (Nat.le_trans hx.le hx.max) (Nat.le_trans hy.le hy.max) h0).mono ?_
  rintro r w' ⟨rfl,hb⟩
  exact⟨_,rfl,hb,.inr (.inl ⟨dx.eq_zero.2 (by rw[h0];rfl),rfl⟩)⟩
 ·by_cases h1:y.n=0
  ·refine(Cd x y w (Nat.le_trans hx.le hx.max) (Nat.le_trans hy.le hy.max) (by omega) h1).mono ?_
   rintro r w' ⟨rfl,hb⟩
   exact⟨_,rfl,hb,.inr (.inr ⟨dy.eq_zero.2 (by rw[h1];rfl),rfl⟩)⟩
  ·have px:=kv nx (show 0<x.n by omega)
   have py:=kv ny (show 0<y.n by omega)
   obtain⟨a1,a2,_⟩:=tN bx dx (by omega) px
   obtain⟨b1,b2,_⟩:=tN bY dy (by omega) py
   obtain⟨low,hlow⟩:∃ low:Int,low=min x.e y.e:=⟨_,rfl⟩
   have hl0:-(K:Int)<=low:=by omega
   have s1:=AR bx dx (by omega) px hl0 (by omega)
   have s2:=AR bY dy (by omega) py hl0 (by omega)
   have v1:=dx.at (low:=low) (by omega) (by omega)
   have v2:=dy.at (low:=low) (by omega) (by omega)
   have dgx:=yz hK nx (DF bx dx (by omega) px)
   have dgy:=yz hK ny (DF bY dy (by omega) py)
   have q1:0<=val x.d x.n*2^(x.e-low).toNat:=Int.mul_nonneg (by omega) (Int.le_of_lt (aR _))
   have q2:0<=val y.d y.n*2^(y.e-low).toNat:=Int.mul_nonneg (by omega) (Int.le_of_lt (aR _))
   have e1:x.e-low=((x.e-low).toNat:Int):=by omega
   have e2:y.e-low=((y.e-low).toNat:Int):=by omega
   have H1:∀ W,Below w.heap.size w W->Calls prog 204 #[.slice x.ao x.n x.cap,G6 (x.e-low)] W fun r w'=>∃ so sn sc,r=.returned (.slice so sn sc)∧dU w' (.slice so sn sc) (val x.d x.n*2^(x.e-low).toNat)∧Below W.heap.size W w':=fun W hb=>by
    rw[e1]
    refine(uz x.ao x.n x.cap _ x.d W (hx.keeps hb) nx.1 (by omega) (by omega)).mono ?_
    rintro r w' ⟨v,rfl,hA⟩
    obtain⟨so,sn,sc,rfl⟩:=hA.num.shape
    exact⟨so,sn,sc,rfl,by rw[<- e1];exact hA.num,hA.below⟩
   have H2:∀ W,Below w.heap.size w W->Calls prog 204 #[.slice y.ao y.n y.cap,G6 (y.e-low)] W fun r w'=>∃ so sn sc,r=.returned (.slice so sn sc)∧dU w' (.slice so sn sc) (val y.d y.n*2^(y.e-low).toNat)∧Below W.heap.size W w':=fun W hb=>by
    rw[e2]
    refine(uz y.ao y.n y.cap _ y.d W (hy.keeps hb) ny.1 (by omega) (by omega)).mono ?_
    rintro r w' ⟨v,rfl,hA⟩
    obtain⟨so,sn,sc,rfl⟩:=hA.num.shape
    exact⟨so,sn,sc,rfl,by rw[<- e2];exact hA.num,hA.below⟩
   generalize val x.d x.n*2^(x.e-low).toNat=A at *
   generalize val y.d y.n*2^(y.e-low).toNat=B at *
   have dg:=fun W so sn sc M (h:dU W (.slice so sn sc) M) hM=>h.digits hK hM
   have au:∀ W p M,dU W p M->M<2^(2*K)+2^(2*K)->∃ so sn sc d,p=.slice so sn sc∧aU W so sn sc d∧cT d sn∧val d sn=M∧sn<=37500:=fun W p M h hM=>by
    obtain⟨so,sn,sc,rfl⟩:=h.shape
    obtain⟨d,h1,h2,h3,h4⟩:=h.digits hK hM
    exact⟨so,sn,sc,d,rfl,h1,h2,h3,h4⟩
   refine(Fa x y w hx hy (by omega) (by omega) low A B (x.V+y.V) hlow (by omega) (by omega) (by omega) H1 H2 ?_ ?_ ?_ ?_ ?_).mono ?_
   ·intro W p q hp hq
    obtain⟨po,pn,pc,d,rfl,r1,r2,r3,r4⟩:=au W p A hp (by omega)
    obtain⟨qo,qn,qc,d',rfl,u1,u2,u3,u4⟩:=au W q B hq (by omega)
    refine(Jc _ _ _ _ _ _ d d' W r1 u1 r2 u2 (by omega) (by omega)).mono ?_
    rw[r3,u3]
    rintro r w' ⟨v,rfl,hA⟩
    obtain⟨so,sn,sc,rfl⟩:=hA.num.shape
    exact⟨so,sn,sc,rfl,hA.num,hA.below⟩
   ·intro W p q hp hq
    obtain⟨po,pn,pc,d,rfl,r1,r2,r3,r4⟩:=au W p A hp (by omega)
    obtain⟨qo,qn,qc,d',rfl,u1,u2,u3,u4⟩:=au W q B hq (by omega)
    have:=Jd po qo pn qn pc qc d d' W r1 u1 r2 u2
    rwa [r3,u3] at this
   ·intro W p q hp hq hle
    obtain⟨po,pn,pc,d,rfl,r1,r2,r3,r4⟩:=au W p A hp (by omega)
    obtain⟨qo,qn,qc,d',rfl,u1,u2,u3,u4⟩:=au W q B hq (by omega)
    refine(zO _ _ _ _ _ _ d d' W r1 u1 r2 u2 (by omega) (by rw[r3,u3];exact hle)).mono ?_
    rw[r3,u3]
    rintro r w' ⟨v,rfl,hA⟩
    obtain⟨so,sn,sc,rfl⟩:=hA.num.shape
    exact⟨so,sn,sc,rfl,hA.num,hA.below⟩
   ·intro W p q hp hq hle
    obtain⟨po,pn,pc,d,rfl,r1,r2,r3,r4⟩:=au W p A hp (by omega)
    obtain⟨qo,qn,qc,d',rfl,u1,u2,u3,u4⟩:=au W q B hq (by omega)
    refine(zO _ _ _ _ _ _ d' d W u1 r1 u2 r2 (by omega) (by rw[r3,u3];exact hle)).mono ?_
    rw[r3,u3]
    rintro r w' ⟨v,rfl,hA⟩
    obtain⟨so,sn,sc,rfl⟩:=hA.num.shape
    exact⟨so,sn,sc,rfl,hA.num,hA.below⟩
   ·intro W ng s M hs hc
    have hM:M<2^(2*K)+2^(2*K):=by rcases hc with⟨_,_,h⟩|⟨_,_,_,h⟩|⟨_,_,_,h⟩<;>omega
    obtain⟨po,pn,pc,d,rfl,r1,r2,r3,r4⟩:=au W s M hs hM
    have hV:=Pz (low:=low) hc
    rw[<- v1,<- v2] at hV
    refine(sP ng po pn pc d low W r1 r2.1 (by omega) (by omega) (by omega)).mono ?_
    rw[r3,hV]
    rintro r w' ⟨v,rfl,hD⟩
    obtain⟨ng',s,m',e1,rfl,_,hA⟩:=id hD
    obtain⟨q1,q2,q3,rfl⟩:=hA.num.shape
    exact⟨ng',q1,q2,q3,e1,rfl,hD,hD.below⟩
   ·rintro r w' ⟨v,rfl,hD⟩
    exact⟨v,rfl,hD.below,.inl hD⟩
theorem AT {w:World} {x y:Value} {A B:Int} (hx:br w x A) (hy:br w y B) {K:Nat} (hK:K<=560000) (bx:Bd K A) (bY:Bd K B) :
  Calls prog 152 #[x,y] w fun r w'=>∃ v,r=.returned v∧nk w w' A B x y v:=by
 obtain⟨ng,s,m,e,rfl,dx,ao,n,cap,d,rfl,hR,hN,rfl⟩:=hx
 obtain⟨ng',s',m',e',rfl,dy,ao',n',cap',d',rfl,hR',hN',rfl⟩:=hy
 obtain rfl:A=(⟨ng,ao,n,cap,d,e⟩:aW).V:=dx.val
 obtain rfl:B=(⟨ng',ao',n',cap',d',e'⟩:aW).V:=dy.val
 exact yA ⟨ng,ao,n,cap,d,e⟩ ⟨ng',ao',n',cap',d',e'⟩ w hR hR' dx hN dy hN' hK bx bY
def cB (B:Nat) (w:World) (V:Int) (v:Value):Prop:=∃ ng s m e,v=.agg #[.bool ng,s,G6 e]∧Dy V ng m e∧An B w s m
theorem bw.dan {w w':World} {V:Int} {v:Value} (h:bw w w' V v):cB w.heap.size w' V v:=by
 obtain⟨ng,s,m,e,h1,h2,h3⟩:=h
 exact⟨ng,s,m,e,h1,h2,h3.an⟩
theorem cB.keeps {B:Nat} {w w':World} {v:Value} {V:Int} (h:cB B w V v) (k:Below w.heap.size w w'):cB B w' V v:=by
 obtain⟨ng,s,m,e,h1,h2,h3⟩:=h
 exact⟨ng,s,m,e,h1,h2,h3.keeps k⟩
theorem cB.lower {B B':Nat} {w:World} {v:Value} {V:Int} (h:cB B w V v) (hB:B'<=B):cB B' w V v:=by
 obtain⟨ng,s,m,e,h1,h2,h3⟩:=h
 exact⟨ng,s,m,e,h1,h2,h3.lower hB⟩
theorem cB.num {B:Nat} {w:World} {v:Value} {V:Int} (h:cB B w V v):br w v V:=by
 obtain⟨ng,s,m,e,h1,h2,h3⟩:=h
 exact⟨ng,s,m,e,h1,h2,h3.num⟩
theorem cB.parts {B:Nat} {w:World} {ng:Bool} {so:Option Addr} {sn sc:Nat} {e V:Int} (h:cB B w V (.agg #[.bool ng,.slice so sn sc,G6 e])):∃ m,Dy V ng m e∧An B w (.slice so sn sc) m:=by
 obtain⟨ng',s,m,e',h1,h2,h3⟩:=h
 simp only[Value.agg.injEq,Array.mk.injEq,List.cons.injEq,Value.bool.injEq,Value.int.injEq,and_true,true_and] at h1
 obtain⟨rfl,rfl,rfl⟩:=h1
 exact⟨m,h2,h3⟩
theorem Fb {x:aW} (ok:gK x=true):x.opp.V=-x.V∧Dy x.opp.V x.opp.ng (val x.opp.d x.opp.n) x.opp.e:=by
 have hy:=(sO ok).1
 have hN:=(ct ok).1
 by_cases h0:x.n=0
 ·have hv:val x.d x.n=0:=by rw[h0];rfl
  have e:x.opp=x:=by unfold aW.opp;rw[if_pos h0]
  rw[e]
  have:=hy.eq_zero.2 hv
  exact⟨by omega,hy⟩
 ·have hp:=kv hN (show 0<x.n by omega)
  have e:x.opp=⟨!x.ng,x.ao,x.n,x.cap,x.d,x.e⟩:=by unfold aW.opp;rw[if_neg h0]
  rw[e]
  have h1:=hy.neg hp
  have hV:aW.V ⟨!x.ng,x.ao,x.n,x.cap,x.d,x.e⟩=-x.V:=h1.val.symm
  rw[hV]
  exact⟨rfl,h1⟩
theorem nk.shape {w w':World} {A B:Int} {x y:aW} {v:Value} (h:nk w w' A B x.v y.v v):∃ ng so sn sc e,v=.agg #[.bool ng,.slice so sn sc,G6 e]:=by
 rcases h.2 with⟨ng,s,m,e,rfl,_,hA⟩|⟨_,rfl⟩|⟨_,rfl⟩
 ·obtain⟨so,sn,sc,rfl⟩:=hA.num.shape
  exact⟨_,_,_,_,_,rfl⟩
 ·exact⟨_,_,_,_,_,rfl⟩
 ·exact⟨_,_,_,_,_,rfl⟩
theorem Kx {w W w3:World} {A B:Int} {x y v:Value} (hv:nk W w3 A B x y v) (hb:Below w.heap.size w W) {g:Nat} (h0:w.heap.size<=g) (h1:g<W.heap.size) (a b c:Value) :
  nk w (((w3.setCell ⟨g,0,none⟩ a).setCell ⟨g,1,none⟩ b).setCell ⟨g,2,none⟩ c) A B x y v:=by
 refine⟨li (ac hb hv.1) h0 _ _ _,?_⟩
 rcases hv.2 with h|h|h
 ·exact .inl (cJ h hb h0 h1 a b c)
 ·exact .inr (.inl h)
 ·exact .inr (.inr h)
theorem yB (x y:aW) (w:World) (hx:aU w x.ao x.n x.cap x.d) (hy:aU w y.ao y.n y.cap y.d) (ox:gK x=true) (oy:gK y=true) {K:Nat} (hK:K<=560000) (bx:Bd K x.V) (bY:Bd K y.V) :
  Calls prog 153 #[x.v,y.v] w fun r w'=>∃ v,r=.returned v∧nk w w' x.V (-y.V) x.v y.opp.v v:=by
 obtain⟨e1,e2⟩:=Fb oy
 have hop:=fun W=>yx y W (by have:=hy.le;have:=hy.max;omega)
 have C2:∀ W,Below w.heap.size w W->Calls prog 152 #[x.v,y.opp.v] W fun r w'=>∃ ng so sn sc e,r=.returned (.agg #[.bool ng,.slice so sn sc,G6 e])∧nk W w' x.V (-y.V) x.v y.opp.v (.agg #[.bool ng,.slice so sn sc,G6 e])∧Below W.heap.size W w':=fun W hb=>by
  refine(yA x y.opp W (hx.keeps hb) (hy.keeps hb) (sO ox).1 (ct ox).1 e2 (ct oy).1 hK bx (by rw[e1];exact bY.neg)).mono ?_
  rintro r w' ⟨v,rfl,h⟩
  rw[e1] at h
  obtain⟨ng,so,sn,sc,e,rfl⟩:=h.shape
  exact⟨_,_,_,_,_,rfl,h,h.1⟩
 have hmy:=hy.max
 have hly:=hy.le
 obtain⟨VV,hVV⟩:∃ V,V=x.V:=⟨_,rfl⟩
 obtain⟨UU,hUU⟩:∃ V,V=-y.V:=⟨_,rfl⟩
 rw[<- hVV,<- hUU] at C2 ⊢
 clear e1 e2 bx bY hVV hUU ox oy
 unfold aW.opp at *
 obtain⟨on,hon⟩:∃ V,V=(if y.n=0 then y.ng else !y.ng):=⟨_,rfl⟩
 rw[<- hon] at hop C2 ⊢
 clear hon
 obtain⟨an,ao,n,ca,a,e⟩:=x
 obtain⟨bn,bo,m,cb,b,f⟩:=y
 unfold aW.v at *
 simp only at *
 have hb3:Below w.heap.size w (((w.alloc (.cells #[.bool an,.slice ao n ca,G6 e] 40)).alloc (.cells #[.bool bn,.slice bo m cb,G6 f] 40)).alloc (.cells #[.bool false,.slice none 0 0,G6 0] 40)):=df _ _ _ _
 have g0:=pD w (.cells #[.bool an,.slice ao n ca,G6 e] 40) (.cells #[.bool bn,.slice bo m cb,G6 f] 40) (.cells #[.bool false,.slice none 0 0,G6 0] 40)
 have g1:=pE w (.cells #[.bool an,.slice ao n ca,G6 e] 40) (.cells #[.bool bn,.slice bo m cb,G6 f] 40) (.cells #[.bool false,.slice none 0 0,G6 0] 40)
 have g2:=lh w (.cells #[.bool an,.slice ao n ca,G6 e] 40) (.cells #[.bool bn,.slice bo m cb,G6 f] 40) (.cells #[.bool false,.slice none 0 0,G6 0] 40)
 go_enter func153,ntmps153
 go_wp2_with fail
 generalize ((w.alloc (.cells #[.bool an,.slice ao n ca,G6 e] 40)).alloc (.cells #[.bool bn,.slice bo m cb,G6 f] 40)).alloc (.cells #[.bool false,.slice none 0 0,G6 0] 40)=wx at hb3 g0 g1 g2 ⊢
 have k0:=ae g0 0 rfl
 have k1:=ae g0 1 rfl
 have k2:=ae g0 2 rfl
 have j0:=ae g1 0 rfl
 have j1:=ae g1 1 rfl
 have j2:=ae g1 2 rfl
 have hb1:=ap wx
 have hs3:=(aGe g2).1
 go_region_held3 (fun W=>(W.cell? ⟨w.heap.size,0,none⟩=some (.bool an)∧W.cell? ⟨w.heap.size,1,none⟩=some (.slice ao n ca)∧W.cell? ⟨w.heap.size,2,none⟩=some (G6 e))∧W.cell? ⟨w.heap.size+1,0,none⟩=some (.bool bn)∧W.cell? ⟨w.heap.size+1,1,none⟩=some (.slice bo m cb)∧W.cell? ⟨w.heap.size+1,2,none⟩=some (G6 f))
  (first|assumption|exact⟨⟨k0,k1,k2⟩,j0,j1,j2⟩|exact cu (W:=wx.drew) hbv1 ⟨⟨k0,k1,k2⟩,j0,j1,j2⟩|exact cu hbv2 (cu (W:=wx.drew) hbv1 ⟨⟨k0,k1,k2⟩,j0,j1,j2⟩)|exact⟨lb (cu hbv2 (cu (W:=wx.drew) hbv1 ⟨⟨k0,k1,k2⟩,j0,j1,j2⟩)).1 (by omega) _ _ _,lb (cu hbv2 (cu (W:=wx.drew) hbv1 ⟨⟨k0,k1,k2⟩,j0,j1,j2⟩)).2 (by omega) _ _ _⟩)
  (first|(go_at_call 152;refine(C2 _ (ac hb3 (ac hb1.drew hbv1))).mono ?_;rintro y w4 ⟨ng4,o4,n4,c4,e4,rfl,hv2,hbv2⟩;have q0:=((ac hbv1 hbv2).block (w.heap.size+2) (by show _<wx.heap.size;omega)).trans g2;have x0:=ae q0 0 rfl;have x1:=ae q0 1 rfl;have x2:=ae q0 2 rfl;have z0:=ah q0 0;have z1:=ah q0 1;have z2:=ah q0 2)|(go_at_call 180;refine(hop _).mono ?_;rintro y w3 ⟨rfl,hbv1⟩))
 all_goals go_wp2
 all_goals
  refine bodyPost_ret (v:=.agg #[.bool ng4,.slice o4 n4 c4,G6 e4]) (by simp[results,results153,go_sem,x0,x1,x2]) rfl ⟨_,rfl,?_⟩
  exact Kx (g:=w.heap.size+2) hv2 (ac hb3 (ac hb1.drew hbv1)) (by omega) (Nat.lt_of_lt_of_le (show _<wx.heap.size by omega) hbv1.size) _ _ _
theorem DG {w:World} {ng:Bool} {so:Option Addr} {sn sc:Nat} {e V:Int} (h:br w (.agg #[.bool ng,.slice so sn sc,G6 e]) V):fK ng sn=bH V 0∧sn<=9223372036854775807:=by
 obtain⟨ng',s,m,e',h1,hy,ao,n,cap,d,rfl,hR,hN,rfl⟩:=h
 simp only[Value.agg.injEq,Array.mk.injEq,List.cons.injEq,Value.bool.injEq,Value.int.injEq,Value.slice.injEq,and_true,true_and] at h1
 obtain⟨rfl,⟨rfl,rfl,rfl⟩,rfl⟩:=h1
 refine⟨?_,by have:=hR.le;have:=hR.max;omega⟩
 by_cases h0:sn=0
 ·have:=hy.eq_zero.2 (by rw[h0];rfl)
  rw[this,jE rfl]
  simp[fK,h0]
 ·have hp:=kv hN (show 0<sn by omega)
  cases ng
  ·have hn:¬ V<0:=fun h=>by have:=hy.neg_iff.2 h;simp at this
   have hz:V≠0:=fun h=>by have:=hy.eq_zero.1 h;omega
   rw[gf (by omega)]
   simp[fK,h0]
  ·have hn:=hy.neg_iff.1 rfl
   rw[gd hn]
   simp[fK,h0]
def QT (v:Value):Prop:=∃ ng so sn sc e,v=.agg #[.bool ng,.slice so sn sc,G6 e]
theorem cB.three {B:Nat} {w:World} {V:Int} {v:Value} (h:cB B w V v):QT v:=by
 obtain⟨ng,s,m,e,rfl,_,hA⟩:=h
 obtain⟨so,sn,sc,rfl⟩:=hA.shape
 exact⟨_,_,_,_,_,rfl⟩
theorem cB.of_blocks {B:Nat} {w w':World} {V:Int} {v:Value} (h:cB B w V v) (hb:∀ (g:Nat) (cur:Array Value) z,w.heap[g]?=some (.cells cur 3 z)->w'.heap[g]?=w.heap[g]?):cB B w' V v:=by
 obtain⟨ng,s,m,e,h1,h2,t,d,hO,h3⟩:=h
 exact⟨ng,s,m,e,h1,h2,t,d,hO.of_block fun g hg=>by obtain⟨cur,z,hc⟩:=hO.typed hg;exact hb g cur z hc,h3⟩
theorem Ic {w:World} {g o0 o1 o2:Nat} {xs:Array Value} {z:Nat × Nat} (hg:w.heap[g]?=some (.cells xs 40 z)) (x y u:Value):∀ (g':Nat) (cur:Array Value) z',w.heap[g']?=some (.cells cur 3 z')->(((w.setCell ⟨g,o0,none⟩ x).setCell ⟨g,o1,none⟩ y).setCell ⟨g,o2,none⟩ u).heap[g']?=w.heap[g']?:=fun g' cur z' hc=>by
 refine(RE w g o0 o1 o2 x y u).block g' (aGe hc).1 fun e=>?_
 subst e
 rw[hg] at hc
 simp at hc
theorem aj {W y:World} (hb:Below W.heap.size W y) {g:Nat} {X:Obj} (h:W.heap[g]?=some X):y.heap[g]?=some X:=(hb.block _ (aGe h).1).trans h
theorem lc {W:World} {p:Addr} {v:Value} {o:Nat} (h:W.cell? p=some v) (hp:p.block≠o) (x y z:Value):(((W.setCell ⟨o,0,none⟩ x).setCell ⟨o,1,none⟩ y).setCell ⟨o,2,none⟩ z).cell? p=some v :=
 ((((Wr.refl o W).setCell 0 x |>.setCell 1 y).setCell 2 z).cell (World.block_lt_of_cell? W _ h) hp).trans h
theorem dN {B:Nat} {w3:World} {V:Int} {v:Value} (hv:cB B w3 V v) {g:Nat} {xs:Array Value} {z:Nat × Nat} (hg:w3.heap[g]?=some (.cells xs 40 z)) (a b c:Value) :
  cB B (((w3.setCell ⟨g,0,none⟩ a).setCell ⟨g,1,none⟩ b).setCell ⟨g,2,none⟩ c) V v:=hv.of_blocks (Ic hg a b c)
end Go.Proofs.YtjjihmnbdeeedaaGreatDoor
