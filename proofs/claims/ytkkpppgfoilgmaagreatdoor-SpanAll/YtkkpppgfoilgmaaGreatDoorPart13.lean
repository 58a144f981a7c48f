/- Parts of the proof. -/
import Derived.Test.YtkkpppgfoilgmaaGreatDoorPart12
import Derived.Test.YtkkpppgfoilgmaaGreatDoorPart6
import Derived.Test.YtkkpppgfoilgmaaGreatDoorPart10
import Derived.Test.YtkkpppgfoilgmaaGreatDoorPart7
import Derived.Test.YtkkpppgfoilgmaaGreatDoorPart11
import Derived.Test.YtkkpppgfoilgmaaGreatDoorPart8
import Derived.Test.YtkkpppgfoilgmaaGreatDoorPart9
set_option maxRecDepth 100000
set_option maxHeartbeats 8000000
set_option linter.unusedVariables false
set_option linter.unusedSimpArgs false
namespace Go.Proofs.YtkkpppgfoilgmaaGreatDoor
open Go Go.Proofs.Tryz Go.RowKit Go.Proofs.YtkkpppgfoilgmaaGreatDoor.M
def Av (ng:Bool) (m e:Int) (sd:Bool):Value:=dp ng (m/2^vK m).toNat (e+vK m) (decide (m % 2^vK m≠0)) sd
theorem xD {w:World} {v:Value} {V:Int} {ng:Bool} {m e:Int} (hx:bk w v V) (ok:cB V) (hy:Dy V ng m e) (hT:fM w) :
  Calls prog 93 #[v] w fun r w'=>r=.returned (Av ng m e false)∧Below w.heap.size w w':=by
 obtain⟨x,rfl,hR,hok,rfl⟩:=hx.open ok
 obtain⟨na,hn,he0,he1⟩:=bG hok
 obtain⟨rfl,rfl,rfl⟩:=(gQ hok).1.unique hy
 exact nf _ _ _ _ _ _ _ hR na hn ⟨he0,he1⟩ hT
def qr (er:Int) (mag:Nat) (sd:Bool) (b near:Int):Int:=if er≠0∨(mag=0∧sd=false) then near else b
theorem vA (way:Int) (hw:1<=way∧way<=3) (near:Int) (F G Rf:Nat) (rc:Array Value) (oo:Option Addr) (n cap:Nat) (w:World) (V:Nat->Int) (ng:Bool) (mag:Nat) (exp:Int) (cut sd:Bool) (er b:Int) (o:Bool)
  (hEG:∀ (cap:Array Value) (w:World),(callFunc G cap).run prog w=.ok (.enter G cap) w)
  (hER:∀ (cap:Array Value) (w:World),(callFunc Rf cap).run prog w=.ok (.enter Rf cap) w)
  (CV:∀ W,Below w.heap.size w W->Calls prog 141 #[.agg #[.func (.func F) #[] #[],.func (.func G) #[] #[]],.slice oo n cap] W fun x w'=>∃ g q,x=.returned (.tuple #[.slice (some ⟨g,0,none⟩) n n,.bool true])∧W.heap.size<=g∧gf w' (some ⟨g,0,none⟩) n n q∧Below W.heap.size W w'∧∀ i,i<n->bV (q i).d (q i).n∧Dy (V i) (q i).ng (val (q i).d (q i).n) (q i).e)
  (CR:∀ W g q,Below w.heap.size w W->gf W (some ⟨g,0,none⟩) n n q->(∀ i,i<n->bV (q i).d (q i).n∧Dy (V i) (q i).ng (val (q i).d (q i).n) (q i).e)->Calls prog Rf (#[.slice (some ⟨g,0,none⟩) n n] ++ rc) W fun e w'=>e=.returned (.tuple #[dp ng mag exp cut sd,.int .i64 er])∧Below W.heap.size W w')
  (CT:∀ W,Below w.heap.size w W->Calls prog G #[dp ng mag exp cut true,gb way] W fun e w'=>e=.returned (.tuple #[.int .i64 b,.bool o])∧Below W.heap.size W w') :
  Calls prog 125 #[.agg #[.func (.func F) #[] #[],.func (.func G) #[] #[]],.int .i64 near,.int .i64 way,.func (.func Rf) #[] rc,.slice oo n cap] w fun e w'=>e=.returned (.tuple #[.int .i64 (qr er mag sd b near),.int .i64 0])∧Below w.heap.size w w':=by
 have hst:∀ (p:Addr) (F:Nat) (m:Mode) (w:World),(store p (.func (.func F) #[] #[]) m).run prog w=stored prog w p (.func (.func F) #[] #[]) m:=fun p F m w=>run_store _ w p _ m rfl
 have hw0:0<=way∧way<=3:=by omega
 have hne:way≠0:=by omega
 unfold dp gb at *
 have CW:=fun W=>jg way W
 rw[if_pos hw0,decide_eq_true hw0] at CW
 unfold gb at CW
 generalize fZ way=K at *
 have HV:Hid _:=CV
 have HR:Hid _:=CR
 have HT:Hid _:=CT
 clear CV CR CT
 have hb1:=ae w (.cells #[.func (.func F) #[] #[],.func (.func G) #[] #[]] 157)
 have q1:=heap_alloc_new w (.cells #[.func (.func F) #[] #[],.func (.func G) #[] #[]] 157)
 go_enter func125,ntmps125
 go_wp2_with fail
 generalize w.alloc (.cells #[.func (.func F) #[] #[],.func (.func G) #[] #[]] 157)=x0 at hb1 q1 ⊢
 refine(CW _).mono ?_
 rintro _ w2 ⟨rfl,hb2⟩
 have q2:=heap_alloc_new w2 (.cells #[.nilFunc] 124)
 have y0:=aa q2 0 rfl
 have y1:=af q2 0
 have p1:=(hb2.block _ (aGe q1).1).trans q1
 have hb3:=ae w2 (.cells #[.func (.func K) #[] #[]] 124)
 have p2:=(hb3.block _ (aGe p1).1).trans p1
 have q3:=heap_alloc_new w2 (.cells #[.func (.func K) #[] #[]] 124)
 have c0:=aa p2 0 rfl
 have c1:=aa p2 1 rfl
 have hbx:=ab (ab hb1 hb2) hb3
 clear CW q1 p1
 go_wp2_with fail
 generalize w2.alloc (.cells #[.func (.func K) #[] #[]] 124)=x3 at hb3 p2 q3 c0 c1 hbx ⊢
 refine(HV.out _ hbx).mono ?_
 rintro _ w4 ⟨g,q,rfl,hg,hN,hb4,hf⟩
 have hb5:=ab hbx hb4
 have p2:=(hb4.block _ (aGe p2).1).trans p2
 have q3:=(hb4.block _ (aGe q3).1).trans q3
 clear c0 c1 y0 y1 q2
 go_wp2_with fail
 refine(HR.out _ g q hb5 hN hf).mono ?_
 rintro _ w6 ⟨rfl,hb6⟩
 have hb7:=ab hb5 hb6
 have p2:=(hb6.block _ (aGe p2).1).trans p2
 have q3:=(hb6.block _ (aGe q3).1).trans q3
 clear HV HR hN hf
 have hb8:=ae w6 (.cells #[.bool ng,.int .u64 mag,.int .i64 exp,.bool cut,.bool sd] 104)
 have q8:=heap_alloc_new w6 (.cells #[.bool ng,.int .u64 mag,.int .i64 exp,.bool cut,.bool sd] 104)
 have x1':=aa q8 1 rfl
 have x4':=aa q8 4 rfl
 have z4':=af q8 4
 have hb9:=ab hb7 hb8
 have hbX:=ae w6 (.cells #[.bool ng,.int .u64 mag,.int .i64 exp,.bool cut,.bool true] 104)
 have qX:=heap_alloc_new w6 (.cells #[.bool ng,.int .u64 mag,.int .i64 exp,.bool cut,.bool true] 104)
 have pX:=(hbX.block _ (aGe p2).1).trans p2
 have rX:=(hbX.block _ (aGe q3).1).trans q3
 have u1:=aa pX 1 rfl
 have u2:=aa rX 0 rfl
 have v0:=aa qX 0 rfl
 have v1:=aa qX 1 rfl
 have v2:=aa qX 2 rfl
 have v3:=aa qX 3 rfl
 have v4:=aa qX 4 rfl
 have hbY:=ab hb7 hbX
 clear q8 qX pX rX p2 q3 hb8 hbX
 by_cases he:er=0
 ·subst he
  by_cases hm:mag=0
  ·subst hm
   cases sd
   ·go_wp2
    all_goals refine bodyPost_ret (v:=.tuple #[.int .i64 near,.int .i64 0]) (by simp[results,results125,go_sem]) rfl ⟨by simp[qr],hb9⟩
   ·have e0:((0:Nat):Int)=0:=rfl
    have HT:=HT.out
    simp only[e0] at HT hbY u1 u2 v0 v1 v2 v3 v4
    go_wp2_with fail
    refine(HT _ hbY).mono ?_
    rintro _ w10 ⟨rfl,hb10⟩
    go_wp2
    all_goals refine bodyPost_ret (v:=.tuple #[.int .i64 b,.int .i64 0]) (by simp[results,results125,go_sem]) rfl ⟨by simp[qr],ab hbY hb10⟩
  ·have hm':¬ ((mag:Int)=0):=by omega
   go_wp2_with fail
   refine(HT.out _ hbY).mono ?_
   rintro _ w10 ⟨rfl,hb10⟩
   go_wp2
   all_goals refine bodyPost_ret (v:=.tuple #[.int .i64 b,.int .i64 0]) (by simp[results,results125,go_sem]) rfl ⟨by simp[qr,hm],ab hbY hb10⟩
 ·go_wp2
  all_goals refine bodyPost_ret (v:=.tuple #[.int .i64 near,.int .i64 0]) (by simp[results,results125,go_sem]) rfl ⟨by simp[qr,he],hb9⟩
theorem ty (way:Int) (hw:1<=way∧way<=3) (near:Int) (F G Rf:Nat) (rc:Array Value) (oo:Option Addr) (n cap:Nat) (w:World)
  (CV:∀ W,Below w.heap.size w W->Calls prog 141 #[.agg #[.func (.func F) #[] #[],.func (.func G) #[] #[]],.slice oo n cap] W fun x w'=>x=.returned (.tuple #[.slice none 0 0,.bool false])∧Below W.heap.size W w') :
  Calls prog 125 #[.agg #[.func (.func F) #[] #[],.func (.func G) #[] #[]],.int .i64 near,.int .i64 way,.func (.func Rf) #[] rc,.slice oo n cap] w fun e w'=>e=.returned (.tuple #[.int .i64 near,.int .i64 0])∧Below w.heap.size w w':=by
 have hst:∀ (p:Addr) (F:Nat) (m:Mode) (w:World),(store p (.func (.func F) #[] #[]) m).run prog w=stored prog w p (.func (.func F) #[] #[]) m:=fun p F m w=>run_store _ w p _ m rfl
 have hw0:0<=way∧way<=3:=by omega
 have hne:way≠0:=by omega
 have CW:=fun W=>jg way W
 rw[if_pos hw0,decide_eq_true hw0] at CW
 unfold gb at CW
 generalize fZ way=K at *
 have HV:Hid _:=CV
 clear CV
 have hb1:=ae w (.cells #[.func (.func F) #[] #[],.func (.func G) #[] #[]] 157)
 have q1:=heap_alloc_new w (.cells #[.func (.func F) #[] #[],.func (.func G) #[] #[]] 157)
 go_enter func125,ntmps125
 go_wp2_with fail
 generalize w.alloc (.cells #[.func (.func F) #[] #[],.func (.func G) #[] #[]] 157)=x0 at hb1 q1 ⊢
 refine(CW _).mono ?_
 rintro _ w2 ⟨rfl,hb2⟩
 have q2:=heap_alloc_new w2 (.cells #[.nilFunc] 124)
 have y0:=aa q2 0 rfl
 have y1:=af q2 0
 have p1:=(hb2.block _ (aGe q1).1).trans q1
 have hb3:=ae w2 (.cells #[.func (.func K) #[] #[]] 124)
 have p2:=(hb3.block _ (aGe p1).1).trans p1
 have c0:=aa p2 0 rfl
 have c1:=aa p2 1 rfl
 have hbx:=ab (ab hb1 hb2) hb3
 clear CW q1 p1
 go_wp2_with fail
 refine(HV.out _ hbx).mono ?_
 rintro _ w4 ⟨rfl,hb4⟩
 go_wp2
 all_goals refine bodyPost_ret (v:=.tuple #[.int .i64 near,.int .i64 0]) (by simp[results,results125,go_sem]) rfl ⟨rfl,ab hbx hb4⟩
theorem gf.at {w:World} {g n:Nat} {q:Nat->aI} (h:gf w (some ⟨g,0,none⟩) n n q) (i:Nat) (hi:i<n):wB w g (i*3) (q i):=by
 obtain⟨b,off,he,hlt,hc⟩:=h.spot (by omega)
 cases he
 have:=hc i hi
 rwa [Nat.zero_add] at this
theorem xE {w:World} {g n:Nat} {q:Nat->aI} {V:Nat->Int} (h:gf w (some ⟨g,0,none⟩) n n q) (hf:∀ i,i<n->bV (q i).d (q i).n∧Dy (V i) (q i).ng (val (q i).d (q i).n) (q i).e) (i:Nat) (hi:i<n):bk w (q i).v (V i) :=
 ⟨_,_,_,_,rfl,(hf i hi).2,_,_,_,_,rfl,(h.at i hi).row,(hf i hi).1,rfl⟩
theorem vB {C D A B:Int} (h:C*2^4194304=A*B) (k:D*2^4194304=A*B):C=D:=Int.eq_of_mul_eq_mul_right (Int.ne_of_gt (aJ 4194304)) (h.trans k.symm)
theorem DQ {W w':World} {g:Nat} {a b c d e f:Value} (h:W.cell? ⟨g,0,none⟩=some a∧W.cell? ⟨g,1,none⟩=some b∧W.cell? ⟨g,2,none⟩=some c∧W.cell? ⟨g,3,none⟩=some d∧W.cell? ⟨g,4,none⟩=some e∧W.cell? ⟨g,5,none⟩=some f) (hb:Below W.heap.size W w') :
  w'.cell? ⟨g,0,none⟩=some a∧w'.cell? ⟨g,1,none⟩=some b∧w'.cell? ⟨g,2,none⟩=some c∧w'.cell? ⟨g,3,none⟩=some d∧w'.cell? ⟨g,4,none⟩=some e∧w'.cell? ⟨g,5,none⟩=some f :=
 ⟨aG h.1 hb,aG h.2.1 hb,aG h.2.2.1 hb,aG h.2.2.2.1 hb,aG h.2.2.2.2.1 hb,aG h.2.2.2.2.2 hb⟩
theorem xF (g:Nat) (w:World) (q:Nat->aI) (A B C:Int) (ng:Bool) (m e:Int) (hN:gf w (some ⟨g,0,none⟩) 2 2 q) (h0:bk w (q 0).v A) (h1:bk w (q 1).v B) (oA:cB A) (oB:cB B) (hC:C*2^4194304=A*B) (oC:cB C) (hy:Dy C ng m e) (hT:fM w) :
  Calls prog 126 #[.slice (some ⟨g,0,none⟩) 2 2] w fun r w'=>r=.returned (.tuple #[Av ng m e false,.int .i64 0])∧Below w.heap.size w w':=by
 have CM:Hid (∀ W,Below w.heap.size w W->Calls prog 142 #[(q 0).v,(q 1).v] W fun r w'=>∃ v,r=.returned (.tuple #[v,.int .i64 0])∧bv W w' C v):=fun W hb=>by
  refine(EQ (h0.keeps hb) (h1.keeps hb) oA oB (hT.keeps hb)).mono ?_
  rintro r w' ⟨v,er,C',rfl,hC',hF⟩
  obtain rfl:=vB hC' hC
  obtain⟨rfl,hA⟩:=hF.yes oC
  exact⟨v,rfl,hA⟩
 have CV:Hid (∀ W v,Below w.heap.size w W->bk W v C->Calls prog 93 #[v] W fun r w'=>r=.returned (Av ng m e false)∧Below W.heap.size W w'):=fun W v hb hv=>xD hv oC hy (hT.keeps hb)
 obtain⟨c0,c1,c2,_⟩:=hN.at 0 (by decide)
 obtain⟨c3,c4,c5,_⟩:=hN.at 1 (by decide)
 unfold Av dp aI.v at *
 generalize (m/2^vK m).toNat=Q at CV ⊢
 generalize e+vK m=E at CV ⊢
 generalize decide (m % 2^vK m≠0)=R at CV ⊢
 clear h0 h1 hN oA oB hC oC hy hT
 generalize q 0=x at *
 generalize q 1=y at *
 obtain⟨x_g,x_o,x_n,x_c,x_d,x_e⟩:=x
 obtain⟨y_g,y_o,y_n,y_c,y_d,y_e⟩:=y
 simp only[Nat.zero_mul,Nat.zero_add,Nat.one_mul] at c0 c1 c2 c3 c4 c5 CM
 have q0:=heap_alloc_new w (.cells #[.bool false,.int .u64 0,.int .i64 0,.bool false,.bool false] 104)
 have hb1:=ae w (.cells #[.bool false,.int .u64 0,.int .i64 0,.bool false,.bool false] 104)
 have d0:=aG c0 hb1
 have d1:=aG c1 hb1
 have d2:=aG c2 hb1
 have d3:=aG c3 hb1
 have d4:=aG c4 hb1
 have d5:=aG c5 hb1
 clear c0 c1 c2 c3 c4 c5
 go_enter func126,ntmps126
 go_wp2_with fail
 generalize w.alloc (.cells #[.bool false,.int .u64 0,.int .i64 0,.bool false,.bool false] 104)=x1 at q0 hb1 d0 d1 d2 d3 d4 d5 ⊢
 have KK:∀ W,Below x1.heap.size x1 W->W.cell? ⟨g,0,none⟩=some (.bool x_g)∧W.cell? ⟨g,1,none⟩=some (.slice x_o x_n x_c)∧W.cell? ⟨g,2,none⟩=some (.int .i64 x_e)∧W.cell? ⟨g,3,none⟩=some (.bool y_g)∧W.cell? ⟨g,4,none⟩=some (.slice y_o y_n y_c)∧W.cell? ⟨g,5,none⟩=some (.int .i64 y_e):=fun W hb=>DQ (W:=x1) ⟨d0,d1,d2,d3,d4,d5⟩ hb
 clear d0 d1 d2 d3 d4 d5
 have i0:(0:Int)<2:=by decide
 have i1:(1:Int)<2:=by decide
 have hx0:=(ap x1).drew
 have hx1:=(ae x1 (.cells #[.bool false,.slice none 0 0,.int .i64 0] 26)).drew
 go_region_held3 (fun W=>W.cell? ⟨g,0,none⟩=some (.bool x_g)∧W.cell? ⟨g,1,none⟩=some (.slice x_o x_n x_c)∧W.cell? ⟨g,2,none⟩=some (.int .i64 x_e)∧W.cell? ⟨g,3,none⟩=some (.bool y_g)∧W.cell? ⟨g,4,none⟩=some (.slice y_o y_n y_c)∧W.cell? ⟨g,5,none⟩=some (.int .i64 y_e))
  (first|assumption|exact KK _ hx0|exact KK _ hx1|exact KK _ hw3|exact KK _ (ab hw3 (ae _ _))|exact KK _ (kE hw3 (Nat.le_refl _) _ _ _)|fail)
  ((go_at_call 142;refine(CM.out _ (by first|exact hb1.drew|exact ab hb1 hx1)).mono ?_;rintro _ w3 ⟨v,rfl,hD⟩;obtain⟨n_g,n_o,n_n,n_c,n_e,rfl⟩:=oz hD;have hw3:Below x1.heap.size x1 w3:=(by first|exact ab hx0 hD.below|exact ab hx1 hD.below);first|(have qz:w3.heap[x1.heap.size]?=some (.cells #[.bool false,.slice none 0 0,.int .i64 0] 26 (0,0)):=(hD.below.block _ (by first|exact(aGe (aB x1 (.cells #[.bool false,.slice none 0 0,.int .i64 0] 26))).1)).trans (aB x1 (.cells #[.bool false,.slice none 0 0,.int .i64 0] 26));have cz0:=aa qz 0 rfl;have cz1:=aa qz 1 rfl;have cz2:=aa qz 2 rfl;have zz0:=af qz 0;have zz1:=af qz 1;have zz2:=af qz 2)|skip))
 ·have hb4:=ae w3 (.cells #[.bool n_g,.slice n_o n_n n_c,.int .i64 n_e] 26)
  have qn:=aB w3 (.cells #[.bool n_g,.slice n_o n_n n_c,.int .i64 n_e] 26)
  have hw4:=ab hw3 hb4
  have q4:=(hw4.block _ (aGe q0).1).trans q0
  have hD4:=hD.num.keeps hb4
  have hb5:=ab hb1 hw4
  have c0:=aa qn 0 rfl
  have c1:=aa qn 1 rfl
  have c2:=aa qn 2 rfl
  go_wp2_with fail
  refine(CV.out _ _ hb5 hD4).mono ?_
  rintro _ w6 ⟨rfl,hb6⟩
  have p1:=(hb6.block _ (aGe q4).1).trans q4
  have hbw:=ab hb5 hb6
  have x0:=aa p1 0 rfl
  have x1':=aa p1 1 rfl
  have x2:=aa p1 2 rfl
  have x3:=aa p1 3 rfl
  have x4:=aa p1 4 rfl
  have z0:=af p1 0
  have z1:=af p1 1
  have z2:=af p1 2
  have z3:=af p1 3
  have z4:=af p1 4
  go_wp2
  all_goals refine bodyPost_ret (v:=.tuple #[.agg #[.bool ng,.int .u64 Q,.int .i64 E,.bool R,.bool false],.int .i64 0]) (by simp[results,results126,go_sem,x0,x1',x2,x3,x4]) rfl ⟨rfl,?_⟩
  all_goals exact(Ak w6 w.heap.size _ _ _ _ _).below hbw hbw.size (Nat.le_refl _)
 ·have hw4:=kE (o0:=0) (o1:=1) (o2:=2) hw3 (Nat.le_refl _) (.bool n_g) (.slice n_o n_n n_c) (.int .i64 n_e)
  have qn:=iR (iR (iR qz 0 (.bool n_g)) 1 (.slice n_o n_n n_c)) 2 (.int .i64 n_e)
  have q4:=(hw4.block _ (aGe q0).1).trans q0
  have hD4:=(cD hD hx1 (Nat.le_refl _) (aGe (aB x1 (.cells #[.bool false,.slice none 0 0,.int .i64 0] 26))).1 (.bool n_g) (.slice n_o n_n n_c) (.int .i64 n_e)).num
  have hb5:=ab hb1 hw4
  clear cz0 cz1 cz2 zz0 zz1 zz2 qz
  have c0:=aa qn 0 rfl
  have c1:=aa qn 1 rfl
  have c2:=aa qn 2 rfl
  go_wp2_with fail
  refine(CV.out _ _ hb5 hD4).mono ?_
  rintro _ w6 ⟨rfl,hb6⟩
  have p1:=(hb6.block _ (aGe q4).1).trans q4
  have hbw:=ab hb5 hb6
  have x0:=aa p1 0 rfl
  have x1':=aa p1 1 rfl
  have x2:=aa p1 2 rfl
  have x3:=aa p1 3 rfl
  have x4:=aa p1 4 rfl
  have z0:=af p1 0
  have z1:=af p1 1
  have z2:=af p1 2
  have z3:=af p1 3
  have z4:=af p1 4
  go_wp2
  all_goals refine bodyPost_ret (v:=.tuple #[.agg #[.bool ng,.int .u64 Q,.int .i64 E,.bool R,.bool false],.int .i64 0]) (by simp[results,results126,go_sem,x0,x1',x2,x3,x4]) rfl ⟨rfl,?_⟩
  all_goals exact(Ak w6 w.heap.size _ _ _ _ _).below hbw hbw.size (Nat.le_refl _)
theorem tz (way:Int) (hw:1<=way∧way<=3) (near:Int) (Rf:Nat) (rc:Array Value) (g n:Nat) (hn:n<=100) (d:Nat->Int) (w:World) (hR:aL w (some ⟨g,0,none⟩) n n d) (hp:∀ i,i<n->aC (d i)=true) (H:ax w) (ng:Bool) (mag:Nat) (exp:Int) (cut sd:Bool) (hm:mag<18446744073709551616) (he:-4500000<=exp∧exp<=4500000)
    (hER:∀ (cap:Array Value) (w:World),(callFunc Rf cap).run prog w=.ok (.enter Rf cap) w)
    (CR:∀ W g q,Below w.heap.size w W->gf W (some ⟨g,0,none⟩) n n q->(∀ i,i<n->bV (q i).d (q i).n∧Dy (aF (d i)) (q i).ng (val (q i).d (q i).n) (q i).e)->Calls prog Rf (#[.slice (some ⟨g,0,none⟩) n n] ++ rc) W fun e w'=>e=.returned (.tuple #[dp ng mag exp cut sd,.int .i64 0])∧Below W.heap.size W w') :
    Calls prog 125 #[.agg #[.func (.func 140) #[] #[],.func (.func 70) #[] #[]],.int .i64 near,.int .i64 way,.func (.func Rf) #[] rc,.slice (some ⟨g,0,none⟩) n n] w fun e w'=>e=.returned (.tuple #[.int .i64 (qr 0 mag sd (ij way ng true mag exp cut).1 near),.int .i64 0])∧Below w.heap.size w w':=by
  have hEF:∀ (cap:Array Value) (w:World),(callFunc 140 cap).run prog w=.ok (.enter 140 cap) w:=by
    intro cap w
    simp[go_sem]
  have hEG:∀ (cap:Array Value) (w:World),(callFunc 70 cap).run prog w=.ok (.enter 70 cap) w:=by
    intro cap w
    simp[go_sem]
  exact vA way hw near _ _ Rf rc _ n n w (fun i=>aF (d i)) ng mag exp cut sd 0 _ _ hEG hER
    (fun W hb=>(xB _ _ _ n n d _ W (hR.keeps hb) (by omega) hEF (fun i hi W' hb'=>Ao (hp i hi) ((H.keeps hb).keeps hb'))).mono fun r w' h=>by
      obtain⟨g,q,e1,e2,e3,e4,e5⟩:=h
      exact ⟨g,q,e1,e2,e3,e4,e5⟩)
    CR (fun W hb=>mf way (by omega) ng true mag exp cut W (H.keeps hb).env hm he)
theorem nw (way:Int) (hw:1<=way∧way<=3) (near:Int) (Rf:Nat) (rc:Array Value) (g n:Nat) (hn:n<=100) (d:Nat->Int) (w:World) (hR:aL w (some ⟨g,0,none⟩) n n d) (K:Nat) (hK:K<n) (hp:∀ i,i<K->aC (d i)=true) (hq:aC (d K)=false) (H:ax w) :
  Calls prog 125 #[.agg #[.func (.func 140) #[] #[],.func (.func 70) #[] #[]],.int .i64 near,.int .i64 way,.func (.func Rf) #[] rc,.slice (some ⟨g,0,none⟩) n n] w fun e w'=>e=.returned (.tuple #[.int .i64 near,.int .i64 0])∧Below w.heap.size w w':=by
 have hEF:∀ (cap:Array Value) (w:World),(callFunc 140 cap).run prog w=.ok (.enter 140 cap) w:=by
  intro cap w
  simp[go_sem]
 exact ty way hw near _ _ Rf rc _ n n w (fun W hb=>xC _ _ _ n n d (fun i=>aF (d i)) W (hR.keeps hb) (by omega) K hK hEF (fun i hi W' hb'=>Ao (hp i hi) ((H.keeps hb).keeps hb')) (fun W' hb'=>E0 hq ((H.keeps hb).keeps hb')))
theorem zM {w:World} {g:Nat} {a b:Int} (h:w.heap[g]?=some (.cells #[.int .i64 a,.int .i64 b] 3 (0,0))):aL w (some ⟨g,0,none⟩) 2 2 (fun i=>if i=0 then a else b) :=
  ⟨Nat.le_refl _,by decide,(fun h=>nomatch h),fun _=>⟨g,0,rfl,(Array.getElem?_eq_some_iff.1 h).1,fun i hi=>by
    match i,hi with
    | 0,_=>exact aa h 0 rfl
    | 1,_=>exact aa h 1 rfl⟩⟩
theorem BN {m:Int} (h:0<m):(m/2^vK m).toNat≠0:=by
 have hb:=gX h
 have hp:=aJ (vK m)
 have h1:2^vK m<=m:=Int.le_trans (cJ (by unfold vK;omega)) hb.2
 have h2:1<=m/2^vK m:=by rw[Int.le_ediv_iff_mul_le hp,Int.one_mul];exact h1
 omega
theorem DR {m:Int} (h:0<=m):(m/2^vK m).toNat<18446744073709551616:=by
 have:=jW h
 omega
theorem DT {V:Int} {ng:Bool} {m e:Int} (hy:Dy V ng m e) (ok:cB V):-4500000<=e+vK m∧e+vK m<=4500000:=by
 obtain⟨h1,h2,h3⟩:=hy.ok.1 ok
 have h4:aH m<=30*2000:=dr (by rw[<- di];exact h1)
 unfold vK
 omega
theorem xG (way:Int) (hw:1<=way∧way<=3) (near a b:Int) (Rf:Nat) (rc:Array Value) (hp:(aC a&&aC b)=false) (w:World) (go:Nat) (ko:w.heap[go]?=some (.cells #[.int .i64 a,.int .i64 b] 3 (0,0))) (H:ax w) :
    Calls prog 125 #[.agg #[.func (.func 140) #[] #[],.func (.func 70) #[] #[]],.int .i64 near,.int .i64 way,.func (.func Rf) #[] rc,.slice (some ⟨go,0,none⟩) 2 2] w fun e w'=>e=.returned (.tuple #[.int .i64 near,.int .i64 0])∧Below w.heap.size w w':=by
  cases h1:aC a
  · exact nw way hw near Rf rc go 2 (by decide) (fun i=>if i=0 then a else b) w (zM ko) 0 (by decide) (fun i hi=>by omega) h1 H
  · rw[h1] at hp
    exact nw way hw near Rf rc go 2 (by decide) (fun i=>if i=0 then a else b) w (zM ko) 1 (by decide) (fun i hi=>by
      obtain rfl:i=0:=by omega
      exact h1) hp H
theorem Fi (way:Int) (hw:1<=way∧way<=3) (near a b:Int) (ra:au a) (rb:au b) (w:World) (go:Nat) (ko:w.heap[go]?=some (.cells #[.int .i64 a,.int .i64 b] 3 (0,0))) (H:ax w) :
  Calls prog 125 #[.agg #[.func (.func 140) #[] #[],.func (.func 70) #[] #[]],.int .i64 near,.int .i64 way,.func (.func 126) #[] #[],.slice (some ⟨go,0,none⟩) 2 2] w fun e w'=>e=.returned (.tuple #[.int .i64 (if (aC a&&aC b)=true∧b9 a b≠0 then df way (b9 a b) else near),.int .i64 0])∧Below w.heap.size w w':=by
 have hER:∀ (cap:Array Value) (w:World),(callFunc 126 cap).run prog w=.ok (.enter 126 cap) w:=by
  intro cap w
  simp[go_sem]
 cases hpp:(aC a&&aC b)
 ·have n1:¬ (false=true∧b9 a b≠0):=fun q=>by cases q.1
  rw[if_neg n1]
  exact xG way hw near a b _ _ hpp w go ko H
 ·simp only[Bool.and_eq_true] at hpp
  obtain⟨pa,pb⟩:=hpp
  obtain⟨_,_,_,_,hC⟩:=jn ra rb pa pb
  have ok:cB (b9 a b):=((pB pa).mul (pB pb) hC (by omega)).ok (by omega)
  obtain⟨ng,m,e,hy,hm⟩:=id ok
  clear hm
  have hp:∀ i,i<2->aC (if i=0 then a else b)=true:=fun i hi=>by split<;>assumption
  have:=tz way hw near _ #[] go 2 (by decide) (fun i=>if i=0 then a else b) w (zM ko) hp H ng _ _ _ false (DR hy.nonneg) (DT hy ok) hER (fun W g q hb hN hf=>xF g W q (aF a) (aF b) (b9 a b) ng m e hN (xE hN hf 0 (by decide)) (xE hN hf 1 (by decide)) (r6 pa) (r6 pb) hC ok hy (H.keeps hb).tab)
  have hA:(if true=true∧b9 a b≠0 then df way (b9 a b) else near)=qr 0 (m/2^vK m).toNat false (ij way ng true (m/2^vK m).toNat (e+vK m) (decide (m % 2^vK m≠0))).1 near:=by
   unfold qr
   by_cases h0:b9 a b=0
   ·have hm0:=hy.eq_zero.1 h0
    have n1:¬ (true=true∧b9 a b≠0):=fun q=>q.2 h0
    have n3:(0:Int)≠0∨((m/2^vK m).toNat=0∧false=false):=.inr ⟨by rw[hm0,Int.zero_ediv];rfl,rfl⟩
    rw[if_neg n1,if_pos n3]
   ·have hm0:0<m:=by
     have:=hy.nonneg
     have:m≠0:=fun q=>h0 (hy.eq_zero.2 q)
     omega
    have n1:true=true∧b9 a b≠0:=⟨rfl,h0⟩
    have n3:¬ ((0:Int)≠0∨((m/2^vK m).toNat=0∧false=false)):=fun q=>by
     rcases q with q|q
     ·exact q rfl
     ·exact BN hm0 q.1
    rw[if_pos n1,if_neg n3,DB hy h0 (by have:=(hy.ok.1 ok).2.1;omega)]
  rw[hA]
  exact this
theorem Aw {a b way:Int} {w:World} (ra:au a) (rb:au b) (hw:0<=way∧way<=3) (H:ax w) :
  Calls prog 106 #[.int .i64 a,.int .i64 b,.int .i64 way] w fun e w'=>e=.returned (.tuple #[.int .i64 (eZ way a b),.int .i64 0])∧Below w.heap.size w w':=by
 have CK:Hid (∀ W go,W.heap[go]?=some (.cells #[.int .i64 a,.int .i64 b] 3 (0,0))->ax W->Calls prog 125 #[.agg #[.func (.func 140) #[] #[],.func (.func 70) #[] #[]],.int .i64 (aS (bQ a) (bQ b)),.int .i64 way,.func (.func 126) #[] #[],.slice (some ⟨go,0,none⟩) 2 2] W fun e w'=>e=.returned (.tuple #[.int .i64 (eZ way a b),.int .i64 0])∧Below W.heap.size W w'):=fun W go ko H=>by
  by_cases h0:way=0
  ·have e:eZ way a b=aS (bQ a) (bQ b):=by unfold eZ;rw[if_pos (.inl h0)]
   rw[e,h0]
   exact rT _ _ ⟨_,rfl⟩ ⟨_,rfl⟩ _ _ _ _ _ W
  ·have e:eZ way a b=if (aC a&&aC b)=true∧b9 a b≠0 then df way (b9 a b) else aS (bQ a) (bQ b):=by
    unfold eZ
    cases hp:(aC a&&aC b)
    ·have n1:way=0∨false=false:=.inr rfl
     have n2:¬ (false=true∧b9 a b≠0):=fun q=>by cases q.1
     rw[if_pos n1,if_neg n2]
    ·have n1:¬ (way=0∨true=false):=fun q=>by rcases q with q|q;exact h0 q;cases q
     rw[if_neg n1]
     by_cases h:b9 a b≠0
     ·have n2:true=true∧b9 a b≠0:=⟨rfl,h⟩
      rw[if_pos h,if_pos n2]
     ·have n2:¬ (true=true∧b9 a b≠0):=fun q=>h q.2
      rw[if_neg h,if_neg n2]
   rw[e]
   exact Fi way (by omega) _ a b ra rb W go ko H
 generalize eZ way a b=R at CK ⊢
 have hcv:=vz
 have hmf:∀ (fn:Fn) (first cap:Array Value) (w:World),(Instr.makeFunc fn first cap).run prog w=.ok (.func fn first cap) w:=fun _ _ _ _=>rfl
 have CF:Hid (∀ W,Calls prog 46 #[.int .i64 a] W fun e w'=>e=.returned (.float .f64 (wd a))∧w'=W):=fun W=>ik a W
 have CG:Hid (∀ W,Calls prog 46 #[.int .i64 b] W fun e w'=>e=.returned (.float .f64 (wd b))∧w'=W):=fun W=>ik b W
 have RS:Hid (∀ W,_):=fun W=>qj (P:=prog) 62 (ug ra) (ug rb) W
 go_enter func106,ntmps106
 go_wp2_with fail
 refine(vi _).mono ?_
 rintro _ w1 ⟨rfl,hb1⟩
 obtain⟨z,w2,hrun,hz,hw2⟩:=RS.out w1
 clear RS
 generalize wd a=x at *
 generalize wd b=y at *
 generalize aS (bQ a) (bQ b)=near at *
 go_wp2_with fail
 refine(CF.out _).mono ?_
 rintro _ _ ⟨rfl,rfl⟩
 go_wp2_with fail
 refine(CG.out _).mono ?_
 rintro _ _ ⟨rfl,rfl⟩
 go_wp2_with fail
 have hb2:Below w.heap.size w w2:=by rcases hw2 with rfl|rfl;exact hb1;exact hb1.drew
 refine(vk hz _).mono ?_
 rintro _ _ ⟨rfl,rfl⟩
 have hb3:=ab hb2 (ae _ (.cells #[.int .i64 a,.int .i64 b] 3))
 go_wp2_with fail
 refine(CK.out _ _ (aB _ (.cells #[.int .i64 a,.int .i64 b] 3)) (H.keeps hb3)).mono ?_
 rintro _ w5 ⟨rfl,hb5⟩
 go_wp2
 all_goals refine bodyPost_ret (v:=.tuple #[.int .i64 R,.int .i64 0]) (by simp[results,results106,go_sem]) rfl ⟨rfl,ab hb3 hb5⟩
theorem vC {w w3:World} (h3:Below (w.alloc (.cells #[.float .f64 0,.float .f64 0] 64)).heap.size (w.alloc (.cells #[.float .f64 0,.float .f64 0] 64)) w3) (U V:Nat) :
  (store ⟨w.heap.size,0,none⟩ (.float .f64 U)).run prog w3=.ok () (w3.setCell ⟨w.heap.size,0,none⟩ (.float .f64 U))∧(store ⟨w.heap.size,1,none⟩ (.float .f64 V)).run prog (w3.setCell ⟨w.heap.size,0,none⟩ (.float .f64 U))=.ok () ((w3.setCell ⟨w.heap.size,0,none⟩ (.float .f64 U)).setCell ⟨w.heap.size,1,none⟩ (.float .f64 V))∧((w3.setCell ⟨w.heap.size,0,none⟩ (.float .f64 U)).setCell ⟨w.heap.size,1,none⟩ (.float .f64 V)).cell? ⟨w.heap.size,0,none⟩=some (.float .f64 U)∧((w3.setCell ⟨w.heap.size,0,none⟩ (.float .f64 U)).setCell ⟨w.heap.size,1,none⟩ (.float .f64 V)).cell? ⟨w.heap.size,1,none⟩=some (.float .f64 V)∧Below w.heap.size w ((w3.setCell ⟨w.heap.size,0,none⟩ (.float .f64 U)).setCell ⟨w.heap.size,1,none⟩ (.float .f64 V)):=by
 have hg:=nt w (.cells #[.float .f64 0,.float .f64 0] 64)
 have hba:=ae w (.cells #[.float .f64 0,.float .f64 0] 64)
 have d2:=(h3.block _ (aGe hg).1).trans hg
 have d3:=aj d2 0 (.float .f64 U)
 have d4:=aj d3 1 (.float .f64 V)
 have f0:=aa d2 0 rfl
 have z0:=af d2 0
 have f1:=aa d3 1 rfl
 have z1:=af d3 1
 refine⟨?_,?_,aa d4 0 rfl,aa d4 1 rfl,?_⟩
 ·rw[run_store _ _ _ _ _ rfl,f0];simp only[z0];rfl
 ·rw[run_store _ _ _ _ _ rfl,f1];simp only[z1];rfl
 ·exact((ab hba h3).setCell (p:=⟨w.heap.size,0,none⟩) (Nat.le_refl _) _).setCell (p:=⟨w.heap.size,1,none⟩) (Nat.le_refl _) _
theorem sN {a b:Int} (ra:au a) (rb:au b) (w:World) (H:ax w) :
  Calls prog 85 #[.int .i64 a,.int .i64 b] w fun e w'=>e=.returned (bU (eZ 1 a b) (eZ 2 a b))∧Below w.heap.size w w':=by
 have C1:Hid (∀ W,ax W->Calls prog 106 #[.int .i64 a,.int .i64 b,.int .i64 1] W fun e w'=>e=.returned (.tuple #[.int .i64 (eZ 1 a b),.int .i64 0])∧Below W.heap.size W w'):=fun W h=>Aw ra rb (by omega) h
 have C2:Hid (∀ W,ax W->Calls prog 106 #[.int .i64 a,.int .i64 b,.int .i64 2] W fun e w'=>e=.returned (.tuple #[.int .i64 (eZ 2 a b),.int .i64 0])∧Below W.heap.size W w'):=fun W h=>Aw ra rb (by omega) h
 unfold bU
 generalize eZ 1 a b=l at *
 generalize eZ 2 a b=h at *
 have hba:=ae w (.cells #[.float .f64 0,.float .f64 0] 64)
 go_enter func85,ntmps85
 go_wp2_with fail
 refine(C1.out _ (H.keeps hba)).mono ?_
 rintro _ w1 ⟨rfl,hb1⟩
 have hw1:=ab hba hb1
 go_wp2_with fail
 refine(C2.out _ (H.keeps hw1)).mono ?_
 rintro _ w2 ⟨rfl,hb2⟩
 have hb3:=ab hb1 hb2
 obtain⟨s0,s1,e0,e1,hbe⟩:=vC hb3 (wd l) (wd h)
 have CF:Hid (∀ W,Calls prog 46 #[.int .i64 l] W fun e w'=>e=.returned (.float .f64 (wd l))∧w'=W):=fun W=>ik l W
 have CG:Hid (∀ W,Calls prog 46 #[.int .i64 h] W fun e w'=>e=.returned (.float .f64 (wd h))∧w'=W):=fun W=>ik h W
 go_wp2_with fail
 refine(CF.out _).mono ?_
 rintro _ wz ⟨rfl,hwz⟩
 replace hwz:=hwz.symm
 subst hwz
 go_wp2_with fail
 refine(CG.out _).mono ?_
 rintro _ wz ⟨rfl,hwz⟩
 replace hwz:=hwz.symm
 subst hwz
 go_wp2
 refine bodyPost_ret (v:=.agg #[.float .f64 (wd l),.float .f64 (wd h)]) (by simp[results,results85,go_sem,e0,e1]) rfl ⟨rfl,hbe⟩
theorem qt {P:Program} (t:TypeId) {p q:Int} {x y:Nat} (hx:FW p x) (hy:FW q y) (h:aE (aS p q)≠4) (w:World):(binOp .mul t (.float .f64 x) (.float .f64 y)).run P w=.ok (.float .f64 (wd (aS p q))) w:=by
 obtain⟨z,w',hrun,hz⟩:=jF (P:=P) .mul (.inr (.inr (.inl rfl))) t x y w
 have hf:floatBits .mul .f64 x y=Ieee.double.mul x y:=rfl
 rw[hf] at hz
 rcases xf hx hy with⟨z',e1,e2⟩|⟨_,e2⟩
 ·rcases hz with⟨h1,h2⟩|⟨h1,_⟩
  ·rw[e1] at h1
   cases h1
   rw[hrun,h2,(e2.of h).2.1]
  ·rw[e1] at h1;cases h1
 ·exact absurd (by rw[e2];decide) h
theorem j8 {p:Int} (h:nn p) (h0:rg p≠0):FloatKind.f64.format.order (wd p) 0=some .lt∨FloatKind.f64.format.order (wd p) 0=some .gt:=by
 have n0:=dR.1
 have w0:wd 0=0:=by decide
 have k0:aw 0=0:=by decide
 have hk:aw p≠0:=by
  have:=fd h
  unfold aw
  unfold rg at h0 this
  split at h0<;>simp_all<;>omega
 rcases Int.lt_or_gt_of_ne hk with q|q
 ·left
  have:=gL h.1 n0.1 h.2 n0.2 (by rw[k0];exact q)
  rwa [w0] at this
 ·right
  have:=gM h.1 n0.1 h.2 n0.2 (by rw[k0];exact q)
  rwa [w0] at this
theorem qu {p:Int} (h:nn p) (h0:rg p=0):FloatKind.f64.format.order (wd p) 0=some .eq:=by
 have n0:=dR.1
 have w0:wd 0=0:=by decide
 have k0:aw 0=0:=by decide
 have hk:aw p=0:=by
  unfold aw
  unfold rg at h0
  split at h0<;>simp_all
 have:=gN h.1 n0.1 h.2 n0.2 (by rw[k0];exact hk)
 rwa [w0] at this
theorem sO {p q:Int} (hp:nn p) (hq:nn q) (h0:rg p=0∨rg q=0) (w:World) :
  Calls prog 66 #[.float .f64 (wd p),.float .f64 (wd q)] w fun e w'=>e=.returned (bU 0 0)∧Below w.heap.size w w':=by
 have hcv:=vz
 have w0:wd 0=0:=by decide
 unfold bU
 rw[w0]
 have hba:=ae w (.cells #[.float .f64 0,.float .f64 0] 64)
 obtain⟨z,w1,hrun,hz,hw1⟩:=qj (P:=prog) 62 (FW.pat hp.2 hp.1) (FW.pat hq.2 hq.1) (w.alloc (.cells #[.float .f64 0,.float .f64 0] 64))
 have hb1:Below (w.alloc (.cells #[.float .f64 0,.float .f64 0] 64)).heap.size (w.alloc (.cells #[.float .f64 0,.float .f64 0] 64)) w1:=by
  rcases hw1 with rfl|rfl
  ·exact ap _
  ·exact(ap _).drew
 obtain⟨s0,s1,e0,e1,hbe⟩:=vC hb1 0 0
 by_cases hp0:rg p=0
 ·have o:=qu hp hp0
  generalize wd p=x at *
  generalize wd q=y at *
  clear hw1
  go_enter func66,ntmps66
  go_wp2
  refine bodyPost_ret (v:=.agg #[.float .f64 0,.float .f64 0]) (by simp[results,results66,go_sem,e0,e1]) rfl ⟨rfl,hbe⟩
 ·have hq0:rg q=0:=by omega
  have o2:=qu hq hq0
  rcases j8 hp hp0 with o|o
  all_goals
   generalize wd p=x at *
   generalize wd q=y at *
   clear hw1
   go_enter func66,ntmps66
   go_wp2
   refine bodyPost_ret (v:=.agg #[.float .f64 0,.float .f64 0]) (by simp[results,results66,go_sem,e0,e1]) rfl ⟨rfl,hbe⟩
theorem sP {p q:Int} (hp:nn p) (hq:nn q) (p0:rg p≠0) (q0:rg q≠0) (hn:nn (aS p q)) (hd:rg (aS p q)<283726776524341248) (w:World) (H:ax w) :
  Calls prog 66 #[.float .f64 (wd p),.float .f64 (wd q)] w fun e w'=>e=.returned (bU (eZ 1 p q) (eZ 2 p q))∧Below w.heap.size w w':=by
 have hcv:=vz
 have hba:=ae w (.cells #[.float .f64 0,.float .f64 0] 64)
 have CD:Hid (∀ W,ax W->Calls prog 85 #[.int .i64 p,.int .i64 q] W fun e w'=>e=.returned (.agg #[.float .f64 (wd (eZ 1 p q)),.float .f64 (wd (eZ 2 p q))])∧Below W.heap.size W w'):=fun W h=>sN hp.1 hq.1 W h
 have CP:Hid (∀ W,Calls prog 65 #[.float .f64 (wd p)] W fun e w'=>e=.returned (.int .i64 p)∧w'=W):=fun W=>vk (FW.pat hp.2 hp.1) W
 have CQ:Hid (∀ W,Calls prog 65 #[.float .f64 (wd q)] W fun e w'=>e=.returned (.int .i64 q)∧w'=W):=fun W=>vk (FW.pat hq.2 hq.1) W
 have CA:Hid (∀ W,Calls prog 77 #[.float .f64 (wd (aS p q))] W fun e w'=>e=.returned (.float .f64 (wd (rg (aS p q))))∧w'=W):=fun W=>jM hn.1 W
 have hrun:∀ W,(binOp .mul 62 (.float .f64 (wd p)) (.float .f64 (wd q))).run prog W=.ok (.float .f64 (wd (aS p q))) W:=fun W=>qt _ (FW.pat hp.2 hp.1) (FW.pat hq.2 hq.1) hn.2 W
 have od:FloatKind.f64.format.order (wd (rg (aS p q))) 283726776524341248=some .lt:=by
  obtain⟨a1,a2⟩:=j6 hn.1
  have ca:¬ aE (rg (aS p q))=4:=by rw[oK hn.1];exact hn.2
  have:=gL a1 (show au 283726776524341248 by unfold au;omega) ca (by decide) (by rw[oL a2,show aw 283726776524341248=283726776524341248 by decide];exact hd)
  rwa [show wd 283726776524341248=283726776524341248 by decide] at this
 have o1:=j8 hp p0
 have o2:=j8 hq q0
 unfold bU
 generalize wd (eZ 1 p q)=U at *
 generalize wd (eZ 2 p q)=V at *
 generalize wd (rg (aS p q))=A at *
 generalize wd (aS p q)=N at *
 generalize wd p=x at *
 generalize wd q=y at *
 rcases o1 with o1|o1<;>rcases o2 with o2|o2
 all_goals
  go_enter func66,ntmps66
  go_wp2_with fail
  refine(CA.out _).mono ?_
  rintro _ wz ⟨rfl,hwz⟩
  replace hwz:=hwz.symm
  subst hwz
  go_wp2_with fail
  refine(CP.out _).mono ?_
  rintro _ wz ⟨rfl,hwz⟩
  replace hwz:=hwz.symm
  subst hwz
  go_wp2_with fail
  refine(CQ.out _).mono ?_
  rintro _ wz ⟨rfl,hwz⟩
  replace hwz:=hwz.symm
  subst hwz
  go_wp2_with fail
  refine(CD.out _ (H.keeps hba)).mono ?_
  rintro _ w3 ⟨rfl,hb3⟩
  obtain⟨s0,s1,e0,e1,hbe⟩:=vC hb3 U V
  go_wp2
  refine bodyPost_ret (v:=.agg #[.float .f64 U,.float .f64 V]) (by simp[results,results66,go_sem,e0,e1]) rfl ⟨rfl,hbe⟩
theorem oU {p q:Int} (hp:nn p) (hq:nn q) (p0:rg p≠0) (q0:rg q≠0) (hn:nn (aS p q)) (hd:283726776524341248<=rg (aS p q)) (w:World) :
  Calls prog 66 #[.float .f64 (wd p),.float .f64 (wd q)] w fun e w'=>e=.returned (bU (c6 (aS p q) (dU p q (neg (aS p q)))) (c7 (aS p q) (dU p q (neg (aS p q)))))∧Below w.heap.size w w':=by
 have hcv:=vz
 have hba:=ae w (.cells #[.float .f64 0,.float .f64 0] 64)
 have CA:Hid (∀ W,Calls prog 77 #[.float .f64 (wd (aS p q))] W fun e w'=>e=.returned (.float .f64 (wd (rg (aS p q))))∧w'=W):=fun W=>jM hn.1 W
 have hrun:∀ W,(binOp .mul 62 (.float .f64 (wd p)) (.float .f64 (wd q))).run prog W=.ok (.float .f64 (wd (aS p q))) W:=fun W=>qt _ (FW.pat hp.2 hp.1) (FW.pat hq.2 hq.1) hn.2 W
 have hneg:∀ W,(Op.unary UnOp.neg (.float .f64 (wd (aS p q)))).run prog W=.ok (.float .f64 (wd (neg (aS p q)))) W:=fun W=>lG hn W
 have nm:=(cu hn).1
 obtain⟨L,w1,rF,hL,hw1⟩:=zJ (FW.pat hp.2 hp.1) (FW.pat hq.2 hq.1) (FW.pat nm.2 nm.1) (w.alloc (.cells #[.float .f64 0,.float .f64 0] 64))
 have hb1:Below (w.alloc (.cells #[.float .f64 0,.float .f64 0] 64)).heap.size (w.alloc (.cells #[.float .f64 0,.float .f64 0] 64)) w1:=by
  rcases hw1 with rfl|rfl
  ·exact ap _
  ·exact(ap _).drew
 have CB:Hid (∀ W,Calls prog 78 #[.float .f64 (wd (aS p q)),.float .f64 L] W fun e w'=>e=.returned (.agg #[.float .f64 (wd (c6 (aS p q) (dU p q (neg (aS p q))))),.float .f64 (wd (c7 (aS p q) (dU p q (neg (aS p q)))))])∧Below W.heap.size W w'):=fun W=>oP hn hL W
 have od:FloatKind.f64.format.order (wd (rg (aS p q))) 283726776524341248=some .gt∨FloatKind.f64.format.order (wd (rg (aS p q))) 283726776524341248=some .eq:=by
  obtain⟨a1,a2⟩:=j6 hn.1
  have ca:¬ aE (rg (aS p q))=4:=by rw[oK hn.1];exact hn.2
  have w9:wd 283726776524341248=283726776524341248:=by decide
  have k9:aw 283726776524341248=283726776524341248:=by decide
  by_cases e:rg (aS p q)=283726776524341248
  ·right
   have:=gN a1 (show au 283726776524341248 by unfold au;omega) ca (by decide) (by rw[oL a2,k9];exact e)
   rwa [w9] at this
  ·left
   have:=gM a1 (show au 283726776524341248 by unfold au;omega) ca (by decide) (by rw[oL a2,k9];omega)
   rwa [w9] at this
 have o1:=j8 hp p0
 have o2:=j8 hq q0
 unfold bU
 generalize wd (c6 (aS p q) (dU p q (neg (aS p q))))=U at *
 generalize wd (c7 (aS p q) (dU p q (neg (aS p q))))=V at *
 generalize wd (rg (aS p q))=A at *
 generalize wd (neg (aS p q))=M at *
 generalize wd (aS p q)=N at *
 generalize wd p=x at *
 generalize wd q=y at *
 clear hw1 hL hd
 rcases o1 with o1|o1<;>rcases o2 with o2|o2<;>rcases od with od|od
 all_goals
  go_enter func66,ntmps66
  go_wp2_with fail
  refine(CA.out _).mono ?_
  rintro _ wz ⟨rfl,hwz⟩
  replace hwz:=hwz.symm
  subst hwz
  go_wp2_with fail
  refine(CB.out _).mono ?_
  rintro _ w3 ⟨rfl,hb3⟩
  obtain⟨s0,s1,e0,e1,hbe⟩:=vC (ab hb1 hb3) U V
  go_wp2
  refine bodyPost_ret (v:=.agg #[.float .f64 U,.float .f64 V]) (by simp[results,results66,go_sem,e0,e1]) rfl ⟨rfl,hbe⟩
theorem oV {p B:Nat} {x0 x1:Value} {W W':World} (h:p<B∧B<=W.heap.size∧W.cell? ⟨p,0,none⟩=some x0∧W.cell? ⟨p,1,none⟩=some x1) (hb:Below W.heap.size W W') :
  p<B∧B<=W'.heap.size∧W'.cell? ⟨p,0,none⟩=some x0∧W'.cell? ⟨p,1,none⟩=some x1 :=
 ⟨h.1,Nat.le_trans h.2.1 hb.size,am h.2.2.1 hb,am h.2.2.2 hb⟩
theorem eI.below' {w w':World} (h:eI w) (hb:Below w.heap.size w w'):eI w' :=
 ⟨am h.a0 hb,am h.a1 hb,am h.a2 hb,trivial,trivial,trivial⟩
theorem iX {lo hi:Int} (hl:nn lo) (hh:nn hi) (w:World) (L:eI w) :
    Calls prog 42 #[bU lo hi] w fun e w'=>e=.returned (bf (az lo) (az hi))∧Below w.heap.size w w':=by
  unfold bU bf
  have CO1:Hid (∀ W,Calls prog 65 #[.float .f64 (wd lo)] W fun e w'=>e=.returned (.int .i64 lo)∧w'=W):=fun W=>by
    have:=mi lo W hl.1
    rw[show bQ lo=lo from if_neg hl.2] at this
    exact this
  have CO2:Hid (∀ W,Calls prog 65 #[.float .f64 (wd hi)] W fun e w'=>e=.returned (.int .i64 hi)∧w'=W):=fun W=>by
    have:=mi hi W hh.1
    rw[show bQ hi=hi from if_neg hh.2] at this
    exact this
  have CX':Hid (∀ W,eI W->Calls prog 64 #[.int .i64 lo] W fun e w'=>e=.returned (.int .i64 (az lo))∧Gr W w'):=fun W LW=>p9 lo W LW
  have CY':Hid (∀ W,eI W->Calls prog 64 #[.int .i64 hi] W fun e w'=>e=.returned (.int .i64 (az hi))∧Gr W w'):=fun W LW=>p9 hi W LW
  generalize az lo=X at *
  generalize az hi=Y at *
  generalize wd lo=A at *
  generalize wd hi=B at *
  have hb2:=ar w (.cells #[.float .f64 A,.float .f64 B] 64) (.cells #[.int .i64 0,.int .i64 0] 23)
  have p0:=aU w (.cells #[.float .f64 A,.float .f64 B] 64) (.cells #[.int .i64 0,.int .i64 0] 23)
  have p1:=aR w (.cells #[.float .f64 A,.float .f64 B] 64) (.cells #[.int .i64 0,.int .i64 0] 23)
  have hs:=i8 w (.cells #[.float .f64 A,.float .f64 B] 64) (.cells #[.int .i64 0,.int .i64 0] 23)
  have c0:=aa p0 0 rfl
  have c1:=aa p0 1 rfl
  have hbd:=hb2.drew
  have L1:=L.below' hbd
  clear hl hh
  go_enter func42,ntmps42
  go_wp2_with fail
  generalize (w.alloc (.cells #[.float .f64 A,.float .f64 B] 64)).alloc (.cells #[.int .i64 0,.int .i64 0] 23)=w1 at *
  have hc:w.heap.size<w.heap.size+1∧w.heap.size+1<=w1.drew.heap.size∧w1.drew.cell? ⟨w.heap.size,0,none⟩=some (.float .f64 A)∧w1.drew.cell? ⟨w.heap.size,1,none⟩=some (.float .f64 B):=⟨by omega,by show _<=w1.heap.size;omega,c0,c1⟩
  have hd:w1.drew.heap[w.heap.size+1]?=some (.cells #[.int .i64 0,.int .i64 0] 23 (0,0)):=p1
  go_region_held3 (fun W=>w.heap.size<w.heap.size+1∧w.heap.size+1<=W.heap.size∧W.cell? ⟨w.heap.size,0,none⟩=some (.float .f64 A)∧W.cell? ⟨w.heap.size,1,none⟩=some (.float .f64 B))
    (first|assumption|(repeat (first|exact hc|exact hc1|exact hc2|refine ql (by omega) ?_)))
    (first
      | (go_at_call 65;have _t:=LA;refine(CO2.out _).mono ?_;rintro _ _ ⟨rfl,rfl⟩)
      | (go_at_call 65;refine(CO1.out _).mono ?_;rintro _ _ ⟨rfl,rfl⟩)
      | (go_at_call 64;have _t:=LA;refine(CY'.out _ LA).mono ?_;rintro _ w3 ⟨rfl,g3⟩;have hc2:=oV hc1 g3.be;have d2:=(g3.be.block _ (aGe d1).1).trans d1;have d3:=aj d2 0 (.int .i64 X);have d4:=aj d3 1 (.int .i64 Y);have f0:=aa d2 0 rfl;have z0:=af d2 0;have f1:=aa d3 1 rfl;have z1:=af d3 1)
      | (go_at_call 64; refine (CX'.out _ L1).mono ?_; rintro _ w2 ⟨rfl,g2⟩; have LA:=L1.grown g2; have hc1:=oV hc g2.be; have d1:=(g2.be.block _ (Array.getElem?_eq_some_iff.1 hd).1).trans hd))
  have e0:=aa d4 0 rfl
  have e1:=aa d4 1 rfl
  have hbe:Below w.heap.size w ((w3.setCell ⟨w.heap.size+1,0,none⟩ (.int .i64 X)).setCell ⟨w.heap.size+1,1,none⟩ (.int .i64 Y)):=((ab hbd (ab g2.be g3.be)).setCell (p:=⟨w.heap.size+1,0,none⟩) (Nat.le_succ _) _).setCell (p:=⟨w.heap.size+1,1,none⟩) (Nat.le_succ _) _
  clear d1 d2 d3 d4 f0 f1 z0 z1 hd hc hc1 hc2
  generalize (w3.setCell ⟨w.heap.size+1,0,none⟩ (.int .i64 X)).setCell ⟨w.heap.size+1,1,none⟩ (.int .i64 Y)=wy at *
  go_wp2
  refine bodyPost_ret (v:=.agg #[.int .i64 X,.int .i64 Y]) (by simp[results,results42,go_sem,e0,e1]) rfl ⟨rfl,hbe⟩
theorem xH {lo hi:Int} (hl:au lo) (hh:au hi) (w:World) :
  Calls prog 16 #[bf lo hi] w fun e w'=>e=.returned (.bool (aK lo hi))∧Below w.heap.size w w':=by
 have C1:=fun W=>fF lo hi W
 have C2:=fun W=>cM hl hh W
 unfold bf bU at *
 have hb:=ae w (.cells #[.int .i64 lo,.int .i64 hi] 23)
 go_enter func16,ntmps16
 go_wp2_with fail
 generalize w.alloc (.cells #[.int .i64 lo,.int .i64 hi] 23)=wx at *
 refine(C1 _).mono ?_
 rintro _ w1 ⟨rfl,hb1⟩
 go_wp2_with fail
 refine(C2 _).mono ?_
 rintro _ w2 ⟨rfl,hb2⟩
 go_wp2
 go_ret
 exact⟨rfl,ab hb (ab hb1 hb2)⟩
end Go.Proofs.YtkkpppgfoilgmaaGreatDoor
