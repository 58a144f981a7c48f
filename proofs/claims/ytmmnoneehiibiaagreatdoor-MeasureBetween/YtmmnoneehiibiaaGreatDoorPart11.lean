/- Parts of the proof. -/
import Derived.Test.YtmmnoneehiibiaaGreatDoorPart10
import Derived.Maps.AppendAt
set_option linter.unusedVariables false
set_option linter.unusedSimpArgs false
namespace Go.Proofs.YtmmnoneehiibiaaGreatDoor
open Go Go.RowKit Go.Proofs.YtmmnoneehiibiaaGreatDoor.M
set_option maxRecDepth 100000 in
set_option maxHeartbeats 2000000 in
theorem values_no (F G:Nat) (oo:Option Addr) (n cap:Nat) (d V:Nat->Int) (w:World) (hR:Row w oo n cap d) (hn:n<=100000) (K:Nat) (hK:K<n)
    (hEF:∀ (cap:Array Value) (w:World),(callFunc F cap).run Tryz.prog w=.ok (.enter F cap) w)
    (C:∀ i,i<K->∀ W,Below w.heap.size w W->Calls Tryz.prog F #[.int .i64 (d i)] W fun r w'=>∃ v,r=.returned (.tuple #[v,.int .i64 0])∧DAns W w' (V i) v)
    (CN:∀ W,Below w.heap.size w W->Calls Tryz.prog F #[.int .i64 (d K)] W fun r w'=>r=.returned (.tuple #[.agg #[.bool false,.slice none 0 0,.int .i64 0],.int .i64 10])∧Below W.heap.size W w') :
    Calls Tryz.prog 208 #[.agg #[.func (.func F) #[] #[],.func (.func G) #[] #[]],.slice oo n cap] w fun x w'=>x=.returned (.tuple #[.slice none 0 0,.bool false])∧Below w.heap.size w w':=by
  have hle:=hR.le
  have hma:=hR.max
  have hmake:=make_nums n hn
  have hst:∀ (p:Addr) (F:Nat) (m:Mode) (w:World),(store p (.func (.func F) #[] #[]) m).run Tryz.prog w=stored Tryz.prog w p (.func (.func F) #[] #[]) m:=fun p F m w=>run_store _ w p _ m rfl
  have ha1:=bel_alloc w (.cells #[.func (.func F) #[] #[],.func (.func G) #[] #[]] 197)
  have q1:=heap_alloc_new w (.cells #[.func (.func F) #[] #[],.func (.func G) #[] #[]] 197)
  have k0:=blkC q1 0 rfl
  have k1:=blkC q1 1 rfl
  go_enter Tryz.func208,Tryz.ntmps208
  go_wp2_with fail
  have hb0:=bel_alloc2 w (.cells #[.func (.func F) #[] #[],.func (.func G) #[] #[]] 197) (.cells (madeCells #[.bool false,.slice none 0 0,.int .i64 0] (n*3)) 34)
  have g1:=heap_b2 w (.cells #[.func (.func F) #[] #[],.func (.func G) #[] #[]] 197) (.cells (madeCells #[.bool false,.slice none 0 0,.int .i64 0] (n*3)) 34)
  have g0:=heap_a2 w (.cells #[.func (.func F) #[] #[],.func (.func G) #[] #[]] 197) (.cells (madeCells #[.bool false,.slice none 0 0,.int .i64 0] (n*3)) 34)
  have HB0:Hid (BlkN ((w.alloc (.cells #[.func (.func F) #[] #[],.func (.func G) #[] #[]] 197)).alloc (.cells (madeCells #[.bool false,.slice none 0 0,.int .i64 0] (n*3)) 34)) (w.heap.size+1) n 0 (fun _=>⟨false,none,0,0,fun _=>0,0⟩)):=⟨_,g1,by rw [size_madeCells],fun i hi=>by omega⟩
  clear g1 hmake q1 k0 k1 ha1
  generalize (w.alloc (.cells #[.func (.func F) #[] #[],.func (.func G) #[] #[]] 197)).alloc (.cells (madeCells #[.bool false,.slice none 0 0,.int .i64 0] (n*3)) 34)=wx at hb0 HB0 g0 ⊢
  go_loopw [16] (fun iv wr=>∃ (k:Nat) (q:Nat->NumR),k<=K∧iv=.int .i64 k∧Hid (BlkN wr (w.heap.size+1) n k q)∧Hid (∀ i,i<k->Nrm (q i).d (q i).n∧Dy (V i) (q i).ng (val (q i).d (q i).n) (q i).e)∧Hid (∀ i b' off,i<k->(q i).ao=some ⟨b',off,none⟩->0<(q i).n->w.heap.size+1<b')∧Hid (wr.heap[w.heap.size]?=some (.cells #[.func (.func F) #[] #[],.func (.func G) #[] #[]] 197 (0,0)))∧Below w.heap.size w wr) (fun iv _=>n-(intOf iv).toNat)
  case atStart=>exact ⟨0,_,Nat.zero_le _,rfl,HB0,fun i hi=>by omega,fun i b' off hi=>by omega,g0,hb0⟩
  case round=>
    obtain ⟨k,q,hk,rfl,HQ,HF,HG,HK,hbw⟩:=hrel
    clear HB0 hb0 g0
    have hlt:k<n:=by omega
    by_cases hltK:k<K
    . obtain ⟨ba,oa,rfl,hba,hca⟩:=hR.spot (by omega)
      have c0:=(hbw.cell (p:=⟨ba,oa+k,none⟩) hba).trans (hca k hlt)
      have CF:=C k hltK
      have kf:=blkC HK.out 0 rfl
      obtain ⟨cur,hcur,hsz,hcells⟩:=HQ.out
      have e0:k*3<cur.size:=by omega
      have e1:k*3+1<cur.size:=by omega
      have e2:k*3+2<cur.size:=by omega
      obtain ⟨v0,hv0⟩:∃ v,cur[k*3]?=some v:=⟨_,Array.getElem?_eq_getElem e0⟩
      obtain ⟨v1,hv1⟩:∃ v,cur[k*3+1]?=some v:=⟨_,Array.getElem?_eq_getElem e1⟩
      obtain ⟨v2,hv2⟩:∃ v,cur[k*3+2]?=some v:=⟨_,Array.getElem?_eq_getElem e2⟩
      have HV:Hid (cur[k*3]?=some v0∧cur[k*3+1]?=some v1∧cur[k*3+2]?=some v2):=⟨hv0,hv1,hv2⟩
      have HCUR:Hid (wr.heap[w.heap.size+1]?=some (.cells cur 34 (0,0))):=hcur
      have hgs:w.heap.size+1<wr.heap.size:=(Array.getElem?_eq_some_iff.1 hcur).1
      clear hcells hv0 hv1 hv2 hcur hsz e0 e1 e2 hca C
      have i0:(0:Int)<=(k:Int):=by omega
      have i1:(k:Int)<(n:Int):=by omega
      generalize d k=x at *
      go_wp2_with fail
      refine (CF _ hbw).mono ?_
      rintro _ w3 ⟨v,rfl,hD⟩
      have hb3:=hD.below
      have HD:Hid (DAns wr w3 (V k) v):=hD
      obtain ⟨g,s0,m0,e,rfl,_,hA0⟩:=id hD
      obtain ⟨so,sn,sc,rfl⟩:=hA0.num.shape
      clear hD CF hA0
      have hb4:=bel_trans hb3 (bel_alloc w3 (.cells #[.bool g,.slice so sn sc,.int .i64 e] 34))
      have q0:=(hb4.block (w.heap.size+1) hgs).trans HCUR.out
      have HK4:Hid ((w3.alloc (.cells #[.bool g,.slice so sn sc,.int .i64 e] 34)).heap[w.heap.size]?=some (.cells #[.func (.func F) #[] #[],.func (.func G) #[] #[]] 197 (0,0))):=(hb4.block _ (Array.getElem?_eq_some_iff.1 HK.out).1).trans HK.out
      have qx:=heap_a1 w3 (.cells #[.bool g,.slice so sn sc,.int .i64 e] 34)
      have t0:=blkC qx 0 rfl
      have t1:=blkC qx 1 rfl
      have t2:=blkC qx 2 rfl
      have x0:=blkC q0 (k*3) HV.out.1
      have x1:=blkC q0 (k*3+1) HV.out.2.1
      have x2:=blkC q0 (k*3+2) HV.out.2.2
      have f0:=blkF q0 (k*3)
      have f1:=blkF q0 (k*3+1)
      have f2:=blkF q0 (k*3+2)
      have hn1:w.heap.size+1≠w.heap.size:=by omega
      clear q0 qx kf
      go_wp2
      all_goals
        go_roundw
        case rel=>
          obtain ⟨ng,s,m,e',h1,hyy,hA⟩:=HD.out
          simp only [Value.agg.injEq,Array.mk.injEq,List.cons.injEq,Value.bool.injEq,Value.int.injEq,true_and,and_true] at h1
          obtain ⟨rfl,rfl,rfl⟩:=h1
          obtain ⟨dd,hRd,hNd,hVd,hgd⟩:=hA.open
          have hgs2:∀ b' off,so=some ⟨b',off,none⟩->0<sn->w.heap.size+1<b':=fun b' off he _=>by
            have h9:=hgd b' off he
            omega
          refine ⟨k+1,updN q k ⟨g,so,sn,sc,dd,e⟩,by omega,by go_num,BlkN.step (x:=⟨g,so,sn,sc,dd,e⟩) HQ.out hb4 (hRd.keeps (bel_alloc _ _)) hlt HG.out hgs2,fun i hi=>?_,fun i b' off hi he hn'=>?_,?_,bel_set3' (bel_trans hbw hb4) (by omega) _ _ _⟩
          . by_cases ei:i=k
            . subst ei
              rw [updN_same]
              exact ⟨hNd,by rw [hVd]; exact hyy⟩
            . rw [updN_other _ _ ei]
              exact HF.out i (by omega)
          . by_cases ei:i=k
            . subst ei
              rw [updN_same] at he hn'
              exact hgs2 b' off he hn'
            . rw [updN_other _ _ ei] at he hn'
              exact HG.out i b' off (by omega) he hn'
          . show _=_
            rw [heap_setCell_other _ ⟨w.heap.size+1,_,none⟩ w.heap.size _ (Ne.symm hn1),heap_setCell_other _ ⟨w.heap.size+1,_,none⟩ w.heap.size _ (Ne.symm hn1),heap_setCell_other _ ⟨w.heap.size+1,_,none⟩ w.heap.size _ (Ne.symm hn1)]
            exact HK4.out
        case measure=>simp [intOf]; omega
    . obtain rfl:k=K:=by omega
      obtain ⟨ba,oa,rfl,hba,hca⟩:=hR.spot (by omega)
      have c0:=(hbw.cell (p:=⟨ba,oa+k,none⟩) hba).trans (hca k hlt)
      have kf:=blkC HK.out 0 rfl
      clear hca C
      have i0:(0:Int)<=(k:Int):=by omega
      have i1:(k:Int)<(n:Int):=by omega
      generalize d k=x at *
      go_wp2_with fail
      refine (CN _ hbw).mono ?_
      rintro _ w3 ⟨rfl,hb3⟩
      go_wp2
      all_goals refine bodyPost_ret (v:=.tuple #[.slice none 0 0,.bool false]) (by simp [results,Tryz.results208,go_sem]) rfl ⟨rfl,bel_trans hbw (bel_trans hb3 (bel_alloc _ _))⟩
def vlV (ng:Bool) (m e:Int) (sd:Bool):Value:=valV ng (m/2^vK m).toNat (e+vK m) (decide (m % 2^vK m≠0)) sd
theorem valueOf_D {w:World} {v:Value} {V:Int} {ng:Bool} {m e:Int} (hx:DNum w v V) (ok:Dok V) (hy:Dy V ng m e) (hT:Tab w) :
    Calls Tryz.prog 191 #[v] w fun r w'=>r=.returned (vlV ng m e false)∧Below w.heap.size w w':=by
  obtain ⟨x,rfl,hR,hok,rfl⟩:=hx.open ok
  obtain ⟨na,hn,he0,he1⟩:=okR_sane hok
  obtain ⟨rfl,rfl,rfl⟩:=(okR_dy hok).1.unique hy
  exact valueOf_any _ _ _ _ _ _ _ hR na hn ⟨he0,he1⟩ hT
def opT (er:Int) (mag:Nat) (sd:Bool) (b near:Int):Int:=if er≠0∨(mag=0∧sd=false) then near else b
set_option maxRecDepth 100000 in
set_option maxHeartbeats 1000000 in
theorem operate_go (way:Int) (hw:1<=way∧way<=3) (near:Int) (F G Rf:Nat) (rc:Array Value) (oo:Option Addr) (n cap:Nat) (w:World) (V:Nat->Int) (ng:Bool) (mag:Nat) (exp:Int) (cut sd:Bool) (er b:Int) (o:Bool)
    (hEG:∀ (cap:Array Value) (w:World),(callFunc G cap).run Tryz.prog w=.ok (.enter G cap) w)
    (hER:∀ (cap:Array Value) (w:World),(callFunc Rf cap).run Tryz.prog w=.ok (.enter Rf cap) w)
    (CV:∀ W,Below w.heap.size w W->Calls Tryz.prog 208 #[.agg #[.func (.func F) #[] #[],.func (.func G) #[] #[]],.slice oo n cap] W fun x w'=>∃ g q,x=.returned (.tuple #[.slice (some ⟨g,0,none⟩) n n,.bool true])∧W.heap.size<=g∧Nums w' (some ⟨g,0,none⟩) n n q∧Below W.heap.size W w'∧∀ i,i<n->Nrm (q i).d (q i).n∧Dy (V i) (q i).ng (val (q i).d (q i).n) (q i).e)
    (CR:∀ W g q,Below w.heap.size w W->Nums W (some ⟨g,0,none⟩) n n q->(∀ i,i<n->Nrm (q i).d (q i).n∧Dy (V i) (q i).ng (val (q i).d (q i).n) (q i).e)->Calls Tryz.prog Rf (#[.slice (some ⟨g,0,none⟩) n n] ++ rc) W fun e w'=>e=.returned (.tuple #[valV ng mag exp cut sd,.int .i64 er])∧Below W.heap.size W w')
    (CT:∀ W,Below w.heap.size w W->Calls Tryz.prog G #[valV ng mag exp cut true,wayV way] W fun e w'=>e=.returned (.tuple #[.int .i64 b,.bool o])∧Below W.heap.size W w') :
    Calls Tryz.prog 195 #[.agg #[.func (.func F) #[] #[],.func (.func G) #[] #[]],.int .i64 near,.int .i64 way,.func (.func Rf) #[] rc,.slice oo n cap] w fun e w'=>e=.returned (.tuple #[.int .i64 (opT er mag sd b near),.int .i64 0])∧Below w.heap.size w w':=by
  have hst:∀ (p:Addr) (F:Nat) (m:Mode) (w:World),(store p (.func (.func F) #[] #[]) m).run Tryz.prog w=stored Tryz.prog w p (.func (.func F) #[] #[]) m:=fun p F m w=>run_store _ w p _ m rfl
  have hw0:0<=way∧way<=3:=by omega
  have hne:way≠0:=by omega
  unfold valV wayV at *
  have CW:=fun W=>wayOf_any way W
  rw [if_pos hw0,decide_eq_true hw0] at CW
  unfold wayV at CW
  generalize wayF way=K at *
  have HV:Hid _:=CV
  have HR:Hid _:=CR
  have HT:Hid _:=CT
  clear CV CR CT
  have hb1:=bel_alloc w (.cells #[.func (.func F) #[] #[],.func (.func G) #[] #[]] 197)
  have q1:=heap_alloc_new w (.cells #[.func (.func F) #[] #[],.func (.func G) #[] #[]] 197)
  go_enter Tryz.func195,Tryz.ntmps195
  go_wp2_with fail
  generalize w.alloc (.cells #[.func (.func F) #[] #[],.func (.func G) #[] #[]] 197)=x0 at hb1 q1 ⊢
  refine (CW _).mono ?_
  rintro _ w2 ⟨rfl,hb2⟩
  have q2:=heap_alloc_new w2 (.cells #[.nilFunc] 185)
  have y0:=blkC q2 0 rfl
  have y1:=blkF q2 0
  have p1:=(hb2.block _ (Array.getElem?_eq_some_iff.1 q1).1).trans q1
  have hb3:=bel_alloc w2 (.cells #[.func (.func K) #[] #[]] 185)
  have p2:=(hb3.block _ (Array.getElem?_eq_some_iff.1 p1).1).trans p1
  have q3:=heap_alloc_new w2 (.cells #[.func (.func K) #[] #[]] 185)
  have c0:=blkC p2 0 rfl
  have c1:=blkC p2 1 rfl
  have hbx:=bel_trans (bel_trans hb1 hb2) hb3
  clear CW q1 p1
  go_wp2_with fail
  generalize w2.alloc (.cells #[.func (.func K) #[] #[]] 185)=x3 at hb3 p2 q3 c0 c1 hbx ⊢
  refine (HV.out _ hbx).mono ?_
  rintro _ w4 ⟨g,q,rfl,hg,hN,hb4,hf⟩
  have hb5:=bel_trans hbx hb4
  have p2:=(hb4.block _ (Array.getElem?_eq_some_iff.1 p2).1).trans p2
  have q3:=(hb4.block _ (Array.getElem?_eq_some_iff.1 q3).1).trans q3
  clear c0 c1 y0 y1 q2
  go_wp2_with fail
  refine (HR.out _ g q hb5 hN hf).mono ?_
  rintro _ w6 ⟨rfl,hb6⟩
  have hb7:=bel_trans hb5 hb6
  have p2:=(hb6.block _ (Array.getElem?_eq_some_iff.1 p2).1).trans p2
  have q3:=(hb6.block _ (Array.getElem?_eq_some_iff.1 q3).1).trans q3
  clear HV HR hN hf
  have hb8:=bel_alloc w6 (.cells #[.bool ng,.int .u64 mag,.int .i64 exp,.bool cut,.bool sd] 172)
  have q8:=heap_alloc_new w6 (.cells #[.bool ng,.int .u64 mag,.int .i64 exp,.bool cut,.bool sd] 172)
  have x1':=blkC q8 1 rfl
  have x4':=blkC q8 4 rfl
  have z4':=blkF q8 4
  have hb9:=bel_trans hb7 hb8
  have hbX:=bel_alloc w6 (.cells #[.bool ng,.int .u64 mag,.int .i64 exp,.bool cut,.bool true] 172)
  have qX:=heap_alloc_new w6 (.cells #[.bool ng,.int .u64 mag,.int .i64 exp,.bool cut,.bool true] 172)
  have pX:=(hbX.block _ (Array.getElem?_eq_some_iff.1 p2).1).trans p2
  have rX:=(hbX.block _ (Array.getElem?_eq_some_iff.1 q3).1).trans q3
  have u1:=blkC pX 1 rfl
  have u2:=blkC rX 0 rfl
  have v0:=blkC qX 0 rfl
  have v1:=blkC qX 1 rfl
  have v2:=blkC qX 2 rfl
  have v3:=blkC qX 3 rfl
  have v4:=blkC qX 4 rfl
  have hbY:=bel_trans hb7 hbX
  clear q8 qX pX rX p2 q3 hb8 hbX
  by_cases he:er=0
  . subst he
    by_cases hm:mag=0
    . subst hm
      cases sd
      . go_wp2
        all_goals refine bodyPost_ret (v:=.tuple #[.int .i64 near,.int .i64 0]) (by simp [results,Tryz.results195,go_sem]) rfl ⟨by simp [opT],hb9⟩
      . have e0:((0:Nat):Int)=0:=rfl
        have HT:=HT.out
        simp only [e0] at HT hbY u1 u2 v0 v1 v2 v3 v4
        go_wp2_with fail
        refine (HT _ hbY).mono ?_
        rintro _ w10 ⟨rfl,hb10⟩
        go_wp2
        all_goals refine bodyPost_ret (v:=.tuple #[.int .i64 b,.int .i64 0]) (by simp [results,Tryz.results195,go_sem]) rfl ⟨by simp [opT],bel_trans hbY hb10⟩
    . have hm':¬ ((mag:Int)=0):=by omega
      go_wp2_with fail
      refine (HT.out _ hbY).mono ?_
      rintro _ w10 ⟨rfl,hb10⟩
      go_wp2
      all_goals refine bodyPost_ret (v:=.tuple #[.int .i64 b,.int .i64 0]) (by simp [results,Tryz.results195,go_sem]) rfl ⟨by simp [opT,hm],bel_trans hbY hb10⟩
  . go_wp2
    all_goals refine bodyPost_ret (v:=.tuple #[.int .i64 near,.int .i64 0]) (by simp [results,Tryz.results195,go_sem]) rfl ⟨by simp [opT,he],hb9⟩
set_option maxRecDepth 100000 in
set_option maxHeartbeats 1000000 in
theorem operate_not (way:Int) (hw:1<=way∧way<=3) (near:Int) (F G Rf:Nat) (rc:Array Value) (oo:Option Addr) (n cap:Nat) (w:World)
    (CV:∀ W,Below w.heap.size w W->Calls Tryz.prog 208 #[.agg #[.func (.func F) #[] #[],.func (.func G) #[] #[]],.slice oo n cap] W fun x w'=>x=.returned (.tuple #[.slice none 0 0,.bool false])∧Below W.heap.size W w') :
    Calls Tryz.prog 195 #[.agg #[.func (.func F) #[] #[],.func (.func G) #[] #[]],.int .i64 near,.int .i64 way,.func (.func Rf) #[] rc,.slice oo n cap] w fun e w'=>e=.returned (.tuple #[.int .i64 near,.int .i64 0])∧Below w.heap.size w w':=by
  have hst:∀ (p:Addr) (F:Nat) (m:Mode) (w:World),(store p (.func (.func F) #[] #[]) m).run Tryz.prog w=stored Tryz.prog w p (.func (.func F) #[] #[]) m:=fun p F m w=>run_store _ w p _ m rfl
  have hw0:0<=way∧way<=3:=by omega
  have hne:way≠0:=by omega
  have CW:=fun W=>wayOf_any way W
  rw [if_pos hw0,decide_eq_true hw0] at CW
  unfold wayV at CW
  generalize wayF way=K at *
  have HV:Hid _:=CV
  clear CV
  have hb1:=bel_alloc w (.cells #[.func (.func F) #[] #[],.func (.func G) #[] #[]] 197)
  have q1:=heap_alloc_new w (.cells #[.func (.func F) #[] #[],.func (.func G) #[] #[]] 197)
  go_enter Tryz.func195,Tryz.ntmps195
  go_wp2_with fail
  generalize w.alloc (.cells #[.func (.func F) #[] #[],.func (.func G) #[] #[]] 197)=x0 at hb1 q1 ⊢
  refine (CW _).mono ?_
  rintro _ w2 ⟨rfl,hb2⟩
  have q2:=heap_alloc_new w2 (.cells #[.nilFunc] 185)
  have y0:=blkC q2 0 rfl
  have y1:=blkF q2 0
  have p1:=(hb2.block _ (Array.getElem?_eq_some_iff.1 q1).1).trans q1
  have hb3:=bel_alloc w2 (.cells #[.func (.func K) #[] #[]] 185)
  have p2:=(hb3.block _ (Array.getElem?_eq_some_iff.1 p1).1).trans p1
  have c0:=blkC p2 0 rfl
  have c1:=blkC p2 1 rfl
  have hbx:=bel_trans (bel_trans hb1 hb2) hb3
  clear CW q1 p1
  go_wp2_with fail
  refine (HV.out _ hbx).mono ?_
  rintro _ w4 ⟨rfl,hb4⟩
  go_wp2
  all_goals refine bodyPost_ret (v:=.tuple #[.int .i64 near,.int .i64 0]) (by simp [results,Tryz.results195,go_sem]) rfl ⟨rfl,bel_trans hbx hb4⟩
theorem Nums.at {w:World} {g n:Nat} {q:Nat->NumR} (h:Nums w (some ⟨g,0,none⟩) n n q) (i:Nat) (hi:i<n):At3 w g (i*3) (q i):=by
  obtain ⟨b,off,he,hlt,hc⟩:=h.spot (by omega)
  cases he
  have:=hc i hi
  rwa [Nat.zero_add] at this
theorem nums_D {w:World} {g n:Nat} {q:Nat->NumR} {V:Nat->Int} (h:Nums w (some ⟨g,0,none⟩) n n q) (hf:∀ i,i<n->Nrm (q i).d (q i).n∧Dy (V i) (q i).ng (val (q i).d (q i).n) (q i).e) (i:Nat) (hi:i<n):DNum w (q i).v (V i) :=
  ⟨_,_,_,_,rfl,(hf i hi).2,_,_,_,_,rfl,(h.at i hi).row,(hf i hi).1,rfl⟩
theorem scale_injF {C D A B:Int} (h:C*2^4194304=A*B) (k:D*2^4194304=A*B):C=D:=Int.eq_of_mul_eq_mul_right (Int.ne_of_gt (two_pos 4194304)) (h.trans k.symm)
theorem keep6B {W w':World} {g:Nat} {a b c d e f:Value} (h:W.cell? ⟨g,0,none⟩=some a∧W.cell? ⟨g,1,none⟩=some b∧W.cell? ⟨g,2,none⟩=some c∧W.cell? ⟨g,3,none⟩=some d∧W.cell? ⟨g,4,none⟩=some e∧W.cell? ⟨g,5,none⟩=some f) (hb:Below W.heap.size W w') :
    w'.cell? ⟨g,0,none⟩=some a∧w'.cell? ⟨g,1,none⟩=some b∧w'.cell? ⟨g,2,none⟩=some c∧w'.cell? ⟨g,3,none⟩=some d∧w'.cell? ⟨g,4,none⟩=some e∧w'.cell? ⟨g,5,none⟩=some f :=
  ⟨cell_keeps h.1 hb,cell_keeps h.2.1 hb,cell_keeps h.2.2.1 hb,cell_keeps h.2.2.2.1 hb,cell_keeps h.2.2.2.2.1 hb,cell_keeps h.2.2.2.2.2 hb⟩
set_option maxRecDepth 100000 in
set_option maxHeartbeats 1000000 in
theorem product_D (g:Nat) (w:World) (q:Nat->NumR) (A B C:Int) (ng:Bool) (m e:Int) (hN:Nums w (some ⟨g,0,none⟩) 2 2 q) (h0:DNum w (q 0).v A) (h1:DNum w (q 1).v B) (oA:Dok A) (oB:Dok B) (hC:C*2^4194304=A*B) (oC:Dok C) (hy:Dy C ng m e) (hT:Tab w) :
    Calls Tryz.prog 196 #[.slice (some ⟨g,0,none⟩) 2 2] w fun r w'=>r=.returned (.tuple #[vlV ng m e false,.int .i64 0])∧Below w.heap.size w w':=by
  have CM:Hid (∀ W,Below w.heap.size w W->Calls Tryz.prog 54 #[(q 0).v,(q 1).v] W fun r w'=>∃ v,r=.returned (.tuple #[v,.int .i64 0])∧DAns W w' C v):=fun W hb=>by
    refine (mul_D (h0.keeps hb) (h1.keeps hb) oA oB (hT.keeps hb)).mono ?_
    rintro r w' ⟨v,er,C',rfl,hC',hF⟩
    obtain rfl:=scale_injF hC' hC
    obtain ⟨rfl,hA⟩:=hF.yes oC
    exact ⟨v,rfl,hA⟩
  have CV:Hid (∀ W v,Below w.heap.size w W->DNum W v C->Calls Tryz.prog 191 #[v] W fun r w'=>r=.returned (vlV ng m e false)∧Below W.heap.size W w'):=fun W v hb hv=>valueOf_D hv oC hy (hT.keeps hb)
  obtain ⟨c0,c1,c2,_⟩:=hN.at 0 (by decide)
  obtain ⟨c3,c4,c5,_⟩:=hN.at 1 (by decide)
  unfold vlV valV NumR.v at *
  generalize (m/2^vK m).toNat=Q at CV ⊢
  generalize e+vK m=E at CV ⊢
  generalize decide (m % 2^vK m≠0)=R at CV ⊢
  clear h0 h1 hN oA oB hC oC hy hT
  generalize q 0=x at *
  generalize q 1=y at *
  obtain ⟨x_g,x_o,x_n,x_c,x_d,x_e⟩:=x
  obtain ⟨y_g,y_o,y_n,y_c,y_d,y_e⟩:=y
  simp only [Nat.zero_mul,Nat.zero_add,Nat.one_mul] at c0 c1 c2 c3 c4 c5 CM
  have q0:=heap_alloc_new w (.cells #[.bool false,.int .u64 0,.int .i64 0,.bool false,.bool false] 172)
  have hb1:=bel_alloc w (.cells #[.bool false,.int .u64 0,.int .i64 0,.bool false,.bool false] 172)
  have d0:=cell_keeps c0 hb1
  have d1:=cell_keeps c1 hb1
  have d2:=cell_keeps c2 hb1
  have d3:=cell_keeps c3 hb1
  have d4:=cell_keeps c4 hb1
  have d5:=cell_keeps c5 hb1
  clear c0 c1 c2 c3 c4 c5
  go_enter Tryz.func196,Tryz.ntmps196
  go_wp2_with fail
  generalize w.alloc (.cells #[.bool false,.int .u64 0,.int .i64 0,.bool false,.bool false] 172)=x1 at q0 hb1 d0 d1 d2 d3 d4 d5 ⊢
  have KK:∀ W,Below x1.heap.size x1 W->W.cell? ⟨g,0,none⟩=some (.bool x_g)∧W.cell? ⟨g,1,none⟩=some (.slice x_o x_n x_c)∧W.cell? ⟨g,2,none⟩=some (.int .i64 x_e)∧W.cell? ⟨g,3,none⟩=some (.bool y_g)∧W.cell? ⟨g,4,none⟩=some (.slice y_o y_n y_c)∧W.cell? ⟨g,5,none⟩=some (.int .i64 y_e):=fun W hb=>keep6B (W:=x1) ⟨d0,d1,d2,d3,d4,d5⟩ hb
  clear d0 d1 d2 d3 d4 d5
  have i0:(0:Int)<2:=by decide
  have i1:(1:Int)<2:=by decide
  have hx0:=(bel_refl x1).drew
  have hx1:=(bel_alloc x1 (.cells #[.bool false,.slice none 0 0,.int .i64 0] 34)).drew
  go_region_held3 (fun W=>W.cell? ⟨g,0,none⟩=some (.bool x_g)∧W.cell? ⟨g,1,none⟩=some (.slice x_o x_n x_c)∧W.cell? ⟨g,2,none⟩=some (.int .i64 x_e)∧W.cell? ⟨g,3,none⟩=some (.bool y_g)∧W.cell? ⟨g,4,none⟩=some (.slice y_o y_n y_c)∧W.cell? ⟨g,5,none⟩=some (.int .i64 y_e))
    (first | assumption | exact KK _ hx0 | exact KK _ hx1 | exact KK _ hw3 | exact KK _ (bel_trans hw3 (bel_alloc _ _)) | exact KK _ (bel_set3' hw3 (Nat.le_refl _) _ _ _) | fail)
    ((go_at_call 54; refine (CM.out _ (by first | exact hb1.drew | exact bel_trans hb1 hx1)).mono ?_; rintro _ w3 ⟨v,rfl,hD⟩; obtain ⟨n_g,n_o,n_n,n_c,n_e,rfl⟩:=dans_shape hD; have hw3:Below x1.heap.size x1 w3:=(by first | exact bel_trans hx0 hD.below | exact bel_trans hx1 hD.below); first | (have qz:w3.heap[x1.heap.size]?=some (.cells #[.bool false,.slice none 0 0,.int .i64 0] 34 (0,0)):=(hD.below.block _ (by first | exact (Array.getElem?_eq_some_iff.1 (heap_a1 x1 (.cells #[.bool false,.slice none 0 0,.int .i64 0] 34))).1)).trans (heap_a1 x1 (.cells #[.bool false,.slice none 0 0,.int .i64 0] 34)); have cz0:=blkC qz 0 rfl; have cz1:=blkC qz 1 rfl; have cz2:=blkC qz 2 rfl; have zz0:=blkF qz 0; have zz1:=blkF qz 1; have zz2:=blkF qz 2) | skip))
  . have hb4:=bel_alloc w3 (.cells #[.bool n_g,.slice n_o n_n n_c,.int .i64 n_e] 34)
    have qn:=heap_a1 w3 (.cells #[.bool n_g,.slice n_o n_n n_c,.int .i64 n_e] 34)
    have hw4:=bel_trans hw3 hb4
    have q4:=(hw4.block _ (Array.getElem?_eq_some_iff.1 q0).1).trans q0
    have hD4:=hD.num.keeps hb4
    have hb5:=bel_trans hb1 hw4
    have c0:=blkC qn 0 rfl
    have c1:=blkC qn 1 rfl
    have c2:=blkC qn 2 rfl
    go_wp2_with fail
    refine (CV.out _ _ hb5 hD4).mono ?_
    rintro _ w6 ⟨rfl,hb6⟩
    have p1:=(hb6.block _ (Array.getElem?_eq_some_iff.1 q4).1).trans q4
    have hbw:=bel_trans hb5 hb6
    have x0:=blkC p1 0 rfl
    have x1':=blkC p1 1 rfl
    have x2:=blkC p1 2 rfl
    have x3:=blkC p1 3 rfl
    have x4:=blkC p1 4 rfl
    have z0:=blkF p1 0
    have z1:=blkF p1 1
    have z2:=blkF p1 2
    have z3:=blkF p1 3
    have z4:=blkF p1 4
    go_wp2
    all_goals refine bodyPost_ret (v:=.tuple #[.agg #[.bool ng,.int .u64 Q,.int .i64 E,.bool R,.bool false],.int .i64 0]) (by simp [results,Tryz.results196,go_sem,x0,x1',x2,x3,x4]) rfl ⟨rfl,?_⟩
    all_goals exact (wr5 w6 w.heap.size _ _ _ _ _).below hbw hbw.size (Nat.le_refl _)
  . have hw4:=bel_set3' (o0:=0) (o1:=1) (o2:=2) hw3 (Nat.le_refl _) (.bool n_g) (.slice n_o n_n n_c) (.int .i64 n_e)
    have qn:=heap_set (heap_set (heap_set qz 0 (.bool n_g)) 1 (.slice n_o n_n n_c)) 2 (.int .i64 n_e)
    have q4:=(hw4.block _ (Array.getElem?_eq_some_iff.1 q0).1).trans q0
    have hD4:=(dans_res3 hD hx1 (Nat.le_refl _) (Array.getElem?_eq_some_iff.1 (heap_a1 x1 (.cells #[.bool false,.slice none 0 0,.int .i64 0] 34))).1 (.bool n_g) (.slice n_o n_n n_c) (.int .i64 n_e)).num
    have hb5:=bel_trans hb1 hw4
    clear cz0 cz1 cz2 zz0 zz1 zz2 qz
    have c0:=blkC qn 0 rfl
    have c1:=blkC qn 1 rfl
    have c2:=blkC qn 2 rfl
    go_wp2_with fail
    refine (CV.out _ _ hb5 hD4).mono ?_
    rintro _ w6 ⟨rfl,hb6⟩
    have p1:=(hb6.block _ (Array.getElem?_eq_some_iff.1 q4).1).trans q4
    have hbw:=bel_trans hb5 hb6
    have x0:=blkC p1 0 rfl
    have x1':=blkC p1 1 rfl
    have x2:=blkC p1 2 rfl
    have x3:=blkC p1 3 rfl
    have x4:=blkC p1 4 rfl
    have z0:=blkF p1 0
    have z1:=blkF p1 1
    have z2:=blkF p1 2
    have z3:=blkF p1 3
    have z4:=blkF p1 4
    go_wp2
    all_goals refine bodyPost_ret (v:=.tuple #[.agg #[.bool ng,.int .u64 Q,.int .i64 E,.bool R,.bool false],.int .i64 0]) (by simp [results,Tryz.results196,go_sem,x0,x1',x2,x3,x4]) rfl ⟨rfl,?_⟩
    all_goals exact (wr5 w6 w.heap.size _ _ _ _ _).below hbw hbw.size (Nat.le_refl _)
theorem operate_fin (way:Int) (hw:1<=way∧way<=3) (near:Int) (Rf:Nat) (rc:Array Value) (g n:Nat) (hn:n<=100) (d:Nat->Int) (w:World) (hR:Row w (some ⟨g,0,none⟩) n n d) (hp:∀ i,i<n->pok (d i)=true) (H:Hold4 w) (ng:Bool) (mag:Nat) (exp:Int) (cut sd:Bool) (hm:mag<18446744073709551616) (he:-4500000<=exp∧exp<=4500000)
    (hER:∀ (cap:Array Value) (w:World),(callFunc Rf cap).run Tryz.prog w=.ok (.enter Rf cap) w)
    (CR:∀ W g q,Below w.heap.size w W->Nums W (some ⟨g,0,none⟩) n n q->(∀ i,i<n->Nrm (q i).d (q i).n∧Dy (patV (d i)) (q i).ng (val (q i).d (q i).n) (q i).e)->Calls Tryz.prog Rf (#[.slice (some ⟨g,0,none⟩) n n] ++ rc) W fun e w'=>e=.returned (.tuple #[valV ng mag exp cut sd,.int .i64 0])∧Below W.heap.size W w') :
    Calls Tryz.prog 195 #[.agg #[.func (.func 79) #[] #[],.func (.func 164) #[] #[]],.int .i64 near,.int .i64 way,.func (.func Rf) #[] rc,.slice (some ⟨g,0,none⟩) n n] w fun e w'=>e=.returned (.tuple #[.int .i64 (opT 0 mag sd (r64 way ng true mag exp cut).1 near),.int .i64 0])∧Below w.heap.size w w':=by
  have hEF:∀ (cap:Array Value) (w:World),(callFunc 79 cap).run Tryz.prog w=.ok (.enter 79 cap) w:=by
    intro cap w
    simp [go_sem]
  have hEG:∀ (cap:Array Value) (w:World),(callFunc 164 cap).run Tryz.prog w=.ok (.enter 164 cap) w:=by
    intro cap w
    simp [go_sem]
  exact operate_go way hw near _ _ Rf rc _ n n w (fun i=>patV (d i)) ng mag exp cut sd 0 _ _ hEG hER
    (fun W hb=>(values_ok _ _ _ n n d _ W (hR.keeps hb) (by omega) hEF (fun i hi W' hb'=>of_ok (hp i hi) ((H.keeps hb).keeps hb'))).mono fun r w' h=>by
      obtain ⟨g,q,e1,e2,e3,e4,e5⟩:=h
      exact ⟨g,q,e1,e2,e3,e4,e5⟩)
    CR (fun W hb=>binary64_any way (by omega) ng true mag exp cut W (H.keeps hb).env hm he)
theorem operate_inf (way:Int) (hw:1<=way∧way<=3) (near:Int) (Rf:Nat) (rc:Array Value) (g n:Nat) (hn:n<=100) (d:Nat->Int) (w:World) (hR:Row w (some ⟨g,0,none⟩) n n d) (K:Nat) (hK:K<n) (hp:∀ i,i<K->pok (d i)=true) (hq:pok (d K)=false) (H:Hold4 w) :
    Calls Tryz.prog 195 #[.agg #[.func (.func 79) #[] #[],.func (.func 164) #[] #[]],.int .i64 near,.int .i64 way,.func (.func Rf) #[] rc,.slice (some ⟨g,0,none⟩) n n] w fun e w'=>e=.returned (.tuple #[.int .i64 near,.int .i64 0])∧Below w.heap.size w w':=by
  have hEF:∀ (cap:Array Value) (w:World),(callFunc 79 cap).run Tryz.prog w=.ok (.enter 79 cap) w:=by
    intro cap w
    simp [go_sem]
  exact operate_not way hw near _ _ Rf rc _ n n w (fun W hb=>values_no _ _ _ n n d (fun i=>patV (d i)) W (hR.keeps hb) (by omega) K hK hEF (fun i hi W' hb'=>of_ok (hp i hi) ((H.keeps hb).keeps hb')) (fun W' hb'=>of_no hq ((H.keeps hb).keeps hb')))
theorem rowT {w:World} {g:Nat} {a b:Int} (h:w.heap[g]?=some (.cells #[.int .i64 a,.int .i64 b] 3 (0,0))):Row w (some ⟨g,0,none⟩) 2 2 (fun i=>if i=0 then a else b) :=
  ⟨Nat.le_refl _,by decide,(fun h=>nomatch h),fun _=>⟨g,0,rfl,(Array.getElem?_eq_some_iff.1 h).1,fun i hi=>by
    match i,hi with
    | 0,_=>exact blkC h 0 rfl
    | 1,_=>exact blkC h 1 rfl⟩⟩
theorem mag_pos {m:Int} (h:0<m):(m/2^vK m).toNat≠0:=by
  have hb:=blen_pos h
  have hp:=two_pos (vK m)
  have h1:2^vK m<=m:=Int.le_trans (two_le (by unfold vK; omega)) hb.2
  have h2:1<=m/2^vK m:=by rw [Int.le_ediv_iff_mul_le hp,Int.one_mul]; exact h1
  omega
theorem mag_lt {m:Int} (h:0<=m):(m/2^vK m).toNat<18446744073709551616:=by
  have:=vK_small h
  omega
theorem exp_in {V:Int} {ng:Bool} {m e:Int} (hy:Dy V ng m e) (ok:Dok V):-4500000<=e+vK m∧e+vK m<=4500000:=by
  obtain ⟨h1,h2,h3⟩:=hy.ok.1 ok
  have h4:blen m<=30*2000:=blen_le (by rw [<- P_two]; exact h1)
  unfold vK
  omega
theorem opAdd_inf (way:Int) (hw:1<=way∧way<=3) (near a b:Int) (Rf:Nat) (rc:Array Value) (hp:(pok a && pok b)=false) (w:World) (go:Nat) (ko:w.heap[go]?=some (.cells #[.int .i64 a,.int .i64 b] 3 (0,0))) (H:Hold4 w) :
    Calls Tryz.prog 195 #[.agg #[.func (.func 79) #[] #[],.func (.func 164) #[] #[]],.int .i64 near,.int .i64 way,.func (.func Rf) #[] rc,.slice (some ⟨go,0,none⟩) 2 2] w fun e w'=>e=.returned (.tuple #[.int .i64 near,.int .i64 0])∧Below w.heap.size w w':=by
  cases h1:pok a
  . exact operate_inf way hw near Rf rc go 2 (by decide) (fun i=>if i=0 then a else b) w (rowT ko) 0 (by decide) (fun i hi=>by omega) h1 H
  . rw [h1] at hp
    exact operate_inf way hw near Rf rc go 2 (by decide) (fun i=>if i=0 then a else b) w (rowT ko) 1 (by decide) (fun i hi=>by
      obtain rfl:i=0:=by omega
      exact h1) hp H
set_option maxRecDepth 100000 in
set_option maxHeartbeats 1000000 in
theorem opMul (way:Int) (hw:1<=way∧way<=3) (near a b:Int) (ra:rng a) (rb:rng b) (w:World) (go:Nat) (ko:w.heap[go]?=some (.cells #[.int .i64 a,.int .i64 b] 3 (0,0))) (H:Hold4 w) :
    Calls Tryz.prog 195 #[.agg #[.func (.func 79) #[] #[],.func (.func 164) #[] #[]],.int .i64 near,.int .i64 way,.func (.func 196) #[] #[],.slice (some ⟨go,0,none⟩) 2 2] w fun e w'=>e=.returned (.tuple #[.int .i64 (if (pok a && pok b)=true∧prV a b≠0 then rdP way (prV a b) else near),.int .i64 0])∧Below w.heap.size w w':=by
  have hER:∀ (cap:Array Value) (w:World),(callFunc 196 cap).run Tryz.prog w=.ok (.enter 196 cap) w:=by
    intro cap w
    simp [go_sem]
  cases hpp:(pok a && pok b)
  . have n1:¬ (false=true∧prV a b≠0):=fun q=>by cases q.1
    rw [if_neg n1]
    exact opAdd_inf way hw near a b _ _ hpp w go ko H
  . simp only [Bool.and_eq_true] at hpp
    obtain ⟨pa,pb⟩:=hpp
    obtain ⟨_,_,_,_,hC⟩:=prV_parts ra rb pa pb
    have ok:Dok (prV a b):=((patV_bd pa).mul (patV_bd pb) hC (by omega)).ok (by omega)
    obtain ⟨ng,m,e,hy,hm⟩:=id ok
    clear hm
    have hp:∀ i,i<2->pok (if i=0 then a else b)=true:=fun i hi=>by split <;> assumption
    have:=operate_fin way hw near _ #[] go 2 (by decide) (fun i=>if i=0 then a else b) w (rowT ko) hp H ng _ _ _ false (mag_lt hy.nonneg) (exp_in hy ok) hER (fun W g q hb hN hf=>product_D g W q (patV a) (patV b) (prV a b) ng m e hN (nums_D hN hf 0 (by decide)) (nums_D hN hf 1 (by decide)) (patV_dok pa) (patV_dok pb) hC ok hy (H.keeps hb).tab)
    have hA:(if true=true∧prV a b≠0 then rdP way (prV a b) else near)=opT 0 (m/2^vK m).toNat false (r64 way ng true (m/2^vK m).toNat (e+vK m) (decide (m % 2^vK m≠0))).1 near:=by
      unfold opT
      by_cases h0:prV a b=0
      . have hm0:=hy.eq_zero.1 h0
        have n1:¬ (true=true∧prV a b≠0):=fun q=>q.2 h0
        have n3:(0:Int)≠0∨((m/2^vK m).toNat=0∧false=false):=.inr ⟨by rw [hm0,Int.zero_ediv]; rfl,rfl⟩
        rw [if_neg n1,if_pos n3]
      . have hm0:0<m:=by
          have:=hy.nonneg
          have:m≠0:=fun q=>h0 (hy.eq_zero.2 q)
          omega
        have n1:true=true∧prV a b≠0:=⟨rfl,h0⟩
        have n3:¬ ((0:Int)≠0∨((m/2^vK m).toNat=0∧false=false)):=fun q=>by
          rcases q with q | q
          . exact q rfl
          . exact mag_pos hm0 q.1
        rw [if_pos n1,if_neg n3,r64_dy hy h0 (by have:=(hy.ok.1 ok).2.1; omega)]
    rw [hA]
    exact this
set_option maxRecDepth 100000 in
set_option maxHeartbeats 1000000 in
theorem mul_A {a b way:Int} {w:World} (ra:rng a) (rb:rng b) (hw:0<=way∧way<=3) (H:Hold4 w) :
    Calls Tryz.prog 177 #[.int .i64 a,.int .i64 b,.int .i64 way] w fun e w'=>e=.returned (.tuple #[.int .i64 (mulP way a b),.int .i64 0])∧Below w.heap.size w w':=by
  have CK:Hid (∀ W go,W.heap[go]?=some (.cells #[.int .i64 a,.int .i64 b] 3 (0,0))->Hold4 W->Calls Tryz.prog 195 #[.agg #[.func (.func 79) #[] #[],.func (.func 164) #[] #[]],.int .i64 (fprod (told a) (told b)),.int .i64 way,.func (.func 196) #[] #[],.slice (some ⟨go,0,none⟩) 2 2] W fun e w'=>e=.returned (.tuple #[.int .i64 (mulP way a b),.int .i64 0])∧Below W.heap.size W w'):=fun W go ko H=>by
    by_cases h0:way=0
    . have e:mulP way a b=fprod (told a) (told b):=by unfold mulP; rw [if_pos (.inl h0)]
      rw [e,h0]
      exact operate_near _ _ ⟨_,rfl⟩ ⟨_,rfl⟩ _ _ _ _ _ W
    . have e:mulP way a b=if (pok a && pok b)=true∧prV a b≠0 then rdP way (prV a b) else fprod (told a) (told b):=by
        unfold mulP
        cases hp:(pok a && pok b)
        . have n1:way=0∨false=false:=.inr rfl
          have n2:¬ (false=true∧prV a b≠0):=fun q=>by cases q.1
          rw [if_pos n1,if_neg n2]
        . have n1:¬ (way=0∨true=false):=fun q=>by rcases q with q | q; exact h0 q; cases q
          rw [if_neg n1]
          by_cases h:prV a b≠0
          . have n2:true=true∧prV a b≠0:=⟨rfl,h⟩
            rw [if_pos h,if_pos n2]
          . have n2:¬ (true=true∧prV a b≠0):=fun q=>h q.2
            rw [if_neg h,if_neg n2]
      rw [e]
      exact opMul way (by omega) _ a b ra rb W go ko H
  generalize mulP way a b=R at CK ⊢
  have hcv:=cv64
  have hmf:∀ (fn:Fn) (first cap:Array Value) (w:World),(Instr.makeFunc fn first cap).run Tryz.prog w=.ok (.func fn first cap) w:=fun _ _ _ _=>rfl
  have CF:Hid (∀ W,Calls Tryz.prog 32 #[.int .i64 a] W fun e w'=>e=.returned (.float .f64 (wd a))∧w'=W):=fun W=>bitsFloat a W
  have CG:Hid (∀ W,Calls Tryz.prog 32 #[.int .i64 b] W fun e w'=>e=.returned (.float .f64 (wd b))∧w'=W):=fun W=>bitsFloat b W
  have RS:Hid (∀ W,_):=fun W=>run_fprod (P:=Tryz.prog) 50 (wd_told ra) (wd_told rb) W
  go_enter Tryz.func177,Tryz.ntmps177
  go_wp2_with fail
  refine (double_any _).mono ?_
  rintro _ w1 ⟨rfl,hb1⟩
  obtain ⟨z,w2,hrun,hz,hw2⟩:=RS.out w1
  clear RS
  generalize wd a=x at *
  generalize wd b=y at *
  generalize fprod (told a) (told b)=near at *
  go_wp2_with fail
  refine (CF.out _).mono ?_
  rintro _ _ ⟨rfl,rfl⟩
  go_wp2_with fail
  refine (CG.out _).mono ?_
  rintro _ _ ⟨rfl,rfl⟩
  go_wp2_with fail
  have hb2:Below w.heap.size w w2:=by rcases hw2 with rfl | rfl; exact hb1; exact hb1.drew
  refine (of_FW hz _).mono ?_
  rintro _ _ ⟨rfl,rfl⟩
  have hb3:=bel_trans hb2 (bel_alloc _ (.cells #[.int .i64 a,.int .i64 b] 3))
  go_wp2_with fail
  refine (CK.out _ _ (heap_a1 _ (.cells #[.int .i64 a,.int .i64 b] 3)) (H.keeps hb3)).mono ?_
  rintro _ w5 ⟨rfl,hb5⟩
  go_wp2
  all_goals refine bodyPost_ret (v:=.tuple #[.int .i64 R,.int .i64 0]) (by simp [results,Tryz.results177,go_sem]) rfl ⟨rfl,bel_trans hb3 hb5⟩
theorem fin2 {w w3:World} (h3:Below (w.alloc (.cells #[.float .f64 0,.float .f64 0] 103)).heap.size (w.alloc (.cells #[.float .f64 0,.float .f64 0] 103)) w3) (U V:Nat) :
    (store ⟨w.heap.size,0,none⟩ (.float .f64 U)).run Tryz.prog w3=.ok () (w3.setCell ⟨w.heap.size,0,none⟩ (.float .f64 U))∧(store ⟨w.heap.size,1,none⟩ (.float .f64 V)).run Tryz.prog (w3.setCell ⟨w.heap.size,0,none⟩ (.float .f64 U))=.ok () ((w3.setCell ⟨w.heap.size,0,none⟩ (.float .f64 U)).setCell ⟨w.heap.size,1,none⟩ (.float .f64 V))∧((w3.setCell ⟨w.heap.size,0,none⟩ (.float .f64 U)).setCell ⟨w.heap.size,1,none⟩ (.float .f64 V)).cell? ⟨w.heap.size,0,none⟩=some (.float .f64 U)∧((w3.setCell ⟨w.heap.size,0,none⟩ (.float .f64 U)).setCell ⟨w.heap.size,1,none⟩ (.float .f64 V)).cell? ⟨w.heap.size,1,none⟩=some (.float .f64 V)∧Below w.heap.size w ((w3.setCell ⟨w.heap.size,0,none⟩ (.float .f64 U)).setCell ⟨w.heap.size,1,none⟩ (.float .f64 V)):=by
  have hg:=q_heap_last w (.cells #[.float .f64 0,.float .f64 0] 103)
  have hba:=bel_alloc w (.cells #[.float .f64 0,.float .f64 0] 103)
  have d2:=(h3.block _ (Array.getElem?_eq_some_iff.1 hg).1).trans hg
  have d3:=q_heap_set d2 0 (.float .f64 U)
  have d4:=q_heap_set d3 1 (.float .f64 V)
  have f0:=blkC d2 0 rfl
  have z0:=blkF d2 0
  have f1:=blkC d3 1 rfl
  have z1:=blkF d3 1
  refine ⟨?_,?_,blkC d4 0 rfl,blkC d4 1 rfl,?_⟩
  . rw [run_store _ _ _ _ _ rfl,f0]; simp only [z0]; rfl
  . rw [run_store _ _ _ _ _ rfl,f1]; simp only [z1]; rfl
  . exact ((bel_trans hba h3).setCell (p:=⟨w.heap.size,0,none⟩) (Nat.le_refl _) _).setCell (p:=⟨w.heap.size,1,none⟩) (Nat.le_refl _) _
set_option maxRecDepth 100000 in
set_option maxHeartbeats 1000000 in
theorem deepProd_any {a b:Int} (ra:rng a) (rb:rng b) (w:World) (H:Hold4 w) :
    Calls Tryz.prog 139 #[.int .i64 a,.int .i64 b] w fun e w'=>e=.returned (ivl (mulP 1 a b) (mulP 2 a b))∧Below w.heap.size w w':=by
  have C1:Hid (∀ W,Hold4 W->Calls Tryz.prog 177 #[.int .i64 a,.int .i64 b,.int .i64 1] W fun e w'=>e=.returned (.tuple #[.int .i64 (mulP 1 a b),.int .i64 0])∧Below W.heap.size W w'):=fun W h=>mul_A ra rb (by omega) h
  have C2:Hid (∀ W,Hold4 W->Calls Tryz.prog 177 #[.int .i64 a,.int .i64 b,.int .i64 2] W fun e w'=>e=.returned (.tuple #[.int .i64 (mulP 2 a b),.int .i64 0])∧Below W.heap.size W w'):=fun W h=>mul_A ra rb (by omega) h
  unfold ivl
  generalize mulP 1 a b=l at *
  generalize mulP 2 a b=h at *
  have hba:=bel_alloc w (.cells #[.float .f64 0,.float .f64 0] 103)
  go_enter Tryz.func139,Tryz.ntmps139
  go_wp2_with fail
  refine (C1.out _ (H.keeps hba)).mono ?_
  rintro _ w1 ⟨rfl,hb1⟩
  have hw1:=bel_trans hba hb1
  go_wp2_with fail
  refine (C2.out _ (H.keeps hw1)).mono ?_
  rintro _ w2 ⟨rfl,hb2⟩
  have hb3:=bel_trans hb1 hb2
  obtain ⟨s0,s1,e0,e1,hbe⟩:=fin2 hb3 (wd l) (wd h)
  have CF:Hid (∀ W,Calls Tryz.prog 32 #[.int .i64 l] W fun e w'=>e=.returned (.float .f64 (wd l))∧w'=W):=fun W=>bitsFloat l W
  have CG:Hid (∀ W,Calls Tryz.prog 32 #[.int .i64 h] W fun e w'=>e=.returned (.float .f64 (wd h))∧w'=W):=fun W=>bitsFloat h W
  go_wp2_with fail
  refine (CF.out _).mono ?_
  rintro _ wz ⟨rfl,hwz⟩
  replace hwz:=hwz.symm
  subst hwz
  go_wp2_with fail
  refine (CG.out _).mono ?_
  rintro _ wz ⟨rfl,hwz⟩
  replace hwz:=hwz.symm
  subst hwz
  go_wp2
  refine bodyPost_ret (v:=.agg #[.float .f64 (wd l),.float .f64 (wd h)]) (by simp [results,Tryz.results139,go_sem,e0,e1]) rfl ⟨rfl,hbe⟩
theorem run_prodN {P:Program} (t:TypeId) {p q:Int} {x y:Nat} (hx:FW p x) (hy:FW q y) (h:cls (fprod p q)≠4) (w:World):(binOp .mul t (.float .f64 x) (.float .f64 y)).run P w=.ok (.float .f64 (wd (fprod p q))) w:=by
  obtain ⟨z,w',hrun,hz⟩:=run_farith (P:=P) .mul (.inr (.inr (.inl rfl))) t x y w
  have hf:floatBits .mul .f64 x y=Ieee.double.mul x y:=rfl
  rw [hf] at hz
  rcases mul_FW hx hy with ⟨z',e1,e2⟩ | ⟨_,e2⟩
  . rcases hz with ⟨h1,h2⟩ | ⟨h1,_⟩
    . rw [e1] at h1
      cases h1
      rw [hrun,h2,(e2.of h).2.1]
    . rw [e1] at h1; cases h1
  . exact absurd (by rw [e2]; decide) h
theorem key_pos0 {p:Int} (h:nn p) (h0:rg p≠0):FloatKind.f64.format.order (wd p) 0=some .lt∨FloatKind.f64.format.order (wd p) 0=some .gt:=by
  have n0:=nn0.1
  have w0:wd 0=0:=by decide
  have k0:key 0=0:=by decide
  have hk:key p≠0:=by
    have:=nn_rg h
    unfold key
    unfold rg at h0 this
    split at h0 <;> simp_all <;> omega
  rcases Int.lt_or_gt_of_ne hk with q | q
  . left
    have:=q_lt h.1 n0.1 h.2 n0.2 (by rw [k0]; exact q)
    rwa [w0] at this
  . right
    have:=q_gt h.1 n0.1 h.2 n0.2 (by rw [k0]; exact q)
    rwa [w0] at this
theorem key_zero0 {p:Int} (h:nn p) (h0:rg p=0):FloatKind.f64.format.order (wd p) 0=some .eq:=by
  have n0:=nn0.1
  have w0:wd 0=0:=by decide
  have k0:key 0=0:=by decide
  have hk:key p=0:=by
    unfold key
    unfold rg at h0
    split at h0 <;> simp_all
  have:=q_eq h.1 n0.1 h.2 n0.2 (by rw [k0]; exact hk)
  rwa [w0] at this
set_option maxRecDepth 100000 in
set_option maxHeartbeats 1000000 in
theorem product_zero {p q:Int} (hp:nn p) (hq:nn q) (h0:rg p=0∨rg q=0) (w:World) :
    Calls Tryz.prog 98 #[.float .f64 (wd p),.float .f64 (wd q)] w fun e w'=>e=.returned (ivl 0 0)∧Below w.heap.size w w':=by
  have hcv:=cv64
  have w0:wd 0=0:=by decide
  unfold ivl
  rw [w0]
  have hba:=bel_alloc w (.cells #[.float .f64 0,.float .f64 0] 103)
  obtain ⟨z,w1,hrun,hz,hw1⟩:=run_fprod (P:=Tryz.prog) 50 (FW.pat hp.2 hp.1) (FW.pat hq.2 hq.1) (w.alloc (.cells #[.float .f64 0,.float .f64 0] 103))
  have hb1:Below (w.alloc (.cells #[.float .f64 0,.float .f64 0] 103)).heap.size (w.alloc (.cells #[.float .f64 0,.float .f64 0] 103)) w1:=by
    rcases hw1 with rfl | rfl
    . exact bel_refl _
    . exact (bel_refl _).drew
  obtain ⟨s0,s1,e0,e1,hbe⟩:=fin2 hb1 0 0
  by_cases hp0:rg p=0
  . have o:=key_zero0 hp hp0
    generalize wd p=x at *
    generalize wd q=y at *
    clear hw1
    go_enter Tryz.func98,Tryz.ntmps98
    go_wp2
    refine bodyPost_ret (v:=.agg #[.float .f64 0,.float .f64 0]) (by simp [results,Tryz.results98,go_sem,e0,e1]) rfl ⟨rfl,hbe⟩
  . have hq0:rg q=0:=by omega
    have o2:=key_zero0 hq hq0
    rcases key_pos0 hp hp0 with o | o
    all_goals
      generalize wd p=x at *
      generalize wd q=y at *
      clear hw1
      go_enter Tryz.func98,Tryz.ntmps98
      go_wp2
      refine bodyPost_ret (v:=.agg #[.float .f64 0,.float .f64 0]) (by simp [results,Tryz.results98,go_sem,e0,e1]) rfl ⟨rfl,hbe⟩
set_option maxRecDepth 100000 in
set_option maxHeartbeats 1000000 in
theorem product_deep {p q:Int} (hp:nn p) (hq:nn q) (p0:rg p≠0) (q0:rg q≠0) (hn:nn (fprod p q)) (hd:rg (fprod p q)<283726776524341248) (w:World) (H:Hold4 w) :
    Calls Tryz.prog 98 #[.float .f64 (wd p),.float .f64 (wd q)] w fun e w'=>e=.returned (ivl (mulP 1 p q) (mulP 2 p q))∧Below w.heap.size w w':=by
  have hcv:=cv64
  have hba:=bel_alloc w (.cells #[.float .f64 0,.float .f64 0] 103)
  have CD:Hid (∀ W,Hold4 W->Calls Tryz.prog 139 #[.int .i64 p,.int .i64 q] W fun e w'=>e=.returned (.agg #[.float .f64 (wd (mulP 1 p q)),.float .f64 (wd (mulP 2 p q))])∧Below W.heap.size W w'):=fun W h=>deepProd_any hp.1 hq.1 W h
  have CP:Hid (∀ W,Calls Tryz.prog 62 #[.float .f64 (wd p)] W fun e w'=>e=.returned (.int .i64 p)∧w'=W):=fun W=>of_FW (FW.pat hp.2 hp.1) W
  have CQ:Hid (∀ W,Calls Tryz.prog 62 #[.float .f64 (wd q)] W fun e w'=>e=.returned (.int .i64 q)∧w'=W):=fun W=>of_FW (FW.pat hq.2 hq.1) W
  have CA:Hid (∀ W,Calls Tryz.prog 34 #[.float .f64 (wd (fprod p q))] W fun e w'=>e=.returned (.float .f64 (wd (rg (fprod p q))))∧w'=W):=fun W=>mathAbs hn.1 W
  have hrun:∀ W,(binOp .mul 50 (.float .f64 (wd p)) (.float .f64 (wd q))).run Tryz.prog W=.ok (.float .f64 (wd (fprod p q))) W:=fun W=>run_prodN _ (FW.pat hp.2 hp.1) (FW.pat hq.2 hq.1) hn.2 W
  have od:FloatKind.f64.format.order (wd (rg (fprod p q))) 283726776524341248=some .lt:=by
    obtain ⟨a1,a2⟩:=q_rg hn.1
    have ca:¬ cls (rg (fprod p q))=4:=by rw [q_cls hn.1]; exact hn.2
    have:=q_lt a1 (show rng 283726776524341248 by unfold rng; omega) ca (by decide) (by rw [q_key a2,show key 283726776524341248=283726776524341248 by decide]; exact hd)
    rwa [show wd 283726776524341248=283726776524341248 by decide] at this
  have o1:=key_pos0 hp p0
  have o2:=key_pos0 hq q0
  unfold ivl
  generalize wd (mulP 1 p q)=U at *
  generalize wd (mulP 2 p q)=V at *
  generalize wd (rg (fprod p q))=A at *
  generalize wd (fprod p q)=N at *
  generalize wd p=x at *
  generalize wd q=y at *
  rcases o1 with o1 | o1 <;> rcases o2 with o2 | o2
  all_goals
    go_enter Tryz.func98,Tryz.ntmps98
    go_wp2_with fail
    refine (CA.out _).mono ?_
    rintro _ wz ⟨rfl,hwz⟩
    replace hwz:=hwz.symm
    subst hwz
    go_wp2_with fail
    refine (CP.out _).mono ?_
    rintro _ wz ⟨rfl,hwz⟩
    replace hwz:=hwz.symm
    subst hwz
    go_wp2_with fail
    refine (CQ.out _).mono ?_
    rintro _ wz ⟨rfl,hwz⟩
    replace hwz:=hwz.symm
    subst hwz
    go_wp2_with fail
    refine (CD.out _ (H.keeps hba)).mono ?_
    rintro _ w3 ⟨rfl,hb3⟩
    obtain ⟨s0,s1,e0,e1,hbe⟩:=fin2 hb3 U V
    go_wp2
    refine bodyPost_ret (v:=.agg #[.float .f64 U,.float .f64 V]) (by simp [results,Tryz.results98,go_sem,e0,e1]) rfl ⟨rfl,hbe⟩
set_option maxRecDepth 100000 in
set_option maxHeartbeats 1000000 in
theorem product_be {p q:Int} (hp:nn p) (hq:nn q) (p0:rg p≠0) (q0:rg q≠0) (hn:nn (fprod p q)) (hd:283726776524341248<=rg (fprod p q)) (w:World) :
    Calls Tryz.prog 98 #[.float .f64 (wd p),.float .f64 (wd q)] w fun e w'=>e=.returned (ivl (beLo (fprod p q) (ffma p q (neg (fprod p q)))) (beHi (fprod p q) (ffma p q (neg (fprod p q)))))∧Below w.heap.size w w':=by
  have hcv:=cv64
  have hba:=bel_alloc w (.cells #[.float .f64 0,.float .f64 0] 103)
  have CA:Hid (∀ W,Calls Tryz.prog 34 #[.float .f64 (wd (fprod p q))] W fun e w'=>e=.returned (.float .f64 (wd (rg (fprod p q))))∧w'=W):=fun W=>mathAbs hn.1 W
  have hrun:∀ W,(binOp .mul 50 (.float .f64 (wd p)) (.float .f64 (wd q))).run Tryz.prog W=.ok (.float .f64 (wd (fprod p q))) W:=fun W=>run_prodN _ (FW.pat hp.2 hp.1) (FW.pat hq.2 hq.1) hn.2 W
  have hneg:∀ W,(Op.unary UnOp.neg (.float .f64 (wd (fprod p q)))).run Tryz.prog W=.ok (.float .f64 (wd (neg (fprod p q)))) W:=fun W=>run_negF hn W
  have nm:=(nn_neg hn).1
  obtain ⟨L,w1,rF,hL,hw1⟩:=run_ffma (FW.pat hp.2 hp.1) (FW.pat hq.2 hq.1) (FW.pat nm.2 nm.1) (w.alloc (.cells #[.float .f64 0,.float .f64 0] 103))
  have hb1:Below (w.alloc (.cells #[.float .f64 0,.float .f64 0] 103)).heap.size (w.alloc (.cells #[.float .f64 0,.float .f64 0] 103)) w1:=by
    rcases hw1 with rfl | rfl
    . exact bel_refl _
    . exact (bel_refl _).drew
  have CB:Hid (∀ W,Calls Tryz.prog 140 #[.float .f64 (wd (fprod p q)),.float .f64 L] W fun e w'=>e=.returned (.agg #[.float .f64 (wd (beLo (fprod p q) (ffma p q (neg (fprod p q))))),.float .f64 (wd (beHi (fprod p q) (ffma p q (neg (fprod p q)))))])∧Below W.heap.size W w'):=fun W=>beside_any hn hL W
  have od:FloatKind.f64.format.order (wd (rg (fprod p q))) 283726776524341248=some .gt∨FloatKind.f64.format.order (wd (rg (fprod p q))) 283726776524341248=some .eq:=by
    obtain ⟨a1,a2⟩:=q_rg hn.1
    have ca:¬ cls (rg (fprod p q))=4:=by rw [q_cls hn.1]; exact hn.2
    have w9:wd 283726776524341248=283726776524341248:=by decide
    have k9:key 283726776524341248=283726776524341248:=by decide
    by_cases e:rg (fprod p q)=283726776524341248
    . right
      have:=q_eq a1 (show rng 283726776524341248 by unfold rng; omega) ca (by decide) (by rw [q_key a2,k9]; exact e)
      rwa [w9] at this
    . left
      have:=q_gt a1 (show rng 283726776524341248 by unfold rng; omega) ca (by decide) (by rw [q_key a2,k9]; omega)
      rwa [w9] at this
  have o1:=key_pos0 hp p0
  have o2:=key_pos0 hq q0
  unfold ivl
  generalize wd (beLo (fprod p q) (ffma p q (neg (fprod p q))))=U at *
  generalize wd (beHi (fprod p q) (ffma p q (neg (fprod p q))))=V at *
  generalize wd (rg (fprod p q))=A at *
  generalize wd (neg (fprod p q))=M at *
  generalize wd (fprod p q)=N at *
  generalize wd p=x at *
  generalize wd q=y at *
  clear hw1 hL hd
  rcases o1 with o1 | o1 <;> rcases o2 with o2 | o2 <;> rcases od with od | od
  all_goals
    go_enter Tryz.func98,Tryz.ntmps98
    go_wp2_with fail
    refine (CA.out _).mono ?_
    rintro _ wz ⟨rfl,hwz⟩
    replace hwz:=hwz.symm
    subst hwz
    go_wp2_with fail
    refine (CB.out _).mono ?_
    rintro _ w3 ⟨rfl,hb3⟩
    obtain ⟨s0,s1,e0,e1,hbe⟩:=fin2 (bel_trans hb1 hb3) U V
    go_wp2
    refine bodyPost_ret (v:=.agg #[.float .f64 U,.float .f64 V]) (by simp [results,Tryz.results98,go_sem,e0,e1]) rfl ⟨rfl,hbe⟩
theorem fx_fw {a b:Nat} {x:Int} (h:Fx a b x):FW x (wd x):=FW.pat (q_fin h.p) h.r
theorem dans_past {w w':World} {V:Int} {v:Value} (h:DAns w w' V v) (o:Obj):DAns w (w'.alloc o) V v:=h.stays (bel_alloc _ _)
set_option maxRecDepth 100000 in
set_option maxHeartbeats 2000000 in
theorem oapart_any {p q:Int} (pp:pok p=true) (pq:pok q=true) (w:World) (H:Hold4 w) :
    Calls Tryz.prog 51 #[.int .i64 p,.int .i64 q] w fun r w'=>∃ v,r=.returned v∧DAns w w' (patV p-patV q) v:=by
  have r_k:=heap_a1 w (.cells #[.bool false,.slice none 0 0,.int .i64 0] 34)
  have hb0:=bel_alloc w (.cells #[.bool false,.slice none 0 0,.int .i64 0] 34)
  have B1:=patV_bd pp
  have B2:=patV_bd pq
  go_enter Tryz.func51,Tryz.ntmps51
  go_wp2_with fail
  generalize w.alloc (.cells #[.bool false,.slice none 0 0,.int .i64 0] 34)=x0 at r_k hb0 ⊢
  have H:=H.keeps hb0
  refine (of_ok pp H).mono ?_
  rintro _ y1 ⟨v,rfl,h1⟩
  obtain ⟨x_g,x_o,x_n,x_c,x_e,rfl⟩:=dans_shape h1
  have hw1:=h1.below
  have x_D:=h1.num
  have H:=H.keeps hw1
  have r_k:=(hw1.block _ (Array.getElem?_eq_some_iff.1 r_k).1).trans r_k
  have hb1:=bel_trans hb0 hw1
  have r_k:=heap_past (.cells #[.bool x_g,.slice x_o x_n x_c,.int .i64 x_e] 34) r_k
  have x_k:=heap_a1 y1 (.cells #[.bool x_g,.slice x_o x_n x_c,.int .i64 x_e] 34)
  have x_D:=x_D.keeps (bel_alloc y1 (.cells #[.bool x_g,.slice x_o x_n x_c,.int .i64 x_e] 34))
  have H:=H.keeps (bel_alloc y1 (.cells #[.bool x_g,.slice x_o x_n x_c,.int .i64 x_e] 34))
  have hb2':=bel_trans hb1 (bel_alloc y1 (.cells #[.bool x_g,.slice x_o x_n x_c,.int .i64 x_e] 34))
  go_wp2_with fail
  generalize y1.alloc (.cells #[.bool x_g,.slice x_o x_n x_c,.int .i64 x_e] 34)=x2 at r_k x_k x_D H hb2' ⊢
  refine (of_ok pq H).mono ?_
  rintro _ y2 ⟨v,rfl,h2⟩
  obtain ⟨y_g,y_o,y_n,y_c,y_e,rfl⟩:=dans_shape h2
  have hw2:=h2.below
  have y_D:=h2.num
  have H:=H.keeps hw2
  have r_k:=(hw2.block _ (Array.getElem?_eq_some_iff.1 r_k).1).trans r_k
  have x_k:=(hw2.block _ (Array.getElem?_eq_some_iff.1 x_k).1).trans x_k
  have x_D:=x_D.keeps hw2
  have hb2:=bel_trans hb2' hw2
  have r_k:=heap_past (.cells #[.bool y_g,.slice y_o y_n y_c,.int .i64 y_e] 34) r_k
  have x_k:=heap_past (.cells #[.bool y_g,.slice y_o y_n y_c,.int .i64 y_e] 34) x_k
  have y_k:=heap_a1 y2 (.cells #[.bool y_g,.slice y_o y_n y_c,.int .i64 y_e] 34)
  have x_D:=x_D.keeps (bel_alloc y2 (.cells #[.bool y_g,.slice y_o y_n y_c,.int .i64 y_e] 34))
  have y_D:=y_D.keeps (bel_alloc y2 (.cells #[.bool y_g,.slice y_o y_n y_c,.int .i64 y_e] 34))
  have H:=H.keeps (bel_alloc y2 (.cells #[.bool y_g,.slice y_o y_n y_c,.int .i64 y_e] 34))
  have hb3':=bel_trans hb2 (bel_alloc y2 (.cells #[.bool y_g,.slice y_o y_n y_c,.int .i64 y_e] 34))
  have f_x0:=blkC x_k 0 rfl
  have f_x1:=blkC x_k 1 rfl
  have f_x2:=blkC x_k 2 rfl
  go_wp2_with fail
  clear f_x0 f_x1 f_x2
  generalize y2.alloc (.cells #[.bool y_g,.slice y_o y_n y_c,.int .i64 y_e] 34)=x3 at r_k x_k y_k x_D y_D H hb3' ⊢
  have hs0:=(Array.getElem?_eq_some_iff.1 r_k).1
  refine (sub_B x_D y_D B1 B2 (by omega) H.tab).mono ?_
  rintro _ y3 ⟨v,rfl,h3⟩
  obtain ⟨n_g,n_o,n_n,n_c,n_e,rfl⟩:=dans_shape h3
  have hw3:=h3.below
  have n_D:=h3.num
  have H:=H.keeps hw3
  have r_k:=(hw3.block _ (Array.getElem?_eq_some_iff.1 r_k).1).trans r_k
  have x_k:=(hw3.block _ (Array.getElem?_eq_some_iff.1 x_k).1).trans x_k
  have x_D:=x_D.keeps hw3
  have y_k:=(hw3.block _ (Array.getElem?_eq_some_iff.1 y_k).1).trans y_k
  have y_D:=y_D.keeps hw3
  have hb3:=bel_trans hb3' hw3
  have r_k:=heap_past (.cells #[.bool n_g,.slice n_o n_n n_c,.int .i64 n_e] 34) r_k
  have k0:=blkC r_k 0 rfl
  have k1:=blkC r_k 1 rfl
  have k2:=blkC r_k 2 rfl
  have z0:=blkF r_k 0
  have z1:=blkF r_k 1
  have z2:=blkF r_k 2
  go_wp2
  refine bodyPost_ret (v:=.agg #[.bool n_g,.slice n_o n_n n_c,.int .i64 n_e]) (by simp [results,Tryz.results51,go_sem,k0,k1,k2]) rfl ⟨_,rfl,?_⟩
  exact dans_res3 (g:=w.heap.size) (dans_past h3 _) (by assumption) (Nat.le_refl _) hs0 _ _ _
theorem rsign3_any (ng:Bool) (ao:Option Addr) (n cap:Nat) (e:Int) (w:World) (hm:n<=9223372036854775807) :
    Calls Tryz.prog 47 #[.agg #[.bool ng,.slice ao n cap,.int .i64 e]] w fun r w'=>r=.returned (.int .i64 (sgn ng n))∧Below w.heap.size w w':=by
  by_cases h0:n=0
  . subst h0
    go_enter Tryz.func47,Tryz.ntmps47
    go_wp2
    go_ret
    exact ⟨rfl,bel_alloc _ _⟩
  . have hn0:((n:Int) == 0)=false:=by simp; omega
    cases ng
    . go_enter Tryz.func47,Tryz.ntmps47
      go_wp2
      go_ret
      exact ⟨ret_int (by simp [sgn,h0]),bel_alloc _ _⟩
    . go_enter Tryz.func47,Tryz.ntmps47
      go_wp2
      go_ret
      exact ⟨ret_int (by simp [sgn,h0]),bel_alloc _ _⟩
def NumR.opp (x:NumR):NumR:=⟨if x.n=0 then x.ng else !x.ng,x.ao,x.n,x.cap,x.d,x.e⟩
set_option maxRecDepth 100000 in
theorem rneg3_any (x:NumR) (w:World) (hm:x.n<=9223372036854775807) :
    Calls Tryz.prog 109 #[x.v] w fun r w'=>r=.returned x.opp.v∧Below w.heap.size w w':=by
  obtain ⟨ng,ao,n,cap,d,e⟩:=x
  unfold NumR.v NumR.opp
  simp only at *
  by_cases h0:n=0
  . subst h0
    go_enter Tryz.func109,Tryz.ntmps109
    go_wp2
    refine bodyPost_ret (v:=.agg #[.bool ng,.slice ao 0 cap,.int .i64 e]) (by simp [results,Tryz.results109,go_sem]) rfl ⟨rfl,?_⟩
    exact bel_alloc2 _ _ _
  . have hn0:(0:Int)<n:=by omega
    rw [if_neg h0]
    go_enter Tryz.func109,Tryz.ntmps109
    go_wp2
    refine bodyPost_ret (v:=.agg #[.bool (!ng),.slice ao n cap,.int .i64 e]) (by simp [results,Tryz.results109,go_sem]) rfl ⟨rfl,?_⟩
    exact bel_alloc2 _ _ _
set_option maxRecDepth 100000 in
set_option maxHeartbeats 4000000 in
theorem rmul3_any (x y:NumR) (w:World) (hx:Row w x.ao x.n x.cap x.d) (hy:Row w y.ao y.n y.cap y.d) (sx:Sane x) (sy:Sane y) :
    Calls Tryz.prog 78 #[x.v,y.v] w fun r w'=>∃ v,r=.returned v∧DAns w w' (mulV x y) v:=by
  have hV:mulV x y=sg (x.ng != y.ng) (val x.d x.n*val y.d y.n)*pw (x.e+y.e):=rfl
  have he:-4194304<=x.e+y.e∧x.e+y.e<=4194304:=by have:=sx.2.2.1; have:=sy.2.2.1; have:=sx.2.2.2; have:=sy.2.2.2; omega
  have hlen:val x.d x.n*val y.d y.n<P 10000:=by
    have a1:=val_lt sx.1.1
    have a2:=val_lt sy.1.1
    have b1:=val_nonneg sx.1.1
    have b2:=val_nonneg sy.1.1
    have c1:val x.d x.n*val y.d y.n<=P x.n*val y.d y.n:=Int.mul_le_mul_of_nonneg_right (by omega) b2
    have c2:P x.n*val y.d y.n<P x.n*P y.n:=Int.mul_lt_mul_of_pos_left a2 (P_pos _)
    rw [<- P_add] at c2
    have:=P_le (show x.n+y.n<=10000 by have:=sx.2.1; have:=sy.2.1; omega)
    omega
  obtain ⟨an,ao,n,ca,a,e⟩:=x
  obtain ⟨bn,bo,m,cb,b,f⟩:=y
  obtain ⟨s1,s2,s3,s4⟩:=sx
  obtain ⟨t1,t2,t3,t4⟩:=sy
  unfold NumR.v
  simp only at *
  rw [hV]
  clear hV
  generalize hVV:sg (an != bn) (val a n*val b m)*pw (e+f)=V
  have HVV:Hid (sg (an != bn) (val a n*val b m)*pw (e+f)=V):=hVV
  clear hVV
  have hw:IntKind.i64.wrap (e+f)=e+f:=by rw [wrap_i64_eq]; omega
  have hb3:=bel_a3 w (.cells #[.bool an,.slice ao n ca,.int .i64 e] 34) (.cells #[.bool bn,.slice bo m cb,.int .i64 f] 34) (.cells #[.bool false,.slice none 0 0,.int .i64 0] 34)
  have g0:=h3_0 w (.cells #[.bool an,.slice ao n ca,.int .i64 e] 34) (.cells #[.bool bn,.slice bo m cb,.int .i64 f] 34) (.cells #[.bool false,.slice none 0 0,.int .i64 0] 34)
  have g1:=h3_1 w (.cells #[.bool an,.slice ao n ca,.int .i64 e] 34) (.cells #[.bool bn,.slice bo m cb,.int .i64 f] 34) (.cells #[.bool false,.slice none 0 0,.int .i64 0] 34)
  have g2:=h3_2 w (.cells #[.bool an,.slice ao n ca,.int .i64 e] 34) (.cells #[.bool bn,.slice bo m cb,.int .i64 f] 34) (.cells #[.bool false,.slice none 0 0,.int .i64 0] 34)
  have hs3:=size3 w (.cells #[.bool an,.slice ao n ca,.int .i64 e] 34) (.cells #[.bool bn,.slice bo m cb,.int .i64 f] 34) (.cells #[.bool false,.slice none 0 0,.int .i64 0] 34)
  go_enter Tryz.func78,Tryz.ntmps78
  go_wp2_with fail
  have HX:=hx.keeps hb3
  have HY:=hy.keeps hb3
  generalize ((w.alloc (.cells #[.bool an,.slice ao n ca,.int .i64 e] 34)).alloc (.cells #[.bool bn,.slice bo m cb,.int .i64 f] 34)).alloc (.cells #[.bool false,.slice none 0 0,.int .i64 0] 34)=wx at hb3 g0 g1 g2 hs3 HX HY ⊢
  have k0:=blkC g0 0 rfl
  have k1:=blkC g0 1 rfl
  have k2:=blkC g0 2 rfl
  have j0:=blkC g1 0 rfl
  have j1:=blkC g1 1 rfl
  have j2:=blkC g1 2 rfl
  have hb1:=bel_refl wx
  have C1:∀ W,Below wx.heap.size wx W->Calls Tryz.prog 110 #[.slice ao n ca,.slice bo m cb] W fun r w'=>∃ so sn sc,r=.returned (.slice so sn sc)∧Ans W w' (val a n*val b m) (.slice so sn sc)∧Below W.heap.size W w':=fun W h=>by
    refine (rmul_any ao bo n m ca cb a b W (HX.keeps h) (HY.keeps h) s1 t1 (by omega) (by omega)).mono ?_
    rintro r w' ⟨v,rfl,hA⟩
    obtain ⟨so,sn,sc,rfl⟩:=hA.num.shape
    exact ⟨so,sn,sc,rfl,hA,hA.below⟩
  have C2:∀ W so sn sc,Num W (.slice so sn sc) (val a n*val b m)->Calls Tryz.prog 106 #[.bool (!(an == bn)),.slice so sn sc,.int .i64 (e+f)] W fun r w'=>∃ ng s1 s2 s3 e1,r=.returned (.agg #[.bool ng,.slice s1 s2 s3,.int .i64 e1])∧DAns W w' V (.agg #[.bool ng,.slice s1 s2 s3,.int .i64 e1])∧Below W.heap.size W w':=fun W so sn sc hN=>by
    have hsn:sn<=10000:=hN.len hlen
    obtain ⟨ao',n',ca',d,e1,hR,h2,h3⟩:=hN
    simp only [Value.slice.injEq] at e1
    obtain ⟨rfl,rfl,rfl⟩:=e1
    refine (rnorm_any (an != bn) _ _ _ d (e+f) W hR h2.1 (by omega) (by omega) (by omega)).mono ?_
    rw [h3,HVV.out]
    rintro r w' ⟨v,rfl,hD⟩
    obtain ⟨ng,s,m',e1,rfl,_,hA⟩:=id hD
    obtain ⟨q1,q2,q3,rfl⟩:=hA.num.shape
    exact ⟨ng,q1,q2,q3,e1,rfl,hD,hD.below⟩
  clear hlen
  go_region_held3 (fun W=>(W.cell? ⟨w.heap.size,0,none⟩=some (.bool an)∧W.cell? ⟨w.heap.size,1,none⟩=some (.slice ao n ca)∧W.cell? ⟨w.heap.size,2,none⟩=some (.int .i64 e))∧W.cell? ⟨w.heap.size+1,0,none⟩=some (.bool bn)∧W.cell? ⟨w.heap.size+1,1,none⟩=some (.slice bo m cb)∧W.cell? ⟨w.heap.size+1,2,none⟩=some (.int .i64 f))
    (first | assumption | exact ⟨⟨k0,k1,k2⟩,j0,j1,j2⟩ | exact keep66 (W:=wx.drew) hbv1 ⟨⟨k0,k1,k2⟩,j0,j1,j2⟩ | exact keep66 hbv2 (keep66 (W:=wx.drew) hbv1 ⟨⟨k0,k1,k2⟩,j0,j1,j2⟩) | exact ⟨keepS (keep66 hbv2 (keep66 (W:=wx.drew) hbv1 ⟨⟨k0,k1,k2⟩,j0,j1,j2⟩)).1 (by omega) _ _ _,keepS (keep66 hbv2 (keep66 (W:=wx.drew) hbv1 ⟨⟨k0,k1,k2⟩,j0,j1,j2⟩)).2 (by omega) _ _ _⟩)
    (first | (go_at_call 106; refine (C2 _ _ _ _ hv1.num).mono ?_; rintro y w4 ⟨ng4,o4,n4,c4,e4,rfl,hv2,hbv2⟩; have q0:=((bel_trans hbv1 hbv2).block (w.heap.size+2) (by show _<wx.heap.size; omega)).trans g2; have x0:=blkC q0 0 rfl; have x1:=blkC q0 1 rfl; have x2:=blkC q0 2 rfl; have z0:=blkF q0 0; have z1:=blkF q0 1; have z2:=blkF q0 2) | (go_at_call 110; refine (C1 _ hb1.drew).mono ?_; rintro y w3 ⟨so,sn,sc,rfl,hv1,hbv1⟩))
  all_goals go_wp2
  all_goals
    refine bodyPost_ret (v:=.agg #[.bool ng4,.slice o4 n4 c4,.int .i64 e4]) (by simp [results,Tryz.results78,go_sem,x0,x1,x2]) rfl ⟨_,rfl,?_⟩
    exact dans_res3 (g:=w.heap.size+2) hv2 (bel_trans hb3 (bel_trans hb1.drew hbv1)) (by omega) (Nat.lt_of_lt_of_le (show _<wx.heap.size by omega) hbv1.size) _ _ _
theorem bd_form {K:Nat} {A:Int} {ng:Bool} {m e:Int} (h:Bd K A) (hy:Dy A ng m e) (hK:K<=4194304) (h0:0<m):-(K:Int)<=e∧e<=K∧m*2^(e+K).toNat<2^(2*K):=by
  obtain ⟨c,hc,c1,c2⟩:=h
  have key:∀ (b:Bool) (C:Int),0<C->C<2^(2*K)->A=sg b C*pw (-(K:Int))->-(K:Int)<=e∧e<=K∧m*2^(e+K).toNat<2^(2*K):=fun b C hC hlt hA=>by
    obtain ⟨l,hl⟩:=isLow_ex hC
    have hy2:=Dy.of b hl hC (show -4194304 <= -(K:Int) by omega)
    rw [<- hA] at hy2
    obtain ⟨_,rfl,rfl⟩:=hy.unique hy2
    obtain ⟨d1,d2,d3⟩:=isLow_odd hl hC
    have hl2:l<2*K:=by
      have h3:(1:Int)*2^l<=C/2^l*2^l:=Int.mul_le_mul_of_nonneg_right (by omega) (Int.le_of_lt (two_pos l))
      rw [d3] at h3
      exact two_lt_iff (by omega)
    refine ⟨by omega,by omega,?_⟩
    rw [show (-(K:Int)+l+K).toNat=l by omega,d3]
    exact hlt
  by_cases hz:c=0
  . exfalso
    rw [hz,Int.zero_mul] at hc
    have:=hy.eq_zero.1 hc
    omega
  . by_cases hp:0<c
    . exact key false c hp c2 (by simpa [sg] using hc)
    . exact key true (-c) (by omega) (by omega) (by simpa [sg] using hc)
theorem bd_shift {K:Nat} {A:Int} {ng:Bool} {m e low:Int} (h:Bd K A) (hy:Dy A ng m e) (hK:K<=4194304) (h0:0<m) (h1:-(K:Int)<=low) (h2:low<=e):m*2^(e-low).toNat<2^(2*K):=by
  obtain ⟨a,b,c⟩:=bd_form h hy hK h0
  have h3:(2:Int)^(e-low).toNat<=2^(e+K).toNat:=two_le (by omega)
  have h4:m*2^(e-low).toNat<=m*2^(e+K).toNat:=Int.mul_le_mul_of_nonneg_left h3 (by omega)
  omega
theorem bd_self {K:Nat} {A:Int} {ng:Bool} {m e:Int} (h:Bd K A) (hy:Dy A ng m e) (hK:K<=4194304) (h0:0<m):m<2^(2*K):=by
  obtain ⟨a,b,c⟩:=bd_form h hy hK h0
  have h3:(1:Int)<=2^(e+K).toNat:=two_pos _
  have h4:m*1<=m*2^(e+K).toNat:=Int.mul_le_mul_of_nonneg_left h3 (by omega)
  omega
theorem bd_digits {K:Nat} {d:Nat->Int} {n:Nat} (hK:K<=560000) (hN:Nrm d n) (h:val d n<2^(2*K)):n<=37400:=by
  by_cases h1:n<=37400
  . exact h1
  . exfalso
    have a:=val_top hN.1 (by omega) hN.2
    have b:=P_le (show 37400<=n-1 by omega)
    have c:(2:Int)^(2*K)<=2^(30*37400):=two_le (by omega)
    rw [<- P_two] at c
    generalize P 37400=Y at *
    omega
def RSum (w w':World) (A B:Int) (x y v:Value):Prop:=Below w.heap.size w w'∧(DAns w w' (A+B) v∨(A=0∧v=y)∨(B=0∧v=x))
set_option maxRecDepth 100000 in
set_option maxHeartbeats 2000000 in
theorem radd3_left (x y:NumR) (w:World) (hm:x.n<=9223372036854775807) (hm':y.n<=9223372036854775807) (h:x.n=0) :
    Calls Tryz.prog 108 #[x.v,y.v] w fun r w'=>r=.returned y.v∧Below w.heap.size w w':=by
  obtain ⟨an,ao,n,ca,a,e⟩:=x
  obtain ⟨bn,bo,m,cb,b,f⟩:=y
  unfold NumR.v at *
  simp only at *
  subst h
  go_enter Tryz.func108,Tryz.ntmps108
  go_wp2
  refine bodyPost_ret (v:=.agg #[.bool bn,.slice bo m cb,.int .i64 f]) (by simp [results,Tryz.results108,go_sem]) rfl ⟨rfl,?_⟩
  exact bel_a3 _ _ _ _
set_option maxRecDepth 100000 in
set_option maxHeartbeats 2000000 in
theorem radd3_right (x y:NumR) (w:World) (hm:x.n<=9223372036854775807) (hm':y.n<=9223372036854775807) (h0:0<x.n) (h:y.n=0) :
    Calls Tryz.prog 108 #[x.v,y.v] w fun r w'=>r=.returned x.v∧Below w.heap.size w w':=by
  obtain ⟨an,ao,n,ca,a,e⟩:=x
  obtain ⟨bn,bo,m,cb,b,f⟩:=y
  unfold NumR.v at *
  simp only at *
  have hn0:((n:Int) == 0)=false:=by simp; omega
  subst h
  go_enter Tryz.func108,Tryz.ntmps108
  go_wp2
  refine bodyPost_ret (v:=.agg #[.bool an,.slice ao n ca,.int .i64 e]) (by simp [results,Tryz.results108,go_sem]) rfl ⟨rfl,?_⟩
  exact bel_a3 _ _ _ _
set_option maxRecDepth 100000 in
set_option maxHeartbeats 2000000 in
theorem radd3_walk (x y:NumR) (w:World) (hx:Row w x.ao x.n x.cap x.d) (hy:Row w y.ao y.n y.cap y.d) (n0:0<x.n) (m0:0<y.n) (low A B V:Int)
    (hlow:low=min x.e y.e) (hl0:-600000<=low) (he:x.e<=600000) (hf:y.e<=600000)
    (H1:∀ W,Below w.heap.size w W->Calls Tryz.prog 148 #[.slice x.ao x.n x.cap,.int .i64 (x.e-low)] W fun r w'=>∃ so sn sc,r=.returned (.slice so sn sc)∧Num w' (.slice so sn sc) A∧Below W.heap.size W w')
    (H2:∀ W,Below w.heap.size w W->Calls Tryz.prog 148 #[.slice y.ao y.n y.cap,.int .i64 (y.e-low)] W fun r w'=>∃ so sn sc,r=.returned (.slice so sn sc)∧Num w' (.slice so sn sc) B∧Below W.heap.size W w')
    (H3:∀ W p q,Num W p A->Num W q B->Calls Tryz.prog 149 #[p,q] W fun r w'=>∃ so sn sc,r=.returned (.slice so sn sc)∧Num w' (.slice so sn sc) (A+B)∧Below W.heap.size W w')
    (H4:∀ W p q,Num W p A->Num W q B->Calls Tryz.prog 150 #[p,q] W fun r w'=>r=.returned (.int .i64 (ord A B))∧Below W.heap.size W w')
    (H5:∀ W p q,Num W p A->Num W q B->B<=A->Calls Tryz.prog 151 #[p,q] W fun r w'=>∃ so sn sc,r=.returned (.slice so sn sc)∧Num w' (.slice so sn sc) (A-B)∧Below W.heap.size W w')
    (H6:∀ W p q,Num W p A->Num W q B->A<=B->Calls Tryz.prog 151 #[q,p] W fun r w'=>∃ so sn sc,r=.returned (.slice so sn sc)∧Num w' (.slice so sn sc) (B-A)∧Below W.heap.size W w')
    (H7:∀ W ng s M,Num W s M->((x.ng=y.ng∧ng=x.ng∧M=A+B)∨(x.ng≠y.ng∧B<=A∧ng=x.ng∧M=A-B)∨(x.ng≠y.ng∧A<B∧ng=y.ng∧M=B-A))->Calls Tryz.prog 106 #[.bool ng,s,.int .i64 low] W fun r w'=>∃ ng s1 s2 s3 e1,r=.returned (.agg #[.bool ng,.slice s1 s2 s3,.int .i64 e1])∧DAns W w' V (.agg #[.bool ng,.slice s1 s2 s3,.int .i64 e1])∧Below W.heap.size W w') :
    Calls Tryz.prog 108 #[x.v,y.v] w fun r w'=>∃ v,r=.returned v∧DAns w w' V v:=by
  have hmin:∀ (ts:Array TypeId) (t:TypeId) (w:World),(Builtin.min_ ts t #[.int .i64 x.e,.int .i64 y.e]).run Tryz.prog w=.ok (.int .i64 low) w:=fun ts t w=>by rw [run_min_int2,hlow]; congr 2; omega
  have hl1:low<=x.e:=by omega
  have hl2:low<=y.e:=by omega
  have HH7:Hid _:=H7
  have hm:=hx.max
  have hm':=hy.max
  clear hlow H7
  obtain ⟨an,ao,n,ca,a,e⟩:=x
  obtain ⟨bn,bo,m,cb,b,f⟩:=y
  unfold NumR.v
  simp only at *
  have hn0:((n:Int) == 0)=false:=by simp; omega
  have hm0:((m:Int) == 0)=false:=by simp; omega
  have hb3:Below w.heap.size w (((w.alloc (.cells #[.bool an,.slice ao n ca,.int .i64 e] 34)).alloc (.cells #[.bool bn,.slice bo m cb,.int .i64 f] 34)).alloc (.cells #[.bool false,.slice none 0 0,.int .i64 0] 34)):=bel_a3 _ _ _ _
  have g0:=h3_0 w (.cells #[.bool an,.slice ao n ca,.int .i64 e] 34) (.cells #[.bool bn,.slice bo m cb,.int .i64 f] 34) (.cells #[.bool false,.slice none 0 0,.int .i64 0] 34)
  have g1:=h3_1 w (.cells #[.bool an,.slice ao n ca,.int .i64 e] 34) (.cells #[.bool bn,.slice bo m cb,.int .i64 f] 34) (.cells #[.bool false,.slice none 0 0,.int .i64 0] 34)
  have g2:=h3_2 w (.cells #[.bool an,.slice ao n ca,.int .i64 e] 34) (.cells #[.bool bn,.slice bo m cb,.int .i64 f] 34) (.cells #[.bool false,.slice none 0 0,.int .i64 0] 34)
  go_enter Tryz.func108,Tryz.ntmps108
  go_wp2_with fail
  generalize ((w.alloc (.cells #[.bool an,.slice ao n ca,.int .i64 e] 34)).alloc (.cells #[.bool bn,.slice bo m cb,.int .i64 f] 34)).alloc (.cells #[.bool false,.slice none 0 0,.int .i64 0] 34)=wx at hb3 g0 g1 g2 ⊢
  refine (H1 _ hb3).mono ?_
  rintro r w1 ⟨po,pn,pc,rfl,hP,hb1⟩
  have hbx1:=bel_trans hb3 hb1
  replace g0:=(hb1.block _ (Array.getElem?_eq_some_iff.1 g0).1).trans g0
  replace g1:=(hb1.block _ (Array.getElem?_eq_some_iff.1 g1).1).trans g1
  replace g2:=(hb1.block _ (Array.getElem?_eq_some_iff.1 g2).1).trans g2
  have j1:=blkC g1 1 rfl
  have j2:=blkC g1 2 rfl
  go_wp2_with fail
  clear j1 j2
  refine (H2 _ hbx1).mono ?_
  rintro r w2 ⟨qo,qn,qc,rfl,hQ,hb2⟩
  have hbx2:=bel_trans hbx1 hb2
  replace hP:=hP.keeps hb2
  replace g0:=(hb2.block _ (Array.getElem?_eq_some_iff.1 g0).1).trans g0
  replace g1:=(hb2.block _ (Array.getElem?_eq_some_iff.1 g1).1).trans g1
  replace g2:=(hb2.block _ (Array.getElem?_eq_some_iff.1 g2).1).trans g2
  have k0:=blkC g0 0 rfl
  have k1:=blkC g0 1 rfl
  have k2:=blkC g0 2 rfl
  have j0:=blkC g1 0 rfl
  have j1:=blkC g1 1 rfl
  have j2:=blkC g1 2 rfl
  by_cases hng:an=bn
  . subst hng
    have C1:∀ W,Below w2.heap.size w2 W->Calls Tryz.prog 149 #[.slice po pn pc,.slice qo qn qc] W fun r w'=>∃ so sn sc,r=.returned (.slice so sn sc)∧Num w' (.slice so sn sc) (A+B)∧Below W.heap.size W w':=fun W h=>H3 W _ _ (hP.keeps h) (hQ.keeps h)
    have C2:∀ W so sn sc,Num W (.slice so sn sc) (A+B)->Calls Tryz.prog 106 #[.bool an,.slice so sn sc,.int .i64 low] W fun r w'=>∃ ng s1 s2 s3 e1,r=.returned (.agg #[.bool ng,.slice s1 s2 s3,.int .i64 e1])∧DAns W w' V (.agg #[.bool ng,.slice s1 s2 s3,.int .i64 e1])∧Below W.heap.size W w':=fun W so sn sc hN=>HH7.out W an _ _ hN (.inl ⟨rfl,rfl,rfl⟩)
    clear H1 H2 H3 H4 H5 H6 HH7
    have hs3:=(Array.getElem?_eq_some_iff.1 g2).1
    go_wp2_with fail
    have hb1:=bel_refl w2
    go_region_held3 (fun W=>(W.cell? ⟨w.heap.size,0,none⟩=some (.bool an)∧W.cell? ⟨w.heap.size,1,none⟩=some (.slice ao n ca)∧W.cell? ⟨w.heap.size,2,none⟩=some (.int .i64 e))∧W.cell? ⟨w.heap.size+1,0,none⟩=some (.bool an)∧W.cell? ⟨w.heap.size+1,1,none⟩=some (.slice bo m cb)∧W.cell? ⟨w.heap.size+1,2,none⟩=some (.int .i64 f))
      (first | assumption | exact ⟨⟨k0,k1,k2⟩,j0,j1,j2⟩ | exact keep66 (W:=w2.drew) hbv1 ⟨⟨k0,k1,k2⟩,j0,j1,j2⟩ | exact keep66 hbv2 (keep66 (W:=w2.drew) hbv1 ⟨⟨k0,k1,k2⟩,j0,j1,j2⟩) | exact ⟨keepS (keep66 hbv2 (keep66 (W:=w2.drew) hbv1 ⟨⟨k0,k1,k2⟩,j0,j1,j2⟩)).1 (by omega) _ _ _,keepS (keep66 hbv2 (keep66 (W:=w2.drew) hbv1 ⟨⟨k0,k1,k2⟩,j0,j1,j2⟩)).2 (by omega) _ _ _⟩)
      (first | (go_at_call 106; refine (C2 _ _ _ _ hv1).mono ?_; rintro y w4 ⟨ng4,o4,n4,c4,e4,rfl,hv2,hbv2⟩; have q0:=((bel_trans hbv1 hbv2).block (w.heap.size+2) (by show _<w2.heap.size; omega)).trans g2; have x0:=blkC q0 0 rfl; have x1:=blkC q0 1 rfl; have x2:=blkC q0 2 rfl; have z0:=blkF q0 0; have z1:=blkF q0 1; have z2:=blkF q0 2) | (go_at_call 149; refine (C1 _ hb1.drew).mono ?_; rintro y w3 ⟨so,sn,sc,rfl,hv1,hbv1⟩))
    all_goals go_wp2
    all_goals
      refine bodyPost_ret (v:=.agg #[.bool ng4,.slice o4 n4 c4,.int .i64 e4]) (by simp [results,Tryz.results108,go_sem,x0,x1,x2]) rfl ⟨_,rfl,?_⟩
      exact dans_res3 (g:=w.heap.size+2) hv2 (bel_trans hbx2 (bel_trans hb1.drew hbv1)) (by omega) (Nat.lt_of_lt_of_le (show _<w2.heap.size by omega) hbv1.size) _ _ _
  . have hng':(an == bn)=false:=by simp [hng]
    go_wp2_with fail
    refine (H4 _ _ _ hP hQ).mono ?_
    rintro r w3 ⟨rfl,hb3'⟩
    have hbx3:=bel_trans hbx2 hb3'
    replace hP:=hP.keeps hb3'
    replace hQ:=hQ.keeps hb3'
    replace g0:=(hb3'.block _ (Array.getElem?_eq_some_iff.1 g0).1).trans g0
    replace g1:=(hb3'.block _ (Array.getElem?_eq_some_iff.1 g1).1).trans g1
    replace g2:=(hb3'.block _ (Array.getElem?_eq_some_iff.1 g2).1).trans g2
    replace k0:=blkC g0 0 rfl
    replace k1:=blkC g0 1 rfl
    replace k2:=blkC g0 2 rfl
    replace j0:=blkC g1 0 rfl
    replace j1:=blkC g1 1 rfl
    replace j2:=blkC g1 2 rfl
    have hs3:=(Array.getElem?_eq_some_iff.1 g2).1
    by_cases hAB:B<=A
    . have ho:(0:Int)<=ord A B:=by
        rcases Int.lt_trichotomy A B with h | h | h
        . omega
        . rw [ord_eq h]; decide
        . rw [ord_gt h]; decide
      have C1:∀ W,Below w3.heap.size w3 W->Calls Tryz.prog 151 #[.slice po pn pc,.slice qo qn qc] W fun r w'=>∃ so sn sc,r=.returned (.slice so sn sc)∧Num w' (.slice so sn sc) (A-B)∧Below W.heap.size W w':=fun W h=>H5 W _ _ (hP.keeps h) (hQ.keeps h) hAB
      have C2:∀ W so sn sc,Num W (.slice so sn sc) (A-B)->Calls Tryz.prog 106 #[.bool an,.slice so sn sc,.int .i64 low] W fun r w'=>∃ ng s1 s2 s3 e1,r=.returned (.agg #[.bool ng,.slice s1 s2 s3,.int .i64 e1])∧DAns W w' V (.agg #[.bool ng,.slice s1 s2 s3,.int .i64 e1])∧Below W.heap.size W w':=fun W so sn sc hN=>HH7.out W an _ _ hN (.inr (.inl ⟨hng,hAB,rfl,rfl⟩))
      generalize ord A B=oAB at ho ⊢
      clear H1 H2 H3 H4 H5 H6 HH7 hAB
      go_wp2_with fail
      have hb1:=bel_refl w3
      go_region_held3 (fun W=>(W.cell? ⟨w.heap.size,0,none⟩=some (.bool an)∧W.cell? ⟨w.heap.size,1,none⟩=some (.slice ao n ca)∧W.cell? ⟨w.heap.size,2,none⟩=some (.int .i64 e))∧W.cell? ⟨w.heap.size+1,0,none⟩=some (.bool bn)∧W.cell? ⟨w.heap.size+1,1,none⟩=some (.slice bo m cb)∧W.cell? ⟨w.heap.size+1,2,none⟩=some (.int .i64 f))
        (first | assumption | exact ⟨⟨k0,k1,k2⟩,j0,j1,j2⟩ | exact keep66 (W:=w3.drew) hbv1 ⟨⟨k0,k1,k2⟩,j0,j1,j2⟩ | exact keep66 hbv2 (keep66 (W:=w3.drew) hbv1 ⟨⟨k0,k1,k2⟩,j0,j1,j2⟩) | exact ⟨keepS (keep66 hbv2 (keep66 (W:=w3.drew) hbv1 ⟨⟨k0,k1,k2⟩,j0,j1,j2⟩)).1 (by omega) _ _ _,keepS (keep66 hbv2 (keep66 (W:=w3.drew) hbv1 ⟨⟨k0,k1,k2⟩,j0,j1,j2⟩)).2 (by omega) _ _ _⟩)
        (first | (go_at_call 106; refine (C2 _ _ _ _ hv1).mono ?_; rintro y w4 ⟨ng4,o4,n4,c4,e4,rfl,hv2,hbv2⟩; have q0:=((bel_trans hbv1 hbv2).block (w.heap.size+2) (by show _<w3.heap.size; omega)).trans g2; have x0:=blkC q0 0 rfl; have x1:=blkC q0 1 rfl; have x2:=blkC q0 2 rfl; have z0:=blkF q0 0; have z1:=blkF q0 1; have z2:=blkF q0 2) | (go_at_call 151; refine (C1 _ hb1.drew).mono ?_; rintro y w3' ⟨so,sn,sc,rfl,hv1,hbv1⟩))
      all_goals go_wp2
      all_goals
        refine bodyPost_ret (v:=.agg #[.bool ng4,.slice o4 n4 c4,.int .i64 e4]) (by simp [results,Tryz.results108,go_sem,x0,x1,x2]) rfl ⟨_,rfl,?_⟩
        exact dans_res3 (g:=w.heap.size+2) hv2 (bel_trans hbx3 (bel_trans hb1.drew hbv1)) (by omega) (Nat.lt_of_lt_of_le (show _<w3.heap.size by omega) hbv1.size) _ _ _
    . have ho:ord A B<(0:Int):=by rw [ord_lt (by omega)]; decide
      have C1:∀ W,Below w3.heap.size w3 W->Calls Tryz.prog 151 #[.slice qo qn qc,.slice po pn pc] W fun r w'=>∃ so sn sc,r=.returned (.slice so sn sc)∧Num w' (.slice so sn sc) (B-A)∧Below W.heap.size W w':=fun W h=>H6 W _ _ (hP.keeps h) (hQ.keeps h) (by omega)
      have C2:∀ W so sn sc,Num W (.slice so sn sc) (B-A)->Calls Tryz.prog 106 #[.bool bn,.slice so sn sc,.int .i64 low] W fun r w'=>∃ ng s1 s2 s3 e1,r=.returned (.agg #[.bool ng,.slice s1 s2 s3,.int .i64 e1])∧DAns W w' V (.agg #[.bool ng,.slice s1 s2 s3,.int .i64 e1])∧Below W.heap.size W w':=fun W so sn sc hN=>HH7.out W bn _ _ hN (.inr (.inr ⟨hng,by omega,rfl,rfl⟩))
      generalize ord A B=oAB at ho ⊢
      clear H1 H2 H3 H4 H5 H6 HH7 hAB
      go_wp2_with fail
      have hb1:=bel_refl w3
      go_region_held3 (fun W=>(W.cell? ⟨w.heap.size,0,none⟩=some (.bool an)∧W.cell? ⟨w.heap.size,1,none⟩=some (.slice ao n ca)∧W.cell? ⟨w.heap.size,2,none⟩=some (.int .i64 e))∧W.cell? ⟨w.heap.size+1,0,none⟩=some (.bool bn)∧W.cell? ⟨w.heap.size+1,1,none⟩=some (.slice bo m cb)∧W.cell? ⟨w.heap.size+1,2,none⟩=some (.int .i64 f))
        (first | assumption | exact ⟨⟨k0,k1,k2⟩,j0,j1,j2⟩ | exact keep66 (W:=w3.drew) hbv1 ⟨⟨k0,k1,k2⟩,j0,j1,j2⟩ | exact keep66 hbv2 (keep66 (W:=w3.drew) hbv1 ⟨⟨k0,k1,k2⟩,j0,j1,j2⟩) | exact ⟨keepS (keep66 hbv2 (keep66 (W:=w3.drew) hbv1 ⟨⟨k0,k1,k2⟩,j0,j1,j2⟩)).1 (by omega) _ _ _,keepS (keep66 hbv2 (keep66 (W:=w3.drew) hbv1 ⟨⟨k0,k1,k2⟩,j0,j1,j2⟩)).2 (by omega) _ _ _⟩)
        (first | (go_at_call 106; refine (C2 _ _ _ _ hv1).mono ?_; rintro y w4 ⟨ng4,o4,n4,c4,e4,rfl,hv2,hbv2⟩; have q0:=((bel_trans hbv1 hbv2).block (w.heap.size+2) (by show _<w3.heap.size; omega)).trans g2; have x0:=blkC q0 0 rfl; have x1:=blkC q0 1 rfl; have x2:=blkC q0 2 rfl; have z0:=blkF q0 0; have z1:=blkF q0 1; have z2:=blkF q0 2) | (go_at_call 151; refine (C1 _ hb1.drew).mono ?_; rintro y w3' ⟨so,sn,sc,rfl,hv1,hbv1⟩))
      all_goals go_wp2
      all_goals
        refine bodyPost_ret (v:=.agg #[.bool ng4,.slice o4 n4 c4,.int .i64 e4]) (by simp [results,Tryz.results108,go_sem,x0,x1,x2]) rfl ⟨_,rfl,?_⟩
        exact dans_res3 (g:=w.heap.size+2) hv2 (bel_trans hbx3 (bel_trans hb1.drew hbv1)) (by omega) (Nat.lt_of_lt_of_le (show _<w3.heap.size by omega) hbv1.size) _ _ _
theorem rsum_V {an bn:Bool} {A B low:Int} {ng:Bool} {M:Int} (h:(an=bn∧ng=an∧M=A+B)∨(an≠bn∧B<=A∧ng=an∧M=A-B)∨(an≠bn∧A<B∧ng=bn∧M=B-A)) :
    sg ng M*pw low=sg an A*pw low+sg bn B*pw low:=by
  rw [<- Int.add_mul]
  congr 1
  rcases h with ⟨rfl,rfl,rfl⟩ | ⟨h1,h2,rfl,rfl⟩ | ⟨h1,h2,rfl,rfl⟩
  . cases ng <;> simp [sg] <;> omega
  . cases ng <;> cases bn <;> simp [sg] at * <;> omega
  . cases an <;> cases ng <;> simp [sg] at * <;> omega
theorem Num.digits {w:World} {so:Option Addr} {sn sc:Nat} {M:Int} (h:Num w (.slice so sn sc) M) {K:Nat} (hK:K<=560000) (hM:M<2^(2*K)+2^(2*K)):∃ d,Row w so sn sc d∧Nrm d sn∧val d sn=M∧sn<=37500:=by
  obtain ⟨ao,n,ca,d,e,hR,hN,hv⟩:=h
  simp only [Value.slice.injEq] at e
  obtain ⟨rfl,rfl,rfl⟩:=e
  refine ⟨d,hR,hN,hv,?_⟩
  by_cases h1:sn<=37500
  . exact h1
  . exfalso
    have a:=val_top hN.1 (by omega) hN.2
    have b:=P_le (show 37500<=sn-1 by omega)
    have c:(2:Int)^(2*K)<=2^(30*37400):=two_le (by omega)
    have c2:(2:Int)^(30*37400)*2<=2^(30*37500):=by
      rw [<- Int.pow_succ]
      exact two_le (by omega)
    rw [<- P_two 37500] at c2
    generalize P 37500=Y at *
    generalize (2:Int)^(30*37400)=Z at *
    omega
theorem radd3_any (x y:NumR) (w:World) (hx:Row w x.ao x.n x.cap x.d) (hy:Row w y.ao y.n y.cap y.d) (dx:Dy x.V x.ng (val x.d x.n) x.e) (nx:Nrm x.d x.n) (dy:Dy y.V y.ng (val y.d y.n) y.e) (ny:Nrm y.d y.n) {K:Nat} (hK:K<=560000) (bx:Bd K x.V) (bY:Bd K y.V) :
    Calls Tryz.prog 108 #[x.v,y.v] w fun r w'=>∃ v,r=.returned v∧RSum w w' x.V y.V x.v y.v v:=by
  by_cases h0:x.n=0
  . refine (radd3_left x y w (Nat.le_trans hx.le hx.max) (Nat.le_trans hy.le hy.max) h0).mono ?_
    rintro r w' ⟨rfl,hb⟩
    exact ⟨_,rfl,hb,.inr (.inl ⟨dx.eq_zero.2 (by rw [h0]; rfl),rfl⟩)⟩
  . by_cases h1:y.n=0
    . refine (radd3_right x y w (Nat.le_trans hx.le hx.max) (Nat.le_trans hy.le hy.max) (by omega) h1).mono ?_
      rintro r w' ⟨rfl,hb⟩
      exact ⟨_,rfl,hb,.inr (.inr ⟨dy.eq_zero.2 (by rw [h1]; rfl),rfl⟩)⟩
    . have px:=val_pos nx (show 0<x.n by omega)
      have py:=val_pos ny (show 0<y.n by omega)
      obtain ⟨a1,a2,_⟩:=bd_form bx dx (by omega) px
      obtain ⟨b1,b2,_⟩:=bd_form bY dy (by omega) py
      obtain ⟨low,hlow⟩:∃ low:Int,low=min x.e y.e:=⟨_,rfl⟩
      have hl0:-(K:Int)<=low:=by omega
      have s1:=bd_shift bx dx (by omega) px hl0 (by omega)
      have s2:=bd_shift bY dy (by omega) py hl0 (by omega)
      have v1:=dx.at (low:=low) (by omega) (by omega)
      have v2:=dy.at (low:=low) (by omega) (by omega)
      have dgx:=bd_digits hK nx (bd_self bx dx (by omega) px)
      have dgy:=bd_digits hK ny (bd_self bY dy (by omega) py)
      have q1:0<=val x.d x.n*2^(x.e-low).toNat:=Int.mul_nonneg (by omega) (Int.le_of_lt (two_pos _))
      have q2:0<=val y.d y.n*2^(y.e-low).toNat:=Int.mul_nonneg (by omega) (Int.le_of_lt (two_pos _))
      have e1:x.e-low=((x.e-low).toNat:Int):=by omega
      have e2:y.e-low=((y.e-low).toNat:Int):=by omega
      have H1:∀ W,Below w.heap.size w W->Calls Tryz.prog 148 #[.slice x.ao x.n x.cap,.int .i64 (x.e-low)] W fun r w'=>∃ so sn sc,r=.returned (.slice so sn sc)∧Num w' (.slice so sn sc) (val x.d x.n*2^(x.e-low).toNat)∧Below W.heap.size W w':=fun W hb=>by
        rw [e1]
        refine (rshl_any x.ao x.n x.cap _ x.d W (hx.keeps hb) nx.1 (by omega) (by omega)).mono ?_
        rintro r w' ⟨v,rfl,hA⟩
        obtain ⟨so,sn,sc,rfl⟩:=hA.num.shape
        exact ⟨so,sn,sc,rfl,by rw [<- e1]; exact hA.num,hA.below⟩
      have H2:∀ W,Below w.heap.size w W->Calls Tryz.prog 148 #[.slice y.ao y.n y.cap,.int .i64 (y.e-low)] W fun r w'=>∃ so sn sc,r=.returned (.slice so sn sc)∧Num w' (.slice so sn sc) (val y.d y.n*2^(y.e-low).toNat)∧Below W.heap.size W w':=fun W hb=>by
        rw [e2]
        refine (rshl_any y.ao y.n y.cap _ y.d W (hy.keeps hb) ny.1 (by omega) (by omega)).mono ?_
        rintro r w' ⟨v,rfl,hA⟩
        obtain ⟨so,sn,sc,rfl⟩:=hA.num.shape
        exact ⟨so,sn,sc,rfl,by rw [<- e2]; exact hA.num,hA.below⟩
      generalize val x.d x.n*2^(x.e-low).toNat=A at *
      generalize val y.d y.n*2^(y.e-low).toNat=B at *
      have dg:=fun W so sn sc M (h:Num W (.slice so sn sc) M) hM=>h.digits hK hM
      have key:∀ W p M,Num W p M->M<2^(2*K)+2^(2*K)->∃ so sn sc d,p=.slice so sn sc∧Row W so sn sc d∧Nrm d sn∧val d sn=M∧sn<=37500:=fun W p M h hM=>by
        obtain ⟨so,sn,sc,rfl⟩:=h.shape
        obtain ⟨d,h1,h2,h3,h4⟩:=h.digits hK hM
        exact ⟨so,sn,sc,d,rfl,h1,h2,h3,h4⟩
      refine (radd3_walk x y w hx hy (by omega) (by omega) low A B (x.V+y.V) hlow (by omega) (by omega) (by omega) H1 H2 ?_ ?_ ?_ ?_ ?_).mono ?_
      . intro W p q hp hq
        obtain ⟨po,pn,pc,d,rfl,r1,r2,r3,r4⟩:=key W p A hp (by omega)
        obtain ⟨qo,qn,qc,d',rfl,u1,u2,u3,u4⟩:=key W q B hq (by omega)
        refine (radd_any _ _ _ _ _ _ d d' W r1 u1 r2 u2 (by omega) (by omega)).mono ?_
        rw [r3,u3]
        rintro r w' ⟨v,rfl,hA⟩
        obtain ⟨so,sn,sc,rfl⟩:=hA.num.shape
        exact ⟨so,sn,sc,rfl,hA.num,hA.below⟩
      . intro W p q hp hq
        obtain ⟨po,pn,pc,d,rfl,r1,r2,r3,r4⟩:=key W p A hp (by omega)
        obtain ⟨qo,qn,qc,d',rfl,u1,u2,u3,u4⟩:=key W q B hq (by omega)
        have:=rcmp_any po qo pn qn pc qc d d' W r1 u1 r2 u2
        rwa [r3,u3] at this
      . intro W p q hp hq hle
        obtain ⟨po,pn,pc,d,rfl,r1,r2,r3,r4⟩:=key W p A hp (by omega)
        obtain ⟨qo,qn,qc,d',rfl,u1,u2,u3,u4⟩:=key W q B hq (by omega)
        refine (rsub_any _ _ _ _ _ _ d d' W r1 u1 r2 u2 (by omega) (by rw [r3,u3]; exact hle)).mono ?_
        rw [r3,u3]
        rintro r w' ⟨v,rfl,hA⟩
        obtain ⟨so,sn,sc,rfl⟩:=hA.num.shape
        exact ⟨so,sn,sc,rfl,hA.num,hA.below⟩
      . intro W p q hp hq hle
        obtain ⟨po,pn,pc,d,rfl,r1,r2,r3,r4⟩:=key W p A hp (by omega)
        obtain ⟨qo,qn,qc,d',rfl,u1,u2,u3,u4⟩:=key W q B hq (by omega)
        refine (rsub_any _ _ _ _ _ _ d' d W u1 r1 u2 r2 (by omega) (by rw [r3,u3]; exact hle)).mono ?_
        rw [r3,u3]
        rintro r w' ⟨v,rfl,hA⟩
        obtain ⟨so,sn,sc,rfl⟩:=hA.num.shape
        exact ⟨so,sn,sc,rfl,hA.num,hA.below⟩
      . intro W ng s M hs hc
        have hM:M<2^(2*K)+2^(2*K):=by rcases hc with ⟨_,_,h⟩ | ⟨_,_,_,h⟩ | ⟨_,_,_,h⟩ <;> omega
        obtain ⟨po,pn,pc,d,rfl,r1,r2,r3,r4⟩:=key W s M hs hM
        have hV:=rsum_V (low:=low) hc
        rw [<- v1,<- v2] at hV
        refine (rnorm_any ng po pn pc d low W r1 r2.1 (by omega) (by omega) (by omega)).mono ?_
        rw [r3,hV]
        rintro r w' ⟨v,rfl,hD⟩
        obtain ⟨ng',s,m',e1,rfl,_,hA⟩:=id hD
        obtain ⟨q1,q2,q3,rfl⟩:=hA.num.shape
        exact ⟨ng',q1,q2,q3,e1,rfl,hD,hD.below⟩
      . rintro r w' ⟨v,rfl,hD⟩
        exact ⟨v,rfl,hD.below,.inl hD⟩
def DAn (B:Nat) (w:World) (V:Int) (v:Value):Prop:=∃ ng s m e,v=.agg #[.bool ng,s,.int .i64 e]∧Dy V ng m e∧An B w s m
theorem DAns.dan {w w':World} {V:Int} {v:Value} (h:DAns w w' V v):DAn w.heap.size w' V v:=by
  obtain ⟨ng,s,m,e,h1,h2,h3⟩:=h
  exact ⟨ng,s,m,e,h1,h2,h3.an⟩
theorem DAn.keeps {B:Nat} {w w':World} {v:Value} {V:Int} (h:DAn B w V v) (k:Below w.heap.size w w'):DAn B w' V v:=by
  obtain ⟨ng,s,m,e,h1,h2,h3⟩:=h
  exact ⟨ng,s,m,e,h1,h2,h3.keeps k⟩
theorem DAn.lower {B B':Nat} {w:World} {v:Value} {V:Int} (h:DAn B w V v) (hB:B'<=B):DAn B' w V v:=by
  obtain ⟨ng,s,m,e,h1,h2,h3⟩:=h
  exact ⟨ng,s,m,e,h1,h2,h3.lower hB⟩
theorem DAn.num {B:Nat} {w:World} {v:Value} {V:Int} (h:DAn B w V v):DNum w v V:=by
  obtain ⟨ng,s,m,e,h1,h2,h3⟩:=h
  exact ⟨ng,s,m,e,h1,h2,h3.num⟩
theorem DAn.parts {B:Nat} {w:World} {ng:Bool} {so:Option Addr} {sn sc:Nat} {e V:Int} (h:DAn B w V (.agg #[.bool ng,.slice so sn sc,.int .i64 e])):∃ m,Dy V ng m e∧An B w (.slice so sn sc) m:=by
  obtain ⟨ng',s,m,e',h1,h2,h3⟩:=h
  simp only [Value.agg.injEq,Array.mk.injEq,List.cons.injEq,Value.bool.injEq,Value.int.injEq,and_true,true_and] at h1
  obtain ⟨rfl,rfl,rfl⟩:=h1
  exact ⟨m,h2,h3⟩
theorem opp_V {x:NumR} (ok:okR x=true):x.opp.V=-x.V∧Dy x.opp.V x.opp.ng (val x.opp.d x.opp.n) x.opp.e:=by
  have hy:=(okR_dy ok).1
  have hN:=(okR_sane ok).1
  by_cases h0:x.n=0
  . have hv:val x.d x.n=0:=by rw [h0]; rfl
    have e:x.opp=x:=by unfold NumR.opp; rw [if_pos h0]
    rw [e]
    have:=hy.eq_zero.2 hv
    exact ⟨by omega,hy⟩
  . have hp:=val_pos hN (show 0<x.n by omega)
    have e:x.opp=⟨!x.ng,x.ao,x.n,x.cap,x.d,x.e⟩:=by unfold NumR.opp; rw [if_neg h0]
    rw [e]
    have h1:=hy.neg hp
    have hV:NumR.V ⟨!x.ng,x.ao,x.n,x.cap,x.d,x.e⟩=-x.V:=h1.val.symm
    rw [hV]
    exact ⟨rfl,h1⟩
theorem RSum.shape {w w':World} {A B:Int} {x y:NumR} {v:Value} (h:RSum w w' A B x.v y.v v):∃ ng so sn sc e,v=.agg #[.bool ng,.slice so sn sc,.int .i64 e]:=by
  rcases h.2 with ⟨ng,s,m,e,rfl,_,hA⟩ | ⟨_,rfl⟩ | ⟨_,rfl⟩
  . obtain ⟨so,sn,sc,rfl⟩:=hA.num.shape
    exact ⟨_,_,_,_,_,rfl⟩
  . exact ⟨_,_,_,_,_,rfl⟩
  . exact ⟨_,_,_,_,_,rfl⟩
theorem rsum_res {w W w3:World} {A B:Int} {x y v:Value} (hv:RSum W w3 A B x y v) (hb:Below w.heap.size w W) {g:Nat} (h0:w.heap.size<=g) (h1:g<W.heap.size) (a b c:Value) :
    RSum w (((w3.setCell ⟨g,0,none⟩ a).setCell ⟨g,1,none⟩ b).setCell ⟨g,2,none⟩ c) A B x y v:=by
  refine ⟨bel_set3 (bel_trans hb hv.1) h0 _ _ _,?_⟩
  rcases hv.2 with h | h | h
  . exact .inl (dans_res3 h hb h0 h1 a b c)
  . exact .inr (.inl h)
  . exact .inr (.inr h)
set_option maxRecDepth 100000 in
set_option maxHeartbeats 2000000 in
theorem rsub3_any (x y:NumR) (w:World) (hx:Row w x.ao x.n x.cap x.d) (hy:Row w y.ao y.n y.cap y.d) (ox:okR x=true) (oy:okR y=true) {K:Nat} (hK:K<=560000) (bx:Bd K x.V) (bY:Bd K y.V) :
    Calls Tryz.prog 77 #[x.v,y.v] w fun r w'=>∃ v,r=.returned v∧RSum w w' x.V (-y.V) x.v y.opp.v v:=by
  obtain ⟨e1,e2⟩:=opp_V oy
  have hop:=fun W=>rneg3_any y W (by have:=hy.le; have:=hy.max; omega)
  have C2:∀ W,Below w.heap.size w W->Calls Tryz.prog 108 #[x.v,y.opp.v] W fun r w'=>∃ ng so sn sc e,r=.returned (.agg #[.bool ng,.slice so sn sc,.int .i64 e])∧RSum W w' x.V (-y.V) x.v y.opp.v (.agg #[.bool ng,.slice so sn sc,.int .i64 e])∧Below W.heap.size W w':=fun W hb=>by
    refine (radd3_any x y.opp W (hx.keeps hb) (hy.keeps hb) (okR_dy ox).1 (okR_sane ox).1 e2 (okR_sane oy).1 hK bx (by rw [e1]; exact bY.neg)).mono ?_
    rintro r w' ⟨v,rfl,h⟩
    rw [e1] at h
    obtain ⟨ng,so,sn,sc,e,rfl⟩:=h.shape
    exact ⟨_,_,_,_,_,rfl,h,h.1⟩
  have hmy:=hy.max
  have hly:=hy.le
  obtain ⟨VV,hVV⟩:∃ V,V=x.V:=⟨_,rfl⟩
  obtain ⟨UU,hUU⟩:∃ V,V=-y.V:=⟨_,rfl⟩
  rw [<- hVV,<- hUU] at C2 ⊢
  clear e1 e2 bx bY hVV hUU ox oy
  unfold NumR.opp at *
  obtain ⟨on,hon⟩:∃ V,V=(if y.n=0 then y.ng else !y.ng):=⟨_,rfl⟩
  rw [<- hon] at hop C2 ⊢
  clear hon
  obtain ⟨an,ao,n,ca,a,e⟩:=x
  obtain ⟨bn,bo,m,cb,b,f⟩:=y
  unfold NumR.v at *
  simp only at *
  have hb3:Below w.heap.size w (((w.alloc (.cells #[.bool an,.slice ao n ca,.int .i64 e] 34)).alloc (.cells #[.bool bn,.slice bo m cb,.int .i64 f] 34)).alloc (.cells #[.bool false,.slice none 0 0,.int .i64 0] 34)):=bel_a3 _ _ _ _
  have g0:=h3_0 w (.cells #[.bool an,.slice ao n ca,.int .i64 e] 34) (.cells #[.bool bn,.slice bo m cb,.int .i64 f] 34) (.cells #[.bool false,.slice none 0 0,.int .i64 0] 34)
  have g1:=h3_1 w (.cells #[.bool an,.slice ao n ca,.int .i64 e] 34) (.cells #[.bool bn,.slice bo m cb,.int .i64 f] 34) (.cells #[.bool false,.slice none 0 0,.int .i64 0] 34)
  have g2:=h3_2 w (.cells #[.bool an,.slice ao n ca,.int .i64 e] 34) (.cells #[.bool bn,.slice bo m cb,.int .i64 f] 34) (.cells #[.bool false,.slice none 0 0,.int .i64 0] 34)
  go_enter Tryz.func77,Tryz.ntmps77
  go_wp2_with fail
  generalize ((w.alloc (.cells #[.bool an,.slice ao n ca,.int .i64 e] 34)).alloc (.cells #[.bool bn,.slice bo m cb,.int .i64 f] 34)).alloc (.cells #[.bool false,.slice none 0 0,.int .i64 0] 34)=wx at hb3 g0 g1 g2 ⊢
  have k0:=blkC g0 0 rfl
  have k1:=blkC g0 1 rfl
  have k2:=blkC g0 2 rfl
  have j0:=blkC g1 0 rfl
  have j1:=blkC g1 1 rfl
  have j2:=blkC g1 2 rfl
  have hb1:=bel_refl wx
  have hs3:=(Array.getElem?_eq_some_iff.1 g2).1
  go_region_held3 (fun W=>(W.cell? ⟨w.heap.size,0,none⟩=some (.bool an)∧W.cell? ⟨w.heap.size,1,none⟩=some (.slice ao n ca)∧W.cell? ⟨w.heap.size,2,none⟩=some (.int .i64 e))∧W.cell? ⟨w.heap.size+1,0,none⟩=some (.bool bn)∧W.cell? ⟨w.heap.size+1,1,none⟩=some (.slice bo m cb)∧W.cell? ⟨w.heap.size+1,2,none⟩=some (.int .i64 f))
    (first | assumption | exact ⟨⟨k0,k1,k2⟩,j0,j1,j2⟩ | exact keep66 (W:=wx.drew) hbv1 ⟨⟨k0,k1,k2⟩,j0,j1,j2⟩ | exact keep66 hbv2 (keep66 (W:=wx.drew) hbv1 ⟨⟨k0,k1,k2⟩,j0,j1,j2⟩) | exact ⟨keepS (keep66 hbv2 (keep66 (W:=wx.drew) hbv1 ⟨⟨k0,k1,k2⟩,j0,j1,j2⟩)).1 (by omega) _ _ _,keepS (keep66 hbv2 (keep66 (W:=wx.drew) hbv1 ⟨⟨k0,k1,k2⟩,j0,j1,j2⟩)).2 (by omega) _ _ _⟩)
    (first | (go_at_call 108; refine (C2 _ (bel_trans hb3 (bel_trans hb1.drew hbv1))).mono ?_; rintro y w4 ⟨ng4,o4,n4,c4,e4,rfl,hv2,hbv2⟩; have q0:=((bel_trans hbv1 hbv2).block (w.heap.size+2) (by show _<wx.heap.size; omega)).trans g2; have x0:=blkC q0 0 rfl; have x1:=blkC q0 1 rfl; have x2:=blkC q0 2 rfl; have z0:=blkF q0 0; have z1:=blkF q0 1; have z2:=blkF q0 2) | (go_at_call 109; refine (hop _).mono ?_; rintro y w3 ⟨rfl,hbv1⟩))
  all_goals go_wp2
  all_goals
    refine bodyPost_ret (v:=.agg #[.bool ng4,.slice o4 n4 c4,.int .i64 e4]) (by simp [results,Tryz.results77,go_sem,x0,x1,x2]) rfl ⟨_,rfl,?_⟩
    exact rsum_res (g:=w.heap.size+2) hv2 (bel_trans hb3 (bel_trans hb1.drew hbv1)) (by omega) (Nat.lt_of_lt_of_le (show _<wx.heap.size by omega) hbv1.size) _ _ _
theorem sgn_ord {w:World} {ng:Bool} {so:Option Addr} {sn sc:Nat} {e V:Int} (h:DNum w (.agg #[.bool ng,.slice so sn sc,.int .i64 e]) V):sgn ng sn=ord V 0∧sn<=9223372036854775807:=by
  obtain ⟨ng',s,m,e',h1,hy,ao,n,cap,d,rfl,hR,hN,rfl⟩:=h
  simp only [Value.agg.injEq,Array.mk.injEq,List.cons.injEq,Value.bool.injEq,Value.int.injEq,Value.slice.injEq,and_true,true_and] at h1
  obtain ⟨rfl,⟨rfl,rfl,rfl⟩,rfl⟩:=h1
  refine ⟨?_,by have:=hR.le; have:=hR.max; omega⟩
  by_cases h0:sn=0
  . have:=hy.eq_zero.2 (by rw [h0]; rfl)
    rw [this,ord_eq rfl]
    simp [sgn,h0]
  . have hp:=val_pos hN (show 0<sn by omega)
    cases ng
    . have hn:¬ V<0:=fun h=>by have:=hy.neg_iff.2 h; simp at this
      have hz:V≠0:=fun h=>by have:=hy.eq_zero.1 h; omega
      rw [ord_gt (by omega)]
      simp [sgn,h0]
    . have hn:=hy.neg_iff.1 rfl
      rw [ord_lt hn]
      simp [sgn,h0]
def Three (v:Value):Prop:=∃ ng so sn sc e,v=.agg #[.bool ng,.slice so sn sc,.int .i64 e]
theorem DAn.three {B:Nat} {w:World} {V:Int} {v:Value} (h:DAn B w V v):Three v:=by
  obtain ⟨ng,s,m,e,rfl,_,hA⟩:=h
  obtain ⟨so,sn,sc,rfl⟩:=hA.shape
  exact ⟨_,_,_,_,_,rfl⟩
theorem DAn.of_blocks {B:Nat} {w w':World} {V:Int} {v:Value} (h:DAn B w V v) (hb:∀ (g:Nat) (cur:Array Value) z,w.heap[g]?=some (.cells cur 3 z)->w'.heap[g]?=w.heap[g]?):DAn B w' V v:=by
  obtain ⟨ng,s,m,e,h1,h2,t,d,hO,h3⟩:=h
  exact ⟨ng,s,m,e,h1,h2,t,d,hO.of_block fun g hg=>by obtain ⟨cur,z,hc⟩:=hO.typed hg; exact hb g cur z hc,h3⟩
theorem ints_set3 {w:World} {g o0 o1 o2:Nat} {xs:Array Value} {z:Nat × Nat} (hg:w.heap[g]?=some (.cells xs 34 z)) (x y u:Value):∀ (g':Nat) (cur:Array Value) z',w.heap[g']?=some (.cells cur 3 z')->(((w.setCell ⟨g,o0,none⟩ x).setCell ⟨g,o1,none⟩ y).setCell ⟨g,o2,none⟩ u).heap[g']?=w.heap[g']?:=fun g' cur z' hc=>by
  refine (wr3 w g o0 o1 o2 x y u).block g' (Array.getElem?_eq_some_iff.1 hc).1 fun e=>?_
  subst e
  rw [hg] at hc
  simp at hc
end Go.Proofs.YtmmnoneehiibiaaGreatDoor
