/- Parts of the proof. -/
import Derived.Test.YtfgapefckpnjjaaGreatDoorPart12
import Derived.Test.YtfgapefckpnjjaaGreatDoorPart6
import Derived.Test.YtfgapefckpnjjaaGreatDoorPart10
import Derived.Test.YtfgapefckpnjjaaGreatDoorPart8
import Derived.Test.YtfgapefckpnjjaaGreatDoorPart11
import Derived.Test.YtfgapefckpnjjaaGreatDoorPart9
set_option linter.unusedVariables false
set_option linter.unusedSimpArgs false
namespace Go.Proofs.YtfgapefckpnjjaaGreatDoor
open Go Go.RowKit Go.Proofs.YtfgapefckpnjjaaGreatDoor.M
set_option maxRecDepth 100000 in
set_option maxHeartbeats 2000000 in
theorem values_no (F G:Nat) (oo:Option Addr) (n cap:Nat) (d V:Nat->Int) (w:World) (hR:Row w oo n cap d) (hn:n <= 100000) (K:Nat) (hK:K < n)
    (hEF:∀ (cap:Array Value) (w:World),(callFunc F cap).run Tryz.prog w=.ok (.enter F cap) w)
    (C:∀ i,i < K->∀ W,Below w.heap.size w W->Calls Tryz.prog F #[.int .i64 (d i)] W fun r w'=>∃ v,r=.returned (.tuple #[v,.int .i64 0])∧DAns W w' (V i) v)
    (CN:∀ W,Below w.heap.size w W->Calls Tryz.prog F #[.int .i64 (d K)] W fun r w'=>r=.returned (.tuple #[.agg #[.bool false,.slice none 0 0,.int .i64 0],.int .i64 10])∧Below W.heap.size W w') :
    Calls Tryz.prog 142 #[.agg #[.func (.func F) #[] #[],.func (.func G) #[] #[]],.slice oo n cap] w fun x w'=>x=.returned (.tuple #[.slice none 0 0,.bool false])∧Below w.heap.size w w':=by
  have hle:=hR.le
  have hma:=hR.max
  have hmake:=make_nums n hn
  have hst:∀ (p:Addr) (F:Nat) (m:Mode) (w:World),(store p (.func (.func F) #[] #[]) m).run Tryz.prog w=stored Tryz.prog w p (.func (.func F) #[] #[]) m:=fun p F m w=>run_store _ w p _ m rfl
  have ha1:=bel_alloc w (.cells #[.func (.func F) #[] #[],.func (.func G) #[] #[]] 157)
  have q1:=heap_alloc_new w (.cells #[.func (.func F) #[] #[],.func (.func G) #[] #[]] 157)
  have k0:=blkC q1 0 rfl
  have k1:=blkC q1 1 rfl
  go_enter Tryz.func142,Tryz.ntmps142
  go_wp2_with fail
  have hb0:=bel_alloc2 w (.cells #[.func (.func F) #[] #[],.func (.func G) #[] #[]] 157) (.cells (madeCells #[.bool false,.slice none 0 0,.int .i64 0] (n * 3)) 26)
  have g1:=heap_b2 w (.cells #[.func (.func F) #[] #[],.func (.func G) #[] #[]] 157) (.cells (madeCells #[.bool false,.slice none 0 0,.int .i64 0] (n * 3)) 26)
  have g0:=heap_a2 w (.cells #[.func (.func F) #[] #[],.func (.func G) #[] #[]] 157) (.cells (madeCells #[.bool false,.slice none 0 0,.int .i64 0] (n * 3)) 26)
  have HB0:Hid (BlkN ((w.alloc (.cells #[.func (.func F) #[] #[],.func (.func G) #[] #[]] 157)).alloc (.cells (madeCells #[.bool false,.slice none 0 0,.int .i64 0] (n * 3)) 26)) (w.heap.size + 1) n 0 (fun _=>⟨false,none,0,0,fun _=>0,0⟩)):=⟨_,g1,by rw [size_madeCells],fun i hi=>by omega⟩
  clear g1 hmake q1 k0 k1 ha1
  generalize (w.alloc (.cells #[.func (.func F) #[] #[],.func (.func G) #[] #[]] 157)).alloc (.cells (madeCells #[.bool false,.slice none 0 0,.int .i64 0] (n * 3)) 26)=wx at hb0 HB0 g0 ⊢
  go_loopw [16] (fun iv wr=>∃ (k:Nat) (q:Nat->NumR),k <= K∧iv=.int .i64 k∧Hid (BlkN wr (w.heap.size + 1) n k q)∧Hid (∀ i,i < k->Nrm (q i).d (q i).n∧Dy (V i) (q i).ng (val (q i).d (q i).n) (q i).e)∧Hid (∀ i b' off,i < k->(q i).ao=some ⟨b',off,none⟩->0 < (q i).n->w.heap.size + 1 < b')∧Hid (wr.heap[w.heap.size]?=some (.cells #[.func (.func F) #[] #[],.func (.func G) #[] #[]] 157 (0,0)))∧Below w.heap.size w wr) (fun iv _=>n - (intOf iv).toNat)
  case atStart=>exact ⟨0,_,Nat.zero_le _,rfl,HB0,fun i hi=>by omega,fun i b' off hi=>by omega,g0,hb0⟩
  case round=>
    obtain ⟨k,q,hk,rfl,HQ,HF,HG,HK,hbw⟩:=hrel
    clear HB0 hb0 g0
    have hlt:k < n:=by omega
    by_cases hltK:k < K
    . obtain ⟨ba,oa,rfl,hba,hca⟩:=hR.spot (by omega)
      have c0:=(hbw.cell (p:=⟨ba,oa + k,none⟩) hba).trans (hca k hlt)
      have CF:=C k hltK
      have kf:=blkC HK.out 0 rfl
      obtain ⟨cur,hcur,hsz,hcells⟩:=HQ.out
      have e0:k * 3 < cur.size:=by omega
      have e1:k * 3 + 1 < cur.size:=by omega
      have e2:k * 3 + 2 < cur.size:=by omega
      obtain ⟨v0,hv0⟩:∃ v,cur[k * 3]?=some v:=⟨_,Array.getElem?_eq_getElem e0⟩
      obtain ⟨v1,hv1⟩:∃ v,cur[k * 3 + 1]?=some v:=⟨_,Array.getElem?_eq_getElem e1⟩
      obtain ⟨v2,hv2⟩:∃ v,cur[k * 3 + 2]?=some v:=⟨_,Array.getElem?_eq_getElem e2⟩
      have HV:Hid (cur[k * 3]?=some v0∧cur[k * 3 + 1]?=some v1∧cur[k * 3 + 2]?=some v2):=⟨hv0,hv1,hv2⟩
      have HCUR:Hid (wr.heap[w.heap.size + 1]?=some (.cells cur 26 (0,0))):=hcur
      have hgs:w.heap.size + 1 < wr.heap.size:=(Array.getElem?_eq_some_iff.1 hcur).1
      clear hcells hv0 hv1 hv2 hcur hsz e0 e1 e2 hca C
      have i0:(0:Int) <= (k:Int):=by omega
      have i1:(k:Int) < (n:Int):=by omega
      generalize d k=x at *
      go_wp2_with fail
      refine (CF _ hbw).mono ?_
      rintro _ w3 ⟨v,rfl,hD⟩
      have hb3:=hD.below
      have HD:Hid (DAns wr w3 (V k) v):=hD
      obtain ⟨g,s0,m0,e,rfl,_,hA0⟩:=id hD
      obtain ⟨so,sn,sc,rfl⟩:=hA0.num.shape
      clear hD CF hA0
      have hb4:=bel_trans hb3 (bel_alloc w3 (.cells #[.bool g,.slice so sn sc,.int .i64 e] 26))
      have q0:=(hb4.block (w.heap.size + 1) hgs).trans HCUR.out
      have HK4:Hid ((w3.alloc (.cells #[.bool g,.slice so sn sc,.int .i64 e] 26)).heap[w.heap.size]?=some (.cells #[.func (.func F) #[] #[],.func (.func G) #[] #[]] 157 (0,0))):=(hb4.block _ (Array.getElem?_eq_some_iff.1 HK.out).1).trans HK.out
      have qx:=heap_a1 w3 (.cells #[.bool g,.slice so sn sc,.int .i64 e] 26)
      have t0:=blkC qx 0 rfl
      have t1:=blkC qx 1 rfl
      have t2:=blkC qx 2 rfl
      have x0:=blkC q0 (k * 3) HV.out.1
      have x1:=blkC q0 (k * 3 + 1) HV.out.2.1
      have x2:=blkC q0 (k * 3 + 2) HV.out.2.2
      have f0:=blkF q0 (k * 3)
      have f1:=blkF q0 (k * 3 + 1)
      have f2:=blkF q0 (k * 3 + 2)
      have hn1:w.heap.size + 1 ≠ w.heap.size:=by omega
      clear q0 qx kf
      go_wp2
      all_goals
        go_roundw
        case rel=>
          obtain ⟨ng,s,m,e',h1,hyy,hA⟩:=HD.out
          simp only [Value.agg.injEq,Array.mk.injEq,List.cons.injEq,Value.bool.injEq,Value.int.injEq,true_and,and_true] at h1
          obtain ⟨rfl,rfl,rfl⟩:=h1
          obtain ⟨dd,hRd,hNd,hVd,hgd⟩:=hA.open
          have hgs2:∀ b' off,so=some ⟨b',off,none⟩->0 < sn->w.heap.size + 1 < b':=fun b' off he _=>by
            have h9:=hgd b' off he
            omega
          refine ⟨k + 1,updN q k ⟨g,so,sn,sc,dd,e⟩,by omega,by go_num,BlkN.step (x:=⟨g,so,sn,sc,dd,e⟩) HQ.out hb4 (hRd.keeps (bel_alloc _ _)) hlt HG.out hgs2,fun i hi=>?_,fun i b' off hi he hn'=>?_,?_,bel_set3' (bel_trans hbw hb4) (by omega) _ _ _⟩
          . by_cases ei:i=k
            . subst ei
              rw [updN_same]
              exact ⟨hNd,by rw [hVd]; exact hyy⟩
            . rw [updN_other _ _ ei]
              exact HF.out i (by omega)
          . by_cases ei:i=k
            . subst ei
              rw [updN_same] at he hn'
              exact hgs2 b' off he hn'
            . rw [updN_other _ _ ei] at he hn'
              exact HG.out i b' off (by omega) he hn'
          . show _=_
            rw [heap_setCell_other _ ⟨w.heap.size + 1,_,none⟩ w.heap.size _ (Ne.symm hn1),heap_setCell_other _ ⟨w.heap.size + 1,_,none⟩ w.heap.size _ (Ne.symm hn1),heap_setCell_other _ ⟨w.heap.size + 1,_,none⟩ w.heap.size _ (Ne.symm hn1)]
            exact HK4.out
        case measure=>simp [intOf]; omega
    . obtain rfl:k=K:=by omega
      obtain ⟨ba,oa,rfl,hba,hca⟩:=hR.spot (by omega)
      have c0:=(hbw.cell (p:=⟨ba,oa + k,none⟩) hba).trans (hca k hlt)
      have kf:=blkC HK.out 0 rfl
      clear hca C
      have i0:(0:Int) <= (k:Int):=by omega
      have i1:(k:Int) < (n:Int):=by omega
      generalize d k=x at *
      go_wp2_with fail
      refine (CN _ hbw).mono ?_
      rintro _ w3 ⟨rfl,hb3⟩
      go_wp2
      all_goals refine bodyPost_ret (v:=.tuple #[.slice none 0 0,.bool false]) (by simp [results,Tryz.results142,go_sem]) rfl ⟨rfl,bel_trans hbw (bel_trans hb3 (bel_alloc _ _))⟩
def vlV (ng:Bool) (m e:Int) (sd:Bool):Value:=valV ng (m / 2 ^ vK m).toNat (e + vK m) (decide (m % 2 ^ vK m ≠ 0)) sd
theorem valueOf_D {w:World} {v:Value} {V:Int} {ng:Bool} {m e:Int} (hx:DNum w v V) (ok:Dok V) (hy:Dy V ng m e) (hT:Tab w) :
    Calls Tryz.prog 94 #[v] w fun r w'=>r=.returned (vlV ng m e false)∧Below w.heap.size w w':=by
  obtain ⟨x,rfl,hR,hok,rfl⟩:=hx.open ok
  obtain ⟨na,hn,he0,he1⟩:=okR_sane hok
  obtain ⟨rfl,rfl,rfl⟩:=(okR_dy hok).1.unique hy
  exact valueOf_any _ _ _ _ _ _ _ hR na hn ⟨he0,he1⟩ hT
def opT (er:Int) (mag:Nat) (sd:Bool) (b near:Int):Int:=if er ≠ 0∨(mag=0∧sd=false) then near else b
set_option maxRecDepth 100000 in
set_option maxHeartbeats 1000000 in
theorem operate_go (way:Int) (hw:1 <= way∧way <= 3) (near:Int) (F G Rf:Nat) (rc:Array Value) (oo:Option Addr) (n cap:Nat) (w:World) (V:Nat->Int) (ng:Bool) (mag:Nat) (exp:Int) (cut sd:Bool) (er b:Int) (o:Bool)
    (hEG:∀ (cap:Array Value) (w:World),(callFunc G cap).run Tryz.prog w=.ok (.enter G cap) w)
    (hER:∀ (cap:Array Value) (w:World),(callFunc Rf cap).run Tryz.prog w=.ok (.enter Rf cap) w)
    (CV:∀ W,Below w.heap.size w W->Calls Tryz.prog 142 #[.agg #[.func (.func F) #[] #[],.func (.func G) #[] #[]],.slice oo n cap] W fun x w'=>∃ g q,x=.returned (.tuple #[.slice (some ⟨g,0,none⟩) n n,.bool true])∧W.heap.size <= g∧Nums w' (some ⟨g,0,none⟩) n n q∧Below W.heap.size W w'∧∀ i,i < n->Nrm (q i).d (q i).n∧Dy (V i) (q i).ng (val (q i).d (q i).n) (q i).e)
    (CR:∀ W g q,Below w.heap.size w W->Nums W (some ⟨g,0,none⟩) n n q->(∀ i,i < n->Nrm (q i).d (q i).n∧Dy (V i) (q i).ng (val (q i).d (q i).n) (q i).e)->Calls Tryz.prog Rf (#[.slice (some ⟨g,0,none⟩) n n] ++ rc) W fun e w'=>e=.returned (.tuple #[valV ng mag exp cut sd,.int .i64 er])∧Below W.heap.size W w')
    (CT:∀ W,Below w.heap.size w W->Calls Tryz.prog G #[valV ng mag exp cut true,wayV way] W fun e w'=>e=.returned (.tuple #[.int .i64 b,.bool o])∧Below W.heap.size W w') :
    Calls Tryz.prog 126 #[.agg #[.func (.func F) #[] #[],.func (.func G) #[] #[]],.int .i64 near,.int .i64 way,.func (.func Rf) #[] rc,.slice oo n cap] w fun e w'=>e=.returned (.tuple #[.int .i64 (opT er mag sd b near),.int .i64 0])∧Below w.heap.size w w':=by
  have hst:∀ (p:Addr) (F:Nat) (m:Mode) (w:World),(store p (.func (.func F) #[] #[]) m).run Tryz.prog w=stored Tryz.prog w p (.func (.func F) #[] #[]) m:=fun p F m w=>run_store _ w p _ m rfl
  have hw0:0 <= way∧way <= 3:=by omega
  have hne:way ≠ 0:=by omega
  unfold valV wayV at *
  have CW:=fun W=>wayOf_any way W
  rw [if_pos hw0,decide_eq_true hw0] at CW
  unfold wayV at CW
  generalize wayF way=K at *
  have HV:Hid _:=CV
  have HR:Hid _:=CR
  have HT:Hid _:=CT
  clear CV CR CT
  have hb1:=bel_alloc w (.cells #[.func (.func F) #[] #[],.func (.func G) #[] #[]] 157)
  have q1:=heap_alloc_new w (.cells #[.func (.func F) #[] #[],.func (.func G) #[] #[]] 157)
  go_enter Tryz.func126,Tryz.ntmps126
  go_wp2_with fail
  generalize w.alloc (.cells #[.func (.func F) #[] #[],.func (.func G) #[] #[]] 157)=x0 at hb1 q1 ⊢
  refine (CW _).mono ?_
  rintro _ w2 ⟨rfl,hb2⟩
  have q2:=heap_alloc_new w2 (.cells #[.nilFunc] 124)
  have y0:=blkC q2 0 rfl
  have y1:=blkF q2 0
  have p1:=(hb2.block _ (Array.getElem?_eq_some_iff.1 q1).1).trans q1
  have hb3:=bel_alloc w2 (.cells #[.func (.func K) #[] #[]] 124)
  have p2:=(hb3.block _ (Array.getElem?_eq_some_iff.1 p1).1).trans p1
  have q3:=heap_alloc_new w2 (.cells #[.func (.func K) #[] #[]] 124)
  have c0:=blkC p2 0 rfl
  have c1:=blkC p2 1 rfl
  have hbx:=bel_trans (bel_trans hb1 hb2) hb3
  clear CW q1 p1
  go_wp2_with fail
  generalize w2.alloc (.cells #[.func (.func K) #[] #[]] 124)=x3 at hb3 p2 q3 c0 c1 hbx ⊢
  refine (HV.out _ hbx).mono ?_
  rintro _ w4 ⟨g,q,rfl,hg,hN,hb4,hf⟩
  have hb5:=bel_trans hbx hb4
  have p2:=(hb4.block _ (Array.getElem?_eq_some_iff.1 p2).1).trans p2
  have q3:=(hb4.block _ (Array.getElem?_eq_some_iff.1 q3).1).trans q3
  clear c0 c1 y0 y1 q2
  go_wp2_with fail
  refine (HR.out _ g q hb5 hN hf).mono ?_
  rintro _ w6 ⟨rfl,hb6⟩
  have hb7:=bel_trans hb5 hb6
  have p2:=(hb6.block _ (Array.getElem?_eq_some_iff.1 p2).1).trans p2
  have q3:=(hb6.block _ (Array.getElem?_eq_some_iff.1 q3).1).trans q3
  clear HV HR hN hf
  have hb8:=bel_alloc w6 (.cells #[.bool ng,.int .u64 mag,.int .i64 exp,.bool cut,.bool sd] 104)
  have q8:=heap_alloc_new w6 (.cells #[.bool ng,.int .u64 mag,.int .i64 exp,.bool cut,.bool sd] 104)
  have x1':=blkC q8 1 rfl
  have x4':=blkC q8 4 rfl
  have z4':=blkF q8 4
  have hb9:=bel_trans hb7 hb8
  have hbX:=bel_alloc w6 (.cells #[.bool ng,.int .u64 mag,.int .i64 exp,.bool cut,.bool true] 104)
  have qX:=heap_alloc_new w6 (.cells #[.bool ng,.int .u64 mag,.int .i64 exp,.bool cut,.bool true] 104)
  have pX:=(hbX.block _ (Array.getElem?_eq_some_iff.1 p2).1).trans p2
  have rX:=(hbX.block _ (Array.getElem?_eq_some_iff.1 q3).1).trans q3
  have u1:=blkC pX 1 rfl
  have u2:=blkC rX 0 rfl
  have v0:=blkC qX 0 rfl
  have v1:=blkC qX 1 rfl
  have v2:=blkC qX 2 rfl
  have v3:=blkC qX 3 rfl
  have v4:=blkC qX 4 rfl
  have hbY:=bel_trans hb7 hbX
  clear q8 qX pX rX p2 q3 hb8 hbX
  by_cases he:er=0
  . subst he
    by_cases hm:mag=0
    . subst hm
      cases sd
      . go_wp2
        all_goals refine bodyPost_ret (v:=.tuple #[.int .i64 near,.int .i64 0]) (by simp [results,Tryz.results126,go_sem]) rfl ⟨by simp [opT],hb9⟩
      . have e0:((0:Nat):Int)=0:=rfl
        have HT:=HT.out
        simp only [e0] at HT hbY u1 u2 v0 v1 v2 v3 v4
        go_wp2_with fail
        refine (HT _ hbY).mono ?_
        rintro _ w10 ⟨rfl,hb10⟩
        go_wp2
        all_goals refine bodyPost_ret (v:=.tuple #[.int .i64 b,.int .i64 0]) (by simp [results,Tryz.results126,go_sem]) rfl ⟨by simp [opT],bel_trans hbY hb10⟩
    . have hm':¬ ((mag:Int)=0):=by omega
      go_wp2_with fail
      refine (HT.out _ hbY).mono ?_
      rintro _ w10 ⟨rfl,hb10⟩
      go_wp2
      all_goals refine bodyPost_ret (v:=.tuple #[.int .i64 b,.int .i64 0]) (by simp [results,Tryz.results126,go_sem]) rfl ⟨by simp [opT,hm],bel_trans hbY hb10⟩
  . go_wp2
    all_goals refine bodyPost_ret (v:=.tuple #[.int .i64 near,.int .i64 0]) (by simp [results,Tryz.results126,go_sem]) rfl ⟨by simp [opT,he],hb9⟩
set_option maxRecDepth 100000 in
set_option maxHeartbeats 1000000 in
theorem operate_not (way:Int) (hw:1 <= way∧way <= 3) (near:Int) (F G Rf:Nat) (rc:Array Value) (oo:Option Addr) (n cap:Nat) (w:World)
    (CV:∀ W,Below w.heap.size w W->Calls Tryz.prog 142 #[.agg #[.func (.func F) #[] #[],.func (.func G) #[] #[]],.slice oo n cap] W fun x w'=>x=.returned (.tuple #[.slice none 0 0,.bool false])∧Below W.heap.size W w') :
    Calls Tryz.prog 126 #[.agg #[.func (.func F) #[] #[],.func (.func G) #[] #[]],.int .i64 near,.int .i64 way,.func (.func Rf) #[] rc,.slice oo n cap] w fun e w'=>e=.returned (.tuple #[.int .i64 near,.int .i64 0])∧Below w.heap.size w w':=by
  have hst:∀ (p:Addr) (F:Nat) (m:Mode) (w:World),(store p (.func (.func F) #[] #[]) m).run Tryz.prog w=stored Tryz.prog w p (.func (.func F) #[] #[]) m:=fun p F m w=>run_store _ w p _ m rfl
  have hw0:0 <= way∧way <= 3:=by omega
  have hne:way ≠ 0:=by omega
  have CW:=fun W=>wayOf_any way W
  rw [if_pos hw0,decide_eq_true hw0] at CW
  unfold wayV at CW
  generalize wayF way=K at *
  have HV:Hid _:=CV
  clear CV
  have hb1:=bel_alloc w (.cells #[.func (.func F) #[] #[],.func (.func G) #[] #[]] 157)
  have q1:=heap_alloc_new w (.cells #[.func (.func F) #[] #[],.func (.func G) #[] #[]] 157)
  go_enter Tryz.func126,Tryz.ntmps126
  go_wp2_with fail
  generalize w.alloc (.cells #[.func (.func F) #[] #[],.func (.func G) #[] #[]] 157)=x0 at hb1 q1 ⊢
  refine (CW _).mono ?_
  rintro _ w2 ⟨rfl,hb2⟩
  have q2:=heap_alloc_new w2 (.cells #[.nilFunc] 124)
  have y0:=blkC q2 0 rfl
  have y1:=blkF q2 0
  have p1:=(hb2.block _ (Array.getElem?_eq_some_iff.1 q1).1).trans q1
  have hb3:=bel_alloc w2 (.cells #[.func (.func K) #[] #[]] 124)
  have p2:=(hb3.block _ (Array.getElem?_eq_some_iff.1 p1).1).trans p1
  have c0:=blkC p2 0 rfl
  have c1:=blkC p2 1 rfl
  have hbx:=bel_trans (bel_trans hb1 hb2) hb3
  clear CW q1 p1
  go_wp2_with fail
  refine (HV.out _ hbx).mono ?_
  rintro _ w4 ⟨rfl,hb4⟩
  go_wp2
  all_goals refine bodyPost_ret (v:=.tuple #[.int .i64 near,.int .i64 0]) (by simp [results,Tryz.results126,go_sem]) rfl ⟨rfl,bel_trans hbx hb4⟩
theorem Nums.at {w:World} {g n:Nat} {q:Nat->NumR} (h:Nums w (some ⟨g,0,none⟩) n n q) (i:Nat) (hi:i < n):At3 w g (i * 3) (q i):=by
  obtain ⟨b,off,he,hlt,hc⟩:=h.spot (by omega)
  cases he
  have:=hc i hi
  rwa [Nat.zero_add] at this
theorem nums_D {w:World} {g n:Nat} {q:Nat->NumR} {V:Nat->Int} (h:Nums w (some ⟨g,0,none⟩) n n q) (hf:∀ i,i < n->Nrm (q i).d (q i).n∧Dy (V i) (q i).ng (val (q i).d (q i).n) (q i).e) (i:Nat) (hi:i < n):DNum w (q i).v (V i) :=
  ⟨_,_,_,_,rfl,(hf i hi).2,_,_,_,_,rfl,(h.at i hi).row,(hf i hi).1,rfl⟩
theorem scale_injF {C D A B:Int} (h:C * 2 ^ 4194304=A * B) (k:D * 2 ^ 4194304=A * B):C=D:=Int.eq_of_mul_eq_mul_right (Int.ne_of_gt (two_pos 4194304)) (h.trans k.symm)
theorem keep6B {W w':World} {g:Nat} {a b c d e f:Value} (h:W.cell? ⟨g,0,none⟩=some a∧W.cell? ⟨g,1,none⟩=some b∧W.cell? ⟨g,2,none⟩=some c∧W.cell? ⟨g,3,none⟩=some d∧W.cell? ⟨g,4,none⟩=some e∧W.cell? ⟨g,5,none⟩=some f) (hb:Below W.heap.size W w') :
    w'.cell? ⟨g,0,none⟩=some a∧w'.cell? ⟨g,1,none⟩=some b∧w'.cell? ⟨g,2,none⟩=some c∧w'.cell? ⟨g,3,none⟩=some d∧w'.cell? ⟨g,4,none⟩=some e∧w'.cell? ⟨g,5,none⟩=some f :=
  ⟨cell_keeps h.1 hb,cell_keeps h.2.1 hb,cell_keeps h.2.2.1 hb,cell_keeps h.2.2.2.1 hb,cell_keeps h.2.2.2.2.1 hb,cell_keeps h.2.2.2.2.2 hb⟩
set_option maxRecDepth 100000 in
set_option maxHeartbeats 1000000 in
theorem product_D (g:Nat) (w:World) (q:Nat->NumR) (A B C:Int) (ng:Bool) (m e:Int) (hN:Nums w (some ⟨g,0,none⟩) 2 2 q) (h0:DNum w (q 0).v A) (h1:DNum w (q 1).v B) (oA:Dok A) (oB:Dok B) (hC:C * 2 ^ 4194304=A * B) (oC:Dok C) (hy:Dy C ng m e) (hT:Tab w) :
    Calls Tryz.prog 127 #[.slice (some ⟨g,0,none⟩) 2 2] w fun r w'=>r=.returned (.tuple #[vlV ng m e false,.int .i64 0])∧Below w.heap.size w w':=by
  have CM:Hid (∀ W,Below w.heap.size w W->Calls Tryz.prog 143 #[(q 0).v,(q 1).v] W fun r w'=>∃ v,r=.returned (.tuple #[v,.int .i64 0])∧DAns W w' C v):=fun W hb=>by
    refine (mul_D (h0.keeps hb) (h1.keeps hb) oA oB (hT.keeps hb)).mono ?_
    rintro r w' ⟨v,er,C',rfl,hC',hF⟩
    obtain rfl:=scale_injF hC' hC
    obtain ⟨rfl,hA⟩:=hF.yes oC
    exact ⟨v,rfl,hA⟩
  have CV:Hid (∀ W v,Below w.heap.size w W->DNum W v C->Calls Tryz.prog 94 #[v] W fun r w'=>r=.returned (vlV ng m e false)∧Below W.heap.size W w'):=fun W v hb hv=>valueOf_D hv oC hy (hT.keeps hb)
  obtain ⟨c0,c1,c2,_⟩:=hN.at 0 (by decide)
  obtain ⟨c3,c4,c5,_⟩:=hN.at 1 (by decide)
  unfold vlV valV NumR.v at *
  generalize (m / 2 ^ vK m).toNat=Q at CV ⊢
  generalize e + vK m=E at CV ⊢
  generalize decide (m % 2 ^ vK m ≠ 0)=R at CV ⊢
  clear h0 h1 hN oA oB hC oC hy hT
  generalize q 0=x at *
  generalize q 1=y at *
  obtain ⟨x_g,x_o,x_n,x_c,x_d,x_e⟩:=x
  obtain ⟨y_g,y_o,y_n,y_c,y_d,y_e⟩:=y
  simp only [Nat.zero_mul,Nat.zero_add,Nat.one_mul] at c0 c1 c2 c3 c4 c5 CM
  have q0:=heap_alloc_new w (.cells #[.bool false,.int .u64 0,.int .i64 0,.bool false,.bool false] 104)
  have hb1:=bel_alloc w (.cells #[.bool false,.int .u64 0,.int .i64 0,.bool false,.bool false] 104)
  have d0:=cell_keeps c0 hb1
  have d1:=cell_keeps c1 hb1
  have d2:=cell_keeps c2 hb1
  have d3:=cell_keeps c3 hb1
  have d4:=cell_keeps c4 hb1
  have d5:=cell_keeps c5 hb1
  clear c0 c1 c2 c3 c4 c5
  go_enter Tryz.func127,Tryz.ntmps127
  go_wp2_with fail
  generalize w.alloc (.cells #[.bool false,.int .u64 0,.int .i64 0,.bool false,.bool false] 104)=x1 at q0 hb1 d0 d1 d2 d3 d4 d5 ⊢
  have KK:∀ W,Below x1.heap.size x1 W->W.cell? ⟨g,0,none⟩=some (.bool x_g)∧W.cell? ⟨g,1,none⟩=some (.slice x_o x_n x_c)∧W.cell? ⟨g,2,none⟩=some (.int .i64 x_e)∧W.cell? ⟨g,3,none⟩=some (.bool y_g)∧W.cell? ⟨g,4,none⟩=some (.slice y_o y_n y_c)∧W.cell? ⟨g,5,none⟩=some (.int .i64 y_e):=fun W hb=>keep6B (W:=x1) ⟨d0,d1,d2,d3,d4,d5⟩ hb
  clear d0 d1 d2 d3 d4 d5
  have i0:(0:Int) < 2:=by decide
  have i1:(1:Int) < 2:=by decide
  have hx0:=(bel_refl x1).drew
  have hx1:=(bel_alloc x1 (.cells #[.bool false,.slice none 0 0,.int .i64 0] 26)).drew
  go_region_held3 (fun W=>W.cell? ⟨g,0,none⟩=some (.bool x_g)∧W.cell? ⟨g,1,none⟩=some (.slice x_o x_n x_c)∧W.cell? ⟨g,2,none⟩=some (.int .i64 x_e)∧W.cell? ⟨g,3,none⟩=some (.bool y_g)∧W.cell? ⟨g,4,none⟩=some (.slice y_o y_n y_c)∧W.cell? ⟨g,5,none⟩=some (.int .i64 y_e))
    (first | assumption | exact KK _ hx0 | exact KK _ hx1 | exact KK _ hw3 | exact KK _ (bel_trans hw3 (bel_alloc _ _)) | exact KK _ (bel_set3' hw3 (Nat.le_refl _) _ _ _) | fail)
    ((go_at_call 143; refine (CM.out _ (by first | exact hb1.drew | exact bel_trans hb1 hx1)).mono ?_; rintro _ w3 ⟨v,rfl,hD⟩; obtain ⟨n_g,n_o,n_n,n_c,n_e,rfl⟩:=dans_shape hD; have hw3:Below x1.heap.size x1 w3:=(by first | exact bel_trans hx0 hD.below | exact bel_trans hx1 hD.below); first | (have qz:w3.heap[x1.heap.size]?=some (.cells #[.bool false,.slice none 0 0,.int .i64 0] 26 (0,0)):=(hD.below.block _ (by first | exact (Array.getElem?_eq_some_iff.1 (heap_a1 x1 (.cells #[.bool false,.slice none 0 0,.int .i64 0] 26))).1)).trans (heap_a1 x1 (.cells #[.bool false,.slice none 0 0,.int .i64 0] 26)); have cz0:=blkC qz 0 rfl; have cz1:=blkC qz 1 rfl; have cz2:=blkC qz 2 rfl; have zz0:=blkF qz 0; have zz1:=blkF qz 1; have zz2:=blkF qz 2) | skip))
  . have hb4:=bel_alloc w3 (.cells #[.bool n_g,.slice n_o n_n n_c,.int .i64 n_e] 26)
    have qn:=heap_a1 w3 (.cells #[.bool n_g,.slice n_o n_n n_c,.int .i64 n_e] 26)
    have hw4:=bel_trans hw3 hb4
    have q4:=(hw4.block _ (Array.getElem?_eq_some_iff.1 q0).1).trans q0
    have hD4:=hD.num.keeps hb4
    have hb5:=bel_trans hb1 hw4
    have c0:=blkC qn 0 rfl
    have c1:=blkC qn 1 rfl
    have c2:=blkC qn 2 rfl
    go_wp2_with fail
    refine (CV.out _ _ hb5 hD4).mono ?_
    rintro _ w6 ⟨rfl,hb6⟩
    have p1:=(hb6.block _ (Array.getElem?_eq_some_iff.1 q4).1).trans q4
    have hbw:=bel_trans hb5 hb6
    have x0:=blkC p1 0 rfl
    have x1':=blkC p1 1 rfl
    have x2:=blkC p1 2 rfl
    have x3:=blkC p1 3 rfl
    have x4:=blkC p1 4 rfl
    have z0:=blkF p1 0
    have z1:=blkF p1 1
    have z2:=blkF p1 2
    have z3:=blkF p1 3
    have z4:=blkF p1 4
    go_wp2
    all_goals refine bodyPost_ret (v:=.tuple #[.agg #[.bool ng,.int .u64 Q,.int .i64 E,.bool R,.bool false],.int .i64 0]) (by simp [results,Tryz.results127,go_sem,x0,x1',x2,x3,x4]) rfl ⟨rfl,?_⟩
    all_goals exact (wr5 w6 w.heap.size _ _ _ _ _).below hbw hbw.size (Nat.le_refl _)
  . have hw4:=bel_set3' (o0:=0) (o1:=1) (o2:=2) hw3 (Nat.le_refl _) (.bool n_g) (.slice n_o n_n n_c) (.int .i64 n_e)
    have qn:=heap_set (heap_set (heap_set qz 0 (.bool n_g)) 1 (.slice n_o n_n n_c)) 2 (.int .i64 n_e)
    have q4:=(hw4.block _ (Array.getElem?_eq_some_iff.1 q0).1).trans q0
    have hD4:=(dans_res3 hD hx1 (Nat.le_refl _) (Array.getElem?_eq_some_iff.1 (heap_a1 x1 (.cells #[.bool false,.slice none 0 0,.int .i64 0] 26))).1 (.bool n_g) (.slice n_o n_n n_c) (.int .i64 n_e)).num
    have hb5:=bel_trans hb1 hw4
    clear cz0 cz1 cz2 zz0 zz1 zz2 qz
    have c0:=blkC qn 0 rfl
    have c1:=blkC qn 1 rfl
    have c2:=blkC qn 2 rfl
    go_wp2_with fail
    refine (CV.out _ _ hb5 hD4).mono ?_
    rintro _ w6 ⟨rfl,hb6⟩
    have p1:=(hb6.block _ (Array.getElem?_eq_some_iff.1 q4).1).trans q4
    have hbw:=bel_trans hb5 hb6
    have x0:=blkC p1 0 rfl
    have x1':=blkC p1 1 rfl
    have x2:=blkC p1 2 rfl
    have x3:=blkC p1 3 rfl
    have x4:=blkC p1 4 rfl
    have z0:=blkF p1 0
    have z1:=blkF p1 1
    have z2:=blkF p1 2
    have z3:=blkF p1 3
    have z4:=blkF p1 4
    go_wp2
    all_goals refine bodyPost_ret (v:=.tuple #[.agg #[.bool ng,.int .u64 Q,.int .i64 E,.bool R,.bool false],.int .i64 0]) (by simp [results,Tryz.results127,go_sem,x0,x1',x2,x3,x4]) rfl ⟨rfl,?_⟩
    all_goals exact (wr5 w6 w.heap.size _ _ _ _ _).below hbw hbw.size (Nat.le_refl _)
theorem operate_fin (way:Int) (hw:1 <= way∧way <= 3) (near:Int) (Rf:Nat) (rc:Array Value) (g n:Nat) (hn:n <= 100) (d:Nat->Int) (w:World) (hR:Row w (some ⟨g,0,none⟩) n n d) (hp:∀ i,i < n->pok (d i)=true) (H:Hold4 w) (ng:Bool) (mag:Nat) (exp:Int) (cut sd:Bool) (hm:mag < 18446744073709551616) (he:-4500000 <= exp∧exp <= 4500000)
    (hER:∀ (cap:Array Value) (w:World),(callFunc Rf cap).run Tryz.prog w=.ok (.enter Rf cap) w)
    (CR:∀ W g q,Below w.heap.size w W->Nums W (some ⟨g,0,none⟩) n n q->(∀ i,i < n->Nrm (q i).d (q i).n∧Dy (patV (d i)) (q i).ng (val (q i).d (q i).n) (q i).e)->Calls Tryz.prog Rf (#[.slice (some ⟨g,0,none⟩) n n] ++ rc) W fun e w'=>e=.returned (.tuple #[valV ng mag exp cut sd,.int .i64 0])∧Below W.heap.size W w') :
    Calls Tryz.prog 126 #[.agg #[.func (.func 141) #[] #[],.func (.func 71) #[] #[]],.int .i64 near,.int .i64 way,.func (.func Rf) #[] rc,.slice (some ⟨g,0,none⟩) n n] w fun e w'=>e=.returned (.tuple #[.int .i64 (opT 0 mag sd (r64 way ng true mag exp cut).1 near),.int .i64 0])∧Below w.heap.size w w':=by
  have hEF:∀ (cap:Array Value) (w:World),(callFunc 141 cap).run Tryz.prog w=.ok (.enter 141 cap) w:=by
    intro cap w
    simp [go_sem]
  have hEG:∀ (cap:Array Value) (w:World),(callFunc 71 cap).run Tryz.prog w=.ok (.enter 71 cap) w:=by
    intro cap w
    simp [go_sem]
  exact operate_go way hw near _ _ Rf rc _ n n w (fun i=>patV (d i)) ng mag exp cut sd 0 _ _ hEG hER
    (fun W hb=>(values_ok _ _ _ n n d _ W (hR.keeps hb) (by omega) hEF (fun i hi W' hb'=>of_ok (hp i hi) ((H.keeps hb).keeps hb'))).mono fun r w' h=>by
      obtain ⟨g,q,e1,e2,e3,e4,e5⟩:=h
      exact ⟨g,q,e1,e2,e3,e4,e5⟩)
    CR (fun W hb=>binary64_any way (by omega) ng true mag exp cut W (H.keeps hb).env hm he)
theorem operate_inf (way:Int) (hw:1 <= way∧way <= 3) (near:Int) (Rf:Nat) (rc:Array Value) (g n:Nat) (hn:n <= 100) (d:Nat->Int) (w:World) (hR:Row w (some ⟨g,0,none⟩) n n d) (K:Nat) (hK:K < n) (hp:∀ i,i < K->pok (d i)=true) (hq:pok (d K)=false) (H:Hold4 w) :
    Calls Tryz.prog 126 #[.agg #[.func (.func 141) #[] #[],.func (.func 71) #[] #[]],.int .i64 near,.int .i64 way,.func (.func Rf) #[] rc,.slice (some ⟨g,0,none⟩) n n] w fun e w'=>e=.returned (.tuple #[.int .i64 near,.int .i64 0])∧Below w.heap.size w w':=by
  have hEF:∀ (cap:Array Value) (w:World),(callFunc 141 cap).run Tryz.prog w=.ok (.enter 141 cap) w:=by
    intro cap w
    simp [go_sem]
  exact operate_not way hw near _ _ Rf rc _ n n w (fun W hb=>values_no _ _ _ n n d (fun i=>patV (d i)) W (hR.keeps hb) (by omega) K hK hEF (fun i hi W' hb'=>of_ok (hp i hi) ((H.keeps hb).keeps hb')) (fun W' hb'=>of_no hq ((H.keeps hb).keeps hb')))
theorem rowT {w:World} {g:Nat} {a b:Int} (h:w.heap[g]?=some (.cells #[.int .i64 a,.int .i64 b] 3 (0,0))):Row w (some ⟨g,0,none⟩) 2 2 (fun i=>if i=0 then a else b) :=
  ⟨Nat.le_refl _,by decide,(fun h=>nomatch h),fun _=>⟨g,0,rfl,(Array.getElem?_eq_some_iff.1 h).1,fun i hi=>by
    match i,hi with
    | 0,_=>exact blkC h 0 rfl
    | 1,_=>exact blkC h 1 rfl⟩⟩
theorem mag_pos {m:Int} (h:0 < m):(m / 2 ^ vK m).toNat ≠ 0:=by
  have hb:=blen_pos h
  have hp:=two_pos (vK m)
  have h1:2 ^ vK m <= m:=Int.le_trans (two_le (by unfold vK; omega)) hb.2
  have h2:1 <= m / 2 ^ vK m:=by rw [Int.le_ediv_iff_mul_le hp,Int.one_mul]; exact h1
  omega
theorem mag_lt {m:Int} (h:0 <= m):(m / 2 ^ vK m).toNat < 18446744073709551616:=by
  have:=vK_small h
  omega
theorem exp_in {V:Int} {ng:Bool} {m e:Int} (hy:Dy V ng m e) (ok:Dok V):-4500000 <= e + vK m∧e + vK m <= 4500000:=by
  obtain ⟨h1,h2,h3⟩:=hy.ok.1 ok
  have h4:blen m <= 30 * 2000:=blen_le (by rw [<- P_two]; exact h1)
  unfold vK
  omega
theorem opAdd_inf (way:Int) (hw:1 <= way∧way <= 3) (near a b:Int) (Rf:Nat) (rc:Array Value) (hp:(pok a && pok b)=false) (w:World) (go:Nat) (ko:w.heap[go]?=some (.cells #[.int .i64 a,.int .i64 b] 3 (0,0))) (H:Hold4 w) :
    Calls Tryz.prog 126 #[.agg #[.func (.func 141) #[] #[],.func (.func 71) #[] #[]],.int .i64 near,.int .i64 way,.func (.func Rf) #[] rc,.slice (some ⟨go,0,none⟩) 2 2] w fun e w'=>e=.returned (.tuple #[.int .i64 near,.int .i64 0])∧Below w.heap.size w w':=by
  cases h1:pok a
  . exact operate_inf way hw near Rf rc go 2 (by decide) (fun i=>if i=0 then a else b) w (rowT ko) 0 (by decide) (fun i hi=>by omega) h1 H
  . rw [h1] at hp
    exact operate_inf way hw near Rf rc go 2 (by decide) (fun i=>if i=0 then a else b) w (rowT ko) 1 (by decide) (fun i hi=>by
      obtain rfl:i=0:=by omega
      exact h1) hp H
set_option maxRecDepth 100000 in
set_option maxHeartbeats 1000000 in
theorem opMul (way:Int) (hw:1 <= way∧way <= 3) (near a b:Int) (ra:rng a) (rb:rng b) (w:World) (go:Nat) (ko:w.heap[go]?=some (.cells #[.int .i64 a,.int .i64 b] 3 (0,0))) (H:Hold4 w) :
    Calls Tryz.prog 126 #[.agg #[.func (.func 141) #[] #[],.func (.func 71) #[] #[]],.int .i64 near,.int .i64 way,.func (.func 127) #[] #[],.slice (some ⟨go,0,none⟩) 2 2] w fun e w'=>e=.returned (.tuple #[.int .i64 (if (pok a && pok b)=true∧prV a b ≠ 0 then rdP way (prV a b) else near),.int .i64 0])∧Below w.heap.size w w':=by
  have hER:∀ (cap:Array Value) (w:World),(callFunc 127 cap).run Tryz.prog w=.ok (.enter 127 cap) w:=by
    intro cap w
    simp [go_sem]
  cases hpp:(pok a && pok b)
  . have n1:¬ (false=true∧prV a b ≠ 0):=fun q=>by cases q.1
    rw [if_neg n1]
    exact opAdd_inf way hw near a b _ _ hpp w go ko H
  . simp only [Bool.and_eq_true] at hpp
    obtain ⟨pa,pb⟩:=hpp
    obtain ⟨_,_,_,_,hC⟩:=prV_parts ra rb pa pb
    have ok:Dok (prV a b):=((patV_bd pa).mul (patV_bd pb) hC (by omega)).ok (by omega)
    obtain ⟨ng,m,e,hy,hm⟩:=id ok
    clear hm
    have hp:∀ i,i < 2->pok (if i=0 then a else b)=true:=fun i hi=>by split <;> assumption
    have:=operate_fin way hw near _ #[] go 2 (by decide) (fun i=>if i=0 then a else b) w (rowT ko) hp H ng _ _ _ false (mag_lt hy.nonneg) (exp_in hy ok) hER (fun W g q hb hN hf=>product_D g W q (patV a) (patV b) (prV a b) ng m e hN (nums_D hN hf 0 (by decide)) (nums_D hN hf 1 (by decide)) (patV_dok pa) (patV_dok pb) hC ok hy (H.keeps hb).tab)
    have hA:(if true=true∧prV a b ≠ 0 then rdP way (prV a b) else near)=opT 0 (m / 2 ^ vK m).toNat false (r64 way ng true (m / 2 ^ vK m).toNat (e + vK m) (decide (m % 2 ^ vK m ≠ 0))).1 near:=by
      unfold opT
      by_cases h0:prV a b=0
      . have hm0:=hy.eq_zero.1 h0
        have n1:¬ (true=true∧prV a b ≠ 0):=fun q=>q.2 h0
        have n3:(0:Int) ≠ 0∨((m / 2 ^ vK m).toNat=0∧false=false):=.inr ⟨by rw [hm0,Int.zero_ediv]; rfl,rfl⟩
        rw [if_neg n1,if_pos n3]
      . have hm0:0 < m:=by
          have:=hy.nonneg
          have:m ≠ 0:=fun q=>h0 (hy.eq_zero.2 q)
          omega
        have n1:true=true∧prV a b ≠ 0:=⟨rfl,h0⟩
        have n3:¬ ((0:Int) ≠ 0∨((m / 2 ^ vK m).toNat=0∧false=false)):=fun q=>by
          rcases q with q | q
          . exact q rfl
          . exact mag_pos hm0 q.1
        rw [if_pos n1,if_neg n3,r64_dy hy h0 (by have:=(hy.ok.1 ok).2.1; omega)]
    rw [hA]
    exact this
set_option maxRecDepth 100000 in
set_option maxHeartbeats 1000000 in
theorem mul_A {a b way:Int} {w:World} (ra:rng a) (rb:rng b) (hw:0 <= way∧way <= 3) (H:Hold4 w) :
    Calls Tryz.prog 107 #[.int .i64 a,.int .i64 b,.int .i64 way] w fun e w'=>e=.returned (.tuple #[.int .i64 (mulP way a b),.int .i64 0])∧Below w.heap.size w w':=by
  have CK:Hid (∀ W go,W.heap[go]?=some (.cells #[.int .i64 a,.int .i64 b] 3 (0,0))->Hold4 W->Calls Tryz.prog 126 #[.agg #[.func (.func 141) #[] #[],.func (.func 71) #[] #[]],.int .i64 (fprod (told a) (told b)),.int .i64 way,.func (.func 127) #[] #[],.slice (some ⟨go,0,none⟩) 2 2] W fun e w'=>e=.returned (.tuple #[.int .i64 (mulP way a b),.int .i64 0])∧Below W.heap.size W w'):=fun W go ko H=>by
    by_cases h0:way=0
    . have e:mulP way a b=fprod (told a) (told b):=by unfold mulP; rw [if_pos (.inl h0)]
      rw [e,h0]
      exact operate_near _ _ ⟨_,rfl⟩ ⟨_,rfl⟩ _ _ _ _ _ W
    . have e:mulP way a b=if (pok a && pok b)=true∧prV a b ≠ 0 then rdP way (prV a b) else fprod (told a) (told b):=by
        unfold mulP
        cases hp:(pok a && pok b)
        . have n1:way=0∨false=false:=.inr rfl
          have n2:¬ (false=true∧prV a b ≠ 0):=fun q=>by cases q.1
          rw [if_pos n1,if_neg n2]
        . have n1:¬ (way=0∨true=false):=fun q=>by rcases q with q | q; exact h0 q; cases q
          rw [if_neg n1]
          by_cases h:prV a b ≠ 0
          . have n2:true=true∧prV a b ≠ 0:=⟨rfl,h⟩
            rw [if_pos h,if_pos n2]
          . have n2:¬ (true=true∧prV a b ≠ 0):=fun q=>h q.2
            rw [if_neg h,if_neg n2]
      rw [e]
      exact opMul way (by omega) _ a b ra rb W go ko H
  generalize mulP way a b=R at CK ⊢
  have hcv:=cv64
  have hmf:∀ (fn:Fn) (first cap:Array Value) (w:World),(Instr.makeFunc fn first cap).run Tryz.prog w=.ok (.func fn first cap) w:=fun _ _ _ _=>rfl
  have CF:Hid (∀ W,Calls Tryz.prog 47 #[.int .i64 a] W fun e w'=>e=.returned (.float .f64 (wd a))∧w'=W):=fun W=>bitsFloat a W
  have CG:Hid (∀ W,Calls Tryz.prog 47 #[.int .i64 b] W fun e w'=>e=.returned (.float .f64 (wd b))∧w'=W):=fun W=>bitsFloat b W
  have RS:Hid (∀ W,_):=fun W=>run_fprod (P:=Tryz.prog) 62 (wd_told ra) (wd_told rb) W
  go_enter Tryz.func107,Tryz.ntmps107
  go_wp2_with fail
  refine (double_any _).mono ?_
  rintro _ w1 ⟨rfl,hb1⟩
  obtain ⟨z,w2,hrun,hz,hw2⟩:=RS.out w1
  clear RS
  generalize wd a=x at *
  generalize wd b=y at *
  generalize fprod (told a) (told b)=near at *
  go_wp2_with fail
  refine (CF.out _).mono ?_
  rintro _ _ ⟨rfl,rfl⟩
  go_wp2_with fail
  refine (CG.out _).mono ?_
  rintro _ _ ⟨rfl,rfl⟩
  go_wp2_with fail
  have hb2:Below w.heap.size w w2:=by rcases hw2 with rfl | rfl; exact hb1; exact hb1.drew
  refine (of_FW hz _).mono ?_
  rintro _ _ ⟨rfl,rfl⟩
  have hb3:=bel_trans hb2 (bel_alloc _ (.cells #[.int .i64 a,.int .i64 b] 3))
  go_wp2_with fail
  refine (CK.out _ _ (heap_a1 _ (.cells #[.int .i64 a,.int .i64 b] 3)) (H.keeps hb3)).mono ?_
  rintro _ w5 ⟨rfl,hb5⟩
  go_wp2
  all_goals refine bodyPost_ret (v:=.tuple #[.int .i64 R,.int .i64 0]) (by simp [results,Tryz.results107,go_sem]) rfl ⟨rfl,bel_trans hb3 hb5⟩
theorem fin2 {w w3:World} (h3:Below (w.alloc (.cells #[.float .f64 0,.float .f64 0] 64)).heap.size (w.alloc (.cells #[.float .f64 0,.float .f64 0] 64)) w3) (U V:Nat) :
    (store ⟨w.heap.size,0,none⟩ (.float .f64 U)).run Tryz.prog w3=.ok () (w3.setCell ⟨w.heap.size,0,none⟩ (.float .f64 U))∧(store ⟨w.heap.size,1,none⟩ (.float .f64 V)).run Tryz.prog (w3.setCell ⟨w.heap.size,0,none⟩ (.float .f64 U))=.ok () ((w3.setCell ⟨w.heap.size,0,none⟩ (.float .f64 U)).setCell ⟨w.heap.size,1,none⟩ (.float .f64 V))∧((w3.setCell ⟨w.heap.size,0,none⟩ (.float .f64 U)).setCell ⟨w.heap.size,1,none⟩ (.float .f64 V)).cell? ⟨w.heap.size,0,none⟩=some (.float .f64 U)∧((w3.setCell ⟨w.heap.size,0,none⟩ (.float .f64 U)).setCell ⟨w.heap.size,1,none⟩ (.float .f64 V)).cell? ⟨w.heap.size,1,none⟩=some (.float .f64 V)∧Below w.heap.size w ((w3.setCell ⟨w.heap.size,0,none⟩ (.float .f64 U)).setCell ⟨w.heap.size,1,none⟩ (.float .f64 V)):=by
  have hg:=q_heap_last w (.cells #[.float .f64 0,.float .f64 0] 64)
  have hba:=bel_alloc w (.cells #[.float .f64 0,.float .f64 0] 64)
  have d2:=(h3.block _ (Array.getElem?_eq_some_iff.1 hg).1).trans hg
  have d3:=q_heap_set d2 0 (.float .f64 U)
  have d4:=q_heap_set d3 1 (.float .f64 V)
  have f0:=blkC d2 0 rfl
  have z0:=blkF d2 0
  have f1:=blkC d3 1 rfl
  have z1:=blkF d3 1
  refine ⟨?_,?_,blkC d4 0 rfl,blkC d4 1 rfl,?_⟩
  . rw [run_store _ _ _ _ _ rfl,f0]; simp only [z0]; rfl
  . rw [run_store _ _ _ _ _ rfl,f1]; simp only [z1]; rfl
  . exact ((bel_trans hba h3).setCell (p:=⟨w.heap.size,0,none⟩) (Nat.le_refl _) _).setCell (p:=⟨w.heap.size,1,none⟩) (Nat.le_refl _) _
set_option maxRecDepth 100000 in
set_option maxHeartbeats 1000000 in
theorem deepProd_any {a b:Int} (ra:rng a) (rb:rng b) (w:World) (H:Hold4 w) :
    Calls Tryz.prog 86 #[.int .i64 a,.int .i64 b] w fun e w'=>e=.returned (ivl (mulP 1 a b) (mulP 2 a b))∧Below w.heap.size w w':=by
  have C1:Hid (∀ W,Hold4 W->Calls Tryz.prog 107 #[.int .i64 a,.int .i64 b,.int .i64 1] W fun e w'=>e=.returned (.tuple #[.int .i64 (mulP 1 a b),.int .i64 0])∧Below W.heap.size W w'):=fun W h=>mul_A ra rb (by omega) h
  have C2:Hid (∀ W,Hold4 W->Calls Tryz.prog 107 #[.int .i64 a,.int .i64 b,.int .i64 2] W fun e w'=>e=.returned (.tuple #[.int .i64 (mulP 2 a b),.int .i64 0])∧Below W.heap.size W w'):=fun W h=>mul_A ra rb (by omega) h
  unfold ivl
  generalize mulP 1 a b=l at *
  generalize mulP 2 a b=h at *
  have hba:=bel_alloc w (.cells #[.float .f64 0,.float .f64 0] 64)
  go_enter Tryz.func86,Tryz.ntmps86
  go_wp2_with fail
  refine (C1.out _ (H.keeps hba)).mono ?_
  rintro _ w1 ⟨rfl,hb1⟩
  have hw1:=bel_trans hba hb1
  go_wp2_with fail
  refine (C2.out _ (H.keeps hw1)).mono ?_
  rintro _ w2 ⟨rfl,hb2⟩
  have hb3:=bel_trans hb1 hb2
  obtain ⟨s0,s1,e0,e1,hbe⟩:=fin2 hb3 (wd l) (wd h)
  have CF:Hid (∀ W,Calls Tryz.prog 47 #[.int .i64 l] W fun e w'=>e=.returned (.float .f64 (wd l))∧w'=W):=fun W=>bitsFloat l W
  have CG:Hid (∀ W,Calls Tryz.prog 47 #[.int .i64 h] W fun e w'=>e=.returned (.float .f64 (wd h))∧w'=W):=fun W=>bitsFloat h W
  go_wp2_with fail
  refine (CF.out _).mono ?_
  rintro _ wz ⟨rfl,hwz⟩
  replace hwz:=hwz.symm
  subst hwz
  go_wp2_with fail
  refine (CG.out _).mono ?_
  rintro _ wz ⟨rfl,hwz⟩
  replace hwz:=hwz.symm
  subst hwz
  go_wp2
  refine bodyPost_ret (v:=.agg #[.float .f64 (wd l),.float .f64 (wd h)]) (by simp [results,Tryz.results86,go_sem,e0,e1]) rfl ⟨rfl,hbe⟩
theorem run_prodN {P:Program} (t:TypeId) {p q:Int} {x y:Nat} (hx:FW p x) (hy:FW q y) (h:cls (fprod p q) ≠ 4) (w:World):(binOp .mul t (.float .f64 x) (.float .f64 y)).run P w=.ok (.float .f64 (wd (fprod p q))) w:=by
  obtain ⟨z,w',hrun,hz⟩:=run_farith (P:=P) .mul (.inr (.inr (.inl rfl))) t x y w
  have hf:floatBits .mul .f64 x y=Ieee.double.mul x y:=rfl
  rw [hf] at hz
  rcases mul_FW hx hy with ⟨z',e1,e2⟩ | ⟨_,e2⟩
  . rcases hz with ⟨h1,h2⟩ | ⟨h1,_⟩
    . rw [e1] at h1
      cases h1
      rw [hrun,h2,(e2.of h).2.1]
    . rw [e1] at h1; cases h1
  . exact absurd (by rw [e2]; decide) h
theorem key_pos0 {p:Int} (h:nn p) (h0:rg p ≠ 0):FloatKind.f64.format.order (wd p) 0=some .lt∨FloatKind.f64.format.order (wd p) 0=some .gt:=by
  have n0:=nn0.1
  have w0:wd 0=0:=by decide
  have k0:key 0=0:=by decide
  have hk:key p ≠ 0:=by
    have:=nn_rg h
    unfold key
    unfold rg at h0 this
    split at h0 <;> simp_all <;> omega
  rcases Int.lt_or_gt_of_ne hk with q | q
  . left
    have:=q_lt h.1 n0.1 h.2 n0.2 (by rw [k0]; exact q)
    rwa [w0] at this
  . right
    have:=q_gt h.1 n0.1 h.2 n0.2 (by rw [k0]; exact q)
    rwa [w0] at this
theorem key_zero0 {p:Int} (h:nn p) (h0:rg p=0):FloatKind.f64.format.order (wd p) 0=some .eq:=by
  have n0:=nn0.1
  have w0:wd 0=0:=by decide
  have k0:key 0=0:=by decide
  have hk:key p=0:=by
    unfold key
    unfold rg at h0
    split at h0 <;> simp_all
  have:=q_eq h.1 n0.1 h.2 n0.2 (by rw [k0]; exact hk)
  rwa [w0] at this
set_option maxRecDepth 100000 in
set_option maxHeartbeats 1000000 in
theorem product_zero {p q:Int} (hp:nn p) (hq:nn q) (h0:rg p=0∨rg q=0) (w:World) :
    Calls Tryz.prog 67 #[.float .f64 (wd p),.float .f64 (wd q)] w fun e w'=>e=.returned (ivl 0 0)∧Below w.heap.size w w':=by
  have hcv:=cv64
  have w0:wd 0=0:=by decide
  unfold ivl
  rw [w0]
  have hba:=bel_alloc w (.cells #[.float .f64 0,.float .f64 0] 64)
  obtain ⟨z,w1,hrun,hz,hw1⟩:=run_fprod (P:=Tryz.prog) 62 (FW.pat hp.2 hp.1) (FW.pat hq.2 hq.1) (w.alloc (.cells #[.float .f64 0,.float .f64 0] 64))
  have hb1:Below (w.alloc (.cells #[.float .f64 0,.float .f64 0] 64)).heap.size (w.alloc (.cells #[.float .f64 0,.float .f64 0] 64)) w1:=by
    rcases hw1 with rfl | rfl
    . exact bel_refl _
    . exact (bel_refl _).drew
  obtain ⟨s0,s1,e0,e1,hbe⟩:=fin2 hb1 0 0
  by_cases hp0:rg p=0
  . have o:=key_zero0 hp hp0
    generalize wd p=x at *
    generalize wd q=y at *
    clear hw1
    go_enter Tryz.func67,Tryz.ntmps67
    go_wp2
    refine bodyPost_ret (v:=.agg #[.float .f64 0,.float .f64 0]) (by simp [results,Tryz.results67,go_sem,e0,e1]) rfl ⟨rfl,hbe⟩
  . have hq0:rg q=0:=by omega
    have o2:=key_zero0 hq hq0
    rcases key_pos0 hp hp0 with o | o
    all_goals
      generalize wd p=x at *
      generalize wd q=y at *
      clear hw1
      go_enter Tryz.func67,Tryz.ntmps67
      go_wp2
      refine bodyPost_ret (v:=.agg #[.float .f64 0,.float .f64 0]) (by simp [results,Tryz.results67,go_sem,e0,e1]) rfl ⟨rfl,hbe⟩
set_option maxRecDepth 100000 in
set_option maxHeartbeats 1000000 in
theorem product_deep {p q:Int} (hp:nn p) (hq:nn q) (p0:rg p ≠ 0) (q0:rg q ≠ 0) (hn:nn (fprod p q)) (hd:rg (fprod p q) < 283726776524341248) (w:World) (H:Hold4 w) :
    Calls Tryz.prog 67 #[.float .f64 (wd p),.float .f64 (wd q)] w fun e w'=>e=.returned (ivl (mulP 1 p q) (mulP 2 p q))∧Below w.heap.size w w':=by
  have hcv:=cv64
  have hba:=bel_alloc w (.cells #[.float .f64 0,.float .f64 0] 64)
  have CD:Hid (∀ W,Hold4 W->Calls Tryz.prog 86 #[.int .i64 p,.int .i64 q] W fun e w'=>e=.returned (.agg #[.float .f64 (wd (mulP 1 p q)),.float .f64 (wd (mulP 2 p q))])∧Below W.heap.size W w'):=fun W h=>deepProd_any hp.1 hq.1 W h
  have CP:Hid (∀ W,Calls Tryz.prog 66 #[.float .f64 (wd p)] W fun e w'=>e=.returned (.int .i64 p)∧w'=W):=fun W=>of_FW (FW.pat hp.2 hp.1) W
  have CQ:Hid (∀ W,Calls Tryz.prog 66 #[.float .f64 (wd q)] W fun e w'=>e=.returned (.int .i64 q)∧w'=W):=fun W=>of_FW (FW.pat hq.2 hq.1) W
  have CA:Hid (∀ W,Calls Tryz.prog 78 #[.float .f64 (wd (fprod p q))] W fun e w'=>e=.returned (.float .f64 (wd (rg (fprod p q))))∧w'=W):=fun W=>mathAbs hn.1 W
  have hrun:∀ W,(binOp .mul 62 (.float .f64 (wd p)) (.float .f64 (wd q))).run Tryz.prog W=.ok (.float .f64 (wd (fprod p q))) W:=fun W=>run_prodN _ (FW.pat hp.2 hp.1) (FW.pat hq.2 hq.1) hn.2 W
  have od:FloatKind.f64.format.order (wd (rg (fprod p q))) 283726776524341248=some .lt:=by
    obtain ⟨a1,a2⟩:=q_rg hn.1
    have ca:¬ cls (rg (fprod p q))=4:=by rw [q_cls hn.1]; exact hn.2
    have:=q_lt a1 (show rng 283726776524341248 by unfold rng; omega) ca (by decide) (by rw [q_key a2,show key 283726776524341248=283726776524341248 by decide]; exact hd)
    rwa [show wd 283726776524341248=283726776524341248 by decide] at this
  have o1:=key_pos0 hp p0
  have o2:=key_pos0 hq q0
  unfold ivl
  generalize wd (mulP 1 p q)=U at *
  generalize wd (mulP 2 p q)=V at *
  generalize wd (rg (fprod p q))=A at *
  generalize wd (fprod p q)=N at *
  generalize wd p=x at *
  generalize wd q=y at *
  rcases o1 with o1 | o1 <;> rcases o2 with o2 | o2
  all_goals
    go_enter Tryz.func67,Tryz.ntmps67
    go_wp2_with fail
    refine (CA.out _).mono ?_
    rintro _ wz ⟨rfl,hwz⟩
    replace hwz:=hwz.symm
    subst hwz
    go_wp2_with fail
    refine (CP.out _).mono ?_
    rintro _ wz ⟨rfl,hwz⟩
    replace hwz:=hwz.symm
    subst hwz
    go_wp2_with fail
    refine (CQ.out _).mono ?_
    rintro _ wz ⟨rfl,hwz⟩
    replace hwz:=hwz.symm
    subst hwz
    go_wp2_with fail
    refine (CD.out _ (H.keeps hba)).mono ?_
    rintro _ w3 ⟨rfl,hb3⟩
    obtain ⟨s0,s1,e0,e1,hbe⟩:=fin2 hb3 U V
    go_wp2
    refine bodyPost_ret (v:=.agg #[.float .f64 U,.float .f64 V]) (by simp [results,Tryz.results67,go_sem,e0,e1]) rfl ⟨rfl,hbe⟩
set_option maxRecDepth 100000 in
set_option maxHeartbeats 1000000 in
theorem product_be {p q:Int} (hp:nn p) (hq:nn q) (p0:rg p ≠ 0) (q0:rg q ≠ 0) (hn:nn (fprod p q)) (hd:283726776524341248 <= rg (fprod p q)) (w:World) :
    Calls Tryz.prog 67 #[.float .f64 (wd p),.float .f64 (wd q)] w fun e w'=>e=.returned (ivl (beLo (fprod p q) (ffma p q (neg (fprod p q)))) (beHi (fprod p q) (ffma p q (neg (fprod p q)))))∧Below w.heap.size w w':=by
  have hcv:=cv64
  have hba:=bel_alloc w (.cells #[.float .f64 0,.float .f64 0] 64)
  have CA:Hid (∀ W,Calls Tryz.prog 78 #[.float .f64 (wd (fprod p q))] W fun e w'=>e=.returned (.float .f64 (wd (rg (fprod p q))))∧w'=W):=fun W=>mathAbs hn.1 W
  have hrun:∀ W,(binOp .mul 62 (.float .f64 (wd p)) (.float .f64 (wd q))).run Tryz.prog W=.ok (.float .f64 (wd (fprod p q))) W:=fun W=>run_prodN _ (FW.pat hp.2 hp.1) (FW.pat hq.2 hq.1) hn.2 W
  have hneg:∀ W,(Op.unary UnOp.neg (.float .f64 (wd (fprod p q)))).run Tryz.prog W=.ok (.float .f64 (wd (neg (fprod p q)))) W:=fun W=>run_negF hn W
  have nm:=(nn_neg hn).1
  obtain ⟨L,w1,rF,hL,hw1⟩:=run_ffma (FW.pat hp.2 hp.1) (FW.pat hq.2 hq.1) (FW.pat nm.2 nm.1) (w.alloc (.cells #[.float .f64 0,.float .f64 0] 64))
  have hb1:Below (w.alloc (.cells #[.float .f64 0,.float .f64 0] 64)).heap.size (w.alloc (.cells #[.float .f64 0,.float .f64 0] 64)) w1:=by
    rcases hw1 with rfl | rfl
    . exact bel_refl _
    . exact (bel_refl _).drew
  have CB:Hid (∀ W,Calls Tryz.prog 79 #[.float .f64 (wd (fprod p q)),.float .f64 L] W fun e w'=>e=.returned (.agg #[.float .f64 (wd (beLo (fprod p q) (ffma p q (neg (fprod p q))))),.float .f64 (wd (beHi (fprod p q) (ffma p q (neg (fprod p q)))))])∧Below W.heap.size W w'):=fun W=>beside_any hn hL W
  have od:FloatKind.f64.format.order (wd (rg (fprod p q))) 283726776524341248=some .gt∨FloatKind.f64.format.order (wd (rg (fprod p q))) 283726776524341248=some .eq:=by
    obtain ⟨a1,a2⟩:=q_rg hn.1
    have ca:¬ cls (rg (fprod p q))=4:=by rw [q_cls hn.1]; exact hn.2
    have w9:wd 283726776524341248=283726776524341248:=by decide
    have k9:key 283726776524341248=283726776524341248:=by decide
    by_cases e:rg (fprod p q)=283726776524341248
    . right
      have:=q_eq a1 (show rng 283726776524341248 by unfold rng; omega) ca (by decide) (by rw [q_key a2,k9]; exact e)
      rwa [w9] at this
    . left
      have:=q_gt a1 (show rng 283726776524341248 by unfold rng; omega) ca (by decide) (by rw [q_key a2,k9]; omega)
      rwa [w9] at this
  have o1:=key_pos0 hp p0
  have o2:=key_pos0 hq q0
  unfold ivl
  generalize wd (beLo (fprod p q) (ffma p q (neg (fprod p q))))=U at *
  generalize wd (beHi (fprod p q) (ffma p q (neg (fprod p q))))=V at *
  generalize wd (rg (fprod p q))=A at *
  generalize wd (neg (fprod p q))=M at *
  generalize wd (fprod p q)=N at *
  generalize wd p=x at *
  generalize wd q=y at *
  clear hw1 hL hd
  rcases o1 with o1 | o1 <;> rcases o2 with o2 | o2 <;> rcases od with od | od
  all_goals
    go_enter Tryz.func67,Tryz.ntmps67
    go_wp2_with fail
    refine (CA.out _).mono ?_
    rintro _ wz ⟨rfl,hwz⟩
    replace hwz:=hwz.symm
    subst hwz
    go_wp2_with fail
    refine (CB.out _).mono ?_
    rintro _ w3 ⟨rfl,hb3⟩
    obtain ⟨s0,s1,e0,e1,hbe⟩:=fin2 (bel_trans hb1 hb3) U V
    go_wp2
    refine bodyPost_ret (v:=.agg #[.float .f64 U,.float .f64 V]) (by simp [results,Tryz.results67,go_sem,e0,e1]) rfl ⟨rfl,hbe⟩
theorem q_two_keep {p B:Nat} {x0 x1:Value} {W W':World} (h:p < B∧B <= W.heap.size∧W.cell? ⟨p,0,none⟩=some x0∧W.cell? ⟨p,1,none⟩=some x1) (hb:Below W.heap.size W W') :
    p < B∧B <= W'.heap.size∧W'.cell? ⟨p,0,none⟩=some x0∧W'.cell? ⟨p,1,none⟩=some x1 :=
  ⟨h.1,Nat.le_trans h.2.1 hb.size,q_cell h.2.2.1 hb,q_cell h.2.2.2 hb⟩
theorem Lays.below' {w w':World} (h:Lays w) (hb:Below w.heap.size w w'):Lays w' :=
  ⟨q_cell h.a0 hb,q_cell h.a1 hb,q_cell h.a2 hb,trivial,trivial,trivial⟩
set_option maxRecDepth 100000 in
set_option maxHeartbeats 1000000 in
theorem spanTold {lo hi:Int} (hl:nn lo) (hh:nn hi) (w:World) (L:Lays w) :
    Calls Tryz.prog 43 #[ivl lo hi] w fun e w'=>e=.returned (spn (canon lo) (canon hi))∧Below w.heap.size w w':=by
  unfold ivl spn
  have CO1:Hid (∀ W,Calls Tryz.prog 66 #[.float .f64 (wd lo)] W fun e w'=>e=.returned (.int .i64 lo)∧w'=W):=fun W=>by
    have:=bitsOf lo W hl.1
    rw [show told lo=lo from if_neg hl.2] at this
    exact this
  have CO2:Hid (∀ W,Calls Tryz.prog 66 #[.float .f64 (wd hi)] W fun e w'=>e=.returned (.int .i64 hi)∧w'=W):=fun W=>by
    have:=bitsOf hi W hh.1
    rw [show told hi=hi from if_neg hh.2] at this
    exact this
  have CX':Hid (∀ W,Lays W->Calls Tryz.prog 65 #[.int .i64 lo] W fun e w'=>e=.returned (.int .i64 (canon lo))∧Gr W w'):=fun W LW=>bitsCanon lo W LW
  have CY':Hid (∀ W,Lays W->Calls Tryz.prog 65 #[.int .i64 hi] W fun e w'=>e=.returned (.int .i64 (canon hi))∧Gr W w'):=fun W LW=>bitsCanon hi W LW
  generalize canon lo=X at *
  generalize canon hi=Y at *
  generalize wd lo=A at *
  generalize wd hi=B at *
  have hb2:=bel_alloc2 w (.cells #[.float .f64 A,.float .f64 B] 64) (.cells #[.int .i64 0,.int .i64 0] 23)
  have p0:=heap_a2 w (.cells #[.float .f64 A,.float .f64 B] 64) (.cells #[.int .i64 0,.int .i64 0] 23)
  have p1:=heap_b2 w (.cells #[.float .f64 A,.float .f64 B] 64) (.cells #[.int .i64 0,.int .i64 0] 23)
  have hs:=size2 w (.cells #[.float .f64 A,.float .f64 B] 64) (.cells #[.int .i64 0,.int .i64 0] 23)
  have c0:=blkC p0 0 rfl
  have c1:=blkC p0 1 rfl
  have hbd:=hb2.drew
  have L1:=L.below' hbd
  clear hl hh
  go_enter Tryz.func43,Tryz.ntmps43
  go_wp2_with fail
  generalize (w.alloc (.cells #[.float .f64 A,.float .f64 B] 64)).alloc (.cells #[.int .i64 0,.int .i64 0] 23)=w1 at *
  have hc:w.heap.size < w.heap.size + 1∧w.heap.size + 1 <= w1.drew.heap.size∧w1.drew.cell? ⟨w.heap.size,0,none⟩=some (.float .f64 A)∧w1.drew.cell? ⟨w.heap.size,1,none⟩=some (.float .f64 B):=⟨by omega,by show _ <= w1.heap.size; omega,c0,c1⟩
  have hd:w1.drew.heap[w.heap.size + 1]?=some (.cells #[.int .i64 0,.int .i64 0] 23 (0,0)):=p1
  go_region_held3 (fun W=>w.heap.size < w.heap.size + 1∧w.heap.size + 1 <= W.heap.size∧W.cell? ⟨w.heap.size,0,none⟩=some (.float .f64 A)∧W.cell? ⟨w.heap.size,1,none⟩=some (.float .f64 B))
    (first | assumption | (repeat (first | exact hc | exact hc1 | exact hc2 | refine q_two_set (by omega) ?_)))
    (first
      | (go_at_call 66; have _t:=LA; refine (CO2.out _).mono ?_; rintro _ _ ⟨rfl,rfl⟩)
      | (go_at_call 66; refine (CO1.out _).mono ?_; rintro _ _ ⟨rfl,rfl⟩)
      | (go_at_call 65; have _t:=LA; refine (CY'.out _ LA).mono ?_; rintro _ w3 ⟨rfl,g3⟩; have hc2:=q_two_keep hc1 g3.be; have d2:=(g3.be.block _ (Array.getElem?_eq_some_iff.1 d1).1).trans d1; have d3:=q_heap_set d2 0 (.int .i64 X); have d4:=q_heap_set d3 1 (.int .i64 Y); have f0:=blkC d2 0 rfl; have z0:=blkF d2 0; have f1:=blkC d3 1 rfl; have z1:=blkF d3 1)
      | (go_at_call 65; refine (CX'.out _ L1).mono ?_; rintro _ w2 ⟨rfl,g2⟩; have LA:=L1.grown g2; have hc1:=q_two_keep hc g2.be; have d1:=(g2.be.block _ (Array.getElem?_eq_some_iff.1 hd).1).trans hd))
  have e0:=blkC d4 0 rfl
  have e1:=blkC d4 1 rfl
  have hbe:Below w.heap.size w ((w3.setCell ⟨w.heap.size + 1,0,none⟩ (.int .i64 X)).setCell ⟨w.heap.size + 1,1,none⟩ (.int .i64 Y)):=((bel_trans hbd (bel_trans g2.be g3.be)).setCell (p:=⟨w.heap.size + 1,0,none⟩) (Nat.le_succ _) _).setCell (p:=⟨w.heap.size + 1,1,none⟩) (Nat.le_succ _) _
  clear d1 d2 d3 d4 f0 f1 z0 z1 hd hc hc1 hc2
  generalize (w3.setCell ⟨w.heap.size + 1,0,none⟩ (.int .i64 X)).setCell ⟨w.heap.size + 1,1,none⟩ (.int .i64 Y)=wy at *
  go_wp2
  refine bodyPost_ret (v:=.agg #[.int .i64 X,.int .i64 Y]) (by simp [results,Tryz.results43,go_sem,e0,e1]) rfl ⟨rfl,hbe⟩
end Go.Proofs.YtfgapefckpnjjaaGreatDoor
