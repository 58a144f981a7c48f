/- Parts of the proof. -/
import Derived.Test.YtobofhgpidbpmaaDoorSt12
import Derived.Test.YtobofhgpidbpmaaDoorSt6
import Derived.Test.YtobofhgpidbpmaaDoorSt11
import Derived.Test.YtobofhgpidbpmaaDoorSt10
import Derived.Deep.RegionHeld3
import Derived.Test.YtobofhgpidbpmaaDoorSt16
set_option linter.unusedVariables false
set_option linter.unusedSimpArgs false
namespace Go.Proofs.YtobofhgpidbpmaaDoor
open Go Go.RowKit Go.Proofs.YtobofhgpidbpmaaDoor.M
theorem RSum.shape {w w':World} {A B:Int} {x y:NumR} {v:Value} (h:RSum w w' A B x.v y.v v):∃ ng so sn sc e,v=.agg #[.bool ng,.slice so sn sc,.int .i64 e]:=by
  rcases h.2 with ⟨ng,s,m,e,rfl,_,hA⟩ | ⟨_,rfl⟩ | ⟨_,rfl⟩
  . obtain ⟨so,sn,sc,rfl⟩:=hA.num.shape
    exact ⟨_,_,_,_,_,rfl⟩
  . exact ⟨_,_,_,_,_,rfl⟩
  . exact ⟨_,_,_,_,_,rfl⟩
theorem sgn_ord {w:World} {ng:Bool} {so:Option Addr} {sn sc:Nat} {e V:Int} (h:DNum w (.agg #[.bool ng,.slice so sn sc,.int .i64 e]) V):sgn ng sn=ord V 0∧sn<=9223372036854775807:=by
  obtain ⟨ng',s,m,e',h1,hy,ao,n,cap,d,rfl,hR,hN,rfl⟩:=h
  simp only [Value.agg.injEq,Array.mk.injEq,List.cons.injEq,Value.bool.injEq,Value.int.injEq,Value.slice.injEq,and_true,true_and] at h1
  obtain ⟨rfl,⟨rfl,rfl,rfl⟩,rfl⟩:=h1
  refine ⟨?_,by have:=hR.le; have:=hR.max; omega⟩
  by_cases h0:sn=0
  . have:=hy.eq_zero.2 (by rw [h0]; rfl)
    rw [this,ord_eq rfl]
    simp [sgn,h0]
  . have hp:=val_pos hN (show 0<sn by omega)
    cases ng
    . have hn:¬ V<0:=fun h=>by have:=hy.neg_iff.2 h; simp at this
      have hz:V≠0:=fun h=>by have:=hy.eq_zero.1 h; omega
      rw [ord_gt (by omega)]
      simp [sgn,h0]
    . have hn:=hy.neg_iff.1 rfl
      rw [ord_lt hn]
      simp [sgn,h0]
def Src (B:Nat) (w:World) (n:Nat) (r:Nat->NumR) (V:Int) (v:Value):Prop:=DAn B w V v∨∃ i,i<n∧v=(r i).v∧V=(r i).V
theorem Src.keeps {B:Nat} {w w':World} {n:Nat} {r:Nat->NumR} {V:Int} {v:Value} (h:Src B w n r V v) (hb:Below w.heap.size w w'):Src B w' n r V v:=by
  rcases h with h | h
  . exact .inl (h.keeps hb)
  . exact .inr h
def Det (a1 a2 b1 b2 V:Int):Prop:=∃ C D,C*2^4194304=a1*b2∧D*2^4194304=a2*b1∧V=C-D
theorem Det.unique {a1 a2 b1 b2 V V':Int} (h:Det a1 a2 b1 b2 V) (k:Det a1 a2 b1 b2 V'):V=V':=by
  obtain ⟨C,D,h1,h2,rfl⟩:=h
  obtain ⟨C',D',k1,k2,rfl⟩:=k
  rw [scale_inj (h1.trans k1.symm),scale_inj (h2.trans k2.symm)]
theorem wd_nil:wd 0=0:=by decide
def sgP (p:Int):Int:=ord (key p) 0
theorem order_self {p:Int} (hp:rng p) (h:pok p=true):FloatKind.f64.format.order (wd p) (wd p)=some .eq:=q_eq hp hp (q_fin h) (q_fin h) rfl
set_option maxRecDepth 100000 in
theorem cmpNaN {p:Int} (hp:rng p) (h:pok p=true) (w:World) :
    Calls Tryd.prog 42 #[.float .f64 (wd p)] w fun r w'=>r=.returned (.bool false)∧w'=w:=by
  have e:=order_self hp h
  go_enter Tryd.func42,Tryd.ntmps42
  go_wp2
  go_ret
  exact ⟨rfl,rfl⟩
set_option maxRecDepth 100000 in
theorem cmpFloat {p:Int} (hp:rng p) (h:pok p=true) (w:World) :
    Calls Tryd.prog 26 #[.float .f64 (wd p),.float .f64 0] w fun r w'=>r=.returned (.int .i64 (sgP p))∧w'=w:=by
  have r0:rng 0:=by unfold rng; decide
  have p0:pok 0=true:=by decide
  have C1:Hid (∀ W,Calls Tryd.prog 42 #[.float .f64 (wd p)] W fun r w'=>r=.returned (.bool false)∧w'=W):=fun W=>cmpNaN hp h W
  have C2:Hid (∀ W,Calls Tryd.prog 42 #[.float .f64 0] W fun r w'=>r=.returned (.bool false)∧w'=W):=fun W=>by
    have:=cmpNaN r0 p0 W
    rw [wd_nil] at this
    exact this
  have k0:key 0=0:=by decide
  have hord:(FloatKind.f64.format.order (wd p) 0=some .lt∧sgP p=-1)∨(FloatKind.f64.format.order (wd p) 0=some .gt∧sgP p=1)∨(FloatKind.f64.format.order (wd p) 0=some .eq∧sgP p=0):=by
    unfold sgP ord
    rcases Int.lt_trichotomy (key p) 0 with g | g | g
    . exact .inl ⟨by have:=q_lt hp r0 (q_fin h) (q_fin p0) (by rw [k0]; exact g); rw [wd_nil] at this; exact this,by first | simp [g] | (rw [if_pos g])⟩
    . exact .inr (.inr ⟨by have:=q_eq hp r0 (q_fin h) (q_fin p0) (by rw [k0]; exact g); rw [wd_nil] at this; exact this,by rw [g]; decide⟩)
    . exact .inr (.inl ⟨by have:=q_gt hp r0 (q_fin h) (q_fin p0) (by rw [k0]; exact g); rw [wd_nil] at this; exact this,by
        have:¬ key p<0:=by omega
        simp [this,g]⟩)
  clear hp h r0 p0 k0
  generalize sgP p=s at *
  generalize wd p=P at *
  rcases hord with ⟨ho,rfl⟩ | ⟨ho,rfl⟩ | ⟨ho,rfl⟩
  all_goals
    go_enter Tryd.func26,Tryd.ntmps26
    go_wp2_with fail
    refine (C1.out _).mono ?_
    rintro _ wz ⟨rfl,hwz⟩
    replace hwz:=hwz.symm
    subst hwz
    go_wp2_with fail
    refine (C2.out _).mono ?_
    rintro _ wz ⟨rfl,hwz⟩
    replace hwz:=hwz.symm
    subst hwz
    go_wp2
    go_ret
    exact ⟨rfl,rfl⟩
theorem ord_sc {D c X:Int} (hc:0<c) (h:D*c=X):ord D 0=ord X 0:=by
  have e:=ord_mul D 0 c
  rw [Int.zero_mul,h] at e
  have h1:ord c 0=1:=by
    unfold ord
    rw [if_neg (by omega),if_pos hc]
  rw [e,h1,Int.mul_one]
theorem bd_pat {b:Int} (hr:rng b) (h:pok b=true):Bd 1074 (patV b):=by
  obtain ⟨i0,i1,i2,i3⟩:=pmag_in h
  have f:=iV_form hr h
  have hb:((iV b).natAbs:Int)<2^(2*1074):=by
    rw [f]
    have e1:(2:Int)^(pexp b+1074).toNat<=2^2045:=p2le (by omega)
    have p:=p2 (pexp b+1074).toNat
    have e2:(2:Int)^(2*1074)=2^103*2^2045:=by rw [<- Int.pow_add]
    have e3:pmag b*2^(pexp b+1074).toNat<=9007199254740992*2^2045:=Int.mul_le_mul (by omega) e1 (Int.le_of_lt p) (by decide)
    have p3:=p2 2045
    rw [e2,show (2:Int)^103=10141204801825835211973625643008 by decide]
    generalize (2:Int)^2045=z at *
    omega
  refine ⟨iV b,patV_iV hr h,by omega,by omega⟩
theorem vL_bd {s:Nat->Nat->Int} {m:Nat} (hr:∀ i k,rng (s i k)) (hz:∀ i,i<=m->∀ k,k<3->pok (s i k)=true) (p:Nat) (hp:p<4) (k:Nat) (hk:k<3):Bd 1075 (vL s m p k):=by
  unfold vL
  by_cases c:p<m
  . rw [if_pos c,Int.sub_eq_add_neg]
    exact (bd_pat (hr p k) (hz p (by omega) k hk)).add (bd_pat (hr m k) (hz m (Nat.le_refl _) k hk)).neg (by decide)
  . rw [if_neg c]
    exact bd_zero _
theorem q_side (w:World):Calls Tryd.prog 13 #[] w fun e w'=>e=.returned (.agg #[.func (.func 18) #[] #[],.float .f64 4380876537524649991,.func (.func 19) #[] #[]])∧Below w.heap.size w w':=by
  have hs1:∀ p F m w,(store p (.func (.func F) #[] #[]) m).run Tryd.prog w=stored Tryd.prog w p (.func (.func F) #[] #[]) m:=fun p F m w=>run_store _ w p _ m rfl
  have hs2:∀ p x m w,(store p (.float .f64 x) m).run Tryd.prog w=stored Tryd.prog w p (.float .f64 x) m:=fun p x m w=>run_store _ w p _ m rfl
  go_enter Tryd.func13,Tryd.ntmps13
  go_wp2
  exact bodyPost_ret (v:=.agg #[.func (.func 18) #[] #[],.float .f64 4380876537524649991,.func (.func 19) #[] #[]]) (by simp [results,Tryd.results13,go_sem]) rfl ⟨rfl,bel_alloc _ _⟩
theorem cx_side {s:Nat->Nat->Int} (hr:∀ i k,rng (s i k)) (hz:∀ i,i<=3->∀ k,k<3->pok (s i k)=true) {w:World} {arr:Array Value} {R:Nat->Nat->NumR} (hA:LnA w arr (vL s 3) R) (hT:Tab w) :
    Calls Tryd.prog 19 #[.agg arr] w fun r w'=>∃ v D,r=.returned v∧DAns w w' D v∧ord D 0=ord (dX (vL s 3) 0 1 2) 0∧Dok D∧D*(2^4194304*2^4194304)=dX (vL s 3) 0 1 2:=by
  refine (ssideX_any hA (vL_bd hr hz) hT).mono ?_
  rintro _ w' ⟨v,D,rfl,hd,he,hb⟩
  exact ⟨v,D,rfl,hd,ord_sc (Int.mul_pos (two_pos _) (two_pos _)) ((Int.mul_assoc _ _ _).symm.trans he),hb.ok (by decide),(Int.mul_assoc _ _ _).symm.trans he⟩
set_option maxRecDepth 100000 in
set_option maxHeartbeats 2000000 in
theorem xv_side (ao:Option Addr) (cap:Nat) (s:Nat->Nat->Int) (w:World) (h:Sps w ao 4 cap s) (hr:∀ i k,rng (s i k)) (hz:∀ i,i<=3->∀ k,k<3->pok (s i k)=true) (H:Hold4 w) (st:Int) :
    Calls Tryd.prog 22 #[.agg #[.func (.func 18) #[] #[],.float .f64 4380876537524649991,.func (.func 19) #[] #[]],.slice ao 4 cap,.int .i64 st] w fun e w'=>e=.returned (.agg #[.int .i64 (ord (dX (vL s 3) 0 1 2) 0),.int .i64 st])∧Below w.heap.size w w':=by
  have CL:Hid (∀ W,Below w.heap.size w W->Calls Tryd.prog 27 #[.slice ao 4 cap,.func (.func 28) #[] #[]] W fun e w'=>∃ arr R,e=.returned (.agg arr)∧LnA w' arr (vL s 3) R∧Below W.heap.size W w'):=fun W hW=>slegsN_any ao 4 3 cap s W (h.keeps hW) rfl (by decide) hz (H.keeps hW)
  have CE:Hid (∀ W arr R,Below w.heap.size w W->LnA W arr (vL s 3) R->Calls Tryd.prog 19 #[.agg arr] W fun r w'=>∃ v D,r=.returned v∧DAns W w' D v∧ord D 0=ord (dX (vL s 3) 0 1 2) 0∧Dok D):=fun W arr R hW hA=>(cx_side hr hz hA (H.keeps hW).tab).mono fun _ _ ⟨v,D,h1,h2,h3,h4,_⟩=>⟨v,D,h1,h2,h3,h4⟩
  have CS:Hid (∀ W v D,DNum W v D->Dok D->Calls Tryd.prog 38 #[v] W fun r w'=>r=.returned (.tuple #[.int .i64 (ord D 0),.int .i64 0])∧Below W.heap.size W w'):=fun W v D h1 h2=>sign_D h1 h2
  clear h hr hz H
  generalize ord (dX (vL s 3) 0 1 2) 0=sg at *
  have hb0:=bel_alloc2 w (.cells #[.func (.func 18) #[] #[],.float .f64 4380876537524649991,.func (.func 19) #[] #[]] 48) (.cells #[.int .i64 0,.int .i64 0] 29)
  have q_k:=heap_a2 w (.cells #[.func (.func 18) #[] #[],.float .f64 4380876537524649991,.func (.func 19) #[] #[]] 48) (.cells #[.int .i64 0,.int .i64 0] 29)
  have r_k:=heap_b2 w (.cells #[.func (.func 18) #[] #[],.float .f64 4380876537524649991,.func (.func 19) #[] #[]] 48) (.cells #[.int .i64 0,.int .i64 0] 29)
  go_enter Tryd.func22,Tryd.ntmps22
  go_wp2_with fail
  generalize (w.alloc (.cells #[.func (.func 18) #[] #[],.float .f64 4380876537524649991,.func (.func 19) #[] #[]] 48)).alloc (.cells #[.int .i64 0,.int .i64 0] 29)=x0 at hb0 q_k r_k ⊢
  have KK:∀ W,Below x0.heap.size x0 W->W.cell? ⟨w.heap.size,2,none⟩=some (.func (.func 19) #[] #[]):=fun W hb=>q_cell (blkC q_k 2 rfl) hb
  have hC0:=(bel_refl x0).drew
  go_region_held3 (fun W=>W.cell? ⟨w.heap.size,2,none⟩=some (.func (.func 19) #[] #[]))
    (with_reducible first | assumption | exact KK _ hC0 | exact KK _ hC1 | exact KK _ hC2 | exact KK _ hC3 | fail)
    (first | (go_at_call 38; refine (CS.out _ _ _ hd.num hok).mono ?_; rintro _ y3 ⟨rfl,hw3⟩; have hC3:=bel_trans hC2 hw3) | (go_at_call 19; refine (CE.out _ _ _ (bel_trans hb0 hC1) hA).mono ?_; rintro _ y2 ⟨v,D,rfl,hd,hsg,hok⟩; have hC2:=bel_trans hC1 hd.below) | (go_at_call 27; refine (CL.out _ (bel_trans hb0 hC0)).mono ?_; rintro _ y1 ⟨arr,R,rfl,hA,hw1⟩; have hC1:=bel_trans hC0 hw1))
  replace r_k:=blk_us hC3 r_k
  replace hb0:=bel_trans hb0 hC3
  clear q_k KK hC0 hC1 hC2 hC3 hw1 hw3 hd hA hok
  have k0:=blkC r_k 0 rfl
  have k1:=blkC r_k 1 rfl
  have z0:=blkF r_k 0
  have z1:=blkF r_k 1
  go_wp2
  exact bodyPost_ret (v:=.agg #[.int .i64 sg,.int .i64 st]) (by simp [results,Tryd.results22,go_sem,k0,k1]) rfl ⟨rfl,(hb0.setCell (p:=⟨w.heap.size+1,0,none⟩) (show w.heap.size<=w.heap.size+1 by omega) _).setCell (p:=⟨w.heap.size+1,1,none⟩) (show w.heap.size<=w.heap.size+1 by omega) _⟩
theorem q_sphere (w:World):Calls Tryd.prog 16 #[] w fun e w'=>e=.returned (.agg #[.func (.func 29) #[] #[],.float .f64 4386506037058863111,.func (.func 30) #[] #[]])∧Below w.heap.size w w':=by
  have hs1:∀ p F m w,(store p (.func (.func F) #[] #[]) m).run Tryd.prog w=stored Tryd.prog w p (.func (.func F) #[] #[]) m:=fun p F m w=>run_store _ w p _ m rfl
  have hs2:∀ p x m w,(store p (.float .f64 x) m).run Tryd.prog w=stored Tryd.prog w p (.float .f64 x) m:=fun p x m w=>run_store _ w p _ m rfl
  go_enter Tryd.func16,Tryd.ntmps16
  go_wp2
  exact bodyPost_ret (v:=.agg #[.func (.func 29) #[] #[],.float .f64 4386506037058863111,.func (.func 30) #[] #[]]) (by simp [results,Tryd.results16,go_sem]) rfl ⟨rfl,bel_alloc _ _⟩
theorem cx_sphere {s:Nat->Nat->Int} (hr:∀ i k,rng (s i k)) (hz:∀ i,i<=4->∀ k,k<3->pok (s i k)=true) {w:World} {arr:Array Value} {R:Nat->Nat->NumR} (hA:LnA w arr (vL s 4) R) (hT:Tab w) :
    Calls Tryd.prog 30 #[.agg arr] w fun r w'=>∃ v D,r=.returned v∧DAns w w' D v∧ord D 0=ord (sX (vL s 4)) 0∧Dok D∧D*(2^4194304*(2^4194304*2^4194304*2^4194304))=sX (vL s 4):=by
  refine (sphX_any hA (vL_bd hr hz) hT).mono ?_
  rintro _ w' ⟨v,D,rfl,hd,he,hb⟩
  exact ⟨v,D,rfl,hd,ord_sc (Int.mul_pos (two_pos _) (Int.mul_pos (Int.mul_pos (two_pos _) (two_pos _)) (two_pos _))) ((Int.mul_assoc _ _ _).symm.trans he),hb,(Int.mul_assoc _ _ _).symm.trans he⟩
set_option maxRecDepth 100000 in
set_option maxHeartbeats 2000000 in
theorem xv_sphere (ao:Option Addr) (cap:Nat) (s:Nat->Nat->Int) (w:World) (h:Sps w ao 5 cap s) (hr:∀ i k,rng (s i k)) (hz:∀ i,i<=4->∀ k,k<3->pok (s i k)=true) (H:Hold4 w) (st:Int) :
    Calls Tryd.prog 22 #[.agg #[.func (.func 29) #[] #[],.float .f64 4386506037058863111,.func (.func 30) #[] #[]],.slice ao 5 cap,.int .i64 st] w fun e w'=>e=.returned (.agg #[.int .i64 (ord (sX (vL s 4)) 0),.int .i64 st])∧Below w.heap.size w w':=by
  have CL:Hid (∀ W,Below w.heap.size w W->Calls Tryd.prog 27 #[.slice ao 5 cap,.func (.func 28) #[] #[]] W fun e w'=>∃ arr R,e=.returned (.agg arr)∧LnA w' arr (vL s 4) R∧Below W.heap.size W w'):=fun W hW=>slegsN_any ao 5 4 cap s W (h.keeps hW) rfl (by decide) hz (H.keeps hW)
  have CE:Hid (∀ W arr R,Below w.heap.size w W->LnA W arr (vL s 4) R->Calls Tryd.prog 30 #[.agg arr] W fun r w'=>∃ v D,r=.returned v∧DAns W w' D v∧ord D 0=ord (sX (vL s 4)) 0∧Dok D):=fun W arr R hW hA=>(cx_sphere hr hz hA (H.keeps hW).tab).mono fun _ _ ⟨v,D,h1,h2,h3,h4,_⟩=>⟨v,D,h1,h2,h3,h4⟩
  have CS:Hid (∀ W v D,DNum W v D->Dok D->Calls Tryd.prog 38 #[v] W fun r w'=>r=.returned (.tuple #[.int .i64 (ord D 0),.int .i64 0])∧Below W.heap.size W w'):=fun W v D h1 h2=>sign_D h1 h2
  clear h hr hz H
  generalize ord (sX (vL s 4)) 0=sg at *
  have hb0:=bel_alloc2 w (.cells #[.func (.func 29) #[] #[],.float .f64 4386506037058863111,.func (.func 30) #[] #[]] 48) (.cells #[.int .i64 0,.int .i64 0] 29)
  have q_k:=heap_a2 w (.cells #[.func (.func 29) #[] #[],.float .f64 4386506037058863111,.func (.func 30) #[] #[]] 48) (.cells #[.int .i64 0,.int .i64 0] 29)
  have r_k:=heap_b2 w (.cells #[.func (.func 29) #[] #[],.float .f64 4386506037058863111,.func (.func 30) #[] #[]] 48) (.cells #[.int .i64 0,.int .i64 0] 29)
  go_enter Tryd.func22,Tryd.ntmps22
  go_wp2_with fail
  generalize (w.alloc (.cells #[.func (.func 29) #[] #[],.float .f64 4386506037058863111,.func (.func 30) #[] #[]] 48)).alloc (.cells #[.int .i64 0,.int .i64 0] 29)=x0 at hb0 q_k r_k ⊢
  have KK:∀ W,Below x0.heap.size x0 W->W.cell? ⟨w.heap.size,2,none⟩=some (.func (.func 30) #[] #[]):=fun W hb=>q_cell (blkC q_k 2 rfl) hb
  have hC0:=(bel_refl x0).drew
  go_region_held3 (fun W=>W.cell? ⟨w.heap.size,2,none⟩=some (.func (.func 30) #[] #[]))
    (with_reducible first | assumption | exact KK _ hC0 | exact KK _ hC1 | exact KK _ hC2 | exact KK _ hC3 | fail)
    (first | (go_at_call 38; refine (CS.out _ _ _ hd.num hok).mono ?_; rintro _ y3 ⟨rfl,hw3⟩; have hC3:=bel_trans hC2 hw3) | (go_at_call 30; refine (CE.out _ _ _ (bel_trans hb0 hC1) hA).mono ?_; rintro _ y2 ⟨v,D,rfl,hd,hsg,hok⟩; have hC2:=bel_trans hC1 hd.below) | (go_at_call 27; refine (CL.out _ (bel_trans hb0 hC0)).mono ?_; rintro _ y1 ⟨arr,R,rfl,hA,hw1⟩; have hC1:=bel_trans hC0 hw1))
  replace r_k:=blk_us hC3 r_k
  replace hb0:=bel_trans hb0 hC3
  clear q_k KK hC0 hC1 hC2 hC3 hw1 hw3 hd hA hok
  have k0:=blkC r_k 0 rfl
  have k1:=blkC r_k 1 rfl
  have z0:=blkF r_k 0
  have z1:=blkF r_k 1
  go_wp2
  exact bodyPost_ret (v:=.agg #[.int .i64 sg,.int .i64 st]) (by simp [results,Tryd.results22,go_sem,k0,k1]) rfl ⟨rfl,(hb0.setCell (p:=⟨w.heap.size+1,0,none⟩) (show w.heap.size<=w.heap.size+1 by omega) _).setCell (p:=⟨w.heap.size+1,1,none⟩) (show w.heap.size<=w.heap.size+1 by omega) _⟩
theorem key_absS {m d:Int} (hm:rng m) (hd:rng d) (h:key m<rg d):iV m<((iV d).natAbs:Int):=by
  obtain ⟨q1,q2⟩:=q_rg hd
  have e:iV (rg d)=((iV d).natAbs:Int):=by
    rw [iV_abs,iV,decide_eq_false (by omega),rg_rg hd]
    rfl
  rw [<- e]
  exact iV_mono hm q1 (by rw [q_key q2]; exact h)
theorem ord_iff {A B:Int} (h1:0<A ↔ 0<B) (h2:A<0 ↔ B<0):ord A 0=ord B 0:=by
  unfold ord
  by_cases c:A<0
  . rw [if_pos c,if_pos (h2.1 c)]
  . rw [if_neg c,if_neg (fun d=>c (h2.2 d))]
    by_cases e:0<A
    . rw [if_pos e,if_pos (h1.1 e)]
    . rw [if_neg e,if_neg (fun d=>e (h1.2 d))]
def xL (s:Nat->Nat->Int) (m p k:Nat):Int:=if p<m then iV (s p k)-iV (s m k) else 0
theorem vL_xL {s:Nat->Nat->Int} {m:Nat} (hr:∀ i k,rng (s i k)) (hz:∀ i,i<=m->∀ k,k<3->pok (s i k)=true) (p k:Nat) (hk:k<3):vL s m p k=xL s m p k*pw (-1074):=by
  unfold vL xL
  by_cases c:p<m
  . rw [if_pos c,if_pos c,patV_iV (hr p k) (hz p (by omega) k hk),patV_iV (hr m k) (hz m (Nat.le_refl _) k hk),Int.sub_mul]
  . rw [if_neg c,if_neg c,Int.zero_mul]
theorem lg_of {s:Nat->Nat->Int} {m:Nat} (hz:∀ i,i<=m->∀ k,k<3->Mz (s i k)) (p:Nat):Lg (xL s m) (uL s m) p:=by
  refine ⟨fun k hk=>?_,fun k hk=>?_⟩
  . unfold uL
    by_cases c:p<m
    . rw [if_pos c]; exact ((hz p (by omega) k hk).diff (hz m (Nat.le_refl _) k hk)).1
    . rw [if_neg c]; exact fx_zero
  . unfold uL xL
    by_cases c:p<m
    . rw [if_pos c,if_pos c]; exact ((hz p (by omega) k hk).diff (hz m (Nat.le_refl _) k hk)).2
    . rw [if_neg c,if_neg c]
      have e:iV 0=0:=by decide
      unfold Un
      rw [e]
      decide
theorem dX_sc (X Y:Nat->Nat->Int) (c:Int) (p q r:Nat) (h:∀ i k,k<3->Y i k=X i k*c):dX Y p q r=dX X p q r*(c*(c*c)):=by
  unfold dX mX
  rw [h p 0 (by decide),h p 1 (by decide),h p 2 (by decide),h q 0 (by decide),h q 1 (by decide),h q 2 (by decide),h r 0 (by decide),h r 1 (by decide),h r 2 (by decide)]
  grind
theorem lX_sc (X Y:Nat->Nat->Int) (c:Int) (p:Nat) (h:∀ i k,k<3->Y i k=X i k*c):lX Y p=lX X p*(c*c):=by
  unfold lX
  rw [h p 0 (by decide),h p 1 (by decide),h p 2 (by decide)]
  grind
theorem sX_sc (X Y:Nat->Nat->Int) (c:Int) (h:∀ i k,k<3->Y i k=X i k*c):sX Y=sX X*(c*c*(c*(c*c))):=by
  unfold sX
  rw [lX_sc X Y c 0 h,lX_sc X Y c 1 h,lX_sc X Y c 2 h,lX_sc X Y c 3 h,dX_sc X Y c _ _ _ h,dX_sc X Y c _ _ _ h,dX_sc X Y c _ _ _ h,dX_sc X Y c _ _ _ h]
  grind
theorem sgn_pat {d A:Int} (hd:rng d) (h:(0<A ↔ 0<iV d)∧(A<0 ↔ iV d<0)):sgP d=ord A 0:=by
  obtain ⟨k1,k2⟩:=iV_key hd
  unfold sgP
  exact (ord_iff (h.1.trans k2) (h.2.trans k1)).symm
theorem fx_side {s:Nat->Nat->Int} (hz:∀ i,i<=3->∀ k,k<3->Mz (s i k)):rng (dt (uL s 3) 0 1 2)∧pok (dt (uL s 3) 0 1 2)=true∧rng (sxz (uL s 3) 0 1 2)∧pok (sxz (uL s 3) 0 1 2)=true:=⟨(dt_dv (lg_of hz 0) (lg_of hz 1) (lg_of hz 2)).1.r,(dt_dv (lg_of hz 0) (lg_of hz 1) (lg_of hz 2)).1.p,(sxz_sz (lg_of hz 0) (lg_of hz 1) (lg_of hz 2)).1.r,(sxz_sz (lg_of hz 0) (lg_of hz 1) (lg_of hz 2)).1.p⟩
theorem sgn_side {s:Nat->Nat->Int} (hr:∀ i k,rng (s i k)) (hz:∀ i,i<=3->∀ k,k<3->Mz (s i k)) (h:key (fprod sA (sxz (uL s 3) 0 1 2))<rg (dt (uL s 3) 0 1 2)):sgP (dt (uL s 3) 0 1 2)=ord (dX (vL s 3) 0 1 2) 0:=by
  have w0:=pw_pos (-1074)
  have c:0<pw (-1074)*(pw (-1074)*pw (-1074)):=Int.mul_pos w0 (Int.mul_pos w0 w0)
  rw [sgn_pat (dt_dv (lg_of hz 0) (lg_of hz 1) (lg_of hz 2)).1.r (side_sign (lg_of hz 0) (lg_of hz 1) (lg_of hz 2) (key_absS (fprod_rng rng_sA (sxz_sz (lg_of hz 0) (lg_of hz 1) (lg_of hz 2)).1.r) (dt_dv (lg_of hz 0) (lg_of hz 1) (lg_of hz 2)).1.r h))]
  exact ord_sc c (dX_sc (xL s 3) (vL s 3) (pw (-1074)) 0 1 2 (fun i k hk=>vL_xL hr (fun i hi k hk=>(hz i hi k hk).2.1) i k hk)).symm
theorem fx_sphere {s:Nat->Nat->Int} (hz:∀ i,i<=4->∀ k,k<3->Mz (s i k)):rng (fD (uL s 4))∧pok (fD (uL s 4))=true∧rng (fS (uL s 4))∧pok (fS (uL s 4))=true:=⟨(fD_dv (fun p _=>lg_of hz p)).1.r,(fD_dv (fun p _=>lg_of hz p)).1.p,(fS_sz (fun p _=>lg_of hz p)).1.r,(fS_sz (fun p _=>lg_of hz p)).1.p⟩
theorem sgn_sphere {s:Nat->Nat->Int} (hr:∀ i k,rng (s i k)) (hz:∀ i,i<=4->∀ k,k<3->Mz (s i k)) (h:key (fprod sB (fS (uL s 4)))<rg (fD (uL s 4))):sgP (fD (uL s 4))=ord (sX (vL s 4)) 0:=by
  have w0:=pw_pos (-1074)
  have c:0<pw (-1074)*pw (-1074)*(pw (-1074)*(pw (-1074)*pw (-1074))):=Int.mul_pos (Int.mul_pos w0 w0) (Int.mul_pos w0 (Int.mul_pos w0 w0))
  rw [sgn_pat (fD_dv (fun p _=>lg_of hz p)).1.r (sphere_sign (fun p _=>lg_of hz p) (key_absS (fprod_rng rng_sB (fS_sz (fun p _=>lg_of hz p)).1.r) (fD_dv (fun p _=>lg_of hz p)).1.r h))]
  exact ord_sc c (sX_sc (xL s 4) (vL s 4) (pw (-1074)) (fun i k hk=>vL_xL hr (fun i hi k hk=>(hz i hi k hk).2.1) i k hk)).symm
theorem cls_prod {p q:Int} (hp:pok p=true) (rp:rng p) (hq:pok q=true) (rq:rng q):cls (fprod p q)≠4:=by
  obtain ⟨a1,a2⟩:=fin_cls rp hp
  obtain ⟨b1,b2⟩:=fin_cls rq hq
  unfold fprod
  rw [if_neg (fun h=>h.elim a1 b1),if_neg (fun h=>h.elim a2 b2)]
  by_cases c:fsize p q=0
  . rw [if_pos c]
    cases xsg p q <;> decide
  . rw [if_neg c]
    refine (nearP_pat (fun h=>c ?_)).2
    exact sg_eq_zero h
set_option maxRecDepth 100000 in
set_option maxHeartbeats 2000000 in
theorem nb_ok_side (ao:Option Addr) (cap:Nat) (s:Nat->Nat->Int) (w:World) (h:Sps w ao 4 cap s) (hr:∀ i k,rng (s i k)) (hok:allB (sok s) 4=true) (hz:∀ i,i<=3->∀ k,k<3->pok (s i k)=true) (H:Hold4 w) :
    Calls Tryd.prog 15 #[.agg #[.func (.func 18) #[] #[],.float .f64 4380876537524649991,.func (.func 19) #[] #[]],.slice ao 4 cap] w fun e w'=>∃ v D,e=.returned (.tuple #[v,.int .i64 0])∧DAns w w' D v∧ord D 0=ord (dX (vL s 3) 0 1 2) 0∧Dok D∧D*(2^4194304*2^4194304)=dX (vL s 3) 0 1 2:=by
  have CG:Hid (∀ W,Below w.heap.size w W->Calls Tryd.prog 20 #[.slice ao 4 cap] W fun x w'=>x=.returned (.bool true)∧Below W.heap.size W w'):=fun W hW=>by
    have:=sgood_any ao 4 cap s W (h.keeps hW) hr
    rw [hok] at this
    exact this
  have CL:Hid (∀ W,Below w.heap.size w W->Calls Tryd.prog 27 #[.slice ao 4 cap,.func (.func 28) #[] #[]] W fun e w'=>∃ arr R,e=.returned (.agg arr)∧LnA w' arr (vL s 3) R∧Below W.heap.size W w'):=fun W hW=>slegsN_any ao 4 3 cap s W (h.keeps hW) rfl (by decide) hz (H.keeps hW)
  have CE:Hid (∀ W arr R,Below w.heap.size w W->LnA W arr (vL s 3) R->Calls Tryd.prog 19 #[.agg arr] W fun r w'=>∃ v D,r=.returned v∧DAns W w' D v∧ord D 0=ord (dX (vL s 3) 0 1 2) 0∧Dok D∧D*(2^4194304*2^4194304)=dX (vL s 3) 0 1 2):=fun W arr R hW hA=>cx_side hr hz hA (H.keeps hW).tab
  clear h hr hok hz H
  have hb0:=bel_alloc2 w (.cells #[.func (.func 18) #[] #[],.float .f64 4380876537524649991,.func (.func 19) #[] #[]] 48) (.cells #[.bool false,.slice none 0 0,.int .i64 0] 35)
  have q_k:=heap_a2 w (.cells #[.func (.func 18) #[] #[],.float .f64 4380876537524649991,.func (.func 19) #[] #[]] 48) (.cells #[.bool false,.slice none 0 0,.int .i64 0] 35)
  have r_k:=heap_b2 w (.cells #[.func (.func 18) #[] #[],.float .f64 4380876537524649991,.func (.func 19) #[] #[]] 48) (.cells #[.bool false,.slice none 0 0,.int .i64 0] 35)
  go_enter Tryd.func15,Tryd.ntmps15
  go_wp2_with fail
  generalize (w.alloc (.cells #[.func (.func 18) #[] #[],.float .f64 4380876537524649991,.func (.func 19) #[] #[]] 48)).alloc (.cells #[.bool false,.slice none 0 0,.int .i64 0] 35)=x0 at hb0 q_k r_k ⊢
  refine (CG.out _ hb0).mono ?_
  rintro _ y1 ⟨rfl,hw1⟩
  replace q_k:=blk_us hw1 q_k
  replace r_k:=blk_us hw1 r_k
  replace hb0:=bel_trans hb0 hw1
  have hs0:=(Array.getElem?_eq_some_iff.1 r_k).1
  go_wp2_with fail
  have KK:∀ W,Below y1.heap.size y1 W->W.cell? ⟨w.heap.size,2,none⟩=some (.func (.func 19) #[] #[]):=fun W hb=>q_cell (blkC q_k 2 rfl) hb
  have hC0:=(bel_refl y1).drew
  have hneq:w.heap.size≠w.heap.size+1:=by omega
  go_region_held3 (fun W=>W.cell? ⟨w.heap.size,2,none⟩=some (.func (.func 19) #[] #[]))
    (with_reducible first | assumption | exact KK _ hC0 | exact KK _ hC1 | exact KK _ hC2 | exact cell_g3 (KK _ hC2) _ _ _ _ _ _ hneq | fail)
    (first | (go_at_call 19; refine (CE.out _ _ _ (bel_trans hb0 hC1) hA).mono ?_; rintro _ y3 ⟨v,D,rfl,hd,hsg,hok,hcc⟩; obtain ⟨n_g,n_o,n_n,n_c,n_e,rfl⟩:=dans_shape hd; have hC2:=bel_trans hC1 hd.below; have dA:=DAns.from hd (bel_trans hb0 hC1); have r2:=blk_us hC2 r_k; have e0:=blkC r2 0 rfl; have e1:=blkC r2 1 rfl; have e2:=blkC r2 2 rfl; have z0:=blkF r2 0; have z1:=blkF r2 1; have z2:=blkF r2 2) | (go_at_call 27; refine (CL.out _ (bel_trans hb0 hC0)).mono ?_; rintro _ y2 ⟨arr,R,rfl,hA,hw2⟩; have hC1:=bel_trans hC0 hw2))
  all_goals
    go_wp2
    refine bodyPost_ret (v:=.tuple #[.agg #[.bool n_g,.slice n_o n_n n_c,.int .i64 n_e],.int .i64 0]) (by simp [results,Tryd.results15,go_sem,e0,e1,e2]) rfl ⟨_,D,rfl,?_,hsg,hok,hcc⟩
    exact dans_res3 (g:=w.heap.size+1) hd (bel_trans hb0 hC1) (by omega) (Nat.lt_of_lt_of_le hs0 hC1.size) _ _ _
set_option maxRecDepth 100000 in
set_option maxHeartbeats 2000000 in
theorem nb_ok_sphere (ao:Option Addr) (cap:Nat) (s:Nat->Nat->Int) (w:World) (h:Sps w ao 5 cap s) (hr:∀ i k,rng (s i k)) (hok:allB (sok s) 5=true) (hz:∀ i,i<=4->∀ k,k<3->pok (s i k)=true) (H:Hold4 w) :
    Calls Tryd.prog 15 #[.agg #[.func (.func 29) #[] #[],.float .f64 4386506037058863111,.func (.func 30) #[] #[]],.slice ao 5 cap] w fun e w'=>∃ v D,e=.returned (.tuple #[v,.int .i64 0])∧DAns w w' D v∧ord D 0=ord (sX (vL s 4)) 0∧Dok D∧D*(2^4194304*(2^4194304*2^4194304*2^4194304))=sX (vL s 4):=by
  have CG:Hid (∀ W,Below w.heap.size w W->Calls Tryd.prog 20 #[.slice ao 5 cap] W fun x w'=>x=.returned (.bool true)∧Below W.heap.size W w'):=fun W hW=>by
    have:=sgood_any ao 5 cap s W (h.keeps hW) hr
    rw [hok] at this
    exact this
  have CL:Hid (∀ W,Below w.heap.size w W->Calls Tryd.prog 27 #[.slice ao 5 cap,.func (.func 28) #[] #[]] W fun e w'=>∃ arr R,e=.returned (.agg arr)∧LnA w' arr (vL s 4) R∧Below W.heap.size W w'):=fun W hW=>slegsN_any ao 5 4 cap s W (h.keeps hW) rfl (by decide) hz (H.keeps hW)
  have CE:Hid (∀ W arr R,Below w.heap.size w W->LnA W arr (vL s 4) R->Calls Tryd.prog 30 #[.agg arr] W fun r w'=>∃ v D,r=.returned v∧DAns W w' D v∧ord D 0=ord (sX (vL s 4)) 0∧Dok D∧D*(2^4194304*(2^4194304*2^4194304*2^4194304))=sX (vL s 4)):=fun W arr R hW hA=>cx_sphere hr hz hA (H.keeps hW).tab
  clear h hr hok hz H
  have hb0:=bel_alloc2 w (.cells #[.func (.func 29) #[] #[],.float .f64 4386506037058863111,.func (.func 30) #[] #[]] 48) (.cells #[.bool false,.slice none 0 0,.int .i64 0] 35)
  have q_k:=heap_a2 w (.cells #[.func (.func 29) #[] #[],.float .f64 4386506037058863111,.func (.func 30) #[] #[]] 48) (.cells #[.bool false,.slice none 0 0,.int .i64 0] 35)
  have r_k:=heap_b2 w (.cells #[.func (.func 29) #[] #[],.float .f64 4386506037058863111,.func (.func 30) #[] #[]] 48) (.cells #[.bool false,.slice none 0 0,.int .i64 0] 35)
  go_enter Tryd.func15,Tryd.ntmps15
  go_wp2_with fail
  generalize (w.alloc (.cells #[.func (.func 29) #[] #[],.float .f64 4386506037058863111,.func (.func 30) #[] #[]] 48)).alloc (.cells #[.bool false,.slice none 0 0,.int .i64 0] 35)=x0 at hb0 q_k r_k ⊢
  refine (CG.out _ hb0).mono ?_
  rintro _ y1 ⟨rfl,hw1⟩
  replace q_k:=blk_us hw1 q_k
  replace r_k:=blk_us hw1 r_k
  replace hb0:=bel_trans hb0 hw1
  have hs0:=(Array.getElem?_eq_some_iff.1 r_k).1
  go_wp2_with fail
  have KK:∀ W,Below y1.heap.size y1 W->W.cell? ⟨w.heap.size,2,none⟩=some (.func (.func 30) #[] #[]):=fun W hb=>q_cell (blkC q_k 2 rfl) hb
  have hC0:=(bel_refl y1).drew
  have hneq:w.heap.size≠w.heap.size+1:=by omega
  go_region_held3 (fun W=>W.cell? ⟨w.heap.size,2,none⟩=some (.func (.func 30) #[] #[]))
    (with_reducible first | assumption | exact KK _ hC0 | exact KK _ hC1 | exact KK _ hC2 | exact cell_g3 (KK _ hC2) _ _ _ _ _ _ hneq | fail)
    (first | (go_at_call 30; refine (CE.out _ _ _ (bel_trans hb0 hC1) hA).mono ?_; rintro _ y3 ⟨v,D,rfl,hd,hsg,hok,hcc⟩; obtain ⟨n_g,n_o,n_n,n_c,n_e,rfl⟩:=dans_shape hd; have hC2:=bel_trans hC1 hd.below; have dA:=DAns.from hd (bel_trans hb0 hC1); have r2:=blk_us hC2 r_k; have e0:=blkC r2 0 rfl; have e1:=blkC r2 1 rfl; have e2:=blkC r2 2 rfl; have z0:=blkF r2 0; have z1:=blkF r2 1; have z2:=blkF r2 2) | (go_at_call 27; refine (CL.out _ (bel_trans hb0 hC0)).mono ?_; rintro _ y2 ⟨arr,R,rfl,hA,hw2⟩; have hC1:=bel_trans hC0 hw2))
  all_goals
    go_wp2
    refine bodyPost_ret (v:=.tuple #[.agg #[.bool n_g,.slice n_o n_n n_c,.int .i64 n_e],.int .i64 0]) (by simp [results,Tryd.results15,go_sem,e0,e1,e2]) rfl ⟨_,D,rfl,?_,hsg,hok,hcc⟩
    exact dans_res3 (g:=w.heap.size+1) hd (bel_trans hb0 hC1) (by omega) (Nat.lt_of_lt_of_le hs0 hC1.size) _ _ _
end Go.Proofs.YtobofhgpidbpmaaDoor
