/- Parts of the proof. -/
import Derived.Test.YtcjfonaolcokbaaGreatDoorPart7
set_option maxRecDepth 100000
set_option maxHeartbeats 8000000
set_option linter.unusedVariables false
set_option linter.unusedSimpArgs false
namespace Go.Proofs.YtcjfonaolcokbaaGreatDoor
open Go Go.RowKit Go.Proofs.YtcjfonaolcokbaaGreatDoor.M
theorem zK {P:Nat->Prop} {v:Value} {d0:Nat->Int} {eo:Option Addr} {n ec:Nat} {d:Nat->Int} {b:Int} (w:World) (h:b6 P w v ⟨0,d0⟩) (hE:∀ W,a9 P w W->aQ W eo n ec d) (hd:∀ i,i<n->aj (d i)∧ak (d i)=true) (hb:aj b) (pb:ak b=true) (hn:n<=300000) (hP:PB P w) (H:∀ W,a9 P w W->aD W) :
  Calls Tryz.prog 103 #[v,.slice eo n ec,.int .i64 b] w fun e w'=>(mu d b n=true∧∃ (v':Value) (s:Ls),e=.returned v'∧b6 P w' v' s∧s.same (cU d b n)∧a9 P w w')∨(mu d b n=false∧e=ck∧a9 P w w'):=by
 have hmx:=(hE w (a9.refl _ _)).max
 have hle:=(hE w (a9.refl _ _)).le
 cases n with
 | zero=>
  refine (yi w).mono ?_
  rintro e w' ⟨rfl,hw⟩
  subst hw
  exact .inl ⟨rfl,v,_,rfl,h,⟨rfl,fun i hi=>absurd hi (Nat.not_lt_zero _)⟩,a9.refl _ _⟩
 | succ n=>
  by_cases h0:rg b=0
  ·have e1:mu d b (n+1)=true:=if_pos h0
   have e2:cU d b (n+1)=⟨0,fun _=>0⟩:=if_pos h0
   rw [e1,e2]
   refine (wt w hb h0 (by omega)).mono ?_
   rintro e w' ⟨rfl,hw⟩
   subst hw
   exact .inl ⟨rfl,v,_,rfl,h,⟨rfl,fun i hi=>absurd hi (Nat.not_lt_zero _)⟩,a9.refl _ _⟩
  ·have e1:mu d b (n+1)=sx d b n:=if_neg h0
   have e2:cU d b (n+1)=vQ ⟨0,fun _=>0⟩ d b n:=if_neg h0
   rw [e1,e2]
   refine (JH w h hE (fun i hi=>hd i (by omega)) hb pb h0 (show 0+2*n<=700000 by omega) hP H).mono ?_
   rintro e w' (⟨h1,v',h2,h3,h4⟩ | ⟨h1,h2,h3⟩)
   ·refine .inl ⟨h1,v',_,h2,h3,?_,h4⟩
    exact (Az (s:=⟨0,d0⟩) (t:=⟨0,fun _=>0⟩) ⟨rfl,fun i hi=>absurd hi (Nat.not_lt_zero _)⟩ d b n).add _
   ·exact .inr ⟨h1,h2,h3⟩
def gz (d:Nat->Int) (n:Nat) (f:Nat->Int):Nat->Ls
 | 0=>⟨0,fun _=>0⟩
 | k+1=>bX (gz d n f k) (cU d (f k) n).d (cU d (f k) n).n
def jw (d:Nat->Int) (n:Nat) (f:Nat->Int):Nat->Bool
 | 0=>true
 | k+1=>jw d n f k && (mu d (f k) n && cO (gz d n f k) (cU d (f k) n).d (cU d (f k) n).n)
theorem oV (d:Nat->Int) (n:Nat) (f:Nat->Int) (k:Nat):gz d n f (k+1)=bX (gz d n f k) (cU d (f k) n).d (cU d (f k) n).n:=rfl
theorem oW (d:Nat->Int) (n:Nat) (f:Nat->Int) (k:Nat):jw d n f (k+1)=(jw d n f k && (mu d (f k) n && cO (gz d n f k) (cU d (f k) n).d (cU d (f k) n).n)):=rfl
theorem tJ (d:Nat->Int) (n:Nat) (f:Nat->Int):∀ k,(gz d n f k).n<=2*n*k
 | 0=>Nat.zero_le _
 | k+1=>by
  have h1:=tJ d n f k
  have h2:=tH (gz d n f k) (cU d (f k) n).d (cU d (f k) n).n
  have h3:=uR d (f k) n
  rw [oV,Nat.mul_add]
  omega
theorem yp {d:Nat->Int} {n:Nat} {f:Nat->Int}:∀ {k j},j<=k->jw d n f k=true->jw d n f j=true
 | 0,j,h,hx=>by
  obtain rfl:j=0:=by omega
  rfl
 | k+1,j,h,hx=>by
  by_cases e:j=k+1
  ·subst e; exact hx
  ·rw [oW,Bool.and_eq_true] at hx
   exact yp (by omega) hx.1
theorem Ea {s:Ls} {d:Nat->Int} {b:Int} {n:Nat} (hs:s.fin) (hd:∀ i,i<=n->aj (d i)∧ak (d i)=true) (hb:aj b):∀ k,k<=n->sx d b k=true->(ss s d b k).fin
 | 0,_,hx=>hs.add (dU (hd 0 (by omega)).1 hb) (x8 (hd 0 (by omega)).1 hb hx).2
 | k+1,hk,hx=>by
  rw [lY,Bool.and_eq_true,Bool.and_eq_true,Bool.and_eq_true] at hx
  obtain ⟨h1,h2,h3,h4⟩:=hx
  obtain ⟨r1,r2⟩:=mr hd hb k (by omega) h1
  obtain ⟨d1,d2⟩:=hd (k+1) hk
  rw [uO]
  exact ((Ea hs hd hb k (by omega) h1).add (jt r1 (dU d1 hb)) h3).add (xR (aU d1 hb) (aH r1 (dU d1 hb))) (yb (aU d1 hb) (aH r1 (dU d1 hb)) h4).2
theorem yq {d:Nat->Int} {b:Int} {n:Nat} (hd:∀ i,i<n->aj (d i)∧ak (d i)=true) (hb:aj b) (hx:mu d b n=true):(cU d b n).fin:=by
 cases n with
 | zero=>exact fun i hi=>absurd hi (Nat.not_lt_zero _)
 | succ n=>
  by_cases h0:rg b=0
  ·have e2:cU d b (n+1)=⟨0,fun _=>0⟩:=if_pos h0
   rw [e2]
   exact fun i hi=>absurd hi (Nat.not_lt_zero _)
  ·have e1:mu d b (n+1)=sx d b n:=if_neg h0
   have e2:cU d b (n+1)=vQ ⟨0,fun _=>0⟩ d b n:=if_neg h0
   rw [e1] at hx
   rw [e2]
   have hd':∀ i,i<=n->aj (d i)∧ak (d i)=true:=fun i hi=>hd i (by omega)
   obtain ⟨r1,r2⟩:=mr hd' hb n (Nat.le_refl _) hx
   exact (Ea (fun i hi=>absurd hi (Nat.not_lt_zero _)) hd' hb n (Nat.le_refl _) hx).add r1 r2
theorem AE {d:Nat->Int} {n:Nat} {f:Nat->Int} {m:Nat} (hd:∀ i,i<n->aj (d i)∧ak (d i)=true) (hf:∀ i,i<m->aj (f i)∧ak (f i)=true):∀ k,k<=m->jw d n f k=true->(gz d n f k).fin
 | 0,_,_=>fun i hi=>absurd hi (Nat.not_lt_zero _)
 | k+1,hk,hx=>by
  rw [oW,Bool.and_eq_true,Bool.and_eq_true] at hx
  obtain ⟨h1,h2,h3⟩:=hx
  rw [oV]
  exact qO (AE hd hf k (by omega) h1) (yq hd (hf k (by omega)).1 h2) _ (Nat.le_refl _) h3
theorem Ls.same.fin {s t:Ls} (h:s.same t) (ht:t.fin):s.fin:=fun i hi=>by
 rw [h.2 i hi]
 exact ht i (by rw [<- h.1]; exact hi)
theorem a9.below {P:Nat->Prop} {N:Nat} {w w':World} (h:a9 P w w') (hP:∀ k,k<N->P k):Below N w w':=⟨h.os,h.tape,h.output,h.size,fun k hk=>h.block k (hP k hk)⟩
theorem aX.belP {P:Nat->Prop} {N:Nat} {w w':World} {v:Value} {n:Nat} {d:Nat->Int} (h:aX N w v n d) (hb:a9 P w w') (hP:∀ g,v.ownBlock=some g->P g):aX N w' v n d:=h.of_block fun g hg=>hb.block g (hP g hg)
theorem b6.raise {P:Nat->Prop} {N:Nat} {w:World} {v:Value} {s:Ls} (h:b6 P w v s) (hP:∀ k,k<N->P k):aX N w v s.n s.d:=by
 have h1:=h.1
 rcases h1.2 with q | ⟨g,cap,cur,q1,_,q3⟩
 ·exact ⟨h1.1,.inl q⟩
 ·refine ⟨h1.1,.inr ⟨g,cap,cur,q1,?_,q3⟩⟩
  have h2:=h.2 g (by rw [q1]; rfl)
  exact Nat.le_of_not_lt fun e=>h2 (hP g e)
theorem yr {eo fo:Option Addr} {n ec m fc:Nat} {d f:Nat->Int} (w:World) (h:aQ w eo n ec d) (hf:aQ w fo m fc f) (hd:∀ i,i<n->aj (d i)∧ak (d i)=true) (hff:∀ i,i<m->aj (f i)∧ak (f i)=true) (hn:n<=200) (hm:m<=200) (H:aD w) :
    Calls Tryz.prog 70 #[.slice eo n ec,.slice fo m fc] w fun r w'=>XR w (jw d n f m) (gz d n f m) r w':=by
  have hle:=hf.le
  have hmx:=hf.max
  have HE:Hid (aQ w eo n ec d):=h
  have HF:Hid (aQ w fo m fc f):=hf
  have HD:Hid (∀ i,i<n->aj (d i)∧ak (d i)=true):=hd
  have HFF:Hid (∀ i,i<m->aj (f i)∧ak (f i)=true):=hff
  have HH:Hid (aD w):=H
  have HSF:Hid (∀ k,k<=m->jw d n f k=true->(gz d n f k).fin):=AE hd hff
  have HSL:Hid (∀ k,k<=m->(gz d n f k).n<=80000):=fun k hk=>Nat.le_trans (tJ d n f k) (by
    have:2*n*k<=2*200*200:=Nat.mul_le_mul (by omega) (by omega)
    omega)
  clear h hf hd hff H
  go_enter Tryz.func70,Tryz.ntmps70
  go_wp2_with fail
  go_loopw [5,6,11] (fun hv pv iv wr=>∃ (k:Nat) (vh vp:Value) (sh sp:Ls),k<=m∧iv=.int .i64 k∧hv=vh∧pv=vp∧Hid (jw d n f k=true)∧Hid (sh.same (gz d n f k))∧Hid (aX w.heap.size wr vh sh.n sh.d)∧Hid (aX w.heap.size wr vp sp.n sp.d)∧Hid (∀ g,vp.ownBlock=some g->vh.ownBlock≠some g)∧Hid (Below w.heap.size w wr)) (fun _ _ iv _=>m-(intOf iv).toNat)
  case atStart=>exact ⟨0,_,_,⟨0,fun _=>0⟩,⟨0,fun _=>0⟩,Nat.zero_le _,rfl,rfl,rfl,rfl,Ls.same.refl _,aX.nil _ _ _,aX.nil _ _ _,fun g hg=>(by cases hg),Below.refl _ _⟩
  case round=>
    obtain ⟨k,vh,vp,sh,sp,hk,rfl,hve,hvp,HX,HS,HOH,HOP,HAP,HBW⟩:=hrel
    replace hve:=hve.symm
    subst hve
    replace hvp:=hvp.symm
    subst hvp
    by_cases hlt:k<m
    · obtain ⟨bb,off,rfl,hbb,hc⟩:=(HF.out.keeps HBW.out).spot (by omega)
      have c0:=hc k hlt
      clear hc
      obtain ⟨f1,f2⟩:=HFF.out k hlt
      obtain ⟨po,pc,rfl,hpr⟩:=HOP.out.row
      obtain ⟨ho,hcap,rfl,hhr⟩:=HOH.out.row
      have hpm:=hpr.max
      have hpl:=hpr.le
      clear hpr hhr
      have hsz:=HBW.out.size
      have hfin:=HS.out.fin (HSF.out k hk HX.out)
      have hn1:sh.n<=80000:=by rw [HS.out.1]; exact HSL.out k hk
      have HPB:Hid (PB (fun j=>j<w.heap.size∨(Value.slice ho sh.n hcap).ownBlock=some j) wr):=fun j hj=>by
        rcases hj with hj | hj
        · omega
        · exact (HOH.out.ge hj).2
      have CS:Hid (∀ W,W=wr->Calls Tryz.prog 103 #[.slice po 0 pc,.slice eo n ec,.int .i64 (f k)] W fun e w'=>(mu d (f k) n=true∧∃ (v':Value) (s:Ls),e=.returned v'∧b6 (fun j=>j<w.heap.size∨(Value.slice ho sh.n hcap).ownBlock=some j) w' v' s∧s.same (cU d (f k) n)∧a9 (fun j=>j<w.heap.size∨(Value.slice ho sh.n hcap).ownBlock=some j) W w')∨(mu d (f k) n=false∧e=ck∧a9 (fun j=>j<w.heap.size∨(Value.slice ho sh.n hcap).ownBlock=some j) W w')):=fun W hW=>by
        subst hW
        refine zK (d0:=sp.d) W ⟨(HOP.out.cut (Nat.zero_le _)).lower (Nat.zero_le _),fun j hj=>?_⟩ (fun W' hW'=>HE.out.keeps (HBW.out.trans (hW'.below fun j hj=>.inl hj))) HD.out f1 f2 (by omega) HPB.out (fun W' hW'=>HH.out.keeps (HBW.out.trans (hW'.below fun j hj=>.inl hj)))
        have hj':(Value.slice po sp.n pc).ownBlock=some j:=by cases po <;> exact hj
        rintro (h | h)
        · have:=(HOP.out.ge hj').1
          omega
        · exact HAP.out j hj' h
      have HXS:Hid (jw d n f (k+1)=(jw d n f k && (mu d (f k) n && cO (gz d n f k) (cU d (f k) n).d (cU d (f k) n).n))):=oW d n f k
      have HSS:Hid (gz d n f (k+1)=bX (gz d n f k) (cU d (f k) n).d (cU d (f k) n).n):=oV d n f k
      have HNO:Hid (jw d n f (k+1)=false->jw d n f m=false):=fun hno=>by
        cases hx:jw d n f m
        · rfl
        · rw [yp (show k+1<=m by omega) hx] at hno; cases hno
      have hn2:=uR d (f k) n
      have HCF:Hid (mu d (f k) n=true->(cU d (f k) n).fin):=yq HD.out f1
      generalize cU d (f k) n=SC at *
      generalize mu d (f k) n=SX at *
      generalize f k=fk at *
      have i0:(0:Int)<=(k:Int):=by omega
      have i1:(k:Int)<(m:Int):=by omega
      go_wp2_with fail
      refine (CS.out _ rfl).mono ?_
      rintro _ w1 (⟨h1,v1,s1,rfl,hO1,hS1,hb1⟩ | ⟨h1,rfl,hb1⟩)
      · obtain ⟨qo,qc,rfl⟩:=hO1.shape
        have hO1N:aX w.heap.size w1 (.slice qo s1.n qc) s1.n s1.d:=hO1.raise fun j hj=>.inl hj
        have hH1:aX w.heap.size w1 (.slice ho sh.n hcap) sh.n sh.d:=HOH.out.belP hb1 fun g hg=>.inr hg
        have hB1:Below w.heap.size w w1:=HBW.out.trans (hb1.below fun j hj=>.inl hj)
        have hap1:∀ g,(Value.slice qo s1.n qc).ownBlock=some g->(Value.slice ho sh.n hcap).ownBlock≠some g:=fun g hg e=>hO1.2 g hg (.inr e)
        have hs1f:s1.fin:=hS1.fin (HCF.out h1)
        have hs1n:=hS1.1
        have HGS:Hid ((bX sh s1.d s1.n).same (bX (gz d n f k) SC.d SC.n)∧cO sh s1.d s1.n=cO (gz d n f k) SC.d SC.n):=by
          have:=yk HS.out (m:=s1.n) (f:=s1.d) (g:=SC.d) hS1.2 s1.n (Nat.le_refl _)
          show _∧_
          rw [<- hS1.1]
          exact this
        have CG:Calls Tryz.prog 104 #[.slice ho sh.n hcap,.slice qo s1.n qc] w1 fun e w'=>(cO sh s1.d s1.n=true∧∃ v',e=.returned v'∧b6 (fun j=>j<w.heap.size∨(Value.slice qo s1.n qc).ownBlock=some j) w' v' (bX sh s1.d s1.n)∧a9 (fun j=>j<w.heap.size∨(Value.slice qo s1.n qc).ownBlock=some j) w1 w')∨(cO sh s1.d s1.n=false∧e=ck∧a9 (fun j=>j<w.heap.size∨(Value.slice qo s1.n qc).ownBlock=some j) w1 w'):=by
          refine Gy w1 ⟨hH1.lower (Nat.zero_le _),fun j hj=>?_⟩ hfin (fun W hW=>?_) hs1f (by omega) (fun j hj=>?_)
          · rintro (h | h)
            · have:=(hH1.ge hj).1
              omega
            · exact hap1 j h hj
          · obtain ⟨_,_,e1,hR⟩:=(hO1N.belP hW fun g hg=>.inr hg).row
            simp only [Value.slice.injEq] at e1
            obtain ⟨rfl,_,rfl⟩:=e1
            exact hR
          · rcases hj with hj | hj
            · have:=hB1.size
              omega
            · exact (hO1N.ge hj).2
        have HO1:Hid (aX w.heap.size w1 (.slice qo s1.n qc) s1.n s1.d):=hO1N
        have HB1:Hid (Below w.heap.size w w1):=hB1
        have H1:Hid (SX=true):=h1
        clear hO1 hO1N hH1 hap1 hb1 hS1 hs1n hs1f h1 hfin CS
        generalize cO sh s1.d s1.n=GX at *
        generalize bX sh s1.d s1.n=GS at *
        go_wp2_with fail
        refine CG.mono ?_
        rintro _ w2 (⟨h2,v2,rfl,hO2,hb2⟩ | ⟨h2,rfl,hb2⟩)
        · obtain ⟨_,_,rfl⟩:=hO2.shape
          go_wp2
          go_roundw
          case rel=>exact ⟨k+1,_,_,GS,s1,by omega,by go_num,rfl,rfl,by show _=_; rw [HXS.out,HX.out,H1.out,<- HGS.out.2,h2]; rfl,by show Ls.same _ _; rw [HSS.out]; exact HGS.out.1,hO2.raise fun j hj=>.inl hj,HO1.out.belP hb2 fun g hg=>.inr hg,fun g hg e=>hO2.2 g e (.inr hg),HB1.out.trans (hb2.below fun j hj=>.inl hj)⟩
          case measure=>simp [intOf]; omega
        · unfold ck
          go_wp2
          exact ⟨rfl,.inr ⟨HNO.out (by rw [HXS.out,H1.out,<- HGS.out.2,h2]; simp),rfl⟩,HB1.out.trans (hb2.below fun j hj=>.inl hj)⟩
      · unfold ck
        go_wp2
        exact ⟨rfl,.inr ⟨HNO.out (by rw [HXS.out,h1,Bool.false_and,Bool.and_false]),rfl⟩,HBW.out.trans (hb1.below fun j hj=>.inl hj)⟩
    · obtain rfl:k=m:=by omega
      obtain ⟨ho,hcap,rfl,hhr⟩:=HOH.out.row
      clear hhr
      go_wp2
      go_ret
      refine ⟨.inl ⟨HX.out,_,rfl,.inl ?_⟩,HBW.out⟩
      have:=HOH.out.congr HS.out.2
      rw [HS.out.1] at this ⊢
      exact this
end Go.Proofs.YtcjfonaolcokbaaGreatDoor
namespace Go.Proofs.YtcjfonaolcokbaaGreatDoor
open Go Go.RowKit Go.Proofs.YtcjfonaolcokbaaGreatDoor.M Ieee
theorem NW {T a b c d M:Int} (e:T=a+b+c+d) (hM:11*(T.natAbs:Int)<=10*M) (hb:33554432*(b.natAbs:Int)<=T.natAbs) (hc:33554432*(c.natAbs:Int)<=T.natAbs) (hd:33554432*(d.natAbs:Int)<=T.natAbs):(a.natAbs:Int)<=M∧1000*((T-a).natAbs:Int)<=T.natAbs∧1000*(a.natAbs:Int)<=1001*T.natAbs:=by omega
theorem NX {T a H x M:Int} (hM:11*(T.natAbs:Int)<=10*M) (g:1000*((T-a).natAbs:Int)<=T.natAbs) (g2:1000*(a.natAbs:Int)<=1001*T.natAbs) (r1:1000*(H-T).natAbs<=T.natAbs) (r2:1000*(x-a).natAbs<=a.natAbs):((H-x).natAbs:Int)<=M∧300*((H-x).natAbs:Int)<=T.natAbs:=by omega
theorem Gz {T b x M:Int} (hM:11*(T.natAbs:Int)<=10*M) (hb:33554432*(b.natAbs:Int)<=T.natAbs) (r:1000*(x-b).natAbs<=b.natAbs):(b.natAbs:Int)<=M∧30000*(x.natAbs:Int)<=T.natAbs:=by omega
theorem BM {T b M:Int} (hM:11*(T.natAbs:Int)<=10*M) (hb:33554432*(b.natAbs:Int)<=T.natAbs):(b.natAbs:Int)<=M:=by omega
theorem NY {T t S x M:Int} (hM:11*(T.natAbs:Int)<=10*M) (g:300*(S.natAbs:Int)<=T.natAbs) (r1:1000*(t-S).natAbs<=S.natAbs) (hx:30000*(x.natAbs:Int)<=T.natAbs):((t-x).natAbs:Int)<=M∧290*((t-x).natAbs:Int)<=T.natAbs:=by omega
theorem NZ {T t S x M:Int} (hM:11*(T.natAbs:Int)<=10*M) (g:290*(S.natAbs:Int)<=T.natAbs) (r1:1000*(t-S).natAbs<=S.natAbs) (hx:30000*(x.natAbs:Int)<=T.natAbs):((t-x).natAbs:Int)<=M∧280*((t-x).natAbs:Int)<=T.natAbs:=by omega
theorem N0 {T t S x M:Int} (hM:11*(T.natAbs:Int)<=10*M) (g:280*(S.natAbs:Int)<=T.natAbs) (r1:1000*(t-S).natAbs<=S.natAbs) (hx:30000*(x.natAbs:Int)<=T.natAbs):((x-t).natAbs:Int)<=M:=by omega
theorem K6 {K T a b c d P Q R S x y:Int} (hK:0<K) (hx:x=P+Q) (hy:y=R+S) (hT:K*T=x*y) (e1:K*a=P*R) (e2:K*b=Q*R) (e3:K*c=P*S) (e4:K*d=Q*S):T=a+b+c+d:=by
 refine Int.eq_of_mul_eq_mul_left (Int.ne_of_gt hK) ?_
 rw [hT,Int.mul_add,Int.mul_add,Int.mul_add,e1,e2,e3,e4,hx,hy,Int.add_mul,Int.mul_add,Int.mul_add]
 exact Nx _ _ _ _
theorem Eb {a h l:Int} (H:Ar a h l):(h.natAbs:Int)<=2*(a.natAbs:Int)∧(l.natAbs:Int)<=2*(a.natAbs:Int):=by
 have:=ql H
 have:=H.sum
 omega
theorem yt {p q T:Int} (hp:M.aj p) (hq:M.aj q) (pQ:ak (fI p)=true) (pS:ak (fI q)=true) (ph:ak (aq p q)=true) (hT:2^1074*T=iV p*iV q) (hM:11*(T.natAbs:Int)<=10*ii):ak (bm p q)=true:=by
 obtain ⟨pp,pP,ha⟩:=jR hp pQ
 obtain ⟨pq,pR,hb⟩:=jR hq pS
 obtain ⟨rP,rQ⟩:=tE hp
 obtain ⟨rR,rS⟩:=tE hq
 have rT1:M.aj (Ao p q):=aH (aU hp hq) (aZ (aU rP rR))
 have rT2:M.aj (Ap p q):=aH rT1 (aZ (aU rQ rR))
 have rT3:M.aj (Aq p q):=aH rT2 (aZ (aU rP rS))
 have hd:(2^1074:Int) ∣ iV p*iV q:=⟨T,hT.symm⟩
 obtain ⟨i,j,eij,di,dj⟩:=vJ 1074 _ _ hd
 have dP:=ha.dvd i di
 have dR:=hb.dvd j dj
 have dQ:(2^i:Int) ∣ iV (fI p):=by have:=ha.sum; rw [show iV (fI p)=iV p-iV (gN p) by omega]; exact Int.dvd_sub di dP
 have dS:(2^j:Int) ∣ iV (fI q):=by have:=hb.sum; rw [show iV (fI q)=iV q-iV (gN q) by omega]; exact Int.dvd_sub dj dR
 obtain ⟨Tpr,e1⟩:=iW eij dP dR
 obtain ⟨Tqr,e2⟩:=iW eij dQ dR
 obtain ⟨Tps,e3⟩:=iW eij dP dS
 obtain ⟨Tqs,e4⟩:=iW eij dQ dS
 have hK:=p2 1074
 have es:=K6 hK ha.sum.symm hb.sum.symm hT e1 e2 e3 e4
 have s1:=ql ha
 have s2:=ql hb
 have t1:=Eb ha
 have t2:=Eb hb
 have b2:=sK hK hT e2 (BL s1 t2.1)
 have b3:33554432*(Tps.natAbs:Int)<=(T.natAbs:Int):=by
  refine sK hK hT e3 ?_
  rw [Int.mul_comm (iV (gN p)),Int.mul_comm (iV p)]
  exact BL s2 t1.1
 have b4:=sK hK hT e4 (BL s1 t2.2)
 have rH:=gm ((dq hp hq pp pq hT).nr ph)
 obtain ⟨c1,c2,c3⟩:=NW es hM b2 b3 b4
 have X1:=dq rP rR pP pR e1
 have p1:=X1.fin c1
 have Y1:=bP (aU hp hq) (aU rP rR) ph p1
 obtain ⟨d1,d2⟩:=NX hM c2 c3 rH (gm (X1.nr p1))
 have q1:=Y1.fin d1
 have X2:=dq rQ rR pQ pR e2
 have p2:=X2.fin (BM hM b2)
 have x2:=(Gz hM b2 (gm (X2.nr p2))).2
 have Y2:=bP rT1 (aU rQ rR) q1 p2
 obtain ⟨d3,d4⟩:=NY hM d2 (gm (Y1.nr q1)) x2
 have q2:=Y2.fin d3
 have X3:=dq rP rS pP pS e3
 have p3:=X3.fin (BM hM b3)
 have x3:=(Gz hM b3 (gm (X3.nr p3))).2
 have Y3:=bP rT2 (aU rP rS) q2 p3
 obtain ⟨d5,d6⟩:=NZ hM d4 (gm (Y2.nr q2)) x3
 have q3:=Y3.fin d5
 have X4:=dq rQ rS pQ pS e4
 have p4:=X4.fin (BM hM b4)
 have x4:=(Gz hM b4 (gm (X4.nr p4))).2
 exact (bP (aU rQ rS) rT3 p4 q3).fin (N0 hM d6 (gm (Y3.nr q3)) x4)
theorem yu {g:Bool} {r:Int} (h0:0<=r) (h1:r<=9218868437227405312):au (aC g r)=sg g r:=by
 unfold au aC sg
 cases g
 ·simp only [Bool.false_eq_true,if_false]
  rw [if_neg (by omega)]
 ·simp only [if_true]
  rw [if_pos (by omega)]
  omega
theorem JI (g:Bool) {r:Int} (h0:0<=r):sg (g && decide (0<r)) r=sg g r:=by
 by_cases c:0<r
 ·rw [decide_eq_true c,Bool.and_true]
 ·have:r=0:=by omega
  rw [this,dI,dI]
theorem GA {g k:Bool} {r:Int} (h0:0<=r) (h1:r<=9218868437227405312) (e:sg g r=sg k r):de (aC g r) (aC k r)=true:=by
 unfold de
 rw [decide_eq_false (fH h0 h1).2,decide_eq_false (fH h0 h1).2,yu h0 h1,yu h0 h1,decide_eq_true e]
 rfl
theorem MG {ng:Bool} {A S:Int} (h0:0<=A) (h1:ng=true->0<A) (e:S=sg ng A):ng=decide (S<0):=by
 cases ng
 ·have e:S=A:=e
  exact (decide_eq_false (by omega)).symm
 ·have:=h1 rfl
  have e:S=-A:=e
  exact (decide_eq_true (by omega)).symm
theorem MH {ng:Bool} {A:Int} (h1:ng=true->0<A) (e:0=sg ng A):A=0∧ng=false:=by
 cases ng
 ·exact ⟨e.symm,rfl⟩
 ·have:=h1 rfl
  have e:0=-A:=e
  omega
theorem Ec {S h:Int} {g ng:Bool} {f:Int->Int × Bool} (hR:lB S ng f) (hh:(S=0∧h=aC g 0)∨(S≠0∧h=bu S)):de h (f 0).1=true:=by
 obtain ⟨A,r0,left,eS,hA,hu,hf⟩:=hR
 rw [hf 0]
 have hA0:0<=A:=Int.le_trans (mN r0) hu.lo
 rcases hh with ⟨e0,eh⟩ | ⟨e0,eh⟩
 ·rw [e0] at eS
  obtain ⟨z1,z2⟩:=MH hA eS
  subst z1 z2
  obtain ⟨y1,y2⟩:=hu.unique mM
  subst y1 y2
  rw [eh,oG]
  cases g <;> decide
 ·obtain ⟨A',r0',left',eA,hu',eN⟩:=gg e0
  have eg:=MG hA0 hA eS
  rw [<- eg] at eA eN
  have:A=A':=js (eS.symm.trans eA)
  rw [<- this] at hu'
  obtain ⟨y1,y2⟩:=hu.unique hu'
  subst y1 y2
  have hrr:=b9 0 ng r0 left
  rw [eh,eN]
  exact GA hrr.1 hrr.2 (JI ng hrr.1).symm
end Go.Proofs.YtcjfonaolcokbaaGreatDoor
namespace Go.Proofs.YtcjfonaolcokbaaGreatDoor
open Go Go.RowKit Go.Proofs.YtcjfonaolcokbaaGreatDoor.M
theorem tK {d T:Nat->Int} {b:Int} {B N:Nat} (hd:XV d (N+1)) (rb:aj b) (hB1:(2^B:Int) ∣ iV b) (hB2:((iV b).natAbs:Int)<9007199254740992*2^B) (hT:vV d T b (N+1)):∀ k,k<=N->sx d b k=true->SI d T B N k (ss ⟨0,fun _=>0⟩ d b k) (sq d b k)
 | 0,_,hx=>JF hd rb hB1 hB2 hT hx
 | k+1,hk,hx=>by
  rw [lY,Bool.and_eq_true,Bool.and_eq_true,Bool.and_eq_true] at hx
  obtain ⟨h1,h2,h3,h4⟩:=hx
  have hfin:∀ i,i<=N->aj (d i)∧ak (d i)=true:=fun i hi=>⟨(hd.fin i (by omega)).1,(hd.fin i (by omega)).2.1⟩
  obtain ⟨r1,r2⟩:=mr hfin rb k (by omega) h1
  rw [uO,uN]
  exact JG hd rb hB1 hB2 hT (by omega) r1 r2 (tK hd rb hB1 hB2 hT k (by omega) h1) h2 h3 h4
theorem GB {x:Int} (rx:aj x) (px:ak x=true) (zx:rg x≠0):∃ (t:Nat) (c:Int),iV x=2^t*c∧c % 2=1:=by
 have hm:=(gU rx px zx).2
 obtain ⟨j0,j1,j2,j3⟩:=eE px
 obtain ⟨m,hmm,_,_⟩:=fV (show 0<aK x by omega) (by omega)
 have e2:=iz rx px
 have e3:((iV x).natAbs:Int)=2^(jz (aK x)+(bi x+1074).toNat)*(2*(m:Int)+1):=by
  rw [e2,Int.pow_add]
  calc aK x*2^(bi x+1074).toNat=2^jz (aK x)*(2*(m:Int)+1)*2^(bi x+1074).toNat:=by rw [<- hmm]
   _=_:=by rw [Int.mul_assoc,Int.mul_comm (2*(m:Int)+1),<- Int.mul_assoc]
 by_cases h:0<=iV x
 ·exact ⟨jz (aK x)+(bi x+1074).toNat,2*(m:Int)+1,by rw [<- e3]; omega,by omega⟩
 ·refine ⟨jz (aK x)+(bi x+1074).toNat,-(2*(m:Int)+1),?_,by omega⟩
  rw [Int.mul_neg]
  omega
theorem tL {s:Nat} {c Z:Int} (hc:c % 2=1) (h:(2^s:Int) ∣ c*Z):(2^s:Int) ∣ Z:=by
  induction s generalizing Z with
  | zero=>rw [Int.pow_zero]; exact Int.one_dvd _
  | succ s ih=>
    obtain ⟨a,ha⟩:=h
    rw [cX,Int.mul_assoc] at ha
    have hZ:Z % 2=0:=by
      have h1:(c*Z) % 2=0:=by rw [ha]; omega
      rw [Int.mul_emod,hc] at h1
      omega
    obtain ⟨Y,rfl⟩:∃ Y,Z=2*Y:=⟨Z/2,by omega⟩
    have h2:(2^s:Int) ∣ c*Y:=⟨a,by
      have:c*(2*Y)=2*(c*Y):=by rw [Int.mul_left_comm]
      rw [this] at ha
      omega⟩
    obtain ⟨e,he⟩:=ih h2
    exact ⟨e,by rw [cX,he,Int.mul_assoc]⟩
theorem JJ {d T:Nat->Int} {b:Int} {B N k:Nat} (hd:XV d (N+1)) (rb:aj b) (zb:iV b≠0) (hT:vV d T b (N+1)) (hk:k<N) {L:Ls} {q:Int} (rq:aj q) (pq:ak q=true) (h:SI d T B N k L q)
    (hx1:pX (d (k+1)) b=true) (hx2:ak (sL q (bm (d (k+1)) b))=true):((iV (ap q (bm (d (k+1)) b))).natAbs:Int)<=((iV (aq (d (k+1)) b)).natAbs:Int):=by
  obtain ⟨rx,px,zx⟩:=hd.fin (k+1) (by omega)
  have hTk:=hT (k+1) (by omega)
  obtain ⟨pT,pu,eT,nT⟩:=lP rx rb hx1 hTk
  have ru:=dU rx rb
  have n1:=kN rq ru hx2
  obtain ⟨t,c,hxc,hc⟩:=GB rx px zx
  have xne:=hd.ne (show k+1<N+1 by omega)
  obtain ⟨s0,l1,l2⟩:=hd.lo k (by omega)
  have hs0:s0<=t:=by
    obtain ⟨m,hm⟩:∃ m,c=2*m+1:=⟨c/2,by omega⟩
    rw [hxc,hm] at l2
    exact AC l2
  have hlt:((iV (d k)).natAbs:Int)<2^t:=Int.lt_of_lt_of_le l1 (eY hs0)
  -- the unit of the product
  obtain ⟨Z,hZ⟩:∃ Z,2^1074*Z=2^t*iV b:=by
    have h1:(2^1074:Int) ∣ c*(2^t*iV b):=⟨T (k+1),by
      rw [hTk,hxc,Int.mul_assoc,Int.mul_left_comm]⟩
    obtain ⟨Z,h2⟩:=tL hc h1
    exact ⟨Z,h2.symm⟩
  have hTZ:T (k+1)=c*Z:=by
    have:(2:Int)^1074*T (k+1)=2^1074*(c*Z):=by
      rw [hTk,hxc,Int.mul_left_comm (2^1074) c Z,hZ,Int.mul_assoc,Int.mul_left_comm]
    exact Int.eq_of_mul_eq_mul_left (Int.ne_of_gt (p2 1074)) this
  have fZ:Fl Z:=by
    have h1:=(dE b).up t
    rw [<- hZ] at h1
    exact h1.down
  have hxk:XV d (k+1):=⟨fun i hi=>hd.fin i (by omega),fun i hi=>hd.lo i (by omega)⟩
  have hpt:((vW T (k+1)).natAbs:Int)<(Z.natAbs:Int):=by
    have h1:=mw hT (k+1) (by omega)
    have h2:=mv hxk t hlt
    have e1:((2^1074*vW T (k+1)).natAbs:Int)=2^1074*((vW T (k+1)).natAbs:Int):=c7 1074 _
    have e2:((2^1074*Z).natAbs:Int)=2^1074*(Z.natAbs:Int):=c7 1074 _
    have e3:((2^t*iV b).natAbs:Int)=2^t*((iV b).natAbs:Int):=c7 t _
    have e4:((cu d (k+1)*iV b).natAbs:Int)=((cu d (k+1)).natAbs:Int)*((iV b).natAbs:Int):=by rw [Int.natAbs_mul,Int.natCast_mul]
    rw [h1,e4] at e1
    rw [hZ,e3] at e2
    have e5:((cu d (k+1)).natAbs:Int)*((iV b).natAbs:Int)<2^t*((iV b).natAbs:Int):=Int.mul_lt_mul_of_pos_right h2 (by omega)
    rw [e1,e2] at e5
    exact Int.lt_of_mul_lt_mul_left e5 (Int.le_of_lt (p2 1074))
  have hq:((iV q).natAbs:Int)<=(Z.natAbs:Int):=by
    have hsum:=h.sum
    by_cases hn:L.n=0
    · have:cu L.d L.n=0:=by rw [hn]; rfl
      omega
    · obtain ⟨m,hm⟩:∃ m,L.n=m+1:=⟨L.n-1,by omega⟩
      obtain ⟨s,a1,a2,a3⟩:=h.up m (by omega)
      have hxL:=h.xv
      rw [hm] at hxL hsum
      have a4:=mv hxL s a1
      have a5:(2^s:Int) ∣ Z:=tL hc (by rw [<- hTZ]; exact a3 (k+1) (by omega) (by omega))
      apply Classical.byContradiction
      intro hno
      have a6:=uS (u:=0) a5 (Int.dvd_natAbs.2 a2) (show (Z.natAbs:Int)<((iV q).natAbs:Int) by omega)
      omega
  have fZa:Fl (Z.natAbs:Int):=by
    by_cases h0:0<=Z
    · rw [show (Z.natAbs:Int)=Z by omega]; exact fZ
    · rw [show (Z.natAbs:Int)=-Z by omega]; exact fZ.neg
  have fTa:Fl ((iV (aq (d (k+1)) b)).natAbs:Int):=by
    have f0:=dE (aq (d (k+1)) b)
    by_cases h0:0<=iV (aq (d (k+1)) b)
    · rw [show ((iV (aq (d (k+1)) b)).natAbs:Int)=iV (aq (d (k+1)) b) by omega]; exact f0
    · rw [show ((iV (aq (d (k+1)) b)).natAbs:Int)=-iV (aq (d (k+1)) b) by omega]; exact f0.neg
  have hS:((iV q+iV (bm (d (k+1)) b)).natAbs:Int)<=((iV (aq (d (k+1)) b)).natAbs:Int):=by
    rw [hTZ] at eT nT
    by_cases h1:c=1∨c=-1
    · have hTf:Fl (c*Z):=by
        rcases h1 with rfl | rfl
        · rw [Int.one_mul]; exact fZ
        · rw [Int.neg_mul,Int.one_mul]; exact fZ.neg
      have h2:=aY hTf nT
      have h3:((c*Z).natAbs:Int)=(Z.natAbs:Int):=by
        rcases h1 with rfl | rfl
        · rw [Int.one_mul]
        · rw [Int.neg_mul,Int.one_mul]; omega
      omega
    · have h2:=gm nT
      have h3:3*(Z.natAbs:Int)<=((c*Z).natAbs:Int):=by
        rw [Int.natAbs_mul,Int.natCast_mul]
        exact Int.mul_le_mul_of_nonneg_right (by omega) (by omega)
      omega
  have g1:=Ii n1 fTa (by omega)
  have g2:=tz n1 fTa.neg (by omega)
  omega
def kH (x:Int):Prop:=aj x∧ak x=true∧rg x≠0∧(2^822:Int) ∣ iV x∧((iV x).natAbs:Int)<=2^1250
theorem K7 (X a c:Int):X*a*(X*c)=X*X*(a*c):=by grind
theorem In {x b:Int} (hx:kH x) (hb:kH b):∃ T,2^1074*T=iV x*iV b:=by
 obtain ⟨a,ha⟩:=hx.2.2.2.1
 obtain ⟨c,hc⟩:=hb.2.2.2.1
 have h1:(2^1074:Int) ∣ 2^822*2^822:=by rw [<- Int.pow_add]; exact ct (by decide)
 obtain ⟨k,hk⟩:=h1
 refine ⟨k*(a*c),?_⟩
 rw [ha,hc,K7,hk,Int.mul_assoc]
theorem Io {b:Int} (hb:kH b):∃ B:Nat,(2^B:Int) ∣ iV b∧((iV b).natAbs:Int)<9007199254740992*2^B∧B<=1250:=by
 obtain ⟨B,h1,h2⟩:=dE b
 refine ⟨B,h1,h2,?_⟩
 have h3:=ik h1 (gU hb.1 hb.2.1 hb.2.2.1).1 (p2 B)
 have h4:(2:Int)^B<2^(1250+1):=by
  rw [cX]
  have:=hb.2.2.2.2
  have:=p2 1250
  omega
 have:=oN h4
 omega
theorem tM {x:Int} (hx:kH x):((iV x).natAbs:Int)<2^1251:=by
 have h:=hx.2.2.2.2
 have p:(2:Int)^1251=2*2^1250:=cX 1250
 have:=p2 1250
 omega
theorem Ed {Y:Int} {g:Nat} (h:Y<9007199254740992*2^g) (hg:g<=1427):Y<=2^1480:=by
 have h1:(9007199254740992:Int)*2^g<=2^1480:=by
  have:(9007199254740992:Int)=2^53:=by decide
  rw [this,<- Int.pow_add]
  exact eY (by omega)
 omega
theorem GC {X:Int} (h:X<=2^1480):16*X<=ii:=by
 have h1:=fY
 have h2:(2:Int)^1484<=2^2097:=eY (by decide)
 have h3:(2:Int)^1484=16*2^1480:=by
  rw [show 1484=1480+1+1+1+1 by decide,cX,cX,cX,cX]; omega
 omega
theorem Ee {x:Int} (hx:kH x):ak (fI x)=true:=by
 refine yj (B:=2^1250) hx.1 hx.2.1 hx.2.2.2.2 ?_
 have h1:=fY
 have h2:(2:Int)^1278<=2^2097:=eY (by decide)
 have h3:(2:Int)^1278=268435456*2^1250:=by
  have:(268435456:Int)=2^28:=by decide
  rw [this,<- Int.pow_add]
 have:=p2 1250
 omega
theorem Ip {x b T:Int} (hx:kH x) (hb:kH b) (hT:2^1074*T=iV x*iV b):(T.natAbs:Int)<=2^1480:=by
 obtain ⟨B,b1,b2,b3⟩:=Io hb
 have h1:=nN (tM hx) b1 b2 hT
 exact Ed (g:=1251+B-1074) (by have:=p2 (1251+B-1074); omega) (by omega)
theorem Ef {x b:Int} (hx:kH x) (hb:kH b):pX x b=true:=by
 obtain ⟨T,hT⟩:=In hx hb
 have h2:=Ip hx hb hT
 have h3:=GC h2
 have hf:=(dq hx.1 hb.1 hx.2.1 hb.2.1 hT).fin (by omega)
 unfold pX
 rw [yt hx.1 hb.1 (Ee hx) (Ee hb) hf hT (by omega),(DV hx.1 hb.1 hx.2.1 hb.2.1).2 ⟨_,hT⟩]
 rfl
theorem K8 {d:Nat->Int} {b:Int} {N:Nat} (hd:XV d (N+1)) (hm:∀ j,j<=N->kH (d j)) (hb:kH b):∃ (T:Nat->Int) (B:Nat),vV d T b (N+1)∧(2^B:Int) ∣ iV b∧((iV b).natAbs:Int)<9007199254740992*2^B∧B<=1250∧∀ k,k<=N->sx d b k=true∧((iV (sq d b k)).natAbs:Int)<=2^1480:=by
 obtain ⟨B,b1,b2,b3⟩:=Io hb
 have hex:∀ j,∃ t:Int,j<N+1->2^1074*t=iV (d j)*iV b:=fun j=>by
  by_cases h:j<N+1
  ·obtain ⟨t,ht⟩:=In (hm j (by omega)) hb
   exact ⟨t,fun _=>ht⟩
  ·exact ⟨0,fun h'=>absurd h' h⟩
 obtain ⟨T,hT0⟩:=Classical.axiomOfChoice hex
 have hT:vV d T b (N+1):=hT0
 clear hT0 hex
 refine ⟨T,B,hT,b1,b2,b3,fun k=>?_⟩
 have hfin:∀ i,i<=N->aj (d i)∧ak (d i)=true:=fun i hi=>⟨(hd.fin i (by omega)).1,(hd.fin i (by omega)).2.1⟩
 have bq:∀ k,k<=N->sx d b k=true->((iV (sq d b k)).natAbs:Int)<=2^1480:=fun k hk hx=>by
  have h:=tK hd hb.1 b1 b2 hT k hk hx
  have h1:=qS h.xv (h.small 1251 (tM (hm k hk)))
  have hxk:XV d (k+1):=⟨fun i hi=>hd.fin i (by omega),fun i hi=>hd.lo i (by omega)⟩
  have h2:=nN (mv hxk 1251 (tM (hm k hk))) b1 b2 (mw hT (k+1) (by omega))
  have h3:=h.sum
  exact Ed (g:=1251+B-1074) (by generalize (2:Int)^(1251+B-1074)=Y at *; omega) (by omega)
 induction k with
 | zero=>
  intro hk
  have h0:sx d b 0=true:=Ef (hm 0 (by omega)) hb
  exact ⟨h0,bq 0 hk h0⟩
 | succ k ih=>
  intro hk
  obtain ⟨hx,hqb⟩:=ih (by omega)
  have h:=tK hd hb.1 b1 b2 hT k (by omega) hx
  obtain ⟨rq,pq⟩:=mr hfin hb.1 k (by omega) hx
  have x1:=Ef (hm (k+1) hk) hb
  have xT:=Ip (hm (k+1) hk) hb (hT (k+1) (by omega))
  obtain ⟨rx,px⟩:=hfin (k+1) hk
  obtain ⟨pT,pu,eT,nT⟩:=lP rx hb.1 x1 (hT (k+1) (by omega))
  have ru:=dU rx hb.1
  have rT:=aU rx hb.1
  have z:=nT.2 0 co
  have k1:=GC hqb
  have k2:=GC xT
  obtain ⟨p1,pl1⟩:=qQ rq ru pq pu (by omega) (by omega)
  have r1:=aH rq ru
  have hab:=JJ hd hb.1 (gU hb.1 hb.2.1 hb.2.2.1).1 hT (by omega) rq pq h x1 pl1
  have p2':=(eI rT r1 pT p1).fin (by omega)
  obtain ⟨pl2,e2⟩:=nL rT r1 pT p1 p2' (by omega)
  have x3:fX (aq (d (k+1)) b) (ap (sq d b k) (bm (d (k+1)) b))=true:=by
   rw [DP rT r1 pl2]
   exact decide_eq_true e2
  have hx':sx d b (k+1)=true:=by rw [lY,hx,x1,pl1,x3]; rfl
  exact ⟨hx',bq (k+1) hk hx'⟩
theorem GD {d:Nat->Int} {b:Int} {n:Nat} (hd:XV d n) (hm:∀ j,j<n->kH (d j)) (hb:kH b):mu d b n=true∧XV (cU d b n).d (cU d b n).n∧LB (cU d b n) 1480∧2^1074*cu (cU d b n).d (cU d b n).n=cu d n*iV b:=by
 cases n with
 | zero=>exact ⟨rfl,⟨fun i hi=>absurd hi (Nat.not_lt_zero _),fun i hi=>absurd hi (Nat.not_lt_zero _)⟩,fun i hi=>absurd hi (Nat.not_lt_zero _),by show 2^1074*(0:Int)=0*iV b; rw [Int.mul_zero,Int.zero_mul]⟩
 | succ N=>
  have e1:mu d b (N+1)=sx d b N:=if_neg hb.2.2.1
  have e2:cU d b (N+1)=vQ ⟨0,fun _=>0⟩ d b N:=if_neg hb.2.2.1
  rw [e1,e2]
  obtain ⟨T,B,hT,b1,b2,b3,hall⟩:=K8 hd (fun j hj=>hm j (by omega)) hb
  obtain ⟨hx,hq⟩:=hall N (Nat.le_refl _)
  have h:=tK hd hb.1 b1 b2 hT N (Nat.le_refl _) hx
  have hfin:∀ i,i<=N->aj (d i)∧ak (d i)=true:=fun i hi=>⟨(hd.fin i (by omega)).1,(hd.fin i (by omega)).2.1⟩
  obtain ⟨rq,pq⟩:=mr hfin hb.1 N (Nat.le_refl _) hx
  refine ⟨hx,h.xv.add rq pq fun i hi=>?_,LB.add (fun i hi=>?_) hq,?_⟩
  ·obtain ⟨s,h1,h2,_⟩:=h.up i hi
   exact ⟨s,h1,h2⟩
  ·have:=h.small 1251 (tM (hm N (by omega))) i hi
   exact Int.le_trans (Int.le_of_lt this) (eY (by omega))
  ·show 2^1074*cu ((ss ⟨0,fun _=>0⟩ d b N).add (sq d b N)).d ((ss ⟨0,fun _=>0⟩ d b N).add (sq d b N)).n=_
   rw [jf rq,h.sum]
   exact mw hT (N+1) (Nat.le_refl _)
theorem Eg {d:Nat->Int} {q:Int} {n b:Nat} (hd:XV d n) (hq:aj q) (pq:ak q=true) (bd:∀ i,i<n->((iV (d i)).natAbs:Int)<=2^b) (bq:((iV q).natAbs:Int)<=2^b) (hb:b<=2080) :
  ∀ k,k<=n->gx d q k=true∧((iV (gq d q k)).natAbs:Int)<=2^(b+3)∧LB (gs d q k) b
 | 0,_=>⟨rfl,lO bq (by omega),fun i hi=>absurd hi (Nat.not_lt_zero _)⟩
 | k+1,hk=>by
  obtain ⟨h1,h2,h3⟩:=Eg hd hq pq bd bq hb k (by omega)
  have hfin:∀ i,i<n->aj (d i)∧ak (d i)=true:=fun i hi=>⟨(hd.fin i hi).1,(hd.fin i hi).2.1⟩
  obtain ⟨r1,r2⟩:=ju hfin hq pq k (by omega) h1
  obtain ⟨d1,d2⟩:=hfin k (by omega)
  have b1:=bd k (by omega)
  have hM:=fY
  have p1:(2:Int)^(b+3+1)<=2^2097:=eY (by omega)
  have p2':(2:Int)^(b+1)<=2^2097:=eY (by omega)
  rw [cX] at p1 p2'
  obtain ⟨f1,f2⟩:=qQ r1 d1 r2 d2 (by omega) (by omega)
  have nr:=kN r1 d1 f2
  have hx:gx d q (k+1)=true:=by
   show (gx d q k && ak (gl d q k))=true
   rw [h1]; exact f2
  have e:=(ij r1 d1 f2).2.2
  have hl:=qR (dE (gq d q k)) nr
  have hLB:LB (gs d q (k+1)) b:=by
   show LB ((gs d q k).add (gl d q k)) b
   refine h3.add ?_
   show ((iV (sL (gq d q k) (d k))).natAbs:Int)<=_
   have:iV (sL (gq d q k) (d k))=iV (gq d q k)+iV (d k)-iV (ap (gq d q k) (d k)):=by omega
   rw [this]
   omega
  refine ⟨hx,?_,hLB⟩
  have pb:(2:Int)^(b+1)=2*2^b:=cX b
  have pp:=p2 b
  have g1:=qS (yl hd hq pq (k+1) hk hx).xv (t:=b+1) (fun i hi=>by have:=hLB i hi; omega)
  have hxk:XV d (k+1):=⟨fun i hi=>hd.fin i (by omega),fun i hi=>hd.lo i (by omega)⟩
  have g2:=qS hxk (t:=b+1) (fun i hi=>by have:=bd i (by omega); omega)
  have g3:=ym hfin hq pq (k+1) hk hx
  have p8:(2:Int)^(b+3)=8*2^b:=by rw [show b+3=b+1+1+1 by omega,cX,cX,cX]; omega
  rw [p8]
  omega
theorem sM {s:Ls} {f:Nat->Int} {m b:Nat} (hs:XV s.d s.n) (hf:∀ i,i<m->aj (f i)∧ak (f i)=true) (bs:LB s b) (bf:∀ i,i<m->((iV (f i)).natAbs:Int)<=2^b) (hb:b+3*m<=2080) :
  ∀ k,k<=m->cO s f k=true∧XV (bX s f k).d (bX s f k).n∧LB (bX s f k) (b+3*k)∧cu (bX s f k).d (bX s f k).n=cu s.d s.n+cu f k
 | 0,_=>⟨rfl,hs,bs,by show cu s.d s.n=cu s.d s.n+0; omega⟩
 | k+1,hk=>by
  obtain ⟨h1,h2,h3,h4⟩:=sM hs hf bs bf hb k (by omega)
  obtain ⟨f1,f2⟩:=hf k (by omega)
  obtain ⟨g1,g2,g3⟩:=Eg h2 f1 f2 h3 (lO (bf k (by omega)) (by omega)) (by omega) (bX s f k).n (Nat.le_refl _)
  rw [jG,mq,h1,g1,eZ]
  refine ⟨rfl,KY h2 f1 f2 g1,?_,?_⟩
  ·show LB ((gs (bX s f k).d (f k) (bX s f k).n).add (gq (bX s f k).d (f k) (bX s f k).n)) _
   exact LB.add (fun i hi=>lO (g3 i hi) (by omega)) (lO g2 (by omega))
  ·rw [JD h2.fn f1 f2 g1,h4]
   omega
theorem tN {d f:Nat->Int} {n m:Nat} (hd:XV d n) (hm:∀ j,j<n->kH (d j)) (hn:n<=6) (hf:∀ j,j<m->kH (f j)) (hm6:m<=6) :
  ∀ k,k<=m->jw d n f k=true∧XV (gz d n f k).d (gz d n f k).n∧LB (gz d n f k) (1480+36*k)∧2^1074*cu (gz d n f k).d (gz d n f k).n=cu d n*cu f k
 | 0,_=>⟨rfl,⟨fun i hi=>absurd hi (Nat.not_lt_zero _),fun i hi=>absurd hi (Nat.not_lt_zero _)⟩,fun i hi=>absurd hi (Nat.not_lt_zero _),by show 2^1074*(0:Int)=_*0; rw [Int.mul_zero,Int.mul_zero]⟩
 | k+1,hk=>by
  obtain ⟨h1,h2,h3,h4⟩:=tN hd hm hn hf hm6 k (by omega)
  obtain ⟨s1,s2,s3,s4⟩:=GD hd hm (hf k (by omega))
  have hl:=uR d (f k) n
  obtain ⟨g1,g2,g3,g4⟩:=sM h2 s2.fn (b:=1480+36*k) h3 (fun i hi=>lO (s3 i hi) (by omega)) (m:=(cU d (f k) n).n) (by omega) (cU d (f k) n).n (Nat.le_refl _)
  rw [oW,oV,h1,s1,g1,eZ]
  refine ⟨rfl,g2,fun i hi=>lO (g3 i hi) (by omega),?_⟩
  rw [g4,Int.mul_add,h4,s4,Int.mul_add]
theorem GE {d:Nat->Int} {n:Nat} (h:XV d (n+1)):(0<cu d (n+1) ↔ 0<iV (d n))∧(cu d (n+1)<0 ↔ iV (d n)<0):=by
 have hne:=h.ne (show n<n+1 by omega)
 cases n with
 | zero=>
  have:cu d 1=iV (d 0):=by rw [eZ]; show 0+_=_; omega
  rw [this]; exact ⟨Iff.rfl,Iff.rfl⟩
 | succ n=>
  obtain ⟨s,h1,h2⟩:=h.lo n (by omega)
  have ih:=mv (n:=n) ⟨fun i hi=>h.fin i (by omega),fun i hi=>h.lo i (by omega)⟩ s h1
  have hge:=ik h2 hne (p2 s)
  rw [eZ]
  omega
def Mz (x:Int):Prop:=aj x∧ak x=true∧(2^872:Int) ∣ iV x∧((iV x).natAbs:Int)<=2^1224
theorem l6 {x:Int} (hx:aj x) (ht:cm x=true):Mz x:=by
 rw [xU hx] at ht
 by_cases h0:rg x=0
 ·have hc:=(tI hx).2 h0
  have hp:ak x=true:=by
   cases hp:ak x
   ·exfalso
    have hf:bN x=2047:=by simpa [ak] using hp
    unfold aG at hc
    rw [if_pos hf] at hc
    split at hc <;> omega
   ·rfl
  rw [Mz,vT hx h0]
  exact ⟨hx,hp,⟨0,by rw [Int.mul_zero]⟩,by have:=p2 1224; show (((0:Int).natAbs:Nat):Int)<=_; omega⟩
 ·have hz:decide (rg x=0)=false:=decide_eq_false h0
  rw [hz,Bool.false_or,Bool.and_eq_true] at ht
  have h1:=of_decide_eq_true ht.1
  have h2:=of_decide_eq_true ht.2
  have hf0:bN x≠2047:=by omega
  have hf1:bN x≠0:=by omega
  have hp:ak x=true:=by simp [ak,hf0]
  have hfr:=pD x
  have e1:aK x=4503599627370496+cf x:=by unfold aK; rw [if_neg hf0,if_neg hf1]
  have e2:bi x=bN x-1075:=by unfold bi; rw [if_neg hf0,if_neg hf1]
  have hm:aK x<=2^53:=by
   rw [e1]
   show _<=9007199254740992
   omega
  refine ⟨hx,hp,?_,?_⟩
  ·apply Int.dvd_natAbs.1
   rw [iz hx hp]
   exact Int.dvd_trans (ct (show 872<=(bi x+1074).toNat by rw [e2]; omega)) ⟨aK x,by rw [Int.mul_comm]⟩
  ·rw [iz hx hp]
   have p1:(2:Int)^(bi x+1074).toNat<=2^1171:=eY (by rw [e2]; omega)
   have p0:=p2 (bi x+1074).toNat
   calc aK x*2^(bi x+1074).toNat<=2^53*2^(bi x+1074).toNat:=Int.mul_le_mul_of_nonneg_right hm (by omega)
    _<=2^53*2^1171:=Int.mul_le_mul_of_nonneg_left p1 (by decide)
    _=2^1224:=by rw [<- Int.pow_add]
def bK (p q:Int):Ls:=((⟨0,fun _=>0⟩:Ls).add (sL p (neg q))).add (ap p (neg q))
theorem Eh {p q:Int} (hp:Mz p) (hq:Mz q):ak (ap p (neg q))=true∧ak (sL p (neg q))=true:=by
 obtain ⟨n1,n2,n3⟩:=bS hq.1 hq.2.1
 have hM:=fY
 have h1:(2:Int)^1225<=2^2097:=eY (by decide)
 have h2:(2:Int)^1225=2*2^1224:=cX 1224
 have a:=hp.2.2.2
 have b:=hq.2.2.2
 exact qQ hp.1 n1 hp.2.1 n2 (by omega) (by rw [n3]; omega)
theorem jS {p q:Int} (hp:Mz p) (hq:Mz q):XV (bK p q).d (bK p q).n∧(∀ j,j<(bK p q).n->kH ((bK p q).d j))∧(bK p q).n<=2∧cu (bK p q).d (bK p q).n=iV p-iV q:=by
 obtain ⟨n1,n2,n3⟩:=bS hq.1 hq.2.1
 obtain ⟨f1,f2⟩:=Eh hp hq
 have nr:=kN hp.1 n1 f2
 have e:=(ij hp.1 n1 f2).2.2
 have rh:=aH hp.1 n1
 have rl:aj (sL p (neg q)):=jt hp.1 n1
 have hl:=qR (dE p) nr
 have z:=nr.2 0 co
 have dS:(2^872:Int) ∣ iV p+iV (neg q):=by
  rw [n3]
  exact Int.dvd_add hp.2.2.1 (Int.dvd_neg.2 hq.2.2.1)
 have dh:=gk nr dS
 have el:iV (sL p (neg q))=iV p+iV (neg q)-iV (ap p (neg q)):=by omega
 have dl:(2^872:Int) ∣ iV (sL p (neg q)):=by rw [el]; exact Int.dvd_sub dS dh
 have a:=hp.2.2.2
 have b:=hq.2.2.2
 have pw1:(2:Int)^1226<=2^1250:=eY (by decide)
 have pw2:(2:Int)^1226=4*2^1224:=by rw [show 1226=1224+1+1 by decide,cX,cX]; omega
 have up:(2^822:Int) ∣ 2^872:=ct (by decide)
 have x0:XV (⟨0,fun _=>0⟩:Ls).d (⟨0,fun _=>0⟩:Ls).n:=⟨fun i hi=>absurd hi (Nat.not_lt_zero _),fun i hi=>absurd hi (Nat.not_lt_zero _)⟩
 have x1:=x0.add (b:=sL p (neg q)) rl f2 (fun i hi=>absurd hi (Nat.not_lt_zero _))
 refine ⟨x1.add rh f1 ?_,?_,?_,?_⟩
 ·refine iA (fun x=>Lo (iV x) (iV (ap p (neg q)))) (fun i hi=>absurd hi (Nat.not_lt_zero _)) fun hz=>?_
  have hne:=(gU rl f2 hz).1
  obtain ⟨u,h1,h2⟩:=lZ nr (fun c=>hne (by omega))
  rw [<- el] at h2
  exact ⟨u,h2,h1⟩
 ·refine iA kH (iA kH (fun i hi=>absurd hi (Nat.not_lt_zero _)) fun hz=>?_) fun hz=>?_
  ·exact ⟨rl,f2,hz,Int.dvd_trans up dl,by rw [n3] at *; omega⟩
  ·exact ⟨rh,f1,hz,Int.dvd_trans up dh,by rw [n3] at *; omega⟩
 ·have h1:=((⟨0,fun _=>0⟩:Ls).add_le (sL p (neg q))).2
  have h2:=(((⟨0,fun _=>0⟩:Ls).add (sL p (neg q))).add_le (ap p (neg q))).2
  have h1':((⟨0,fun _=>0⟩:Ls).add (sL p (neg q))).n<=0+1:=h1
  show (((⟨0,fun _=>0⟩:Ls).add (sL p (neg q))).add (ap p (neg q))).n<=2
  omega
 ·show cu (((⟨0,fun _=>0⟩:Ls).add (sL p (neg q))).add (ap p (neg q))).d (((⟨0,fun _=>0⟩:Ls).add (sL p (neg q))).add (ap p (neg q))).n=_
  rw [jf rh,jf rl]
  show (0:Int)+_+_=_
  omega
theorem AF {ax ay bx by' cx cy:Int} (hax:Mz ax) (hay:Mz ay) (hbx:Mz bx) (hby:Mz by') (hcx:Mz cx) (hcy:Mz cy) :
    let L:=gz (bK ax cx).d (bK ax cx).n (bK by' cy).d (bK by' cy).n
    let R:=gz (bK ay cy).d (bK ay cy).n (bK bx cx).d (bK bx cx).n
    jw (bK ax cx).d (bK ax cx).n (bK by' cy).d (bK by' cy).n=true∧jw (bK ay cy).d (bK ay cy).n (bK bx cx).d (bK bx cx).n=true∧XV L.d L.n∧XV R.d R.n ∧
    cO ⟨L.n,L.d⟩ (fun i=>neg (R.d i)) R.n=true∧XV (bX ⟨L.n,L.d⟩ (fun i=>neg (R.d i)) R.n).d (bX ⟨L.n,L.d⟩ (fun i=>neg (R.d i)) R.n).n ∧
    2^1074*cu (bX ⟨L.n,L.d⟩ (fun i=>neg (R.d i)) R.n).d (bX ⟨L.n,L.d⟩ (fun i=>neg (R.d i)) R.n).n=(iV ax-iV cx)*(iV by'-iV cy)-(iV ay-iV cy)*(iV bx-iV cx):=by
  intro L R
  obtain ⟨u1,u2,u3,u4⟩:=jS hax hcx
  obtain ⟨v1,v2,v3,v4⟩:=jS hby hcy
  obtain ⟨s1,s2,s3,s4⟩:=jS hay hcy
  obtain ⟨t1,t2,t3,t4⟩:=jS hbx hcx
  obtain ⟨l1,l2,l3,l4⟩:=tN u1 u2 (by omega) v2 (by omega) (bK by' cy).n (Nat.le_refl _)
  obtain ⟨r1,r2,r3,r4⟩:=tN s1 s2 (by omega) t2 (by omega) (bK bx cx).n (Nat.le_refl _)
  rw [u4,v4] at l4
  rw [s4,t4] at r4
  have hRn:R.n<=8:=Nat.le_trans (tJ _ _ _ _) (by
    have:2*(bK ay cy).n*(bK bx cx).n<=2*2*2:=Nat.mul_le_mul (by omega) (by omega)
    omega)
  have hnf:∀ i,i<R.n->aj (neg (R.d i))∧ak (neg (R.d i))=true:=fun i hi=>⟨(bS (r2.fn i hi).1 (r2.fn i hi).2).1,(bS (r2.fn i hi).1 (r2.fn i hi).2).2.1⟩
  obtain ⟨g1,g2,_,g4⟩:=sM (s:=⟨L.n,L.d⟩) (f:=fun i=>neg (R.d i)) (m:=R.n) (b:=1552) l2 hnf (fun i hi=>lO (l3 i hi) (by omega)) (fun i hi=>by
    show ((iV (neg (R.d i))).natAbs:Int)<=_
    rw [(bS (r2.fn i hi).1 (r2.fn i hi).2).2.2]
    have:=lO (r3 i hi) (show 1480+36*(bK bx cx).n<=1552 by omega)
    omega) (by omega) R.n (Nat.le_refl _)
  refine ⟨l1,r1,l2,r2,g1,g2,?_⟩
  rw [g4,AD r2.fn]
  have e1:2^1074*cu L.d L.n=(iV ax-iV cx)*(iV by'-iV cy):=l4
  have e2:2^1074*cu R.d R.n=(iV ay-iV cy)*(iV bx-iV cx):=r4
  rw [Int.mul_add,Int.mul_neg,e1,e2]
  omega
def Un (S h:Int):Prop:=9007199254740992*((h-S).natAbs:Int)<=(S.natAbs:Int)∧9007199254740992*((h-S).natAbs:Int)<=(h.natAbs:Int)
theorem vX {S h:Int} (n:Nr S h) (h0:0<=S):Un S h:=by
 obtain ⟨k,h1,h2⟩:=tt S h0
 rcases h2 with h2 | h2
 ·subst h2
  have e:=aY ⟨0,⟨S,by rw [Int.pow_zero]; omega⟩,by omega⟩ n
  subst e
  rw [Un,Int.sub_self]
  simp
 ·have c:=lq n (i:=k) (by omega)
  have g:=tz n (tA k (m:=4503599627370496) (by decide)) h2
  have p0:=p2 k
  generalize (2:Int)^k=q at *
  have g':4503599627370496*q<=h:=g
  constructor <;> omega
theorem BN {S h:Int} (n:Nr S h):Un S h:=by
 by_cases h0:0<=S
 ·exact vX n h0
 ·have:=vX n.neg (by omega)
  unfold Un at *
  omega
theorem Un.scale {S h:Int} (u:Un S h) {c:Int} (hc:0<=c):Un (c*S) (c*h):=by
 have e:∀ x:Int,((c*x).natAbs:Int)=c*(x.natAbs:Int):=fun x=>by
  rw [Int.natAbs_mul,Int.natCast_mul]
  congr 1
  omega
 rw [Un,<- Int.mul_sub,e,e,e,<- Int.mul_assoc,Int.mul_comm 9007199254740992 c,Int.mul_assoc]
 exact ⟨Int.mul_le_mul_of_nonneg_left u.1 hc,Int.mul_le_mul_of_nonneg_left u.2 hc⟩
theorem qU (x y:Int):((x*y).natAbs:Int)=(x.natAbs:Int)*(y.natAbs:Int):=by rw [Int.natAbs_mul,Int.natCast_mul]
theorem qm {u e v:Int} (h:9007199254740992*(e.natAbs:Int)<=(u.natAbs:Int)):9007199254740992*((e*v).natAbs:Int)<=((u*v).natAbs:Int):=by
 rw [qU,qU,<- Int.mul_assoc]
 exact Int.mul_le_mul_of_nonneg_right h (by omega)
theorem qp {u e v:Int} (h:9007199254740992*(e.natAbs:Int)<=(u.natAbs:Int)):9007199254740992*((v*e).natAbs:Int)<=((v*u).natAbs:Int):=by
 rw [Int.mul_comm v e,Int.mul_comm v u]
 exact qm h
theorem yv {x y u v:Int} (hu:Un x u) (hv:Un y v):81129638414606681695789005144064*((x*y-u*v).natAbs:Int)<=18014398509481985*((u*v).natAbs:Int):=by
 obtain ⟨e,he⟩:∃ e,x=u+e:=⟨x-u,by omega⟩
 obtain ⟨f,hf⟩:∃ f,y=v+f:=⟨y-v,by omega⟩
 have h1:9007199254740992*(e.natAbs:Int)<=(u.natAbs:Int):=by have:=hu.2; omega
 have h2:9007199254740992*(f.natAbs:Int)<=(v.natAbs:Int):=by have:=hv.2; omega
 have a1:=qm (v:=v) h1
 have a2:=qp (v:=u) h2
 have a3:=qp (v:=e) h2
 have ee:x*y-u*v=u*f+e*v+e*f:=by
  rw [he,hf,Int.add_mul,Int.mul_add,Int.mul_add]
  omega
 rw [ee]
 generalize u*f=A at *
 generalize e*v=B at *
 generalize e*f=C at *
 generalize u*v=D at *
 omega
theorem Ei {x1 y1 x2 y2 u1 v1 u2 v2 L R S:Int} (h1:Un x1 u1) (h2:Un y2 v2) (h3:Un y1 v1) (h4:Un x2 u2) (hL:Un (u1*v2) L) (hR:Un (v1*u2) R) (hS:Un ((L.natAbs:Int)+(R.natAbs:Int)) S) :
  9007199254740992*(((u1*v2).natAbs:Int)+((v1*u2).natAbs:Int))<=9007199254740993*((L.natAbs:Int)+(R.natAbs:Int))∧9007199254740992*((L.natAbs:Int)+(R.natAbs:Int))<=9007199254740993*S∧0<=S ∧
  81129638414606681695789005144064*(((x1*y2-y1*x2)-(u1*v2-v1*u2)).natAbs:Int)<=18014398509481985*(((u1*v2).natAbs:Int)+((v1*u2).natAbs:Int)):=by
 have d1:=yv h1 h2
 have d2:=yv h3 h4
 have l:=hL.2
 have r:=hR.2
 have s:=hS.2
 have s':=hS.1
 generalize u1*v2=A at *
 generalize v1*u2=B at *
 generalize x1*y2=C at *
 generalize y1*x2=D at *
 refine ⟨by omega,by omega,by omega,by omega⟩
theorem GF {X Z D:Int} (hD:Un Z D) (h:((X-Z).natAbs:Int)<(Z.natAbs:Int)):(0<X ↔ 0<D)∧(X<0 ↔ D<0):=by
 have d:=hD.1
 omega
theorem MI {X H Z:Int}:((X-Z).natAbs:Int)<=((X-H).natAbs:Int)+((H-Z).natAbs:Int):=by omega
theorem MJ {A B L R:Int} (hA:Un A L) (hB:Un B R):9007199254740992*(((A-B)-(L-R)).natAbs:Int)<=(L.natAbs:Int)+(R.natAbs:Int):=by
 have a:=hA.2
 have b:=hB.2
 omega
theorem Ej {T M:Int} (h:Un T M) (t:0<=T):9007199254740991*T<=9007199254740992*M:=by
 have:=h.1
 omega
theorem Ek {Z D:Int} (h:Un Z D):9007199254740991*(D.natAbs:Int)<=9007199254740992*(Z.natAbs:Int):=by
 have:=h.2
 omega
theorem kZ {a b c d X Y Z:Int} (hb:0<=b) (hc:0<=c) (h1:a*X<=b*Y) (h2:c*Y<=d*Z):(c*a)*X<=(b*d)*Z:=by
 have a1:=Int.mul_le_mul_of_nonneg_left h1 hc
 have a2:=Int.mul_le_mul_of_nonneg_left h2 hb
 rw [Int.mul_assoc,Int.mul_assoc]
 refine Int.le_trans a1 (Int.le_trans (Int.le_of_eq ?_) a2)
 rw [<- Int.mul_assoc,<- Int.mul_assoc,Int.mul_comm c b]
theorem El {a b Y Z:Int} (hb:0<=b) (hab:b<a) (h:a*Y<=b*Z) (hz:0<Z):Y<Z:=by
 apply Int.lt_of_not_ge
 intro c
 have h1:b*Z<=b*Y:=Int.mul_le_mul_of_nonneg_left c hb
 have h2:b*Y<a*Y:=Int.mul_lt_mul_of_pos_right hab (by omega)
 omega
theorem qq {a b S Z:Int} (ha:0<a) (hb:0<=b) (h:a*S<=b*Z) (hs:0<S):0<Z:=by
 apply Int.lt_of_not_ge
 intro c
 have h1:b*Z<=b*0:=Int.mul_le_mul_of_nonneg_left c hb
 have h2:0<a*S:=Int.mul_pos ha hs
 omega
theorem MK {Y Y1 Y2 V W S T M Q Z:Int} (y:Y<=Y1+Y2) (y1:81129638414606681695789005144064*Y1<=18014398509481985*V) (y2:9007199254740992*Y2<=W) (a0:9007199254740992*V<=9007199254740993*W) (s0:9007199254740992*W<=9007199254740993*S) (c:0<S)
  (hT:5070602400912917605986812821504*T=1688849860263937*S) (m:9007199254740991*T<=9007199254740992*M) (h:M<=Q) (d:9007199254740991*Q<=9007199254740992*Z):Y<Z:=by
 have e1:(730750818665451459101842416358141509827966271488:Int)*Y1<=162259276829213390413175774511105*W:=kZ (a:=81129638414606681695789005144064) (b:=18014398509481985) (c:=9007199254740992) (d:=9007199254740993) (by decide) (by decide) y1 a0
 have e2:(730750818665451459101842416358141509827966271488:Int)*Y<=243388915243820072108964779655169*W:=by
  clear hT m h d s0 c y1 a0
  omega
 have e3:=kZ (by decide) (by decide) e2 s0
 have f1:1688849860263937*S<=5070602400912917605986812821504*T:=Int.le_of_eq hT.symm
 have f2:9007199254740991*T<=9007199254740992*Q:=Int.le_trans m (Int.mul_le_mul_of_nonneg_left h (by decide))
 have f3:=kZ (by decide) (by decide) (kZ (by decide) (by decide) f1 f2) d
 exact El (by decide) (by decide) (kZ (by decide) (by decide) e3 f3) (qq (by decide) (by decide) f3 c)
theorem ML {Y V W S T M Q Z:Int} (y:81129638414606681695789005144064*Y<=18014398509481985*V) (a0:9007199254740992*V<=9007199254740993*W) (s0:9007199254740992*W<=9007199254740993*S) (c:0<S)
  (hT:20282409603651670423947251286016*T=4503599627370499*S) (m:9007199254740991*T<=9007199254740992*M) (h:M<=Q) (d:9007199254740991*Q<=9007199254740992*Z):Y<Z:=by
 have e3:=kZ (by decide) (by decide) (kZ (by decide) (by decide) y a0) s0
 have f1:4503599627370499*S<=20282409603651670423947251286016*T:=Int.le_of_eq hT.symm
 have f2:9007199254740991*T<=9007199254740992*Q:=Int.le_trans m (Int.mul_le_mul_of_nonneg_left h (by decide))
 have f3:=kZ (by decide) (by decide) (kZ (by decide) (by decide) f1 f2) d
 exact El (by decide) (by decide) (kZ (by decide) (by decide) e3 f3) (qq (by decide) (by decide) f3 c)
theorem N3 {T S:Int} (h:5070602400912917605986812821504*T=1688849860263937*S) (s:0<S):0<=T:=Int.le_of_lt (qq (by decide) (by decide) (Int.le_of_eq h.symm) s)
theorem N4 {T S:Int} (h:20282409603651670423947251286016*T=4503599627370499*S) (s:0<S):0<=T:=Int.le_of_lt (qq (by decide) (by decide) (Int.le_of_eq h.symm) s)
theorem MM {A:Int} (h:81129638414606681695789005144064*(A.natAbs:Int)<=0):A=0:=by omega
theorem Iq {A L:Int} (h:Un A L) (l:L=0):A=0:=by
 have:=h.2
 omega
theorem N5 {L R S:Int} (h:9007199254740992*((L.natAbs:Int)+(R.natAbs:Int))<=9007199254740993*0):L=0∧R=0:=by omega
theorem Ir {X A B L R:Int} (hA:Un A L) (hB:Un B R) (s0:9007199254740992*((L.natAbs:Int)+(R.natAbs:Int))<=9007199254740993*0)
  (hX:81129638414606681695789005144064*((X-(A-B)).natAbs:Int)<=18014398509481985*((A.natAbs:Int)+(B.natAbs:Int))):L=0∧R=0∧A=0∧B=0∧X=0:=by
 obtain ⟨l,r⟩:=N5 (S:=0) s0
 have a:=Iq hA l
 have b:=Iq hB r
 rw [a,b] at hX
 have x:=MM (A:=X-(0-0)) hX
 exact ⟨l,r,a,b,by omega⟩
theorem Em {X D:Int} (x:X=0) (hD:Un (0-0) D):(0<X ↔ 0<D)∧(X<0 ↔ D<0):=by
 have:=hD.1
 omega
theorem GG {X A B L R S D T M:Int} (hA:Un A L) (hB:Un B R) (a0:9007199254740992*((A.natAbs:Int)+(B.natAbs:Int))<=9007199254740993*((L.natAbs:Int)+(R.natAbs:Int))) (s0:9007199254740992*((L.natAbs:Int)+(R.natAbs:Int))<=9007199254740993*S) (s1:0<=S)
  (hX:81129638414606681695789005144064*((X-(A-B)).natAbs:Int)<=18014398509481985*((A.natAbs:Int)+(B.natAbs:Int)))
  (hD:Un (L-R) D) (hT:5070602400912917605986812821504*T=1688849860263937*S) (hM:Un T M) (h:M<=(D.natAbs:Int)):(0<X ↔ 0<D)∧(X<0 ↔ D<0):=by
 rcases Int.lt_or_eq_of_le s1 with c | c
 ·exact GF hD (MK MI hX (MJ hA hB) a0 s0 c hT (Ej hM (N3 hT c)) h (Ek hD))
 ·obtain ⟨l,r,_,_,x⟩:=Ir hA hB (by rw [c]; exact s0) hX
  rw [l,r] at hD
  exact Em x hD
theorem GH {X A B L R S D T M:Int} (hA:Un A L) (hB:Un B R) (a0:9007199254740992*((A.natAbs:Int)+(B.natAbs:Int))<=9007199254740993*((L.natAbs:Int)+(R.natAbs:Int))) (s0:9007199254740992*((L.natAbs:Int)+(R.natAbs:Int))<=9007199254740993*S) (s1:0<=S)
  (hX:81129638414606681695789005144064*((X-(A-B)).natAbs:Int)<=18014398509481985*((A.natAbs:Int)+(B.natAbs:Int)))
  (hD:Un (A-B) D) (hT:20282409603651670423947251286016*T=4503599627370499*S) (hM:Un T M) (h:M<=(D.natAbs:Int)):(0<X ↔ 0<D)∧(X<0 ↔ D<0):=by
 rcases Int.lt_or_eq_of_le s1 with c | c
 ·exact GF hD (ML hX a0 s0 c hT (Ej hM (N4 hT c)) h (Ek hD))
 ·obtain ⟨_,_,a,b,x⟩:=Ir hA hB (by rw [c]; exact s0) hX
  rw [a,b] at hD
  exact Em x hD
theorem N6 {d z p a:Int} (h1:9007199254740992*d<=z) (hz:9007199254740992*z<=a) (h:p<=z+d) (a0:0<=a):81129638414606681695789005144064*d<=a∧100*(9007199254740992*p)<=101*a:=by
 constructor <;> omega
theorem AG {z p a:Int} (h:Un z p) (hz:9007199254740992*(z.natAbs:Int)<=a):81129638414606681695789005144064*((p-z).natAbs:Int)<=a∧100*(9007199254740992*(p.natAbs:Int))<=101*a :=
 N6 h.1 hz (by omega) (by omega)
theorem N7 {a dl d1 d2 p1 p2 D:Int} (e1:81129638414606681695789005144064*d1<=a) (e2:81129638414606681695789005144064*d2<=a) (f1:100*(9007199254740992*p1)<=101*a) (f2:100*(9007199254740992*p2)<=101*a) (h:9007199254740992*dl<=p1+p2) (hD:D<=dl+d1+d2):100*(81129638414606681695789005144064*D)<=402*a:=by
 have g:100*(81129638414606681695789005144064*dl)<=202*a:=by
  clear e1 e2 hD
  omega
 clear f1 f2 h
 omega
theorem N8 {a z1 z2 l D:Int} (a0:0<=a) (h:100*(81129638414606681695789005144064*D)<=402*a) (c1:9007199254740992*z1<=a) (c2:9007199254740992*z2<=a) (hl:l<=z1+z2+D):100*(9007199254740992*l)<=201*a:=by
 have g:100*(9007199254740992*D)<=a:=by
  clear c1 c2 hl
  omega
 clear h
 omega
theorem Eo {z1 z2 p1 p2 l a:Int} (h1:Un z1 p1) (h2:Un z2 p2) (c1:9007199254740992*(z1.natAbs:Int)<=a) (c2:9007199254740992*(z2.natAbs:Int)<=a) (hl:Un (p1+p2) l) :
  100*(81129638414606681695789005144064*((l-(z1+z2)).natAbs:Int))<=402*a∧100*(9007199254740992*(l.natAbs:Int))<=201*a:=by
 obtain ⟨d1,f1⟩:=AG h1 c1
 obtain ⟨d2,f2⟩:=AG h2 c2
 have s:=hl.1
 have k:9007199254740992*((l-(p1+p2)).natAbs:Int)<=(p1.natAbs:Int)+(p2.natAbs:Int):=by clear d1 f1 d2 f2 c1 c2; omega
 have t:((l-(z1+z2)).natAbs:Int)<=((l-(p1+p2)).natAbs:Int)+((p1-z1).natAbs:Int)+((p2-z2).natAbs:Int):=by clear d1 f1 d2 f2 c1 c2 s k; omega
 have D:=N7 d1 d2 f1 f2 k t
 have a0:0<=a:=by clear d1 f1 d2 f2 D k t s; omega
 exact ⟨D,N8 a0 D c1 c2 (by clear d1 f1 d2 f2 D k t s c1 c2; omega)⟩
theorem N9 {a b dl dr t D l r:Int} (e1:100*(81129638414606681695789005144064*dl)<=402*a) (e2:100*(81129638414606681695789005144064*dr)<=402*b) (f1:100*(9007199254740992*l)<=201*a) (f2:100*(9007199254740992*r)<=201*b) (h:9007199254740992*t<=l+r) (hD:D<=t+dl+dr):100*(81129638414606681695789005144064*D)<=603*(a+b):=by
 have g:100*(81129638414606681695789005144064*t)<=201*(a+b):=by
  clear e1 e2 hD
  omega
 clear f1 f2 h
 omega
theorem La {zl zr l r T a b:Int} (d1:100*(81129638414606681695789005144064*((l-zl).natAbs:Int))<=402*a) (f1:100*(9007199254740992*(l.natAbs:Int))<=201*a)
  (d2:100*(81129638414606681695789005144064*((r-zr).natAbs:Int))<=402*b) (f2:100*(9007199254740992*(r.natAbs:Int))<=201*b) (hT:Un (l-r) T):100*(81129638414606681695789005144064*((T-(zl-zr)).natAbs:Int))<=603*(a+b):=by
 have s:=hT.1
 exact N9 d1 d2 f1 f2 (t:=((T-(l-r)).natAbs:Int)) (by clear d1 f1 d2 f2; omega) (by clear d1 f1 d2 f2 s; omega)
theorem Oa {a b D E1 E2 Y:Int} (h:100*(81129638414606681695789005144064*D)<=603*(a+b)) (h1:81129638414606681695789005144064*E1<=a) (h2:81129638414606681695789005144064*E2<=b) (hY:Y<=D+E1+E2):100*(81129638414606681695789005144064*Y)<=703*(a+b):=by
 omega
theorem Ep {e f u v:Int} (h1:9007199254740992*(e.natAbs:Int)<=(u.natAbs:Int)) (h2:9007199254740992*(f.natAbs:Int)<=(v.natAbs:Int)):81129638414606681695789005144064*((e*f).natAbs:Int)<=((u*v).natAbs:Int):=by
 have a:=qm (v:=v) h1
 have b:=qp (v:=e) h2
 generalize ((e*f).natAbs:Int)=x at *
 generalize ((e*v).natAbs:Int)=y at *
 generalize ((u*v).natAbs:Int)=z at *
 omega
theorem Eq {u1 v1 u2 v2 e1 f1 e2 f2 p1 p2 q1 q2 l r T:Int} (a1:9007199254740992*(e1.natAbs:Int)<=(u1.natAbs:Int)) (b1:9007199254740992*(f1.natAbs:Int)<=(v1.natAbs:Int)) (a2:9007199254740992*(e2.natAbs:Int)<=(u2.natAbs:Int)) (b2:9007199254740992*(f2.natAbs:Int)<=(v2.natAbs:Int))
  (h1:Un (u1*f2) p1) (h2:Un (v2*e1) p2) (h3:Un (v1*e2) q1) (h4:Un (u2*f1) q2) (hl:Un (p1+p2) l) (hr:Un (q1+q2) r) (hT:Un (l-r) T) :
  100*(81129638414606681695789005144064*((((u1+e1)*(v2+f2)-(v1+f1)*(u2+e2))-((u1*v2-v1*u2)+T)).natAbs:Int))<=703*(((u1*v2).natAbs:Int)+((v1*u2).natAbs:Int)):=by
 obtain ⟨x1,x2⟩:=Eo (a:=((u1*v2).natAbs:Int)) h1 h2 (qp b2) (by rw [Int.mul_comm v2 e1]; exact qm a1) hl
 obtain ⟨y1,y2⟩:=Eo (a:=((v1*u2).natAbs:Int)) h3 h4 (qp a2) (by rw [Int.mul_comm u2 f1]; exact qm b1) hr
 have d:=La x1 x2 y1 y2 hT
 have g1:=Ep a1 b2
 have g2:=Ep b1 a2
 refine Oa d g1 g2 ?_
 have e:((u1+e1)*(v2+f2)-(v1+f1)*(u2+e2))-((u1*v2-v1*u2)+T)=e1*f2-f1*e2-(T-((u1*f2+v2*e1)-(v1*e2+u2*f1))):=by
  rw [Int.add_mul,Int.mul_add,Int.mul_add,Int.add_mul,Int.mul_add,Int.mul_add,Int.mul_comm v2 e1,Int.mul_comm u2 f1]
  omega
 rw [e]
 clear d g1 g2 x1 x2 y1 y2 e
 omega
theorem wB {T M:Int} (h:Un T M) (t:0<=T):999*T<=1000*M:=by
 have:=h.1
 omega
theorem Lb {Z D:Int} (h:Un Z D):999*(D.natAbs:Int)<=1000*(Z.natAbs:Int):=by
 have:=h.2
 omega
theorem Ov {V W S Y:Int} (y:100*(81129638414606681695789005144064*Y)<=703*V) (a0:9007199254740992*V<=9007199254740993*W) (s0:9007199254740992*W<=9007199254740993*S) (v0:0<=V):81129638414606681695789005144064*Y<=8*S:=by
 have w:100*V<=101*W:=by clear s0 y; omega
 have w0:0<=W:=by clear s0 y; omega
 have s:100*W<=101*S:=by clear a0 y w; omega
 clear a0 s0
 generalize 81129638414606681695789005144064*Y=Q at *
 omega
theorem MN {Y G Z S N tc tk c k E d:Int} (y:81129638414606681695789005144064*Y<=8*S) (g:9007199254740992*G<=N) (n0:0<=N) (s:0<S)
  (hc:9*S<=81129638414606681695789005144064*tc) (hk:3*N<=9007199254740992*tk) (lc:999*tc<=1000*c) (lk:999*tk<=1000*k) (le:999*(c+k)<=1000*E) (h:E<=d) (ld:999*d<=1000*Z):Y+G<Z:=by
 have z:997002999*(tc+tk)<=1000000000*Z:=by
  clear y g hc hk
  omega
 have hk':3*(9007199254740992*N)<=81129638414606681695789005144064*tk:=by clear z y hc; omega
 have g':81129638414606681695789005144064*G<=9007199254740992*N:=by clear z y hc hk hk'; omega
 have z':997002999*(81129638414606681695789005144064*tc+81129638414606681695789005144064*tk)<=1000000000*(81129638414606681695789005144064*Z):=by
  clear y g hc hk hk' g' lc lk le h ld
  omega
 apply Int.lt_of_not_ge
 intro q
 have q':81129638414606681695789005144064*Z<=81129638414606681695789005144064*Y+81129638414606681695789005144064*G:=by
  clear z z' y g hc hk hk' g' lc lk le h ld
  omega
 have nn:0<=9007199254740992*N:=by clear z z' q' y g hc hk hk' g' lc lk le h ld q; omega
 clear z lc lk le h ld q hk g
 generalize 81129638414606681695789005144064*Z=z1 at *
 generalize 81129638414606681695789005144064*Y=y1 at *
 generalize 81129638414606681695789005144064*G=g1 at *
 generalize 81129638414606681695789005144064*tc=c1 at *
 generalize 81129638414606681695789005144064*tk=k1 at *
 generalize 9007199254740992*N=n1 at *
 omega
theorem GJ {X H h T d S V W tc tk c k E:Int} (hX:100*(81129638414606681695789005144064*((X-(H+T)).natAbs:Int))<=703*V) (a0:9007199254740992*V<=9007199254740993*W) (s0:9007199254740992*W<=9007199254740993*S) (v0:0<=V) (s1:0<S)
  (hh:Un H h) (hd:Un (h+T) d) (hc:9*S<=81129638414606681695789005144064*tc) (hk:3*(h.natAbs:Int)<=9007199254740992*tk) (tc0:0<=tc) (tk0:0<=tk) (uc:Un tc c) (uk:Un tk k) (c0:0<=c) (k0:0<=k) (uE:Un (c+k) E) (hE:E<=(d.natAbs:Int)):(0<X ↔ 0<d)∧(X<0 ↔ d<0):=by
 have y:=Ov hX a0 s0 v0
 have e:=MN (Y:=((X-(H+T)).natAbs:Int)) (G:=((h-H).natAbs:Int)) y hh.2 (by clear y hX hc hk; omega) s1 hc hk (wB uc tc0) (wB uk tk0) (wB uE (by clear y hX hc hk; omega)) hE (Lb hd)
 exact GF hd (by clear y hX hc hk hE a0 s0; omega)
structure Fx (a b:Nat) (x:Int):Prop where
 r:aj x
 p:ak x=true
 d:(2^a:Int) ∣ iV x
 b:((iV x).natAbs:Int)<=2^b
theorem Mz.fx {x:Int} (h:Mz x):Fx 872 1224 x:=⟨h.1,h.2.1,h.2.2.1,h.2.2.2⟩
theorem Fx.up {a b b':Nat} {x:Int} (h:Fx a b x) (c:b<=b'):Fx a b' x:=⟨h.r,h.p,h.d,lO h.b c⟩
theorem Fx.neg {a b:Nat} {x:Int} (h:Fx a b x):Fx a b (neg x)∧iV (neg x)=-iV x:=by
 obtain ⟨n1,n2,n3⟩:=bS h.r h.p
 refine ⟨⟨n1,n2,?_,?_⟩,n3⟩
 ·rw [n3]; exact Int.dvd_neg.2 h.d
 ·rw [n3,Int.natAbs_neg]; exact h.b
theorem wC {S x:Int} (h:Un S x):(x.natAbs:Int)<=2*(S.natAbs:Int):=by
 have:=h.1
 omega
theorem It {a b m:Int} {k:Nat} (h1:a<=2^k) (hk:k+1<=2097) (hm:(2:Int)^2097<=m):2*a<=m:=by
 have e:=cX k
 have f:(2:Int)^(k+1)<=2^2097:=eY hk
 omega
theorem Fx.sum {a b:Nat} {x y:Int} (hx:Fx a b x) (hy:Fx a b y) (hb:b+1<=2097):Fx a (b+2) (ap x y)∧Un (iV x+iV y) (iV (ap x y)):=by
 obtain ⟨f1,f2⟩:=qQ hx.r hy.r hx.p hy.p (It (b:=0) hx.b hb fY) (It (b:=0) hy.b hb fY)
 have nr:=kN hx.r hy.r f2
 have u:=BN nr
 refine ⟨⟨aH hx.r hy.r,f1,gk nr (Int.dvd_add hx.d hy.d),?_⟩,u⟩
 have h2:=wC u
 have e1:=hx.b
 have e2:=hy.b
 rw [show b+2=b+1+1 by omega,cX,cX]
 omega
theorem BO {x y:Int} {b d:Nat} (h1:(x.natAbs:Int)<=2^b) (h2:(y.natAbs:Int)<=2^d):((x*y).natAbs:Int)<=2^(b+d):=by
 have:=gn h1 h2
 rwa [<- Int.pow_add] at this
theorem Fx.prod {a b c d:Nat} {x y:Int} (hx:Fx a b x) (hy:Fx c d y) (h1:1074<=a+c) (h2:1074<=b+d) (h3:b+d-1074<=2097) :
  Fx (a+c-1074) (b+d-1074+1) (aq x y)∧Un (iV x*iV y) (2^1074*iV (aq x y))∧∃ T,2^1074*T=iV x*iV y∧Un T (iV (aq x y)):=by
 have dd:(2^(a+c):Int) ∣ iV x*iV y:=by
  rw [Int.pow_add]
  exact Int.mul_dvd_mul hx.d hy.d
 obtain ⟨k,hk⟩:=dd
 have e0:(2:Int)^(a+c)=2^1074*2^(a+c-1074):=by rw [<- Int.pow_add,show 1074+(a+c-1074)=a+c by omega]
 have hT:2^1074*(2^(a+c-1074)*k)=iV x*iV y:=by rw [hk,e0,Int.mul_assoc]
 have b1:=BO hx.b hy.b
 rw [<- hT,c7,show b+d=1074+(b+d-1074) by omega,Int.pow_add] at b1
 have b2:(((2^(a+c-1074)*k:Int)).natAbs:Int)<=2^(b+d-1074):=Int.le_of_mul_le_mul_left b1 (p2 1074)
 have s:=dq hx.r hy.r hx.p hy.p hT
 have f:ak (aq x y)=true:=s.fin (Int.le_trans b2 (Int.le_trans (eY h3) fY))
 have nr:=s.nr f
 have u:=BN nr
 refine ⟨⟨aU hx.r hy.r,f,gk nr ⟨k,rfl⟩,?_⟩,?_,_,hT,u⟩
 ·have:=wC u
  rw [cX]
  omega
 ·rw [<- hT]
  exact u.scale (Int.le_of_lt (p2 1074))
theorem wD {x:Int} (h:aj x):rg (rg x)=rg x:=by unfold aj rg at *; split <;> (try split) <;> omega
theorem Fx.abs {a b:Nat} {x:Int} (h:Fx a b x):Fx a b (rg x)∧iV (rg x)=((iV x).natAbs:Int):=by
 obtain ⟨q1,q2⟩:=fQ h.r
 have e:iV (rg x)=((iV x).natAbs:Int):=by
  rw [ix,iV,decide_eq_false (by omega),wD h.r]
  rfl
 refine ⟨⟨q1,?_,?_,?_⟩,e⟩
 ·rw [nM q1,wD h.r,<- nM h.r]; exact h.p
 ·rw [e]; exact Int.dvd_natAbs.2 h.d
 ·rw [e,Int.natAbs_natCast]; exact h.b
structure Lc (u1 v1 u2 v2:Int):Prop where
 l:Fx 670 1379 (aq u1 v2)
 r:Fx 670 1379 (aq v1 u2)
 lu:Un (iV u1*iV v2) (2^1074*iV (aq u1 v2))
 ru:Un (iV v1*iV u2) (2^1074*iV (aq v1 u2))
 s:Fx 670 1381 (ap (rg (aq u1 v2)) (rg (aq v1 u2)))
 su:Un (((iV (aq u1 v2)).natAbs:Int)+((iV (aq v1 u2)).natAbs:Int)) (iV (ap (rg (aq u1 v2)) (rg (aq v1 u2))))
 d:Fx 670 1381 (ap (aq u1 v2) (neg (aq v1 u2)))
 du:Un (iV (aq u1 v2)-iV (aq v1 u2)) (iV (ap (aq u1 v2) (neg (aq v1 u2))))
theorem AH {u1 v1 u2 v2:Int} (h1:Fx 872 1226 u1) (h2:Fx 872 1226 v1) (h3:Fx 872 1226 u2) (h4:Fx 872 1226 v2):Lc u1 v1 u2 v2:=by
 obtain ⟨l,lu,_⟩:=h1.prod h4 (by decide) (by decide) (by decide)
 obtain ⟨r,ru,_⟩:=h2.prod h3 (by decide) (by decide) (by decide)
 obtain ⟨la,le⟩:=l.abs
 obtain ⟨ra,re⟩:=r.abs
 obtain ⟨s,su⟩:=la.sum ra (by decide)
 obtain ⟨nr,ne⟩:=r.neg
 obtain ⟨d,du⟩:=l.sum nr (by decide)
 rw [le,re] at su
 rw [ne] at du
 exact ⟨l,r,lu,ru,s,su,d,du⟩
theorem Mz.diff {p q:Int} (hp:Mz p) (hq:Mz q):Fx 872 1226 (ap p (neg q))∧Un (iV p-iV q) (iV (ap p (neg q))):=by
 obtain ⟨n,ne⟩:=hq.fx.neg
 obtain ⟨s,su⟩:=hp.fx.sum n (by decide)
 rw [ne] at su
 exact ⟨s,su⟩
def oA:Int:=4375247037990436868
def oB:Int:=4372995238176751619
def oC:Int:=4143874607134277636
def oK:Int:=4375247037990436866
theorem JK {p m:Int} {n:Nat} (hr:aj p) (hp:ak p=true) (h0:0<=p) (hm:aK p=m*4) (he:bi p+1074=n) (m0:0<=m):iV p=m*2^(n+2):=by
 have e:=iz hr hp
 rw [hm,he,Int.toNat_natCast] at e
 have s:0<=iV p:=by
  rw [iV,decide_eq_false (by omega)]
  exact Int.natCast_nonneg _
 rw [show n+2=n+1+1 by omega,cX,cX]
 have q:=p2 n
 have:m*(2*(2*2^n))=m*4*2^n:=by rw [<- Int.mul_assoc 2 2,<- Int.mul_assoc,show (2:Int)*2=4 from rfl]
 omega
theorem Er:aj oA:=by unfold aj oA; omega
theorem wE:iV oA=1688849860263937*2^972:=JK (n:=970) Er (by decide) (by decide) (by decide) (by decide) (by decide)
theorem wF:Fx 972 1024 oA:=by
 refine ⟨Er,by decide,⟨_,by rw [wE,Int.mul_comm]⟩,?_⟩
 rw [wE,Int.natAbs_mul,Int.natCast_mul]
 have e:(((2:Int)^972).natAbs:Int)=2^972:=by have:=p2 972; omega
 rw [e,show (2:Int)^1024=2^52*2^972 by rw [<- Int.pow_add]]
 exact Int.mul_le_mul_of_nonneg_right (by decide) (Int.le_of_lt (p2 972))
theorem nO {S:Int} {q:Int} (hq:0<=q):((q*S).natAbs:Int)=q*(S.natAbs:Int):=by
 rw [qU]
 congr 1
 omega
theorem nP {q x:Int} (hq:0<q):(0<q*x ↔ 0<x)∧(q*x<0 ↔ x<0):=by
 rcases Int.lt_trichotomy x 0 with h | h | h
 ·have:q*x<0:=Int.mul_neg_of_pos_of_neg hq h
  omega
 ·rw [h,Int.mul_zero]
  exact ⟨Iff.rfl,Iff.rfl⟩
 ·have:0<q*x:=Int.mul_pos hq h
  omega
theorem uV {ax ay bx by' cx cy:Int} (hax:Mz ax) (hay:Mz ay) (hbx:Mz bx) (hby:Mz by') (hcx:Mz cx) (hcy:Mz cy) {u1 v1 u2 v2 L R S:Int} (e1:u1=ap ax (neg cx)) (e2:v1=ap ay (neg cy)) (e3:u2=ap bx (neg cx)) (e4:v2=ap by' (neg cy))
  (eL:L=aq u1 v2) (eR:R=aq v1 u2) (eS:S=ap (rg L) (rg R)) :
  Lc u1 v1 u2 v2 ∧
  9007199254740992*(((iV u1*iV v2).natAbs:Int)+((iV v1*iV u2).natAbs:Int))<=9007199254740993*(((2^1074*iV L).natAbs:Int)+((2^1074*iV R).natAbs:Int)) ∧
  9007199254740992*(((2^1074*iV L).natAbs:Int)+((2^1074*iV R).natAbs:Int))<=9007199254740993*(2^1074*iV S)∧0<=2^1074*iV S ∧
  81129638414606681695789005144064*((((iV ax-iV cx)*(iV by'-iV cy)-(iV ay-iV cy)*(iV bx-iV cx))-(iV u1*iV v2-iV v1*iV u2)).natAbs:Int)<=18014398509481985*(((iV u1*iV v2).natAbs:Int)+((iV v1*iV u2).natAbs:Int)):=by
 obtain ⟨f1,n1⟩:=hax.diff hcx
 obtain ⟨f2,n2⟩:=hay.diff hcy
 obtain ⟨f3,n3⟩:=hbx.diff hcx
 obtain ⟨f4,n4⟩:=hby.diff hcy
 rw [<- e1] at f1 n1
 rw [<- e2] at f2 n2
 rw [<- e3] at f3 n3
 rw [<- e4] at f4 n4
 have F:=AH f1 f2 f3 f4
 refine ⟨F,?_⟩
 have q0:=Int.le_of_lt (p2 1074)
 have su:=F.su.scale q0
 rw [Int.mul_add,<- nO q0,<- nO q0] at su
 rw [eS,eL,eR]
 exact Ei n1 n4 n2 n3 F.lu F.ru su
theorem JL {ax ay bx by' cx cy:Int} (hax:Mz ax) (hay:Mz ay) (hbx:Mz bx) (hby:Mz by') (hcx:Mz cx) (hcy:Mz cy) {u1 v1 u2 v2 L R S D:Int} (e1:u1=ap ax (neg cx)) (e2:v1=ap ay (neg cy)) (e3:u2=ap bx (neg cx)) (e4:v2=ap by' (neg cy))
  (eL:L=aq u1 v2) (eR:R=aq v1 u2) (eS:S=ap (rg L) (rg R)) (eD:D=ap L (neg R)) (h:iV (aq oA S)<=((iV D).natAbs:Int)) :
  (0<(iV ax-iV cx)*(iV by'-iV cy)-(iV ay-iV cy)*(iV bx-iV cx) ↔ 0<iV D)∧((iV ax-iV cx)*(iV by'-iV cy)-(iV ay-iV cy)*(iV bx-iV cx)<0 ↔ iV D<0):=by
 obtain ⟨F,a0,s0,s1,hX⟩:=uV hax hay hbx hby hcx hcy e1 e2 e3 e4 eL eR eS
 have q:=p2 1074
 have q0:=Int.le_of_lt q
 have fS:Fx 670 1381 S:=by rw [eS,eL,eR]; exact F.s
 obtain ⟨_,_,T,hT,uT⟩:=wF.prod fS (by decide) (by decide) (by decide)
 have du:Un (2^1074*iV L-2^1074*iV R) (2^1074*iV D):=by
  rw [<- Int.mul_sub,eD,eL,eR]
  exact F.du.scale q0
 have hT':5070602400912917605986812821504*(2^1074*T)=1688849860263937*(2^1074*iV S):=by
  rw [hT,wE,show (5070602400912917605986812821504:Int)=2^102 by decide,show (2:Int)^1074=2^102*2^972 by rw [<- Int.pow_add]]
  generalize (2:Int)^972=z
  generalize (2:Int)^102=y
  generalize iV S=x
  rw [Int.mul_assoc,Int.mul_assoc,Int.mul_left_comm]
 have hM:2^1074*iV (aq oA S)<=((2^1074*iV D).natAbs:Int):=by
  rw [nO q0]
  exact Int.mul_le_mul_of_nonneg_left h q0
 have lu:=F.lu
 have ru:=F.ru
 rw [<- eL] at lu
 rw [<- eR] at ru
 obtain ⟨r1,r2⟩:=GG lu ru a0 s0 s1 hX du hT' (uT.scale q0) hM
 rw [r1,r2]
 exact nP q
theorem uW {p m:Int} {n:Nat} (hr:aj p) (hp:ak p=true) (h0:0<=p) (hm:aK p=m) (he:bi p+1074=n):iV p=m*2^n:=by
 have e:=iz hr hp
 rw [hm,he,Int.toNat_natCast] at e
 have s:0<=iV p:=by
  rw [iV,decide_eq_false (by omega)]
  exact Int.natCast_nonneg _
 omega
theorem Es:aj oB:=by unfold aj oB; omega
theorem Et:aj oC:=by unfold aj oC; omega
theorem Eu:aj oK:=by unfold aj oK; omega
theorem Iu:iV oB=4503599627370499*2^970:=uW Es (by decide) (by decide) (by decide) (by decide)
theorem Iv:iV oC=5066549580791812*2^919:=uW Et (by decide) (by decide) (by decide) (by decide)
theorem Iw:iV oK=6755399441055746*2^970:=uW Eu (by decide) (by decide) (by decide) (by decide)
theorem yw {p m:Int} {n:Nat} (hr:aj p) (hp:ak p=true) (e:iV p=m*2^n) (m0:0<=m) (hm:m<=2^53):Fx n (n+53) p:=by
 refine ⟨hr,hp,⟨_,by rw [e,Int.mul_comm]⟩,?_⟩
 have q:=p2 n
 have:0<=m*2^n:=Int.mul_nonneg m0 (by omega)
 have e':((iV p).natAbs:Int)=m*2^n:=by omega
 rw [e',Int.pow_add,Int.mul_comm ((2:Int)^n)]
 exact Int.mul_le_mul_of_nonneg_right hm (by omega)
theorem BP:Fx 970 1023 oB:=yw Es (by decide) Iu (by decide) (by decide)
theorem BQ:Fx 919 972 oC:=yw Et (by decide) Iv (by decide) (by decide)
theorem BR:Fx 970 1023 oK:=yw Eu (by decide) Iw (by decide) (by decide)
theorem Fx.dn {a a' b:Nat} {x:Int} (h:Fx a b x) (c:a'<=a):Fx a' b x:=⟨h.r,h.p,Int.dvd_trans (ct c) h.d,h.b⟩
theorem JM {ax ay bx by' cx cy:Int} (hax:Mz ax) (hay:Mz ay) (hbx:Mz bx) (hby:Mz by') (hcx:Mz cx) (hcy:Mz cy) {u1 v1 u2 v2 L R S D:Int} (e1:u1=ap ax (neg cx)) (e2:v1=ap ay (neg cy)) (e3:u2=ap bx (neg cx)) (e4:v2=ap by' (neg cy))
  (eL:L=aq u1 v2) (eR:R=aq v1 u2) (eS:S=ap (rg L) (rg R)) (hD:Un (iV u1*iV v2-iV v1*iV u2) (2^1074*iV D)) (h:iV (aq oB S)<=((iV D).natAbs:Int)) :
  (0<(iV ax-iV cx)*(iV by'-iV cy)-(iV ay-iV cy)*(iV bx-iV cx) ↔ 0<iV D)∧((iV ax-iV cx)*(iV by'-iV cy)-(iV ay-iV cy)*(iV bx-iV cx)<0 ↔ iV D<0):=by
 obtain ⟨F,a0,s0,s1,hX⟩:=uV hax hay hbx hby hcx hcy e1 e2 e3 e4 eL eR eS
 have q:=p2 1074
 have q0:=Int.le_of_lt q
 have fS:Fx 670 1381 S:=by rw [eS,eL,eR]; exact F.s
 obtain ⟨_,_,T,hT,uT⟩:=BP.prod fS (by decide) (by decide) (by decide)
 have hT':20282409603651670423947251286016*(2^1074*T)=4503599627370499*(2^1074*iV S):=by
  rw [hT,Iu,show (20282409603651670423947251286016:Int)=2^104 by decide,show (2:Int)^1074=2^104*2^970 by rw [<- Int.pow_add]]
  generalize (2:Int)^970=z
  generalize (2:Int)^104=y
  generalize iV S=x
  rw [Int.mul_assoc,Int.mul_assoc,Int.mul_left_comm]
 have hM:2^1074*iV (aq oB S)<=((2^1074*iV D).natAbs:Int):=by
  rw [nO q0]
  exact Int.mul_le_mul_of_nonneg_left h q0
 have lu:=F.lu
 have ru:=F.ru
 rw [<- eL] at lu
 rw [<- eR] at ru
 obtain ⟨r1,r2⟩:=GH lu ru a0 s0 s1 hX hD hT' (uT.scale q0) hM
 rw [r1,r2]
 exact nP q
theorem Mz.lost {p q:Int} (hp:Mz p) (hq:Mz q):Fx 872 1226 (sL p (neg q))∧iV p-iV q=iV (ap p (neg q))+iV (sL p (neg q))∧9007199254740992*((iV (sL p (neg q))).natAbs:Int)<=((iV (ap p (neg q))).natAbs:Int):=by
 obtain ⟨n1,n2,n3⟩:=bS hq.1 hq.2.1
 obtain ⟨f1,f2⟩:=Eh hp hq
 have nr:=kN hp.1 n1 f2
 have e:=(ij hp.1 n1 f2).2.2
 obtain ⟨s,u⟩:=hp.diff hq
 have el:iV (sL p (neg q))=iV p-iV q-iV (ap p (neg q)):=by omega
 have k:9007199254740992*((iV (sL p (neg q))).natAbs:Int)<=((iV (ap p (neg q))).natAbs:Int):=by
  have:=u.2
  rw [el]
  omega
 refine ⟨⟨jt hp.1 n1,f2,?_,?_⟩,by omega,k⟩
 ·rw [el]
  exact Int.dvd_sub (Int.dvd_sub hp.2.2.1 hq.2.2.1) s.d
 ·have:=s.b
  omega
theorem Ow {x w y:Int} (hw:0<=w) (hx:x=81129638414606681695789005144064*562949953421312*w) (hy:y=5066549580791812*w):9*x<=81129638414606681695789005144064*y:=by
 subst hx hy
 omega
theorem Ox {x w y:Int} (hw:0<=w) (hx:x=9007199254740992*2251799813685248*w) (hy:y=6755399441055746*w):3*x<=9007199254740992*y:=by
 subst hx hy
 omega
theorem Ld {T M:Int} (h:Un T M) (t:0<=T):0<=M:=by
 have:=wB h t
 omega
theorem ND {u1 v1 u2 v2 e1 f1 e2 f2:Int} (h1:Fx 872 1226 u1) (h2:Fx 872 1226 v1) (h3:Fx 872 1226 u2) (h4:Fx 872 1226 v2) (g1:Fx 872 1226 e1) (g2:Fx 872 1226 f1) (g3:Fx 872 1226 e2) (g4:Fx 872 1226 f2)
  (a1:9007199254740992*((iV e1).natAbs:Int)<=((iV u1).natAbs:Int)) (b1:9007199254740992*((iV f1).natAbs:Int)<=((iV v1).natAbs:Int)) (a2:9007199254740992*((iV e2).natAbs:Int)<=((iV u2).natAbs:Int)) (b2:9007199254740992*((iV f2).natAbs:Int)<=((iV v2).natAbs:Int)) {T:Int}
  (eT:T=ap (ap (aq u1 f2) (aq v2 e1)) (neg (ap (aq v1 e2) (aq u2 f1)))) :
  Fx 670 1383 T∧100*(81129638414606681695789005144064*((((iV u1+iV e1)*(iV v2+iV f2)-(iV v1+iV f1)*(iV u2+iV e2))-((iV u1*iV v2-iV v1*iV u2)+2^1074*iV T)).natAbs:Int))<=703*(((iV u1*iV v2).natAbs:Int)+((iV v1*iV u2).natAbs:Int)):=by
 obtain ⟨p1,p1u,_⟩:=h1.prod g4 (by decide) (by decide) (by decide)
 obtain ⟨p2',p2u,_⟩:=h4.prod g1 (by decide) (by decide) (by decide)
 obtain ⟨q1,q1u,_⟩:=h2.prod g3 (by decide) (by decide) (by decide)
 obtain ⟨q2,q2u,_⟩:=h3.prod g2 (by decide) (by decide) (by decide)
 obtain ⟨l,lu⟩:=p1.sum p2' (by decide)
 obtain ⟨r,ru⟩:=q1.sum q2 (by decide)
 obtain ⟨nr,ne⟩:=r.neg
 obtain ⟨t,tu⟩:=l.sum nr (by decide)
 have q0:=Int.le_of_lt (p2 1074)
 have lu':=lu.scale q0
 have ru':=ru.scale q0
 rw [Int.mul_add] at lu' ru'
 have tu':=tu.scale q0
 rw [ne,<- Int.sub_eq_add_neg,Int.mul_sub] at tu'
 rw [eT]
 exact ⟨t,Eq a1 b1 a2 b2 p1u p2u q1u q2u lu' ru' tu'⟩
theorem JN {ax ay bx by' cx cy:Int} (hax:Mz ax) (hay:Mz ay) (hbx:Mz bx) (hby:Mz by') (hcx:Mz cx) (hcy:Mz cy) {u1 v1 u2 v2 L R S h T d:Int} (e1:u1=ap ax (neg cx)) (e2:v1=ap ay (neg cy)) (e3:u2=ap bx (neg cx)) (e4:v2=ap by' (neg cy))
  (eL:L=aq u1 v2) (eR:R=aq v1 u2) (eS:S=ap (rg L) (rg R)) (fh:Fx 670 1383 h) (hh:Un (iV u1*iV v2-iV v1*iV u2) (2^1074*iV h))
  (eT:T=ap (ap (aq u1 (sL by' (neg cy))) (aq v2 (sL ax (neg cx)))) (neg (ap (aq v1 (sL bx (neg cx))) (aq u2 (sL ay (neg cy)))))) (ed:d=ap h T) (hS:0<iV S)
  (hE:iV (ap (aq oC S) (aq oK (rg h)))<=((iV d).natAbs:Int)) :
  (0<(iV ax-iV cx)*(iV by'-iV cy)-(iV ay-iV cy)*(iV bx-iV cx) ↔ 0<iV d)∧((iV ax-iV cx)*(iV by'-iV cy)-(iV ay-iV cy)*(iV bx-iV cx)<0 ↔ iV d<0):=by
 obtain ⟨F,a0,s0,s1,_⟩:=uV hax hay hbx hby hcx hcy e1 e2 e3 e4 eL eR eS
 obtain ⟨l1,x1,k1⟩:=hax.lost hcx
 obtain ⟨l2,x2,k2⟩:=hay.lost hcy
 obtain ⟨l3,x3,k3⟩:=hbx.lost hcx
 obtain ⟨l4,x4,k4⟩:=hby.lost hcy
 have f1:=(hax.diff hcx).1
 have f2:=(hay.diff hcy).1
 have f3:=(hbx.diff hcx).1
 have f4:=(hby.diff hcy).1
 rw [<- e1] at f1 x1 k1
 rw [<- e2] at f2 x2 k2
 rw [<- e3] at f3 x3 k3
 rw [<- e4] at f4 x4 k4
 obtain ⟨fT,hX⟩:=ND f1 f2 f3 f4 l1 l2 l3 l4 k1 k2 k3 k4 eT
 rw [<- x1,<- x2,<- x3,<- x4] at hX
 have q:=p2 1074
 have q0:=Int.le_of_lt q
 have fS:Fx 670 1381 S:=by rw [eS,eL,eR]; exact F.s
 obtain ⟨fa,fe⟩:=fh.abs
 obtain ⟨c1,_,T1,hT1,uT1⟩:=BQ.prod fS (by decide) (by decide) (by decide)
 obtain ⟨c2,_,T2,hT2,uT2⟩:=BR.prod fa (by decide) (by decide) (by decide)
 obtain ⟨_,uE⟩:=(c1.up (b':=1400) (by decide)).sum ((c2.dn (a':=919+670-1074) (by decide)).up (by decide)) (by decide)
 obtain ⟨_,ud⟩:=fh.sum fT (by decide)
 rw [<- ed] at ud
 have hc:9*(2^1074*iV S)<=81129638414606681695789005144064*(2^1074*T1):=by
  refine Ow (w:=2^919*iV S) (Int.mul_nonneg (Int.le_of_lt (p2 919)) (by omega)) ?_ ?_
  ·rw [<- Int.mul_assoc,show (81129638414606681695789005144064*562949953421312:Int)=2^155 by decide,<- Int.pow_add]
  ·rw [hT1,Iv,Int.mul_assoc]
 have hk:3*((2^1074*iV h).natAbs:Int)<=9007199254740992*(2^1074*T2):=by
  refine Ox (w:=2^970*((iV h).natAbs:Int)) (Int.mul_nonneg (Int.le_of_lt (p2 970)) (by omega)) ?_ ?_
  ·rw [nO q0,<- Int.mul_assoc,show (9007199254740992*2251799813685248:Int)=2^104 by decide,<- Int.pow_add]
  ·rw [hT2,Iw,fe,Int.mul_assoc]
 have sp:0<2^1074*iV S:=Int.mul_pos q hS
 have t1:0<=2^1074*T1:=Int.le_of_lt (qq (by decide) (by decide) hc sp)
 have t2:0<=2^1074*T2:=by
  generalize 2^1074*T2=z at *
  clear hX a0 s0 hc
  omega
 have uc:=uT1.scale q0
 have uk:=uT2.scale q0
 have uE':=uE.scale q0
 rw [Int.mul_add] at uE'
 have ud':=ud.scale q0
 rw [Int.mul_add] at ud'
 have hE':2^1074*iV (ap (aq oC S) (aq oK (rg h)))<=((2^1074*iV d).natAbs:Int):=by
  rw [nO q0]
  exact Int.mul_le_mul_of_nonneg_left hE q0
 obtain ⟨r1,r2⟩:=GJ hX a0 s0 (Int.add_nonneg (Int.natCast_nonneg _) (Int.natCast_nonneg _)) sp hh ud' hc hk t1 t2 uc uk (Ld uc t1) (Ld uk t2) uE' hE'
 rw [r1,r2]
 exact nP q
end Go.Proofs.YtcjfonaolcokbaaGreatDoor
namespace Go.Proofs.YtcjfonaolcokbaaGreatDoor.M
open Go Ieee
def nn (p:Int):Prop:=aj p∧¬ aG p=4
def iC (a b:Int):Int:=if au a<au b then a else if au b<au a then b else if a=b then a else -9223372036854775808
def iD (a b:Int):Int:=if au a<au b then b else if au b<au a then a else if a=b then a else 0
theorem jT {a b:Int} (ha:aj a) (hb:aj b) (h:au a=au b) (hn:¬ a=b):(a=0∧b=-9223372036854775808)∨(a=-9223372036854775808∧b=0):=by
 unfold au aj at *
 split at h <;> split at h <;> omega
theorem jx:nn 0∧nn (-9223372036854775808):=by refine ⟨⟨?_,by decide⟩,⟨?_,by decide⟩⟩ <;> (unfold aj; omega)
theorem l7 {a b:Int} (ha:nn a) (hb:nn b):nn (iC a b)∧au (iC a b)<=au a∧au (iC a b)<=au b∧(au (iC a b)=au a∨au (iC a b)=au b):=by
 unfold iC
 split
 ·exact ⟨ha,by omega,by omega,.inl rfl⟩
 ·split
  ·exact ⟨hb,by omega,by omega,.inr rfl⟩
  ·split
   ·exact ⟨ha,by omega,by omega,.inl rfl⟩
   ·have e:au a=au b:=by omega
    have e0:au (-9223372036854775808)=0:=by decide
    have e1:au 0=0:=by decide
    rcases jT ha.1 hb.1 e (by assumption) with ⟨rfl,rfl⟩ | ⟨rfl,rfl⟩
    ·exact ⟨jx.2,by omega,by omega,.inr rfl⟩
    ·exact ⟨jx.2,by omega,by omega,.inl rfl⟩
theorem l8 {a b:Int} (ha:nn a) (hb:nn b):nn (iD a b)∧au a<=au (iD a b)∧au b<=au (iD a b)∧(au (iD a b)=au a∨au (iD a b)=au b):=by
 unfold iD
 split
 ·exact ⟨hb,by omega,by omega,.inr rfl⟩
 ·split
  ·exact ⟨ha,by omega,by omega,.inl rfl⟩
  ·split
   ·exact ⟨ha,by omega,by omega,.inl rfl⟩
   ·have e:au a=au b:=by omega
    have e0:au (-9223372036854775808)=0:=by decide
    have e1:au 0=0:=by decide
    rcases jT ha.1 hb.1 e (by assumption) with ⟨rfl,rfl⟩ | ⟨rfl,rfl⟩
    ·exact ⟨jx.1,by omega,by omega,.inl rfl⟩
    ·exact ⟨jx.1,by omega,by omega,.inr rfl⟩
def bT (lo hi:Int):Bool:=decide (¬ aG lo=4∧¬ aG hi=4∧au lo<=au hi∧au lo<9218868437227405312∧-9218868437227405312<au hi)
theorem jU {lo hi:Int}:bT lo hi=true ↔ ¬ aG lo=4∧¬ aG hi=4∧au lo<=au hi∧au lo<9218868437227405312∧-9218868437227405312<au hi:=by unfold bT; exact decide_eq_true_iff
theorem jV {p:Int} (h:nn p):au (aI p)=au p∧nn (aI p):=by
 have h0:=NE h.1
 unfold aI
 rw [if_neg h.2]
 split
 ·rename_i hz
  rcases h0.1 hz with rfl | rfl
  ·exact ⟨rfl,jx.1⟩
  ·exact ⟨by decide,jx.1⟩
 ·exact ⟨rfl,h⟩
end Go.Proofs.YtcjfonaolcokbaaGreatDoor.M
namespace Go.Proofs.YtcjfonaolcokbaaGreatDoor
open Go Go.RowKit Go.Proofs.YtcjfonaolcokbaaGreatDoor.M
theorem AI {b:Int} (hb:aj b) (w:World) :
  Calls Tryz.prog 18 #[.int .i64 b] w fun e w'=>e=.returned (.bool (ak b))∧w'=w:=by
 have hb':=hb
 unfold aj at hb'
 have hm:bits .and .i64 (b/4503599627370496) 2047=bN b:=iJ (b/4503599627370496) 11 (by omega)
 go_enter Tryz.func18,Tryz.ntmps18
 go_wp2
 go_ret
 exact ⟨cd (by unfold ak; by_cases h:bN b=2047 <;> simp [h]),rfl⟩
theorem ns {x y:Int} (hx:aj x) (hy:aj y) (w:World) :
  Calls Tryz.prog 11 #[.agg #[.int .i64 x,.int .i64 y]] w fun e w'=>e=.returned (.bool (ak x && ak y))∧Below w.heap.size w w':=by
 cases h1:ak x <;> cases h2:ak y
 all_goals
  go_enter Tryz.func11,Tryz.ntmps11
  go_wp2_with fail
  refine (AI hx _).mono ?_
  rintro _ _ ⟨rfl,rfl⟩
  go_wp2_with fail
  refine (AI hy _).mono ?_
  rintro _ _ ⟨rfl,rfl⟩
  go_wp2
  go_ret
  exact ⟨rfl,ah _ _⟩
def q0 (b:Int):Int:=if b=-9223372036854775808 then 0 else b
theorem Ew (b:Int) (w:World) :
  Calls Tryz.prog 17 #[.int .i64 b] w fun e w'=>e=.returned (.int .i64 (q0 b))∧w'=w:=by
 by_cases h:b=-9223372036854775808
 ·subst h
  go_enter Tryz.func17,Tryz.ntmps17
  go_wp2
  go_ret
  exact ⟨rfl,rfl⟩
 ·have hr:q0 b=b:=by unfold q0; rw [if_neg h]
  go_enter Tryz.func17,Tryz.ntmps17
  go_wp2
  go_ret
  exact ⟨b8 (by first | rfl | exact hr.symm),rfl⟩
theorem aF {w w':World} {p:Addr} {v:Value} (h:w.cell? p=some v) (hb:Below w.heap.size w w'):w'.cell? p=some v :=
 (hb.cell (World.block_lt_of_cell? w _ h)).trans h
theorem Q4.keeps {a b:Nat} {x0 x1 x2 x3:Value} {W W':World} (h:W.cell? ⟨a,0,none⟩=some x0∧W.cell? ⟨a,1,none⟩=some x1∧W.cell? ⟨b,0,none⟩=some x2∧W.cell? ⟨b,1,none⟩=some x3) (hb:Below W.heap.size W W') :
  W'.cell? ⟨a,0,none⟩=some x0∧W'.cell? ⟨a,1,none⟩=some x1∧W'.cell? ⟨b,0,none⟩=some x2∧W'.cell? ⟨b,1,none⟩=some x3 :=
 ⟨aF h.1 hb,aF h.2.1 hb,aF h.2.2.1 hb,aF h.2.2.2 hb⟩
def eJ (lo hi:Int):Value:=.agg #[.float .f64 (wd lo),.float .f64 (wd hi)]
def eK (lo hi:Int):Value:=.agg #[.int .i64 lo,.int .i64 hi]
theorem qr (x y:Int) (w:World) :
  Calls Tryz.prog 53 #[eK x y] w fun e w'=>e=.returned (eJ x y)∧w'=((w.alloc (.cells #[.int .i64 x,.int .i64 y] 60)).alloc (.cells #[.float .f64 (wd x),.float .f64 (wd y)] 87)).drew:=by
 unfold eK eJ
 have hx:Hid ((((w.alloc (.cells #[.int .i64 x,.int .i64 y] 60)).alloc (.cells #[.float .f64 0,.float .f64 0] 87)).setCell ⟨w.heap.size+1,0,none⟩ (.float .f64 (wd x))).setCell ⟨w.heap.size+1,1,none⟩ (.float .f64 (wd y))=(w.alloc (.cells #[.int .i64 x,.int .i64 y] 60)).alloc (.cells #[.float .f64 (wd x),.float .f64 (wd y)] 87)):=by
  unfold Hid
  rw [World.setCell_alloc_at _ _ _ _ _ (by simp),World.setCell_alloc_at _ _ _ _ _ (by simp)]
  rfl
 have hb2:=aP w (.cells #[.int .i64 x,.int .i64 y] 60) (.cells #[.float .f64 0,.float .f64 0] 87)
 have q0:=dJ w (.cells #[.int .i64 x,.int .i64 y] 60) (.cells #[.float .f64 0,.float .f64 0] 87)
 have q1:=cR w (.cells #[.int .i64 x,.int .i64 y] 60) (.cells #[.float .f64 0,.float .f64 0] 87)
 have hs:=i6 w (.cells #[.int .i64 x,.int .i64 y] 60) (.cells #[.float .f64 0,.float .f64 0] 87)
 have k0:=ac q0 0 rfl
 have k1:=ac q0 1 rfl
 go_enter Tryz.func53,Tryz.ntmps53
 go_wp2_with fail
 generalize hwx:(w.alloc (.cells #[.int .i64 x,.int .i64 y] 60)).alloc (.cells #[.float .f64 0,.float .f64 0] 87)=wx at hb2 q0 q1 hs k0 k1 hx ⊢
 clear hwx
 have hc:w.heap.size<w.heap.size+1∧w.heap.size+1<=wx.drew.heap.size∧wx.drew.cell? ⟨w.heap.size,0,none⟩=some (.int .i64 x)∧wx.drew.cell? ⟨w.heap.size,1,none⟩=some (.int .i64 y):=⟨by omega,by show _<=wx.heap.size; omega,k0,k1⟩
 have d1:wx.drew.heap[w.heap.size+1]?=some (.cells #[.float .f64 0,.float .f64 0] 87 (0,0)):=q1
 have d2:((wx.setCell ⟨w.heap.size+1,0,none⟩ (.float .f64 (wd x))).drew).heap[w.heap.size+1]?=some (.cells #[.float .f64 (wd x),.float .f64 0] 87 (0,0)):=aM d1 0 (.float .f64 (wd x))
 have d3:(((wx.setCell ⟨w.heap.size+1,0,none⟩ (.float .f64 (wd x))).setCell ⟨w.heap.size+1,1,none⟩ (.float .f64 (wd y))).drew).heap[w.heap.size+1]?=some (.cells #[.float .f64 (wd x),.float .f64 (wd y)] 87 (0,0)):=aM d2 1 (.float .f64 (wd y))
 have f0:=ac d1 0 rfl
 have z0:=aw d1 0
 have f1:=ac d2 1 rfl
 have z1:=aw d2 1
 have s0:(store ⟨w.heap.size+1,0,none⟩ (.float .f64 (wd x))).run Tryz.prog wx.drew=.ok () ((wx.setCell ⟨w.heap.size+1,0,none⟩ (.float .f64 (wd x))).drew):=by rw [run_store _ _ _ _ _ rfl,f0]; simp only [z0]; rfl
 have s1:(store ⟨w.heap.size+1,1,none⟩ (.float .f64 (wd y))).run Tryz.prog ((wx.setCell ⟨w.heap.size+1,0,none⟩ (.float .f64 (wd x))).drew)=.ok () (((wx.setCell ⟨w.heap.size+1,0,none⟩ (.float .f64 (wd x))).setCell ⟨w.heap.size+1,1,none⟩ (.float .f64 (wd y))).drew):=by rw [run_store _ _ _ _ _ rfl,f1]; simp only [z1]; rfl
 go_region_held3 (fun W=>w.heap.size<w.heap.size+1∧w.heap.size+1<=W.heap.size∧W.cell? ⟨w.heap.size,0,none⟩=some (.int .i64 x)∧W.cell? ⟨w.heap.size,1,none⟩=some (.int .i64 y))
  (first | assumption | (repeat (first | exact hc | refine qh (by omega) ?_)))
  ((go_at_call 20; refine (aW _ _).mono ?_; rintro _ _ ⟨rfl,rfl⟩))
 have e0:=ac d3 0 rfl
 have e1:=ac d3 1 rfl
 clear s0 s1 f0 f1 z0 z1 d1 d2 d3
 generalize (wx.setCell ⟨w.heap.size+1,0,none⟩ (.float .f64 (wd x))).setCell ⟨w.heap.size+1,1,none⟩ (.float .f64 (wd y))=wy at *
 go_wp2
 refine bodyPost_ret (v:=.agg #[.float .f64 (wd x),.float .f64 (wd y)]) (by simp [results,Tryz.results53,go_sem,e0,e1]) rfl ⟨rfl,by rw [hx.out]⟩
theorem GK (x y:Int) (w:World) :
  Calls Tryz.prog 53 #[eK x y] w fun e w'=>e=.returned (eJ x y)∧Below w.heap.size w w' :=
 (qr x y w).mono fun _ _ ⟨h1,h2⟩=>⟨h1,by rw [h2]; exact (aP w _ _).drew⟩
theorem GL {p:Int} (h:nn p) (w:World) :
  Calls Tryz.prog 81 #[.float .f64 (wd p),.int .i64 1] w fun e w'=>e=.returned (.bool (decide (9218868437227405312<=au p)))∧w'=w:=by
 have r:aj 9218868437227405311:=by unfold aj; omega
 have c:¬ aG 9218868437227405311=4:=by decide
 have k:au 9218868437227405311=9218868437227405311:=by decide
 have e:wd 9218868437227405311=9218868437227405311:=by decide
 rcases Int.lt_trichotomy (au p) 9218868437227405311 with g | g | g
 ·have o:=fR h.1 r h.2 c (by rw [k]; exact g)
  rw [e] at o
  rw [decide_eq_false (by omega)]
  go_enter Tryz.func81,Tryz.ntmps81
  go_wp2
  go_ret
  exact ⟨rfl,rfl⟩
 ·have o:=fJ h.1 r h.2 c (by rw [k]; exact g)
  rw [e] at o
  rw [decide_eq_false (by omega)]
  go_enter Tryz.func81,Tryz.ntmps81
  go_wp2
  go_ret
  exact ⟨rfl,rfl⟩
 ·have o:=fU h.1 r h.2 c (by rw [k]; exact g)
  rw [e] at o
  rw [decide_eq_true (by omega)]
  go_enter Tryz.func81,Tryz.ntmps81
  go_wp2
  go_ret
  exact ⟨rfl,rfl⟩
theorem Le {p:Int} (h:nn p):Op.negFloat .f64 (wd p)=wd (neg p):=by
 have hr:=h.1
 unfold Op.negFloat
 show wd p ^^^ 2^63=_
 unfold neg
 rw [if_neg h.2]
 unfold aj at hr
 by_cases h0:p<0
 ·rw [if_pos h0]
  have e:wd p=2^63+wd (p+9223372036854775808):=by unfold wd; omega
  rw [e,wJ 63 _ (by unfold wd; omega)]
 ·rw [if_neg h0,Nat.xor_comm,uo 63 _ (by unfold wd; omega)]
  unfold wd; omega
theorem mx {P:Program} {p:Int} (h:nn p) (w:World):(Op.unary UnOp.neg (.float .f64 (wd p))).run P w=.ok (.float .f64 (wd (neg p))) w:=by
 show (pure (Value.float .f64 (Op.negFloat .f64 (wd p))):Sem Value).run P w=_
 rw [Le h]
 rfl
theorem fj {p:Int} (h:nn p):nn (neg p)∧au (neg p)=- au p:=by
 obtain ⟨a,b⟩:=uC h.1 h.2
 exact ⟨⟨i4 h.1,b⟩,a⟩
theorem BT {p:Int} (h:nn p) (w:World) :
  Calls Tryz.prog 81 #[.float .f64 (wd p),.int .i64 (-1)] w fun e w'=>e=.returned (.bool (decide (au p <= -9218868437227405312)))∧w'=w:=by
 have r:aj 9218868437227405311:=by unfold aj; omega
 have c:¬ aG 9218868437227405311=4:=by decide
 have k:au 9218868437227405311=9218868437227405311:=by decide
 have e:wd 9218868437227405311=9218868437227405311:=by decide
 have hN:=fun W=>mx (P:=Tryz.prog) h W
 obtain ⟨g0,g1⟩:=fj h
 rcases Int.lt_trichotomy (au (neg p)) 9218868437227405311 with g | g | g
 ·have o:=fR g0.1 r g0.2 c (by rw [k]; exact g)
  rw [e] at o
  rw [decide_eq_false (by omega)]
  clear g1 g
  go_enter Tryz.func81,Tryz.ntmps81
  go_wp2
  go_ret
  exact ⟨rfl,rfl⟩
 ·have o:=fJ g0.1 r g0.2 c (by rw [k]; exact g)
  rw [e] at o
  rw [decide_eq_false (by omega)]
  clear g1 g
  go_enter Tryz.func81,Tryz.ntmps81
  go_wp2
  go_ret
  exact ⟨rfl,rfl⟩
 ·have o:=fU g0.1 r g0.2 c (by rw [k]; exact g)
  rw [e] at o
  rw [decide_eq_true (by omega)]
  clear g1 g
  go_enter Tryz.func81,Tryz.ntmps81
  go_wp2
  go_ret
  exact ⟨rfl,rfl⟩
theorem sN {lo hi:Int} (hl:aj lo) (hh:aj hi) (w:World) :
  Calls Tryz.prog 54 #[eJ lo hi] w fun e w'=>e=.returned (.bool (bT lo hi))∧Below w.heap.size w w':=by
 unfold eJ
 by_cases h4:aG lo=4∨aG hi=4
 ·have o:=fu hl hh h4
  rw [show bT lo hi=false from decide_eq_false (fun h=>by rcases h4 with g | g; exact h.1 g; exact h.2.1 g)]
  go_enter Tryz.func54,Tryz.ntmps54
  go_wp2
  go_ret
  exact ⟨rfl,ah _ _⟩
 have h1:¬ aG lo=4:=fun h=>h4 (.inl h)
 have h2:¬ aG hi=4:=fun h=>h4 (.inr h)
 have CU:Hid (∀ W,Calls Tryz.prog 81 #[.float .f64 (wd lo),.int .i64 1] W fun e w'=>e=.returned (.bool (decide (9218868437227405312<=au lo)))∧w'=W):=fun W=>GL ⟨hl,h1⟩ W
 have CD:Hid (∀ W,Calls Tryz.prog 81 #[.float .f64 (wd hi),.int .i64 (-1)] W fun e w'=>e=.returned (.bool (decide (au hi <= -9218868437227405312)))∧w'=W):=fun W=>BT ⟨hh,h2⟩ W
 have q0:(w.alloc (.cells #[.float .f64 (wd lo),.float .f64 (wd hi)] 87)).heap[w.heap.size]?=some (.cells #[.float .f64 (wd lo),.float .f64 (wd hi)] 87 (0,0)):=by show (w.heap.push _)[w.heap.size]?=_; simp
 have k0:=ac q0 0 rfl
 have k1:=ac q0 1 rfl
 have hb:=ah w (.cells #[.float .f64 (wd lo),.float .f64 (wd hi)] 87)
 by_cases g:au hi<au lo
 ·have o:=fU hl hh h1 h2 g
  rw [show bT lo hi=false from decide_eq_false (fun h=>by omega)]
  clear CU CD
  go_enter Tryz.func54,Tryz.ntmps54
  go_wp2
  go_ret
  exact ⟨rfl,ah _ _⟩
 have o:FloatKind.f64.format.order (wd lo) (wd hi)=some .lt∨FloatKind.f64.format.order (wd lo) (wd hi)=some .eq:=by
  by_cases e:au lo=au hi
  ·exact .inr (fJ hl hh h1 h2 e)
  ·exact .inl (fR hl hh h1 h2 (by omega))
 by_cases a:9218868437227405312<=au lo
 ·rw [show bT lo hi=false from decide_eq_false (fun h=>by omega)]
  rw [decide_eq_true a] at CU
  clear h4 g a CD q0 k0 k1
  rcases o with o | o
  all_goals
   go_enter Tryz.func54,Tryz.ntmps54
   go_wp2_with (go_at_call 81; refine (CU.out _).mono ?_; rintro _ _ ⟨rfl,rfl⟩)
   go_ret
   exact ⟨rfl,hb⟩
 rw [decide_eq_false a] at CU
 by_cases b:au hi <= -9218868437227405312
 ·rw [show bT lo hi=false from decide_eq_false (fun h=>by omega)]
  rw [decide_eq_true b] at CD
  clear h4 g a b q0 k0 k1
  rcases o with o | o
  all_goals
   go_enter Tryz.func54,Tryz.ntmps54
   go_wp2_with fail
   refine (CU.out _).mono ?_
   rintro _ _ ⟨rfl,rfl⟩
   go_wp2_with fail
   refine (CD.out _).mono ?_
   rintro _ _ ⟨rfl,rfl⟩
   go_wp2
   go_ret
   exact ⟨rfl,hb⟩
 ·rw [show bT lo hi=true from decide_eq_true ⟨h1,h2,by omega,by omega,by omega⟩]
  rw [decide_eq_false b] at CD
  clear h4 g a b q0 k0 k1
  rcases o with o | o
  all_goals
   go_enter Tryz.func54,Tryz.ntmps54
   go_wp2_with fail
   refine (CU.out _).mono ?_
   rintro _ _ ⟨rfl,rfl⟩
   go_wp2_with fail
   refine (CD.out _).mono ?_
   rintro _ _ ⟨rfl,rfl⟩
   go_wp2
   go_ret
   exact ⟨rfl,hb⟩
end Go.Proofs.YtcjfonaolcokbaaGreatDoor
