/- Parts of the proof. -/
import Derived.Test.YtjjihmnbdeeedaaGreatDoorKn7
import Derived.Test.YtjjihmnbdeeedaaGreatDoorKn5
set_option maxRecDepth 100000
set_option maxHeartbeats 40000000
set_option linter.unusedVariables false
set_option linter.unusedSimpArgs false
namespace Go.Proofs.YtjjihmnbdeeedaaGreatDoor
open Go Go.RowKit Go.Proofs.YtjjihmnbdeeedaaGreatDoor.M
theorem xscaleP {P:Nat->Prop} {v:Value} {s:Ls} {eo:Option Addr} {N ec:Nat} {d:Nat->Int} {b:Int} (w:World) (h:OutP P w v s) (hE:∀ W,BelP P w W->Row W eo (N+1) ec d) (hd:∀ i,i<=N->rng (d i)∧pok (d i)=true) (hb:rng b) (pb:pok b=true) (h0:¬ rg b=0) (hn:s.n+2*N<=700000) (hB:PB P w) (H:∀ W,BelP P w W->Hold4 W) :
  Calls Tryz.prog 216 #[v,.slice eo (N+1) ec,.int .i64 b] w fun e w'=>(sx d b N=true∧∃ v',e=.returned v'∧OutP P w' v' (scl s d b N)∧BelP P w w')∨(sx d b N=false∧e=gaveX∧BelP P w w'):=by
 have hz:=fun W=>xnought hb W
 rw [decide_eq_false h0] at hz
 have hR:=hE w (BelP.refl _ _)
 have hle:=hR.le
 have hmx:=hR.max
 obtain ⟨bb,off,rfl,hbb,hc⟩:=hR.spot (by omega)
 have c0:=hc 0 (by omega)
 rw [Nat.add_zero] at c0
 have HE:Hid (∀ W,BelP P w W->Row W (some ⟨bb,off,none⟩) (N+1) ec d):=hE
 have HH:Hid (∀ W,BelP P w W->Hold4 W):=H
 have HD:Hid (∀ i,i<=N->rng (d i)∧pok (d i)=true):=hd
 have HSQ:Hid (∀ k,k<=N->sx d b k=true->rng (sq d b k)∧pok (sq d b k)=true):=sq_fin hd hb
 have HSL:=ss_le s d b
 have HB:Hid (rng b∧pok b=true):=⟨hb,pb⟩
 have CP:Hid (∀ W,Hold4 W->Calls Tryz.prog 182 #[.int .i64 (d 0),.int .i64 b] W fun e w'=>e=.returned (.tuple #[.int .i64 (sq d b 0),.int .i64 (prL (d 0) b),.bool (sx d b 0)])∧Below W.heap.size W w'):=fun W hW=>xtwoProd (hd 0 (by omega)).1 hb (hd 0 (by omega)).2 pb W hW
 have HS0:Hid (ss s d b 0=s.add (prL (d 0) b)):=rfl
 have rl0:rng (prL (d 0) b):=prL_rng (hd 0 (by omega)).1 hb
 have HNO:Hid (sx d b 0=false->sx d b N=false):=fun hno=>by
  cases hx:sx d b N
  ·rfl
  ·have:=sx_mono (Nat.zero_le N) hx
   rw [hno] at this
   cases this
 clear hE H hd hc hR hb pb
 have hN1:((N:Int)+1 == 0)=false:=by simp; omega
 obtain ⟨ao0,cap0,rfl⟩:=h.shape
 cases hx0:sx d b 0
 ·rw [hx0] at CP
  generalize sq d b 0=q0 at *
  generalize prL (d 0) b=l0 at *
  generalize d 0=d0 at *
  go_enter Tryz.func216,Tryz.ntmps216
  go_wp2_with (go_at_call 266; refine (hz _).mono ?_; rintro _ wz ⟨rfl,hw⟩; replace hw:=hw.symm; subst hw)
  refine (CP.out _ (HH.out _ (BelP.refl _ _))).mono ?_
  rintro _ w1 ⟨rfl,hb1⟩
  have hB1:BelP P w w1:=BelP.of hb1 hB
  go_wp2_with fail
  refine (xsure_no _ _ _).mono ?_
  rintro _ wz ⟨rfl,hw⟩
  replace hw:=hw.symm
  subst hw
  unfold gaveX
  go_wp2
  exact ⟨rfl,.inr ⟨HNO.out hx0,rfl,hB1⟩⟩
 ·rw [hx0] at CP
  have CA:Hid (∀ W,BelP P w W->OutP P W (.slice ao0 s.n cap0) s->Calls Tryz.prog 268 #[.slice ao0 s.n cap0,.int .i64 (prL (d 0) b)] W fun e w'=>∃ v',e=.returned v'∧OutP P w' v' (ss s d b 0)∧BelP P W w'):=fun W hW hL=>by
   rw [HS0.out]
   exact xaddP W hL rl0 (by omega) (PB.le hB hW.size)
  have HK:Hid (∀ W,Below w.heap.size w W->OutP P W (.slice ao0 s.n cap0) s):=fun W hW=>h.stays hW
  clear h
  obtain ⟨q0,hq0⟩:∃ q0,sq d b 0=q0:=⟨_,rfl⟩
  obtain ⟨l0,hl0⟩:∃ l0,prL (d 0) b=l0:=⟨_,rfl⟩
  rw [hq0,hl0] at CP
  rw [hl0] at CA
  have HQ0:Hid (sq d b 0=q0):=hq0
  clear hq0 hl0 rl0 HS0 HNO
  generalize hd0:d 0=d0 at c0 CP
  clear hd0
  go_enter Tryz.func216,Tryz.ntmps216
  go_wp2_with (go_at_call 266; refine (hz _).mono ?_; rintro _ wz ⟨rfl,hw⟩; replace hw:=hw.symm; subst hw)
  refine (CP.out _ (HH.out _ (BelP.refl _ _))).mono ?_
  rintro _ w1 ⟨rfl,hb1⟩
  have hB1:BelP P w w1:=BelP.of hb1 hB
  go_wp2_with fail
  refine (xsure_yes _ _ _).mono ?_
  rintro _ wz ⟨rfl,hw⟩
  replace hw:=hw.symm
  subst hw
  go_wp2_with fail
  refine (CA.out _ hB1 (HK.out _ hb1)).mono ?_
  rintro _ w2 ⟨v2,rfl,hL2,hb2⟩
  have hB2:=hB1.trans hb2
  clear CP CA HK hz
  go_wp2_with fail
  ·have hN0:N=0:=by omega
   go_loopw [0,7,39] (fun hv qv iv wr=>∃ (k:Nat) (v0:Value),k<=N∧iv=.int .i64 k∧hv=v0∧qv=.int .i64 (sq d b k)∧Hid (sx d b k=true)∧Hid (OutP P wr v0 (ss s d b k))∧Hid (BelP P w wr)) (fun _ _ iv _=>N-(intOf iv).toNat)
   case atStart=>exact ⟨0,_,Nat.zero_le _,rfl,rfl,by rw [HQ0.out],hx0,hL2,hB2⟩
   case round=>
    obtain ⟨k,hv,hk,rfl,hve,rfl,HX,HL,HBW⟩:=hrel
    replace hve:=hve.symm
    subst hve
    clear hL2 hB2 HQ0
    have hLk:=HSL k
    obtain rfl:k=N:=by omega
    obtain ⟨r1,r2⟩:=HSQ.out k hk HX.out
    have hwr:PB P wr:=PB.le hB HBW.out.size
    have CA:Hid (∀ W,W=wr->Calls Tryz.prog 268 #[hv,.int .i64 (sq d b k)] W fun e w'=>∃ v',e=.returned v'∧OutP P w' v' (scl s d b k)∧BelP P W w'):=fun W hW=>by
     subst hW
     exact xaddP W HL.out r1 (by omega) hwr
    clear r1 r2
    generalize sq d b k=qk at *
    go_wp2_with fail
    refine (CA.out _ rfl).mono ?_
    rintro _ w3 ⟨v3,rfl,hL3,hb3⟩
    go_wp2
    go_ret
    exact .inl ⟨HX.out,v3,rfl,hL3,HBW.out.trans hb3⟩
  ·go_loopw [0,7,39] (fun hv qv iv wr=>∃ (k:Nat) (v0:Value),k<=N∧iv=.int .i64 k∧hv=v0∧qv=.int .i64 (sq d b k)∧Hid (sx d b k=true)∧Hid (OutP P wr v0 (ss s d b k))∧Hid (BelP P w wr)) (fun _ _ iv _=>N-(intOf iv).toNat)
   case atStart=>exact ⟨0,_,Nat.zero_le _,rfl,rfl,by rw [HQ0.out],hx0,hL2,hB2⟩
   case round=>
    obtain ⟨k,hv,hk,rfl,hve,rfl,HX,HL,HBW⟩:=hrel
    replace hve:=hve.symm
    subst hve
    clear hL2 hB2 HQ0
    have hLk:=HSL k
    by_cases hlt:k<N
    ·obtain ⟨bb',off',e1,hbb',hc⟩:=(HE.out _ HBW.out).spot (by omega)
     simp only [Option.some.injEq,Addr.mk.injEq,and_true] at e1
     obtain ⟨rfl,rfl⟩:=e1
     have c1:=hc (k+1) (by omega)
     rw [show off+(k+1)=off+1+k by omega] at c1
     clear hc
     obtain ⟨d1,d2⟩:=HD.out (k+1) (by omega)
     obtain ⟨r1,r2⟩:=HSQ.out k hk HX.out
     obtain ⟨b1,b2⟩:=HB.out
     have hwr:PB P wr:=PB.le hB HBW.out.size
     have C1:Hid (∀ W,Hold4 W->Calls Tryz.prog 182 #[.int .i64 (d (k+1)),.int .i64 b] W fun e w'=>e=.returned (.tuple #[.int .i64 (fprod (d (k+1)) b),.int .i64 (prL (d (k+1)) b),.bool (pX (d (k+1)) b)])∧Below W.heap.size W w'):=fun W hW=>xtwoProd d1 b1 d2 b2 W hW
     have rt:rng (fprod (d (k+1)) b):=fprod_rng d1 b1
     have ru:rng (prL (d (k+1)) b):=prL_rng d1 b1
     have HP:Hid (pX (d (k+1)) b=true->pok (fprod (d (k+1)) b)=true∧pok (prL (d (k+1)) b)=true):=pX_fin d1 b1
     have HXS:Hid (sx d b (k+1)=(sx d b k && (pX (d (k+1)) b && (pok (sL (sq d b k) (prL (d (k+1)) b)) && fX (fprod (d (k+1)) b) (fsum (sq d b k) (prL (d (k+1)) b)))))):=sx_succ d b k
     have HQS:Hid (sq d b (k+1)=fsum (fprod (d (k+1)) b) (fsum (sq d b k) (prL (d (k+1)) b))):=sq_succ d b k
     have HSS:Hid (ss s d b (k+1)=((ss s d b k).add (sL (sq d b k) (prL (d (k+1)) b))).add (fL (fprod (d (k+1)) b) (fsum (sq d b k) (prL (d (k+1)) b)))):=ss_succ s d b k
     have HNO:Hid (sx d b (k+1)=false->sx d b N=false):=fun hno=>by
      cases hx:sx d b N
      ·rfl
      ·have:=sx_mono (show k+1<=N by omega) hx
       rw [hno] at this
       cases this
     generalize fprod (d (k+1)) b=t at *
     generalize prL (d (k+1)) b=u at *
     generalize pX (d (k+1)) b=x1 at *
     generalize d (k+1)=dk at *
     obtain ⟨qk,hqk⟩:∃ qk,sq d b k=qk:=⟨_,rfl⟩
     rw [hqk] at HXS HQS HSS r1 r2 ⊢
     obtain ⟨sk,hsk⟩:∃ sk,ss s d b k=sk:=⟨_,rfl⟩
     rw [hsk] at HL HSS hLk
     clear hqk hsk d1 d2 HSQ HD HSL
     have i0:(0:Int)<=(k:Int):=by omega
     have i1:(k:Int)<(N:Int):=by omega
     cases hx1:x1
     ·rw [hx1] at C1
      have hno:sx d b N=false:=HNO.out (by rw [HXS.out,hx1]; simp)
      go_wp2_with fail
      refine (C1.out _ (HH.out _ HBW.out)).mono ?_
      rintro _ w3 ⟨rfl,hb3⟩
      go_wp2_with fail
      refine (xsure_no _ _ _).mono ?_
      rintro _ wz ⟨rfl,hw⟩
      replace hw:=hw.symm
      subst hw
      unfold gaveX
      go_wp2
      exact ⟨rfl,.inr ⟨hno,rfl,HBW.out.trans (BelP.of hb3 hwr)⟩⟩
     ·rw [hx1] at C1
      obtain ⟨pt,pu⟩:=HP.out hx1
      have C2:Hid (∀ W,Calls Tryz.prog 262 #[.int .i64 qk,.int .i64 u] W fun e w'=>e=.returned (.tuple #[.int .i64 (fsum qk u),.int .i64 (sL qk u),.bool (pok (sL qk u))])∧Below W.heap.size W w'):=fun W=>xtwoSum r1 ru r2 pu W
      have rl1:rng (sL qk u):=sL_rng r1 ru
      have rq1:rng (fsum qk u):=fsum_rng r1 ru
      have HP2:Hid (pok (sL qk u)=true->pok (fsum qk u)=true):=fun hh=>(sL_exact r1 ru hh).2.1
      clear HP r1 r2 ru pu
      generalize sL qk u=l1 at *
      generalize fsum qk u=q1 at *
      cases hx2:pok l1
      ·rw [hx2] at C2
       have hno:sx d b N=false:=HNO.out (by rw [HXS.out,hx2]; simp)
       go_wp2_with fail
       refine (C1.out _ (HH.out _ HBW.out)).mono ?_
       rintro _ w3 ⟨rfl,hb3⟩
       go_wp2_with fail
       refine (xsure_yes _ _ _).mono ?_
       rintro _ wz ⟨rfl,hw⟩
       replace hw:=hw.symm
       subst hw
       go_wp2_with fail
       refine (C2.out _).mono ?_
       rintro _ w4 ⟨rfl,hb4⟩
       go_wp2_with fail
       refine (xsure_no _ _ _).mono ?_
       rintro _ wz ⟨rfl,hw⟩
       replace hw:=hw.symm
       subst hw
       unfold gaveX
       go_wp2
       exact ⟨rfl,.inr ⟨hno,rfl,HBW.out.trans (BelP.of (bel_trans hb3 hb4) hwr)⟩⟩
      ·rw [hx2] at C2
       have pq1:=HP2.out hx2
       have C3:Hid (∀ W,Calls Tryz.prog 269 #[.int .i64 t,.int .i64 q1] W fun e w'=>e=.returned (.tuple #[.int .i64 (fsum t q1),.int .i64 (fL t q1),.bool (fX t q1)])∧Below W.heap.size W w'):=fun W=>xfast rt rq1 pt pq1 W
       have rl2:rng (fL t q1):=fL_rng rt rq1
       have hA1:=(sk.add_le l1).2
       have CA1:Hid (∀ W,BelP P wr W->OutP P W hv sk->Calls Tryz.prog 268 #[hv,.int .i64 l1] W fun e w'=>∃ v',e=.returned v'∧OutP P w' v' (sk.add l1)∧BelP P W w'):=fun W hW hL=>xaddP W hL rl1 (by omega) (PB.le hwr hW.size)
       have CA2:Hid (∀ W v',BelP P wr W->OutP P W v' (sk.add l1)->Calls Tryz.prog 268 #[v',.int .i64 (fL t q1)] W fun e w'=>∃ v'',e=.returned v''∧OutP P w' v'' ((sk.add l1).add (fL t q1))∧BelP P W w'):=fun W v' hW hL=>xaddP W hL rl2 (by omega) (PB.le hwr hW.size)
       have HKP:Hid (∀ {W W' v' s'},OutP P W v' s'->Below W.heap.size W W'->OutP P W' v' s'):=fun {W W' v' s'} hL hW=>hL.stays hW
       clear HP2 rl1 rl2 rq1 rt pt pq1 b1 b2
       generalize fL t q1=l2 at *
       generalize fsum t q1=q2 at *
       cases hx3:fX t q1
       ·rw [hx3] at C3
        have hno:sx d b N=false:=HNO.out (by rw [HXS.out,hx3]; simp)
        go_wp2_with fail
        refine (C1.out _ (HH.out _ HBW.out)).mono ?_
        rintro _ w3 ⟨rfl,hb3⟩
        go_wp2_with fail
        refine (xsure_yes _ _ _).mono ?_
        rintro _ wz ⟨rfl,hw⟩
        replace hw:=hw.symm
        subst hw
        go_wp2_with fail
        refine (C2.out _).mono ?_
        rintro _ w4 ⟨rfl,hb4⟩
        go_wp2_with fail
        refine (xsure_yes _ _ _).mono ?_
        rintro _ wz ⟨rfl,hw⟩
        replace hw:=hw.symm
        subst hw
        have hb34:=bel_trans hb3 hb4
        go_wp2_with fail
        refine (CA1.out _ (BelP.of hb34 hwr) (HKP.out HL.out hb34)).mono ?_
        rintro _ w5 ⟨v5,rfl,hL5,hb5⟩
        go_wp2_with fail
        refine (C3.out _).mono ?_
        rintro _ w6 ⟨rfl,hb6⟩
        go_wp2_with fail
        refine (xsure_no _ _ _).mono ?_
        rintro _ wz ⟨rfl,hw⟩
        replace hw:=hw.symm
        subst hw
        have hb56:=((BelP.of hb34 hwr).trans hb5).trans (BelP.of hb6 (PB.le hwr ((BelP.of hb34 hwr).trans hb5).size))
        unfold gaveX
        go_wp2
        exact ⟨rfl,.inr ⟨hno,rfl,HBW.out.trans hb56⟩⟩
       ·rw [hx3] at C3
        have hyes:sx d b (k+1)=true:=by rw [HXS.out,HX.out,hx1,hx2,hx3]; rfl
        go_wp2_with fail
        refine (C1.out _ (HH.out _ HBW.out)).mono ?_
        rintro _ w3 ⟨rfl,hb3⟩
        go_wp2_with fail
        refine (xsure_yes _ _ _).mono ?_
        rintro _ wz ⟨rfl,hw⟩
        replace hw:=hw.symm
        subst hw
        go_wp2_with fail
        refine (C2.out _).mono ?_
        rintro _ w4 ⟨rfl,hb4⟩
        go_wp2_with fail
        refine (xsure_yes _ _ _).mono ?_
        rintro _ wz ⟨rfl,hw⟩
        replace hw:=hw.symm
        subst hw
        have hb34:=bel_trans hb3 hb4
        go_wp2_with fail
        refine (CA1.out _ (BelP.of hb34 hwr) (HKP.out HL.out hb34)).mono ?_
        rintro _ w5 ⟨v5,rfl,hL5,hb5⟩
        go_wp2_with fail
        refine (C3.out _).mono ?_
        rintro _ w6 ⟨rfl,hb6⟩
        go_wp2_with fail
        refine (xsure_yes _ _ _).mono ?_
        rintro _ wz ⟨rfl,hw⟩
        replace hw:=hw.symm
        subst hw
        have hb56:=((BelP.of hb34 hwr).trans hb5).trans (BelP.of hb6 (PB.le hwr ((BelP.of hb34 hwr).trans hb5).size))
        go_wp2_with fail
        refine (CA2.out _ _ hb56 (HKP.out hL5 hb6)).mono ?_
        rintro _ w7 ⟨v7,rfl,hL7,hb7⟩
        go_wp2
        go_roundw
        case rel=>exact ⟨k+1,_,by omega,by go_num,rfl,by rw [HQS.out],hyes,by show OutP _ _ _ _; rw [HSS.out]; exact hL7,HBW.out.trans (hb56.trans hb7)⟩
        case measure=>simp [intOf]; omega
    ·obtain rfl:k=N:=by omega
     obtain ⟨r1,r2⟩:=HSQ.out k hk HX.out
     have hwr:PB P wr:=PB.le hB HBW.out.size
     have CA:Hid (∀ W,W=wr->Calls Tryz.prog 268 #[hv,.int .i64 (sq d b k)] W fun e w'=>∃ v',e=.returned v'∧OutP P w' v' (scl s d b k)∧BelP P W w'):=fun W hW=>by
      subst hW
      exact xaddP W HL.out r1 (by omega) hwr
     clear r1 r2
     generalize sq d b k=qk at *
     go_wp2_with fail
     refine (CA.out _ rfl).mono ?_
     rintro _ w3 ⟨v3,rfl,hL3,hb3⟩
     go_wp2
     go_ret
     exact .inl ⟨HX.out,v3,rfl,hL3,HBW.out.trans hb3⟩
theorem xscaleP_any {P:Nat->Prop} {v:Value} {d0:Nat->Int} {eo:Option Addr} {n ec:Nat} {d:Nat->Int} {b:Int} (w:World) (h:OutP P w v ⟨0,d0⟩) (hE:∀ W,BelP P w W->Row W eo n ec d) (hd:∀ i,i<n->rng (d i)∧pok (d i)=true) (hb:rng b) (pb:pok b=true) (hn:n<=300000) (hP:PB P w) (H:∀ W,BelP P w W->Hold4 W) :
  Calls Tryz.prog 216 #[v,.slice eo n ec,.int .i64 b] w fun e w'=>(sxN d b n=true∧∃ (v':Value) (s:Ls),e=.returned v'∧OutP P w' v' s∧s.same (sclN d b n)∧BelP P w w')∨(sxN d b n=false∧e=gaveX∧BelP P w w'):=by
 have hmx:=(hE w (BelP.refl _ _)).max
 have hle:=(hE w (BelP.refl _ _)).le
 cases n with
 | zero=>
  refine (xscale_empty w).mono ?_
  rintro e w' ⟨rfl,hw⟩
  subst hw
  exact .inl ⟨rfl,v,_,rfl,h,⟨rfl,fun i hi=>absurd hi (Nat.not_lt_zero _)⟩,BelP.refl _ _⟩
 | succ n=>
  by_cases h0:rg b=0
  ·have e1:sxN d b (n+1)=true:=if_pos h0
   have e2:sclN d b (n+1)=⟨0,fun _=>0⟩:=if_pos h0
   rw [e1,e2]
   refine (xscale_nought w hb h0 (by omega)).mono ?_
   rintro e w' ⟨rfl,hw⟩
   subst hw
   exact .inl ⟨rfl,v,_,rfl,h,⟨rfl,fun i hi=>absurd hi (Nat.not_lt_zero _)⟩,BelP.refl _ _⟩
  ·have e1:sxN d b (n+1)=sx d b n:=if_neg h0
   have e2:sclN d b (n+1)=scl ⟨0,fun _=>0⟩ d b n:=if_neg h0
   rw [e1,e2]
   refine (xscaleP w h hE (fun i hi=>hd i (by omega)) hb pb h0 (show 0+2*n<=700000 by omega) hP H).mono ?_
   rintro e w' (⟨h1,v',h2,h3,h4⟩ | ⟨h1,h2,h3⟩)
   ·refine .inl ⟨h1,v',_,h2,h3,?_,h4⟩
    exact (ss_same (s:=⟨0,d0⟩) (t:=⟨0,fun _=>0⟩) ⟨rfl,fun i hi=>absurd hi (Nat.not_lt_zero _)⟩ d b n).add _
   ·exact .inr ⟨h1,h2,h3⟩
def prS (d:Nat->Int) (n:Nat) (f:Nat->Int):Nat->Ls
 | 0=>⟨0,fun _=>0⟩
 | k+1=>gaS (prS d n f k) (sclN d (f k) n).d (sclN d (f k) n).n
def prX (d:Nat->Int) (n:Nat) (f:Nat->Int):Nat->Bool
 | 0=>true
 | k+1=>prX d n f k && (sxN d (f k) n && gaX (prS d n f k) (sclN d (f k) n).d (sclN d (f k) n).n)
theorem prS_succ (d:Nat->Int) (n:Nat) (f:Nat->Int) (k:Nat):prS d n f (k+1)=gaS (prS d n f k) (sclN d (f k) n).d (sclN d (f k) n).n:=rfl
theorem prX_succ (d:Nat->Int) (n:Nat) (f:Nat->Int) (k:Nat):prX d n f (k+1)=(prX d n f k && (sxN d (f k) n && gaX (prS d n f k) (sclN d (f k) n).d (sclN d (f k) n).n)):=rfl
theorem prS_le (d:Nat->Int) (n:Nat) (f:Nat->Int):∀ k,(prS d n f k).n<=2*n*k
 | 0=>Nat.zero_le _
 | k+1=>by
  have h1:=prS_le d n f k
  have h2:=gaS_le (prS d n f k) (sclN d (f k) n).d (sclN d (f k) n).n
  have h3:=sclN_le d (f k) n
  rw [prS_succ,Nat.mul_add]
  omega
theorem prX_mono {d:Nat->Int} {n:Nat} {f:Nat->Int}:∀ {k j},j<=k->prX d n f k=true->prX d n f j=true
 | 0,j,h,hx=>by
  obtain rfl:j=0:=by omega
  rfl
 | k+1,j,h,hx=>by
  by_cases e:j=k+1
  ·subst e; exact hx
  ·rw [prX_succ,Bool.and_eq_true] at hx
   exact prX_mono (by omega) hx.1
theorem ss_fin {s:Ls} {d:Nat->Int} {b:Int} {n:Nat} (hs:s.fin) (hd:∀ i,i<=n->rng (d i)∧pok (d i)=true) (hb:rng b):∀ k,k<=n->sx d b k=true->(ss s d b k).fin
 | 0,_,hx=>hs.add (prL_rng (hd 0 (by omega)).1 hb) (pX_fin (hd 0 (by omega)).1 hb hx).2
 | k+1,hk,hx=>by
  rw [sx_succ,Bool.and_eq_true,Bool.and_eq_true,Bool.and_eq_true] at hx
  obtain ⟨h1,h2,h3,h4⟩:=hx
  obtain ⟨r1,r2⟩:=sq_fin hd hb k (by omega) h1
  obtain ⟨d1,d2⟩:=hd (k+1) hk
  rw [ss_succ]
  exact ((ss_fin hs hd hb k (by omega) h1).add (sL_rng r1 (prL_rng d1 hb)) h3).add (fL_rng (fprod_rng d1 hb) (fsum_rng r1 (prL_rng d1 hb))) (fX_fin (fprod_rng d1 hb) (fsum_rng r1 (prL_rng d1 hb)) h4).2
theorem sclN_fin {d:Nat->Int} {b:Int} {n:Nat} (hd:∀ i,i<n->rng (d i)∧pok (d i)=true) (hb:rng b) (hx:sxN d b n=true):(sclN d b n).fin:=by
 cases n with
 | zero=>exact fun i hi=>absurd hi (Nat.not_lt_zero _)
 | succ n=>
  by_cases h0:rg b=0
  ·have e2:sclN d b (n+1)=⟨0,fun _=>0⟩:=if_pos h0
   rw [e2]
   exact fun i hi=>absurd hi (Nat.not_lt_zero _)
  ·have e1:sxN d b (n+1)=sx d b n:=if_neg h0
   have e2:sclN d b (n+1)=scl ⟨0,fun _=>0⟩ d b n:=if_neg h0
   rw [e1] at hx
   rw [e2]
   have hd':∀ i,i<=n->rng (d i)∧pok (d i)=true:=fun i hi=>hd i (by omega)
   obtain ⟨r1,r2⟩:=sq_fin hd' hb n (Nat.le_refl _) hx
   exact (ss_fin (fun i hi=>absurd hi (Nat.not_lt_zero _)) hd' hb n (Nat.le_refl _) hx).add r1 r2
theorem prS_fin {d:Nat->Int} {n:Nat} {f:Nat->Int} {m:Nat} (hd:∀ i,i<n->rng (d i)∧pok (d i)=true) (hf:∀ i,i<m->rng (f i)∧pok (f i)=true):∀ k,k<=m->prX d n f k=true->(prS d n f k).fin
 | 0,_,_=>fun i hi=>absurd hi (Nat.not_lt_zero _)
 | k+1,hk,hx=>by
  rw [prX_succ,Bool.and_eq_true,Bool.and_eq_true] at hx
  obtain ⟨h1,h2,h3⟩:=hx
  rw [prS_succ]
  exact gaS_fin (prS_fin hd hf k (by omega) h1) (sclN_fin hd (hf k (by omega)).1 h2) _ (Nat.le_refl _) h3
theorem Ls.same.fin {s t:Ls} (h:s.same t) (ht:t.fin):s.fin:=fun i hi=>by
 rw [h.2 i hi]
 exact ht i (by rw [<- h.1]; exact hi)
theorem BelP.below {P:Nat->Prop} {N:Nat} {w w':World} (h:BelP P w w') (hP:∀ k,k<N->P k):Below N w w':=⟨h.os,h.tape,h.output,h.size,fun k hk=>h.block k (hP k hk)⟩
theorem Out.belP {P:Nat->Prop} {N:Nat} {w w':World} {v:Value} {n:Nat} {d:Nat->Int} (h:Out N w v n d) (hb:BelP P w w') (hP:∀ g,v.ownBlock=some g->P g):Out N w' v n d:=h.of_block fun g hg=>hb.block g (hP g hg)
theorem OutP.raise {P:Nat->Prop} {N:Nat} {w:World} {v:Value} {s:Ls} (h:OutP P w v s) (hP:∀ k,k<N->P k):Out N w v s.n s.d:=by
 have h1:=h.1
 rcases h1.2 with q | ⟨g,cap,cur,q1,_,q3⟩
 ·exact ⟨h1.1,.inl q⟩
 ·refine ⟨h1.1,.inr ⟨g,cap,cur,q1,?_,q3⟩⟩
  have h2:=h.2 g (by rw [q1]; rfl)
  exact Nat.le_of_not_lt fun e=>h2 (hP g e)
theorem xproduct_any {eo fo:Option Addr} {n ec m fc:Nat} {d f:Nat->Int} (w:World) (h:Row w eo n ec d) (hf:Row w fo m fc f) (hd:∀ i,i<n->rng (d i)∧pok (d i)=true) (hff:∀ i,i<m->rng (f i)∧pok (f i)=true) (hn:n<=200) (hm:m<=200) (H:Hold4 w) :
    Calls Tryz.prog 160 #[.slice eo n ec,.slice fo m fc] w fun r w'=>XR w (prX d n f m) (prS d n f m) r w':=by
  have hle:=hf.le
  have hmx:=hf.max
  have HE:Hid (Row w eo n ec d):=h
  have HF:Hid (Row w fo m fc f):=hf
  have HD:Hid (∀ i,i<n->rng (d i)∧pok (d i)=true):=hd
  have HFF:Hid (∀ i,i<m->rng (f i)∧pok (f i)=true):=hff
  have HH:Hid (Hold4 w):=H
  have HSF:Hid (∀ k,k<=m->prX d n f k=true->(prS d n f k).fin):=prS_fin hd hff
  have HSL:Hid (∀ k,k<=m->(prS d n f k).n<=80000):=fun k hk=>Nat.le_trans (prS_le d n f k) (by
    have:2*n*k<=2*200*200:=Nat.mul_le_mul (by omega) (by omega)
    omega)
  clear h hf hd hff H
  go_enter Tryz.func160,Tryz.ntmps160
  go_wp2_with fail
  go_loopw [5,6,11] (fun hv pv iv wr=>∃ (k:Nat) (vh vp:Value) (sh sp:Ls),k<=m∧iv=.int .i64 k∧hv=vh∧pv=vp∧Hid (prX d n f k=true)∧Hid (sh.same (prS d n f k))∧Hid (Out w.heap.size wr vh sh.n sh.d)∧Hid (Out w.heap.size wr vp sp.n sp.d)∧Hid (∀ g,vp.ownBlock=some g->vh.ownBlock≠some g)∧Hid (Below w.heap.size w wr)) (fun _ _ iv _=>m-(intOf iv).toNat)
  case atStart=>exact ⟨0,_,_,⟨0,fun _=>0⟩,⟨0,fun _=>0⟩,Nat.zero_le _,rfl,rfl,rfl,rfl,Ls.same.refl _,Out.nil _ _ _,Out.nil _ _ _,fun g hg=>(by cases hg),Below.refl _ _⟩
  case round=>
    obtain ⟨k,vh,vp,sh,sp,hk,rfl,hve,hvp,HX,HS,HOH,HOP,HAP,HBW⟩:=hrel
    replace hve:=hve.symm
    subst hve
    replace hvp:=hvp.symm
    subst hvp
    by_cases hlt:k<m
    · obtain ⟨bb,off,rfl,hbb,hc⟩:=(HF.out.keeps HBW.out).spot (by omega)
      have c0:=hc k hlt
      clear hc
      obtain ⟨f1,f2⟩:=HFF.out k hlt
      obtain ⟨po,pc,rfl,hpr⟩:=HOP.out.row
      obtain ⟨ho,hcap,rfl,hhr⟩:=HOH.out.row
      have hpm:=hpr.max
      have hpl:=hpr.le
      clear hpr hhr
      have hsz:=HBW.out.size
      have hfin:=HS.out.fin (HSF.out k hk HX.out)
      have hn1:sh.n<=80000:=by rw [HS.out.1]; exact HSL.out k hk
      have HPB:Hid (PB (fun j=>j<w.heap.size∨(Value.slice ho sh.n hcap).ownBlock=some j) wr):=fun j hj=>by
        rcases hj with hj | hj
        · omega
        · exact (HOH.out.ge hj).2
      have CS:Hid (∀ W,W=wr->Calls Tryz.prog 216 #[.slice po 0 pc,.slice eo n ec,.int .i64 (f k)] W fun e w'=>(sxN d (f k) n=true∧∃ (v':Value) (s:Ls),e=.returned v'∧OutP (fun j=>j<w.heap.size∨(Value.slice ho sh.n hcap).ownBlock=some j) w' v' s∧s.same (sclN d (f k) n)∧BelP (fun j=>j<w.heap.size∨(Value.slice ho sh.n hcap).ownBlock=some j) W w')∨(sxN d (f k) n=false∧e=gaveX∧BelP (fun j=>j<w.heap.size∨(Value.slice ho sh.n hcap).ownBlock=some j) W w')):=fun W hW=>by
        subst hW
        refine xscaleP_any (d0:=sp.d) W ⟨(HOP.out.cut (Nat.zero_le _)).lower (Nat.zero_le _),fun j hj=>?_⟩ (fun W' hW'=>HE.out.keeps (HBW.out.trans (hW'.below fun j hj=>.inl hj))) HD.out f1 f2 (by omega) HPB.out (fun W' hW'=>HH.out.keeps (HBW.out.trans (hW'.below fun j hj=>.inl hj)))
        have hj':(Value.slice po sp.n pc).ownBlock=some j:=by cases po <;> exact hj
        rintro (h | h)
        · have:=(HOP.out.ge hj').1
          omega
        · exact HAP.out j hj' h
      have HXS:Hid (prX d n f (k+1)=(prX d n f k && (sxN d (f k) n && gaX (prS d n f k) (sclN d (f k) n).d (sclN d (f k) n).n))):=prX_succ d n f k
      have HSS:Hid (prS d n f (k+1)=gaS (prS d n f k) (sclN d (f k) n).d (sclN d (f k) n).n):=prS_succ d n f k
      have HNO:Hid (prX d n f (k+1)=false->prX d n f m=false):=fun hno=>by
        cases hx:prX d n f m
        · rfl
        · rw [prX_mono (show k+1<=m by omega) hx] at hno; cases hno
      have hn2:=sclN_le d (f k) n
      have HCF:Hid (sxN d (f k) n=true->(sclN d (f k) n).fin):=sclN_fin HD.out f1
      generalize sclN d (f k) n=SC at *
      generalize sxN d (f k) n=SX at *
      generalize f k=fk at *
      have i0:(0:Int)<=(k:Int):=by omega
      have i1:(k:Int)<(m:Int):=by omega
      go_wp2_with fail
      refine (CS.out _ rfl).mono ?_
      rintro _ w1 (⟨h1,v1,s1,rfl,hO1,hS1,hb1⟩ | ⟨h1,rfl,hb1⟩)
      · obtain ⟨qo,qc,rfl⟩:=hO1.shape
        have hO1N:Out w.heap.size w1 (.slice qo s1.n qc) s1.n s1.d:=hO1.raise fun j hj=>.inl hj
        have hH1:Out w.heap.size w1 (.slice ho sh.n hcap) sh.n sh.d:=HOH.out.belP hb1 fun g hg=>.inr hg
        have hB1:Below w.heap.size w w1:=HBW.out.trans (hb1.below fun j hj=>.inl hj)
        have hap1:∀ g,(Value.slice qo s1.n qc).ownBlock=some g->(Value.slice ho sh.n hcap).ownBlock≠some g:=fun g hg e=>hO1.2 g hg (.inr e)
        have hs1f:s1.fin:=hS1.fin (HCF.out h1)
        have hs1n:=hS1.1
        have HGS:Hid ((gaS sh s1.d s1.n).same (gaS (prS d n f k) SC.d SC.n)∧gaX sh s1.d s1.n=gaX (prS d n f k) SC.d SC.n):=by
          have:=gaS_same HS.out (m:=s1.n) (f:=s1.d) (g:=SC.d) hS1.2 s1.n (Nat.le_refl _)
          show _∧_
          rw [<- hS1.1]
          exact this
        have CG:Calls Tryz.prog 213 #[.slice ho sh.n hcap,.slice qo s1.n qc] w1 fun e w'=>(gaX sh s1.d s1.n=true∧∃ v',e=.returned v'∧OutP (fun j=>j<w.heap.size∨(Value.slice qo s1.n qc).ownBlock=some j) w' v' (gaS sh s1.d s1.n)∧BelP (fun j=>j<w.heap.size∨(Value.slice qo s1.n qc).ownBlock=some j) w1 w')∨(gaX sh s1.d s1.n=false∧e=gaveX∧BelP (fun j=>j<w.heap.size∨(Value.slice qo s1.n qc).ownBlock=some j) w1 w'):=by
          refine xgatherP w1 ⟨hH1.lower (Nat.zero_le _),fun j hj=>?_⟩ hfin (fun W hW=>?_) hs1f (by omega) (fun j hj=>?_)
          · rintro (h | h)
            · have:=(hH1.ge hj).1
              omega
            · exact hap1 j h hj
          · obtain ⟨_,_,e1,hR⟩:=(hO1N.belP hW fun g hg=>.inr hg).row
            simp only [Value.slice.injEq] at e1
            obtain ⟨rfl,_,rfl⟩:=e1
            exact hR
          · rcases hj with hj | hj
            · have:=hB1.size
              omega
            · exact (hO1N.ge hj).2
        have HO1:Hid (Out w.heap.size w1 (.slice qo s1.n qc) s1.n s1.d):=hO1N
        have HB1:Hid (Below w.heap.size w w1):=hB1
        have H1:Hid (SX=true):=h1
        clear hO1 hO1N hH1 hap1 hb1 hS1 hs1n hs1f h1 hfin CS
        generalize gaX sh s1.d s1.n=GX at *
        generalize gaS sh s1.d s1.n=GS at *
        go_wp2_with fail
        refine CG.mono ?_
        rintro _ w2 (⟨h2,v2,rfl,hO2,hb2⟩ | ⟨h2,rfl,hb2⟩)
        · obtain ⟨_,_,rfl⟩:=hO2.shape
          go_wp2
          go_roundw
          case rel=>exact ⟨k+1,_,_,GS,s1,by omega,by go_num,rfl,rfl,by show _=_; rw [HXS.out,HX.out,H1.out,<- HGS.out.2,h2]; rfl,by show Ls.same _ _; rw [HSS.out]; exact HGS.out.1,hO2.raise fun j hj=>.inl hj,HO1.out.belP hb2 fun g hg=>.inr hg,fun g hg e=>hO2.2 g e (.inr hg),HB1.out.trans (hb2.below fun j hj=>.inl hj)⟩
          case measure=>simp [intOf]; omega
        · unfold gaveX
          go_wp2
          exact ⟨rfl,.inr ⟨HNO.out (by rw [HXS.out,H1.out,<- HGS.out.2,h2]; simp),rfl⟩,HB1.out.trans (hb2.below fun j hj=>.inl hj)⟩
      · unfold gaveX
        go_wp2
        exact ⟨rfl,.inr ⟨HNO.out (by rw [HXS.out,h1,Bool.false_and,Bool.and_false]),rfl⟩,HBW.out.trans (hb1.below fun j hj=>.inl hj)⟩
    · obtain rfl:k=m:=by omega
      obtain ⟨ho,hcap,rfl,hhr⟩:=HOH.out.row
      clear hhr
      go_wp2
      go_ret
      refine ⟨.inl ⟨HX.out,_,rfl,.inl ?_⟩,HBW.out⟩
      have:=HOH.out.congr HS.out.2
      rw [HS.out.1] at this ⊢
      exact this
end Go.Proofs.YtjjihmnbdeeedaaGreatDoor
namespace Go.Proofs.YtjjihmnbdeeedaaGreatDoor
open Go Go.RowKit Go.Proofs.YtjjihmnbdeeedaaGreatDoor.M Ieee
theorem pf_1 {T a b c d M:Int} (e:T=a+b+c+d) (hM:11*(T.natAbs:Int)<=10*M) (hb:33554432*(b.natAbs:Int)<=T.natAbs) (hc:33554432*(c.natAbs:Int)<=T.natAbs) (hd:33554432*(d.natAbs:Int)<=T.natAbs):(a.natAbs:Int)<=M∧1000*((T-a).natAbs:Int)<=T.natAbs∧1000*(a.natAbs:Int)<=1001*T.natAbs:=by omega
theorem pf_2 {T a H x M:Int} (hM:11*(T.natAbs:Int)<=10*M) (g:1000*((T-a).natAbs:Int)<=T.natAbs) (g2:1000*(a.natAbs:Int)<=1001*T.natAbs) (r1:1000*(H-T).natAbs<=T.natAbs) (r2:1000*(x-a).natAbs<=a.natAbs):((H-x).natAbs:Int)<=M∧300*((H-x).natAbs:Int)<=T.natAbs:=by omega
theorem pf_4 {T b x M:Int} (hM:11*(T.natAbs:Int)<=10*M) (hb:33554432*(b.natAbs:Int)<=T.natAbs) (r:1000*(x-b).natAbs<=b.natAbs):(b.natAbs:Int)<=M∧30000*(x.natAbs:Int)<=T.natAbs:=by omega
theorem pf_4a {T b M:Int} (hM:11*(T.natAbs:Int)<=10*M) (hb:33554432*(b.natAbs:Int)<=T.natAbs):(b.natAbs:Int)<=M:=by omega
theorem pf_5 {T t S x M:Int} (hM:11*(T.natAbs:Int)<=10*M) (g:300*(S.natAbs:Int)<=T.natAbs) (r1:1000*(t-S).natAbs<=S.natAbs) (hx:30000*(x.natAbs:Int)<=T.natAbs):((t-x).natAbs:Int)<=M∧290*((t-x).natAbs:Int)<=T.natAbs:=by omega
theorem pf_6 {T t S x M:Int} (hM:11*(T.natAbs:Int)<=10*M) (g:290*(S.natAbs:Int)<=T.natAbs) (r1:1000*(t-S).natAbs<=S.natAbs) (hx:30000*(x.natAbs:Int)<=T.natAbs):((t-x).natAbs:Int)<=M∧280*((t-x).natAbs:Int)<=T.natAbs:=by omega
theorem pf_7 {T t S x M:Int} (hM:11*(T.natAbs:Int)<=10*M) (g:280*(S.natAbs:Int)<=T.natAbs) (r1:1000*(t-S).natAbs<=S.natAbs) (hx:30000*(x.natAbs:Int)<=T.natAbs):((x-t).natAbs:Int)<=M:=by omega
theorem pf_sum {K T a b c d P Q R S x y:Int} (hK:0<K) (hx:x=P+Q) (hy:y=R+S) (hT:K*T=x*y) (e1:K*a=P*R) (e2:K*b=Q*R) (e3:K*c=P*S) (e4:K*d=Q*S):T=a+b+c+d:=by
 refine Int.eq_of_mul_eq_mul_left (Int.ne_of_gt hK) ?_
 rw [hT,Int.mul_add,Int.mul_add,Int.mul_add,e1,e2,e3,e4,hx,hy,Int.add_mul,Int.mul_add,Int.mul_add]
 exact dr0 _ _ _ _
theorem pf_two {a h l:Int} (H:Hlv a h l):(h.natAbs:Int)<=2*(a.natAbs:Int)∧(l.natAbs:Int)<=2*(a.natAbs:Int):=by
 have:=hlv_small H
 have:=H.sum
 omega
theorem prod_fin {p q T:Int} (hp:M.rng p) (hq:M.rng q) (pQ:pok (spL p)=true) (pS:pok (spL q)=true) (ph:pok (fprod p q)=true) (hT:2^1074*T=iV p*iV q) (hM:11*(T.natAbs:Int)<=10*maxV):pok (prL p q)=true:=by
 obtain ⟨pp,pP,ha⟩:=spL_exact hp pQ
 obtain ⟨pq,pR,hb⟩:=spL_exact hq pS
 obtain ⟨rP,rQ⟩:=sp_rng hp
 obtain ⟨rR,rS⟩:=sp_rng hq
 have rT1:M.rng (pT1 p q):=fsum_rng (fprod_rng hp hq) (neg_rng (fprod_rng rP rR))
 have rT2:M.rng (pT2 p q):=fsum_rng rT1 (neg_rng (fprod_rng rQ rR))
 have rT3:M.rng (pT3 p q):=fsum_rng rT2 (neg_rng (fprod_rng rP rS))
 have hd:(2^1074:Int) ∣ iV p*iV q:=⟨T,hT.symm⟩
 obtain ⟨i,j,eij,di,dj⟩:=dvd_split 1074 _ _ hd
 have dP:=ha.dvd i di
 have dR:=hb.dvd j dj
 have dQ:(2^i:Int) ∣ iV (spL p):=by have:=ha.sum; rw [show iV (spL p)=iV p-iV (spH p) by omega]; exact Int.dvd_sub di dP
 have dS:(2^j:Int) ∣ iV (spL q):=by have:=hb.sum; rw [show iV (spL q)=iV q-iV (spH q) by omega]; exact Int.dvd_sub dj dR
 obtain ⟨Tpr,e1⟩:=dvd_prod eij dP dR
 obtain ⟨Tqr,e2⟩:=dvd_prod eij dQ dR
 obtain ⟨Tps,e3⟩:=dvd_prod eij dP dS
 obtain ⟨Tqs,e4⟩:=dvd_prod eij dQ dS
 have hK:=p2 1074
 have es:=pf_sum hK ha.sum.symm hb.sum.symm hT e1 e2 e3 e4
 have s1:=hlv_small ha
 have s2:=hlv_small hb
 have t1:=pf_two ha
 have t2:=pf_two hb
 have b2:=pr_ratio hK hT e2 (pr_m1 s1 t2.1)
 have b3:33554432*(Tps.natAbs:Int)<=(T.natAbs:Int):=by
  refine pr_ratio hK hT e3 ?_
  rw [Int.mul_comm (iV (spH p)),Int.mul_comm (iV p)]
  exact pr_m1 s2 t1.1
 have b4:=pr_ratio hK hT e4 (pr_m1 s1 t2.2)
 have rH:=nr_rel ((stp_prod hp hq pp pq hT).nr ph)
 obtain ⟨c1,c2,c3⟩:=pf_1 es hM b2 b3 b4
 have X1:=stp_prod rP rR pP pR e1
 have p1:=X1.fin c1
 have Y1:=stp_diff (fprod_rng hp hq) (fprod_rng rP rR) ph p1
 obtain ⟨d1,d2⟩:=pf_2 hM c2 c3 rH (nr_rel (X1.nr p1))
 have q1:=Y1.fin d1
 have X2:=stp_prod rQ rR pQ pR e2
 have p2:=X2.fin (pf_4a hM b2)
 have x2:=(pf_4 hM b2 (nr_rel (X2.nr p2))).2
 have Y2:=stp_diff rT1 (fprod_rng rQ rR) q1 p2
 obtain ⟨d3,d4⟩:=pf_5 hM d2 (nr_rel (Y1.nr q1)) x2
 have q2:=Y2.fin d3
 have X3:=stp_prod rP rS pP pS e3
 have p3:=X3.fin (pf_4a hM b3)
 have x3:=(pf_4 hM b3 (nr_rel (X3.nr p3))).2
 have Y3:=stp_diff rT2 (fprod_rng rP rS) q2 p3
 obtain ⟨d5,d6⟩:=pf_6 hM d4 (nr_rel (Y2.nr q2)) x3
 have q3:=Y3.fin d5
 have X4:=stp_prod rQ rS pQ pS e4
 have p4:=X4.fin (pf_4a hM b4)
 have x4:=(pf_4 hM b4 (nr_rel (X4.nr p4))).2
 exact (stp_diff (fprod_rng rQ rS) rT3 p4 q3).fin (pf_7 hM d6 (nr_rel (Y3.nr q3)) x4)
theorem key_patS {g:Bool} {r:Int} (h0:0<=r) (h1:r<=9218868437227405312):key (patS g r)=sg g r:=by
 unfold key patS sg
 cases g
 ·simp only [Bool.false_eq_true,if_false]
  rw [if_neg (by omega)]
 ·simp only [if_true]
  rw [if_pos (by omega)]
  omega
theorem sg_pos2 (g:Bool) {r:Int} (h0:0<=r):sg (g && decide (0<r)) r=sg g r:=by
 by_cases c:0<r
 ·rw [decide_eq_true c,Bool.and_true]
 ·have:r=0:=by omega
  rw [this,sg_zero,sg_zero]
theorem same_pat {g k:Bool} {r:Int} (h0:0<=r) (h1:r<=9218868437227405312) (e:sg g r=sg k r):same (patS g r) (patS k r)=true:=by
 unfold same
 rw [decide_eq_false (patS_rng h0 h1).2,decide_eq_false (patS_rng h0 h1).2,key_patS h0 h1,key_patS h0 h1,decide_eq_true e]
 rfl
theorem k_sgn {ng:Bool} {A S:Int} (h0:0<=A) (h1:ng=true->0<A) (e:S=sg ng A):ng=decide (S<0):=by
 cases ng
 ·have e:S=A:=e
  exact (decide_eq_false (by omega)).symm
 ·have:=h1 rfl
  have e:S=-A:=e
  exact (decide_eq_true (by omega)).symm
theorem k_sg0 {ng:Bool} {A:Int} (h1:ng=true->0<A) (e:0=sg ng A):A=0∧ng=false:=by
 cases ng
 ·exact ⟨e.symm,rfl⟩
 ·have:=h1 rfl
  have e:0=-A:=e
  omega
theorem same_near {S h:Int} {g ng:Bool} {f:Int->Int × Bool} (hR:RdOf S ng f) (hh:(S=0∧h=patS g 0)∨(S≠0∧h=nearP S)):same h (f 0).1=true:=by
 obtain ⟨A,r0,left,eS,hA,hu,hf⟩:=hR
 rw [hf 0]
 have hA0:0<=A:=Int.le_trans (vS_nonneg r0) hu.lo
 rcases hh with ⟨e0,eh⟩ | ⟨e0,eh⟩
 ·rw [e0] at eS
  obtain ⟨z1,z2⟩:=k_sg0 hA eS
  subst z1 z2
  obtain ⟨y1,y2⟩:=hu.unique rung_zero
  subst y1 y2
  rw [eh,rTo_zero]
  cases g <;> decide
 ·obtain ⟨A',r0',left',eA,hu',eN⟩:=nearP_rung e0
  have eg:=k_sgn hA0 hA eS
  rw [<- eg] at eA eN
  have:A=A':=sg_inj (eS.symm.trans eA)
  rw [<- this] at hu'
  obtain ⟨y1,y2⟩:=hu.unique hu'
  subst y1 y2
  have hrr:=rTo_range 0 ng r0 left
  rw [eh,eN]
  exact same_pat hrr.1 hrr.2 (sg_pos2 ng hrr.1).symm
end Go.Proofs.YtjjihmnbdeeedaaGreatDoor
namespace Go.Proofs.YtjjihmnbdeeedaaGreatDoor
open Go Go.RowKit Go.Proofs.YtjjihmnbdeeedaaGreatDoor.M
theorem si_all {d T:Nat->Int} {b:Int} {B N:Nat} (hd:XV d (N+1)) (rb:rng b) (hB1:(2^B:Int) ∣ iV b) (hB2:((iV b).natAbs:Int)<9007199254740992*2^B) (hT:PTs d T b (N+1)):∀ k,k<=N->sx d b k=true->SI d T B N k (ss ⟨0,fun _=>0⟩ d b k) (sq d b k)
 | 0,_,hx=>si_zero hd rb hB1 hB2 hT hx
 | k+1,hk,hx=>by
  rw [sx_succ,Bool.and_eq_true,Bool.and_eq_true,Bool.and_eq_true] at hx
  obtain ⟨h1,h2,h3,h4⟩:=hx
  have hfin:∀ i,i<=N->rng (d i)∧pok (d i)=true:=fun i hi=>⟨(hd.fin i (by omega)).1,(hd.fin i (by omega)).2.1⟩
  obtain ⟨r1,r2⟩:=sq_fin hfin rb k (by omega) h1
  rw [ss_succ,sq_succ]
  exact si_step hd rb hB1 hB2 hT (by omega) r1 r2 (si_all hd rb hB1 hB2 hT k (by omega) h1) h2 h3 h4
theorem odd_part {x:Int} (rx:rng x) (px:pok x=true) (zx:rg x≠0):∃ (t:Nat) (c:Int),iV x=2^t*c∧c % 2=1:=by
 have hm:=(iV_some rx px zx).2
 obtain ⟨j0,j1,j2,j3⟩:=pmag_in px
 obtain ⟨m,hmm,_,_⟩:=jz_spec (show 0<pmag x by omega) (by omega)
 have e2:=iV_form rx px
 have e3:((iV x).natAbs:Int)=2^(jz (pmag x)+(pexp x+1074).toNat)*(2*(m:Int)+1):=by
  rw [e2,Int.pow_add]
  calc pmag x*2^(pexp x+1074).toNat=2^jz (pmag x)*(2*(m:Int)+1)*2^(pexp x+1074).toNat:=by rw [<- hmm]
   _=_:=by rw [Int.mul_assoc,Int.mul_comm (2*(m:Int)+1),<- Int.mul_assoc]
 by_cases h:0<=iV x
 ·exact ⟨jz (pmag x)+(pexp x+1074).toNat,2*(m:Int)+1,by rw [<- e3]; omega,by omega⟩
 ·refine ⟨jz (pmag x)+(pexp x+1074).toNat,-(2*(m:Int)+1),?_,by omega⟩
  rw [Int.mul_neg]
  omega
theorem odd_cancel {s:Nat} {c Z:Int} (hc:c % 2=1) (h:(2^s:Int) ∣ c*Z):(2^s:Int) ∣ Z:=by
  induction s generalizing Z with
  | zero=>rw [Int.pow_zero]; exact Int.one_dvd _
  | succ s ih=>
    obtain ⟨a,ha⟩:=h
    rw [p2s,Int.mul_assoc] at ha
    have hZ:Z % 2=0:=by
      have h1:(c*Z) % 2=0:=by rw [ha]; omega
      rw [Int.mul_emod,hc] at h1
      omega
    obtain ⟨Y,rfl⟩:∃ Y,Z=2*Y:=⟨Z/2,by omega⟩
    have h2:(2^s:Int) ∣ c*Y:=⟨a,by
      have:c*(2*Y)=2*(c*Y):=by rw [Int.mul_left_comm]
      rw [this] at ha
      omega⟩
    obtain ⟨e,he⟩:=ih h2
    exact ⟨e,by rw [p2s,he,Int.mul_assoc]⟩
theorem fast_ok {d T:Nat->Int} {b:Int} {B N k:Nat} (hd:XV d (N+1)) (rb:rng b) (zb:iV b≠0) (hT:PTs d T b (N+1)) (hk:k<N) {L:Ls} {q:Int} (rq:rng q) (pq:pok q=true) (h:SI d T B N k L q)
    (hx1:pX (d (k+1)) b=true) (hx2:pok (sL q (prL (d (k+1)) b))=true):((iV (fsum q (prL (d (k+1)) b))).natAbs:Int)<=((iV (fprod (d (k+1)) b)).natAbs:Int):=by
  obtain ⟨rx,px,zx⟩:=hd.fin (k+1) (by omega)
  have hTk:=hT (k+1) (by omega)
  obtain ⟨pT,pu,eT,nT⟩:=prod_facts rx rb hx1 hTk
  have ru:=prL_rng rx rb
  have n1:=fsum_nr rq ru hx2
  obtain ⟨t,c,hxc,hc⟩:=odd_part rx px zx
  have xne:=hd.ne (show k+1<N+1 by omega)
  obtain ⟨s0,l1,l2⟩:=hd.lo k (by omega)
  have hs0:s0<=t:=by
    obtain ⟨m,hm⟩:∃ m,c=2*m+1:=⟨c/2,by omega⟩
    rw [hxc,hm] at l2
    exact odd_dvd l2
  have hlt:((iV (d k)).natAbs:Int)<2^t:=Int.lt_of_lt_of_le l1 (p2le hs0)
  -- the unit of the product
  obtain ⟨Z,hZ⟩:∃ Z,2^1074*Z=2^t*iV b:=by
    have h1:(2^1074:Int) ∣ c*(2^t*iV b):=⟨T (k+1),by
      rw [hTk,hxc,Int.mul_assoc,Int.mul_left_comm]⟩
    obtain ⟨Z,h2⟩:=odd_cancel hc h1
    exact ⟨Z,h2.symm⟩
  have hTZ:T (k+1)=c*Z:=by
    have:(2:Int)^1074*T (k+1)=2^1074*(c*Z):=by
      rw [hTk,hxc,Int.mul_left_comm (2^1074) c Z,hZ,Int.mul_assoc,Int.mul_left_comm]
    exact Int.eq_of_mul_eq_mul_left (Int.ne_of_gt (p2 1074)) this
  have fZ:Fl Z:=by
    have h1:=(fl_iV b).up t
    rw [<- hZ] at h1
    exact h1.down
  have hxk:XV d (k+1):=⟨fun i hi=>hd.fin i (by omega),fun i hi=>hd.lo i (by omega)⟩
  have hpt:((tsm T (k+1)).natAbs:Int)<(Z.natAbs:Int):=by
    have h1:=tsm_prod hT (k+1) (by omega)
    have h2:=lsm_lt hxk t hlt
    have e1:((2^1074*tsm T (k+1)).natAbs:Int)=2^1074*((tsm T (k+1)).natAbs:Int):=natAbs_p2 1074 _
    have e2:((2^1074*Z).natAbs:Int)=2^1074*(Z.natAbs:Int):=natAbs_p2 1074 _
    have e3:((2^t*iV b).natAbs:Int)=2^t*((iV b).natAbs:Int):=natAbs_p2 t _
    have e4:((lsm d (k+1)*iV b).natAbs:Int)=((lsm d (k+1)).natAbs:Int)*((iV b).natAbs:Int):=by rw [Int.natAbs_mul,Int.natCast_mul]
    rw [h1,e4] at e1
    rw [hZ,e3] at e2
    have e5:((lsm d (k+1)).natAbs:Int)*((iV b).natAbs:Int)<2^t*((iV b).natAbs:Int):=Int.mul_lt_mul_of_pos_right h2 (by omega)
    rw [e1,e2] at e5
    exact Int.lt_of_mul_lt_mul_left e5 (Int.le_of_lt (p2 1074))
  have hq:((iV q).natAbs:Int)<=(Z.natAbs:Int):=by
    have hsum:=h.sum
    by_cases hn:L.n=0
    · have:lsm L.d L.n=0:=by rw [hn]; rfl
      omega
    · obtain ⟨m,hm⟩:∃ m,L.n=m+1:=⟨L.n-1,by omega⟩
      obtain ⟨s,a1,a2,a3⟩:=h.up m (by omega)
      have hxL:=h.xv
      rw [hm] at hxL hsum
      have a4:=lsm_lt hxL s a1
      have a5:(2^s:Int) ∣ Z:=odd_cancel hc (by rw [<- hTZ]; exact a3 (k+1) (by omega) (by omega))
      apply Classical.byContradiction
      intro hno
      have a6:=mult_lt (u:=0) a5 (Int.dvd_natAbs.2 a2) (show (Z.natAbs:Int)<((iV q).natAbs:Int) by omega)
      omega
  have fZa:Fl (Z.natAbs:Int):=by
    by_cases h0:0<=Z
    · rw [show (Z.natAbs:Int)=Z by omega]; exact fZ
    · rw [show (Z.natAbs:Int)=-Z by omega]; exact fZ.neg
  have fTa:Fl ((iV (fprod (d (k+1)) b)).natAbs:Int):=by
    have f0:=fl_iV (fprod (d (k+1)) b)
    by_cases h0:0<=iV (fprod (d (k+1)) b)
    · rw [show ((iV (fprod (d (k+1)) b)).natAbs:Int)=iV (fprod (d (k+1)) b) by omega]; exact f0
    · rw [show ((iV (fprod (d (k+1)) b)).natAbs:Int)=-iV (fprod (d (k+1)) b) by omega]; exact f0.neg
  have hS:((iV q+iV (prL (d (k+1)) b)).natAbs:Int)<=((iV (fprod (d (k+1)) b)).natAbs:Int):=by
    rw [hTZ] at eT nT
    by_cases h1:c=1∨c=-1
    · have hTf:Fl (c*Z):=by
        rcases h1 with rfl | rfl
        · rw [Int.one_mul]; exact fZ
        · rw [Int.neg_mul,Int.one_mul]; exact fZ.neg
      have h2:=nr_self hTf nT
      have h3:((c*Z).natAbs:Int)=(Z.natAbs:Int):=by
        rcases h1 with rfl | rfl
        · rw [Int.one_mul]
        · rw [Int.neg_mul,Int.one_mul]; omega
      omega
    · have h2:=nr_rel nT
      have h3:3*(Z.natAbs:Int)<=((c*Z).natAbs:Int):=by
        rw [Int.natAbs_mul,Int.natCast_mul]
        exact Int.mul_le_mul_of_nonneg_right (by omega) (by omega)
      omega
  have g1:=nr_le n1 fTa (by omega)
  have g2:=nr_ge n1 fTa.neg (by omega)
  omega
def Mid (x:Int):Prop:=rng x∧pok x=true∧rg x≠0∧(2^822:Int) ∣ iV x∧((iV x).natAbs:Int)<=2^1250
theorem k_four (X a c:Int):X*a*(X*c)=X*X*(a*c):=by grind
theorem mid_T {x b:Int} (hx:Mid x) (hb:Mid b):∃ T,2^1074*T=iV x*iV b:=by
 obtain ⟨a,ha⟩:=hx.2.2.2.1
 obtain ⟨c,hc⟩:=hb.2.2.2.1
 have h1:(2^1074:Int) ∣ 2^822*2^822:=by rw [<- Int.pow_add]; exact p2dvd (by decide)
 obtain ⟨k,hk⟩:=h1
 refine ⟨k*(a*c),?_⟩
 rw [ha,hc,k_four,hk,Int.mul_assoc]
theorem mid_B {b:Int} (hb:Mid b):∃ B:Nat,(2^B:Int) ∣ iV b∧((iV b).natAbs:Int)<9007199254740992*2^B∧B<=1250:=by
 obtain ⟨B,h1,h2⟩:=fl_iV b
 refine ⟨B,h1,h2,?_⟩
 have h3:=dvd_abs_le h1 (iV_some hb.1 hb.2.1 hb.2.2.1).1 (p2 B)
 have h4:(2:Int)^B<2^(1250+1):=by
  rw [p2s]
  have:=hb.2.2.2.2
  have:=p2 1250
  omega
 have:=p2lt h4
 omega
theorem mid_lt {x:Int} (hx:Mid x):((iV x).natAbs:Int)<2^1251:=by
 have h:=hx.2.2.2.2
 have p:(2:Int)^1251=2*2^1250:=p2s 1250
 have:=p2 1250
 omega
theorem big_le {Y:Int} {g:Nat} (h:Y<9007199254740992*2^g) (hg:g<=1427):Y<=2^1480:=by
 have h1:(9007199254740992:Int)*2^g<=2^1480:=by
  have:(9007199254740992:Int)=2^53:=by decide
  rw [this,<- Int.pow_add]
  exact p2le (by omega)
 omega
theorem k_84 {X:Int} (h:X<=2^1480):16*X<=maxV:=by
 have h1:=maxV_ge
 have h2:(2:Int)^1484<=2^2097:=p2le (by decide)
 have h3:(2:Int)^1484=16*2^1480:=by
  rw [show 1484=1480+1+1+1+1 by decide,p2s,p2s,p2s,p2s]; omega
 omega
theorem sp_mid {x:Int} (hx:Mid x):pok (spL x)=true:=by
 refine sp_fin (B:=2^1250) hx.1 hx.2.1 hx.2.2.2.2 ?_
 have h1:=maxV_ge
 have h2:(2:Int)^1278<=2^2097:=p2le (by decide)
 have h3:(2:Int)^1278=268435456*2^1250:=by
  have:(268435456:Int)=2^28:=by decide
  rw [this,<- Int.pow_add]
 have:=p2 1250
 omega
theorem T_mid {x b T:Int} (hx:Mid x) (hb:Mid b) (hT:2^1074*T=iV x*iV b):(T.natAbs:Int)<=2^1480:=by
 obtain ⟨B,b1,b2,b3⟩:=mid_B hb
 have h1:=prod_lt (mid_lt hx) b1 b2 hT
 exact big_le (g:=1251+B-1074) (by have:=p2 (1251+B-1074); omega) (by omega)
theorem pX_mid {x b:Int} (hx:Mid x) (hb:Mid b):pX x b=true:=by
 obtain ⟨T,hT⟩:=mid_T hx hb
 have h2:=T_mid hx hb hT
 have h3:=k_84 h2
 have hf:=(stp_prod hx.1 hb.1 hx.2.1 hb.2.1 hT).fin (by omega)
 unfold pX
 rw [prod_fin hx.1 hb.1 (sp_mid hx) (sp_mid hb) hf hT (by omega),(reach_iff hx.1 hb.1 hx.2.1 hb.2.1).2 ⟨_,hT⟩]
 rfl
theorem sx_mid {d:Nat->Int} {b:Int} {N:Nat} (hd:XV d (N+1)) (hm:∀ j,j<=N->Mid (d j)) (hb:Mid b):∃ (T:Nat->Int) (B:Nat),PTs d T b (N+1)∧(2^B:Int) ∣ iV b∧((iV b).natAbs:Int)<9007199254740992*2^B∧B<=1250∧∀ k,k<=N->sx d b k=true∧((iV (sq d b k)).natAbs:Int)<=2^1480:=by
 obtain ⟨B,b1,b2,b3⟩:=mid_B hb
 have hex:∀ j,∃ t:Int,j<N+1->2^1074*t=iV (d j)*iV b:=fun j=>by
  by_cases h:j<N+1
  ·obtain ⟨t,ht⟩:=mid_T (hm j (by omega)) hb
   exact ⟨t,fun _=>ht⟩
  ·exact ⟨0,fun h'=>absurd h' h⟩
 obtain ⟨T,hT0⟩:=Classical.axiomOfChoice hex
 have hT:PTs d T b (N+1):=hT0
 clear hT0 hex
 refine ⟨T,B,hT,b1,b2,b3,fun k=>?_⟩
 have hfin:∀ i,i<=N->rng (d i)∧pok (d i)=true:=fun i hi=>⟨(hd.fin i (by omega)).1,(hd.fin i (by omega)).2.1⟩
 have bq:∀ k,k<=N->sx d b k=true->((iV (sq d b k)).natAbs:Int)<=2^1480:=fun k hk hx=>by
  have h:=si_all hd hb.1 b1 b2 hT k hk hx
  have h1:=lsm_all h.xv (h.small 1251 (mid_lt (hm k hk)))
  have hxk:XV d (k+1):=⟨fun i hi=>hd.fin i (by omega),fun i hi=>hd.lo i (by omega)⟩
  have h2:=prod_lt (lsm_lt hxk 1251 (mid_lt (hm k hk))) b1 b2 (tsm_prod hT (k+1) (by omega))
  have h3:=h.sum
  exact big_le (g:=1251+B-1074) (by generalize (2:Int)^(1251+B-1074)=Y at *; omega) (by omega)
 induction k with
 | zero=>
  intro hk
  have h0:sx d b 0=true:=pX_mid (hm 0 (by omega)) hb
  exact ⟨h0,bq 0 hk h0⟩
 | succ k ih=>
  intro hk
  obtain ⟨hx,hqb⟩:=ih (by omega)
  have h:=si_all hd hb.1 b1 b2 hT k (by omega) hx
  obtain ⟨rq,pq⟩:=sq_fin hfin hb.1 k (by omega) hx
  have x1:=pX_mid (hm (k+1) hk) hb
  have xT:=T_mid (hm (k+1) hk) hb (hT (k+1) (by omega))
  obtain ⟨rx,px⟩:=hfin (k+1) hk
  obtain ⟨pT,pu,eT,nT⟩:=prod_facts rx hb.1 x1 (hT (k+1) (by omega))
  have ru:=prL_rng rx hb.1
  have rT:=fprod_rng rx hb.1
  have z:=nT.2 0 fl_zero
  have k1:=k_84 hqb
  have k2:=k_84 xT
  obtain ⟨p1,pl1⟩:=sum_fin rq ru pq pu (by omega) (by omega)
  have r1:=fsum_rng rq ru
  have hab:=fast_ok hd hb.1 (iV_some hb.1 hb.2.1 hb.2.2.1).1 hT (by omega) rq pq h x1 pl1
  have p2':=(stp_sum rT r1 pT p1).fin (by omega)
  obtain ⟨pl2,e2⟩:=fL_fin rT r1 pT p1 p2' (by omega)
  have x3:fX (fprod (d (k+1)) b) (fsum (sq d b k) (prL (d (k+1)) b))=true:=by
   rw [fX_iff rT r1 pl2]
   exact decide_eq_true e2
  have hx':sx d b (k+1)=true:=by rw [sx_succ,hx,x1,pl1,x3]; rfl
  exact ⟨hx',bq (k+1) hk hx'⟩
theorem sclN_mid {d:Nat->Int} {b:Int} {n:Nat} (hd:XV d n) (hm:∀ j,j<n->Mid (d j)) (hb:Mid b):sxN d b n=true∧XV (sclN d b n).d (sclN d b n).n∧LB (sclN d b n) 1480∧2^1074*lsm (sclN d b n).d (sclN d b n).n=lsm d n*iV b:=by
 cases n with
 | zero=>exact ⟨rfl,⟨fun i hi=>absurd hi (Nat.not_lt_zero _),fun i hi=>absurd hi (Nat.not_lt_zero _)⟩,fun i hi=>absurd hi (Nat.not_lt_zero _),by show 2^1074*(0:Int)=0*iV b; rw [Int.mul_zero,Int.zero_mul]⟩
 | succ N=>
  have e1:sxN d b (N+1)=sx d b N:=if_neg hb.2.2.1
  have e2:sclN d b (N+1)=scl ⟨0,fun _=>0⟩ d b N:=if_neg hb.2.2.1
  rw [e1,e2]
  obtain ⟨T,B,hT,b1,b2,b3,hall⟩:=sx_mid hd (fun j hj=>hm j (by omega)) hb
  obtain ⟨hx,hq⟩:=hall N (Nat.le_refl _)
  have h:=si_all hd hb.1 b1 b2 hT N (Nat.le_refl _) hx
  have hfin:∀ i,i<=N->rng (d i)∧pok (d i)=true:=fun i hi=>⟨(hd.fin i (by omega)).1,(hd.fin i (by omega)).2.1⟩
  obtain ⟨rq,pq⟩:=sq_fin hfin hb.1 N (Nat.le_refl _) hx
  refine ⟨hx,h.xv.add rq pq fun i hi=>?_,LB.add (fun i hi=>?_) hq,?_⟩
  ·obtain ⟨s,h1,h2,_⟩:=h.up i hi
   exact ⟨s,h1,h2⟩
  ·have:=h.small 1251 (mid_lt (hm N (by omega))) i hi
   exact Int.le_trans (Int.le_of_lt this) (p2le (by omega))
  ·show 2^1074*lsm ((ss ⟨0,fun _=>0⟩ d b N).add (sq d b N)).d ((ss ⟨0,fun _=>0⟩ d b N).add (sq d b N)).n=_
   rw [lsm_add rq,h.sum]
   exact tsm_prod hT (N+1) (Nat.le_refl _)
theorem gq_bd3 {d:Nat->Int} {q:Int} {n b:Nat} (hd:XV d n) (hq:rng q) (pq:pok q=true) (bd:∀ i,i<n->((iV (d i)).natAbs:Int)<=2^b) (bq:((iV q).natAbs:Int)<=2^b) (hb:b<=2080) :
  ∀ k,k<=n->gx d q k=true∧((iV (gq d q k)).natAbs:Int)<=2^(b+3)∧LB (gs d q k) b
 | 0,_=>⟨rfl,p2_up bq (by omega),fun i hi=>absurd hi (Nat.not_lt_zero _)⟩
 | k+1,hk=>by
  obtain ⟨h1,h2,h3⟩:=gq_bd3 hd hq pq bd bq hb k (by omega)
  have hfin:∀ i,i<n->rng (d i)∧pok (d i)=true:=fun i hi=>⟨(hd.fin i hi).1,(hd.fin i hi).2.1⟩
  obtain ⟨r1,r2⟩:=gq_fin hfin hq pq k (by omega) h1
  obtain ⟨d1,d2⟩:=hfin k (by omega)
  have b1:=bd k (by omega)
  have hM:=maxV_ge
  have p1:(2:Int)^(b+3+1)<=2^2097:=p2le (by omega)
  have p2':(2:Int)^(b+1)<=2^2097:=p2le (by omega)
  rw [p2s] at p1 p2'
  obtain ⟨f1,f2⟩:=sum_fin r1 d1 r2 d2 (by omega) (by omega)
  have nr:=fsum_nr r1 d1 f2
  have hx:gx d q (k+1)=true:=by
   show (gx d q k && pok (gl d q k))=true
   rw [h1]; exact f2
  have e:=(sL_exact r1 d1 f2).2.2
  have hl:=nr_loss (fl_iV (gq d q k)) nr
  have hLB:LB (gs d q (k+1)) b:=by
   show LB ((gs d q k).add (gl d q k)) b
   refine h3.add ?_
   show ((iV (sL (gq d q k) (d k))).natAbs:Int)<=_
   have:iV (sL (gq d q k) (d k))=iV (gq d q k)+iV (d k)-iV (fsum (gq d q k) (d k)):=by omega
   rw [this]
   omega
  refine ⟨hx,?_,hLB⟩
  have pb:(2:Int)^(b+1)=2*2^b:=p2s b
  have pp:=p2 b
  have g1:=lsm_all (gi_all hd hq pq (k+1) hk hx).xv (t:=b+1) (fun i hi=>by have:=hLB i hi; omega)
  have hxk:XV d (k+1):=⟨fun i hi=>hd.fin i (by omega),fun i hi=>hd.lo i (by omega)⟩
  have g2:=lsm_all hxk (t:=b+1) (fun i hi=>by have:=bd i (by omega); omega)
  have g3:=gs_sum hfin hq pq (k+1) hk hx
  have p8:(2:Int)^(b+3)=8*2^b:=by rw [show b+3=b+1+1+1 by omega,p2s,p2s,p2s]; omega
  rw [p8]
  omega
theorem gaS_all3 {s:Ls} {f:Nat->Int} {m b:Nat} (hs:XV s.d s.n) (hf:∀ i,i<m->rng (f i)∧pok (f i)=true) (bs:LB s b) (bf:∀ i,i<m->((iV (f i)).natAbs:Int)<=2^b) (hb:b+3*m<=2080) :
  ∀ k,k<=m->gaX s f k=true∧XV (gaS s f k).d (gaS s f k).n∧LB (gaS s f k) (b+3*k)∧lsm (gaS s f k).d (gaS s f k).n=lsm s.d s.n+lsm f k
 | 0,_=>⟨rfl,hs,bs,by show lsm s.d s.n=lsm s.d s.n+0; omega⟩
 | k+1,hk=>by
  obtain ⟨h1,h2,h3,h4⟩:=gaS_all3 hs hf bs bf hb k (by omega)
  obtain ⟨f1,f2⟩:=hf k (by omega)
  obtain ⟨g1,g2,g3⟩:=gq_bd3 h2 f1 f2 h3 (p2_up (bf k (by omega)) (by omega)) (by omega) (gaS s f k).n (Nat.le_refl _)
  rw [gaX_succ,gaS_succ,h1,g1,lsm_succ]
  refine ⟨rfl,grw_xv h2 f1 f2 g1,?_,?_⟩
  ·show LB ((gs (gaS s f k).d (f k) (gaS s f k).n).add (gq (gaS s f k).d (f k) (gaS s f k).n)) _
   exact LB.add (fun i hi=>p2_up (g3 i hi) (by omega)) (p2_up g2 (by omega))
  ·rw [grw_sum h2.fn f1 f2 g1,h4]
   omega
theorem pr_all {d f:Nat->Int} {n m:Nat} (hd:XV d n) (hm:∀ j,j<n->Mid (d j)) (hn:n<=6) (hf:∀ j,j<m->Mid (f j)) (hm6:m<=6) :
  ∀ k,k<=m->prX d n f k=true∧XV (prS d n f k).d (prS d n f k).n∧LB (prS d n f k) (1480+36*k)∧2^1074*lsm (prS d n f k).d (prS d n f k).n=lsm d n*lsm f k
 | 0,_=>⟨rfl,⟨fun i hi=>absurd hi (Nat.not_lt_zero _),fun i hi=>absurd hi (Nat.not_lt_zero _)⟩,fun i hi=>absurd hi (Nat.not_lt_zero _),by show 2^1074*(0:Int)=_*0; rw [Int.mul_zero,Int.mul_zero]⟩
 | k+1,hk=>by
  obtain ⟨h1,h2,h3,h4⟩:=pr_all hd hm hn hf hm6 k (by omega)
  obtain ⟨s1,s2,s3,s4⟩:=sclN_mid hd hm (hf k (by omega))
  have hl:=sclN_le d (f k) n
  obtain ⟨g1,g2,g3,g4⟩:=gaS_all3 h2 s2.fn (b:=1480+36*k) h3 (fun i hi=>p2_up (s3 i hi) (by omega)) (m:=(sclN d (f k) n).n) (by omega) (sclN d (f k) n).n (Nat.le_refl _)
  rw [prX_succ,prS_succ,h1,s1,g1,lsm_succ]
  refine ⟨rfl,g2,fun i hi=>p2_up (g3 i hi) (by omega),?_⟩
  rw [g4,Int.mul_add,h4,s4,Int.mul_add]
theorem lsm_sign {d:Nat->Int} {n:Nat} (h:XV d (n+1)):(0<lsm d (n+1) ↔ 0<iV (d n))∧(lsm d (n+1)<0 ↔ iV (d n)<0):=by
 have hne:=h.ne (show n<n+1 by omega)
 cases n with
 | zero=>
  have:lsm d 1=iV (d 0):=by rw [lsm_succ]; show 0+_=_; omega
  rw [this]; exact ⟨Iff.rfl,Iff.rfl⟩
 | succ n=>
  obtain ⟨s,h1,h2⟩:=h.lo n (by omega)
  have ih:=lsm_lt (n:=n) ⟨fun i hi=>h.fin i (by omega),fun i hi=>h.lo i (by omega)⟩ s h1
  have hge:=dvd_abs_le h2 hne (p2 s)
  rw [lsm_succ]
  omega
def Mz (x:Int):Prop:=rng x∧pok x=true∧(2^872:Int) ∣ iV x∧((iV x).natAbs:Int)<=2^1224
theorem tame_Mz {x:Int} (hx:rng x) (ht:tame x=true):Mz x:=by
 rw [tame_fld hx] at ht
 by_cases h0:rg x=0
 ·have hc:=(cls_nought hx).2 h0
  have hp:pok x=true:=by
   cases hp:pok x
   ·exfalso
    have hf:fld x=2047:=by simpa [pok] using hp
    unfold cls at hc
    rw [if_pos hf] at hc
    split at hc <;> omega
   ·rfl
  rw [Mz,iV_nought hx h0]
  exact ⟨hx,hp,⟨0,by rw [Int.mul_zero]⟩,by have:=p2 1224; show (((0:Int).natAbs:Nat):Int)<=_; omega⟩
 ·have hz:decide (rg x=0)=false:=decide_eq_false h0
  rw [hz,Bool.false_or,Bool.and_eq_true] at ht
  have h1:=of_decide_eq_true ht.1
  have h2:=of_decide_eq_true ht.2
  have hf0:fld x≠2047:=by omega
  have hf1:fld x≠0:=by omega
  have hp:pok x=true:=by simp [pok,hf0]
  have hfr:=frc_le x
  have e1:pmag x=4503599627370496+frc x:=by unfold pmag; rw [if_neg hf0,if_neg hf1]
  have e2:pexp x=fld x-1075:=by unfold pexp; rw [if_neg hf0,if_neg hf1]
  have hm:pmag x<=2^53:=by
   rw [e1]
   show _<=9007199254740992
   omega
  refine ⟨hx,hp,?_,?_⟩
  ·apply Int.dvd_natAbs.1
   rw [iV_form hx hp]
   exact Int.dvd_trans (p2dvd (show 872<=(pexp x+1074).toNat by rw [e2]; omega)) ⟨pmag x,by rw [Int.mul_comm]⟩
  ·rw [iV_form hx hp]
   have p1:(2:Int)^(pexp x+1074).toNat<=2^1171:=p2le (by rw [e2]; omega)
   have p0:=p2 (pexp x+1074).toNat
   calc pmag x*2^(pexp x+1074).toNat<=2^53*2^(pexp x+1074).toNat:=Int.mul_le_mul_of_nonneg_right hm (by omega)
    _<=2^53*2^1171:=Int.mul_le_mul_of_nonneg_left p1 (by decide)
    _=2^1224:=by rw [<- Int.pow_add]
def dfL (p q:Int):Ls:=((⟨0,fun _=>0⟩:Ls).add (sL p (neg q))).add (fsum p (neg q))
theorem df_fin {p q:Int} (hp:Mz p) (hq:Mz q):pok (fsum p (neg q))=true∧pok (sL p (neg q))=true:=by
 obtain ⟨n1,n2,n3⟩:=neg_facts hq.1 hq.2.1
 have hM:=maxV_ge
 have h1:(2:Int)^1225<=2^2097:=p2le (by decide)
 have h2:(2:Int)^1225=2*2^1224:=p2s 1224
 have a:=hp.2.2.2
 have b:=hq.2.2.2
 exact sum_fin hp.1 n1 hp.2.1 n2 (by omega) (by rw [n3]; omega)
theorem dfL_mid {p q:Int} (hp:Mz p) (hq:Mz q):XV (dfL p q).d (dfL p q).n∧(∀ j,j<(dfL p q).n->Mid ((dfL p q).d j))∧(dfL p q).n<=2∧lsm (dfL p q).d (dfL p q).n=iV p-iV q:=by
 obtain ⟨n1,n2,n3⟩:=neg_facts hq.1 hq.2.1
 obtain ⟨f1,f2⟩:=df_fin hp hq
 have nr:=fsum_nr hp.1 n1 f2
 have e:=(sL_exact hp.1 n1 f2).2.2
 have rh:=fsum_rng hp.1 n1
 have rl:rng (sL p (neg q)):=sL_rng hp.1 n1
 have hl:=nr_loss (fl_iV p) nr
 have z:=nr.2 0 fl_zero
 have dS:(2^872:Int) ∣ iV p+iV (neg q):=by
  rw [n3]
  exact Int.dvd_add hp.2.2.1 (Int.dvd_neg.2 hq.2.2.1)
 have dh:=nr_dvd nr dS
 have el:iV (sL p (neg q))=iV p+iV (neg q)-iV (fsum p (neg q)):=by omega
 have dl:(2^872:Int) ∣ iV (sL p (neg q)):=by rw [el]; exact Int.dvd_sub dS dh
 have a:=hp.2.2.2
 have b:=hq.2.2.2
 have pw1:(2:Int)^1226<=2^1250:=p2le (by decide)
 have pw2:(2:Int)^1226=4*2^1224:=by rw [show 1226=1224+1+1 by decide,p2s,p2s]; omega
 have up:(2^822:Int) ∣ 2^872:=p2dvd (by decide)
 have x0:XV (⟨0,fun _=>0⟩:Ls).d (⟨0,fun _=>0⟩:Ls).n:=⟨fun i hi=>absurd hi (Nat.not_lt_zero _),fun i hi=>absurd hi (Nat.not_lt_zero _)⟩
 have x1:=x0.add (b:=sL p (neg q)) rl f2 (fun i hi=>absurd hi (Nat.not_lt_zero _))
 refine ⟨x1.add rh f1 ?_,?_,?_,?_⟩
 ·refine add_all (fun x=>Lo (iV x) (iV (fsum p (neg q)))) (fun i hi=>absurd hi (Nat.not_lt_zero _)) fun hz=>?_
  have hne:=(iV_some rl f2 hz).1
  obtain ⟨u,h1,h2⟩:=nr_unit nr (fun c=>hne (by omega))
  rw [<- el] at h2
  exact ⟨u,h2,h1⟩
 ·refine add_all Mid (add_all Mid (fun i hi=>absurd hi (Nat.not_lt_zero _)) fun hz=>?_) fun hz=>?_
  ·exact ⟨rl,f2,hz,Int.dvd_trans up dl,by rw [n3] at *; omega⟩
  ·exact ⟨rh,f1,hz,Int.dvd_trans up dh,by rw [n3] at *; omega⟩
 ·have h1:=((⟨0,fun _=>0⟩:Ls).add_le (sL p (neg q))).2
  have h2:=(((⟨0,fun _=>0⟩:Ls).add (sL p (neg q))).add_le (fsum p (neg q))).2
  have h1':((⟨0,fun _=>0⟩:Ls).add (sL p (neg q))).n<=0+1:=h1
  show (((⟨0,fun _=>0⟩:Ls).add (sL p (neg q))).add (fsum p (neg q))).n<=2
  omega
 ·show lsm (((⟨0,fun _=>0⟩:Ls).add (sL p (neg q))).add (fsum p (neg q))).d (((⟨0,fun _=>0⟩:Ls).add (sL p (neg q))).add (fsum p (neg q))).n=_
  rw [lsm_add rh,lsm_add rl]
  show (0:Int)+_+_=_
  omega
theorem det_mid {ax ay bx by' cx cy:Int} (hax:Mz ax) (hay:Mz ay) (hbx:Mz bx) (hby:Mz by') (hcx:Mz cx) (hcy:Mz cy) :
    let L:=prS (dfL ax cx).d (dfL ax cx).n (dfL by' cy).d (dfL by' cy).n
    let R:=prS (dfL ay cy).d (dfL ay cy).n (dfL bx cx).d (dfL bx cx).n
    prX (dfL ax cx).d (dfL ax cx).n (dfL by' cy).d (dfL by' cy).n=true∧prX (dfL ay cy).d (dfL ay cy).n (dfL bx cx).d (dfL bx cx).n=true∧XV L.d L.n∧XV R.d R.n ∧
    gaX ⟨L.n,L.d⟩ (fun i=>neg (R.d i)) R.n=true∧XV (gaS ⟨L.n,L.d⟩ (fun i=>neg (R.d i)) R.n).d (gaS ⟨L.n,L.d⟩ (fun i=>neg (R.d i)) R.n).n ∧
    2^1074*lsm (gaS ⟨L.n,L.d⟩ (fun i=>neg (R.d i)) R.n).d (gaS ⟨L.n,L.d⟩ (fun i=>neg (R.d i)) R.n).n=(iV ax-iV cx)*(iV by'-iV cy)-(iV ay-iV cy)*(iV bx-iV cx):=by
  intro L R
  obtain ⟨u1,u2,u3,u4⟩:=dfL_mid hax hcx
  obtain ⟨v1,v2,v3,v4⟩:=dfL_mid hby hcy
  obtain ⟨s1,s2,s3,s4⟩:=dfL_mid hay hcy
  obtain ⟨t1,t2,t3,t4⟩:=dfL_mid hbx hcx
  obtain ⟨l1,l2,l3,l4⟩:=pr_all u1 u2 (by omega) v2 (by omega) (dfL by' cy).n (Nat.le_refl _)
  obtain ⟨r1,r2,r3,r4⟩:=pr_all s1 s2 (by omega) t2 (by omega) (dfL bx cx).n (Nat.le_refl _)
  rw [u4,v4] at l4
  rw [s4,t4] at r4
  have hRn:R.n<=8:=Nat.le_trans (prS_le _ _ _ _) (by
    have:2*(dfL ay cy).n*(dfL bx cx).n<=2*2*2:=Nat.mul_le_mul (by omega) (by omega)
    omega)
  have hnf:∀ i,i<R.n->rng (neg (R.d i))∧pok (neg (R.d i))=true:=fun i hi=>⟨(neg_facts (r2.fn i hi).1 (r2.fn i hi).2).1,(neg_facts (r2.fn i hi).1 (r2.fn i hi).2).2.1⟩
  obtain ⟨g1,g2,_,g4⟩:=gaS_all3 (s:=⟨L.n,L.d⟩) (f:=fun i=>neg (R.d i)) (m:=R.n) (b:=1552) l2 hnf (fun i hi=>p2_up (l3 i hi) (by omega)) (fun i hi=>by
    show ((iV (neg (R.d i))).natAbs:Int)<=_
    rw [(neg_facts (r2.fn i hi).1 (r2.fn i hi).2).2.2]
    have:=p2_up (r3 i hi) (show 1480+36*(dfL bx cx).n<=1552 by omega)
    omega) (by omega) R.n (Nat.le_refl _)
  refine ⟨l1,r1,l2,r2,g1,g2,?_⟩
  rw [g4,lsm_neg r2.fn]
  have e1:2^1074*lsm L.d L.n=(iV ax-iV cx)*(iV by'-iV cy):=l4
  have e2:2^1074*lsm R.d R.n=(iV ay-iV cy)*(iV bx-iV cx):=r4
  rw [Int.mul_add,Int.mul_neg,e1,e2]
  omega
def Un (S h:Int):Prop:=9007199254740992*((h-S).natAbs:Int)<=(S.natAbs:Int)∧9007199254740992*((h-S).natAbs:Int)<=(h.natAbs:Int)
theorem nr_Un_pos {S h:Int} (n:Nr S h) (h0:0<=S):Un S h:=by
 obtain ⟨k,h1,h2⟩:=binade S h0
 rcases h2 with h2 | h2
 ·subst h2
  have e:=nr_self ⟨0,⟨S,by rw [Int.pow_zero]; omega⟩,by omega⟩ n
  subst e
  rw [Un,Int.sub_self]
  simp
 ·have c:=nr_err n (i:=k) (by omega)
  have g:=nr_ge n (fl_p2 k (m:=4503599627370496) (by decide)) h2
  have p0:=p2 k
  generalize (2:Int)^k=q at *
  have g':4503599627370496*q<=h:=g
  constructor <;> omega
theorem nr_Un {S h:Int} (n:Nr S h):Un S h:=by
 by_cases h0:0<=S
 ·exact nr_Un_pos n h0
 ·have:=nr_Un_pos n.neg (by omega)
  unfold Un at *
  omega
theorem Un.scale {S h:Int} (u:Un S h) {c:Int} (hc:0<=c):Un (c*S) (c*h):=by
 have e:∀ x:Int,((c*x).natAbs:Int)=c*(x.natAbs:Int):=fun x=>by
  rw [Int.natAbs_mul,Int.natCast_mul]
  congr 1
  omega
 rw [Un,<- Int.mul_sub,e,e,e,<- Int.mul_assoc,Int.mul_comm 9007199254740992 c,Int.mul_assoc]
 exact ⟨Int.mul_le_mul_of_nonneg_left u.1 hc,Int.mul_le_mul_of_nonneg_left u.2 hc⟩
theorem abs_mul (x y:Int):((x*y).natAbs:Int)=(x.natAbs:Int)*(y.natAbs:Int):=by rw [Int.natAbs_mul,Int.natCast_mul]
theorem part_l {u e v:Int} (h:9007199254740992*(e.natAbs:Int)<=(u.natAbs:Int)):9007199254740992*((e*v).natAbs:Int)<=((u*v).natAbs:Int):=by
 rw [abs_mul,abs_mul,<- Int.mul_assoc]
 exact Int.mul_le_mul_of_nonneg_right h (by omega)
theorem part_r {u e v:Int} (h:9007199254740992*(e.natAbs:Int)<=(u.natAbs:Int)):9007199254740992*((v*e).natAbs:Int)<=((v*u).natAbs:Int):=by
 rw [Int.mul_comm v e,Int.mul_comm v u]
 exact part_l h
theorem dev_prod {x y u v:Int} (hu:Un x u) (hv:Un y v):81129638414606681695789005144064*((x*y-u*v).natAbs:Int)<=18014398509481985*((u*v).natAbs:Int):=by
 obtain ⟨e,he⟩:∃ e,x=u+e:=⟨x-u,by omega⟩
 obtain ⟨f,hf⟩:∃ f,y=v+f:=⟨y-v,by omega⟩
 have h1:9007199254740992*(e.natAbs:Int)<=(u.natAbs:Int):=by have:=hu.2; omega
 have h2:9007199254740992*(f.natAbs:Int)<=(v.natAbs:Int):=by have:=hv.2; omega
 have a1:=part_l (v:=v) h1
 have a2:=part_r (v:=u) h2
 have a3:=part_r (v:=e) h2
 have ee:x*y-u*v=u*f+e*v+e*f:=by
  rw [he,hf,Int.add_mul,Int.mul_add,Int.mul_add]
  omega
 rw [ee]
 generalize u*f=A at *
 generalize e*v=B at *
 generalize e*f=C at *
 generalize u*v=D at *
 omega
theorem dev_heads {x1 y1 x2 y2 u1 v1 u2 v2 L R S:Int} (h1:Un x1 u1) (h2:Un y2 v2) (h3:Un y1 v1) (h4:Un x2 u2) (hL:Un (u1*v2) L) (hR:Un (v1*u2) R) (hS:Un ((L.natAbs:Int)+(R.natAbs:Int)) S) :
  9007199254740992*(((u1*v2).natAbs:Int)+((v1*u2).natAbs:Int))<=9007199254740993*((L.natAbs:Int)+(R.natAbs:Int))∧9007199254740992*((L.natAbs:Int)+(R.natAbs:Int))<=9007199254740993*S∧0<=S ∧
  81129638414606681695789005144064*(((x1*y2-y1*x2)-(u1*v2-v1*u2)).natAbs:Int)<=18014398509481985*(((u1*v2).natAbs:Int)+((v1*u2).natAbs:Int)):=by
 have d1:=dev_prod h1 h2
 have d2:=dev_prod h3 h4
 have l:=hL.2
 have r:=hR.2
 have s:=hS.2
 have s':=hS.1
 generalize u1*v2=A at *
 generalize v1*u2=B at *
 generalize x1*y2=C at *
 generalize y1*x2=D at *
 refine ⟨by omega,by omega,by omega,by omega⟩
theorem k_sg {X Z D:Int} (hD:Un Z D) (h:((X-Z).natAbs:Int)<(Z.natAbs:Int)):(0<X ↔ 0<D)∧(X<0 ↔ D<0):=by
 have d:=hD.1
 omega
theorem k_tri {X H Z:Int}:((X-Z).natAbs:Int)<=((X-H).natAbs:Int)+((H-Z).natAbs:Int):=by omega
theorem k_two {A B L R:Int} (hA:Un A L) (hB:Un B R):9007199254740992*(((A-B)-(L-R)).natAbs:Int)<=(L.natAbs:Int)+(R.natAbs:Int):=by
 have a:=hA.2
 have b:=hB.2
 omega
theorem k_lowM {T M:Int} (h:Un T M) (t:0<=T):9007199254740991*T<=9007199254740992*M:=by
 have:=h.1
 omega
theorem k_lowD {Z D:Int} (h:Un Z D):9007199254740991*(D.natAbs:Int)<=9007199254740992*(Z.natAbs:Int):=by
 have:=h.2
 omega
theorem kf_ch {a b c d X Y Z:Int} (hb:0<=b) (hc:0<=c) (h1:a*X<=b*Y) (h2:c*Y<=d*Z):(c*a)*X<=(b*d)*Z:=by
 have a1:=Int.mul_le_mul_of_nonneg_left h1 hc
 have a2:=Int.mul_le_mul_of_nonneg_left h2 hb
 rw [Int.mul_assoc,Int.mul_assoc]
 refine Int.le_trans a1 (Int.le_trans (Int.le_of_eq ?_) a2)
 rw [<- Int.mul_assoc,<- Int.mul_assoc,Int.mul_comm c b]
theorem kf_end {a b Y Z:Int} (hb:0<=b) (hab:b<a) (h:a*Y<=b*Z) (hz:0<Z):Y<Z:=by
 apply Int.lt_of_not_ge
 intro c
 have h1:b*Z<=b*Y:=Int.mul_le_mul_of_nonneg_left c hb
 have h2:b*Y<a*Y:=Int.mul_lt_mul_of_pos_right hab (by omega)
 omega
theorem kf_pos {a b S Z:Int} (ha:0<a) (hb:0<=b) (h:a*S<=b*Z) (hs:0<S):0<Z:=by
 apply Int.lt_of_not_ge
 intro c
 have h1:b*Z<=b*0:=Int.mul_le_mul_of_nonneg_left c hb
 have h2:0<a*S:=Int.mul_pos ha hs
 omega
theorem k_flt {Y Y1 Y2 V W S T M Q Z:Int} (y:Y<=Y1+Y2) (y1:81129638414606681695789005144064*Y1<=18014398509481985*V) (y2:9007199254740992*Y2<=W) (a0:9007199254740992*V<=9007199254740993*W) (s0:9007199254740992*W<=9007199254740993*S) (c:0<S)
  (hT:5070602400912917605986812821504*T=1688849860263937*S) (m:9007199254740991*T<=9007199254740992*M) (h:M<=Q) (d:9007199254740991*Q<=9007199254740992*Z):Y<Z:=by
 have e1:(730750818665451459101842416358141509827966271488:Int)*Y1<=162259276829213390413175774511105*W:=kf_ch (a:=81129638414606681695789005144064) (b:=18014398509481985) (c:=9007199254740992) (d:=9007199254740993) (by decide) (by decide) y1 a0
 have e2:(730750818665451459101842416358141509827966271488:Int)*Y<=243388915243820072108964779655169*W:=by
  clear hT m h d s0 c y1 a0
  omega
 have e3:=kf_ch (by decide) (by decide) e2 s0
 have f1:1688849860263937*S<=5070602400912917605986812821504*T:=Int.le_of_eq hT.symm
 have f2:9007199254740991*T<=9007199254740992*Q:=Int.le_trans m (Int.mul_le_mul_of_nonneg_left h (by decide))
 have f3:=kf_ch (by decide) (by decide) (kf_ch (by decide) (by decide) f1 f2) d
 exact kf_end (by decide) (by decide) (kf_ch (by decide) (by decide) e3 f3) (kf_pos (by decide) (by decide) f3 c)
theorem k_hds {Y V W S T M Q Z:Int} (y:81129638414606681695789005144064*Y<=18014398509481985*V) (a0:9007199254740992*V<=9007199254740993*W) (s0:9007199254740992*W<=9007199254740993*S) (c:0<S)
  (hT:20282409603651670423947251286016*T=4503599627370499*S) (m:9007199254740991*T<=9007199254740992*M) (h:M<=Q) (d:9007199254740991*Q<=9007199254740992*Z):Y<Z:=by
 have e3:=kf_ch (by decide) (by decide) (kf_ch (by decide) (by decide) y a0) s0
 have f1:4503599627370499*S<=20282409603651670423947251286016*T:=Int.le_of_eq hT.symm
 have f2:9007199254740991*T<=9007199254740992*Q:=Int.le_trans m (Int.mul_le_mul_of_nonneg_left h (by decide))
 have f3:=kf_ch (by decide) (by decide) (kf_ch (by decide) (by decide) f1 f2) d
 exact kf_end (by decide) (by decide) (kf_ch (by decide) (by decide) e3 f3) (kf_pos (by decide) (by decide) f3 c)
theorem k_T2 {T S:Int} (h:5070602400912917605986812821504*T=1688849860263937*S) (s:0<S):0<=T:=Int.le_of_lt (kf_pos (by decide) (by decide) (Int.le_of_eq h.symm) s)
theorem k_T4 {T S:Int} (h:20282409603651670423947251286016*T=4503599627370499*S) (s:0<S):0<=T:=Int.le_of_lt (kf_pos (by decide) (by decide) (Int.le_of_eq h.symm) s)
theorem k_ab0 {A:Int} (h:81129638414606681695789005144064*(A.natAbs:Int)<=0):A=0:=by omega
theorem k_un0 {A L:Int} (h:Un A L) (l:L=0):A=0:=by
 have:=h.2
 omega
theorem k_lr {L R S:Int} (h:9007199254740992*((L.natAbs:Int)+(R.natAbs:Int))<=9007199254740993*0):L=0∧R=0:=by omega
theorem k_nil {X A B L R:Int} (hA:Un A L) (hB:Un B R) (s0:9007199254740992*((L.natAbs:Int)+(R.natAbs:Int))<=9007199254740993*0)
  (hX:81129638414606681695789005144064*((X-(A-B)).natAbs:Int)<=18014398509481985*((A.natAbs:Int)+(B.natAbs:Int))):L=0∧R=0∧A=0∧B=0∧X=0:=by
 obtain ⟨l,r⟩:=k_lr (S:=0) s0
 have a:=k_un0 hA l
 have b:=k_un0 hB r
 rw [a,b] at hX
 have x:=k_ab0 (A:=X-(0-0)) hX
 exact ⟨l,r,a,b,by omega⟩
theorem k_nil2 {X D:Int} (x:X=0) (hD:Un (0-0) D):(0<X ↔ 0<D)∧(X<0 ↔ D<0):=by
 have:=hD.1
 omega
theorem flt_sign {X A B L R S D T M:Int} (hA:Un A L) (hB:Un B R) (a0:9007199254740992*((A.natAbs:Int)+(B.natAbs:Int))<=9007199254740993*((L.natAbs:Int)+(R.natAbs:Int))) (s0:9007199254740992*((L.natAbs:Int)+(R.natAbs:Int))<=9007199254740993*S) (s1:0<=S)
  (hX:81129638414606681695789005144064*((X-(A-B)).natAbs:Int)<=18014398509481985*((A.natAbs:Int)+(B.natAbs:Int)))
  (hD:Un (L-R) D) (hT:5070602400912917605986812821504*T=1688849860263937*S) (hM:Un T M) (h:M<=(D.natAbs:Int)):(0<X ↔ 0<D)∧(X<0 ↔ D<0):=by
 rcases Int.lt_or_eq_of_le s1 with c | c
 ·exact k_sg hD (k_flt k_tri hX (k_two hA hB) a0 s0 c hT (k_lowM hM (k_T2 hT c)) h (k_lowD hD))
 ·obtain ⟨l,r,_,_,x⟩:=k_nil hA hB (by rw [c]; exact s0) hX
  rw [l,r] at hD
  exact k_nil2 x hD
theorem hds_sign {X A B L R S D T M:Int} (hA:Un A L) (hB:Un B R) (a0:9007199254740992*((A.natAbs:Int)+(B.natAbs:Int))<=9007199254740993*((L.natAbs:Int)+(R.natAbs:Int))) (s0:9007199254740992*((L.natAbs:Int)+(R.natAbs:Int))<=9007199254740993*S) (s1:0<=S)
  (hX:81129638414606681695789005144064*((X-(A-B)).natAbs:Int)<=18014398509481985*((A.natAbs:Int)+(B.natAbs:Int)))
  (hD:Un (A-B) D) (hT:20282409603651670423947251286016*T=4503599627370499*S) (hM:Un T M) (h:M<=(D.natAbs:Int)):(0<X ↔ 0<D)∧(X<0 ↔ D<0):=by
 rcases Int.lt_or_eq_of_le s1 with c | c
 ·exact k_sg hD (k_hds hX a0 s0 c hT (k_lowM hM (k_T4 hT c)) h (k_lowD hD))
 ·obtain ⟨_,_,a,b,x⟩:=k_nil hA hB (by rw [c]; exact s0) hX
  rw [a,b] at hD
  exact k_nil2 x hD
theorem g_t1 {d z p a:Int} (h1:9007199254740992*d<=z) (hz:9007199254740992*z<=a) (h:p<=z+d) (a0:0<=a):81129638414606681695789005144064*d<=a∧100*(9007199254740992*p)<=101*a:=by
 constructor <;> omega
theorem tl_prod {z p a:Int} (h:Un z p) (hz:9007199254740992*(z.natAbs:Int)<=a):81129638414606681695789005144064*((p-z).natAbs:Int)<=a∧100*(9007199254740992*(p.natAbs:Int))<=101*a :=
 g_t1 h.1 hz (by omega) (by omega)
theorem g_t2 {a dl d1 d2 p1 p2 D:Int} (e1:81129638414606681695789005144064*d1<=a) (e2:81129638414606681695789005144064*d2<=a) (f1:100*(9007199254740992*p1)<=101*a) (f2:100*(9007199254740992*p2)<=101*a) (h:9007199254740992*dl<=p1+p2) (hD:D<=dl+d1+d2):100*(81129638414606681695789005144064*D)<=402*a:=by
 have g:100*(81129638414606681695789005144064*dl)<=202*a:=by
  clear e1 e2 hD
  omega
 clear f1 f2 h
 omega
theorem g_t3 {a z1 z2 l D:Int} (a0:0<=a) (h:100*(81129638414606681695789005144064*D)<=402*a) (c1:9007199254740992*z1<=a) (c2:9007199254740992*z2<=a) (hl:l<=z1+z2+D):100*(9007199254740992*l)<=201*a:=by
 have g:100*(9007199254740992*D)<=a:=by
  clear c1 c2 hl
  omega
 clear h
 omega
theorem tl_sum {z1 z2 p1 p2 l a:Int} (h1:Un z1 p1) (h2:Un z2 p2) (c1:9007199254740992*(z1.natAbs:Int)<=a) (c2:9007199254740992*(z2.natAbs:Int)<=a) (hl:Un (p1+p2) l) :
  100*(81129638414606681695789005144064*((l-(z1+z2)).natAbs:Int))<=402*a∧100*(9007199254740992*(l.natAbs:Int))<=201*a:=by
 obtain ⟨d1,f1⟩:=tl_prod h1 c1
 obtain ⟨d2,f2⟩:=tl_prod h2 c2
 have s:=hl.1
 have k:9007199254740992*((l-(p1+p2)).natAbs:Int)<=(p1.natAbs:Int)+(p2.natAbs:Int):=by clear d1 f1 d2 f2 c1 c2; omega
 have t:((l-(z1+z2)).natAbs:Int)<=((l-(p1+p2)).natAbs:Int)+((p1-z1).natAbs:Int)+((p2-z2).natAbs:Int):=by clear d1 f1 d2 f2 c1 c2 s k; omega
 have D:=g_t2 d1 d2 f1 f2 k t
 have a0:0<=a:=by clear d1 f1 d2 f2 D k t s; omega
 exact ⟨D,g_t3 a0 D c1 c2 (by clear d1 f1 d2 f2 D k t s c1 c2; omega)⟩
theorem g_t4 {a b dl dr t D l r:Int} (e1:100*(81129638414606681695789005144064*dl)<=402*a) (e2:100*(81129638414606681695789005144064*dr)<=402*b) (f1:100*(9007199254740992*l)<=201*a) (f2:100*(9007199254740992*r)<=201*b) (h:9007199254740992*t<=l+r) (hD:D<=t+dl+dr):100*(81129638414606681695789005144064*D)<=603*(a+b):=by
 have g:100*(81129638414606681695789005144064*t)<=201*(a+b):=by
  clear e1 e2 hD
  omega
 clear f1 f2 h
 omega
theorem tl_dif {zl zr l r T a b:Int} (d1:100*(81129638414606681695789005144064*((l-zl).natAbs:Int))<=402*a) (f1:100*(9007199254740992*(l.natAbs:Int))<=201*a)
  (d2:100*(81129638414606681695789005144064*((r-zr).natAbs:Int))<=402*b) (f2:100*(9007199254740992*(r.natAbs:Int))<=201*b) (hT:Un (l-r) T):100*(81129638414606681695789005144064*((T-(zl-zr)).natAbs:Int))<=603*(a+b):=by
 have s:=hT.1
 exact g_t4 d1 d2 f1 f2 (t:=((T-(l-r)).natAbs:Int)) (by clear d1 f1 d2 f2; omega) (by clear d1 f1 d2 f2 s; omega)
theorem g_t5 {a b D E1 E2 Y:Int} (h:100*(81129638414606681695789005144064*D)<=603*(a+b)) (h1:81129638414606681695789005144064*E1<=a) (h2:81129638414606681695789005144064*E2<=b) (hY:Y<=D+E1+E2):100*(81129638414606681695789005144064*Y)<=703*(a+b):=by
 omega
theorem g_part {e f u v:Int} (h1:9007199254740992*(e.natAbs:Int)<=(u.natAbs:Int)) (h2:9007199254740992*(f.natAbs:Int)<=(v.natAbs:Int)):81129638414606681695789005144064*((e*f).natAbs:Int)<=((u*v).natAbs:Int):=by
 have a:=part_l (v:=v) h1
 have b:=part_r (v:=e) h2
 generalize ((e*f).natAbs:Int)=x at *
 generalize ((e*v).natAbs:Int)=y at *
 generalize ((u*v).natAbs:Int)=z at *
 omega
theorem dev_tails {u1 v1 u2 v2 e1 f1 e2 f2 p1 p2 q1 q2 l r T:Int} (a1:9007199254740992*(e1.natAbs:Int)<=(u1.natAbs:Int)) (b1:9007199254740992*(f1.natAbs:Int)<=(v1.natAbs:Int)) (a2:9007199254740992*(e2.natAbs:Int)<=(u2.natAbs:Int)) (b2:9007199254740992*(f2.natAbs:Int)<=(v2.natAbs:Int))
  (h1:Un (u1*f2) p1) (h2:Un (v2*e1) p2) (h3:Un (v1*e2) q1) (h4:Un (u2*f1) q2) (hl:Un (p1+p2) l) (hr:Un (q1+q2) r) (hT:Un (l-r) T) :
  100*(81129638414606681695789005144064*((((u1+e1)*(v2+f2)-(v1+f1)*(u2+e2))-((u1*v2-v1*u2)+T)).natAbs:Int))<=703*(((u1*v2).natAbs:Int)+((v1*u2).natAbs:Int)):=by
 obtain ⟨x1,x2⟩:=tl_sum (a:=((u1*v2).natAbs:Int)) h1 h2 (part_r b2) (by rw [Int.mul_comm v2 e1]; exact part_l a1) hl
 obtain ⟨y1,y2⟩:=tl_sum (a:=((v1*u2).natAbs:Int)) h3 h4 (part_r a2) (by rw [Int.mul_comm u2 f1]; exact part_l b1) hr
 have d:=tl_dif x1 x2 y1 y2 hT
 have g1:=g_part a1 b2
 have g2:=g_part b1 a2
 refine g_t5 d g1 g2 ?_
 have e:((u1+e1)*(v2+f2)-(v1+f1)*(u2+e2))-((u1*v2-v1*u2)+T)=e1*f2-f1*e2-(T-((u1*f2+v2*e1)-(v1*e2+u2*f1))):=by
  rw [Int.add_mul,Int.mul_add,Int.mul_add,Int.add_mul,Int.mul_add,Int.mul_add,Int.mul_comm v2 e1,Int.mul_comm u2 f1]
  omega
 rw [e]
 clear d g1 g2 x1 x2 y1 y2 e
 omega
theorem g_low {T M:Int} (h:Un T M) (t:0<=T):999*T<=1000*M:=by
 have:=h.1
 omega
theorem g_lowD {Z D:Int} (h:Un Z D):999*(D.natAbs:Int)<=1000*(Z.natAbs:Int):=by
 have:=h.2
 omega
theorem g_S {V W S Y:Int} (y:100*(81129638414606681695789005144064*Y)<=703*V) (a0:9007199254740992*V<=9007199254740993*W) (s0:9007199254740992*W<=9007199254740993*S) (v0:0<=V):81129638414606681695789005144064*Y<=8*S:=by
 have w:100*V<=101*W:=by clear s0 y; omega
 have w0:0<=W:=by clear s0 y; omega
 have s:100*W<=101*S:=by clear a0 y w; omega
 clear a0 s0
 generalize 81129638414606681695789005144064*Y=Q at *
 omega
theorem g_end {Y G Z S N tc tk c k E d:Int} (y:81129638414606681695789005144064*Y<=8*S) (g:9007199254740992*G<=N) (n0:0<=N) (s:0<S)
  (hc:9*S<=81129638414606681695789005144064*tc) (hk:3*N<=9007199254740992*tk) (lc:999*tc<=1000*c) (lk:999*tk<=1000*k) (le:999*(c+k)<=1000*E) (h:E<=d) (ld:999*d<=1000*Z):Y+G<Z:=by
 have z:997002999*(tc+tk)<=1000000000*Z:=by
  clear y g hc hk
  omega
 have hk':3*(9007199254740992*N)<=81129638414606681695789005144064*tk:=by clear z y hc; omega
 have g':81129638414606681695789005144064*G<=9007199254740992*N:=by clear z y hc hk hk'; omega
 have z':997002999*(81129638414606681695789005144064*tc+81129638414606681695789005144064*tk)<=1000000000*(81129638414606681695789005144064*Z):=by
  clear y g hc hk hk' g' lc lk le h ld
  omega
 apply Int.lt_of_not_ge
 intro q
 have q':81129638414606681695789005144064*Z<=81129638414606681695789005144064*Y+81129638414606681695789005144064*G:=by
  clear z z' y g hc hk hk' g' lc lk le h ld
  omega
 have nn:0<=9007199254740992*N:=by clear z z' q' y g hc hk hk' g' lc lk le h ld q; omega
 clear z lc lk le h ld q hk g
 generalize 81129638414606681695789005144064*Z=z1 at *
 generalize 81129638414606681695789005144064*Y=y1 at *
 generalize 81129638414606681695789005144064*G=g1 at *
 generalize 81129638414606681695789005144064*tc=c1 at *
 generalize 81129638414606681695789005144064*tk=k1 at *
 generalize 9007199254740992*N=n1 at *
 omega
theorem tls_sign {X H h T d S V W tc tk c k E:Int} (hX:100*(81129638414606681695789005144064*((X-(H+T)).natAbs:Int))<=703*V) (a0:9007199254740992*V<=9007199254740993*W) (s0:9007199254740992*W<=9007199254740993*S) (v0:0<=V) (s1:0<S)
  (hh:Un H h) (hd:Un (h+T) d) (hc:9*S<=81129638414606681695789005144064*tc) (hk:3*(h.natAbs:Int)<=9007199254740992*tk) (tc0:0<=tc) (tk0:0<=tk) (uc:Un tc c) (uk:Un tk k) (c0:0<=c) (k0:0<=k) (uE:Un (c+k) E) (hE:E<=(d.natAbs:Int)):(0<X ↔ 0<d)∧(X<0 ↔ d<0):=by
 have y:=g_S hX a0 s0 v0
 have e:=g_end (Y:=((X-(H+T)).natAbs:Int)) (G:=((h-H).natAbs:Int)) y hh.2 (by clear y hX hc hk; omega) s1 hc hk (g_low uc tc0) (g_low uk tk0) (g_low uE (by clear y hX hc hk; omega)) hE (g_lowD hd)
 exact k_sg hd (by clear y hX hc hk hE a0 s0; omega)
structure Fx (a b:Nat) (x:Int):Prop where
 r:rng x
 p:pok x=true
 d:(2^a:Int) ∣ iV x
 b:((iV x).natAbs:Int)<=2^b
theorem Mz.fx {x:Int} (h:Mz x):Fx 872 1224 x:=⟨h.1,h.2.1,h.2.2.1,h.2.2.2⟩
theorem Fx.up {a b b':Nat} {x:Int} (h:Fx a b x) (c:b<=b'):Fx a b' x:=⟨h.r,h.p,h.d,p2_up h.b c⟩
theorem Fx.neg {a b:Nat} {x:Int} (h:Fx a b x):Fx a b (neg x)∧iV (neg x)=-iV x:=by
 obtain ⟨n1,n2,n3⟩:=neg_facts h.r h.p
 refine ⟨⟨n1,n2,?_,?_⟩,n3⟩
 ·rw [n3]; exact Int.dvd_neg.2 h.d
 ·rw [n3,Int.natAbs_neg]; exact h.b
theorem h_dbl {S x:Int} (h:Un S x):(x.natAbs:Int)<=2*(S.natAbs:Int):=by
 have:=h.1
 omega
theorem h_fin {a b m:Int} {k:Nat} (h1:a<=2^k) (hk:k+1<=2097) (hm:(2:Int)^2097<=m):2*a<=m:=by
 have e:=p2s k
 have f:(2:Int)^(k+1)<=2^2097:=p2le hk
 omega
theorem Fx.sum {a b:Nat} {x y:Int} (hx:Fx a b x) (hy:Fx a b y) (hb:b+1<=2097):Fx a (b+2) (fsum x y)∧Un (iV x+iV y) (iV (fsum x y)):=by
 obtain ⟨f1,f2⟩:=sum_fin hx.r hy.r hx.p hy.p (h_fin (b:=0) hx.b hb maxV_ge) (h_fin (b:=0) hy.b hb maxV_ge)
 have nr:=fsum_nr hx.r hy.r f2
 have u:=nr_Un nr
 refine ⟨⟨fsum_rng hx.r hy.r,f1,nr_dvd nr (Int.dvd_add hx.d hy.d),?_⟩,u⟩
 have h2:=h_dbl u
 have e1:=hx.b
 have e2:=hy.b
 rw [show b+2=b+1+1 by omega,p2s,p2s]
 omega
theorem h_mul {x y:Int} {b d:Nat} (h1:(x.natAbs:Int)<=2^b) (h2:(y.natAbs:Int)<=2^d):((x*y).natAbs:Int)<=2^(b+d):=by
 have:=abs_mul_le h1 h2
 rwa [<- Int.pow_add] at this
theorem Fx.prod {a b c d:Nat} {x y:Int} (hx:Fx a b x) (hy:Fx c d y) (h1:1074<=a+c) (h2:1074<=b+d) (h3:b+d-1074<=2097) :
  Fx (a+c-1074) (b+d-1074+1) (fprod x y)∧Un (iV x*iV y) (2^1074*iV (fprod x y))∧∃ T,2^1074*T=iV x*iV y∧Un T (iV (fprod x y)):=by
 have dd:(2^(a+c):Int) ∣ iV x*iV y:=by
  rw [Int.pow_add]
  exact Int.mul_dvd_mul hx.d hy.d
 obtain ⟨k,hk⟩:=dd
 have e0:(2:Int)^(a+c)=2^1074*2^(a+c-1074):=by rw [<- Int.pow_add,show 1074+(a+c-1074)=a+c by omega]
 have hT:2^1074*(2^(a+c-1074)*k)=iV x*iV y:=by rw [hk,e0,Int.mul_assoc]
 have b1:=h_mul hx.b hy.b
 rw [<- hT,natAbs_p2,show b+d=1074+(b+d-1074) by omega,Int.pow_add] at b1
 have b2:(((2^(a+c-1074)*k:Int)).natAbs:Int)<=2^(b+d-1074):=Int.le_of_mul_le_mul_left b1 (p2 1074)
 have s:=stp_prod hx.r hy.r hx.p hy.p hT
 have f:pok (fprod x y)=true:=s.fin (Int.le_trans b2 (Int.le_trans (p2le h3) maxV_ge))
 have nr:=s.nr f
 have u:=nr_Un nr
 refine ⟨⟨fprod_rng hx.r hy.r,f,nr_dvd nr ⟨k,rfl⟩,?_⟩,?_,_,hT,u⟩
 ·have:=h_dbl u
  rw [p2s]
  omega
 ·rw [<- hT]
  exact u.scale (Int.le_of_lt (p2 1074))
theorem rg_rg {x:Int} (h:rng x):rg (rg x)=rg x:=by unfold rng rg at *; split <;> (try split) <;> omega
theorem Fx.abs {a b:Nat} {x:Int} (h:Fx a b x):Fx a b (rg x)∧iV (rg x)=((iV x).natAbs:Int):=by
 obtain ⟨q1,q2⟩:=q_rg h.r
 have e:iV (rg x)=((iV x).natAbs:Int):=by
  rw [iV_abs,iV,decide_eq_false (by omega),rg_rg h.r]
  rfl
 refine ⟨⟨q1,?_,?_,?_⟩,e⟩
 ·rw [pok_rg' q1,rg_rg h.r,<- pok_rg' h.r]; exact h.p
 ·rw [e]; exact Int.dvd_natAbs.2 h.d
 ·rw [e,Int.natAbs_natCast]; exact h.b
structure FltN (u1 v1 u2 v2:Int):Prop where
 l:Fx 670 1379 (fprod u1 v2)
 r:Fx 670 1379 (fprod v1 u2)
 lu:Un (iV u1*iV v2) (2^1074*iV (fprod u1 v2))
 ru:Un (iV v1*iV u2) (2^1074*iV (fprod v1 u2))
 s:Fx 670 1381 (fsum (rg (fprod u1 v2)) (rg (fprod v1 u2)))
 su:Un (((iV (fprod u1 v2)).natAbs:Int)+((iV (fprod v1 u2)).natAbs:Int)) (iV (fsum (rg (fprod u1 v2)) (rg (fprod v1 u2))))
 d:Fx 670 1381 (fsum (fprod u1 v2) (neg (fprod v1 u2)))
 du:Un (iV (fprod u1 v2)-iV (fprod v1 u2)) (iV (fsum (fprod u1 v2) (neg (fprod v1 u2))))
theorem fltN_of {u1 v1 u2 v2:Int} (h1:Fx 872 1226 u1) (h2:Fx 872 1226 v1) (h3:Fx 872 1226 u2) (h4:Fx 872 1226 v2):FltN u1 v1 u2 v2:=by
 obtain ⟨l,lu,_⟩:=h1.prod h4 (by decide) (by decide) (by decide)
 obtain ⟨r,ru,_⟩:=h2.prod h3 (by decide) (by decide) (by decide)
 obtain ⟨la,le⟩:=l.abs
 obtain ⟨ra,re⟩:=r.abs
 obtain ⟨s,su⟩:=la.sum ra (by decide)
 obtain ⟨nr,ne⟩:=r.neg
 obtain ⟨d,du⟩:=l.sum nr (by decide)
 rw [le,re] at su
 rw [ne] at du
 exact ⟨l,r,lu,ru,s,su,d,du⟩
theorem Mz.diff {p q:Int} (hp:Mz p) (hq:Mz q):Fx 872 1226 (fsum p (neg q))∧Un (iV p-iV q) (iV (fsum p (neg q))):=by
 obtain ⟨n,ne⟩:=hq.fx.neg
 obtain ⟨s,su⟩:=hp.fx.sum n (by decide)
 rw [ne] at su
 exact ⟨s,su⟩
def oA:Int:=4375247037990436868
def oB:Int:=4372995238176751619
def oC:Int:=4143874607134277636
def oK:Int:=4375247037990436866
theorem iV_posO {p m:Int} {n:Nat} (hr:rng p) (hp:pok p=true) (h0:0<=p) (hm:pmag p=m*4) (he:pexp p+1074=n) (m0:0<=m):iV p=m*2^(n+2):=by
 have e:=iV_form hr hp
 rw [hm,he,Int.toNat_natCast] at e
 have s:0<=iV p:=by
  rw [iV,decide_eq_false (by omega)]
  exact Int.natCast_nonneg _
 rw [show n+2=n+1+1 by omega,p2s,p2s]
 have q:=p2 n
 have:m*(2*(2*2^n))=m*4*2^n:=by rw [<- Int.mul_assoc 2 2,<- Int.mul_assoc,show (2:Int)*2=4 from rfl]
 omega
theorem rng_oA:rng oA:=by unfold rng oA; omega
theorem iV_oA:iV oA=1688849860263937*2^972:=iV_posO (n:=970) rng_oA (by decide) (by decide) (by decide) (by decide) (by decide)
theorem fx_oA:Fx 972 1024 oA:=by
 refine ⟨rng_oA,by decide,⟨_,by rw [iV_oA,Int.mul_comm]⟩,?_⟩
 rw [iV_oA,Int.natAbs_mul,Int.natCast_mul]
 have e:(((2:Int)^972).natAbs:Int)=2^972:=by have:=p2 972; omega
 rw [e,show (2:Int)^1024=2^52*2^972 by rw [<- Int.pow_add]]
 exact Int.mul_le_mul_of_nonneg_right (by decide) (Int.le_of_lt (p2 972))
theorem sc_abs {S:Int} {q:Int} (hq:0<=q):((q*S).natAbs:Int)=q*(S.natAbs:Int):=by
 rw [abs_mul]
 congr 1
 omega
theorem sc_sgn {q x:Int} (hq:0<q):(0<q*x ↔ 0<x)∧(q*x<0 ↔ x<0):=by
 rcases Int.lt_trichotomy x 0 with h | h | h
 ·have:q*x<0:=Int.mul_neg_of_pos_of_neg hq h
  omega
 ·rw [h,Int.mul_zero]
  exact ⟨Iff.rfl,Iff.rfl⟩
 ·have:0<q*x:=Int.mul_pos hq h
  omega
theorem flt_dev {ax ay bx by' cx cy:Int} (hax:Mz ax) (hay:Mz ay) (hbx:Mz bx) (hby:Mz by') (hcx:Mz cx) (hcy:Mz cy) {u1 v1 u2 v2 L R S:Int} (e1:u1=fsum ax (neg cx)) (e2:v1=fsum ay (neg cy)) (e3:u2=fsum bx (neg cx)) (e4:v2=fsum by' (neg cy))
  (eL:L=fprod u1 v2) (eR:R=fprod v1 u2) (eS:S=fsum (rg L) (rg R)) :
  FltN u1 v1 u2 v2 ∧
  9007199254740992*(((iV u1*iV v2).natAbs:Int)+((iV v1*iV u2).natAbs:Int))<=9007199254740993*(((2^1074*iV L).natAbs:Int)+((2^1074*iV R).natAbs:Int)) ∧
  9007199254740992*(((2^1074*iV L).natAbs:Int)+((2^1074*iV R).natAbs:Int))<=9007199254740993*(2^1074*iV S)∧0<=2^1074*iV S ∧
  81129638414606681695789005144064*((((iV ax-iV cx)*(iV by'-iV cy)-(iV ay-iV cy)*(iV bx-iV cx))-(iV u1*iV v2-iV v1*iV u2)).natAbs:Int)<=18014398509481985*(((iV u1*iV v2).natAbs:Int)+((iV v1*iV u2).natAbs:Int)):=by
 obtain ⟨f1,n1⟩:=hax.diff hcx
 obtain ⟨f2,n2⟩:=hay.diff hcy
 obtain ⟨f3,n3⟩:=hbx.diff hcx
 obtain ⟨f4,n4⟩:=hby.diff hcy
 rw [<- e1] at f1 n1
 rw [<- e2] at f2 n2
 rw [<- e3] at f3 n3
 rw [<- e4] at f4 n4
 have F:=fltN_of f1 f2 f3 f4
 refine ⟨F,?_⟩
 have q0:=Int.le_of_lt (p2 1074)
 have su:=F.su.scale q0
 rw [Int.mul_add,<- sc_abs q0,<- sc_abs q0] at su
 rw [eS,eL,eR]
 exact dev_heads n1 n4 n2 n3 F.lu F.ru su
theorem flt_pat {ax ay bx by' cx cy:Int} (hax:Mz ax) (hay:Mz ay) (hbx:Mz bx) (hby:Mz by') (hcx:Mz cx) (hcy:Mz cy) {u1 v1 u2 v2 L R S D:Int} (e1:u1=fsum ax (neg cx)) (e2:v1=fsum ay (neg cy)) (e3:u2=fsum bx (neg cx)) (e4:v2=fsum by' (neg cy))
  (eL:L=fprod u1 v2) (eR:R=fprod v1 u2) (eS:S=fsum (rg L) (rg R)) (eD:D=fsum L (neg R)) (h:iV (fprod oA S)<=((iV D).natAbs:Int)) :
  (0<(iV ax-iV cx)*(iV by'-iV cy)-(iV ay-iV cy)*(iV bx-iV cx) ↔ 0<iV D)∧((iV ax-iV cx)*(iV by'-iV cy)-(iV ay-iV cy)*(iV bx-iV cx)<0 ↔ iV D<0):=by
 obtain ⟨F,a0,s0,s1,hX⟩:=flt_dev hax hay hbx hby hcx hcy e1 e2 e3 e4 eL eR eS
 have q:=p2 1074
 have q0:=Int.le_of_lt q
 have fS:Fx 670 1381 S:=by rw [eS,eL,eR]; exact F.s
 obtain ⟨_,_,T,hT,uT⟩:=fx_oA.prod fS (by decide) (by decide) (by decide)
 have du:Un (2^1074*iV L-2^1074*iV R) (2^1074*iV D):=by
  rw [<- Int.mul_sub,eD,eL,eR]
  exact F.du.scale q0
 have hT':5070602400912917605986812821504*(2^1074*T)=1688849860263937*(2^1074*iV S):=by
  rw [hT,iV_oA,show (5070602400912917605986812821504:Int)=2^102 by decide,show (2:Int)^1074=2^102*2^972 by rw [<- Int.pow_add]]
  generalize (2:Int)^972=z
  generalize (2:Int)^102=y
  generalize iV S=x
  rw [Int.mul_assoc,Int.mul_assoc,Int.mul_left_comm]
 have hM:2^1074*iV (fprod oA S)<=((2^1074*iV D).natAbs:Int):=by
  rw [sc_abs q0]
  exact Int.mul_le_mul_of_nonneg_left h q0
 have lu:=F.lu
 have ru:=F.ru
 rw [<- eL] at lu
 rw [<- eR] at ru
 obtain ⟨r1,r2⟩:=flt_sign lu ru a0 s0 s1 hX du hT' (uT.scale q0) hM
 rw [r1,r2]
 exact sc_sgn q
theorem iV_posN {p m:Int} {n:Nat} (hr:rng p) (hp:pok p=true) (h0:0<=p) (hm:pmag p=m) (he:pexp p+1074=n):iV p=m*2^n:=by
 have e:=iV_form hr hp
 rw [hm,he,Int.toNat_natCast] at e
 have s:0<=iV p:=by
  rw [iV,decide_eq_false (by omega)]
  exact Int.natCast_nonneg _
 omega
theorem rng_oB:rng oB:=by unfold rng oB; omega
theorem rng_oC:rng oC:=by unfold rng oC; omega
theorem rng_oK:rng oK:=by unfold rng oK; omega
theorem iV_oB:iV oB=4503599627370499*2^970:=iV_posN rng_oB (by decide) (by decide) (by decide) (by decide)
theorem iV_oC:iV oC=5066549580791812*2^919:=iV_posN rng_oC (by decide) (by decide) (by decide) (by decide)
theorem iV_oK:iV oK=6755399441055746*2^970:=iV_posN rng_oK (by decide) (by decide) (by decide) (by decide)
theorem fx_pos {p m:Int} {n:Nat} (hr:rng p) (hp:pok p=true) (e:iV p=m*2^n) (m0:0<=m) (hm:m<=2^53):Fx n (n+53) p:=by
 refine ⟨hr,hp,⟨_,by rw [e,Int.mul_comm]⟩,?_⟩
 have q:=p2 n
 have:0<=m*2^n:=Int.mul_nonneg m0 (by omega)
 have e':((iV p).natAbs:Int)=m*2^n:=by omega
 rw [e',Int.pow_add,Int.mul_comm ((2:Int)^n)]
 exact Int.mul_le_mul_of_nonneg_right hm (by omega)
theorem fx_oB:Fx 970 1023 oB:=fx_pos rng_oB (by decide) iV_oB (by decide) (by decide)
theorem fx_oC:Fx 919 972 oC:=fx_pos rng_oC (by decide) iV_oC (by decide) (by decide)
theorem fx_oK:Fx 970 1023 oK:=fx_pos rng_oK (by decide) iV_oK (by decide) (by decide)
theorem Fx.dn {a a' b:Nat} {x:Int} (h:Fx a b x) (c:a'<=a):Fx a' b x:=⟨h.r,h.p,Int.dvd_trans (p2dvd c) h.d,h.b⟩
theorem hds_pat {ax ay bx by' cx cy:Int} (hax:Mz ax) (hay:Mz ay) (hbx:Mz bx) (hby:Mz by') (hcx:Mz cx) (hcy:Mz cy) {u1 v1 u2 v2 L R S D:Int} (e1:u1=fsum ax (neg cx)) (e2:v1=fsum ay (neg cy)) (e3:u2=fsum bx (neg cx)) (e4:v2=fsum by' (neg cy))
  (eL:L=fprod u1 v2) (eR:R=fprod v1 u2) (eS:S=fsum (rg L) (rg R)) (hD:Un (iV u1*iV v2-iV v1*iV u2) (2^1074*iV D)) (h:iV (fprod oB S)<=((iV D).natAbs:Int)) :
  (0<(iV ax-iV cx)*(iV by'-iV cy)-(iV ay-iV cy)*(iV bx-iV cx) ↔ 0<iV D)∧((iV ax-iV cx)*(iV by'-iV cy)-(iV ay-iV cy)*(iV bx-iV cx)<0 ↔ iV D<0):=by
 obtain ⟨F,a0,s0,s1,hX⟩:=flt_dev hax hay hbx hby hcx hcy e1 e2 e3 e4 eL eR eS
 have q:=p2 1074
 have q0:=Int.le_of_lt q
 have fS:Fx 670 1381 S:=by rw [eS,eL,eR]; exact F.s
 obtain ⟨_,_,T,hT,uT⟩:=fx_oB.prod fS (by decide) (by decide) (by decide)
 have hT':20282409603651670423947251286016*(2^1074*T)=4503599627370499*(2^1074*iV S):=by
  rw [hT,iV_oB,show (20282409603651670423947251286016:Int)=2^104 by decide,show (2:Int)^1074=2^104*2^970 by rw [<- Int.pow_add]]
  generalize (2:Int)^970=z
  generalize (2:Int)^104=y
  generalize iV S=x
  rw [Int.mul_assoc,Int.mul_assoc,Int.mul_left_comm]
 have hM:2^1074*iV (fprod oB S)<=((2^1074*iV D).natAbs:Int):=by
  rw [sc_abs q0]
  exact Int.mul_le_mul_of_nonneg_left h q0
 have lu:=F.lu
 have ru:=F.ru
 rw [<- eL] at lu
 rw [<- eR] at ru
 obtain ⟨r1,r2⟩:=hds_sign lu ru a0 s0 s1 hX hD hT' (uT.scale q0) hM
 rw [r1,r2]
 exact sc_sgn q
theorem Mz.lost {p q:Int} (hp:Mz p) (hq:Mz q):Fx 872 1226 (sL p (neg q))∧iV p-iV q=iV (fsum p (neg q))+iV (sL p (neg q))∧9007199254740992*((iV (sL p (neg q))).natAbs:Int)<=((iV (fsum p (neg q))).natAbs:Int):=by
 obtain ⟨n1,n2,n3⟩:=neg_facts hq.1 hq.2.1
 obtain ⟨f1,f2⟩:=df_fin hp hq
 have nr:=fsum_nr hp.1 n1 f2
 have e:=(sL_exact hp.1 n1 f2).2.2
 obtain ⟨s,u⟩:=hp.diff hq
 have el:iV (sL p (neg q))=iV p-iV q-iV (fsum p (neg q)):=by omega
 have k:9007199254740992*((iV (sL p (neg q))).natAbs:Int)<=((iV (fsum p (neg q))).natAbs:Int):=by
  have:=u.2
  rw [el]
  omega
 refine ⟨⟨sL_rng hp.1 n1,f2,?_,?_⟩,by omega,k⟩
 ·rw [el]
  exact Int.dvd_sub (Int.dvd_sub hp.2.2.1 hq.2.2.1) s.d
 ·have:=s.b
  omega
end Go.Proofs.YtjjihmnbdeeedaaGreatDoor
