/-
  Parts of the proof, one behind another.
-/
import Derived.Test.YtinccocmgkjalaaGreatDoorPart14
import Derived.Test.YtinccocmgkjalaaGreatDoorPart13
import Derived.Test.YtinccocmgkjalaaGreatDoorPart9
set_option linter.unusedVariables false
set_option linter.unusedSimpArgs false
namespace Go.Proofs.YtinccocmgkjalaaGreatDoor
open Go Go.RowKit Go.Proofs.YtinccocmgkjalaaGreatDoor.M
set_option maxRecDepth 100000 in
set_option maxHeartbeats 400000 in
theorem xgatherP {P:Nat->Prop} {v:Value} {s:Ls} {fo:Option Addr} {m fc:Nat} {f:Nat->Int} (w:World) (h:OutP P w v s) (hs:s.fin) (hf:∀ W,BelP P w W->Row W fo m fc f) (hff:∀ i,i < m->rng (f i)∧pok (f i)=true) (hn:s.n + m <= 700000) (hB:PB P w) :
  Calls Tryz.prog 132 #[v,.slice fo m fc] w fun e w'=>(gaX s f m=true∧∃ v',e=.returned v'∧OutP P w' v' (gaS s f m)∧BelP P w w')∨(gaX s f m=false∧e=gaveX∧BelP P w w'):=by
 have hR:=hf w (BelP.refl _ _)
 have hle:=hR.le
 have hmx:=hR.max
 have HF:Hid (∀ W,BelP P w W->Row W fo m fc f):=hf
 have HFF:Hid (∀ i,i < m->rng (f i)∧pok (f i)=true):=hff
 have HFI:Hid (∀ k,k <= m->gaX s f k=true->(gaS s f k).fin):=gaS_fin hs hff
 have hL:=gaS_le s f
 obtain ⟨ao0,cap0,rfl⟩:=h.shape
 clear hf hff hR hs
 go_enter Tryz.func132,Tryz.ntmps132
 go_wp2_with fail
 go_loopw [0,9] (fun hv iv wr=>∃ (k:Nat) (v0:Value),k <= m∧iv=.int .i64 k∧hv=v0∧Hid (gaX s f k=true)∧Hid (OutP P wr v0 (gaS s f k))∧Hid (BelP P w wr)) (fun _ iv _=>m - (intOf iv).toNat)
 case atStart=>exact ⟨0,_,Nat.zero_le _,rfl,rfl,rfl,h,BelP.refl _ _⟩
 case round=>
  obtain ⟨k,hv,hk,rfl,hve,HX,HL,HBW⟩:=hrel
  replace hve:=hve.symm
  subst hve
  clear h
  have hLk:=hL k
  by_cases hlt:k < m
  ·obtain ⟨b,off,rfl,hbb,hc⟩:=(HF.out _ HBW.out).spot (by omega)
   have c0:=hc k hlt
   clear hc
   obtain ⟨d1,d2⟩:=HFF.out k hlt
   have hwr:PB P wr:=PB.le hB HBW.out.size
   have CG:Hid (∀ W,W=wr->Calls Tryz.prog 171 #[hv,.int .i64 (f k)] W fun e w'=>(gaX s f (k + 1)=true∧∃ v',e=.returned v'∧OutP P w' v' (gaS s f (k + 1))∧BelP P W w')∨(gaX s f m=false∧e=gaveX∧BelP P W w')):=fun W hW=>by
    subst hW
    rw [gaS_succ,gaX_succ]
    refine (xgrowP W HL.out (HFI.out k hk HX.out) d1 d2 (by omega) hwr).mono ?_
    rintro e w' (⟨h1,v',h2,h3,h4⟩ | ⟨h1,h2,h3⟩)
    ·exact .inl ⟨by rw [HX.out,h1]; rfl,v',h2,h3,h4⟩
    ·refine .inr ⟨?_,h2,h3⟩
     cases hx:gaX s f m
     ·rfl
     ·have:=gaX_mono (show k + 1 <= m by omega) hx
      rw [gaX_succ,h1,Bool.and_false] at this
      cases this
   generalize f k=fk at *
   have i0:(0:Int) <= (k:Int):=by omega
   have i1:(k:Int) < (m:Int):=by omega
   go_wp2_with fail
   refine (CG.out _ rfl).mono ?_
   rintro _ w1 (⟨h1,v',rfl,h3,h4⟩ | ⟨h1,rfl,h3⟩)
   ·go_wp2
    go_roundw
    case rel=>exact ⟨k + 1,_,by omega,by go_num,rfl,h1,h3,HBW.out.trans h4⟩
    case measure=>simp [intOf]; omega
   ·unfold gaveX
    go_wp2
    exact ⟨rfl,.inr ⟨h1,rfl,HBW.out.trans h3⟩⟩
  ·obtain rfl:k=m:=by omega
   go_wp2
   go_ret
   exact .inl ⟨HX.out,_,rfl,HL.out,HBW.out⟩
set_option maxRecDepth 100000 in
set_option maxHeartbeats 1000000 in
theorem xscaleP {P:Nat->Prop} {v:Value} {s:Ls} {eo:Option Addr} {N ec:Nat} {d:Nat->Int} {b:Int} (w:World) (h:OutP P w v s) (hE:∀ W,BelP P w W->Row W eo (N + 1) ec d) (hd:∀ i,i <= N->rng (d i)∧pok (d i)=true) (hb:rng b) (pb:pok b=true) (h0:¬ rg b=0) (hn:s.n + 2 * N <= 700000) (hB:PB P w) (H:∀ W,BelP P w W->Hold4 W) :
  Calls Tryz.prog 131 #[v,.slice eo (N + 1) ec,.int .i64 b] w fun e w'=>(sx d b N=true∧∃ v',e=.returned v'∧OutP P w' v' (scl s d b N)∧BelP P w w')∨(sx d b N=false∧e=gaveX∧BelP P w w'):=by
 have hz:=fun W=>xnought hb W
 rw [decide_eq_false h0] at hz
 have hR:=hE w (BelP.refl _ _)
 have hle:=hR.le
 have hmx:=hR.max
 obtain ⟨bb,off,rfl,hbb,hc⟩:=hR.spot (by omega)
 have c0:=hc 0 (by omega)
 rw [Nat.add_zero] at c0
 have HE:Hid (∀ W,BelP P w W->Row W (some ⟨bb,off,none⟩) (N + 1) ec d):=hE
 have HH:Hid (∀ W,BelP P w W->Hold4 W):=H
 have HD:Hid (∀ i,i <= N->rng (d i)∧pok (d i)=true):=hd
 have HSQ:Hid (∀ k,k <= N->sx d b k=true->rng (sq d b k)∧pok (sq d b k)=true):=sq_fin hd hb
 have HSL:=ss_le s d b
 have HB:Hid (rng b∧pok b=true):=⟨hb,pb⟩
 have CP:Hid (∀ W,Hold4 W->Calls Tryz.prog 89 #[.int .i64 (d 0),.int .i64 b] W fun e w'=>e=.returned (.tuple #[.int .i64 (sq d b 0),.int .i64 (prL (d 0) b),.bool (sx d b 0)])∧Below W.heap.size W w'):=fun W hW=>xtwoProd (hd 0 (by omega)).1 hb (hd 0 (by omega)).2 pb W hW
 have HS0:Hid (ss s d b 0=s.add (prL (d 0) b)):=rfl
 have rl0:rng (prL (d 0) b):=prL_rng (hd 0 (by omega)).1 hb
 have HNO:Hid (sx d b 0=false->sx d b N=false):=fun hno=>by
  cases hx:sx d b N
  ·rfl
  ·have:=sx_mono (Nat.zero_le N) hx
   rw [hno] at this
   cases this
 clear hE H hd hc hR hb pb
 have hN1:((N:Int) + 1 == 0)=false:=by simp; omega
 obtain ⟨ao0,cap0,rfl⟩:=h.shape
 cases hx0:sx d b 0
 ·rw [hx0] at CP
  generalize sq d b 0=q0 at *
  generalize prL (d 0) b=l0 at *
  generalize d 0=d0 at *
  go_enter Tryz.func131,Tryz.ntmps131
  go_wp2_with (go_at_call 167; refine (hz _).mono ?_; rintro _ wz ⟨rfl,hw⟩; replace hw:=hw.symm; subst hw)
  refine (CP.out _ (HH.out _ (BelP.refl _ _))).mono ?_
  rintro _ w1 ⟨rfl,hb1⟩
  have hB1:BelP P w w1:=BelP.of hb1 hB
  go_wp2_with fail
  refine (xsure_no _ _ _).mono ?_
  rintro _ wz ⟨rfl,hw⟩
  replace hw:=hw.symm
  subst hw
  unfold gaveX
  go_wp2
  exact ⟨rfl,.inr ⟨HNO.out hx0,rfl,hB1⟩⟩
 ·rw [hx0] at CP
  have CA:Hid (∀ W,BelP P w W->OutP P W (.slice ao0 s.n cap0) s->Calls Tryz.prog 169 #[.slice ao0 s.n cap0,.int .i64 (prL (d 0) b)] W fun e w'=>∃ v',e=.returned v'∧OutP P w' v' (ss s d b 0)∧BelP P W w'):=fun W hW hL=>by
   rw [HS0.out]
   exact xaddP W hL rl0 (by omega) (PB.le hB hW.size)
  have HK:Hid (∀ W,Below w.heap.size w W->OutP P W (.slice ao0 s.n cap0) s):=fun W hW=>h.stays hW
  clear h
  obtain ⟨q0,hq0⟩:∃ q0,sq d b 0=q0:=⟨_,rfl⟩
  obtain ⟨l0,hl0⟩:∃ l0,prL (d 0) b=l0:=⟨_,rfl⟩
  rw [hq0,hl0] at CP
  rw [hl0] at CA
  have HQ0:Hid (sq d b 0=q0):=hq0
  clear hq0 hl0 rl0 HS0 HNO
  generalize hd0:d 0=d0 at c0 CP
  clear hd0
  go_enter Tryz.func131,Tryz.ntmps131
  go_wp2_with (go_at_call 167; refine (hz _).mono ?_; rintro _ wz ⟨rfl,hw⟩; replace hw:=hw.symm; subst hw)
  refine (CP.out _ (HH.out _ (BelP.refl _ _))).mono ?_
  rintro _ w1 ⟨rfl,hb1⟩
  have hB1:BelP P w w1:=BelP.of hb1 hB
  go_wp2_with fail
  refine (xsure_yes _ _ _).mono ?_
  rintro _ wz ⟨rfl,hw⟩
  replace hw:=hw.symm
  subst hw
  go_wp2_with fail
  refine (CA.out _ hB1 (HK.out _ hb1)).mono ?_
  rintro _ w2 ⟨v2,rfl,hL2,hb2⟩
  have hB2:=hB1.trans hb2
  clear CP CA HK hz
  go_wp2_with fail
  ·have hN0:N=0:=by omega
   go_loopw [0,7,39] (fun hv qv iv wr=>∃ (k:Nat) (v0:Value),k <= N∧iv=.int .i64 k∧hv=v0∧qv=.int .i64 (sq d b k)∧Hid (sx d b k=true)∧Hid (OutP P wr v0 (ss s d b k))∧Hid (BelP P w wr)) (fun _ _ iv _=>N - (intOf iv).toNat)
   case atStart=>exact ⟨0,_,Nat.zero_le _,rfl,rfl,by rw [HQ0.out],hx0,hL2,hB2⟩
   case round=>
    obtain ⟨k,hv,hk,rfl,hve,rfl,HX,HL,HBW⟩:=hrel
    replace hve:=hve.symm
    subst hve
    clear hL2 hB2 HQ0
    have hLk:=HSL k
    obtain rfl:k=N:=by omega
    obtain ⟨r1,r2⟩:=HSQ.out k hk HX.out
    have hwr:PB P wr:=PB.le hB HBW.out.size
    have CA:Hid (∀ W,W=wr->Calls Tryz.prog 169 #[hv,.int .i64 (sq d b k)] W fun e w'=>∃ v',e=.returned v'∧OutP P w' v' (scl s d b k)∧BelP P W w'):=fun W hW=>by
     subst hW
     exact xaddP W HL.out r1 (by omega) hwr
    clear r1 r2
    generalize sq d b k=qk at *
    go_wp2_with fail
    refine (CA.out _ rfl).mono ?_
    rintro _ w3 ⟨v3,rfl,hL3,hb3⟩
    go_wp2
    go_ret
    exact .inl ⟨HX.out,v3,rfl,hL3,HBW.out.trans hb3⟩
  ·go_loopw [0,7,39] (fun hv qv iv wr=>∃ (k:Nat) (v0:Value),k <= N∧iv=.int .i64 k∧hv=v0∧qv=.int .i64 (sq d b k)∧Hid (sx d b k=true)∧Hid (OutP P wr v0 (ss s d b k))∧Hid (BelP P w wr)) (fun _ _ iv _=>N - (intOf iv).toNat)
   case atStart=>exact ⟨0,_,Nat.zero_le _,rfl,rfl,by rw [HQ0.out],hx0,hL2,hB2⟩
   case round=>
    obtain ⟨k,hv,hk,rfl,hve,rfl,HX,HL,HBW⟩:=hrel
    replace hve:=hve.symm
    subst hve
    clear hL2 hB2 HQ0
    have hLk:=HSL k
    by_cases hlt:k < N
    ·obtain ⟨bb',off',e1,hbb',hc⟩:=(HE.out _ HBW.out).spot (by omega)
     simp only [Option.some.injEq,Addr.mk.injEq,and_true] at e1
     obtain ⟨rfl,rfl⟩:=e1
     have c1:=hc (k + 1) (by omega)
     rw [show off + (k + 1)=off + 1 + k by omega] at c1
     clear hc
     obtain ⟨d1,d2⟩:=HD.out (k + 1) (by omega)
     obtain ⟨r1,r2⟩:=HSQ.out k hk HX.out
     obtain ⟨b1,b2⟩:=HB.out
     have hwr:PB P wr:=PB.le hB HBW.out.size
     have C1:Hid (∀ W,Hold4 W->Calls Tryz.prog 89 #[.int .i64 (d (k + 1)),.int .i64 b] W fun e w'=>e=.returned (.tuple #[.int .i64 (fprod (d (k + 1)) b),.int .i64 (prL (d (k + 1)) b),.bool (pX (d (k + 1)) b)])∧Below W.heap.size W w'):=fun W hW=>xtwoProd d1 b1 d2 b2 W hW
     have rt:rng (fprod (d (k + 1)) b):=fprod_rng d1 b1
     have ru:rng (prL (d (k + 1)) b):=prL_rng d1 b1
     have HP:Hid (pX (d (k + 1)) b=true->pok (fprod (d (k + 1)) b)=true∧pok (prL (d (k + 1)) b)=true):=pX_fin d1 b1
     have HXS:Hid (sx d b (k + 1)=(sx d b k && (pX (d (k + 1)) b && (pok (sL (sq d b k) (prL (d (k + 1)) b)) && fX (fprod (d (k + 1)) b) (fsum (sq d b k) (prL (d (k + 1)) b)))))):=sx_succ d b k
     have HQS:Hid (sq d b (k + 1)=fsum (fprod (d (k + 1)) b) (fsum (sq d b k) (prL (d (k + 1)) b))):=sq_succ d b k
     have HSS:Hid (ss s d b (k + 1)=((ss s d b k).add (sL (sq d b k) (prL (d (k + 1)) b))).add (fL (fprod (d (k + 1)) b) (fsum (sq d b k) (prL (d (k + 1)) b)))):=ss_succ s d b k
     have HNO:Hid (sx d b (k + 1)=false->sx d b N=false):=fun hno=>by
      cases hx:sx d b N
      ·rfl
      ·have:=sx_mono (show k + 1 <= N by omega) hx
       rw [hno] at this
       cases this
     generalize fprod (d (k + 1)) b=t at *
     generalize prL (d (k + 1)) b=u at *
     generalize pX (d (k + 1)) b=x1 at *
     generalize d (k + 1)=dk at *
     obtain ⟨qk,hqk⟩:∃ qk,sq d b k=qk:=⟨_,rfl⟩
     rw [hqk] at HXS HQS HSS r1 r2 ⊢
     obtain ⟨sk,hsk⟩:∃ sk,ss s d b k=sk:=⟨_,rfl⟩
     rw [hsk] at HL HSS hLk
     clear hqk hsk d1 d2 HSQ HD HSL
     have i0:(0:Int) <= (k:Int):=by omega
     have i1:(k:Int) < (N:Int):=by omega
     cases hx1:x1
     ·rw [hx1] at C1
      have hno:sx d b N=false:=HNO.out (by rw [HXS.out,hx1]; simp)
      go_wp2_with fail
      refine (C1.out _ (HH.out _ HBW.out)).mono ?_
      rintro _ w3 ⟨rfl,hb3⟩
      go_wp2_with fail
      refine (xsure_no _ _ _).mono ?_
      rintro _ wz ⟨rfl,hw⟩
      replace hw:=hw.symm
      subst hw
      unfold gaveX
      go_wp2
      exact ⟨rfl,.inr ⟨hno,rfl,HBW.out.trans (BelP.of hb3 hwr)⟩⟩
     ·rw [hx1] at C1
      obtain ⟨pt,pu⟩:=HP.out hx1
      have C2:Hid (∀ W,Calls Tryz.prog 157 #[.int .i64 qk,.int .i64 u] W fun e w'=>e=.returned (.tuple #[.int .i64 (fsum qk u),.int .i64 (sL qk u),.bool (pok (sL qk u))])∧Below W.heap.size W w'):=fun W=>xtwoSum r1 ru r2 pu W
      have rl1:rng (sL qk u):=sL_rng r1 ru
      have rq1:rng (fsum qk u):=fsum_rng r1 ru
      have HP2:Hid (pok (sL qk u)=true->pok (fsum qk u)=true):=fun hh=>(sL_exact r1 ru hh).2.1
      clear HP r1 r2 ru pu
      generalize sL qk u=l1 at *
      generalize fsum qk u=q1 at *
      cases hx2:pok l1
      ·rw [hx2] at C2
       have hno:sx d b N=false:=HNO.out (by rw [HXS.out,hx2]; simp)
       go_wp2_with fail
       refine (C1.out _ (HH.out _ HBW.out)).mono ?_
       rintro _ w3 ⟨rfl,hb3⟩
       go_wp2_with fail
       refine (xsure_yes _ _ _).mono ?_
       rintro _ wz ⟨rfl,hw⟩
       replace hw:=hw.symm
       subst hw
       go_wp2_with fail
       refine (C2.out _).mono ?_
       rintro _ w4 ⟨rfl,hb4⟩
       go_wp2_with fail
       refine (xsure_no _ _ _).mono ?_
       rintro _ wz ⟨rfl,hw⟩
       replace hw:=hw.symm
       subst hw
       unfold gaveX
       go_wp2
       exact ⟨rfl,.inr ⟨hno,rfl,HBW.out.trans (BelP.of (bel_trans hb3 hb4) hwr)⟩⟩
      ·rw [hx2] at C2
       have pq1:=HP2.out hx2
       have C3:Hid (∀ W,Calls Tryz.prog 170 #[.int .i64 t,.int .i64 q1] W fun e w'=>e=.returned (.tuple #[.int .i64 (fsum t q1),.int .i64 (fL t q1),.bool (fX t q1)])∧Below W.heap.size W w'):=fun W=>xfast rt rq1 pt pq1 W
       have rl2:rng (fL t q1):=fL_rng rt rq1
       have hA1:=(sk.add_le l1).2
       have CA1:Hid (∀ W,BelP P wr W->OutP P W hv sk->Calls Tryz.prog 169 #[hv,.int .i64 l1] W fun e w'=>∃ v',e=.returned v'∧OutP P w' v' (sk.add l1)∧BelP P W w'):=fun W hW hL=>xaddP W hL rl1 (by omega) (PB.le hwr hW.size)
       have CA2:Hid (∀ W v',BelP P wr W->OutP P W v' (sk.add l1)->Calls Tryz.prog 169 #[v',.int .i64 (fL t q1)] W fun e w'=>∃ v'',e=.returned v''∧OutP P w' v'' ((sk.add l1).add (fL t q1))∧BelP P W w'):=fun W v' hW hL=>xaddP W hL rl2 (by omega) (PB.le hwr hW.size)
       have HKP:Hid (∀ {W W' v' s'},OutP P W v' s'->Below W.heap.size W W'->OutP P W' v' s'):=fun {W W' v' s'} hL hW=>hL.stays hW
       clear HP2 rl1 rl2 rq1 rt pt pq1 b1 b2
       generalize fL t q1=l2 at *
       generalize fsum t q1=q2 at *
       cases hx3:fX t q1
       ·rw [hx3] at C3
        have hno:sx d b N=false:=HNO.out (by rw [HXS.out,hx3]; simp)
        go_wp2_with fail
        refine (C1.out _ (HH.out _ HBW.out)).mono ?_
        rintro _ w3 ⟨rfl,hb3⟩
        go_wp2_with fail
        refine (xsure_yes _ _ _).mono ?_
        rintro _ wz ⟨rfl,hw⟩
        replace hw:=hw.symm
        subst hw
        go_wp2_with fail
        refine (C2.out _).mono ?_
        rintro _ w4 ⟨rfl,hb4⟩
        go_wp2_with fail
        refine (xsure_yes _ _ _).mono ?_
        rintro _ wz ⟨rfl,hw⟩
        replace hw:=hw.symm
        subst hw
        have hb34:=bel_trans hb3 hb4
        go_wp2_with fail
        refine (CA1.out _ (BelP.of hb34 hwr) (HKP.out HL.out hb34)).mono ?_
        rintro _ w5 ⟨v5,rfl,hL5,hb5⟩
        go_wp2_with fail
        refine (C3.out _).mono ?_
        rintro _ w6 ⟨rfl,hb6⟩
        go_wp2_with fail
        refine (xsure_no _ _ _).mono ?_
        rintro _ wz ⟨rfl,hw⟩
        replace hw:=hw.symm
        subst hw
        have hb56:=((BelP.of hb34 hwr).trans hb5).trans (BelP.of hb6 (PB.le hwr ((BelP.of hb34 hwr).trans hb5).size))
        unfold gaveX
        go_wp2
        exact ⟨rfl,.inr ⟨hno,rfl,HBW.out.trans hb56⟩⟩
       ·rw [hx3] at C3
        have hyes:sx d b (k + 1)=true:=by rw [HXS.out,HX.out,hx1,hx2,hx3]; rfl
        go_wp2_with fail
        refine (C1.out _ (HH.out _ HBW.out)).mono ?_
        rintro _ w3 ⟨rfl,hb3⟩
        go_wp2_with fail
        refine (xsure_yes _ _ _).mono ?_
        rintro _ wz ⟨rfl,hw⟩
        replace hw:=hw.symm
        subst hw
        go_wp2_with fail
        refine (C2.out _).mono ?_
        rintro _ w4 ⟨rfl,hb4⟩
        go_wp2_with fail
        refine (xsure_yes _ _ _).mono ?_
        rintro _ wz ⟨rfl,hw⟩
        replace hw:=hw.symm
        subst hw
        have hb34:=bel_trans hb3 hb4
        go_wp2_with fail
        refine (CA1.out _ (BelP.of hb34 hwr) (HKP.out HL.out hb34)).mono ?_
        rintro _ w5 ⟨v5,rfl,hL5,hb5⟩
        go_wp2_with fail
        refine (C3.out _).mono ?_
        rintro _ w6 ⟨rfl,hb6⟩
        go_wp2_with fail
        refine (xsure_yes _ _ _).mono ?_
        rintro _ wz ⟨rfl,hw⟩
        replace hw:=hw.symm
        subst hw
        have hb56:=((BelP.of hb34 hwr).trans hb5).trans (BelP.of hb6 (PB.le hwr ((BelP.of hb34 hwr).trans hb5).size))
        go_wp2_with fail
        refine (CA2.out _ _ hb56 (HKP.out hL5 hb6)).mono ?_
        rintro _ w7 ⟨v7,rfl,hL7,hb7⟩
        go_wp2
        go_roundw
        case rel=>exact ⟨k + 1,_,by omega,by go_num,rfl,by rw [HQS.out],hyes,by show OutP _ _ _ _; rw [HSS.out]; exact hL7,HBW.out.trans (hb56.trans hb7)⟩
        case measure=>simp [intOf]; omega
    ·obtain rfl:k=N:=by omega
     obtain ⟨r1,r2⟩:=HSQ.out k hk HX.out
     have hwr:PB P wr:=PB.le hB HBW.out.size
     have CA:Hid (∀ W,W=wr->Calls Tryz.prog 169 #[hv,.int .i64 (sq d b k)] W fun e w'=>∃ v',e=.returned v'∧OutP P w' v' (scl s d b k)∧BelP P W w'):=fun W hW=>by
      subst hW
      exact xaddP W HL.out r1 (by omega) hwr
     clear r1 r2
     generalize sq d b k=qk at *
     go_wp2_with fail
     refine (CA.out _ rfl).mono ?_
     rintro _ w3 ⟨v3,rfl,hL3,hb3⟩
     go_wp2
     go_ret
     exact .inl ⟨HX.out,v3,rfl,hL3,HBW.out.trans hb3⟩
theorem xscaleP_any {P:Nat->Prop} {v:Value} {d0:Nat->Int} {eo:Option Addr} {n ec:Nat} {d:Nat->Int} {b:Int} (w:World) (h:OutP P w v ⟨0,d0⟩) (hE:∀ W,BelP P w W->Row W eo n ec d) (hd:∀ i,i < n->rng (d i)∧pok (d i)=true) (hb:rng b) (pb:pok b=true) (hn:n <= 300000) (hP:PB P w) (H:∀ W,BelP P w W->Hold4 W) :
  Calls Tryz.prog 131 #[v,.slice eo n ec,.int .i64 b] w fun e w'=>(sxN d b n=true∧∃ (v':Value) (s:Ls),e=.returned v'∧OutP P w' v' s∧s.same (sclN d b n)∧BelP P w w')∨(sxN d b n=false∧e=gaveX∧BelP P w w'):=by
 have hmx:=(hE w (BelP.refl _ _)).max
 have hle:=(hE w (BelP.refl _ _)).le
 cases n with
 | zero=>
  refine (xscale_empty w).mono ?_
  rintro e w' ⟨rfl,hw⟩
  subst hw
  exact .inl ⟨rfl,v,_,rfl,h,⟨rfl,fun i hi=>absurd hi (Nat.not_lt_zero _)⟩,BelP.refl _ _⟩
 | succ n=>
  by_cases h0:rg b=0
  ·have e1:sxN d b (n + 1)=true:=if_pos h0
   have e2:sclN d b (n + 1)=⟨0,fun _=>0⟩:=if_pos h0
   rw [e1,e2]
   refine (xscale_nought w hb h0 (by omega)).mono ?_
   rintro e w' ⟨rfl,hw⟩
   subst hw
   exact .inl ⟨rfl,v,_,rfl,h,⟨rfl,fun i hi=>absurd hi (Nat.not_lt_zero _)⟩,BelP.refl _ _⟩
  ·have e1:sxN d b (n + 1)=sx d b n:=if_neg h0
   have e2:sclN d b (n + 1)=scl ⟨0,fun _=>0⟩ d b n:=if_neg h0
   rw [e1,e2]
   refine (xscaleP w h hE (fun i hi=>hd i (by omega)) hb pb h0 (show 0 + 2 * n <= 700000 by omega) hP H).mono ?_
   rintro e w' (⟨h1,v',h2,h3,h4⟩ | ⟨h1,h2,h3⟩)
   ·refine .inl ⟨h1,v',_,h2,h3,?_,h4⟩
    exact (ss_same (s:=⟨0,d0⟩) (t:=⟨0,fun _=>0⟩) ⟨rfl,fun i hi=>absurd hi (Nat.not_lt_zero _)⟩ d b n).add _
   ·exact .inr ⟨h1,h2,h3⟩
def prS (d:Nat->Int) (n:Nat) (f:Nat->Int):Nat->Ls
 | 0=>⟨0,fun _=>0⟩
 | k + 1=>gaS (prS d n f k) (sclN d (f k) n).d (sclN d (f k) n).n
def prX (d:Nat->Int) (n:Nat) (f:Nat->Int):Nat->Bool
 | 0=>true
 | k + 1=>prX d n f k && (sxN d (f k) n && gaX (prS d n f k) (sclN d (f k) n).d (sclN d (f k) n).n)
theorem prS_succ (d:Nat->Int) (n:Nat) (f:Nat->Int) (k:Nat):prS d n f (k + 1)=gaS (prS d n f k) (sclN d (f k) n).d (sclN d (f k) n).n:=rfl
theorem prX_succ (d:Nat->Int) (n:Nat) (f:Nat->Int) (k:Nat):prX d n f (k + 1)=(prX d n f k && (sxN d (f k) n && gaX (prS d n f k) (sclN d (f k) n).d (sclN d (f k) n).n)):=rfl
theorem prS_le (d:Nat->Int) (n:Nat) (f:Nat->Int):∀ k,(prS d n f k).n <= 2 * n * k
 | 0=>Nat.zero_le _
 | k + 1=>by
  have h1:=prS_le d n f k
  have h2:=gaS_le (prS d n f k) (sclN d (f k) n).d (sclN d (f k) n).n
  have h3:=sclN_le d (f k) n
  rw [prS_succ,Nat.mul_add]
  omega
theorem prX_mono {d:Nat->Int} {n:Nat} {f:Nat->Int}:∀ {k j},j <= k->prX d n f k=true->prX d n f j=true
 | 0,j,h,hx=>by
  obtain rfl:j=0:=by omega
  rfl
 | k + 1,j,h,hx=>by
  by_cases e:j=k + 1
  ·subst e; exact hx
  ·rw [prX_succ,Bool.and_eq_true] at hx
   exact prX_mono (by omega) hx.1
theorem ss_fin {s:Ls} {d:Nat->Int} {b:Int} {n:Nat} (hs:s.fin) (hd:∀ i,i <= n->rng (d i)∧pok (d i)=true) (hb:rng b):∀ k,k <= n->sx d b k=true->(ss s d b k).fin
 | 0,_,hx=>hs.add (prL_rng (hd 0 (by omega)).1 hb) (pX_fin (hd 0 (by omega)).1 hb hx).2
 | k + 1,hk,hx=>by
  rw [sx_succ,Bool.and_eq_true,Bool.and_eq_true,Bool.and_eq_true] at hx
  obtain ⟨h1,h2,h3,h4⟩:=hx
  obtain ⟨r1,r2⟩:=sq_fin hd hb k (by omega) h1
  obtain ⟨d1,d2⟩:=hd (k + 1) hk
  rw [ss_succ]
  exact ((ss_fin hs hd hb k (by omega) h1).add (sL_rng r1 (prL_rng d1 hb)) h3).add (fL_rng (fprod_rng d1 hb) (fsum_rng r1 (prL_rng d1 hb))) (fX_fin (fprod_rng d1 hb) (fsum_rng r1 (prL_rng d1 hb)) h4).2
theorem sclN_fin {d:Nat->Int} {b:Int} {n:Nat} (hd:∀ i,i < n->rng (d i)∧pok (d i)=true) (hb:rng b) (hx:sxN d b n=true):(sclN d b n).fin:=by
 cases n with
 | zero=>exact fun i hi=>absurd hi (Nat.not_lt_zero _)
 | succ n=>
  by_cases h0:rg b=0
  ·have e2:sclN d b (n + 1)=⟨0,fun _=>0⟩:=if_pos h0
   rw [e2]
   exact fun i hi=>absurd hi (Nat.not_lt_zero _)
  ·have e1:sxN d b (n + 1)=sx d b n:=if_neg h0
   have e2:sclN d b (n + 1)=scl ⟨0,fun _=>0⟩ d b n:=if_neg h0
   rw [e1] at hx
   rw [e2]
   have hd':∀ i,i <= n->rng (d i)∧pok (d i)=true:=fun i hi=>hd i (by omega)
   obtain ⟨r1,r2⟩:=sq_fin hd' hb n (Nat.le_refl _) hx
   exact (ss_fin (fun i hi=>absurd hi (Nat.not_lt_zero _)) hd' hb n (Nat.le_refl _) hx).add r1 r2
theorem prS_fin {d:Nat->Int} {n:Nat} {f:Nat->Int} {m:Nat} (hd:∀ i,i < n->rng (d i)∧pok (d i)=true) (hf:∀ i,i < m->rng (f i)∧pok (f i)=true):∀ k,k <= m->prX d n f k=true->(prS d n f k).fin
 | 0,_,_=>fun i hi=>absurd hi (Nat.not_lt_zero _)
 | k + 1,hk,hx=>by
  rw [prX_succ,Bool.and_eq_true,Bool.and_eq_true] at hx
  obtain ⟨h1,h2,h3⟩:=hx
  rw [prS_succ]
  exact gaS_fin (prS_fin hd hf k (by omega) h1) (sclN_fin hd (hf k (by omega)).1 h2) _ (Nat.le_refl _) h3
theorem Ls.same.fin {s t:Ls} (h:s.same t) (ht:t.fin):s.fin:=fun i hi=>by
 rw [h.2 i hi]
 exact ht i (by rw [<- h.1]; exact hi)
theorem BelP.below {P:Nat->Prop} {N:Nat} {w w':World} (h:BelP P w w') (hP:∀ k,k < N->P k):Below N w w':=⟨h.os,h.tape,h.output,h.size,fun k hk=>h.block k (hP k hk)⟩
theorem Out.belP {P:Nat->Prop} {N:Nat} {w w':World} {v:Value} {n:Nat} {d:Nat->Int} (h:Out N w v n d) (hb:BelP P w w') (hP:∀ g,v.ownBlock=some g->P g):Out N w' v n d:=h.of_block fun g hg=>hb.block g (hP g hg)
theorem OutP.raise {P:Nat->Prop} {N:Nat} {w:World} {v:Value} {s:Ls} (h:OutP P w v s) (hP:∀ k,k < N->P k):Out N w v s.n s.d:=by
 have h1:=h.1
 rcases h1.2 with q | ⟨g,cap,cur,q1,_,q3⟩
 ·exact ⟨h1.1,.inl q⟩
 ·refine ⟨h1.1,.inr ⟨g,cap,cur,q1,?_,q3⟩⟩
  have h2:=h.2 g (by rw [q1]; rfl)
  exact Nat.le_of_not_lt fun e=>h2 (hP g e)
set_option maxRecDepth 100000 in
set_option maxHeartbeats 2000000 in
theorem xproduct_any {eo fo:Option Addr} {n ec m fc:Nat} {d f:Nat->Int} (w:World) (h:Row w eo n ec d) (hf:Row w fo m fc f) (hd:∀ i,i < n->rng (d i)∧pok (d i)=true) (hff:∀ i,i < m->rng (f i)∧pok (f i)=true) (hn:n <= 200) (hm:m <= 200) (H:Hold4 w) :
  Calls Tryz.prog 93 #[.slice eo n ec,.slice fo m fc] w fun r w'=>XR w (prX d n f m) (prS d n f m) r w':=by
 have hle:=hf.le
 have hmx:=hf.max
 have HE:Hid (Row w eo n ec d):=h
 have HF:Hid (Row w fo m fc f):=hf
 have HD:Hid (∀ i,i < n->rng (d i)∧pok (d i)=true):=hd
 have HFF:Hid (∀ i,i < m->rng (f i)∧pok (f i)=true):=hff
 have HH:Hid (Hold4 w):=H
 have HSF:Hid (∀ k,k <= m->prX d n f k=true->(prS d n f k).fin):=prS_fin hd hff
 have HSL:Hid (∀ k,k <= m->(prS d n f k).n <= 80000):=fun k hk=>Nat.le_trans (prS_le d n f k) (by
  have:2 * n * k <= 2 * 200 * 200:=Nat.mul_le_mul (by omega) (by omega)
  omega)
 clear h hf hd hff H
 go_enter Tryz.func93,Tryz.ntmps93
 go_wp2_with fail
 go_loopw [5,6,11] (fun hv pv iv wr=>∃ (k:Nat) (vh vp:Value) (sh sp:Ls),k <= m∧iv=.int .i64 k∧hv=vh∧pv=vp∧Hid (prX d n f k=true)∧Hid (sh.same (prS d n f k))∧Hid (Out w.heap.size wr vh sh.n sh.d)∧Hid (Out w.heap.size wr vp sp.n sp.d)∧Hid (∀ g,vp.ownBlock=some g->vh.ownBlock ≠ some g)∧Hid (Below w.heap.size w wr)) (fun _ _ iv _=>m - (intOf iv).toNat)
 case atStart=>exact ⟨0,_,_,⟨0,fun _=>0⟩,⟨0,fun _=>0⟩,Nat.zero_le _,rfl,rfl,rfl,rfl,Ls.same.refl _,Out.nil _ _ _,Out.nil _ _ _,fun g hg=>(by cases hg),Below.refl _ _⟩
 case round=>
  obtain ⟨k,vh,vp,sh,sp,hk,rfl,hve,hvp,HX,HS,HOH,HOP,HAP,HBW⟩:=hrel
  replace hve:=hve.symm
  subst hve
  replace hvp:=hvp.symm
  subst hvp
  by_cases hlt:k < m
  ·obtain ⟨bb,off,rfl,hbb,hc⟩:=(HF.out.keeps HBW.out).spot (by omega)
   have c0:=hc k hlt
   clear hc
   obtain ⟨f1,f2⟩:=HFF.out k hlt
   obtain ⟨po,pc,rfl,hpr⟩:=HOP.out.row
   obtain ⟨ho,hcap,rfl,hhr⟩:=HOH.out.row
   have hpm:=hpr.max
   have hpl:=hpr.le
   clear hpr hhr
   have hsz:=HBW.out.size
   have hfin:=HS.out.fin (HSF.out k hk HX.out)
   have hn1:sh.n <= 80000:=by rw [HS.out.1]; exact HSL.out k hk
   have HPB:Hid (PB (fun j=>j < w.heap.size∨(Value.slice ho sh.n hcap).ownBlock=some j) wr):=fun j hj=>by
    rcases hj with hj | hj
    ·omega
    ·exact (HOH.out.ge hj).2
   have CS:Hid (∀ W,W=wr->Calls Tryz.prog 131 #[.slice po 0 pc,.slice eo n ec,.int .i64 (f k)] W fun e w'=>(sxN d (f k) n=true∧∃ (v':Value) (s:Ls),e=.returned v'∧OutP (fun j=>j < w.heap.size∨(Value.slice ho sh.n hcap).ownBlock=some j) w' v' s∧s.same (sclN d (f k) n)∧BelP (fun j=>j < w.heap.size∨(Value.slice ho sh.n hcap).ownBlock=some j) W w')∨(sxN d (f k) n=false∧e=gaveX∧BelP (fun j=>j < w.heap.size∨(Value.slice ho sh.n hcap).ownBlock=some j) W w')):=fun W hW=>by
    subst hW
    refine xscaleP_any (d0:=sp.d) W ⟨(HOP.out.cut (Nat.zero_le _)).lower (Nat.zero_le _),fun j hj=>?_⟩ (fun W' hW'=>HE.out.keeps (HBW.out.trans (hW'.below fun j hj=>.inl hj))) HD.out f1 f2 (by omega) HPB.out (fun W' hW'=>HH.out.keeps (HBW.out.trans (hW'.below fun j hj=>.inl hj)))
    have hj':(Value.slice po sp.n pc).ownBlock=some j:=by cases po <;> exact hj
    rintro (h | h)
    ·have:=(HOP.out.ge hj').1
     omega
    ·exact HAP.out j hj' h
   have HXS:Hid (prX d n f (k + 1)=(prX d n f k && (sxN d (f k) n && gaX (prS d n f k) (sclN d (f k) n).d (sclN d (f k) n).n))):=prX_succ d n f k
   have HSS:Hid (prS d n f (k + 1)=gaS (prS d n f k) (sclN d (f k) n).d (sclN d (f k) n).n):=prS_succ d n f k
   have HNO:Hid (prX d n f (k + 1)=false->prX d n f m=false):=fun hno=>by
    cases hx:prX d n f m
    ·rfl
    ·rw [prX_mono (show k + 1 <= m by omega) hx] at hno; cases hno
   have hn2:=sclN_le d (f k) n
   have HCF:Hid (sxN d (f k) n=true->(sclN d (f k) n).fin):=sclN_fin HD.out f1
   generalize sclN d (f k) n=SC at *
   generalize sxN d (f k) n=SX at *
   generalize f k=fk at *
   have i0:(0:Int) <= (k:Int):=by omega
   have i1:(k:Int) < (m:Int):=by omega
   go_wp2_with fail
   refine (CS.out _ rfl).mono ?_
   rintro _ w1 (⟨h1,v1,s1,rfl,hO1,hS1,hb1⟩ | ⟨h1,rfl,hb1⟩)
   ·obtain ⟨qo,qc,rfl⟩:=hO1.shape
    have hO1N:Out w.heap.size w1 (.slice qo s1.n qc) s1.n s1.d:=hO1.raise fun j hj=>.inl hj
    have hH1:Out w.heap.size w1 (.slice ho sh.n hcap) sh.n sh.d:=HOH.out.belP hb1 fun g hg=>.inr hg
    have hB1:Below w.heap.size w w1:=HBW.out.trans (hb1.below fun j hj=>.inl hj)
    have hap1:∀ g,(Value.slice qo s1.n qc).ownBlock=some g->(Value.slice ho sh.n hcap).ownBlock ≠ some g:=fun g hg e=>hO1.2 g hg (.inr e)
    have hs1f:s1.fin:=hS1.fin (HCF.out h1)
    have hs1n:=hS1.1
    have HGS:Hid ((gaS sh s1.d s1.n).same (gaS (prS d n f k) SC.d SC.n)∧gaX sh s1.d s1.n=gaX (prS d n f k) SC.d SC.n):=by
     have:=gaS_same HS.out (m:=s1.n) (f:=s1.d) (g:=SC.d) hS1.2 s1.n (Nat.le_refl _)
     show _∧_
     rw [<- hS1.1]
     exact this
    have CG:Calls Tryz.prog 132 #[.slice ho sh.n hcap,.slice qo s1.n qc] w1 fun e w'=>(gaX sh s1.d s1.n=true∧∃ v',e=.returned v'∧OutP (fun j=>j < w.heap.size∨(Value.slice qo s1.n qc).ownBlock=some j) w' v' (gaS sh s1.d s1.n)∧BelP (fun j=>j < w.heap.size∨(Value.slice qo s1.n qc).ownBlock=some j) w1 w')∨(gaX sh s1.d s1.n=false∧e=gaveX∧BelP (fun j=>j < w.heap.size∨(Value.slice qo s1.n qc).ownBlock=some j) w1 w'):=by
     refine xgatherP w1 ⟨hH1.lower (Nat.zero_le _),fun j hj=>?_⟩ hfin (fun W hW=>?_) hs1f (by omega) (fun j hj=>?_)
     ·rintro (h | h)
      ·have:=(hH1.ge hj).1
       omega
      ·exact hap1 j h hj
     ·obtain ⟨_,_,e1,hR⟩:=(hO1N.belP hW fun g hg=>.inr hg).row
      simp only [Value.slice.injEq] at e1
      obtain ⟨rfl,_,rfl⟩:=e1
      exact hR
     ·rcases hj with hj | hj
      ·have:=hB1.size
       omega
      ·exact (hO1N.ge hj).2
    have HO1:Hid (Out w.heap.size w1 (.slice qo s1.n qc) s1.n s1.d):=hO1N
    have HB1:Hid (Below w.heap.size w w1):=hB1
    have H1:Hid (SX=true):=h1
    clear hO1 hO1N hH1 hap1 hb1 hS1 hs1n hs1f h1 hfin CS
    generalize gaX sh s1.d s1.n=GX at *
    generalize gaS sh s1.d s1.n=GS at *
    go_wp2_with fail
    refine CG.mono ?_
    rintro _ w2 (⟨h2,v2,rfl,hO2,hb2⟩ | ⟨h2,rfl,hb2⟩)
    ·obtain ⟨_,_,rfl⟩:=hO2.shape
     go_wp2
     go_roundw
     case rel=>exact ⟨k + 1,_,_,GS,s1,by omega,by go_num,rfl,rfl,by show _=_; rw [HXS.out,HX.out,H1.out,<- HGS.out.2,h2]; rfl,by show Ls.same _ _; rw [HSS.out]; exact HGS.out.1,hO2.raise fun j hj=>.inl hj,HO1.out.belP hb2 fun g hg=>.inr hg,fun g hg e=>hO2.2 g e (.inr hg),HB1.out.trans (hb2.below fun j hj=>.inl hj)⟩
     case measure=>simp [intOf]; omega
    ·unfold gaveX
     go_wp2
     exact ⟨rfl,.inr ⟨HNO.out (by rw [HXS.out,H1.out,<- HGS.out.2,h2]; simp),rfl⟩,HB1.out.trans (hb2.below fun j hj=>.inl hj)⟩
   ·unfold gaveX
    go_wp2
    exact ⟨rfl,.inr ⟨HNO.out (by rw [HXS.out,h1,Bool.false_and,Bool.and_false]),rfl⟩,HBW.out.trans (hb1.below fun j hj=>.inl hj)⟩
  ·obtain rfl:k=m:=by omega
   obtain ⟨ho,hcap,rfl,hhr⟩:=HOH.out.row
   clear hhr
   go_wp2
   go_ret
   refine ⟨.inl ⟨HX.out,_,rfl,.inl ?_⟩,HBW.out⟩
   have:=HOH.out.congr HS.out.2
   rw [HS.out.1] at this ⊢
   exact this
end Go.Proofs.YtinccocmgkjalaaGreatDoor
namespace Go.Proofs.YtinccocmgkjalaaGreatDoor
open Go Go.RowKit Go.Proofs.YtinccocmgkjalaaGreatDoor.M Ieee
theorem pf_1 {T a b c d M:Int} (e:T=a + b + c + d) (hM:11 * (T.natAbs:Int) <= 10 * M) (hb:33554432 * (b.natAbs:Int) <= T.natAbs) (hc:33554432 * (c.natAbs:Int) <= T.natAbs) (hd:33554432 * (d.natAbs:Int) <= T.natAbs):(a.natAbs:Int) <= M∧1000 * ((T - a).natAbs:Int) <= T.natAbs∧1000 * (a.natAbs:Int) <= 1001 * T.natAbs:=by omega
theorem pf_2 {T a H x M:Int} (hM:11 * (T.natAbs:Int) <= 10 * M) (g:1000 * ((T - a).natAbs:Int) <= T.natAbs) (g2:1000 * (a.natAbs:Int) <= 1001 * T.natAbs) (r1:1000 * (H - T).natAbs <= T.natAbs) (r2:1000 * (x - a).natAbs <= a.natAbs):((H - x).natAbs:Int) <= M∧300 * ((H - x).natAbs:Int) <= T.natAbs:=by omega
theorem pf_4 {T b x M:Int} (hM:11 * (T.natAbs:Int) <= 10 * M) (hb:33554432 * (b.natAbs:Int) <= T.natAbs) (r:1000 * (x - b).natAbs <= b.natAbs):(b.natAbs:Int) <= M∧30000 * (x.natAbs:Int) <= T.natAbs:=by omega
theorem pf_4a {T b M:Int} (hM:11 * (T.natAbs:Int) <= 10 * M) (hb:33554432 * (b.natAbs:Int) <= T.natAbs):(b.natAbs:Int) <= M:=by omega
theorem pf_5 {T t S x M:Int} (hM:11 * (T.natAbs:Int) <= 10 * M) (g:300 * (S.natAbs:Int) <= T.natAbs) (r1:1000 * (t - S).natAbs <= S.natAbs) (hx:30000 * (x.natAbs:Int) <= T.natAbs):((t - x).natAbs:Int) <= M∧290 * ((t - x).natAbs:Int) <= T.natAbs:=by omega
theorem pf_6 {T t S x M:Int} (hM:11 * (T.natAbs:Int) <= 10 * M) (g:290 * (S.natAbs:Int) <= T.natAbs) (r1:1000 * (t - S).natAbs <= S.natAbs) (hx:30000 * (x.natAbs:Int) <= T.natAbs):((t - x).natAbs:Int) <= M∧280 * ((t - x).natAbs:Int) <= T.natAbs:=by omega
theorem pf_7 {T t S x M:Int} (hM:11 * (T.natAbs:Int) <= 10 * M) (g:280 * (S.natAbs:Int) <= T.natAbs) (r1:1000 * (t - S).natAbs <= S.natAbs) (hx:30000 * (x.natAbs:Int) <= T.natAbs):((x - t).natAbs:Int) <= M:=by omega
theorem pf_sum {K T a b c d P Q R S x y:Int} (hK:0 < K) (hx:x=P + Q) (hy:y=R + S) (hT:K * T=x * y) (e1:K * a=P * R) (e2:K * b=Q * R) (e3:K * c=P * S) (e4:K * d=Q * S):T=a + b + c + d:=by
 refine Int.eq_of_mul_eq_mul_left (Int.ne_of_gt hK) ?_
 rw [hT,Int.mul_add,Int.mul_add,Int.mul_add,e1,e2,e3,e4,hx,hy,Int.add_mul,Int.mul_add,Int.mul_add]
 exact dr0 _ _ _ _
theorem pf_two {a h l:Int} (H:Hlv a h l):(h.natAbs:Int) <= 2 * (a.natAbs:Int)∧(l.natAbs:Int) <= 2 * (a.natAbs:Int):=by
 have:=hlv_small H
 have:=H.sum
 omega
theorem prod_fin {p q T:Int} (hp:M.rng p) (hq:M.rng q) (pQ:pok (spL p)=true) (pS:pok (spL q)=true) (ph:pok (fprod p q)=true) (hT:2 ^ 1074 * T=iV p * iV q) (hM:11 * (T.natAbs:Int) <= 10 * maxV):pok (prL p q)=true:=by
 obtain ⟨pp,pP,ha⟩:=spL_exact hp pQ
 obtain ⟨pq,pR,hb⟩:=spL_exact hq pS
 obtain ⟨rP,rQ⟩:=sp_rng hp
 obtain ⟨rR,rS⟩:=sp_rng hq
 have rT1:M.rng (pT1 p q):=fsum_rng (fprod_rng hp hq) (neg_rng (fprod_rng rP rR))
 have rT2:M.rng (pT2 p q):=fsum_rng rT1 (neg_rng (fprod_rng rQ rR))
 have rT3:M.rng (pT3 p q):=fsum_rng rT2 (neg_rng (fprod_rng rP rS))
 have hd:(2 ^ 1074:Int) ∣ iV p * iV q:=⟨T,hT.symm⟩
 obtain ⟨i,j,eij,di,dj⟩:=dvd_split 1074 _ _ hd
 have dP:=ha.dvd i di
 have dR:=hb.dvd j dj
 have dQ:(2 ^ i:Int) ∣ iV (spL p):=by have:=ha.sum; rw [show iV (spL p)=iV p - iV (spH p) by omega]; exact Int.dvd_sub di dP
 have dS:(2 ^ j:Int) ∣ iV (spL q):=by have:=hb.sum; rw [show iV (spL q)=iV q - iV (spH q) by omega]; exact Int.dvd_sub dj dR
 obtain ⟨Tpr,e1⟩:=dvd_prod eij dP dR
 obtain ⟨Tqr,e2⟩:=dvd_prod eij dQ dR
 obtain ⟨Tps,e3⟩:=dvd_prod eij dP dS
 obtain ⟨Tqs,e4⟩:=dvd_prod eij dQ dS
 have hK:=p2 1074
 have es:=pf_sum hK ha.sum.symm hb.sum.symm hT e1 e2 e3 e4
 have s1:=hlv_small ha
 have s2:=hlv_small hb
 have t1:=pf_two ha
 have t2:=pf_two hb
 have b2:=pr_ratio hK hT e2 (pr_m1 s1 t2.1)
 have b3:33554432 * (Tps.natAbs:Int) <= (T.natAbs:Int):=by
  refine pr_ratio hK hT e3 ?_
  rw [Int.mul_comm (iV (spH p)),Int.mul_comm (iV p)]
  exact pr_m1 s2 t1.1
 have b4:=pr_ratio hK hT e4 (pr_m1 s1 t2.2)
 have rH:=nr_rel ((stp_prod hp hq pp pq hT).nr ph)
 obtain ⟨c1,c2,c3⟩:=pf_1 es hM b2 b3 b4
 have X1:=stp_prod rP rR pP pR e1
 have p1:=X1.fin c1
 have Y1:=stp_diff (fprod_rng hp hq) (fprod_rng rP rR) ph p1
 obtain ⟨d1,d2⟩:=pf_2 hM c2 c3 rH (nr_rel (X1.nr p1))
 have q1:=Y1.fin d1
 have X2:=stp_prod rQ rR pQ pR e2
 have p2:=X2.fin (pf_4a hM b2)
 have x2:=(pf_4 hM b2 (nr_rel (X2.nr p2))).2
 have Y2:=stp_diff rT1 (fprod_rng rQ rR) q1 p2
 obtain ⟨d3,d4⟩:=pf_5 hM d2 (nr_rel (Y1.nr q1)) x2
 have q2:=Y2.fin d3
 have X3:=stp_prod rP rS pP pS e3
 have p3:=X3.fin (pf_4a hM b3)
 have x3:=(pf_4 hM b3 (nr_rel (X3.nr p3))).2
 have Y3:=stp_diff rT2 (fprod_rng rP rS) q2 p3
 obtain ⟨d5,d6⟩:=pf_6 hM d4 (nr_rel (Y2.nr q2)) x3
 have q3:=Y3.fin d5
 have X4:=stp_prod rQ rS pQ pS e4
 have p4:=X4.fin (pf_4a hM b4)
 have x4:=(pf_4 hM b4 (nr_rel (X4.nr p4))).2
 exact (stp_diff (fprod_rng rQ rS) rT3 p4 q3).fin (pf_7 hM d6 (nr_rel (Y3.nr q3)) x4)
theorem key_patS {g:Bool} {r:Int} (h0:0 <= r) (h1:r <= 9218868437227405312):key (patS g r)=sg g r:=by
 unfold key patS sg
 cases g
 ·simp only [Bool.false_eq_true,if_false]
  rw [if_neg (by omega)]
 ·simp only [if_true]
  rw [if_pos (by omega)]
  omega
theorem sg_pos2 (g:Bool) {r:Int} (h0:0 <= r):sg (g && decide (0 < r)) r=sg g r:=by
 by_cases c:0 < r
 ·rw [decide_eq_true c,Bool.and_true]
 ·have:r=0:=by omega
  rw [this,sg_zero,sg_zero]
theorem same_pat {g k:Bool} {r:Int} (h0:0 <= r) (h1:r <= 9218868437227405312) (e:sg g r=sg k r):same (patS g r) (patS k r)=true:=by
 unfold same
 rw [decide_eq_false (patS_rng h0 h1).2,decide_eq_false (patS_rng h0 h1).2,key_patS h0 h1,key_patS h0 h1,decide_eq_true e]
 rfl
theorem k_sgn {ng:Bool} {A S:Int} (h0:0 <= A) (h1:ng=true->0 < A) (e:S=sg ng A):ng=decide (S < 0):=by
 cases ng
 ·have e:S=A:=e
  exact (decide_eq_false (by omega)).symm
 ·have:=h1 rfl
  have e:S=-A:=e
  exact (decide_eq_true (by omega)).symm
theorem k_sg0 {ng:Bool} {A:Int} (h1:ng=true->0 < A) (e:0=sg ng A):A=0∧ng=false:=by
 cases ng
 ·exact ⟨e.symm,rfl⟩
 ·have:=h1 rfl
  have e:0=-A:=e
  omega
theorem same_near {S h:Int} {g ng:Bool} {f:Int->Int × Bool} (hR:RdOf S ng f) (hh:(S=0∧h=patS g 0)∨(S ≠ 0∧h=nearP S)):same h (f 0).1=true:=by
 obtain ⟨A,r0,left,eS,hA,hu,hf⟩:=hR
 rw [hf 0]
 have hA0:0 <= A:=Int.le_trans (vS_nonneg r0) hu.lo
 rcases hh with ⟨e0,eh⟩ | ⟨e0,eh⟩
 ·rw [e0] at eS
  obtain ⟨z1,z2⟩:=k_sg0 hA eS
  subst z1 z2
  obtain ⟨y1,y2⟩:=hu.unique rung_zero
  subst y1 y2
  rw [eh,rTo_zero]
  cases g <;> decide
 ·obtain ⟨A',r0',left',eA,hu',eN⟩:=nearP_rung e0
  have eg:=k_sgn hA0 hA eS
  rw [<- eg] at eA eN
  have:A=A':=sg_inj (eS.symm.trans eA)
  rw [<- this] at hu'
  obtain ⟨y1,y2⟩:=hu.unique hu'
  subst y1 y2
  have hrr:=rTo_range 0 ng r0 left
  rw [eh,eN]
  exact same_pat hrr.1 hrr.2 (sg_pos2 ng hrr.1).symm
end Go.Proofs.YtinccocmgkjalaaGreatDoor
namespace Go.Proofs.YtinccocmgkjalaaGreatDoor
open Go Go.RowKit Go.Proofs.YtinccocmgkjalaaGreatDoor.M
theorem si_all {d T:Nat->Int} {b:Int} {B N:Nat} (hd:XV d (N + 1)) (rb:rng b) (hB1:(2 ^ B:Int) ∣ iV b) (hB2:((iV b).natAbs:Int) < 9007199254740992 * 2 ^ B) (hT:PTs d T b (N + 1)):∀ k,k <= N->sx d b k=true->SI d T B N k (ss ⟨0,fun _=>0⟩ d b k) (sq d b k)
 | 0,_,hx=>si_zero hd rb hB1 hB2 hT hx
 | k + 1,hk,hx=>by
  rw [sx_succ,Bool.and_eq_true,Bool.and_eq_true,Bool.and_eq_true] at hx
  obtain ⟨h1,h2,h3,h4⟩:=hx
  have hfin:∀ i,i <= N->rng (d i)∧pok (d i)=true:=fun i hi=>⟨(hd.fin i (by omega)).1,(hd.fin i (by omega)).2.1⟩
  obtain ⟨r1,r2⟩:=sq_fin hfin rb k (by omega) h1
  rw [ss_succ,sq_succ]
  exact si_step hd rb hB1 hB2 hT (by omega) r1 r2 (si_all hd rb hB1 hB2 hT k (by omega) h1) h2 h3 h4
theorem odd_part {x:Int} (rx:rng x) (px:pok x=true) (zx:rg x ≠ 0):∃ (t:Nat) (c:Int),iV x=2 ^ t * c∧c % 2=1:=by
 have hm:=(iV_some rx px zx).2
 obtain ⟨j0,j1,j2,j3⟩:=pmag_in px
 obtain ⟨m,hmm,_,_⟩:=jz_spec (show 0 < pmag x by omega) (by omega)
 have e2:=iV_form rx px
 have e3:((iV x).natAbs:Int)=2 ^ (jz (pmag x) + (pexp x + 1074).toNat) * (2 * (m:Int) + 1):=by
  rw [e2,Int.pow_add]
  calc pmag x * 2 ^ (pexp x + 1074).toNat=2 ^ jz (pmag x) * (2 * (m:Int) + 1) * 2 ^ (pexp x + 1074).toNat:=by rw [<- hmm]
   _=_:=by rw [Int.mul_assoc,Int.mul_comm (2 * (m:Int) + 1),<- Int.mul_assoc]
 by_cases h:0 <= iV x
 ·exact ⟨jz (pmag x) + (pexp x + 1074).toNat,2 * (m:Int) + 1,by rw [<- e3]; omega,by omega⟩
 ·refine ⟨jz (pmag x) + (pexp x + 1074).toNat,-(2 * (m:Int) + 1),?_,by omega⟩
  rw [Int.mul_neg]
  omega
theorem odd_cancel {s:Nat} {c Z:Int} (hc:c % 2=1) (h:(2 ^ s:Int) ∣ c * Z):(2 ^ s:Int) ∣ Z:=by
 induction s generalizing Z with
 | zero=>rw [Int.pow_zero]; exact Int.one_dvd _
 | succ s ih=>
  obtain ⟨a,ha⟩:=h
  rw [p2s,Int.mul_assoc] at ha
  have hZ:Z % 2=0:=by
   have h1:(c * Z) % 2=0:=by rw [ha]; omega
   rw [Int.mul_emod,hc] at h1
   omega
  obtain ⟨Y,rfl⟩:∃ Y,Z=2 * Y:=⟨Z / 2,by omega⟩
  have h2:(2 ^ s:Int) ∣ c * Y:=⟨a,by
   have:c * (2 * Y)=2 * (c * Y):=by rw [Int.mul_left_comm]
   rw [this] at ha
   omega⟩
  obtain ⟨e,he⟩:=ih h2
  exact ⟨e,by rw [p2s,he,Int.mul_assoc]⟩
theorem fast_ok {d T:Nat->Int} {b:Int} {B N k:Nat} (hd:XV d (N + 1)) (rb:rng b) (zb:iV b ≠ 0) (hT:PTs d T b (N + 1)) (hk:k < N) {L:Ls} {q:Int} (rq:rng q) (pq:pok q=true) (h:SI d T B N k L q)
  (hx1:pX (d (k + 1)) b=true) (hx2:pok (sL q (prL (d (k + 1)) b))=true):((iV (fsum q (prL (d (k + 1)) b))).natAbs:Int) <= ((iV (fprod (d (k + 1)) b)).natAbs:Int):=by
 obtain ⟨rx,px,zx⟩:=hd.fin (k + 1) (by omega)
 have hTk:=hT (k + 1) (by omega)
 obtain ⟨pT,pu,eT,nT⟩:=prod_facts rx rb hx1 hTk
 have ru:=prL_rng rx rb
 have n1:=fsum_nr rq ru hx2
 obtain ⟨t,c,hxc,hc⟩:=odd_part rx px zx
 have xne:=hd.ne (show k + 1 < N + 1 by omega)
 obtain ⟨s0,l1,l2⟩:=hd.lo k (by omega)
 have hs0:s0 <= t:=by
  obtain ⟨m,hm⟩:∃ m,c=2 * m + 1:=⟨c / 2,by omega⟩
  rw [hxc,hm] at l2
  exact odd_dvd l2
 have hlt:((iV (d k)).natAbs:Int) < 2 ^ t:=Int.lt_of_lt_of_le l1 (p2le hs0)
 -- the unit of the product
 obtain ⟨Z,hZ⟩:∃ Z,2 ^ 1074 * Z=2 ^ t * iV b:=by
  have h1:(2 ^ 1074:Int) ∣ c * (2 ^ t * iV b):=⟨T (k + 1),by
   rw [hTk,hxc,Int.mul_assoc,Int.mul_left_comm]⟩
  obtain ⟨Z,h2⟩:=odd_cancel hc h1
  exact ⟨Z,h2.symm⟩
 have hTZ:T (k + 1)=c * Z:=by
  have:(2:Int) ^ 1074 * T (k + 1)=2 ^ 1074 * (c * Z):=by
   rw [hTk,hxc,Int.mul_left_comm (2 ^ 1074) c Z,hZ,Int.mul_assoc,Int.mul_left_comm]
  exact Int.eq_of_mul_eq_mul_left (Int.ne_of_gt (p2 1074)) this
 have fZ:Fl Z:=by
  have h1:=(fl_iV b).up t
  rw [<- hZ] at h1
  exact h1.down
 have hxk:XV d (k + 1):=⟨fun i hi=>hd.fin i (by omega),fun i hi=>hd.lo i (by omega)⟩
 have hpt:((tsm T (k + 1)).natAbs:Int) < (Z.natAbs:Int):=by
  have h1:=tsm_prod hT (k + 1) (by omega)
  have h2:=lsm_lt hxk t hlt
  have e1:((2 ^ 1074 * tsm T (k + 1)).natAbs:Int)=2 ^ 1074 * ((tsm T (k + 1)).natAbs:Int):=natAbs_p2 1074 _
  have e2:((2 ^ 1074 * Z).natAbs:Int)=2 ^ 1074 * (Z.natAbs:Int):=natAbs_p2 1074 _
  have e3:((2 ^ t * iV b).natAbs:Int)=2 ^ t * ((iV b).natAbs:Int):=natAbs_p2 t _
  have e4:((lsm d (k + 1) * iV b).natAbs:Int)=((lsm d (k + 1)).natAbs:Int) * ((iV b).natAbs:Int):=by rw [Int.natAbs_mul,Int.natCast_mul]
  rw [h1,e4] at e1
  rw [hZ,e3] at e2
  have e5:((lsm d (k + 1)).natAbs:Int) * ((iV b).natAbs:Int) < 2 ^ t * ((iV b).natAbs:Int):=Int.mul_lt_mul_of_pos_right h2 (by omega)
  rw [e1,e2] at e5
  exact Int.lt_of_mul_lt_mul_left e5 (Int.le_of_lt (p2 1074))
 have hq:((iV q).natAbs:Int) <= (Z.natAbs:Int):=by
  have hsum:=h.sum
  by_cases hn:L.n=0
  ·have:lsm L.d L.n=0:=by rw [hn]; rfl
   omega
  ·obtain ⟨m,hm⟩:∃ m,L.n=m + 1:=⟨L.n - 1,by omega⟩
   obtain ⟨s,a1,a2,a3⟩:=h.up m (by omega)
   have hxL:=h.xv
   rw [hm] at hxL hsum
   have a4:=lsm_lt hxL s a1
   have a5:(2 ^ s:Int) ∣ Z:=odd_cancel hc (by rw [<- hTZ]; exact a3 (k + 1) (by omega) (by omega))
   apply Classical.byContradiction
   intro hno
   have a6:=mult_lt (u:=0) a5 (Int.dvd_natAbs.2 a2) (show (Z.natAbs:Int) < ((iV q).natAbs:Int) by omega)
   omega
 have fZa:Fl (Z.natAbs:Int):=by
  by_cases h0:0 <= Z
  ·rw [show (Z.natAbs:Int)=Z by omega]; exact fZ
  ·rw [show (Z.natAbs:Int)=-Z by omega]; exact fZ.neg
 have fTa:Fl ((iV (fprod (d (k + 1)) b)).natAbs:Int):=by
  have f0:=fl_iV (fprod (d (k + 1)) b)
  by_cases h0:0 <= iV (fprod (d (k + 1)) b)
  ·rw [show ((iV (fprod (d (k + 1)) b)).natAbs:Int)=iV (fprod (d (k + 1)) b) by omega]; exact f0
  ·rw [show ((iV (fprod (d (k + 1)) b)).natAbs:Int)=-iV (fprod (d (k + 1)) b) by omega]; exact f0.neg
 have hS:((iV q + iV (prL (d (k + 1)) b)).natAbs:Int) <= ((iV (fprod (d (k + 1)) b)).natAbs:Int):=by
  rw [hTZ] at eT nT
  by_cases h1:c=1∨c=-1
  ·have hTf:Fl (c * Z):=by
    rcases h1 with rfl | rfl
    ·rw [Int.one_mul]; exact fZ
    ·rw [Int.neg_mul,Int.one_mul]; exact fZ.neg
   have h2:=nr_self hTf nT
   have h3:((c * Z).natAbs:Int)=(Z.natAbs:Int):=by
    rcases h1 with rfl | rfl
    ·rw [Int.one_mul]
    ·rw [Int.neg_mul,Int.one_mul]; omega
   omega
  ·have h2:=nr_rel nT
   have h3:3 * (Z.natAbs:Int) <= ((c * Z).natAbs:Int):=by
    rw [Int.natAbs_mul,Int.natCast_mul]
    exact Int.mul_le_mul_of_nonneg_right (by omega) (by omega)
   omega
 have g1:=nr_le n1 fTa (by omega)
 have g2:=nr_ge n1 fTa.neg (by omega)
 omega
end Go.Proofs.YtinccocmgkjalaaGreatDoor
