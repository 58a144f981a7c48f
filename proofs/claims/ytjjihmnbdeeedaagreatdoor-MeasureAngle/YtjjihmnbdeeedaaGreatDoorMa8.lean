/- Parts of the proof. -/
import Derived.Test.YtjjihmnbdeeedaaGreatDoorMa7
import Derived.Test.YtjjihmnbdeeedaaGreatDoorMa4
import Derived.Lib.AppendZerosOnto
import Derived.Test.YtjjihmnbdeeedaaGreatDoorMa5
import Derived.Test.YtjjihmnbdeeedaaGreatDoorMa6
import Derived.Test.YtjjihmnbdeeedaaGreatDoorMa1
import Derived.Test.YtjjihmnbdeeedaaGreatDoorMa2
set_option maxRecDepth 100000
set_option maxHeartbeats 8000000
set_option linter.unusedVariables false
set_option linter.unusedSimpArgs false
namespace Go.Proofs.YtjjihmnbdeeedaaGreatDoor
open Go Go.Proofs.Tryz Go.RowKit Go.Proofs.YtjjihmnbdeeedaaGreatDoor.M
def PB (P:Nat->Prop) (w:World):Prop:=∀ k,P k->k<w.heap.size
structure bD (P:Nat->Prop) (w w':World):Prop where
 os:w'.os=w.os
 tape:w'.tape=w.tape
 output:w'.output=w.output
 size:w.heap.size<=w'.heap.size
 block:∀ k,P k->w'.heap[k]?=w.heap[k]?
theorem bD.refl (P:Nat->Prop) (w:World):bD P w w:=⟨rfl,rfl,rfl,Nat.le_refl _,fun _ _=>rfl⟩
theorem bD.trans {P:Nat->Prop} {a b c:World} (h:bD P a b) (k:bD P b c):bD P a c :=
 ⟨k.os.trans h.os,k.tape.trans h.tape,k.output.trans h.output,Nat.le_trans h.size k.size,fun i hi=>(k.block i hi).trans (h.block i hi)⟩
theorem bD.of {P:Nat->Prop} {w w':World} (h:Below w.heap.size w w') (hP:PB P w):bD P w w':=⟨h.os,h.tape,h.output,h.size,fun k hk=>h.block k (hP k hk)⟩
theorem PB.le {P:Nat->Prop} {w w':World} (h:PB P w) (hs:w.heap.size<=w'.heap.size):PB P w':=fun k hk=>Nat.lt_of_lt_of_le (h k hk) hs
def cW (P:Nat->Prop) (w:World) (v:Value) (s:Ls):Prop:=bI 0 w v s.n s.d∧∀ k,v.ownBlock=some k->¬ P k
theorem cW.shape {P:Nat->Prop} {w:World} {v:Value} {s:Ls} (h:cW P w v s):∃ ao cap,v=.slice ao s.n cap:=by
 obtain⟨ao,cap,e,_⟩:=h.1.row
 exact⟨ao,cap,e⟩
theorem cW.stays {P:Nat->Prop} {w w':World} {v:Value} {s:Ls} (h:cW P w v s) (hb:Below w.heap.size w w'):cW P w' v s:=⟨h.1.stays hb,h.2⟩
theorem cW.gr {P:Nat->Prop} {w w':World} {v:Value} {s:Ls} (h:cW P w v s) (hP:PB P w) (g:w.grownBy w' v.ownBlock):bD P w w' :=
 ⟨g.os,g.tape,g.output,g.size,fun k hk=>g.block k (hP k hk) fun e=>h.2 k e.symm hk⟩
theorem BY {w:World} {ops:Array Oper} {rest:List Oper} {o:Oper} {a:Act} {Q:Exit->Act->World->Prop} (hgd:o.guard=none) (s x:Operand) (ho:o.op=.call { callee:=.builtin .append,args:=#[s,x],argTypes:=#[38,38] })
  (B:Nat) (v:Value) (n:Nat) (d:Nat->Int) (hs:a.eval s=v) (hO:bI B w v n d) (bo:Option Addr) (m cb:Nat) (e:Nat->Int) (hx:a.eval x=.slice bo m cb) (hR:aU w bo m cb e) (hlen:n+m<=1000000) (hB:B<=w.heap.size)
  (h:∀ v' w',bI B w' v' (n+m) (kS d n e)->w.grownBy w' v.ownBlock->(v'.ownBlock=v.ownBlock∨v'.ownBlock=some w.heap.size)->wpList prog ops Q rest (a.put o.dst v') w'):wpList prog ops Q (o :: rest) a w:=by
 obtain⟨v',w',hr,h2,h3,h4⟩:=MB o.type B v n d hO bo m cb e hR hlen hB
 exact Lib.wpList_append_run w hgd s x _ _ ho v (.slice bo m cb) hs hx _ w' hr (h v' w' h2 h3 h4)
theorem ri {P:Nat->Prop} {v:Value} {s:Ls} {b:Int} (w:World) (h:cW P w v s) (hb:ag b) (hn:s.n<=900000) (hP:PB P w) :
    Calls prog 268 #[v,G6 b] w fun e w'=>∃ v',e=.returned v'∧cW P w' v' (s.add b)∧bD P w w':=by
  have hz:=fun W=>nN hb W
  by_cases h0:rg b=0
  · have e:s.add b=s:=by unfold Ls.add;rw[if_pos h0]
    rw[decide_eq_true h0] at hz
    rw[e]
    go_enter func268,ntmps268
    go_wp2_with (go_at_call 266;refine(hz _).mono ?_;rintro _ _ ⟨rfl,rfl⟩)
    go_ret
    exact⟨v,rfl,h,bD.refl _ _⟩
  · have e:s.add b=⟨s.n+1,cr s.d s.n b⟩:=by unfold Ls.add;rw[if_neg h0]
    rw[decide_eq_false h0] at hz
    rw[e]
    go_enter func268,ntmps268
    go_wp2_with (first
      | (go_at_call 266;refine(hz _).mono ?_;rintro _ _ ⟨rfl,rfl⟩)
      | (at_builtin; refine BY rfl _ _ rfl 0 _ s.n s.d rfl (h.1.stays (af _ _)) _ 1 1 (fun _=>b) rfl (iR _ _ rfl) (by omega) (Nat.zero_le _) ?_; intro v' w1 hO1 hg1 hat1))
    go_ret
    refine⟨v',rfl,⟨hO1.congr fun i hi=>?_,fun k hk=>?_⟩,h.gr hP (nB hg1)⟩
    · by_cases e:i<s.n
      · simp[kS,e,bg s.d _ (show i≠s.n by omega)]
      · obtain rfl:i=s.n:=by omega
        simp[kS,bG]
    · rcases hat1 with q|q
      · exact h.2 k (q.symm.trans hk)
      · rw[hk] at q
        intro hPk
        have:=hP k hPk
        simp at q
        omega
theorem BZ {P:Nat->Prop} {g n cap:Nat} {d:Nat->Int} {q:Int} (w:World) (h0:cW P w (.slice (some ⟨g,0,none⟩) n cap) ⟨n,d⟩) (hd:∀ i,i<n->ag (d i)∧ak (d i)=true) (hq:ag q) (pq:ak q=true) (hn:n<=800000) (hP:PB P w) :
  Calls prog 264 #[.slice (some ⟨g,0,none⟩) n cap,G6 q] w fun e w'=>(gx d q n=true∧∃ v',e=.returned v'∧cW P w' v' (iZ n d q)∧bD P w w')∨(gx d q n=false∧e=dD∧bD P w w'):=by
 have h:bI 0 w (.slice (some ⟨g,0,none⟩) n cap) n d:=h0.1
 have HNP:Hid (¬ P g):=h0.2 g rfl
 have HPB:Hid (PB P w):=hP
 have HGP:Hid (∀ W,w.grownBy W (some g)->bD P w W):=fun W hW=>h0.gr hP hW
 clear h0 hP
 obtain⟨hI,hnc,hcm,hBg⟩:=h.inB
 have HQ:Hid (∀ k,k<=n->gx d q k=true->ag (gq d q k)∧ak (gq d q k)=true):=kU hd hq pq
 have HDD:Hid (∀ i,i<n->ag (d i)∧ak (d i)=true):=hd
 have hgl:g<w.heap.size:=by obtain⟨cur,h1,_⟩:=hI;exact(aGe h1).1
 clear hd h hq pq
 go_enter func264,ntmps264
 go_wp2_with fail
 go_loopw [1,5,13] (fun qv gv iv wr=>∃ k:Nat,k<=n∧iv=G6 k∧qv=G6 (gq d q k)∧gv=.slice (some ⟨g,0,none⟩) (gs d q k).n cap∧Hid (gx d q k=true)∧Hid (oU wr g cap n (gs d q k))∧Hid (w.grownBy wr (some g))) (fun _ _ iv _=>n-(intOf iv).toNat)
 case atStart=>exact⟨0,Nat.zero_le _,rfl,rfl,rfl,rfl,hI,World.grownBy.refl _ _⟩
 case round=>
  obtain⟨k,hk,rfl,rfl,rfl,HX,HI,HG⟩:=hrel
  clear hI
  have hsn:=vJ d q k
  by_cases hlt:k<n
  ·obtain⟨r1,r2⟩:=HQ.out k hk HX.out
   obtain⟨d1,d2⟩:=HDD.out k hlt
   have c0:wr.cell? ⟨g,k,none⟩=some (G6 (d k)):=by
    obtain⟨cur,h1,h2,h3⟩:=HI.out
    rw[cell_of_row wr g k cur _ _ h1,h3 k hlt,tC d q k k (Nat.le_refl _)]
   have CT:Hid (∀ W,Calls prog 262 #[G6 (gq d q k),G6 (d k)] W fun e w'=>e=.returned (.tuple #[G6 (gq d q (k+1)),G6 (gl d q k),.bool (ak (gl d q k))])∧Below W.heap.size W w'):=fun W=>wS r1 d1 r2 d2 W
   have rl:ag (gl d q k):=kT r1 d1
   have i0:(0:Int)<=(k:Int):=by omega
   have i1:(k:Int)<(n:Int):=by omega
   have HS:Hid (gs d q (k+1)=(gs d q k).add (gl d q k)):=rfl
   have HXS:Hid (gx d q (k+1)=(gx d q k&&ak (gl d q k))):=rfl
   have HNO:Hid (ak (gl d q k)=false->gx d q n=false):=fun hno=>by
    cases hx:gx d q n
    ·rfl
    ·have:=wR (show k+1<=n by omega) hx
     rw[HXS.out,hno,Bool.and_false] at this
     cases this
   obtain⟨q',hq'⟩:∃ q',gq d q (k+1)=q':=⟨_,rfl⟩
   rw[hq'] at CT
   have HQ':Hid (gq d q (k+1)=q'):=hq'
   clear hq'
   generalize gl d q k=l at *
   generalize gq d q k=q0 at *
   generalize hd0:d k=dk at *
   have HD0:Hid (d k=dk):=hd0
   clear hd0 r1 r2 d1 d2
   have CA:=fun W h=>Ds (g:=g) (cap:=cap) (N:=n) (s:=gs d q k) (b:=l) W h rl (by omega)
   generalize hs0:gs d q k=s0 at *
   have HS0:Hid (gs d q k=s0):=hs0
   clear hs0
   cases hl:ak l
   ·rw[hl] at CT
    go_wp2_with fail
    refine(CT.out _).mono ?_
    rintro _ w1 ⟨rfl,hb1⟩
    go_wp2_with fail
    refine(mz _ _ _).mono ?_
    rintro _ _ ⟨rfl,rfl⟩
    unfold dD
    go_wp2
    exact⟨rfl,.inr ⟨HNO.out hl,rfl,HGP.out _ (nC HG.out hb1)⟩⟩
   ·rw[hl] at CT
    go_wp2_with fail
    refine(CT.out _).mono ?_
    rintro _ w1 ⟨rfl,hb1⟩
    go_wp2_with fail
    refine(iE _ _ _).mono ?_
    rintro _ _ ⟨rfl,rfl⟩
    rename_i w1
    go_wp2_with fail
    refine(CA _ (HI.out.keeps hb1)).mono ?_
    rintro _ w2 ⟨rfl,hI2,hg2⟩
    go_wp2
    go_roundw
    case rel=>exact⟨k+1,by omega,by go_num,by rw[HQ'.out],by rw[HS.out],by show _=_;rw[HXS.out,HX.out,hl];rfl,by show oU _ _ _ _ _;rw[HS.out];exact hI2,sY (nC HG.out hb1) hg2⟩
    case measure=>simp[intOf];omega
  ·obtain rfl:k=n:=by omega
   have hO:cW P wr (.slice (some ⟨g,0,none⟩) (gs d q k).n cap) (gs d q k):=⟨HI.out.out (B:=0) hsn hnc (Nat.zero_le _) hcm,fun j hj=>by cases hj;exact HNP.out⟩
   have HQ2:Hid (ag (gq d q k)∧ak (gq d q k)=true):=HQ.out k hk HX.out
   have CA:Hid (∀ W,W=wr->Calls prog 268 #[.slice (some ⟨g,0,none⟩) (gs d q k).n cap,G6 (gq d q k)] W fun e w'=>∃ v',e=.returned v'∧cW P w' v' (iZ k d q)∧bD P W w'):=fun W hW=>by
    subst hW
    exact ri W hO HQ2.out.1 (by omega) (HPB.out.le HG.out.size)
   generalize gq d q k=q0 at *
   generalize gs d q k=s0 at *
   clear hO
   go_wp2_with fail
   refine(CA.out _ rfl).mono ?_
   rintro _ w2 ⟨v',rfl,hO2,hg2⟩
   go_wp2
   go_ret
   exact .inl ⟨HX.out,v',rfl,hO2,(HGP.out _ HG.out).trans hg2⟩
theorem Pc {P:Nat->Prop} {v:Value} {s:Ls} {q:Int} (w:World) (h:cW P w v s) (hd:s.fin) (hq:ag q) (pq:ak q=true) (hn:s.n<=800000) (hP:PB P w) :
  Calls prog 264 #[v,G6 q] w fun e w'=>(gx s.d q s.n=true∧∃ v',e=.returned v'∧cW P w' v' (iZ s.n s.d q)∧bD P w w')∨(gx s.d q s.n=false∧e=dD∧bD P w w'):=by
 obtain⟨n,d⟩:=s
 rcases id h.1.2 with⟨rfl,h0⟩|⟨g,cap,cur,rfl,_⟩
 ·have h0':n=0:=h0
  subst h0'
  have CA:Hid (∀ W,W=w->Calls prog 268 #[.slice none 0 0,G6 q] W fun e w'=>∃ v',e=.returned v'∧cW P w' v' (iZ 0 d q)∧bD P W w'):=fun W hW=>by
   subst hW
   exact ri (s:=⟨0,d⟩) W h hq (Nat.zero_le _) hP
  clear h hd hq pq
  go_enter func264,ntmps264
  go_wp2_with fail
  go_loopw [1,5,13] (fun qv gv iv wr=>iv=G6 0∧qv=G6 q∧gv=.slice none 0 0∧wr=w) (fun _ _ iv _=>0)
  case atStart=>exact⟨rfl,rfl,rfl,rfl⟩
  case round=>
   obtain⟨rfl,rfl,rfl,rfl⟩:=hrel
   go_wp2_with fail
   refine(CA.out _ rfl).mono ?_
   rintro _ w2 ⟨v',rfl,hO2,hg2⟩
   go_wp2
   go_ret
   exact .inl ⟨rfl,v',rfl,hO2,hg2⟩
 ·exact BZ w h hd hq pq hn hP
theorem JU {P:Nat->Prop} {v:Value} {s:Ls} {fo:Option Addr} {m fc:Nat} {f:Nat->Int} (w:World) (h:cW P w v s) (hs:s.fin) (hf:∀ W,bD P w W->aU W fo m fc f) (hff:∀ i,i<m->ag (f i)∧ak (f i)=true) (hn:s.n+m<=700000) (hB:PB P w) :
  Calls prog 213 #[v,.slice fo m fc] w fun e w'=>(fe s f m=true∧∃ v',e=.returned v'∧cW P w' v' (dw s f m)∧bD P w w')∨(fe s f m=false∧e=dD∧bD P w w'):=by
 have hR:=hf w (bD.refl _ _)
 have hle:=hR.le
 have hmx:=hR.max
 have HF:Hid (∀ W,bD P w W->aU W fo m fc f):=hf
 have HFF:Hid (∀ i,i<m->ag (f i)∧ak (f i)=true):=hff
 have HFI:Hid (∀ k,k<=m->fe s f k=true->(dw s f k).fin):=tD hs hff
 have hL:=vL s f
 obtain⟨ao0,cap0,rfl⟩:=h.shape
 clear hf hff hR hs
 go_enter func213,ntmps213
 go_wp2_with fail
 go_loopw [0,9] (fun hv iv wr=>∃ (k:Nat) (v0:Value),k<=m∧iv=G6 k∧hv=v0∧Hid (fe s f k=true)∧Hid (cW P wr v0 (dw s f k))∧Hid (bD P w wr)) (fun _ iv _=>m-(intOf iv).toNat)
 case atStart=>exact⟨0,_,Nat.zero_le _,rfl,rfl,rfl,h,bD.refl _ _⟩
 case round=>
  obtain⟨k,hv,hk,rfl,hve,HX,HL,HBW⟩:=hrel
  replace hve:=hve.symm
  subst hve
  clear h
  have hLk:=hL k
  by_cases hlt:k<m
  ·obtain⟨b,off,rfl,hbb,hc⟩:=(HF.out _ HBW.out).spot (by omega)
   have c0:=hc k hlt
   clear hc
   obtain⟨d1,d2⟩:=HFF.out k hlt
   have hwr:PB P wr:=PB.le hB HBW.out.size
   have CG:Hid (∀ W,W=wr->Calls prog 264 #[hv,G6 (f k)] W fun e w'=>(fe s f (k+1)=true∧∃ v',e=.returned v'∧cW P w' v' (dw s f (k+1))∧bD P W w')∨(fe s f m=false∧e=dD∧bD P W w')):=fun W hW=>by
    subst hW
    rw[oq,lk]
    refine(Pc W HL.out (HFI.out k hk HX.out) d1 d2 (by omega) hwr).mono ?_
    rintro e w' (⟨h1,v',h2,h3,h4⟩|⟨h1,h2,h3⟩)
    ·exact .inl ⟨by rw[HX.out,h1];rfl,v',h2,h3,h4⟩
    ·refine .inr ⟨?_,h2,h3⟩
     cases hx:fe s f m
     ·rfl
     ·have:=uJ (show k+1<=m by omega) hx
      rw[lk,h1,Bool.and_false] at this
      cases this
   generalize f k=fk at *
   have i0:(0:Int)<=(k:Int):=by omega
   have i1:(k:Int)<(m:Int):=by omega
   go_wp2_with fail
   refine(CG.out _ rfl).mono ?_
   rintro _ w1 (⟨h1,v',rfl,h3,h4⟩|⟨h1,rfl,h3⟩)
   ·go_wp2
    go_roundw
    case rel=>exact⟨k+1,_,by omega,by go_num,rfl,h1,h3,HBW.out.trans h4⟩
    case measure=>simp[intOf];omega
   ·unfold dD
    go_wp2
    exact⟨rfl,.inr ⟨h1,rfl,HBW.out.trans h3⟩⟩
  ·obtain rfl:k=m:=by omega
   go_wp2
   go_ret
   exact .inl ⟨HX.out,_,rfl,HL.out,HBW.out⟩
theorem Nh {P:Nat->Prop} {v:Value} {s:Ls} {eo:Option Addr} {N ec:Nat} {d:Nat->Int} {b:Int} (w:World) (h:cW P w v s) (hE:∀ W,bD P w W->aU W eo (N+1) ec d) (hd:∀ i,i<=N->ag (d i)∧ak (d i)=true) (hb:ag b) (pb:ak b=true) (h0:¬ rg b=0) (hn:s.n+2*N<=700000) (hB:PB P w) (H:∀ W,bD P w W->aO W) :
  Calls prog 216 #[v,.slice eo (N+1) ec,G6 b] w fun e w'=>(sx d b N=true∧∃ v',e=.returned v'∧cW P w' v' (yj s d b N)∧bD P w w')∨(sx d b N=false∧e=dD∧bD P w w'):=by
 have hz:=fun W=>nN hb W
 rw[decide_eq_false h0] at hz
 have hR:=hE w (bD.refl _ _)
 have hle:=hR.le
 have hmx:=hR.max
 obtain⟨bb,off,rfl,hbb,hc⟩:=hR.spot (by omega)
 have c0:=hc 0 (by omega)
 rw[Nat.add_zero] at c0
 have HE:Hid (∀ W,bD P w W->aU W (some ⟨bb,off,none⟩) (N+1) ec d):=hE
 have HH:Hid (∀ W,bD P w W->aO W):=H
 have HD:Hid (∀ i,i<=N->ag (d i)∧ak (d i)=true):=hd
 have HSQ:Hid (∀ k,k<=N->sx d b k=true->ag (sq d b k)∧ak (sq d b k)=true):=ot hd hb
 have HSL:=EM s d b
 have HB:Hid (ag b∧ak b=true):=⟨hb,pb⟩
 have CP:Hid (∀ W,aO W->Calls prog 182 #[G6 (d 0),G6 b] W fun e w'=>e=.returned (.tuple #[G6 (sq d b 0),G6 (cw (d 0) b),.bool (sx d b 0)])∧Below W.heap.size W w'):=fun W hW=>Ax (hd 0 (by omega)).1 hb (hd 0 (by omega)).2 pb W hW
 have HS0:Hid (ss s d b 0=s.add (cw (d 0) b)):=rfl
 have rl0:ag (cw (d 0) b):=iY (hd 0 (by omega)).1 hb
 have HNO:Hid (sx d b 0=false->sx d b N=false):=fun hno=>by
  cases hx:sx d b N
  ·rfl
  ·have:=wW (Nat.zero_le N) hx
   rw[hno] at this
   cases this
 clear hE H hd hc hR hb pb
 have hN1:((N:Int)+1 == 0)=false:=by simp;omega
 obtain⟨ao0,cap0,rfl⟩:=h.shape
 cases hx0:sx d b 0
 ·rw[hx0] at CP
  generalize sq d b 0=q0 at *
  generalize cw (d 0) b=l0 at *
  generalize d 0=d0 at *
  go_enter func216,ntmps216
  go_wp2_with (go_at_call 266;refine(hz _).mono ?_;rintro _ wz ⟨rfl,hw⟩;replace hw:=hw.symm;subst hw)
  refine(CP.out _ (HH.out _ (bD.refl _ _))).mono ?_
  rintro _ w1 ⟨rfl,hb1⟩
  have hB1:bD P w w1:=bD.of hb1 hB
  go_wp2_with fail
  refine(mz _ _ _).mono ?_
  rintro _ wz ⟨rfl,hw⟩
  replace hw:=hw.symm
  subst hw
  unfold dD
  go_wp2
  exact⟨rfl,.inr ⟨HNO.out hx0,rfl,hB1⟩⟩
 ·rw[hx0] at CP
  have CA:Hid (∀ W,bD P w W->cW P W (.slice ao0 s.n cap0) s->Calls prog 268 #[.slice ao0 s.n cap0,G6 (cw (d 0) b)] W fun e w'=>∃ v',e=.returned v'∧cW P w' v' (ss s d b 0)∧bD P W w'):=fun W hW hL=>by
   rw[HS0.out]
   exact ri W hL rl0 (by omega) (PB.le hB hW.size)
  have HK:Hid (∀ W,Below w.heap.size w W->cW P W (.slice ao0 s.n cap0) s):=fun W hW=>h.stays hW
  clear h
  obtain⟨q0,hq0⟩:∃ q0,sq d b 0=q0:=⟨_,rfl⟩
  obtain⟨l0,hl0⟩:∃ l0,cw (d 0) b=l0:=⟨_,rfl⟩
  rw[hq0,hl0] at CP
  rw[hl0] at CA
  have HQ0:Hid (sq d b 0=q0):=hq0
  clear hq0 hl0 rl0 HS0 HNO
  generalize hd0:d 0=d0 at c0 CP
  clear hd0
  go_enter func216,ntmps216
  go_wp2_with (go_at_call 266;refine(hz _).mono ?_;rintro _ wz ⟨rfl,hw⟩;replace hw:=hw.symm;subst hw)
  refine(CP.out _ (HH.out _ (bD.refl _ _))).mono ?_
  rintro _ w1 ⟨rfl,hb1⟩
  have hB1:bD P w w1:=bD.of hb1 hB
  go_wp2_with fail
  refine(iE _ _ _).mono ?_
  rintro _ wz ⟨rfl,hw⟩
  replace hw:=hw.symm
  subst hw
  go_wp2_with fail
  refine(CA.out _ hB1 (HK.out _ hb1)).mono ?_
  rintro _ w2 ⟨v2,rfl,hL2,hb2⟩
  have hB2:=hB1.trans hb2
  clear CP CA HK hz
  go_wp2_with fail
  ·have hN0:N=0:=by omega
   go_loopw [0,7,39] (fun hv qv iv wr=>∃ (k:Nat) (v0:Value),k<=N∧iv=G6 k∧hv=v0∧qv=G6 (sq d b k)∧Hid (sx d b k=true)∧Hid (cW P wr v0 (ss s d b k))∧Hid (bD P w wr)) (fun _ _ iv _=>N-(intOf iv).toNat)
   case atStart=>exact⟨0,_,Nat.zero_le _,rfl,rfl,by rw[HQ0.out],hx0,hL2,hB2⟩
   case round=>
    obtain⟨k,hv,hk,rfl,hve,rfl,HX,HL,HBW⟩:=hrel
    replace hve:=hve.symm
    subst hve
    clear hL2 hB2 HQ0
    have hLk:=HSL k
    obtain rfl:k=N:=by omega
    obtain⟨r1,r2⟩:=HSQ.out k hk HX.out
    have hwr:PB P wr:=PB.le hB HBW.out.size
    have CA:Hid (∀ W,W=wr->Calls prog 268 #[hv,G6 (sq d b k)] W fun e w'=>∃ v',e=.returned v'∧cW P w' v' (yj s d b k)∧bD P W w'):=fun W hW=>by
     subst hW
     exact ri W HL.out r1 (by omega) hwr
    clear r1 r2
    generalize sq d b k=qk at *
    go_wp2_with fail
    refine(CA.out _ rfl).mono ?_
    rintro _ w3 ⟨v3,rfl,hL3,hb3⟩
    go_wp2
    go_ret
    exact .inl ⟨HX.out,v3,rfl,hL3,HBW.out.trans hb3⟩
  ·go_loopw [0,7,39] (fun hv qv iv wr=>∃ (k:Nat) (v0:Value),k<=N∧iv=G6 k∧hv=v0∧qv=G6 (sq d b k)∧Hid (sx d b k=true)∧Hid (cW P wr v0 (ss s d b k))∧Hid (bD P w wr)) (fun _ _ iv _=>N-(intOf iv).toNat)
   case atStart=>exact⟨0,_,Nat.zero_le _,rfl,rfl,by rw[HQ0.out],hx0,hL2,hB2⟩
   case round=>
    obtain⟨k,hv,hk,rfl,hve,rfl,HX,HL,HBW⟩:=hrel
    replace hve:=hve.symm
    subst hve
    clear hL2 hB2 HQ0
    have hLk:=HSL k
    by_cases hlt:k<N
    ·obtain⟨bb',off',e1,hbb',hc⟩:=(HE.out _ HBW.out).spot (by omega)
     simp only[Option.some.injEq,Addr.mk.injEq,and_true] at e1
     obtain⟨rfl,rfl⟩:=e1
     have c1:=hc (k+1) (by omega)
     rw[show off+(k+1)=off+1+k by omega] at c1
     clear hc
     obtain⟨d1,d2⟩:=HD.out (k+1) (by omega)
     obtain⟨r1,r2⟩:=HSQ.out k hk HX.out
     obtain⟨b1,b2⟩:=HB.out
     have hwr:PB P wr:=PB.le hB HBW.out.size
     have C1:Hid (∀ W,aO W->Calls prog 182 #[G6 (d (k+1)),G6 b] W fun e w'=>e=.returned (.tuple #[G6 (aC (d (k+1)) b),G6 (cw (d (k+1)) b),.bool (pX (d (k+1)) b)])∧Below W.heap.size W w'):=fun W hW=>Ax d1 b1 d2 b2 W hW
     have rt:ag (aC (d (k+1)) b):=bc d1 b1
     have ru:ag (cw (d (k+1)) b):=iY d1 b1
     have HP:Hid (pX (d (k+1)) b=true->ak (aC (d (k+1)) b)=true∧ak (cw (d (k+1)) b)=true):=Av d1 b1
     have HXS:Hid (sx d b (k+1)=(sx d b k&&(pX (d (k+1)) b&&(ak (sL (sq d b k) (cw (d (k+1)) b))&&fX (aC (d (k+1)) b) (aF (sq d b k) (cw (d (k+1)) b)))))):=nO d b k
     have HQS:Hid (sq d b (k+1)=aF (aC (d (k+1)) b) (aF (sq d b k) (cw (d (k+1)) b))):=wT d b k
     have HSS:Hid (ss s d b (k+1)=((ss s d b k).add (sL (sq d b k) (cw (d (k+1)) b))).add (fL (aC (d (k+1)) b) (aF (sq d b k) (cw (d (k+1)) b)))):=wV s d b k
     have HNO:Hid (sx d b (k+1)=false->sx d b N=false):=fun hno=>by
      cases hx:sx d b N
      ·rfl
      ·have:=wW (show k+1<=N by omega) hx
       rw[hno] at this
       cases this
     generalize aC (d (k+1)) b=t at *
     generalize cw (d (k+1)) b=u at *
     generalize pX (d (k+1)) b=x1 at *
     generalize d (k+1)=dk at *
     obtain⟨qk,hqk⟩:∃ qk,sq d b k=qk:=⟨_,rfl⟩
     rw[hqk] at HXS HQS HSS r1 r2 ⊢
     obtain⟨sk,hsk⟩:∃ sk,ss s d b k=sk:=⟨_,rfl⟩
     rw[hsk] at HL HSS hLk
     clear hqk hsk d1 d2 HSQ HD HSL
     have i0:(0:Int)<=(k:Int):=by omega
     have i1:(k:Int)<(N:Int):=by omega
     cases hx1:x1
     ·rw[hx1] at C1
      have hno:sx d b N=false:=HNO.out (by rw[HXS.out,hx1];simp)
      go_wp2_with fail
      refine(C1.out _ (HH.out _ HBW.out)).mono ?_
      rintro _ w3 ⟨rfl,hb3⟩
      go_wp2_with fail
      refine(mz _ _ _).mono ?_
      rintro _ wz ⟨rfl,hw⟩
      replace hw:=hw.symm
      subst hw
      unfold dD
      go_wp2
      exact⟨rfl,.inr ⟨hno,rfl,HBW.out.trans (bD.of hb3 hwr)⟩⟩
     ·rw[hx1] at C1
      obtain⟨pt,pu⟩:=HP.out hx1
      have C2:Hid (∀ W,Calls prog 262 #[G6 qk,G6 u] W fun e w'=>e=.returned (.tuple #[G6 (aF qk u),G6 (sL qk u),.bool (ak (sL qk u))])∧Below W.heap.size W w'):=fun W=>wS r1 ru r2 pu W
      have rl1:ag (sL qk u):=kT r1 ru
      have rq1:ag (aF qk u):=aT r1 ru
      have HP2:Hid (ak (sL qk u)=true->ak (aF qk u)=true):=fun hh=>(kj r1 ru hh).2.1
      clear HP r1 r2 ru pu
      generalize sL qk u=l1 at *
      generalize aF qk u=q1 at *
      cases hx2:ak l1
      ·rw[hx2] at C2
       have hno:sx d b N=false:=HNO.out (by rw[HXS.out,hx2];simp)
       go_wp2_with fail
       refine(C1.out _ (HH.out _ HBW.out)).mono ?_
       rintro _ w3 ⟨rfl,hb3⟩
       go_wp2_with fail
       refine(iE _ _ _).mono ?_
       rintro _ wz ⟨rfl,hw⟩
       replace hw:=hw.symm
       subst hw
       go_wp2_with fail
       refine(C2.out _).mono ?_
       rintro _ w4 ⟨rfl,hb4⟩
       go_wp2_with fail
       refine(mz _ _ _).mono ?_
       rintro _ wz ⟨rfl,hw⟩
       replace hw:=hw.symm
       subst hw
       unfold dD
       go_wp2
       exact⟨rfl,.inr ⟨hno,rfl,HBW.out.trans (bD.of (ac hb3 hb4) hwr)⟩⟩
      ·rw[hx2] at C2
       have pq1:=HP2.out hx2
       have C3:Hid (∀ W,Calls prog 269 #[G6 t,G6 q1] W fun e w'=>e=.returned (.tuple #[G6 (aF t q1),G6 (fL t q1),.bool (fX t q1)])∧Below W.heap.size W w'):=fun W=>QF rt rq1 pt pq1 W
       have rl2:ag (fL t q1):=Aq rt rq1
       have hA1:=(sk.add_le l1).2
       have CA1:Hid (∀ W,bD P wr W->cW P W hv sk->Calls prog 268 #[hv,G6 l1] W fun e w'=>∃ v',e=.returned v'∧cW P w' v' (sk.add l1)∧bD P W w'):=fun W hW hL=>ri W hL rl1 (by omega) (PB.le hwr hW.size)
       have CA2:Hid (∀ W v',bD P wr W->cW P W v' (sk.add l1)->Calls prog 268 #[v',G6 (fL t q1)] W fun e w'=>∃ v'',e=.returned v''∧cW P w' v'' ((sk.add l1).add (fL t q1))∧bD P W w'):=fun W v' hW hL=>ri W hL rl2 (by omega) (PB.le hwr hW.size)
       have HKP:Hid (∀ {W W' v' s'},cW P W v' s'->Below W.heap.size W W'->cW P W' v' s'):=fun {W W' v' s'} hL hW=>hL.stays hW
       clear HP2 rl1 rl2 rq1 rt pt pq1 b1 b2
       generalize fL t q1=l2 at *
       generalize aF t q1=q2 at *
       cases hx3:fX t q1
       ·rw[hx3] at C3
        have hno:sx d b N=false:=HNO.out (by rw[HXS.out,hx3];simp)
        go_wp2_with fail
        refine(C1.out _ (HH.out _ HBW.out)).mono ?_
        rintro _ w3 ⟨rfl,hb3⟩
        go_wp2_with fail
        refine(iE _ _ _).mono ?_
        rintro _ wz ⟨rfl,hw⟩
        replace hw:=hw.symm
        subst hw
        go_wp2_with fail
        refine(C2.out _).mono ?_
        rintro _ w4 ⟨rfl,hb4⟩
        go_wp2_with fail
        refine(iE _ _ _).mono ?_
        rintro _ wz ⟨rfl,hw⟩
        replace hw:=hw.symm
        subst hw
        have hb34:=ac hb3 hb4
        go_wp2_with fail
        refine(CA1.out _ (bD.of hb34 hwr) (HKP.out HL.out hb34)).mono ?_
        rintro _ w5 ⟨v5,rfl,hL5,hb5⟩
        go_wp2_with fail
        refine(C3.out _).mono ?_
        rintro _ w6 ⟨rfl,hb6⟩
        go_wp2_with fail
        refine(mz _ _ _).mono ?_
        rintro _ wz ⟨rfl,hw⟩
        replace hw:=hw.symm
        subst hw
        have hb56:=((bD.of hb34 hwr).trans hb5).trans (bD.of hb6 (PB.le hwr ((bD.of hb34 hwr).trans hb5).size))
        unfold dD
        go_wp2
        exact⟨rfl,.inr ⟨hno,rfl,HBW.out.trans hb56⟩⟩
       ·rw[hx3] at C3
        have hyes:sx d b (k+1)=true:=by rw[HXS.out,HX.out,hx1,hx2,hx3];rfl
        go_wp2_with fail
        refine(C1.out _ (HH.out _ HBW.out)).mono ?_
        rintro _ w3 ⟨rfl,hb3⟩
        go_wp2_with fail
        refine(iE _ _ _).mono ?_
        rintro _ wz ⟨rfl,hw⟩
        replace hw:=hw.symm
        subst hw
        go_wp2_with fail
        refine(C2.out _).mono ?_
        rintro _ w4 ⟨rfl,hb4⟩
        go_wp2_with fail
        refine(iE _ _ _).mono ?_
        rintro _ wz ⟨rfl,hw⟩
        replace hw:=hw.symm
        subst hw
        have hb34:=ac hb3 hb4
        go_wp2_with fail
        refine(CA1.out _ (bD.of hb34 hwr) (HKP.out HL.out hb34)).mono ?_
        rintro _ w5 ⟨v5,rfl,hL5,hb5⟩
        go_wp2_with fail
        refine(C3.out _).mono ?_
        rintro _ w6 ⟨rfl,hb6⟩
        go_wp2_with fail
        refine(iE _ _ _).mono ?_
        rintro _ wz ⟨rfl,hw⟩
        replace hw:=hw.symm
        subst hw
        have hb56:=((bD.of hb34 hwr).trans hb5).trans (bD.of hb6 (PB.le hwr ((bD.of hb34 hwr).trans hb5).size))
        go_wp2_with fail
        refine(CA2.out _ _ hb56 (HKP.out hL5 hb6)).mono ?_
        rintro _ w7 ⟨v7,rfl,hL7,hb7⟩
        go_wp2
        go_roundw
        case rel=>exact⟨k+1,_,by omega,by go_num,rfl,by rw[HQS.out],hyes,by show cW _ _ _ _;rw[HSS.out];exact hL7,HBW.out.trans (hb56.trans hb7)⟩
        case measure=>simp[intOf];omega
    ·obtain rfl:k=N:=by omega
     obtain⟨r1,r2⟩:=HSQ.out k hk HX.out
     have hwr:PB P wr:=PB.le hB HBW.out.size
     have CA:Hid (∀ W,W=wr->Calls prog 268 #[hv,G6 (sq d b k)] W fun e w'=>∃ v',e=.returned v'∧cW P w' v' (yj s d b k)∧bD P W w'):=fun W hW=>by
      subst hW
      exact ri W HL.out r1 (by omega) hwr
     clear r1 r2
     generalize sq d b k=qk at *
     go_wp2_with fail
     refine(CA.out _ rfl).mono ?_
     rintro _ w3 ⟨v3,rfl,hL3,hb3⟩
     go_wp2
     go_ret
     exact .inl ⟨HX.out,v3,rfl,hL3,HBW.out.trans hb3⟩
theorem Ca {P:Nat->Prop} {v:Value} {d0:Nat->Int} {eo:Option Addr} {n ec:Nat} {d:Nat->Int} {b:Int} (w:World) (h:cW P w v ⟨0,d0⟩) (hE:∀ W,bD P w W->aU W eo n ec d) (hd:∀ i,i<n->ag (d i)∧ak (d i)=true) (hb:ag b) (pb:ak b=true) (hn:n<=300000) (hP:PB P w) (H:∀ W,bD P w W->aO W) :
  Calls prog 216 #[v,.slice eo n ec,G6 b] w fun e w'=>(ov d b n=true∧∃ (v':Value) (s:Ls),e=.returned v'∧cW P w' v' s∧s.same (eI d b n)∧bD P w w')∨(ov d b n=false∧e=dD∧bD P w w'):=by
 have hmx:=(hE w (bD.refl _ _)).max
 have hle:=(hE w (bD.refl _ _)).le
 cases n with
 | zero=>
  refine(Ay w).mono ?_
  rintro e w' ⟨rfl,hw⟩
  subst hw
  exact .inl ⟨rfl,v,_,rfl,h,⟨rfl,fun i hi=>absurd hi (Nat.not_lt_zero _)⟩,bD.refl _ _⟩
 | succ n=>
  by_cases h0:rg b=0
  ·have e1:ov d b (n+1)=true:=if_pos h0
   have e2:eI d b (n+1)=⟨0,fun _=>0⟩:=if_pos h0
   rw[e1,e2]
   refine(yP w hb h0 (by omega)).mono ?_
   rintro e w' ⟨rfl,hw⟩
   subst hw
   exact .inl ⟨rfl,v,_,rfl,h,⟨rfl,fun i hi=>absurd hi (Nat.not_lt_zero _)⟩,bD.refl _ _⟩
  ·have e1:ov d b (n+1)=sx d b n:=if_neg h0
   have e2:eI d b (n+1)=yj ⟨0,fun _=>0⟩ d b n:=if_neg h0
   rw[e1,e2]
   refine(Nh w h hE (fun i hi=>hd i (by omega)) hb pb h0 (show 0+2*n<=700000 by omega) hP H).mono ?_
   rintro e w' (⟨h1,v',h2,h3,h4⟩|⟨h1,h2,h3⟩)
   ·refine .inl ⟨h1,v',_,h2,h3,?_,h4⟩
    exact(Dx (s:=⟨0,d0⟩) (t:=⟨0,fun _=>0⟩) ⟨rfl,fun i hi=>absurd hi (Nat.not_lt_zero _)⟩ d b n).add _
   ·exact .inr ⟨h1,h2,h3⟩
def ji (d:Nat->Int) (n:Nat) (f:Nat->Int):Nat->Ls
 | 0=>⟨0,fun _=>0⟩
 | k+1=>dw (ji d n f k) (eI d (f k) n).d (eI d (f k) n).n
def lT (d:Nat->Int) (n:Nat) (f:Nat->Int):Nat->Bool
 | 0=>true
 | k+1=>lT d n f k&&(ov d (f k) n&&fe (ji d n f k) (eI d (f k) n).d (eI d (f k) n).n)
theorem rj (d:Nat->Int) (n:Nat) (f:Nat->Int) (k:Nat):ji d n f (k+1)=dw (ji d n f k) (eI d (f k) n).d (eI d (f k) n).n:=rfl
theorem ro (d:Nat->Int) (n:Nat) (f:Nat->Int) (k:Nat):lT d n f (k+1)=(lT d n f k&&(ov d (f k) n&&fe (ji d n f k) (eI d (f k) n).d (eI d (f k) n).n)):=rfl
theorem AD (d:Nat->Int) (n:Nat) (f:Nat->Int):∀ k,(ji d n f k).n<=2*n*k
 | 0=>Nat.zero_le _
 | k+1=>by
  have h1:=AD d n f k
  have h2:=vL (ji d n f k) (eI d (f k) n).d (eI d (f k) n).n
  have h3:=wY d (f k) n
  rw[rj,Nat.mul_add]
  omega
theorem AE {d:Nat->Int} {n:Nat} {f:Nat->Int}:∀ {k j},j<=k->lT d n f k=true->lT d n f j=true
 | 0,j,h,hx=>by
  obtain rfl:j=0:=by omega
  rfl
 | k+1,j,h,hx=>by
  by_cases e:j=k+1
  ·subst e;exact hx
  ·rw[ro,Bool.and_eq_true] at hx
   exact AE (by omega) hx.1
theorem GZ {s:Ls} {d:Nat->Int} {b:Int} {n:Nat} (hs:s.fin) (hd:∀ i,i<=n->ag (d i)∧ak (d i)=true) (hb:ag b):∀ k,k<=n->sx d b k=true->(ss s d b k).fin
 | 0,_,hx=>hs.add (iY (hd 0 (by omega)).1 hb) (Av (hd 0 (by omega)).1 hb hx).2
 | k+1,hk,hx=>by
  rw[nO,Bool.and_eq_true,Bool.and_eq_true,Bool.and_eq_true] at hx
  obtain⟨h1,h2,h3,h4⟩:=hx
  obtain⟨r1,r2⟩:=ot hd hb k (by omega) h1
  obtain⟨d1,d2⟩:=hd (k+1) hk
  rw[wV]
  exact((GZ hs hd hb k (by omega) h1).add (kT r1 (iY d1 hb)) h3).add (Aq (bc d1 hb) (aT r1 (iY d1 hb))) (Aw (bc d1 hb) (aT r1 (iY d1 hb)) h4).2
theorem AF {d:Nat->Int} {b:Int} {n:Nat} (hd:∀ i,i<n->ag (d i)∧ak (d i)=true) (hb:ag b) (hx:ov d b n=true):(eI d b n).fin:=by
 cases n with
 | zero=>exact fun i hi=>absurd hi (Nat.not_lt_zero _)
 | succ n=>
  by_cases h0:rg b=0
  ·have e2:eI d b (n+1)=⟨0,fun _=>0⟩:=if_pos h0
   rw[e2]
   exact fun i hi=>absurd hi (Nat.not_lt_zero _)
  ·have e1:ov d b (n+1)=sx d b n:=if_neg h0
   have e2:eI d b (n+1)=yj ⟨0,fun _=>0⟩ d b n:=if_neg h0
   rw[e1] at hx
   rw[e2]
   have hd':∀ i,i<=n->ag (d i)∧ak (d i)=true:=fun i hi=>hd i (by omega)
   obtain⟨r1,r2⟩:=ot hd' hb n (Nat.le_refl _) hx
   exact(GZ (fun i hi=>absurd hi (Nat.not_lt_zero _)) hd' hb n (Nat.le_refl _) hx).add r1 r2
theorem DA {d:Nat->Int} {n:Nat} {f:Nat->Int} {m:Nat} (hd:∀ i,i<n->ag (d i)∧ak (d i)=true) (hf:∀ i,i<m->ag (f i)∧ak (f i)=true):∀ k,k<=m->lT d n f k=true->(ji d n f k).fin
 | 0,_,_=>fun i hi=>absurd hi (Nat.not_lt_zero _)
 | k+1,hk,hx=>by
  rw[ro,Bool.and_eq_true,Bool.and_eq_true] at hx
  obtain⟨h1,h2,h3⟩:=hx
  rw[rj]
  exact tD (DA hd hf k (by omega) h1) (AF hd (hf k (by omega)).1 h2) _ (Nat.le_refl _) h3
theorem Ls.same.fin {s t:Ls} (h:s.same t) (ht:t.fin):s.fin:=fun i hi=>by
 rw[h.2 i hi]
 exact ht i (by rw[<- h.1];exact hi)
theorem bD.below {P:Nat->Prop} {N:Nat} {w w':World} (h:bD P w w') (hP:∀ k,k<N->P k):Below N w w':=⟨h.os,h.tape,h.output,h.size,fun k hk=>h.block k (hP k hk)⟩
theorem bI.belP {P:Nat->Prop} {N:Nat} {w w':World} {v:Value} {n:Nat} {d:Nat->Int} (h:bI N w v n d) (hb:bD P w w') (hP:∀ g,v.ownBlock=some g->P g):bI N w' v n d:=h.of_block fun g hg=>hb.block g (hP g hg)
theorem cW.raise {P:Nat->Prop} {N:Nat} {w:World} {v:Value} {s:Ls} (h:cW P w v s) (hP:∀ k,k<N->P k):bI N w v s.n s.d:=by
 have h1:=h.1
 rcases h1.2 with q|⟨g,cap,cur,q1,_,q3⟩
 ·exact⟨h1.1,.inl q⟩
 ·refine⟨h1.1,.inr ⟨g,cap,cur,q1,?_,q3⟩⟩
  have h2:=h.2 g (by rw[q1];rfl)
  exact Nat.le_of_not_lt fun e=>h2 (hP g e)
theorem AG {eo fo:Option Addr} {n ec m fc:Nat} {d f:Nat->Int} (w:World) (h:aU w eo n ec d) (hf:aU w fo m fc f) (hd:∀ i,i<n->ag (d i)∧ak (d i)=true) (hff:∀ i,i<m->ag (f i)∧ak (f i)=true) (hn:n<=200) (hm:m<=200) (H:aO w) :
    Calls prog 160 #[.slice eo n ec,.slice fo m fc] w fun r w'=>XR w (lT d n f m) (ji d n f m) r w':=by
  have hle:=hf.le
  have hmx:=hf.max
  have HE:Hid (aU w eo n ec d):=h
  have HF:Hid (aU w fo m fc f):=hf
  have HD:Hid (∀ i,i<n->ag (d i)∧ak (d i)=true):=hd
  have HFF:Hid (∀ i,i<m->ag (f i)∧ak (f i)=true):=hff
  have HH:Hid (aO w):=H
  have HSF:Hid (∀ k,k<=m->lT d n f k=true->(ji d n f k).fin):=DA hd hff
  have HSL:Hid (∀ k,k<=m->(ji d n f k).n<=80000):=fun k hk=>Nat.le_trans (AD d n f k) (by
    have:2*n*k<=2*200*200:=Nat.mul_le_mul (by omega) (by omega)
    omega)
  clear h hf hd hff H
  go_enter func160,ntmps160
  go_wp2_with fail
  go_loopw [5,6,11] (fun hv pv iv wr=>∃ (k:Nat) (vh vp:Value) (sh sp:Ls),k<=m∧iv=G6 k∧hv=vh∧pv=vp∧Hid (lT d n f k=true)∧Hid (sh.same (ji d n f k))∧Hid (bI w.heap.size wr vh sh.n sh.d)∧Hid (bI w.heap.size wr vp sp.n sp.d)∧Hid (∀ g,vp.ownBlock=some g->vh.ownBlock≠some g)∧Hid (Below w.heap.size w wr)) (fun _ _ iv _=>m-(intOf iv).toNat)
  case atStart=>exact⟨0,_,_,⟨0,fun _=>0⟩,⟨0,fun _=>0⟩,Nat.zero_le _,rfl,rfl,rfl,rfl,Ls.same.refl _,bI.nil _ _ _,bI.nil _ _ _,fun g hg=>(by cases hg),Below.refl _ _⟩
  case round=>
    obtain⟨k,vh,vp,sh,sp,hk,rfl,hve,hvp,HX,HS,HOH,HOP,HAP,HBW⟩:=hrel
    replace hve:=hve.symm
    subst hve
    replace hvp:=hvp.symm
    subst hvp
    by_cases hlt:k<m
    · obtain⟨bb,off,rfl,hbb,hc⟩:=(HF.out.keeps HBW.out).spot (by omega)
      have c0:=hc k hlt
      clear hc
      obtain⟨f1,f2⟩:=HFF.out k hlt
      obtain⟨po,pc,rfl,hpr⟩:=HOP.out.row
      obtain⟨ho,hcap,rfl,hhr⟩:=HOH.out.row
      have hpm:=hpr.max
      have hpl:=hpr.le
      clear hpr hhr
      have hsz:=HBW.out.size
      have hfin:=HS.out.fin (HSF.out k hk HX.out)
      have hn1:sh.n<=80000:=by rw[HS.out.1];exact HSL.out k hk
      have HPB:Hid (PB (fun j=>j<w.heap.size∨(Value.slice ho sh.n hcap).ownBlock=some j) wr):=fun j hj=>by
        rcases hj with hj|hj
        · omega
        · exact(HOH.out.ge hj).2
      have CS:Hid (∀ W,W=wr->Calls prog 216 #[.slice po 0 pc,.slice eo n ec,G6 (f k)] W fun e w'=>(ov d (f k) n=true∧∃ (v':Value) (s:Ls),e=.returned v'∧cW (fun j=>j<w.heap.size∨(Value.slice ho sh.n hcap).ownBlock=some j) w' v' s∧s.same (eI d (f k) n)∧bD (fun j=>j<w.heap.size∨(Value.slice ho sh.n hcap).ownBlock=some j) W w')∨(ov d (f k) n=false∧e=dD∧bD (fun j=>j<w.heap.size∨(Value.slice ho sh.n hcap).ownBlock=some j) W w')):=fun W hW=>by
        subst hW
        refine Ca (d0:=sp.d) W ⟨(HOP.out.cut (Nat.zero_le _)).lower (Nat.zero_le _),fun j hj=>?_⟩ (fun W' hW'=>HE.out.keeps (HBW.out.trans (hW'.below fun j hj=>.inl hj))) HD.out f1 f2 (by omega) HPB.out (fun W' hW'=>HH.out.keeps (HBW.out.trans (hW'.below fun j hj=>.inl hj)))
        have hj':(Value.slice po sp.n pc).ownBlock=some j:=by cases po<;>exact hj
        rintro(h|h)
        · have:=(HOP.out.ge hj').1
          omega
        · exact HAP.out j hj' h
      have HXS:Hid (lT d n f (k+1)=(lT d n f k&&(ov d (f k) n&&fe (ji d n f k) (eI d (f k) n).d (eI d (f k) n).n))):=ro d n f k
      have HSS:Hid (ji d n f (k+1)=dw (ji d n f k) (eI d (f k) n).d (eI d (f k) n).n):=rj d n f k
      have HNO:Hid (lT d n f (k+1)=false->lT d n f m=false):=fun hno=>by
        cases hx:lT d n f m
        · rfl
        · rw[AE (show k+1<=m by omega) hx] at hno;cases hno
      have hn2:=wY d (f k) n
      have HCF:Hid (ov d (f k) n=true->(eI d (f k) n).fin):=AF HD.out f1
      generalize eI d (f k) n=SC at *
      generalize ov d (f k) n=SX at *
      generalize f k=fk at *
      have i0:(0:Int)<=(k:Int):=by omega
      have i1:(k:Int)<(m:Int):=by omega
      go_wp2_with fail
      refine(CS.out _ rfl).mono ?_
      rintro _ w1 (⟨h1,v1,s1,rfl,hO1,hS1,hb1⟩|⟨h1,rfl,hb1⟩)
      · obtain⟨qo,qc,rfl⟩:=hO1.shape
        have hO1N:bI w.heap.size w1 (.slice qo s1.n qc) s1.n s1.d:=hO1.raise fun j hj=>.inl hj
        have hH1:bI w.heap.size w1 (.slice ho sh.n hcap) sh.n sh.d:=HOH.out.belP hb1 fun g hg=>.inr hg
        have hB1:Below w.heap.size w w1:=HBW.out.trans (hb1.below fun j hj=>.inl hj)
        have hap1:∀ g,(Value.slice qo s1.n qc).ownBlock=some g->(Value.slice ho sh.n hcap).ownBlock≠some g:=fun g hg e=>hO1.2 g hg (.inr e)
        have hs1f:s1.fin:=hS1.fin (HCF.out h1)
        have hs1n:=hS1.1
        have HGS:Hid ((dw sh s1.d s1.n).same (dw (ji d n f k) SC.d SC.n)∧fe sh s1.d s1.n=fe (ji d n f k) SC.d SC.n):=by
          have:=Az HS.out (m:=s1.n) (f:=s1.d) (g:=SC.d) hS1.2 s1.n (Nat.le_refl _)
          show _∧_
          rw[<- hS1.1]
          exact this
        have CG:Calls prog 213 #[.slice ho sh.n hcap,.slice qo s1.n qc] w1 fun e w'=>(fe sh s1.d s1.n=true∧∃ v',e=.returned v'∧cW (fun j=>j<w.heap.size∨(Value.slice qo s1.n qc).ownBlock=some j) w' v' (dw sh s1.d s1.n)∧bD (fun j=>j<w.heap.size∨(Value.slice qo s1.n qc).ownBlock=some j) w1 w')∨(fe sh s1.d s1.n=false∧e=dD∧bD (fun j=>j<w.heap.size∨(Value.slice qo s1.n qc).ownBlock=some j) w1 w'):=by
          refine JU w1 ⟨hH1.lower (Nat.zero_le _),fun j hj=>?_⟩ hfin (fun W hW=>?_) hs1f (by omega) (fun j hj=>?_)
          · rintro(h|h)
            · have:=(hH1.ge hj).1
              omega
            · exact hap1 j h hj
          · obtain⟨_,_,e1,hR⟩:=(hO1N.belP hW fun g hg=>.inr hg).row
            simp only[Value.slice.injEq] at e1
            obtain⟨rfl,_,rfl⟩:=e1
            exact hR
          · rcases hj with hj|hj
            · have:=hB1.size
              omega
            · exact(hO1N.ge hj).2
        have HO1:Hid (bI w.heap.size w1 (.slice qo s1.n qc) s1.n s1.d):=hO1N
        have HB1:Hid (Below w.heap.size w w1):=hB1
        have H1:Hid (SX=true):=h1
        clear hO1 hO1N hH1 hap1 hb1 hS1 hs1n hs1f h1 hfin CS
        generalize fe sh s1.d s1.n=GX at *
        generalize dw sh s1.d s1.n=GS at *
        go_wp2_with fail
        refine CG.mono ?_
        rintro _ w2 (⟨h2,v2,rfl,hO2,hb2⟩|⟨h2,rfl,hb2⟩)
        · obtain⟨_,_,rfl⟩:=hO2.shape
          go_wp2
          go_roundw
          case rel=>exact⟨k+1,_,_,GS,s1,by omega,by go_num,rfl,rfl,by show _=_;rw[HXS.out,HX.out,H1.out,<- HGS.out.2,h2];rfl,by show Ls.same _ _;rw[HSS.out];exact HGS.out.1,hO2.raise fun j hj=>.inl hj,HO1.out.belP hb2 fun g hg=>.inr hg,fun g hg e=>hO2.2 g e (.inr hg),HB1.out.trans (hb2.below fun j hj=>.inl hj)⟩
          case measure=>simp[intOf];omega
        · unfold dD
          go_wp2
          exact⟨rfl,.inr ⟨HNO.out (by rw[HXS.out,H1.out,<- HGS.out.2,h2];simp),rfl⟩,HB1.out.trans (hb2.below fun j hj=>.inl hj)⟩
      · unfold dD
        go_wp2
        exact⟨rfl,.inr ⟨HNO.out (by rw[HXS.out,h1,Bool.false_and,Bool.and_false]),rfl⟩,HBW.out.trans (hb1.below fun j hj=>.inl hj)⟩
    · obtain rfl:k=m:=by omega
      obtain⟨ho,hcap,rfl,hhr⟩:=HOH.out.row
      clear hhr
      go_wp2
      go_ret
      refine⟨.inl ⟨HX.out,_,rfl,.inl ?_⟩,HBW.out⟩
      have:=HOH.out.congr HS.out.2
      rw[HS.out.1] at this ⊢
      exact this
end Go.Proofs.YtjjihmnbdeeedaaGreatDoor
namespace Go.Proofs.YtjjihmnbdeeedaaGreatDoor
open Go Go.Proofs.Tryz Go.RowKit Go.Proofs.YtjjihmnbdeeedaaGreatDoor.M Ieee
theorem Sd {T a b c d M:Int} (e:T=a+b+c+d) (hM:11*(T.natAbs:Int)<=10*M) (hb:33554432*(b.natAbs:Int)<=T.natAbs) (hc:33554432*(c.natAbs:Int)<=T.natAbs) (hd:33554432*(d.natAbs:Int)<=T.natAbs):(a.natAbs:Int)<=M∧1000*((T-a).natAbs:Int)<=T.natAbs∧1000*(a.natAbs:Int)<=1001*T.natAbs:=by omega
theorem Se {T a H x M:Int} (hM:11*(T.natAbs:Int)<=10*M) (g:1000*((T-a).natAbs:Int)<=T.natAbs) (g2:1000*(a.natAbs:Int)<=1001*T.natAbs) (r1:1000*(H-T).natAbs<=T.natAbs) (r2:1000*(x-a).natAbs<=a.natAbs):((H-x).natAbs:Int)<=M∧300*((H-x).natAbs:Int)<=T.natAbs:=by omega
theorem JV {T b x M:Int} (hM:11*(T.natAbs:Int)<=10*M) (hb:33554432*(b.natAbs:Int)<=T.natAbs) (r:1000*(x-b).natAbs<=b.natAbs):(b.natAbs:Int)<=M∧30000*(x.natAbs:Int)<=T.natAbs:=by omega
theorem EO {T b M:Int} (hM:11*(T.natAbs:Int)<=10*M) (hb:33554432*(b.natAbs:Int)<=T.natAbs):(b.natAbs:Int)<=M:=by omega
theorem Sf {T t S x M:Int} (hM:11*(T.natAbs:Int)<=10*M) (g:300*(S.natAbs:Int)<=T.natAbs) (r1:1000*(t-S).natAbs<=S.natAbs) (hx:30000*(x.natAbs:Int)<=T.natAbs):((t-x).natAbs:Int)<=M∧290*((t-x).natAbs:Int)<=T.natAbs:=by omega
theorem Sg {T t S x M:Int} (hM:11*(T.natAbs:Int)<=10*M) (g:290*(S.natAbs:Int)<=T.natAbs) (r1:1000*(t-S).natAbs<=S.natAbs) (hx:30000*(x.natAbs:Int)<=T.natAbs):((t-x).natAbs:Int)<=M∧280*((t-x).natAbs:Int)<=T.natAbs:=by omega
theorem Si {T t S x M:Int} (hM:11*(T.natAbs:Int)<=10*M) (g:280*(S.natAbs:Int)<=T.natAbs) (r1:1000*(t-S).natAbs<=S.natAbs) (hx:30000*(x.natAbs:Int)<=T.natAbs):((x-t).natAbs:Int)<=M:=by omega
theorem Pd {K T a b c d P Q R S x y:Int} (hK:0<K) (hx:x=P+Q) (hy:y=R+S) (hT:K*T=x*y) (e1:K*a=P*R) (e2:K*b=Q*R) (e3:K*c=P*S) (e4:K*d=Q*S):T=a+b+c+d:=by
 refine Int.eq_of_mul_eq_mul_left (Int.ne_of_gt hK) ?_
 rw[hT,Int.mul_add,Int.mul_add,Int.mul_add,e1,e2,e3,e4,hx,hy,Int.add_mul,Int.mul_add,Int.mul_add]
 exact Ry _ _ _ _
theorem Ha {a h l:Int} (H:Dq a h l):(h.natAbs:Int)<=2*(a.natAbs:Int)∧(l.natAbs:Int)<=2*(a.natAbs:Int):=by
 have:=ta H
 have:=H.sum
 omega
theorem JW {p q T:Int} (hp:M.ag p) (hq:M.ag q) (pQ:ak (hH p)=true) (pS:ak (hH q)=true) (ph:ak (aC p q)=true) (hT:2^1074*T=iV p*iV q) (hM:11*(T.natAbs:Int)<=10*jO):ak (cw p q)=true:=by
 obtain⟨pp,pP,ha⟩:=ly hp pQ
 obtain⟨pq,pR,hb⟩:=ly hq pS
 obtain⟨rP,rQ⟩:=vI hp
 obtain⟨rR,rS⟩:=vI hq
 have rT1:M.ag (Dn p q):=aT (bc hp hq) (bm (bc rP rR))
 have rT2:M.ag (Do p q):=aT rT1 (bm (bc rQ rR))
 have rT3:M.ag (Dp p q):=aT rT2 (bm (bc rP rS))
 have hd:(2^1074:Int) ∣ iV p*iV q:=⟨T,hT.symm⟩
 obtain⟨i,j,eij,di,dj⟩:=yb 1074 _ _ hd
 have dP:=ha.dvd i di
 have dR:=hb.dvd j dj
 have dQ:(2^i:Int) ∣ iV (hH p):=by have:=ha.sum;rw[show iV (hH p)=iV p-iV (iX p) by omega];exact Int.dvd_sub di dP
 have dS:(2^j:Int) ∣ iV (hH q):=by have:=hb.sum;rw[show iV (hH q)=iV q-iV (iX q) by omega];exact Int.dvd_sub dj dR
 obtain⟨Tpr,e1⟩:=km eij dP dR
 obtain⟨Tqr,e2⟩:=km eij dQ dR
 obtain⟨Tps,e3⟩:=km eij dP dS
 obtain⟨Tqs,e4⟩:=km eij dQ dS
 have hK:=p2 1074
 have es:=Pd hK ha.sum.symm hb.sum.symm hT e1 e2 e3 e4
 have s1:=ta ha
 have s2:=ta hb
 have t1:=Ha ha
 have t2:=Ha hb
 have b2:=uL hK hT e2 (EN s1 t2.1)
 have b3:33554432*(Tps.natAbs:Int)<=(T.natAbs:Int):=by
  refine uL hK hT e3 ?_
  rw[Int.mul_comm (iV (iX p)),Int.mul_comm (iV p)]
  exact EN s2 t1.1
 have b4:=uL hK hT e4 (EN s1 t2.2)
 have rH:=iC ((fw hp hq pp pq hT).nr ph)
 obtain⟨c1,c2,c3⟩:=Sd es hM b2 b3 b4
 have X1:=fw rP rR pP pR e1
 have p1:=X1.fin c1
 have Y1:=cI (bc hp hq) (bc rP rR) ph p1
 obtain⟨d1,d2⟩:=Se hM c2 c3 rH (iC (X1.nr p1))
 have q1:=Y1.fin d1
 have X2:=fw rQ rR pQ pR e2
 have p2:=X2.fin (EO hM b2)
 have x2:=(JV hM b2 (iC (X2.nr p2))).2
 have Y2:=cI rT1 (bc rQ rR) q1 p2
 obtain⟨d3,d4⟩:=Sf hM d2 (iC (Y1.nr q1)) x2
 have q2:=Y2.fin d3
 have X3:=fw rP rS pP pS e3
 have p3:=X3.fin (EO hM b3)
 have x3:=(JV hM b3 (iC (X3.nr p3))).2
 have Y3:=cI rT2 (bc rP rS) q2 p3
 obtain⟨d5,d6⟩:=Sg hM d4 (iC (Y2.nr q2)) x3
 have q3:=Y3.fin d5
 have X4:=fw rQ rS pQ pS e4
 have p4:=X4.fin (EO hM b4)
 have x4:=(JV hM b4 (iC (X4.nr p4))).2
 exact(cI (bc rQ rS) rT3 p4 q3).fin (Si hM d6 (iC (Y3.nr q3)) x4)
end Go.Proofs.YtjjihmnbdeeedaaGreatDoor
namespace Go.Proofs.YtjjihmnbdeeedaaGreatDoor
open Go Go.Proofs.Tryz Go.RowKit Go.Proofs.YtjjihmnbdeeedaaGreatDoor.M
theorem vN {d T:Nat->Int} {b:Int} {B N:Nat} (hd:XV d (N+1)) (rb:ag b) (hB1:(2^B:Int) ∣ iV b) (hB2:((iV b).natAbs:Int)<9007199254740992*2^B) (hT:yp d T b (N+1)):∀ k,k<=N->sx d b k=true->SI d T B N k (ss ⟨0,fun _=>0⟩ d b k) (sq d b k)
 | 0,_,hx=>Nf hd rb hB1 hB2 hT hx
 | k+1,hk,hx=>by
  rw[nO,Bool.and_eq_true,Bool.and_eq_true,Bool.and_eq_true] at hx
  obtain⟨h1,h2,h3,h4⟩:=hx
  have hfin:∀ i,i<=N->ag (d i)∧ak (d i)=true:=fun i hi=>⟨(hd.fin i (by omega)).1,(hd.fin i (by omega)).2.1⟩
  obtain⟨r1,r2⟩:=ot hfin rb k (by omega) h1
  rw[wV,wT]
  exact Ng hd rb hB1 hB2 hT (by omega) r1 r2 (vN hd rb hB1 hB2 hT k (by omega) h1) h2 h3 h4
theorem JX {x:Int} (rx:ag x) (px:ak x=true) (zx:rg x≠0):∃ (t:Nat) (c:Int),iV x=2^t*c∧c % 2=1:=by
 have hm:=(ja rx px zx).2
 obtain⟨j0,j1,j2,j3⟩:=eY px
 obtain⟨m,hmm,_,_⟩:=fF (show 0<aN x by omega) (by omega)
 have e2:=kE rx px
 have e3:((iV x).natAbs:Int)=2^(jz (aN x)+(bh x+1074).toNat)*(2*(m:Int)+1):=by
  rw[e2,Int.pow_add]
  calc aN x*2^(bh x+1074).toNat=2^jz (aN x)*(2*(m:Int)+1)*2^(bh x+1074).toNat:=by rw[<- hmm]
   _=_:=by rw[Int.mul_assoc,Int.mul_comm (2*(m:Int)+1),<- Int.mul_assoc]
 by_cases h:0<=iV x
 ·exact⟨jz (aN x)+(bh x+1074).toNat,2*(m:Int)+1,by rw[<- e3];omega,by omega⟩
 ·refine⟨jz (aN x)+(bh x+1074).toNat,-(2*(m:Int)+1),?_,by omega⟩
  rw[Int.mul_neg]
  omega
theorem vO {s:Nat} {c Z:Int} (hc:c % 2=1) (h:(2^s:Int) ∣ c*Z):(2^s:Int) ∣ Z:=by
  induction s generalizing Z with
  | zero=>rw[Int.pow_zero];exact Int.one_dvd _
  | succ s ih=>
    obtain⟨a,ha⟩:=h
    rw[fG,Int.mul_assoc] at ha
    have hZ:Z % 2=0:=by
      have h1:(c*Z) % 2=0:=by rw[ha];omega
      rw[Int.mul_emod,hc] at h1
      omega
    obtain⟨Y,rfl⟩:∃ Y,Z=2*Y:=⟨Z/2,by omega⟩
    have h2:(2^s:Int) ∣ c*Y:=⟨a,by
      have:c*(2*Y)=2*(c*Y):=by rw[Int.mul_left_comm]
      rw[this] at ha
      omega⟩
    obtain⟨e,he⟩:=ih h2
    exact⟨e,by rw[fG,he,Int.mul_assoc]⟩
theorem Ni {d T:Nat->Int} {b:Int} {B N k:Nat} (hd:XV d (N+1)) (rb:ag b) (zb:iV b≠0) (hT:yp d T b (N+1)) (hk:k<N) {L:Ls} {q:Int} (rq:ag q) (pq:ak q=true) (h:SI d T B N k L q)
    (hx1:pX (d (k+1)) b=true) (hx2:ak (sL q (cw (d (k+1)) b))=true):((iV (aF q (cw (d (k+1)) b))).natAbs:Int)<=((iV (aC (d (k+1)) b)).natAbs:Int):=by
  obtain⟨rx,px,zx⟩:=hd.fin (k+1) (by omega)
  have hTk:=hT (k+1) (by omega)
  obtain⟨pT,pu,eT,nT⟩:=nD rx rb hx1 hTk
  have ru:=iY rx rb
  have n1:=nR rq ru hx2
  obtain⟨t,c,hxc,hc⟩:=JX rx px zx
  have xne:=hd.ne (show k+1<N+1 by omega)
  obtain⟨s0,l1,l2⟩:=hd.lo k (by omega)
  have hs0:s0<=t:=by
    obtain⟨m,hm⟩:∃ m,c=2*m+1:=⟨c/2,by omega⟩
    rw[hxc,hm] at l2
    exact Dz l2
  have hlt:((iV (d k)).natAbs:Int)<2^t:=Int.lt_of_lt_of_le l1 (jB hs0)
  -- the unit of the product
  obtain⟨Z,hZ⟩:∃ Z,2^1074*Z=2^t*iV b:=by
    have h1:(2^1074:Int) ∣ c*(2^t*iV b):=⟨T (k+1),by
      rw [hTk,hxc,Int.mul_assoc,Int.mul_left_comm]⟩
    obtain⟨Z,h2⟩:=vO hc h1
    exact⟨Z,h2.symm⟩
  have hTZ:T (k+1)=c*Z:=by
    have:(2:Int)^1074*T (k+1)=2^1074*(c*Z):=by
      rw[hTk,hxc,Int.mul_left_comm (2^1074) c Z,hZ,Int.mul_assoc,Int.mul_left_comm]
    exact Int.eq_of_mul_eq_mul_left (Int.ne_of_gt (p2 1074)) this
  have fZ:Fl Z:=by
    have h1:=(fJ b).up t
    rw[<- hZ] at h1
    exact h1.down
  have hxk:XV d (k+1):=⟨fun i hi=>hd.fin i (by omega),fun i hi=>hd.lo i (by omega)⟩
  have hpt:((yq T (k+1)).natAbs:Int)<(Z.natAbs:Int):=by
    have h1:=oz hT (k+1) (by omega)
    have h2:=ow hxk t hlt
    have e1:((2^1074*yq T (k+1)).natAbs:Int)=2^1074*((yq T (k+1)).natAbs:Int):=fd 1074 _
    have e2:((2^1074*Z).natAbs:Int)=2^1074*(Z.natAbs:Int):=fd 1074 _
    have e3:((2^t*iV b).natAbs:Int)=2^t*((iV b).natAbs:Int):=fd t _
    have e4:((dM d (k+1)*iV b).natAbs:Int)=((dM d (k+1)).natAbs:Int)*((iV b).natAbs:Int):=by rw[Int.natAbs_mul,Int.natCast_mul]
    rw[h1,e4] at e1
    rw[hZ,e3] at e2
    have e5:((dM d (k+1)).natAbs:Int)*((iV b).natAbs:Int)<2^t*((iV b).natAbs:Int):=Int.mul_lt_mul_of_pos_right h2 (by omega)
    rw[e1,e2] at e5
    exact Int.lt_of_mul_lt_mul_left e5 (Int.le_of_lt (p2 1074))
  have hq:((iV q).natAbs:Int)<=(Z.natAbs:Int):=by
    have hsum:=h.sum
    by_cases hn:L.n=0
    · have:dM L.d L.n=0:=by rw[hn];rfl
      omega
    · obtain⟨m,hm⟩:∃ m,L.n=m+1:=⟨L.n-1,by omega⟩
      obtain⟨s,a1,a2,a3⟩:=h.up m (by omega)
      have hxL:=h.xv
      rw[hm] at hxL hsum
      have a4:=ow hxL s a1
      have a5:(2^s:Int) ∣ Z:=vO hc (by rw[<- hTZ];exact a3 (k+1) (by omega) (by omega))
      apply Classical.byContradiction
      intro hno
      have a6:=wZ (u:=0) a5 (Int.dvd_natAbs.2 a2) (show(Z.natAbs:Int)<((iV q).natAbs:Int) by omega)
      omega
  have fZa:Fl (Z.natAbs:Int):=by
    by_cases h0:0<=Z
    · rw[show(Z.natAbs:Int)=Z by omega];exact fZ
    · rw[show(Z.natAbs:Int)=-Z by omega];exact fZ.neg
  have fTa:Fl ((iV (aC (d (k+1)) b)).natAbs:Int):=by
    have f0:=fJ (aC (d (k+1)) b)
    by_cases h0:0<=iV (aC (d (k+1)) b)
    · rw[show((iV (aC (d (k+1)) b)).natAbs:Int)=iV (aC (d (k+1)) b) by omega];exact f0
    · rw[show((iV (aC (d (k+1)) b)).natAbs:Int)=-iV (aC (d (k+1)) b) by omega];exact f0.neg
  have hS:((iV q+iV (cw (d (k+1)) b)).natAbs:Int)<=((iV (aC (d (k+1)) b)).natAbs:Int):=by
    rw[hTZ] at eT nT
    by_cases h1:c=1∨c=-1
    · have hTf:Fl (c*Z):=by
        rcases h1 with rfl|rfl
        · rw[Int.one_mul];exact fZ
        · rw[Int.neg_mul,Int.one_mul];exact fZ.neg
      have h2:=bt hTf nT
      have h3:((c*Z).natAbs:Int)=(Z.natAbs:Int):=by
        rcases h1 with rfl|rfl
        · rw[Int.one_mul]
        · rw[Int.neg_mul,Int.one_mul];omega
      omega
    · have h2:=iC nT
      have h3:3*(Z.natAbs:Int)<=((c*Z).natAbs:Int):=by
        rw[Int.natAbs_mul,Int.natCast_mul]
        exact Int.mul_le_mul_of_nonneg_right (by omega) (by omega)
      omega
  have g1:=Lm n1 fTa (by omega)
  have g2:=vD n1 fTa.neg (by omega)
  omega
def mc (x:Int):Prop:=ag x∧ak x=true∧rg x≠0∧(2^822:Int) ∣ iV x∧((iV x).natAbs:Int)<=2^1250
theorem Pe (X a c:Int):X*a*(X*c)=X*X*(a*c):=by grind
theorem Lq {x b:Int} (hx:mc x) (hb:mc b):∃ T,2^1074*T=iV x*iV b:=by
 obtain⟨a,ha⟩:=hx.2.2.2.1
 obtain⟨c,hc⟩:=hb.2.2.2.1
 have h1:(2^1074:Int) ∣ 2^822*2^822:=by rw[<- Int.pow_add];exact dI (by decide)
 obtain⟨k,hk⟩:=h1
 refine⟨k*(a*c),?_⟩
 rw[ha,hc,Pe,hk,Int.mul_assoc]
theorem Lr {b:Int} (hb:mc b):∃ B:Nat,(2^B:Int) ∣ iV b∧((iV b).natAbs:Int)<9007199254740992*2^B∧B<=1250:=by
 obtain⟨B,h1,h2⟩:=fJ b
 refine⟨B,h1,h2,?_⟩
 have h3:=jC h1 (ja hb.1 hb.2.1 hb.2.2.1).1 (p2 B)
 have h4:(2:Int)^B<2^(1250+1):=by
  rw[fG]
  have:=hb.2.2.2.2
  have:=p2 1250
  omega
 have:=qV h4
 omega
theorem vP {x:Int} (hx:mc x):((iV x).natAbs:Int)<2^1251:=by
 have h:=hx.2.2.2.2
 have p:(2:Int)^1251=2*2^1250:=fG 1250
 have:=p2 1250
 omega
theorem Hb {Y:Int} {g:Nat} (h:Y<9007199254740992*2^g) (hg:g<=1427):Y<=2^1480:=by
 have h1:(9007199254740992:Int)*2^g<=2^1480:=by
  have:(9007199254740992:Int)=2^53:=by decide
  rw[this,<- Int.pow_add]
  exact jB (by omega)
 omega
theorem JY {X:Int} (h:X<=2^1480):16*X<=jO:=by
 have h1:=mA
 have h2:(2:Int)^1484<=2^2097:=jB (by decide)
 have h3:(2:Int)^1484=16*2^1480:=by
  rw[show 1484=1480+1+1+1+1 by decide,fG,fG,fG,fG];omega
 omega
theorem Hc {x:Int} (hx:mc x):ak (hH x)=true:=by
 refine OY (B:=2^1250) hx.1 hx.2.1 hx.2.2.2.2 ?_
 have h1:=mA
 have h2:(2:Int)^1278<=2^2097:=jB (by decide)
 have h3:(2:Int)^1278=268435456*2^1250:=by
  have:(268435456:Int)=2^28:=by decide
  rw[this,<- Int.pow_add]
 have:=p2 1250
 omega
theorem Lt {x b T:Int} (hx:mc x) (hb:mc b) (hT:2^1074*T=iV x*iV b):(T.natAbs:Int)<=2^1480:=by
 obtain⟨B,b1,b2,b3⟩:=Lr hb
 have h1:=qd (vP hx) b1 b2 hT
 exact Hb (g:=1251+B-1074) (by have:=p2 (1251+B-1074);omega) (by omega)
theorem Hd {x b:Int} (hx:mc x) (hb:mc b):pX x b=true:=by
 obtain⟨T,hT⟩:=Lq hx hb
 have h2:=Lt hx hb hT
 have h3:=JY h2
 have hf:=(fw hx.1 hb.1 hx.2.1 hb.2.1 hT).fin (by omega)
 unfold pX
 rw[JW hx.1 hb.1 (Hc hx) (Hc hb) hf hT (by omega),(GK hx.1 hb.1 hx.2.1 hb.2.1).2 ⟨_,hT⟩]
 rfl
theorem Pf {d:Nat->Int} {b:Int} {N:Nat} (hd:XV d (N+1)) (hm:∀ j,j<=N->mc (d j)) (hb:mc b):∃ (T:Nat->Int) (B:Nat),yp d T b (N+1)∧(2^B:Int) ∣ iV b∧((iV b).natAbs:Int)<9007199254740992*2^B∧B<=1250∧∀ k,k<=N->sx d b k=true∧((iV (sq d b k)).natAbs:Int)<=2^1480:=by
 obtain⟨B,b1,b2,b3⟩:=Lr hb
 have hex:∀ j,∃ t:Int,j<N+1->2^1074*t=iV (d j)*iV b:=fun j=>by
  by_cases h:j<N+1
  ·obtain⟨t,ht⟩:=Lq (hm j (by omega)) hb
   exact⟨t,fun _=>ht⟩
  ·exact⟨0,fun h'=>absurd h' h⟩
 obtain⟨T,hT0⟩:=Classical.axiomOfChoice hex
 have hT:yp d T b (N+1):=hT0
 clear hT0 hex
 refine⟨T,B,hT,b1,b2,b3,fun k=>?_⟩
 have hfin:∀ i,i<=N->ag (d i)∧ak (d i)=true:=fun i hi=>⟨(hd.fin i (by omega)).1,(hd.fin i (by omega)).2.1⟩
 have bq:∀ k,k<=N->sx d b k=true->((iV (sq d b k)).natAbs:Int)<=2^1480:=fun k hk hx=>by
  have h:=vN hd hb.1 b1 b2 hT k hk hx
  have h1:=tH h.xv (h.small 1251 (vP (hm k hk)))
  have hxk:XV d (k+1):=⟨fun i hi=>hd.fin i (by omega),fun i hi=>hd.lo i (by omega)⟩
  have h2:=qd (ow hxk 1251 (vP (hm k hk))) b1 b2 (oz hT (k+1) (by omega))
  have h3:=h.sum
  exact Hb (g:=1251+B-1074) (by generalize (2:Int)^(1251+B-1074)=Y at *;omega) (by omega)
 induction k with
 | zero=>
  intro hk
  have h0:sx d b 0=true:=Hd (hm 0 (by omega)) hb
  exact⟨h0,bq 0 hk h0⟩
 | succ k ih=>
  intro hk
  obtain⟨hx,hqb⟩:=ih (by omega)
  have h:=vN hd hb.1 b1 b2 hT k (by omega) hx
  obtain⟨rq,pq⟩:=ot hfin hb.1 k (by omega) hx
  have x1:=Hd (hm (k+1) hk) hb
  have xT:=Lt (hm (k+1) hk) hb (hT (k+1) (by omega))
  obtain⟨rx,px⟩:=hfin (k+1) hk
  obtain⟨pT,pu,eT,nT⟩:=nD rx hb.1 x1 (hT (k+1) (by omega))
  have ru:=iY rx hb.1
  have rT:=bc rx hb.1
  have z:=nT.2 0 dA
  have k1:=JY hqb
  have k2:=JY xT
  obtain⟨p1,pl1⟩:=tF rq ru pq pu (by omega) (by omega)
  have r1:=aT rq ru
  have hab:=Ni hd hb.1 (ja hb.1 hb.2.1 hb.2.2.1).1 hT (by omega) rq pq h x1 pl1
  have p2':=(il rT r1 pT p1).fin (by omega)
  obtain⟨pl2,e2⟩:=qb rT r1 pT p1 p2' (by omega)
  have x3:fX (aC (d (k+1)) b) (aF (sq d b k) (cw (d (k+1)) b))=true:=by
   rw[GE rT r1 pl2]
   exact decide_eq_true e2
  have hx':sx d b (k+1)=true:=by rw[nO,hx,x1,pl1,x3];rfl
  exact⟨hx',bq (k+1) hk hx'⟩
theorem JZ {d:Nat->Int} {b:Int} {n:Nat} (hd:XV d n) (hm:∀ j,j<n->mc (d j)) (hb:mc b):ov d b n=true∧XV (eI d b n).d (eI d b n).n∧LB (eI d b n) 1480∧2^1074*dM (eI d b n).d (eI d b n).n=dM d n*iV b:=by
 cases n with
 | zero=>exact⟨rfl,⟨fun i hi=>absurd hi (Nat.not_lt_zero _),fun i hi=>absurd hi (Nat.not_lt_zero _)⟩,fun i hi=>absurd hi (Nat.not_lt_zero _),by show 2^1074*(0:Int)=0*iV b;rw[Int.mul_zero,Int.zero_mul]⟩
 | succ N=>
  have e1:ov d b (N+1)=sx d b N:=if_neg hb.2.2.1
  have e2:eI d b (N+1)=yj ⟨0,fun _=>0⟩ d b N:=if_neg hb.2.2.1
  rw[e1,e2]
  obtain⟨T,B,hT,b1,b2,b3,hall⟩:=Pf hd (fun j hj=>hm j (by omega)) hb
  obtain⟨hx,hq⟩:=hall N (Nat.le_refl _)
  have h:=vN hd hb.1 b1 b2 hT N (Nat.le_refl _) hx
  have hfin:∀ i,i<=N->ag (d i)∧ak (d i)=true:=fun i hi=>⟨(hd.fin i (by omega)).1,(hd.fin i (by omega)).2.1⟩
  obtain⟨rq,pq⟩:=ot hfin hb.1 N (Nat.le_refl _) hx
  refine⟨hx,h.xv.add rq pq fun i hi=>?_,LB.add (fun i hi=>?_) hq,?_⟩
  ·obtain⟨s,h1,h2,_⟩:=h.up i hi
   exact⟨s,h1,h2⟩
  ·have:=h.small 1251 (vP (hm N (by omega))) i hi
   exact Int.le_trans (Int.le_of_lt this) (jB (by omega))
  ·show 2^1074*dM ((ss ⟨0,fun _=>0⟩ d b N).add (sq d b N)).d ((ss ⟨0,fun _=>0⟩ d b N).add (sq d b N)).n=_
   rw[kF rq,h.sum]
   exact oz hT (N+1) (Nat.le_refl _)
theorem He {d:Nat->Int} {q:Int} {n b:Nat} (hd:XV d n) (hq:ag q) (pq:ak q=true) (bd:∀ i,i<n->((iV (d i)).natAbs:Int)<=2^b) (bq:((iV q).natAbs:Int)<=2^b) (hb:b<=2080) :
  ∀ k,k<=n->gx d q k=true∧((iV (gq d q k)).natAbs:Int)<=2^(b+3)∧LB (gs d q k) b
 | 0,_=>⟨rfl,oV bq (by omega),fun i hi=>absurd hi (Nat.not_lt_zero _)⟩
 | k+1,hk=>by
  obtain⟨h1,h2,h3⟩:=He hd hq pq bd bq hb k (by omega)
  have hfin:∀ i,i<n->ag (d i)∧ak (d i)=true:=fun i hi=>⟨(hd.fin i hi).1,(hd.fin i hi).2.1⟩
  obtain⟨r1,r2⟩:=kU hfin hq pq k (by omega) h1
  obtain⟨d1,d2⟩:=hfin k (by omega)
  have b1:=bd k (by omega)
  have hM:=mA
  have p1:(2:Int)^(b+3+1)<=2^2097:=jB (by omega)
  have p2':(2:Int)^(b+1)<=2^2097:=jB (by omega)
  rw[fG] at p1 p2'
  obtain⟨f1,f2⟩:=tF r1 d1 r2 d2 (by omega) (by omega)
  have nr:=nR r1 d1 f2
  have hx:gx d q (k+1)=true:=by
   show(gx d q k&&ak (gl d q k))=true
   rw[h1];exact f2
  have e:=(kj r1 d1 f2).2.2
  have hl:=tG (fJ (gq d q k)) nr
  have hLB:LB (gs d q (k+1)) b:=by
   show LB ((gs d q k).add (gl d q k)) b
   refine h3.add ?_
   show((iV (sL (gq d q k) (d k))).natAbs:Int)<=_
   have:iV (sL (gq d q k) (d k))=iV (gq d q k)+iV (d k)-iV (aF (gq d q k) (d k)):=by omega
   rw[this]
   omega
  refine⟨hx,?_,hLB⟩
  have pb:(2:Int)^(b+1)=2*2^b:=fG b
  have pp:=p2 b
  have g1:=tH (AA hd hq pq (k+1) hk hx).xv (t:=b+1) (fun i hi=>by have:=hLB i hi;omega)
  have hxk:XV d (k+1):=⟨fun i hi=>hd.fin i (by omega),fun i hi=>hd.lo i (by omega)⟩
  have g2:=tH hxk (t:=b+1) (fun i hi=>by have:=bd i (by omega);omega)
  have g3:=AC hfin hq pq (k+1) hk hx
  have p8:(2:Int)^(b+3)=8*2^b:=by rw[show b+3=b+1+1+1 by omega,fG,fG,fG];omega
  rw[p8]
  omega
theorem uM {s:Ls} {f:Nat->Int} {m b:Nat} (hs:XV s.d s.n) (hf:∀ i,i<m->ag (f i)∧ak (f i)=true) (bs:LB s b) (bf:∀ i,i<m->((iV (f i)).natAbs:Int)<=2^b) (hb:b+3*m<=2080) :
  ∀ k,k<=m->fe s f k=true∧XV (dw s f k).d (dw s f k).n∧LB (dw s f k) (b+3*k)∧dM (dw s f k).d (dw s f k).n=dM s.d s.n+dM f k
 | 0,_=>⟨rfl,hs,bs,by show dM s.d s.n=dM s.d s.n+0;omega⟩
 | k+1,hk=>by
  obtain⟨h1,h2,h3,h4⟩:=uM hs hf bs bf hb k (by omega)
  obtain⟨f1,f2⟩:=hf k (by omega)
  obtain⟨g1,g2,g3⟩:=He h2 f1 f2 h3 (oV (bf k (by omega)) (by omega)) (by omega) (dw s f k).n (Nat.le_refl _)
  rw[lk,oq,h1,g1,iL]
  refine⟨rfl,Pa h2 f1 f2 g1,?_,?_⟩
  ·show LB ((gs (dw s f k).d (f k) (dw s f k).n).add (gq (dw s f k).d (f k) (dw s f k).n)) _
   exact LB.add (fun i hi=>oV (g3 i hi) (by omega)) (oV g2 (by omega))
  ·rw[Nc h2.fn f1 f2 g1,h4]
   omega
theorem Hf {d f:Nat->Int} {n m:Nat} (hd:XV d n) (hm:∀ j,j<n->mc (d j)) (hn:n<=6) (hf:∀ j,j<m->mc (f j)) (hm6:m<=6) :
  ∀ k,k<=m->lT d n f k=true∧XV (ji d n f k).d (ji d n f k).n∧LB (ji d n f k) (1480+36*k)∧2^1074*dM (ji d n f k).d (ji d n f k).n=dM d n*dM f k
 | 0,_=>⟨rfl,⟨fun i hi=>absurd hi (Nat.not_lt_zero _),fun i hi=>absurd hi (Nat.not_lt_zero _)⟩,fun i hi=>absurd hi (Nat.not_lt_zero _),by show 2^1074*(0:Int)=_*0;rw[Int.mul_zero,Int.mul_zero]⟩
 | k+1,hk=>by
  obtain⟨h1,h2,h3,h4⟩:=Hf hd hm hn hf hm6 k (by omega)
  obtain⟨s1,s2,s3,s4⟩:=JZ hd hm (hf k (by omega))
  have hl:=wY d (f k) n
  obtain⟨g1,g2,g3,g4⟩:=uM h2 s2.fn (b:=1480+36*k) h3 (fun i hi=>oV (s3 i hi) (by omega)) (m:=(eI d (f k) n).n) (by omega) (eI d (f k) n).n (Nat.le_refl _)
  rw[ro,rj,h1,s1,g1,iL]
  refine⟨rfl,g2,fun i hi=>oV (g3 i hi) (by omega),?_⟩
  rw[g4,Int.mul_add,h4,s4,Int.mul_add]
theorem Kb {d:Nat->Int} {n:Nat} (h:XV d (n+1)):(0<dM d (n+1)↔0<iV (d n))∧(dM d (n+1)<0↔iV (d n)<0):=by
 have hne:=h.ne (show n<n+1 by omega)
 cases n with
 | zero=>
  have:dM d 1=iV (d 0):=by rw[iL];show 0+_=_;omega
  rw[this];exact⟨Iff.rfl,Iff.rfl⟩
 | succ n=>
  obtain⟨s,h1,h2⟩:=h.lo n (by omega)
  have ih:=ow (n:=n) ⟨fun i hi=>h.fin i (by omega),fun i hi=>h.lo i (by omega)⟩ s h1
  have hge:=jC h2 hne (p2 s)
  rw[iL]
  omega
def Mz (x:Int):Prop:=ag x∧ak x=true∧(2^872:Int) ∣ iV x∧((iV x).natAbs:Int)<=2^1224
theorem nS {x:Int} (hx:ag x) (ht:dC x=true):Mz x:=by
 rw[qt hx] at ht
 by_cases h0:rg x=0
 ·have hc:=(vM hx).2 h0
  have hp:ak x=true:=by
   cases hp:ak x
   ·exfalso
    have hf:bQ x=2047:=by simpa [ak] using hp
    unfold aH at hc
    rw[if_pos hf] at hc
    split at hc<;>omega
   ·rfl
  rw[Mz,yl hx h0]
  exact⟨hx,hp,⟨0,by rw[Int.mul_zero]⟩,by have:=p2 1224;show(((0:Int).natAbs:Nat):Int)<=_;omega⟩
 ·have hz:decide (rg x=0)=false:=decide_eq_false h0
  rw[hz,Bool.false_or,Bool.and_eq_true] at ht
  have h1:=of_decide_eq_true ht.1
  have h2:=of_decide_eq_true ht.2
  have hf0:bQ x≠2047:=by omega
  have hf1:bQ x≠0:=by omega
  have hp:ak x=true:=by simp[ak,hf0]
  have hfr:=lI x
  have e1:aN x=4503599627370496+cA x:=by unfold aN;rw[if_neg hf0,if_neg hf1]
  have e2:bh x=bQ x-1075:=by unfold bh;rw[if_neg hf0,if_neg hf1]
  have hm:aN x<=2^53:=by
   rw[e1]
   show _<=9007199254740992
   omega
  refine⟨hx,hp,?_,?_⟩
  ·apply Int.dvd_natAbs.1
   rw[kE hx hp]
   exact Int.dvd_trans (dI (show 872<=(bh x+1074).toNat by rw[e2];omega)) ⟨aN x,by rw[Int.mul_comm]⟩
  ·rw[kE hx hp]
   have p1:(2:Int)^(bh x+1074).toNat<=2^1171:=jB (by rw[e2];omega)
   have p0:=p2 (bh x+1074).toNat
   calc aN x*2^(bh x+1074).toNat<=2^53*2^(bh x+1074).toNat:=Int.mul_le_mul_of_nonneg_right hm (by omega)
    _<=2^53*2^1171:=Int.mul_le_mul_of_nonneg_left p1 (by decide)
    _=2^1224:=by rw[<- Int.pow_add]
def dY (p q:Int):Ls:=((⟨0,fun _=>0⟩:Ls).add (sL p (neg q))).add (aF p (neg q))
theorem AH {p q:Int} (hp:Mz p) (hq:Mz q):ak (aF p (neg q))=true∧ak (sL p (neg q))=true:=by
 obtain⟨n1,n2,n3⟩:=gM hq.1 hq.2.1
 have hM:=mA
 have h1:(2:Int)^1225<=2^2097:=jB (by decide)
 have h2:(2:Int)^1225=2*2^1224:=fG 1224
 have a:=hp.2.2.2
 have b:=hq.2.2.2
 exact tF hp.1 n1 hp.2.1 n2 (by omega) (by rw[n3];omega)
theorem tJ {p q:Int} (hp:Mz p) (hq:Mz q):XV (dY p q).d (dY p q).n∧(∀ j,j<(dY p q).n->mc ((dY p q).d j))∧(dY p q).n<=2∧dM (dY p q).d (dY p q).n=iV p-iV q:=by
 obtain⟨n1,n2,n3⟩:=gM hq.1 hq.2.1
 obtain⟨f1,f2⟩:=AH hp hq
 have nr:=nR hp.1 n1 f2
 have e:=(kj hp.1 n1 f2).2.2
 have rh:=aT hp.1 n1
 have rl:ag (sL p (neg q)):=kT hp.1 n1
 have hl:=tG (fJ p) nr
 have z:=nr.2 0 dA
 have dS:(2^872:Int) ∣ iV p+iV (neg q):=by
  rw[n3]
  exact Int.dvd_add hp.2.2.1 (Int.dvd_neg.2 hq.2.2.1)
 have dh:=iU nr dS
 have el:iV (sL p (neg q))=iV p+iV (neg q)-iV (aF p (neg q)):=by omega
 have dl:(2^872:Int) ∣ iV (sL p (neg q)):=by rw[el];exact Int.dvd_sub dS dh
 have a:=hp.2.2.2
 have b:=hq.2.2.2
 have pw1:(2:Int)^1226<=2^1250:=jB (by decide)
 have pw2:(2:Int)^1226=4*2^1224:=by rw[show 1226=1224+1+1 by decide,fG,fG];omega
 have up:(2^822:Int) ∣ 2^872:=dI (by decide)
 have x0:XV (⟨0,fun _=>0⟩:Ls).d (⟨0,fun _=>0⟩:Ls).n:=⟨fun i hi=>absurd hi (Nat.not_lt_zero _),fun i hi=>absurd hi (Nat.not_lt_zero _)⟩
 have x1:=x0.add (b:=sL p (neg q)) rl f2 (fun i hi=>absurd hi (Nat.not_lt_zero _))
 refine⟨x1.add rh f1 ?_,?_,?_,?_⟩
 ·refine jI (fun x=>Lo (iV x) (iV (aF p (neg q)))) (fun i hi=>absurd hi (Nat.not_lt_zero _)) fun hz=>?_
  have hne:=(ja rl f2 hz).1
  obtain⟨u,h1,h2⟩:=nP nr (fun c=>hne (by omega))
  rw[<- el] at h2
  exact⟨u,h2,h1⟩
 ·refine jI mc (jI mc (fun i hi=>absurd hi (Nat.not_lt_zero _)) fun hz=>?_) fun hz=>?_
  ·exact⟨rl,f2,hz,Int.dvd_trans up dl,by rw[n3] at *;omega⟩
  ·exact⟨rh,f1,hz,Int.dvd_trans up dh,by rw[n3] at *;omega⟩
 ·have h1:=((⟨0,fun _=>0⟩:Ls).add_le (sL p (neg q))).2
  have h2:=(((⟨0,fun _=>0⟩:Ls).add (sL p (neg q))).add_le (aF p (neg q))).2
  have h1':((⟨0,fun _=>0⟩:Ls).add (sL p (neg q))).n<=0+1:=h1
  show(((⟨0,fun _=>0⟩:Ls).add (sL p (neg q))).add (aF p (neg q))).n<=2
  omega
 ·show dM (((⟨0,fun _=>0⟩:Ls).add (sL p (neg q))).add (aF p (neg q))).d (((⟨0,fun _=>0⟩:Ls).add (sL p (neg q))).add (aF p (neg q))).n=_
  rw[kF rh,kF rl]
  show(0:Int)+_+_=_
  omega
def Un (S h:Int):Prop:=9007199254740992*((h-S).natAbs:Int)<=(S.natAbs:Int)∧9007199254740992*((h-S).natAbs:Int)<=(h.natAbs:Int)
theorem yr {S h:Int} (n:Nr S h) (h0:0<=S):Un S h:=by
 obtain⟨k,h1,h2⟩:=vB S h0
 rcases h2 with h2|h2
 ·subst h2
  have e:=bt ⟨0,⟨S,by rw[Int.pow_zero];omega⟩,by omega⟩ n
  subst e
  rw[Un,Int.sub_self]
  simp
 ·have c:=mP n (i:=k) (by omega)
  have g:=vD n (vE k (m:=4503599627370496) (by decide)) h2
  have p0:=p2 k
  generalize (2:Int)^k=q at *
  have g':4503599627370496*q<=h:=g
  constructor<;>omega
theorem Lu {S h:Int} (n:Nr S h):Un S h:=by
 by_cases h0:0<=S
 ·exact yr n h0
 ·have:=yr n.neg (by omega)
  unfold Un at *
  omega
theorem Un.scale {S h:Int} (u:Un S h) {c:Int} (hc:0<=c):Un (c*S) (c*h):=by
 have e:∀ x:Int,((c*x).natAbs:Int)=c*(x.natAbs:Int):=fun x=>by
  rw[Int.natAbs_mul,Int.natCast_mul]
  congr 1
  omega
 rw[Un,<- Int.mul_sub,e,e,e,<- Int.mul_assoc,Int.mul_comm 9007199254740992 c,Int.mul_assoc]
 exact⟨Int.mul_le_mul_of_nonneg_left u.1 hc,Int.mul_le_mul_of_nonneg_left u.2 hc⟩
theorem xf (x y:Int):((x*y).natAbs:Int)=(x.natAbs:Int)*(y.natAbs:Int):=by rw[Int.natAbs_mul,Int.natCast_mul]
theorem Hg {u e v:Int} (h:9007199254740992*(e.natAbs:Int)<=(u.natAbs:Int)):9007199254740992*((e*v).natAbs:Int)<=((u*v).natAbs:Int):=by
 rw[xf,xf,<- Int.mul_assoc]
 exact Int.mul_le_mul_of_nonneg_right h (by omega)
theorem Hh {u e v:Int} (h:9007199254740992*(e.natAbs:Int)<=(u.natAbs:Int)):9007199254740992*((v*e).natAbs:Int)<=((v*u).natAbs:Int):=by
 rw[Int.mul_comm v e,Int.mul_comm v u]
 exact Hg h
theorem AI {x y u v:Int} (hu:Un x u) (hv:Un y v):81129638414606681695789005144064*((x*y-u*v).natAbs:Int)<=18014398509481985*((u*v).natAbs:Int):=by
 obtain⟨e,he⟩:∃ e,x=u+e:=⟨x-u,by omega⟩
 obtain⟨f,hf⟩:∃ f,y=v+f:=⟨y-v,by omega⟩
 have h1:9007199254740992*(e.natAbs:Int)<=(u.natAbs:Int):=by have:=hu.2;omega
 have h2:9007199254740992*(f.natAbs:Int)<=(v.natAbs:Int):=by have:=hv.2;omega
 have a1:=Hg (v:=v) h1
 have a2:=Hh (v:=u) h2
 have a3:=Hh (v:=e) h2
 have ee:x*y-u*v=u*f+e*v+e*f:=by
  rw[he,hf,Int.add_mul,Int.mul_add,Int.mul_add]
  omega
 rw[ee]
 generalize u*f=A at *
 generalize e*v=B at *
 generalize e*f=C at *
 generalize u*v=D at *
 omega
theorem Hi {x1 y1 x2 y2 u1 v1 u2 v2 L R S:Int} (h1:Un x1 u1) (h2:Un y2 v2) (h3:Un y1 v1) (h4:Un x2 u2) (hL:Un (u1*v2) L) (hR:Un (v1*u2) R) (hS:Un ((L.natAbs:Int)+(R.natAbs:Int)) S) :
  9007199254740992*(((u1*v2).natAbs:Int)+((v1*u2).natAbs:Int))<=9007199254740993*((L.natAbs:Int)+(R.natAbs:Int))∧9007199254740992*((L.natAbs:Int)+(R.natAbs:Int))<=9007199254740993*S∧0<=S ∧
  81129638414606681695789005144064*(((x1*y2-y1*x2)-(u1*v2-v1*u2)).natAbs:Int)<=18014398509481985*(((u1*v2).natAbs:Int)+((v1*u2).natAbs:Int)):=by
 have d1:=AI h1 h2
 have d2:=AI h3 h4
 have l:=hL.2
 have r:=hR.2
 have s:=hS.2
 have s':=hS.1
 generalize u1*v2=A at *
 generalize v1*u2=B at *
 generalize x1*y2=C at *
 generalize y1*x2=D at *
 refine⟨by omega,by omega,by omega,by omega⟩
theorem Sj {X Z D:Int} (hD:Un Z D) (h:((X-Z).natAbs:Int)<(Z.natAbs:Int)):(0<X↔0<D)∧(X<0↔D<0):=by
 have d:=hD.1
 omega
theorem QK {X H Z:Int}:((X-Z).natAbs:Int)<=((X-H).natAbs:Int)+((H-Z).natAbs:Int):=by omega
theorem QL {A B L R:Int} (hA:Un A L) (hB:Un B R):9007199254740992*(((A-B)-(L-R)).natAbs:Int)<=(L.natAbs:Int)+(R.natAbs:Int):=by
 have a:=hA.2
 have b:=hB.2
 omega
theorem QM {A:Int} (h:81129638414606681695789005144064*(A.natAbs:Int)<=0):A=0:=by omega
theorem Lv {A L:Int} (h:Un A L) (l:L=0):A=0:=by
 have:=h.2
 omega
theorem Sk {L R S:Int} (h:9007199254740992*((L.natAbs:Int)+(R.natAbs:Int))<=9007199254740993*0):L=0∧R=0:=by omega
theorem QN {X A B L R:Int} (hA:Un A L) (hB:Un B R) (s0:9007199254740992*((L.natAbs:Int)+(R.natAbs:Int))<=9007199254740993*0)
  (hX:81129638414606681695789005144064*((X-(A-B)).natAbs:Int)<=18014398509481985*((A.natAbs:Int)+(B.natAbs:Int))):L=0∧R=0∧A=0∧B=0∧X=0:=by
 obtain⟨l,r⟩:=Sk (S:=0) s0
 have a:=Lv hA l
 have b:=Lv hB r
 rw[a,b] at hX
 have x:=QM (A:=X-(0-0)) hX
 exact⟨l,r,a,b,by omega⟩
theorem Pg {X D:Int} (x:X=0) (hD:Un (0-0) D):(0<X↔0<D)∧(X<0↔D<0):=by
 have:=hD.1
 omega
structure Fx (a b:Nat) (x:Int):Prop where
 r:ag x
 p:ak x=true
 d:(2^a:Int) ∣ iV x
 b:((iV x).natAbs:Int)<=2^b
theorem Mz.fx {x:Int} (h:Mz x):Fx 872 1224 x:=⟨h.1,h.2.1,h.2.2.1,h.2.2.2⟩
theorem Fx.neg {a b:Nat} {x:Int} (h:Fx a b x):Fx a b (neg x)∧iV (neg x)=-iV x:=by
 obtain⟨n1,n2,n3⟩:=gM h.r h.p
 refine⟨⟨n1,n2,?_,?_⟩,n3⟩
 ·rw[n3];exact Int.dvd_neg.2 h.d
 ·rw[n3,Int.natAbs_neg];exact h.b
theorem Lw {S x:Int} (h:Un S x):(x.natAbs:Int)<=2*(S.natAbs:Int):=by
 have:=h.1
 omega
theorem Lx {a b m:Int} {k:Nat} (h1:a<=2^k) (hk:k+1<=2097) (hm:(2:Int)^2097<=m):2*a<=m:=by
 have e:=fG k
 have f:(2:Int)^(k+1)<=2^2097:=jB hk
 omega
theorem Fx.sum {a b:Nat} {x y:Int} (hx:Fx a b x) (hy:Fx a b y) (hb:b+1<=2097):Fx a (b+2) (aF x y)∧Un (iV x+iV y) (iV (aF x y)):=by
 obtain⟨f1,f2⟩:=tF hx.r hy.r hx.p hy.p (Lx (b:=0) hx.b hb mA) (Lx (b:=0) hy.b hb mA)
 have nr:=nR hx.r hy.r f2
 have u:=Lu nr
 refine⟨⟨aT hx.r hy.r,f1,iU nr (Int.dvd_add hx.d hy.d),?_⟩,u⟩
 have h2:=Lw u
 have e1:=hx.b
 have e2:=hy.b
 rw[show b+2=b+1+1 by omega,fG,fG]
 omega
theorem QO {x y:Int} {b d:Nat} (h1:(x.natAbs:Int)<=2^b) (h2:(y.natAbs:Int)<=2^d):((x*y).natAbs:Int)<=2^(b+d):=by
 have:=iD h1 h2
 rwa [<- Int.pow_add] at this
theorem Fx.prod {a b c d:Nat} {x y:Int} (hx:Fx a b x) (hy:Fx c d y) (h1:1074<=a+c) (h2:1074<=b+d) (h3:b+d-1074<=2097) :
  Fx (a+c-1074) (b+d-1074+1) (aC x y)∧Un (iV x*iV y) (2^1074*iV (aC x y))∧∃ T,2^1074*T=iV x*iV y∧Un T (iV (aC x y)):=by
 have dd:(2^(a+c):Int) ∣ iV x*iV y:=by
  rw[Int.pow_add]
  exact Int.mul_dvd_mul hx.d hy.d
 obtain⟨k,hk⟩:=dd
 have e0:(2:Int)^(a+c)=2^1074*2^(a+c-1074):=by rw[<- Int.pow_add,show 1074+(a+c-1074)=a+c by omega]
 have hT:2^1074*(2^(a+c-1074)*k)=iV x*iV y:=by rw[hk,e0,Int.mul_assoc]
 have b1:=QO hx.b hy.b
 rw[<- hT,fd,show b+d=1074+(b+d-1074) by omega,Int.pow_add] at b1
 have b2:(((2^(a+c-1074)*k:Int)).natAbs:Int)<=2^(b+d-1074):=Int.le_of_mul_le_mul_left b1 (p2 1074)
 have s:=fw hx.r hy.r hx.p hy.p hT
 have f:ak (aC x y)=true:=s.fin (Int.le_trans b2 (Int.le_trans (jB h3) mA))
 have nr:=s.nr f
 have u:=Lu nr
 refine⟨⟨bc hx.r hy.r,f,iU nr ⟨k,rfl⟩,?_⟩,?_,_,hT,u⟩
 ·have:=Lw u
  rw[fG]
  omega
 ·rw[<- hT]
  exact u.scale (Int.le_of_lt (p2 1074))
theorem vQ {x:Int} (h:ag x):rg (rg x)=rg x:=by unfold ag rg at *;split<;>(try split)<;>omega
theorem Fx.abs {a b:Nat} {x:Int} (h:Fx a b x):Fx a b (rg x)∧iV (rg x)=((iV x).natAbs:Int):=by
 obtain⟨q1,q2⟩:=jN h.r
 have e:iV (rg x)=((iV x).natAbs:Int):=by
  rw[mR,iV,decide_eq_false (by omega),vQ h.r]
  rfl
 refine⟨⟨q1,?_,?_,?_⟩,e⟩
 ·rw[lq q1,vQ h.r,<- lq h.r];exact h.p
 ·rw[e];exact Int.dvd_natAbs.2 h.d
 ·rw[e,Int.natAbs_natCast];exact h.b
theorem Mz.diff {p q:Int} (hp:Mz p) (hq:Mz q):Fx 872 1226 (aF p (neg q))∧Un (iV p-iV q) (iV (aF p (neg q))):=by
 obtain⟨n,ne⟩:=hq.fx.neg
 obtain⟨s,su⟩:=hp.fx.sum n (by decide)
 rw[ne] at su
 exact⟨s,su⟩
theorem Nj {p m:Int} {n:Nat} (hr:ag p) (hp:ak p=true) (h0:0<=p) (hm:aN p=m*4) (he:bh p+1074=n) (m0:0<=m):iV p=m*2^(n+2):=by
 have e:=kE hr hp
 rw[hm,he,Int.toNat_natCast] at e
 have s:0<=iV p:=by
  rw[iV,decide_eq_false (by omega)]
  exact Int.natCast_nonneg _
 rw[show n+2=n+1+1 by omega,fG,fG]
 have q:=p2 n
 have:m*(2*(2*2^n))=m*4*2^n:=by rw[<- Int.mul_assoc 2 2,<- Int.mul_assoc,show(2:Int)*2=4 from rfl]
 omega
theorem AJ {S:Int} {q:Int} (hq:0<=q):((q*S).natAbs:Int)=q*(S.natAbs:Int):=by
 rw[xf]
 congr 1
 omega
theorem Hj {q x:Int} (hq:0<q):(0<q*x↔0<x)∧(q*x<0↔x<0):=by
 rcases Int.lt_trichotomy x 0 with h|h|h
 ·have:q*x<0:=Int.mul_neg_of_pos_of_neg hq h
  omega
 ·rw[h,Int.mul_zero]
  exact⟨Iff.rfl,Iff.rfl⟩
 ·have:0<q*x:=Int.mul_pos hq h
  omega
end Go.Proofs.YtjjihmnbdeeedaaGreatDoor
namespace Go.Proofs.YtjjihmnbdeeedaaGreatDoor
open Go Go.Proofs.Tryz Go.RowKit Go.Proofs.YtjjihmnbdeeedaaGreatDoor.M Ieee
theorem AK {b:Int} {m u:Nat} (hb:ag b) (hp:ak b=true) (h:Ieee.double.read (wd b)=.number (decide (b<0)) m (-1074+(u:Int))):m<9007199254740992∧u<=2046:=by
 obtain⟨h0,h1⟩:=yX hb hp
 have hw:((wd b % 9223372036854775808:Nat):Int)=rg b:=pK hb
 unfold Format.read at h
 rw[js,mu,oe,vy] at h
 dsimp only at h
 split at h
 ·rename_i h2
  simp only[Datum.number.injEq] at h
  obtain⟨_,h3,h4⟩:=h
  exact⟨by omega,by omega⟩
 ·rw[if_pos (by omega)] at h
  have hm:=Nat.mod_lt (wd b % 9223372036854775808) (show 0<4503599627370496 by decide)
  have hd:wd b % 9223372036854775808/4503599627370496<=2047:=by omega
  simp only[Datum.number.injEq] at h
  obtain⟨_,h3,h4⟩:=h
  exact⟨by omega,by omega⟩
theorem yQ {S t base:Int} (hb:-4194304<=base) (hS:t*pw base=S) (h0:S≠0):Ieee.double.nearest (decide (t<0)) t.natAbs base=wd (bT S):=by
 obtain⟨A,r0,left,a1,a2,a3⟩:=qS hb hS h0
 obtain⟨B,s0,k,b1,b2,b3⟩:=iA h0
 have hAB:=lR (a1.symm.trans b1)
 subst hAB
 obtain⟨h2,h3⟩:=a2.unique b2
 subst h2 h3
 rw[a3,b3]
def oD (p q r:Int):Int:=sg (bN p q) (fV p q)+aq r
theorem Kc {p q r:Int} (hp:ag p) (hq:ag q) (hr:ag r) (pp:ak p=true) (pq:ak q=true) (pr:ak r=true) :
  Ieee.double.fma (wd p) (wd q) (wd r)=some (wd (if oD p q r=0 then aG (bN p q&&decide (r<0)) 0 else bT (oD p q r))):=by
 obtain⟨m,u,h1,v1⟩:=dV hp pp
 obtain⟨n,v,h2,v2⟩:=dV hq pq
 obtain⟨l,x,h3,v3⟩:=dV hr pr
 obtain⟨i,hi⟩:∃ i:Int,-1074+(u:Int)+(-1074+(v:Int))=i:=⟨_,rfl⟩
 obtain⟨j,hj⟩:∃ j:Int,-1074+(x:Int)=j:=⟨_,rfl⟩
 have hpm:=oh (a:=-1074+(u:Int)) (b:=-1074+(v:Int)) (by omega) (by omega)
 have hC:=sU (g:=decide (p<0)) (h:=decide (q<0)) (x:=(m:Int)) (y:=(n:Int)) hpm
 rw[<- v1,<- v2,hi] at hC
 have hcast:((m*n:Nat):Int)=(m:Int)*(n:Int):=by push_cast;rfl
 have hf:fV p q=((m*n:Nat):Int)*pw i:=by rw[hcast];exact uG (aR 4194304) hC
 obtain⟨base,hbase⟩:∃ base,min i j=base:=⟨_,rfl⟩
 have hB:-4194304<=base:=by omega
 obtain⟨t,ht⟩:∃ t,signed (bN p q) (m*n) (i-base).toNat+signed (decide (r<0)) l (j-base).toNat=t:=⟨_,rfl⟩
 have hfma:Ieee.double.fma (wd p) (wd q) (wd r)=some (Ieee.double.nearest (if t=0 then bN p q&&decide (r<0) else decide (t<0)) t.natAbs base):=by
  unfold Format.fma
  rw[h1,h2,h3]
  unfold Datum.product
  dsimp only
  rw[hi,hj,vz]
  show Option.map Ieee.double.write (Datum.sum (.number (bN p q) (m*n) i) (.number (decide (r<0)) l j))=_
  unfold Datum.sum
  dsimp only
  rw[hbase,ht]
  rfl
 have s1:=lv (bN p q) (m*n) (i-base).toNat (i:=i) (base:=base) (by omega) hB
 have s2:=lv (decide (r<0)) l (j-base).toNat (i:=j) (base:=base) (by omega) hB
 rw[hj] at v3
 rw[<- hf] at s1
 rw[<- v3] at s2
 have hS:t*pw base=oD p q r:=by
  unfold oD
  rw[<- ht,Int.add_mul,s1,s2]
 rw[hfma]
 by_cases h:oD p q r=0
 ·have ht0:t=0:=(pG (bR base)).2 (hS.trans h)
  rw[if_pos h,ht0,if_pos rfl]
  unfold Format.nearest
  rw[if_pos (show Int.natAbs 0=0 from rfl)]
  have:=mw (ng:=bN p q&&decide (r<0)) (r:=0) (by decide) (by decide)
  rw[<- this]
  rfl
 ·have ht0:t≠0:=fun e=>h (by rw[<- hS,e,Int.zero_mul])
  rw[if_neg h,if_neg ht0,yQ hB hS h]
def DB (way V p:Int):Prop:=∃ (A:Int) (r0:Nat) (left:Int),V=sg (decide (V<0)) A∧fi A r0 left∧p=aG (decide (V<0)) (bF way (decide (V<0)) r0 left)
theorem DB.unique {way V p q:Int} (h:DB way V p) (k:DB way V q):p=q:=by
 obtain⟨A,r0,l,h1,h2,h3⟩:=h
 obtain⟨B,s0,m,k1,k2,k3⟩:=k
 have hAB:=lR (h1.symm.trans k1)
 subst hAB
 obtain⟨e1,e2⟩:=h2.unique k2
 subst e1 e2
 rw[h3,k3]
theorem Nk {way:Int} {ng sd:Bool} {M e:Int} (hv:0<M) (he:-4194304<=e) :
  ∃ (r0:Nat) (left:Int),fi (M*pw e) r0 left∧mO way ng sd (M/2^vK M).toNat (e+vK M) (decide (M % 2^vK M≠0))=(aG (ng&&(decide (0<bF way ng r0 left)||sd)) (bF way ng r0 left),decide (left≠0)||decide (9218868437227405312<=(r0:Int))):=by
 have hsm:=qP (Int.le_of_lt hv)
 have hb:=iJ hv
 have hp:=aR (vK M)
 have hge:2^(aQ M-1-vK M)<=M/2^vK M:=by
  rw[Int.le_ediv_iff_mul_le hp,<- Int.pow_add]
  by_cases hk:vK M<=aQ M-1
  ·rw[show aQ M-1-vK M+vK M=aQ M-1 by omega]
   exact hb.2
  ·exfalso;unfold vK at hk;omega
 have hpos:=aR (aQ M-1-vK M)
 have e64:(2:Nat)^64=18446744073709551616:=by decide
 have e60:(2:Nat)^60=1152921504606846976:=by decide
 refine zU (zV (Int.le_of_lt hv) (by omega) _) (by omega) (by omega) (by omega) (fun hc=>?_)
 have hk0:0<vK M:=by
  rcases Nat.eq_zero_or_pos (vK M) with h|h
  ·rw[h,Int.pow_zero,Int.emod_one] at hc;simp at hc
  ·exact h
 have h61:aQ M-1-vK M=61:=by unfold vK at hk0 ⊢;omega
 rw[h61] at hge
 have e61:(2:Int)^61=2305843009213693952:=by decide
 rw[e61] at hge
 omega
theorem tK {ng:Bool} {A:Int} (h:0<A):decide (sg ng A<0)=ng:=by
 cases ng
 ·exact decide_eq_false (by show ¬ A<0;omega)
 ·exact decide_eq_true (by show -A<0;omega)
theorem Ly {way V:Int} {ng:Bool} {M e:Int} (hV:V=sg ng (M*pw e)) (hv:0<M) (he:-4194304<=e) :
  DB way V (mO way ng true (M/2^vK M).toNat (e+vK M) (decide (M % 2^vK M≠0))).1:=by
 obtain⟨r0,left,h1,h2⟩:=Nk (way:=way) (ng:=ng) (sd:=true) hv he
 have hA:0<M*pw e:=Int.mul_pos hv (bR e)
 have hn:decide (V<0)=ng:=by rw[hV];exact tK hA
 refine⟨M*pw e,r0,left,by rw[hn];exact hV,h1,?_⟩
 rw[h2,hn]
 simp
def fH (way V:Int):Int:=(mO way (decide (V<0)) true ((V.natAbs:Int)/2^vK (V.natAbs:Int)).toNat (-4194304+vK (V.natAbs:Int)) (decide ((V.natAbs:Int) % 2^vK (V.natAbs:Int)≠0))).1
theorem AL (way:Int) {V:Int} (h:V≠0):DB way V (fH way V):=by
 refine Ly ?_ (by omega) (Int.le_refl _)
 rw[Ae,Int.mul_one]
 by_cases hn:V<0
 ·rw[decide_eq_true hn];show V=-(V.natAbs:Int);omega
 ·rw[decide_eq_false hn];show V=(V.natAbs:Int);omega
theorem tb {way V p:Int} (h0:V≠0) (h:DB way V p):fH way V=p:=(AL way h0).unique h
theorem Kd {V:Int} (h:V≠0):fH 0 V=bT V:=by
 obtain⟨A,r0,left,h1,h2,h3⟩:=iA h
 exact tb h ⟨A,r0,left,h1,h2,h3⟩
theorem Ph {way V:Int} {ng:Bool} {m e:Int} (hy:Dy V ng m e) (h0:V≠0) (he:-4194304<=e) :
  (mO way ng true (m/2^vK m).toNat (e+vK m) (decide (m % 2^vK m≠0))).1=fH way V:=by
 have hm:0<m:=by
  rcases hy.form with⟨f1,_⟩|⟨f1,_⟩
  ·exact absurd (hy.eq_zero.2 f1) h0
  ·exact f1
 refine(tb h0 (Ly ?_ hm he)).symm
 rw[hy.val]
 cases ng
 ·rfl
 ·show -m*pw e=-(m*pw e);rw[Int.neg_mul]
theorem nU (way:Int) {V:Int} (h:V≠0):ag (fH way V)∧aH (fH way V)≠4:=by
 obtain⟨A,r0,left,_,_,h3⟩:=AL way h
 rw[h3]
 have:=dJ way (decide (V<0)) r0 left
 exact jA this.1 this.2
theorem Hk {p q:Int} (rp:ag p) (rq:ag q) (p0:0<=rg p) (p1:rg p<=9218868437227405312) (q0:0<=rg q) (q1:rg q<=9218868437227405312) (h:rg p=9218868437227405312∨rg q=9218868437227405312) :
  Datum.product (Ieee.double.read (wd p)) (Ieee.double.read (wd q))=if rg p=0∨rg q=0 then none else some (.infinity (bN p q)):=by
 have hX:(decide (p<0) ^^ decide (q<0))=bN p q:=vz _ _
 have hX2:(decide (q<0) ^^ decide (p<0))=bN p q:=by rw[<- hX];cases decide (p<0)<;>cases decide (q<0)<;>rfl
 by_cases ip:rg p=9218868437227405312
 ·have ep:=fv rp ip
  by_cases iq:rg q=9218868437227405312
  ·rw[if_neg (by omega),ep,fv rq iq,<- hX]
   rfl
  ·have pq:=(bM rq).2 (by omega)
   obtain⟨m,u,eq,vq⟩:=dV rq pq
   have hz:=qT rq pq vq
   rw[ep,eq]
   unfold Datum.product
   dsimp only
   by_cases hm:m=0
   ·rw[if_pos hm,if_pos (.inr (hz.1 hm))]
   ·rw[if_neg hm,if_neg (fun h=>by rcases h with h|h;omega;exact hm (hz.2 h)),hX]
 ·have iq:rg q=9218868437227405312:=by omega
  have pp:=(bM rp).2 (by omega)
  obtain⟨m,u,ep,vp⟩:=dV rp pp
  have hz:=qT rp pp vp
  have eq:=fv rq iq
  rw[ep,eq]
  unfold Datum.product
  dsimp only
  by_cases hm:m=0
  ·rw[if_pos hm,if_pos (.inl (hz.1 hm))]
  ·rw[if_neg hm,if_neg (fun h=>by rcases h with h|h;exact hm (hz.2 h);omega),hX2]
def gC (p q r:Int):Int :=
 if aH p=4∨aH q=4∨aH r=4 then 9221120237041090561
 else if rg p=9218868437227405312∨rg q=9218868437227405312 then
  if rg p=0∨rg q=0 then 9221120237041090561
  else if rg r=9218868437227405312∧¬ bN p q=decide (r<0) then 9221120237041090561 else aG (bN p q) 9218868437227405312
 else if rg r=9218868437227405312 then r
 else if oD p q r=0 then aG (bN p q&&decide (r<0)) 0 else bT (oD p q r)
theorem Pi {p q r:Int} {x y z:Nat} (hx:FW p x) (hy:FW q y) (hz:FW r z):(∃ t,Ieee.double.fma x y z=some t∧FW (gC p q r) t)∨(Ieee.double.fma x y z=none∧gC p q r=9221120237041090561):=by
 by_cases h4:aH p=4∨aH q=4∨aH r=4
 ·right
  refine⟨?_,by unfold gC;rw[if_pos h4]⟩
  unfold Format.fma
  rcases h4 with h|h|h
  ·obtain⟨s,t,e⟩:=hx.read_nan h
   rw[e]
   rfl
  ·obtain⟨s,t,e⟩:=hy.read_nan h
   rw[e]
   cases Ieee.double.read x<;>rfl
  ·obtain⟨s,t,e⟩:=hz.read_nan h
   rw[e]
   cases Datum.product (Ieee.double.read x) (Ieee.double.read y) with
   | none=>rfl
   | some d=>cases d<;>rfl
 ·have h4p:aH p≠4:=fun h=>h4 (.inl h)
  have h4q:aH q≠4:=fun h=>h4 (.inr (.inl h))
  have h4r:aH r≠4:=fun h=>h4 (.inr (.inr h))
  obtain⟨rp,rfl,p0,p1⟩:=hx.of h4p
  obtain⟨rq,rfl,q0,q1⟩:=hy.of h4q
  obtain⟨rr,rfl,r0,r1⟩:=hz.of h4r
  have hI:=jA (ng:=bN p q) (r:=9218868437227405312) (by decide) (by decide)
  unfold gC
  rw[if_neg h4]
  by_cases hi:rg p=9218868437227405312∨rg q=9218868437227405312
  ·rw[if_pos hi]
   have hP:=Hk rp rq p0 p1 q0 q1 hi
   by_cases h0:rg p=0∨rg q=0
   ·right
    rw[if_pos h0] at hP ⊢
    refine⟨?_,rfl⟩
    unfold Format.fma
    rw[hP]
    rfl
   ·rw[if_neg h0] at hP ⊢
    by_cases ir:rg r=9218868437227405312
    ·have er:=fv rr ir
     by_cases hs:bN p q=decide (r<0)
     ·left
      rw[if_neg (fun h=>h.2 hs)]
      refine⟨_,?_,FW.pat hI.2 hI.1⟩
      unfold Format.fma
      rw[hP,er]
      show Option.map Ieee.double.write (Datum.sum (.infinity (bN p q)) (.infinity (decide (r<0))))=_
      unfold Datum.sum
      dsimp only
      rw[if_pos hs]
      show some (Ieee.double.write (.infinity (bN p q)))=_
      rw[lS]
     ·right
      rw[if_pos ⟨ir,hs⟩]
      refine⟨?_,rfl⟩
      unfold Format.fma
      rw[hP,er]
      show Option.map Ieee.double.write (Datum.sum (.infinity (bN p q)) (.infinity (decide (r<0))))=_
      unfold Datum.sum
      dsimp only
      rw[if_neg hs]
      rfl
    ·left
     obtain⟨l,v,er,_⟩:=dV rr ((bM rr).2 (by omega))
     rw[if_neg (fun h=>ir h.1)]
     refine⟨_,?_,FW.pat hI.2 hI.1⟩
     unfold Format.fma
     rw[hP,er]
     show some (Ieee.double.write (.infinity (bN p q)))=_
     rw[lS]
  ·rw[if_neg hi]
   have pp:=(bM rp).2 (by omega)
   have pq:=(bM rq).2 (by omega)
   by_cases ir:rg r=9218868437227405312
   ·left
    rw[if_pos ir]
    obtain⟨m,u,ep,_⟩:=dV rp pp
    obtain⟨n,v,eq,_⟩:=dV rq pq
    refine⟨wd r,?_,FW.pat h4r rr⟩
    unfold Format.fma
    rw[ep,eq,fv rr ir]
    show some (Ieee.double.write (.infinity (decide (r<0))))=_
    rw[mI rr ir]
   ·left
    rw[if_neg ir]
    refine⟨_,Kc rp rq rr pp pq ((bM rr).2 (by omega)),?_⟩
    by_cases hS:oD p q r=0
    ·rw[if_pos hS]
     obtain⟨g1,g2⟩:=jA (ng:=bN p q&&decide (r<0)) (r:=0) (by decide) (by decide)
     exact FW.pat g2 g1
    ·rw[if_neg hS]
     exact FW.pat (gh hS).2 (gh hS).1
end Go.Proofs.YtjjihmnbdeeedaaGreatDoor
namespace Go.Proofs.YtjjihmnbdeeedaaGreatDoor.M
open Go Go.Proofs.Tryz Ieee
def nn (p:Int):Prop:=ag p∧¬ aH p=4
def jP (a b:Int):Int:=if au a<au b then a else if au b<au a then b else if a=b then a else -9223372036854775808
def jQ (a b:Int):Int:=if au a<au b then b else if au b<au a then a else if a=b then a else 0
theorem lz {a b:Int} (ha:ag a) (hb:ag b) (h:au a=au b) (hn:¬ a=b):(a=0∧b=-9223372036854775808)∨(a=-9223372036854775808∧b=0):=by
 unfold au ag at *
 split at h<;>split at h<;>omega
theorem kK:nn 0∧nn (-9223372036854775808):=by refine⟨⟨?_,by decide⟩,⟨?_,by decide⟩⟩<;>(unfold ag;omega)
theorem nV {a b:Int} (ha:nn a) (hb:nn b):nn (jP a b)∧au (jP a b)<=au a∧au (jP a b)<=au b∧(au (jP a b)=au a∨au (jP a b)=au b):=by
 unfold jP
 split
 ·exact⟨ha,by omega,by omega,.inl rfl⟩
 ·split
  ·exact⟨hb,by omega,by omega,.inr rfl⟩
  ·split
   ·exact⟨ha,by omega,by omega,.inl rfl⟩
   ·have e:au a=au b:=by omega
    have e0:au (-9223372036854775808)=0:=by decide
    have e1:au 0=0:=by decide
    rcases lz ha.1 hb.1 e (by assumption) with⟨rfl,rfl⟩|⟨rfl,rfl⟩
    ·exact⟨kK.2,by omega,by omega,.inr rfl⟩
    ·exact⟨kK.2,by omega,by omega,.inl rfl⟩
theorem nW {a b:Int} (ha:nn a) (hb:nn b):nn (jQ a b)∧au a<=au (jQ a b)∧au b<=au (jQ a b)∧(au (jQ a b)=au a∨au (jQ a b)=au b):=by
 unfold jQ
 split
 ·exact⟨hb,by omega,by omega,.inr rfl⟩
 ·split
  ·exact⟨ha,by omega,by omega,.inl rfl⟩
  ·split
   ·exact⟨ha,by omega,by omega,.inl rfl⟩
   ·have e:au a=au b:=by omega
    have e0:au (-9223372036854775808)=0:=by decide
    have e1:au 0=0:=by decide
    rcases lz ha.1 hb.1 e (by assumption) with⟨rfl,rfl⟩|⟨rfl,rfl⟩
    ·exact⟨kK.1,by omega,by omega,.inl rfl⟩
    ·exact⟨kK.1,by omega,by omega,.inr rfl⟩
def cf (lo hi:Int):Bool:=decide (¬ aH lo=4∧¬ aH hi=4∧au lo<=au hi∧au lo<9218868437227405312∧-9218868437227405312<au hi)
theorem kG {lo hi:Int}:cf lo hi=true↔¬ aH lo=4∧¬ aH hi=4∧au lo<=au hi∧au lo<9218868437227405312∧-9218868437227405312<au hi:=by unfold cf;exact decide_eq_true_iff
theorem jn {p:Int} (h:nn p):au (aL p)=au p∧nn (aL p):=by
 have h0:=Oe h.1
 unfold aL
 rw[if_neg h.2]
 split
 ·rename_i hz
  rcases h0.1 hz with rfl|rfl
  ·exact⟨rfl,kK.1⟩
  ·exact⟨by decide,kK.1⟩
 ·exact⟨rfl,h⟩
end Go.Proofs.YtjjihmnbdeeedaaGreatDoor.M
namespace Go.Proofs.YtjjihmnbdeeedaaGreatDoor
open Go Go.Proofs.Tryz Go.RowKit Go.Proofs.YtjjihmnbdeeedaaGreatDoor.M
theorem ar {w w':World} {p:Addr} {v:Value} (h:w.cell? p=some v) (hb:Below w.heap.size w w'):w'.cell? p=some v :=
 (hb.cell (World.block_lt_of_cell? w _ h)).trans h
end Go.Proofs.YtjjihmnbdeeedaaGreatDoor
