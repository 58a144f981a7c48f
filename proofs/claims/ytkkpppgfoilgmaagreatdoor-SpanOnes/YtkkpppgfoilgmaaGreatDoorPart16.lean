/- Parts of the proof. -/
import Derived.Test.YtkkpppgfoilgmaaGreatDoorPart15
import Derived.Test.YtkkpppgfoilgmaaGreatDoorPart7
import Derived.Test.YtkkpppgfoilgmaaGreatDoorPart5
import Derived.Test.YtkkpppgfoilgmaaGreatDoorPart6
set_option maxRecDepth 100000
set_option maxHeartbeats 8000000
set_option linter.unusedVariables false
set_option linter.unusedSimpArgs false
namespace Go.Proofs.YtkkpppgfoilgmaaGreatDoor
open Go Go.Proofs.Tryz Go.RowKit Go.Proofs.YtkkpppgfoilgmaaGreatDoor.M
def ck (a b:En):Int:=if a.i≠b.i then (if a.i<b.i then -1 else 1) else if a.i≠0 then 0 else bq a.v b.v
theorem A9 {x y:Int}:bq x y<=0↔x<=y:=by
 rcases Int.lt_trichotomy x y with h|h|h
 ·rw[cF h];omega
 ·rw[eE h];omega
 ·rw[cG h];omega
theorem xq {x y:Int}:bq x y<0↔x<y:=by
 rcases Int.lt_trichotomy x y with h|h|h
 ·rw[cF h];omega
 ·rw[eE h];omega
 ·rw[cG h];omega
theorem xr {x y:Int}:0<bq x y↔y<x:=by
 rcases Int.lt_trichotomy x y with h|h|h
 ·rw[cF h];omega
 ·rw[eE h];omega
 ·rw[cG h];omega
theorem nM {a b:En} (ha:a.ok) (hb:b.ok):ck a b<=0↔a.le b:=by
 unfold ck En.le En.ok at *
 by_cases h:a.i=b.i
 ·rw[if_neg (fun k=>k h)]
  by_cases k:a.i=0
  ·rw[if_neg (fun q=>q k),A9];omega
  ·rw[if_pos k];omega
 ·rw[if_pos h]
  split<;>omega
theorem sA {a b:En} (ha:a.ok) (hb:b.ok):ck a b<0↔(a.i<b.i∨(a.i=b.i∧a.v<b.v)):=by
 unfold ck En.ok at *
 by_cases h:a.i=b.i
 ·rw[if_neg (fun k=>k h)]
  by_cases k:a.i=0
  ·rw[if_neg (fun q=>q k),xq];omega
  ·rw[if_pos k];omega
 ·rw[if_pos h]
  split<;>omega
theorem sB {a b:En} (ha:a.ok) (hb:b.ok):0<ck a b↔(b.i<a.i∨(b.i=a.i∧b.v<a.v)):=by
 unfold ck En.ok at *
 by_cases h:a.i=b.i
 ·rw[if_neg (fun k=>k h)]
  by_cases k:a.i=0
  ·rw[if_neg (fun q=>q k),xr];omega
  ·rw[if_pos k];omega
 ·rw[if_pos h]
  split<;>omega
theorem zh {a b:En} (ha:a.ok) (hb:b.ok):(bG a b).ok:=by rcases (eH a b).2.2 with q|q<;>(rw[q];assumption)
theorem zi {a b:En} (ha:a.ok) (hb:b.ok):(bH a b).ok:=by rcases (dV a b).2.2 with q|q<;>(rw[q];assumption)
theorem zj {a b:En} (ha:a.ok) (hb:b.ok):bG a b=if ck b a<0 then b else a:=by
 unfold bG
 by_cases h:b.i<a.i∨(b.i=a.i∧b.v<a.v)
 ·rw[if_pos h,if_pos ((sA hb ha).2 h)]
 ·rw[if_neg h,if_neg (fun k=>h ((sA hb ha).1 k))]
theorem zk {a b:En} (ha:a.ok) (hb:b.ok):bH a b=if 0<ck b a then b else a:=by
 unfold bH
 by_cases h:a.i<b.i∨(a.i=b.i∧a.v<b.v)
 ·rw[if_pos h,if_pos ((sB hb ha).2 h)]
 ·rw[if_neg h,if_neg (fun k=>h ((sB hb ha).1 k))]
theorem Ba {p:Int} (hp:nn p):((ah p).i=1↔aj p=9218868437227405312)∧((ah p).i=-1↔aj p=-9218868437227405312):=by
 have hr:=fH hp
 rw[gv hp.1]
 by_cases h:rg p=9218868437227405312
 ·rw[dC h,h]
  by_cases k:p<0
  ·simp[k]
  ·simp[k]
 ·rw[dU h]
  show((0:Int)=1↔_)∧((0:Int)=-1↔_)
  split<;>omega
def tJ (lo hi:Int):Bool:=!decide (aD lo=4)&&(!decide (aD hi=4)&&(!decide ((ah lo).i=1)&&(!decide ((ah hi).i=-1)&&decide (ck (ah lo) (ah hi)<=0))))
theorem zl {lo hi:Int} (hl:au lo) (hh:au hi):tJ lo hi=br lo hi:=by
 rw[Bool.eq_iff_iff,fW]
 unfold tJ
 simp only[Bool.and_eq_true,Bool.not_eq_true',decide_eq_true_eq,decide_eq_false_iff_not]
 by_cases a:aD lo=4
 ·simp[a]
 ·by_cases b:aD hi=4
  ·simp[b]
  ·have na:nn lo:=⟨hl,a⟩
   have nb:nn hi:=⟨hh,b⟩
   rw[nM (bd _) (bd _),(Ba na).1,(Ba nb).2]
   have k1:=jD na
   have k2:=jD nb
   constructor
   ·rintro⟨_,_,h1,h2,h3⟩
    have:=xR na nb h3
    exact⟨a,b,this,by omega,by omega⟩
   ·rintro⟨_,_,h1,h2,h3⟩
    exact⟨a,b,by omega,by omega,km na nb h1⟩
theorem Cu {a b:Int} (na:nn a) (nb:nn b) (v:br a b=true) :
  ls a b=(decide (0<aQ (ah a))||(decide (aQ (ah b)<0)||(decide (aQ (ah a)=0)&&decide (aQ (ah b)=0))))∧mX a b=if ls a b then aQ (ah a) else 0:=by
 obtain⟨p1,p2⟩:=lK na
 obtain⟨q1,q2⟩:=lK nb
 have b1:=ij (bd a)
 have b2:=ij (bd b)
 obtain⟨_,_,h1,_,_⟩:=fW.1 v
 have hk:ls a b=(decide (0<aQ (ah a))||(decide (aQ (ah b)<0)||(decide (aQ (ah a)=0)&&decide (aQ (ah b)=0)))):=by
  unfold ls
  rw[v,Bool.true_and,Bool.eq_iff_iff]
  simp only[Bool.or_eq_true,Bool.and_eq_true,decide_eq_true_eq]
  omega
 refine⟨hk,?_⟩
 rw[hk]
 unfold mX
 rw[v]
 simp only[if_true,Bool.or_eq_true,Bool.and_eq_true,decide_eq_true_eq]
 by_cases x:0<aj a
 ·rw[if_pos x,if_pos (.inl (by omega))];omega
 ·rw[if_neg x]
  by_cases y:aj b<0
  ·rw[if_pos y,if_pos (.inr (.inl (by omega)))];omega
  ·rw[if_neg y]
   by_cases z:aQ (ah a)=0∧aQ (ah b)=0
   ·rw[if_pos (.inr (.inr z))];omega
   ·rw[if_neg (by omega)]
theorem Cv {a b V:Int} (na:nn a) (nb:nn b):qw a b (dZ V) (d6 V)=(decide (ck (ah a) ⟨0,V⟩ <= 0)&&decide (ck ⟨0,V⟩ (ah b)<=0)):=by
 unfold qw
 rw[Bool.eq_iff_iff,decide_eq_true_iff,Bool.and_eq_true,decide_eq_true_iff,decide_eq_true_iff,nM (bd _) (.inl rfl),nM (.inl rfl) (bd _)]
 obtain⟨h1,h2⟩:=oV V
 constructor
 ·rintro⟨k1,k2⟩
  exact⟨(km na (fd V).1 k1).le_trans h1,h2.le_trans (km (fd V).2 nb k2)⟩
 ·rintro⟨k1,k2⟩
  have m1:=(fD k1).1
  have m2:=(fD k2).2
  rw[(jr na).1,(dY na).1] at m1
  rw[(jr nb).2,(dY nb).1] at m2
  exact⟨m1,m2⟩
theorem Bb {a b:En} (ha:a.ok) (hb:b.ok) (h:aQ a<=0∧0<=aQ b):bG (bG (ap a a) (ap b b)) ⟨0,0⟩=di a b∧bH (bH (ap a a) (ap b b)) ⟨0,0⟩=dI a b:=by
 have o1:=fe ha ha
 have o2:=fe hb hb
 have p1:=qu ha
 have p2:=qu hb
 have om:=zh o1 o2
 have oM:=zi o1 o2
 have q1:(⟨0,0⟩:En).le (bG (ap a a) (ap b b)):=mW p1 p2
 have q2:(⟨0,0⟩:En).le (bH (ap a a) (ap b b)):=p1.le_trans (dV _ _).1
 unfold di dI
 rw[if_pos h]
 generalize bG (ap a a) (ap b b)=m at *
 generalize bH (ap a a) (ap b b)=M at *
 unfold En.le at q1 q2
 unfold En.ok at om oM
 simp only at q1 q2
 constructor
 ·unfold bG
  split
  ·rfl
  ·rename_i k
   exact En.eq (by show m.i=0;simp only at k;omega) (by show m.v=0;simp only at k;omega)
 ·unfold bH
  rw[if_neg (by simp only;omega)]
def Dp (v:Value) (x y:Nat):Prop:=∀ g,v.ownBlock=some g->x<=g∧g<y
theorem xt (x:Int) (h:0<=x):x.tmod 2=x % 2:=Int.tmod_eq_emod_of_nonneg h
theorem q9 (x:aE) (w:World) (h:aG w x.ao x.n x.cap x.d) :
  Calls prog 20 #[x.v] w fun r w'=>r=.returned (.bool (bV x))∧Below w.heap.size w w':=by
 have hC:=fun W hb=>td x.ao x.n x.cap x.d W (h.keeps hb)
 have hk:bV x=fw x.ng x.d x.n x.e:=rfl
 rw[hk]
 obtain⟨ng,ao,n,cap,d,e⟩:=x
 unfold aE.v
 simp only at *
 have hl:=h.le
 have hm:=h.max
 have hb1:=ae w (.cells #[.bool ng,.slice ao n cap,.int .i64 e] 26)
 by_cases h0:n=0
 ·subst h0
  have e0:fw ng d 0 e=(!ng&&(e == 0)):=by
   by_cases he:e=0<;>cases ng<;>simp[fw,he]
  rw[e0]
  cases ng
  ·go_enter func20,ntmps20
   go_wp2
   go_ret
   exact⟨rfl,hb1⟩
  ·go_enter func20,ntmps20
   go_wp2
   go_ret
   exact⟨rfl,hb1⟩
 ·have hn0:((n:Int) == 0)=false:=by simp;omega
  cases hB:kQ d n
  ·have e0:fw ng d n e=false:=by
    refine decide_eq_false fun hx=>?_
    rcases hx with⟨q,_⟩|⟨_,⟨q1,q2⟩,_⟩
    ·exact h0 q
    ·rw[iG q1 q2] at hB;cases hB
   rw[e0]
   go_enter func20,ntmps20
   go_wp2_with fail
   refine(hC _ hb1).mono ?_
   rw[hB]
   rintro r w1 ⟨rfl,rfl⟩
   go_wp2
   go_ret
   exact⟨rfl,hb1⟩
  ·obtain⟨hn,hN⟩:=yj hB
   obtain⟨b,off,rfl,hb,hc⟩:=h.spot (by omega)
   have c0:=(hb1.cell (p:=⟨b,off,none⟩) hb).trans (hc 0 (by omega))
   have hd0:=(hN.1 0 (by omega)).1
   have ht:=xt (d 0) hd0
   by_cases h1:d 0 % 2=1
   ·have h1':((d 0).tmod 2 == 1)=true:=by rw[ht,h1];rfl
    by_cases h2:-1048576<=e
    ·by_cases h3:e<=1048576
     ·have e0:fw ng d n e=true:=decide_eq_true (.inr ⟨by omega,⟨hn,hN⟩,h1,h2,h3⟩)
      rw[e0]
      go_enter func20,ntmps20
      go_wp2_with fail
      refine(hC _ hb1).mono ?_
      rw[hB]
      rintro r w1 ⟨rfl,rfl⟩
      go_wp2
      go_ret
      exact⟨a7 (by first|rfl|(simp;omega)),hb1⟩
     ·have e0:fw ng d n e=false:=decide_eq_false fun hx=>by rcases hx with⟨q,_⟩|⟨_,_,_,_,q⟩<;>omega
      rw[e0]
      go_enter func20,ntmps20
      go_wp2_with fail
      refine(hC _ hb1).mono ?_
      rw[hB]
      rintro r w1 ⟨rfl,rfl⟩
      go_wp2
      go_ret
      exact⟨a7 (by first|rfl|(simp;omega)),hb1⟩
    ·have e0:fw ng d n e=false:=decide_eq_false fun hx=>by rcases hx with⟨q,_⟩|⟨_,_,_,q,_⟩<;>omega
     rw[e0]
     go_enter func20,ntmps20
     go_wp2_with fail
     refine(hC _ hb1).mono ?_
     rw[hB]
     rintro r w1 ⟨rfl,rfl⟩
     go_wp2
     go_ret
     exact⟨a7 (by first|rfl|(simp;omega)),hb1⟩
   ·have h1':((d 0).tmod 2 == 1)=false:=by rw[ht];simp[h1]
    have e0:fw ng d n e=false:=decide_eq_false fun hx=>by rcases hx with⟨q,_⟩|⟨_,_,q,_⟩<;>omega
    rw[e0]
    go_enter func20,ntmps20
    go_wp2_with fail
    refine(hC _ hb1).mono ?_
    rw[hB]
    rintro r w1 ⟨rfl,rfl⟩
    go_wp2
    go_ret
    exact⟨a7 (by first|rfl|(simp;omega)),hb1⟩
theorem kv (ng:Bool) (ao:Option Addr) (n cap:Nat) (e:Int) (w:World) (hm:n<=9223372036854775807) :
  Calls prog 73 #[.agg #[.bool ng,.slice ao n cap,.int .i64 e]] w fun r w'=>r=.returned (.int .i64 (sgn ng n))∧Below w.heap.size w w':=by
 by_cases h0:n=0
 ·subst h0
  go_enter func73,ntmps73
  go_wp2
  go_ret
  exact⟨rfl,ae _ _⟩
 ·have hn0:((n:Int) == 0)=false:=by simp;omega
  cases ng
  ·go_enter func73,ntmps73
   go_wp2
   go_ret
   exact⟨bS (by simp[sgn,h0]),ae _ _⟩
  ·go_enter func73,ntmps73
   go_wp2
   go_ret
   exact⟨bS (by simp[sgn,h0]),ae _ _⟩
def aE.opp (x:aE):aE:=⟨if x.n=0 then x.ng else !x.ng,x.ao,x.n,x.cap,x.d,x.e⟩
theorem lu (x:aE) (w:World) (hm:x.n<=9223372036854775807) :
  Calls prog 74 #[x.v] w fun r w'=>r=.returned x.opp.v∧Below w.heap.size w w':=by
 obtain⟨ng,ao,n,cap,d,e⟩:=x
 unfold aE.v aE.opp
 simp only at *
 by_cases h0:n=0
 ·subst h0
  go_enter func74,ntmps74
  go_wp2
  refine bodyPost_ret (v:=.agg #[.bool ng,.slice ao 0 cap,.int .i64 e]) (by simp[results,results74,go_sem]) rfl ⟨rfl,?_⟩
  exact ax _ _ _
 ·have hn0:(0:Int)<n:=by omega
  rw[if_neg h0]
  go_enter func74,ntmps74
  go_wp2
  refine bodyPost_ret (v:=.agg #[.bool (!ng),.slice ao n cap,.int .i64 e]) (by simp[results,results74,go_sem]) rfl ⟨rfl,?_⟩
  exact ax _ _ _
def Bc (w w':World) (V:Int) (v:Value) (er:Int):Prop:=gg w w' V v er
theorem Bc.shape {w w':World} {V er:Int} {v:Value} (h:Bc w w' V v er):∃ ng so sn sc e,v=.agg #[.bool ng,.slice so sn sc,.int .i64 e]:=by
 exact gg.shape h
def cd (B:Nat) (w:World) (V:Int) (v:Value):Prop:=∃ ng s m e,v=.agg #[.bool ng,s,.int .i64 e]∧Dy V ng m e∧An B w s m
def fu (B:Nat) (w:World) (V:Int) (v:Value) (er:Int):Prop:=(b7 V∧er=0∧cd B w V v)∨(¬ b7 V∧er=2∧v=de)
theorem aZ.dan {w w':World} {V:Int} {v:Value} (h:aZ w w' V v):cd w.heap.size w' V v:=by
 obtain⟨ng,s,m,e,h1,h2,h3⟩:=h
 exact⟨ng,s,m,e,h1,h2,h3.an⟩
theorem An.wr {B:Nat} {w w':World} {v:Value} {V:Int} {g:Nat} (h:An B w v V) (hw:Wr g w w') (hg:g<B):An B w' v V:=by
 obtain⟨t,d,h1,h2⟩:=h
 exact⟨t,d,h1.of_block fun g' hg'=>hw.block g' (h1.ge hg').2 (by have:=(h1.ge hg').1;omega),h2⟩
theorem cd.wr {B:Nat} {w w':World} {v:Value} {V:Int} {g:Nat} (h:cd B w V v) (hw:Wr g w w') (hg:g<B):cd B w' V v:=by
 obtain⟨ng,s,m,e,h1,h2,h3⟩:=h
 exact⟨ng,s,m,e,h1,h2,h3.wr hw hg⟩
theorem cd.keeps {B:Nat} {w w':World} {v:Value} {V:Int} (h:cd B w V v) (k:Below w.heap.size w w'):cd B w' V v:=by
 obtain⟨ng,s,m,e,h1,h2,h3⟩:=h
 exact⟨ng,s,m,e,h1,h2,h3.keeps k⟩
theorem cd.lower {B B':Nat} {w:World} {v:Value} {V:Int} (h:cd B w V v) (hB:B'<=B):cd B' w V v:=by
 obtain⟨ng,s,m,e,h1,h2,h3⟩:=h
 exact⟨ng,s,m,e,h1,h2,h3.lower hB⟩
theorem cd.num {B:Nat} {w:World} {v:Value} {V:Int} (h:cd B w V v):aX w v V:=by
 obtain⟨ng,s,m,e,h1,h2,h3⟩:=h
 exact⟨ng,s,m,e,h1,h2,h3.num⟩
theorem fu.wr {B:Nat} {w w':World} {v:Value} {V er:Int} {g:Nat} (h:fu B w V v er) (hw:Wr g w w') (hg:g<B):fu B w' V v er:=by
 rcases h with⟨h1,h2,h3⟩|h
 ·exact .inl ⟨h1,h2,h3.wr hw hg⟩
 ·exact .inr h
theorem fu.keeps {B:Nat} {w w':World} {v:Value} {V er:Int} (h:fu B w V v er) (k:Below w.heap.size w w'):fu B w' V v er:=by
 rcases h with⟨h1,h2,h3⟩|h
 ·exact .inl ⟨h1,h2,h3.keeps k⟩
 ·exact .inr h
theorem fu.lower {B B':Nat} {w:World} {v:Value} {V er:Int} (h:fu B w V v er) (hB:B'<=B):fu B' w V v er:=by
 rcases h with⟨h1,h2,h3⟩|h
 ·exact .inl ⟨h1,h2,h3.lower hB⟩
 ·exact .inr h
theorem fu.shape {B:Nat} {w:World} {v:Value} {V er:Int} (h:fu B w V v er):∃ ng so sn sc e,v=.agg #[.bool ng,.slice so sn sc,.int .i64 e]:=by
 rcases h with⟨_,_,ng,s,m,e,h1,_,h3⟩|⟨_,_,rfl⟩
 ·obtain⟨so,sn,sc,rfl⟩:=h3.shape
  exact⟨_,_,_,_,_,h1⟩
 ·exact⟨_,_,_,_,_,rfl⟩
theorem fu.ge {B:Nat} {w:World} {ng:Bool} {so:Option Addr} {sn sc:Nat} {e V er:Int} (h:fu B w V (.agg #[.bool ng,.slice so sn sc,.int .i64 e]) er):Dp (.slice so sn sc) B w.heap.size:=by
 intro g hg
 rcases h with⟨_,_,ng',s,m,e',h1,_,h3⟩|⟨_,_,h1⟩
 ·simp only[Value.agg.injEq,Array.mk.injEq,List.cons.injEq,Value.bool.injEq,Value.int.injEq,and_true,true_and] at h1
  obtain⟨_,h1,_⟩:=h1
  rw[<- h1] at h3
  exact h3.ge hg
 ·simp only[de,Value.agg.injEq,Array.mk.injEq,List.cons.injEq,Value.bool.injEq,Value.int.injEq,Value.slice.injEq,and_true,true_and] at h1
  obtain⟨_,⟨rfl,_,_⟩,_⟩:=h1
  simp[Value.ownBlock] at hg
theorem cd.parts {B:Nat} {w:World} {ng:Bool} {so:Option Addr} {sn sc:Nat} {e V:Int} (h:cd B w V (.agg #[.bool ng,.slice so sn sc,.int .i64 e])):∃ m,Dy V ng m e∧An B w (.slice so sn sc) m:=by
 obtain⟨ng',s,m,e',h1,h2,h3⟩:=h
 simp only[Value.agg.injEq,Array.mk.injEq,List.cons.injEq,Value.bool.injEq,Value.int.injEq,and_true,true_and] at h1
 obtain⟨rfl,rfl,rfl⟩:=h1
 exact⟨m,h2,h3⟩
theorem xu {w:World} {g:Bool} {so:Option Addr} {sn sc:Nat} {e S:Int} (h:aX w (.agg #[.bool g,.slice so sn sc,.int .i64 e]) S):(sn=0↔S=0)∧sn<=9223372036854775807:=by
 obtain⟨ng,s,m,e',h1,hy,ao,n,cap,d,h2,hR,hN,hv⟩:=h
 simp only[Value.agg.injEq,Array.mk.injEq,List.cons.injEq,Value.bool.injEq,Value.int.injEq,true_and,and_true] at h1
 obtain⟨rfl,rfl,rfl⟩:=h1
 simp only[Value.slice.injEq] at h2
 obtain⟨rfl,rfl,rfl⟩:=h2
 have hm:=hR.max
 have hl:=hR.le
 refine⟨?_,by omega⟩
 rw[hy.eq_zero]
 constructor
 ·intro q
  subst q
  exact hv.symm.trans rfl
 ·intro q
  rcases Nat.eq_zero_or_pos sn with z|z
  ·exact z
  ·have h1:=cI hN.1 z hN.2
   have:=bp (sn-1)
   omega
theorem zm (b:Int) (w:World) (hb:au b) (hp:aB b=true) :
  Calls prog 62 #[.int .i64 b] w fun r w'=>∃ v,r=.returned v∧aZ w w' (sg (cl b) (bl b)*pw (bJ b)) v:=by
 obtain⟨i0,i1,i2,i3⟩:=gH hp
 have hF:=fun W=>uo (bl b) W i0 (by omega)
 have hN:=fun W ao n cap d (h:aG W ao n cap d) (hd:aO d n) (hn:n<=40000)=>ja (cl b) ao n cap d (bJ b) W h hd hn (by omega) (by omega)
 have hP:=fun W=>wi b W hb
 generalize cl b=ng at *
 generalize bJ b=ex at *
 generalize bl b=mg at *
 rw[hp] at hP
 go_enter func62,ntmps62
 go_wp2_with fail
 refine(hP _).mono ?_
 rintro r w1 ⟨rfl,rfl⟩
 go_wp2_with fail
 refine(hF _).mono ?_
 rintro r w2 ⟨v,rfl,hA⟩
 obtain⟨so,sn,sc,d,rfl,hR,hNr,hv⟩:=hA.num
 have hsn:sn<=100:=hA.num.len (k:=100) (by have:=fJ (show 3<=100 by omega);have:P 3=1237940039285380274899124224:=rfl;omega)
 have hbw:=aa (ae w _) hA.below
 go_wp2_with fail
 refine(hN _ _ _ _ _ hR hNr.1 (by omega)).mono ?_
 rw[hv]
 rintro r w3 ⟨v,rfl,hD⟩
 obtain⟨ng',s',m',e',rfl,hyy,hA2⟩:=id hD
 obtain⟨so',sn',sc',rfl⟩:=hA2.num.shape
 have q0:=((aa hA.below hD.below).block w.heap.size (by rw[fG];omega)).trans (a9 _ _)
 have x0:=ab q0 0 rfl
 have x1:=ab q0 1 rfl
 have x2:=ab q0 2 rfl
 have z0:=ak q0 0
 have z1:=ak q0 1
 have z2:=ak q0 2
 go_wp2
 refine bodyPost_ret (v:=.agg #[.bool ng',.slice so' sn' sc',.int .i64 e']) (by simp[results,results62,go_sem,x0,x1,x2]) rfl ⟨_,rfl,?_⟩
 exact b8 (g:=w.heap.size) hD hbw (Nat.le_refl _) (Nat.lt_of_lt_of_le (by rw[fG];omega) hA.below.size) _ _ _
theorem vs (x y:aE) (w:World) (hx:aG w x.ao x.n x.cap x.d) (hy:aG w y.ao y.n y.cap y.d) (sx:il x) (sy:il y) :
  Calls prog 75 #[x.v,y.v] w fun r w'=>∃ v,r=.returned v∧aZ w w' (jZ x y) v:=by
 have hV:jZ x y=sg (x.ng != y.ng) (val x.d x.n*val y.d y.n)*pw (x.e+y.e):=rfl
 have he:-4194304<=x.e+y.e∧x.e+y.e<=4194304:=by have:=sx.2.2.1;have:=sy.2.2.1;have:=sx.2.2.2;have:=sy.2.2.2;omega
 have hlen:val x.d x.n*val y.d y.n<P 10000:=by
  have a1:=bz sx.1.1
  have a2:=bz sy.1.1
  have b1:=aJ sx.1.1
  have b2:=aJ sy.1.1
  have c1:val x.d x.n*val y.d y.n<=P x.n*val y.d y.n:=Int.mul_le_mul_of_nonneg_right (by omega) b2
  have c2:P x.n*val y.d y.n<P x.n*P y.n:=Int.mul_lt_mul_of_pos_left a2 (bp _)
  rw[<- i4] at c2
  have:=fJ (show x.n+y.n<=10000 by have:=sx.2.1;have:=sy.2.1;omega)
  omega
 obtain⟨an,ao,n,ca,a,e⟩:=x
 obtain⟨bn,bo,m,cb,b,f⟩:=y
 obtain⟨s1,s2,s3,s4⟩:=sx
 obtain⟨t1,t2,t3,t4⟩:=sy
 unfold aE.v
 simp only at *
 rw[hV]
 clear hV
 generalize hVV:sg (an != bn) (val a n*val b m)*pw (e+f)=V
 have HVV:Hid (sg (an != bn) (val a n*val b m)*pw (e+f)=V):=hVV
 clear hVV
 have hw:IntKind.i64.wrap (e+f)=e+f:=by rw[aR];omega
 have hb3:=dP w (.cells #[.bool an,.slice ao n ca,.int .i64 e] 26) (.cells #[.bool bn,.slice bo m cb,.int .i64 f] 26) (.cells #[.bool false,.slice none 0 0,.int .i64 0] 26)
 have g0:=nj w (.cells #[.bool an,.slice ao n ca,.int .i64 e] 26) (.cells #[.bool bn,.slice bo m cb,.int .i64 f] 26) (.cells #[.bool false,.slice none 0 0,.int .i64 0] 26)
 have g1:=nk w (.cells #[.bool an,.slice ao n ca,.int .i64 e] 26) (.cells #[.bool bn,.slice bo m cb,.int .i64 f] 26) (.cells #[.bool false,.slice none 0 0,.int .i64 0] 26)
 have g2:=ns w (.cells #[.bool an,.slice ao n ca,.int .i64 e] 26) (.cells #[.bool bn,.slice bo m cb,.int .i64 f] 26) (.cells #[.bool false,.slice none 0 0,.int .i64 0] 26)
 have hs3:=oQ w (.cells #[.bool an,.slice ao n ca,.int .i64 e] 26) (.cells #[.bool bn,.slice bo m cb,.int .i64 f] 26) (.cells #[.bool false,.slice none 0 0,.int .i64 0] 26)
 go_enter func75,ntmps75
 go_wp2_with fail
 have HX:=hx.keeps hb3
 have HY:=hy.keeps hb3
 generalize ((w.alloc (.cells #[.bool an,.slice ao n ca,.int .i64 e] 26)).alloc (.cells #[.bool bn,.slice bo m cb,.int .i64 f] 26)).alloc (.cells #[.bool false,.slice none 0 0,.int .i64 0] 26)=wx at hb3 g0 g1 g2 hs3 HX HY ⊢
 have k0:=ab g0 0 rfl
 have k1:=ab g0 1 rfl
 have k2:=ab g0 2 rfl
 have j0:=ab g1 0 rfl
 have j1:=ab g1 1 rfl
 have j2:=ab g1 2 rfl
 have hb1:=aq wx
 have C1:∀ W,Below wx.heap.size wx W->Calls prog 96 #[.slice ao n ca,.slice bo m cb] W fun r w'=>∃ so sn sc,r=.returned (.slice so sn sc)∧bO W w' (val a n*val b m) (.slice so sn sc)∧Below W.heap.size W w':=fun W h=>by
  refine(wb ao bo n m ca cb a b W (HX.keeps h) (HY.keeps h) s1 t1 (by omega) (by omega)).mono ?_
  rintro r w' ⟨v,rfl,hA⟩
  obtain⟨so,sn,sc,rfl⟩:=hA.num.shape
  exact⟨so,sn,sc,rfl,hA,hA.below⟩
 have C2:∀ W so sn sc,aT W (.slice so sn sc) (val a n*val b m)->Calls prog 80 #[.bool (!(an == bn)),.slice so sn sc,.int .i64 (e+f)] W fun r w'=>∃ ng s1 s2 s3 e1,r=.returned (.agg #[.bool ng,.slice s1 s2 s3,.int .i64 e1])∧aZ W w' V (.agg #[.bool ng,.slice s1 s2 s3,.int .i64 e1])∧Below W.heap.size W w':=fun W so sn sc hN=>by
  have hsn:sn<=10000:=hN.len hlen
  obtain⟨ao',n',ca',d,e1,hR,h2,h3⟩:=hN
  simp only[Value.slice.injEq] at e1
  obtain⟨rfl,rfl,rfl⟩:=e1
  refine(ja (an != bn) _ _ _ d (e+f) W hR h2.1 (by omega) (by omega) (by omega)).mono ?_
  rw[h3,HVV.out]
  rintro r w' ⟨v,rfl,hD⟩
  obtain⟨ng,s,m',e1,rfl,_,hA⟩:=id hD
  obtain⟨q1,q2,q3,rfl⟩:=hA.num.shape
  exact⟨ng,q1,q2,q3,e1,rfl,hD,hD.below⟩
 clear hlen
 go_region_held3 (fun W=>(W.cell? ⟨w.heap.size,0,none⟩=some (.bool an)∧W.cell? ⟨w.heap.size,1,none⟩=some (.slice ao n ca)∧W.cell? ⟨w.heap.size,2,none⟩=some (.int .i64 e))∧W.cell? ⟨w.heap.size+1,0,none⟩=some (.bool bn)∧W.cell? ⟨w.heap.size+1,1,none⟩=some (.slice bo m cb)∧W.cell? ⟨w.heap.size+1,2,none⟩=some (.int .i64 f))
  (first|assumption|exact⟨⟨k0,k1,k2⟩,j0,j1,j2⟩|exact aK (W:=wx.drew) hbv1 ⟨⟨k0,k1,k2⟩,j0,j1,j2⟩|exact aK hbv2 (aK (W:=wx.drew) hbv1 ⟨⟨k0,k1,k2⟩,j0,j1,j2⟩)|exact⟨cJ (aK hbv2 (aK (W:=wx.drew) hbv1 ⟨⟨k0,k1,k2⟩,j0,j1,j2⟩)).1 (by omega) _ _ _,cJ (aK hbv2 (aK (W:=wx.drew) hbv1 ⟨⟨k0,k1,k2⟩,j0,j1,j2⟩)).2 (by omega) _ _ _⟩)
  (first|(go_at_call 80;refine(C2 _ _ _ _ hv1.num).mono ?_;rintro y w4 ⟨ng4,o4,n4,c4,e4,rfl,hv2,hbv2⟩;have q0:=((aa hbv1 hbv2).block (w.heap.size+2) (by show _<wx.heap.size;omega)).trans g2;have x0:=ab q0 0 rfl;have x1:=ab q0 1 rfl;have x2:=ab q0 2 rfl;have z0:=ak q0 0;have z1:=ak q0 1;have z2:=ak q0 2)|(go_at_call 96;refine(C1 _ hb1.drew).mono ?_;rintro y w3 ⟨so,sn,sc,rfl,hv1,hbv1⟩))
 all_goals go_wp2
 all_goals
  refine bodyPost_ret (v:=.agg #[.bool ng4,.slice o4 n4 c4,.int .i64 e4]) (by simp[results,results75,go_sem,x0,x1,x2]) rfl ⟨_,rfl,?_⟩
  exact b8 (g:=w.heap.size+2) hv2 (aa hb3 (aa hb1.drew hbv1)) (by omega) (Nat.lt_of_lt_of_le (show _<wx.heap.size by omega) hbv1.size) _ _ _
theorem jF {K:Nat} {A:Int} {ng:Bool} {m e:Int} (h:Bd K A) (hy:Dy A ng m e) (hK:K<=4194304) (h0:0<m):-(K:Int)<=e∧e<=K∧m*2^(e+K).toNat<2^(2*K):=by
 obtain⟨c,hc,c1,c2⟩:=h
 have aj:∀ (b:Bool) (C:Int),0<C->C<2^(2*K)->A=sg b C*pw (-(K:Int))->-(K:Int)<=e∧e<=K∧m*2^(e+K).toNat<2^(2*K):=fun b C hC hlt hA=>by
  obtain⟨l,hl⟩:=gF hC
  have hy2:=Dy.of b hl hC (show -4194304 <= -(K:Int) by omega)
  rw[<- hA] at hy2
  obtain⟨_,rfl,rfl⟩:=hy.unique hy2
  obtain⟨d1,d2,d3⟩:=dW hl hC
  have hl2:l<2*K:=by
   have h3:(1:Int)*2^l<=C/2^l*2^l:=Int.mul_le_mul_of_nonneg_right (by omega) (Int.le_of_lt (aF l))
   rw[d3] at h3
   exact dt (by omega)
  refine⟨by omega,by omega,?_⟩
  rw[show(-(K:Int)+l+K).toNat=l by omega,d3]
  exact hlt
 by_cases hz:c=0
 ·exfalso
  rw[hz,Int.zero_mul] at hc
  have:=hy.eq_zero.1 hc
  omega
 ·by_cases hp:0<c
  ·exact aj false c hp c2 (by simpa [sg] using hc)
  ·exact aj true (-c) (by omega) (by omega) (by simpa [sg] using hc)
theorem qE {K:Nat} {A:Int} {ng:Bool} {m e low:Int} (h:Bd K A) (hy:Dy A ng m e) (hK:K<=4194304) (h0:0<m) (h1:-(K:Int)<=low) (h2:low<=e):m*2^(e-low).toNat<2^(2*K):=by
 obtain⟨a,b,c⟩:=jF h hy hK h0
 have h3:(2:Int)^(e-low).toNat<=2^(e+K).toNat:=cc (by omega)
 have h4:m*2^(e-low).toNat<=m*2^(e+K).toNat:=Int.mul_le_mul_of_nonneg_left h3 (by omega)
 omega
theorem nN {K:Nat} {A:Int} {ng:Bool} {m e:Int} (h:Bd K A) (hy:Dy A ng m e) (hK:K<=4194304) (h0:0<m):m<2^(2*K):=by
 obtain⟨a,b,c⟩:=jF h hy hK h0
 have h3:(1:Int)<=2^(e+K).toNat:=aF _
 have h4:m*1<=m*2^(e+K).toNat:=Int.mul_le_mul_of_nonneg_left h3 (by omega)
 omega
theorem oG {K:Nat} {d:Nat->Int} {n:Nat} (hK:K<=560000) (hN:bt d n) (h:val d n<2^(2*K)):n<=37400:=by
 by_cases h1:n<=37400
 ·exact h1
 ·exfalso
  have a:=cI hN.1 (by omega) hN.2
  have b:=fJ (show 37400<=n-1 by omega)
  have c:(2:Int)^(2*K)<=2^(30*37400):=cc (by omega)
  rw[<- cr] at c
  generalize P 37400=Y at *
  omega
def gw (w w':World) (A B:Int) (x y v:Value):Prop:=Below w.heap.size w w'∧(aZ w w' (A+B) v∨(A=0∧v=y)∨(B=0∧v=x))
theorem gw.num {w w':World} {A B:Int} {x y v:Value} (h:gw w w' A B x y v) (hx:aX w x A) (hy:aX w y B):aX w' v (A+B):=by
 rcases h.2 with h1|⟨rfl,rfl⟩|⟨rfl,rfl⟩
 ·exact h1.num
 ·rw[Int.zero_add];exact hy.keeps h.1
 ·rw[Int.add_zero];exact hx.keeps h.1
theorem mZ (x y:aE) (w:World) (hm:x.n<=9223372036854775807) (hm':y.n<=9223372036854775807) (h:x.n=0) :
  Calls prog 76 #[x.v,y.v] w fun r w'=>r=.returned y.v∧Below w.heap.size w w':=by
 obtain⟨an,ao,n,ca,a,e⟩:=x
 obtain⟨bn,bo,m,cb,b,f⟩:=y
 unfold aE.v at *
 simp only at *
 subst h
 go_enter func76,ntmps76
 go_wp2
 refine bodyPost_ret (v:=.agg #[.bool bn,.slice bo m cb,.int .i64 f]) (by simp[results,results76,go_sem]) rfl ⟨rfl,?_⟩
 exact dP _ _ _ _
theorem lX (x y:aE) (w:World) (hm:x.n<=9223372036854775807) (hm':y.n<=9223372036854775807) (h0:0<x.n) (h:y.n=0) :
  Calls prog 76 #[x.v,y.v] w fun r w'=>r=.returned x.v∧Below w.heap.size w w':=by
 obtain⟨an,ao,n,ca,a,e⟩:=x
 obtain⟨bn,bo,m,cb,b,f⟩:=y
 unfold aE.v at *
 simp only at *
 have hn0:((n:Int) == 0)=false:=by simp;omega
 subst h
 go_enter func76,ntmps76
 go_wp2
 refine bodyPost_ret (v:=.agg #[.bool an,.slice ao n ca,.int .i64 e]) (by simp[results,results76,go_sem]) rfl ⟨rfl,?_⟩
 exact dP _ _ _ _
theorem tK (x y:aE) (w:World) (hx:aG w x.ao x.n x.cap x.d) (hy:aG w y.ao y.n y.cap y.d) (n0:0<x.n) (m0:0<y.n) (low A B V:Int)
  (hlow:low=min x.e y.e) (hl0:-600000<=low) (he:x.e<=600000) (hf:y.e<=600000)
  (H1:∀ W,Below w.heap.size w W->Calls prog 97 #[.slice x.ao x.n x.cap,.int .i64 (x.e-low)] W fun r w'=>∃ so sn sc,r=.returned (.slice so sn sc)∧aT w' (.slice so sn sc) A∧Below W.heap.size W w')
  (H2:∀ W,Below w.heap.size w W->Calls prog 97 #[.slice y.ao y.n y.cap,.int .i64 (y.e-low)] W fun r w'=>∃ so sn sc,r=.returned (.slice so sn sc)∧aT w' (.slice so sn sc) B∧Below W.heap.size W w')
  (H3:∀ W p q,aT W p A->aT W q B->Calls prog 98 #[p,q] W fun r w'=>∃ so sn sc,r=.returned (.slice so sn sc)∧aT w' (.slice so sn sc) (A+B)∧Below W.heap.size W w')
  (H4:∀ W p q,aT W p A->aT W q B->Calls prog 99 #[p,q] W fun r w'=>r=.returned (.int .i64 (bq A B))∧Below W.heap.size W w')
  (H5:∀ W p q,aT W p A->aT W q B->B<=A->Calls prog 100 #[p,q] W fun r w'=>∃ so sn sc,r=.returned (.slice so sn sc)∧aT w' (.slice so sn sc) (A-B)∧Below W.heap.size W w')
  (H6:∀ W p q,aT W p A->aT W q B->A<=B->Calls prog 100 #[q,p] W fun r w'=>∃ so sn sc,r=.returned (.slice so sn sc)∧aT w' (.slice so sn sc) (B-A)∧Below W.heap.size W w')
  (H7:∀ W ng s M,aT W s M->((x.ng=y.ng∧ng=x.ng∧M=A+B)∨(x.ng≠y.ng∧B<=A∧ng=x.ng∧M=A-B)∨(x.ng≠y.ng∧A<B∧ng=y.ng∧M=B-A))->Calls prog 80 #[.bool ng,s,.int .i64 low] W fun r w'=>∃ ng s1 s2 s3 e1,r=.returned (.agg #[.bool ng,.slice s1 s2 s3,.int .i64 e1])∧aZ W w' V (.agg #[.bool ng,.slice s1 s2 s3,.int .i64 e1])∧Below W.heap.size W w') :
  Calls prog 76 #[x.v,y.v] w fun r w'=>∃ v,r=.returned v∧aZ w w' V v:=by
 have hmin:∀ (ts:Array TypeId) (t:TypeId) (w:World),(Builtin.min_ ts t #[.int .i64 x.e,.int .i64 y.e]).run prog w=.ok (.int .i64 low) w:=fun ts t w=>by rw[run_min_int2,hlow];congr 2;omega
 have hl1:low<=x.e:=by omega
 have hl2:low<=y.e:=by omega
 have HH7:Hid _:=H7
 have hm:=hx.max
 have hm':=hy.max
 clear hlow H7
 obtain⟨an,ao,n,ca,a,e⟩:=x
 obtain⟨bn,bo,m,cb,b,f⟩:=y
 unfold aE.v
 simp only at *
 have hn0:((n:Int) == 0)=false:=by simp;omega
 have hm0:((m:Int) == 0)=false:=by simp;omega
 have hb3:Below w.heap.size w (((w.alloc (.cells #[.bool an,.slice ao n ca,.int .i64 e] 26)).alloc (.cells #[.bool bn,.slice bo m cb,.int .i64 f] 26)).alloc (.cells #[.bool false,.slice none 0 0,.int .i64 0] 26)):=dP _ _ _ _
 have g0:=nj w (.cells #[.bool an,.slice ao n ca,.int .i64 e] 26) (.cells #[.bool bn,.slice bo m cb,.int .i64 f] 26) (.cells #[.bool false,.slice none 0 0,.int .i64 0] 26)
 have g1:=nk w (.cells #[.bool an,.slice ao n ca,.int .i64 e] 26) (.cells #[.bool bn,.slice bo m cb,.int .i64 f] 26) (.cells #[.bool false,.slice none 0 0,.int .i64 0] 26)
 have g2:=ns w (.cells #[.bool an,.slice ao n ca,.int .i64 e] 26) (.cells #[.bool bn,.slice bo m cb,.int .i64 f] 26) (.cells #[.bool false,.slice none 0 0,.int .i64 0] 26)
 go_enter func76,ntmps76
 go_wp2_with fail
 generalize ((w.alloc (.cells #[.bool an,.slice ao n ca,.int .i64 e] 26)).alloc (.cells #[.bool bn,.slice bo m cb,.int .i64 f] 26)).alloc (.cells #[.bool false,.slice none 0 0,.int .i64 0] 26)=wx at hb3 g0 g1 g2 ⊢
 refine(H1 _ hb3).mono ?_
 rintro r w1 ⟨po,pn,pc,rfl,hP,hb1⟩
 have hbx1:=aa hb3 hb1
 replace g0:=(hb1.block _ (aGe g0).1).trans g0
 replace g1:=(hb1.block _ (aGe g1).1).trans g1
 replace g2:=(hb1.block _ (aGe g2).1).trans g2
 have j1:=ab g1 1 rfl
 have j2:=ab g1 2 rfl
 go_wp2_with fail
 clear j1 j2
 refine(H2 _ hbx1).mono ?_
 rintro r w2 ⟨qo,qn,qc,rfl,hQ,hb2⟩
 have hbx2:=aa hbx1 hb2
 replace hP:=hP.keeps hb2
 replace g0:=(hb2.block _ (aGe g0).1).trans g0
 replace g1:=(hb2.block _ (aGe g1).1).trans g1
 replace g2:=(hb2.block _ (aGe g2).1).trans g2
 have k0:=ab g0 0 rfl
 have k1:=ab g0 1 rfl
 have k2:=ab g0 2 rfl
 have j0:=ab g1 0 rfl
 have j1:=ab g1 1 rfl
 have j2:=ab g1 2 rfl
 by_cases hng:an=bn
 ·subst hng
  have C1:∀ W,Below w2.heap.size w2 W->Calls prog 98 #[.slice po pn pc,.slice qo qn qc] W fun r w'=>∃ so sn sc,r=.returned (.slice so sn sc)∧aT w' (.slice so sn sc) (A+B)∧Below W.heap.size W w':=fun W h=>H3 W _ _ (hP.keeps h) (hQ.keeps h)
  have C2:∀ W so sn sc,aT W (.slice so sn sc) (A+B)->Calls prog 80 #[.bool an,.slice so sn sc,.int .i64 low] W fun r w'=>∃ ng s1 s2 s3 e1,r=.returned (.agg #[.bool ng,.slice s1 s2 s3,.int .i64 e1])∧aZ W w' V (.agg #[.bool ng,.slice s1 s2 s3,.int .i64 e1])∧Below W.heap.size W w':=fun W so sn sc hN=>HH7.out W an _ _ hN (.inl ⟨rfl,rfl,rfl⟩)
  clear H1 H2 H3 H4 H5 H6 HH7
  have hs3:=(aGe g2).1
  go_wp2_with fail
  have hb1:=aq w2
  go_region_held3 (fun W=>(W.cell? ⟨w.heap.size,0,none⟩=some (.bool an)∧W.cell? ⟨w.heap.size,1,none⟩=some (.slice ao n ca)∧W.cell? ⟨w.heap.size,2,none⟩=some (.int .i64 e))∧W.cell? ⟨w.heap.size+1,0,none⟩=some (.bool an)∧W.cell? ⟨w.heap.size+1,1,none⟩=some (.slice bo m cb)∧W.cell? ⟨w.heap.size+1,2,none⟩=some (.int .i64 f))
   (first|assumption|exact⟨⟨k0,k1,k2⟩,j0,j1,j2⟩|exact aK (W:=w2.drew) hbv1 ⟨⟨k0,k1,k2⟩,j0,j1,j2⟩|exact aK hbv2 (aK (W:=w2.drew) hbv1 ⟨⟨k0,k1,k2⟩,j0,j1,j2⟩)|exact⟨cJ (aK hbv2 (aK (W:=w2.drew) hbv1 ⟨⟨k0,k1,k2⟩,j0,j1,j2⟩)).1 (by omega) _ _ _,cJ (aK hbv2 (aK (W:=w2.drew) hbv1 ⟨⟨k0,k1,k2⟩,j0,j1,j2⟩)).2 (by omega) _ _ _⟩)
   (first|(go_at_call 80;refine(C2 _ _ _ _ hv1).mono ?_;rintro y w4 ⟨ng4,o4,n4,c4,e4,rfl,hv2,hbv2⟩;have q0:=((aa hbv1 hbv2).block (w.heap.size+2) (by show _<w2.heap.size;omega)).trans g2;have x0:=ab q0 0 rfl;have x1:=ab q0 1 rfl;have x2:=ab q0 2 rfl;have z0:=ak q0 0;have z1:=ak q0 1;have z2:=ak q0 2)|(go_at_call 98;refine(C1 _ hb1.drew).mono ?_;rintro y w3 ⟨so,sn,sc,rfl,hv1,hbv1⟩))
  all_goals go_wp2
  all_goals
   refine bodyPost_ret (v:=.agg #[.bool ng4,.slice o4 n4 c4,.int .i64 e4]) (by simp[results,results76,go_sem,x0,x1,x2]) rfl ⟨_,rfl,?_⟩
   exact b8 (g:=w.heap.size+2) hv2 (aa hbx2 (aa hb1.drew hbv1)) (by omega) (Nat.lt_of_lt_of_le (show _<w2.heap.size by omega) hbv1.size) _ _ _
 ·have hng':(an == bn)=false:=by simp[hng]
  go_wp2_with fail
  refine(H4 _ _ _ hP hQ).mono ?_
  rintro r w3 ⟨rfl,hb3'⟩
  have hbx3:=aa hbx2 hb3'
  replace hP:=hP.keeps hb3'
  replace hQ:=hQ.keeps hb3'
  replace g0:=(hb3'.block _ (aGe g0).1).trans g0
  replace g1:=(hb3'.block _ (aGe g1).1).trans g1
  replace g2:=(hb3'.block _ (aGe g2).1).trans g2
  replace k0:=ab g0 0 rfl
  replace k1:=ab g0 1 rfl
  replace k2:=ab g0 2 rfl
  replace j0:=ab g1 0 rfl
  replace j1:=ab g1 1 rfl
  replace j2:=ab g1 2 rfl
  have hs3:=(aGe g2).1
  by_cases hAB:B<=A
  ·have ho:(0:Int)<=bq A B:=by
    rcases Int.lt_trichotomy A B with h|h|h
    ·omega
    ·rw[eE h];decide
    ·rw[cG h];decide
   have C1:∀ W,Below w3.heap.size w3 W->Calls prog 100 #[.slice po pn pc,.slice qo qn qc] W fun r w'=>∃ so sn sc,r=.returned (.slice so sn sc)∧aT w' (.slice so sn sc) (A-B)∧Below W.heap.size W w':=fun W h=>H5 W _ _ (hP.keeps h) (hQ.keeps h) hAB
   have C2:∀ W so sn sc,aT W (.slice so sn sc) (A-B)->Calls prog 80 #[.bool an,.slice so sn sc,.int .i64 low] W fun r w'=>∃ ng s1 s2 s3 e1,r=.returned (.agg #[.bool ng,.slice s1 s2 s3,.int .i64 e1])∧aZ W w' V (.agg #[.bool ng,.slice s1 s2 s3,.int .i64 e1])∧Below W.heap.size W w':=fun W so sn sc hN=>HH7.out W an _ _ hN (.inr (.inl ⟨hng,hAB,rfl,rfl⟩))
   generalize bq A B=oAB at ho ⊢
   clear H1 H2 H3 H4 H5 H6 HH7 hAB
   go_wp2_with fail
   have hb1:=aq w3
   go_region_held3 (fun W=>(W.cell? ⟨w.heap.size,0,none⟩=some (.bool an)∧W.cell? ⟨w.heap.size,1,none⟩=some (.slice ao n ca)∧W.cell? ⟨w.heap.size,2,none⟩=some (.int .i64 e))∧W.cell? ⟨w.heap.size+1,0,none⟩=some (.bool bn)∧W.cell? ⟨w.heap.size+1,1,none⟩=some (.slice bo m cb)∧W.cell? ⟨w.heap.size+1,2,none⟩=some (.int .i64 f))
    (first|assumption|exact⟨⟨k0,k1,k2⟩,j0,j1,j2⟩|exact aK (W:=w3.drew) hbv1 ⟨⟨k0,k1,k2⟩,j0,j1,j2⟩|exact aK hbv2 (aK (W:=w3.drew) hbv1 ⟨⟨k0,k1,k2⟩,j0,j1,j2⟩)|exact⟨cJ (aK hbv2 (aK (W:=w3.drew) hbv1 ⟨⟨k0,k1,k2⟩,j0,j1,j2⟩)).1 (by omega) _ _ _,cJ (aK hbv2 (aK (W:=w3.drew) hbv1 ⟨⟨k0,k1,k2⟩,j0,j1,j2⟩)).2 (by omega) _ _ _⟩)
    (first|(go_at_call 80;refine(C2 _ _ _ _ hv1).mono ?_;rintro y w4 ⟨ng4,o4,n4,c4,e4,rfl,hv2,hbv2⟩;have q0:=((aa hbv1 hbv2).block (w.heap.size+2) (by show _<w3.heap.size;omega)).trans g2;have x0:=ab q0 0 rfl;have x1:=ab q0 1 rfl;have x2:=ab q0 2 rfl;have z0:=ak q0 0;have z1:=ak q0 1;have z2:=ak q0 2)|(go_at_call 100;refine(C1 _ hb1.drew).mono ?_;rintro y w3' ⟨so,sn,sc,rfl,hv1,hbv1⟩))
   all_goals go_wp2
   all_goals
    refine bodyPost_ret (v:=.agg #[.bool ng4,.slice o4 n4 c4,.int .i64 e4]) (by simp[results,results76,go_sem,x0,x1,x2]) rfl ⟨_,rfl,?_⟩
    exact b8 (g:=w.heap.size+2) hv2 (aa hbx3 (aa hb1.drew hbv1)) (by omega) (Nat.lt_of_lt_of_le (show _<w3.heap.size by omega) hbv1.size) _ _ _
  ·have ho:bq A B<(0:Int):=by rw[cF (by omega)];decide
   have C1:∀ W,Below w3.heap.size w3 W->Calls prog 100 #[.slice qo qn qc,.slice po pn pc] W fun r w'=>∃ so sn sc,r=.returned (.slice so sn sc)∧aT w' (.slice so sn sc) (B-A)∧Below W.heap.size W w':=fun W h=>H6 W _ _ (hP.keeps h) (hQ.keeps h) (by omega)
   have C2:∀ W so sn sc,aT W (.slice so sn sc) (B-A)->Calls prog 80 #[.bool bn,.slice so sn sc,.int .i64 low] W fun r w'=>∃ ng s1 s2 s3 e1,r=.returned (.agg #[.bool ng,.slice s1 s2 s3,.int .i64 e1])∧aZ W w' V (.agg #[.bool ng,.slice s1 s2 s3,.int .i64 e1])∧Below W.heap.size W w':=fun W so sn sc hN=>HH7.out W bn _ _ hN (.inr (.inr ⟨hng,by omega,rfl,rfl⟩))
   generalize bq A B=oAB at ho ⊢
   clear H1 H2 H3 H4 H5 H6 HH7 hAB
   go_wp2_with fail
   have hb1:=aq w3
   go_region_held3 (fun W=>(W.cell? ⟨w.heap.size,0,none⟩=some (.bool an)∧W.cell? ⟨w.heap.size,1,none⟩=some (.slice ao n ca)∧W.cell? ⟨w.heap.size,2,none⟩=some (.int .i64 e))∧W.cell? ⟨w.heap.size+1,0,none⟩=some (.bool bn)∧W.cell? ⟨w.heap.size+1,1,none⟩=some (.slice bo m cb)∧W.cell? ⟨w.heap.size+1,2,none⟩=some (.int .i64 f))
    (first|assumption|exact⟨⟨k0,k1,k2⟩,j0,j1,j2⟩|exact aK (W:=w3.drew) hbv1 ⟨⟨k0,k1,k2⟩,j0,j1,j2⟩|exact aK hbv2 (aK (W:=w3.drew) hbv1 ⟨⟨k0,k1,k2⟩,j0,j1,j2⟩)|exact⟨cJ (aK hbv2 (aK (W:=w3.drew) hbv1 ⟨⟨k0,k1,k2⟩,j0,j1,j2⟩)).1 (by omega) _ _ _,cJ (aK hbv2 (aK (W:=w3.drew) hbv1 ⟨⟨k0,k1,k2⟩,j0,j1,j2⟩)).2 (by omega) _ _ _⟩)
    (first|(go_at_call 80;refine(C2 _ _ _ _ hv1).mono ?_;rintro y w4 ⟨ng4,o4,n4,c4,e4,rfl,hv2,hbv2⟩;have q0:=((aa hbv1 hbv2).block (w.heap.size+2) (by show _<w3.heap.size;omega)).trans g2;have x0:=ab q0 0 rfl;have x1:=ab q0 1 rfl;have x2:=ab q0 2 rfl;have z0:=ak q0 0;have z1:=ak q0 1;have z2:=ak q0 2)|(go_at_call 100;refine(C1 _ hb1.drew).mono ?_;rintro y w3' ⟨so,sn,sc,rfl,hv1,hbv1⟩))
   all_goals go_wp2
   all_goals
    refine bodyPost_ret (v:=.agg #[.bool ng4,.slice o4 n4 c4,.int .i64 e4]) (by simp[results,results76,go_sem,x0,x1,x2]) rfl ⟨_,rfl,?_⟩
    exact b8 (g:=w.heap.size+2) hv2 (aa hbx3 (aa hb1.drew hbv1)) (by omega) (Nat.lt_of_lt_of_le (show _<w3.heap.size by omega) hbv1.size) _ _ _
theorem vt {an bn:Bool} {A B low:Int} {ng:Bool} {M:Int} (h:(an=bn∧ng=an∧M=A+B)∨(an≠bn∧B<=A∧ng=an∧M=A-B)∨(an≠bn∧A<B∧ng=bn∧M=B-A)) :
  sg ng M*pw low=sg an A*pw low+sg bn B*pw low:=by
 rw[<- Int.add_mul]
 congr 1
 rcases h with⟨rfl,rfl,rfl⟩|⟨h1,h2,rfl,rfl⟩|⟨h1,h2,rfl,rfl⟩
 ·cases ng<;>simp[sg]<;>omega
 ·cases ng<;>cases bn<;>simp[sg] at *<;>omega
 ·cases an<;>cases ng<;>simp[sg] at *<;>omega
theorem aT.digits {w:World} {so:Option Addr} {sn sc:Nat} {M:Int} (h:aT w (.slice so sn sc) M) {K:Nat} (hK:K<=560000) (hM:M<2^(2*K)+2^(2*K)):∃ d,aG w so sn sc d∧bt d sn∧val d sn=M∧sn<=37500:=by
 obtain⟨ao,n,ca,d,e,hR,hN,hv⟩:=h
 simp only[Value.slice.injEq] at e
 obtain⟨rfl,rfl,rfl⟩:=e
 refine⟨d,hR,hN,hv,?_⟩
 by_cases h1:sn<=37500
 ·exact h1
 ·exfalso
  have a:=cI hN.1 (by omega) hN.2
  have b:=fJ (show 37500<=sn-1 by omega)
  have c:(2:Int)^(2*K)<=2^(30*37400):=cc (by omega)
  have c2:(2:Int)^(30*37400)*2<=2^(30*37500):=by
   rw[<- Int.pow_succ]
   exact cc (by omega)
  rw[<- cr 37500] at c2
  generalize P 37500=Y at *
  generalize (2:Int)^(30*37400)=Z at *
  omega
theorem vu (x y:aE) (w:World) (hx:aG w x.ao x.n x.cap x.d) (hy:aG w y.ao y.n y.cap y.d) (dx:Dy x.V x.ng (val x.d x.n) x.e) (nx:bt x.d x.n) (dy:Dy y.V y.ng (val y.d y.n) y.e) (ny:bt y.d y.n) {K:Nat} (hK:K<=560000) (bx:Bd K x.V) (bY:Bd K y.V) :
  Calls prog 76 #[x.v,y.v] w fun r w'=>∃ v,r=.returned v∧gw w w' x.V y.V x.v y.v v:=by
 by_cases h0:x.n=0
 ·refine(mZ x y w (Nat.le_trans hx.le hx.max) (Nat.le_trans hy.le hy.max) h0).mono ?_
  rintro r w' ⟨rfl,hb⟩
  exact⟨_,rfl,hb,.inr (.inl ⟨dx.eq_zero.2 (by rw[h0];rfl),rfl⟩)⟩
 ·by_cases h1:y.n=0
  ·refine(lX x y w (Nat.le_trans hx.le hx.max) (Nat.le_trans hy.le hy.max) (by omega) h1).mono ?_
   rintro r w' ⟨rfl,hb⟩
   exact⟨_,rfl,hb,.inr (.inr ⟨dy.eq_zero.2 (by rw[h1];rfl),rfl⟩)⟩
  ·have px:=dK nx (show 0<x.n by omega)
   have py:=dK ny (show 0<y.n by omega)
   obtain⟨a1,a2,_⟩:=jF bx dx (by omega) px
   obtain⟨b1,b2,_⟩:=jF bY dy (by omega) py
   obtain⟨low,hlow⟩:∃ low:Int,low=min x.e y.e:=⟨_,rfl⟩
   have hl0:-(K:Int)<=low:=by omega
   have s1:=qE bx dx (by omega) px hl0 (by omega)
   have s2:=qE bY dy (by omega) py hl0 (by omega)
   have v1:=dx.at (low:=low) (by omega) (by omega)
   have v2:=dy.at (low:=low) (by omega) (by omega)
   have dgx:=oG hK nx (nN bx dx (by omega) px)
   have dgy:=oG hK ny (nN bY dy (by omega) py)
   have q1:0<=val x.d x.n*2^(x.e-low).toNat:=Int.mul_nonneg (by omega) (Int.le_of_lt (aF _))
   have q2:0<=val y.d y.n*2^(y.e-low).toNat:=Int.mul_nonneg (by omega) (Int.le_of_lt (aF _))
   have e1:x.e-low=((x.e-low).toNat:Int):=by omega
   have e2:y.e-low=((y.e-low).toNat:Int):=by omega
   have H1:∀ W,Below w.heap.size w W->Calls prog 97 #[.slice x.ao x.n x.cap,.int .i64 (x.e-low)] W fun r w'=>∃ so sn sc,r=.returned (.slice so sn sc)∧aT w' (.slice so sn sc) (val x.d x.n*2^(x.e-low).toNat)∧Below W.heap.size W w':=fun W hb=>by
    rw[e1]
    refine(iS x.ao x.n x.cap _ x.d W (hx.keeps hb) nx.1 (by omega) (by omega)).mono ?_
    rintro r w' ⟨v,rfl,hA⟩
    obtain⟨so,sn,sc,rfl⟩:=hA.num.shape
    exact⟨so,sn,sc,rfl,by rw[<- e1];exact hA.num,hA.below⟩
   have H2:∀ W,Below w.heap.size w W->Calls prog 97 #[.slice y.ao y.n y.cap,.int .i64 (y.e-low)] W fun r w'=>∃ so sn sc,r=.returned (.slice so sn sc)∧aT w' (.slice so sn sc) (val y.d y.n*2^(y.e-low).toNat)∧Below W.heap.size W w':=fun W hb=>by
    rw[e2]
    refine(iS y.ao y.n y.cap _ y.d W (hy.keeps hb) ny.1 (by omega) (by omega)).mono ?_
    rintro r w' ⟨v,rfl,hA⟩
    obtain⟨so,sn,sc,rfl⟩:=hA.num.shape
    exact⟨so,sn,sc,rfl,by rw[<- e2];exact hA.num,hA.below⟩
   generalize val x.d x.n*2^(x.e-low).toNat=A at *
   generalize val y.d y.n*2^(y.e-low).toNat=B at *
   have dg:=fun W so sn sc M (h:aT W (.slice so sn sc) M) hM=>h.digits hK hM
   have aj:∀ W p M,aT W p M->M<2^(2*K)+2^(2*K)->∃ so sn sc d,p=.slice so sn sc∧aG W so sn sc d∧bt d sn∧val d sn=M∧sn<=37500:=fun W p M h hM=>by
    obtain⟨so,sn,sc,rfl⟩:=h.shape
    obtain⟨d,h1,h2,h3,h4⟩:=h.digits hK hM
    exact⟨so,sn,sc,d,rfl,h1,h2,h3,h4⟩
   refine(tK x y w hx hy (by omega) (by omega) low A B (x.V+y.V) hlow (by omega) (by omega) (by omega) H1 H2 ?_ ?_ ?_ ?_ ?_).mono ?_
   ·intro W p q hp hq
    obtain⟨po,pn,pc,d,rfl,r1,r2,r3,r4⟩:=aj W p A hp (by omega)
    obtain⟨qo,qn,qc,d',rfl,u1,u2,u3,u4⟩:=aj W q B hq (by omega)
    refine(pI _ _ _ _ _ _ d d' W r1 u1 r2 u2 (by omega) (by omega)).mono ?_
    rw[r3,u3]
    rintro r w' ⟨v,rfl,hA⟩
    obtain⟨so,sn,sc,rfl⟩:=hA.num.shape
    exact⟨so,sn,sc,rfl,hA.num,hA.below⟩
   ·intro W p q hp hq
    obtain⟨po,pn,pc,d,rfl,r1,r2,r3,r4⟩:=aj W p A hp (by omega)
    obtain⟨qo,qn,qc,d',rfl,u1,u2,u3,u4⟩:=aj W q B hq (by omega)
    have:=pJ po qo pn qn pc qc d d' W r1 u1 r2 u2
    rwa [r3,u3] at this
   ·intro W p q hp hq hle
    obtain⟨po,pn,pc,d,rfl,r1,r2,r3,r4⟩:=aj W p A hp (by omega)
    obtain⟨qo,qn,qc,d',rfl,u1,u2,u3,u4⟩:=aj W q B hq (by omega)
    refine(jW _ _ _ _ _ _ d d' W r1 u1 r2 u2 (by omega) (by rw[r3,u3];exact hle)).mono ?_
    rw[r3,u3]
    rintro r w' ⟨v,rfl,hA⟩
    obtain⟨so,sn,sc,rfl⟩:=hA.num.shape
    exact⟨so,sn,sc,rfl,hA.num,hA.below⟩
   ·intro W p q hp hq hle
    obtain⟨po,pn,pc,d,rfl,r1,r2,r3,r4⟩:=aj W p A hp (by omega)
    obtain⟨qo,qn,qc,d',rfl,u1,u2,u3,u4⟩:=aj W q B hq (by omega)
    refine(jW _ _ _ _ _ _ d' d W u1 r1 u2 r2 (by omega) (by rw[r3,u3];exact hle)).mono ?_
    rw[r3,u3]
    rintro r w' ⟨v,rfl,hA⟩
    obtain⟨so,sn,sc,rfl⟩:=hA.num.shape
    exact⟨so,sn,sc,rfl,hA.num,hA.below⟩
   ·intro W ng s M hs hc
    have hM:M<2^(2*K)+2^(2*K):=by rcases hc with⟨_,_,h⟩|⟨_,_,_,h⟩|⟨_,_,_,h⟩<;>omega
    obtain⟨po,pn,pc,d,rfl,r1,r2,r3,r4⟩:=aj W s M hs hM
    have hV:=vt (low:=low) hc
    rw[<- v1,<- v2] at hV
    refine(ja ng po pn pc d low W r1 r2.1 (by omega) (by omega) (by omega)).mono ?_
    rw[r3,hV]
    rintro r w' ⟨v,rfl,hD⟩
    obtain⟨ng',s,m',e1,rfl,_,hA⟩:=id hD
    obtain⟨q1,q2,q3,rfl⟩:=hA.num.shape
    exact⟨ng',q1,q2,q3,e1,rfl,hD,hD.below⟩
   ·rintro r w' ⟨v,rfl,hD⟩
    exact⟨v,rfl,hD.below,.inl hD⟩
theorem oW {x:aE} (ok:bV x=true):x.opp.V=-x.V∧Dy x.opp.V x.opp.ng (val x.opp.d x.opp.n) x.opp.e:=by
 have hy:=(fC ok).1
 have hN:=(a8 ok).1
 by_cases h0:x.n=0
 ·have hv:val x.d x.n=0:=by rw[h0];rfl
  have e:x.opp=x:=by unfold aE.opp;rw[if_pos h0]
  rw[e]
  have:=hy.eq_zero.2 hv
  exact⟨by omega,hy⟩
 ·have hp:=dK hN (show 0<x.n by omega)
  have e:x.opp=⟨!x.ng,x.ao,x.n,x.cap,x.d,x.e⟩:=by unfold aE.opp;rw[if_neg h0]
  rw[e]
  have h1:=hy.neg hp
  have hV:aE.V ⟨!x.ng,x.ao,x.n,x.cap,x.d,x.e⟩=-x.V:=h1.val.symm
  rw[hV]
  exact⟨rfl,h1⟩
theorem gw.shape {w w':World} {A B:Int} {x y:aE} {v:Value} (h:gw w w' A B x.v y.v v):∃ ng so sn sc e,v=.agg #[.bool ng,.slice so sn sc,.int .i64 e]:=by
 rcases h.2 with⟨ng,s,m,e,rfl,_,hA⟩|⟨_,rfl⟩|⟨_,rfl⟩
 ·obtain⟨so,sn,sc,rfl⟩:=hA.num.shape
  exact⟨_,_,_,_,_,rfl⟩
 ·exact⟨_,_,_,_,_,rfl⟩
 ·exact⟨_,_,_,_,_,rfl⟩
theorem qF {w W w3:World} {A B:Int} {x y v:Value} (hv:gw W w3 A B x y v) (hb:Below w.heap.size w W) {g:Nat} (h0:w.heap.size<=g) (h1:g<W.heap.size) (a b c:Value) :
  gw w (((w3.setCell ⟨g,0,none⟩ a).setCell ⟨g,1,none⟩ b).setCell ⟨g,2,none⟩ c) A B x y v:=by
 refine⟨me (aa hb hv.1) h0 _ _ _,?_⟩
 rcases hv.2 with h|h|h
 ·exact .inl (b8 h hb h0 h1 a b c)
 ·exact .inr (.inl h)
 ·exact .inr (.inr h)
theorem vv (x y:aE) (w:World) (hx:aG w x.ao x.n x.cap x.d) (hy:aG w y.ao y.n y.cap y.d) (ox:bV x=true) (oy:bV y=true) {K:Nat} (hK:K<=560000) (bx:Bd K x.V) (bY:Bd K y.V) :
  Calls prog 82 #[x.v,y.v] w fun r w'=>∃ v,r=.returned v∧gw w w' x.V (-y.V) x.v y.opp.v v:=by
 obtain⟨e1,e2⟩:=oW oy
 have hop:=fun W=>lu y W (by have:=hy.le;have:=hy.max;omega)
 have C2:∀ W,Below w.heap.size w W->Calls prog 76 #[x.v,y.opp.v] W fun r w'=>∃ ng so sn sc e,r=.returned (.agg #[.bool ng,.slice so sn sc,.int .i64 e])∧gw W w' x.V (-y.V) x.v y.opp.v (.agg #[.bool ng,.slice so sn sc,.int .i64 e])∧Below W.heap.size W w':=fun W hb=>by
  refine(vu x y.opp W (hx.keeps hb) (hy.keeps hb) (fC ox).1 (a8 ox).1 e2 (a8 oy).1 hK bx (by rw[e1];exact bY.neg)).mono ?_
  rintro r w' ⟨v,rfl,h⟩
  rw[e1] at h
  obtain⟨ng,so,sn,sc,e,rfl⟩:=h.shape
  exact⟨_,_,_,_,_,rfl,h,h.1⟩
 have hmy:=hy.max
 have hly:=hy.le
 obtain⟨VV,hVV⟩:∃ V,V=x.V:=⟨_,rfl⟩
 obtain⟨UU,hUU⟩:∃ V,V=-y.V:=⟨_,rfl⟩
 rw[<- hVV,<- hUU] at C2 ⊢
 clear e1 e2 bx bY hVV hUU ox oy
 unfold aE.opp at *
 obtain⟨on,hon⟩:∃ V,V=(if y.n=0 then y.ng else !y.ng):=⟨_,rfl⟩
 rw[<- hon] at hop C2 ⊢
 clear hon
 obtain⟨an,ao,n,ca,a,e⟩:=x
 obtain⟨bn,bo,m,cb,b,f⟩:=y
 unfold aE.v at *
 simp only at *
 have hb3:Below w.heap.size w (((w.alloc (.cells #[.bool an,.slice ao n ca,.int .i64 e] 26)).alloc (.cells #[.bool bn,.slice bo m cb,.int .i64 f] 26)).alloc (.cells #[.bool false,.slice none 0 0,.int .i64 0] 26)):=dP _ _ _ _
 have g0:=nj w (.cells #[.bool an,.slice ao n ca,.int .i64 e] 26) (.cells #[.bool bn,.slice bo m cb,.int .i64 f] 26) (.cells #[.bool false,.slice none 0 0,.int .i64 0] 26)
 have g1:=nk w (.cells #[.bool an,.slice ao n ca,.int .i64 e] 26) (.cells #[.bool bn,.slice bo m cb,.int .i64 f] 26) (.cells #[.bool false,.slice none 0 0,.int .i64 0] 26)
 have g2:=ns w (.cells #[.bool an,.slice ao n ca,.int .i64 e] 26) (.cells #[.bool bn,.slice bo m cb,.int .i64 f] 26) (.cells #[.bool false,.slice none 0 0,.int .i64 0] 26)
 go_enter func82,ntmps82
 go_wp2_with fail
 generalize ((w.alloc (.cells #[.bool an,.slice ao n ca,.int .i64 e] 26)).alloc (.cells #[.bool bn,.slice bo m cb,.int .i64 f] 26)).alloc (.cells #[.bool false,.slice none 0 0,.int .i64 0] 26)=wx at hb3 g0 g1 g2 ⊢
 have k0:=ab g0 0 rfl
 have k1:=ab g0 1 rfl
 have k2:=ab g0 2 rfl
 have j0:=ab g1 0 rfl
 have j1:=ab g1 1 rfl
 have j2:=ab g1 2 rfl
 have hb1:=aq wx
 have hs3:=(aGe g2).1
 go_region_held3 (fun W=>(W.cell? ⟨w.heap.size,0,none⟩=some (.bool an)∧W.cell? ⟨w.heap.size,1,none⟩=some (.slice ao n ca)∧W.cell? ⟨w.heap.size,2,none⟩=some (.int .i64 e))∧W.cell? ⟨w.heap.size+1,0,none⟩=some (.bool bn)∧W.cell? ⟨w.heap.size+1,1,none⟩=some (.slice bo m cb)∧W.cell? ⟨w.heap.size+1,2,none⟩=some (.int .i64 f))
  (first|assumption|exact⟨⟨k0,k1,k2⟩,j0,j1,j2⟩|exact aK (W:=wx.drew) hbv1 ⟨⟨k0,k1,k2⟩,j0,j1,j2⟩|exact aK hbv2 (aK (W:=wx.drew) hbv1 ⟨⟨k0,k1,k2⟩,j0,j1,j2⟩)|exact⟨cJ (aK hbv2 (aK (W:=wx.drew) hbv1 ⟨⟨k0,k1,k2⟩,j0,j1,j2⟩)).1 (by omega) _ _ _,cJ (aK hbv2 (aK (W:=wx.drew) hbv1 ⟨⟨k0,k1,k2⟩,j0,j1,j2⟩)).2 (by omega) _ _ _⟩)
  (first|(go_at_call 76;refine(C2 _ (aa hb3 (aa hb1.drew hbv1))).mono ?_;rintro y w4 ⟨ng4,o4,n4,c4,e4,rfl,hv2,hbv2⟩;have q0:=((aa hbv1 hbv2).block (w.heap.size+2) (by show _<wx.heap.size;omega)).trans g2;have x0:=ab q0 0 rfl;have x1:=ab q0 1 rfl;have x2:=ab q0 2 rfl;have z0:=ak q0 0;have z1:=ak q0 1;have z2:=ak q0 2)|(go_at_call 74;refine(hop _).mono ?_;rintro y w3 ⟨rfl,hbv1⟩))
 all_goals go_wp2
 all_goals
  refine bodyPost_ret (v:=.agg #[.bool ng4,.slice o4 n4 c4,.int .i64 e4]) (by simp[results,results82,go_sem,x0,x1,x2]) rfl ⟨_,rfl,?_⟩
  exact qF (g:=w.heap.size+2) hv2 (aa hb3 (aa hb1.drew hbv1)) (by omega) (Nat.lt_of_lt_of_le (show _<wx.heap.size by omega) hbv1.size) _ _ _
theorem sC {w:World} {ng:Bool} {so:Option Addr} {sn sc:Nat} {e V:Int} (h:aX w (.agg #[.bool ng,.slice so sn sc,.int .i64 e]) V):sgn ng sn=bq V 0∧sn<=9223372036854775807:=by
 obtain⟨ng',s,m,e',h1,hy,ao,n,cap,d,rfl,hR,hN,rfl⟩:=h
 simp only[Value.agg.injEq,Array.mk.injEq,List.cons.injEq,Value.bool.injEq,Value.int.injEq,Value.slice.injEq,and_true,true_and] at h1
 obtain⟨rfl,⟨rfl,rfl,rfl⟩,rfl⟩:=h1
 refine⟨?_,by have:=hR.le;have:=hR.max;omega⟩
 by_cases h0:sn=0
 ·have:=hy.eq_zero.2 (by rw[h0];rfl)
  rw[this,eE rfl]
  simp[sgn,h0]
 ·have hp:=dK hN (show 0<sn by omega)
  cases ng
  ·have hn:¬ V<0:=fun h=>by have:=hy.neg_iff.2 h;simp at this
   have hz:V≠0:=fun h=>by have:=hy.eq_zero.1 h;omega
   rw[cG (by omega)]
   simp[sgn,h0]
  ·have hn:=hy.neg_iff.1 rfl
   rw[cF hn]
   simp[sgn,h0]
end Go.Proofs.YtkkpppgfoilgmaaGreatDoor
