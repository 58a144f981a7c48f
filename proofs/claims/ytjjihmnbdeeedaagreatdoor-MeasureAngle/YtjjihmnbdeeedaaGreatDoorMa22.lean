/- Parts of the proof. -/
import Derived.Test.YtjjihmnbdeeedaaGreatDoorMa3
import Derived.Test.YtjjihmnbdeeedaaGreatDoorMa1
import Derived.Test.YtjjihmnbdeeedaaGreatDoorMa10
import Derived.Test.YtjjihmnbdeeedaaGreatDoorMa4
import Derived.Test.YtjjihmnbdeeedaaGreatDoorMa7
import Derived.Test.YtjjihmnbdeeedaaGreatDoorMa14
import Derived.Test.YtjjihmnbdeeedaaGreatDoorMa5
import Derived.Deep.RegionHeld3
set_option maxRecDepth 100000
set_option maxHeartbeats 8000000
set_option linter.unusedVariables false
set_option linter.unusedSimpArgs false
namespace Go.Proofs.YtjjihmnbdeeedaaGreatDoor
open Go Go.Proofs.Tryz Go.RowKit Go.Proofs.YtjjihmnbdeeedaaGreatDoor.M
theorem NL {p:Prop} (h:p):Hid p:=h
theorem wm {k:IntKind} {a b:Int} (h:a=b):Value.int k a=.int k b:=by rw[h]
theorem tq (mag exp:Int) (w:World) (h0:0<mag) (h:mag<9223372036854775808) (e0:-2000<=exp) (e1:exp<=2000) :
  Calls prog 328 #[G6 mag,G6 exp,G6 (-1074),G6 53] w fun e w'=>e=.returned (.tuple #[G6 (sm 52 (-1074) mag exp),G6 (se 52 (-1074) mag exp),.bool (sk 52 (-1074) mag exp)])∧w'=w:=by
 have hj:=oN h0 h
 have hL:=tt h0 h
 have hz63:jz mag<63:=by obtain⟨_,_,a,_⟩:=fF h0 h;exact a
 have hodd:=Eg h0 h
 go_enter func328,ntmps328
 go_wp2
 go_loop [0,1] (fun a b=>∃ k:Nat,k<=jz mag∧a=G6 (mag/2^k)∧b=G6 (exp+k)) (fun _ b=>(exp+jz mag-intOf b).toNat)
 case atStart=>exact⟨0,Nat.zero_le _,by simp,by simp⟩
 case round=>
  obtain⟨k,hk,rfl,rfl⟩:=hrel
  by_cases hlt:k<jz mag
  ·obtain⟨a1,a2,a3,a4⟩:=Og h0 h k hlt
   have b1:(mag/2^k % 2 == 0)=true:=by simp[a1]
   have A2:=NL a2
   clear a2 a1
   go_wp2
   go_round
   case rel=>exact⟨k+1,hlt,wm A2.out,wm (by omega)⟩
   case measure=>simp[intOf];omega
  ·have hke:k=jz mag:=by omega
   subst hke
   have eo:mag/2^jz mag=jo mag:=rfl
   have b1:(jo mag % 2 == 0)=false:=by simp[hodd]
   have hd0:=tu (fr:=53) h0 h (by omega) 0
   have hd1:jo mag<9007199254740992↔0<=jU 52 mag:=by
    have e:jo mag*2^0=jo mag:=by simp
    rw[e,show(2:Int)^(53:Int).toNat=9007199254740992 by decide] at hd0
    rw[hd0];unfold jU;omega
   clear hd0 hodd
   by_cases s1:jo mag<9007199254740992
   ·have sp:=hd1.1 s1
    clear hd1
    by_cases s2:exp+jz mag < -1074
    ·have hk:Hid (sk 52 (-1074) mag exp=false):=by unfold Hid sk;simp;omega
     go_wp2
     go_ret3
     exact⟨nI (by simp[sm,hk.out]) (by simp[se,hk.out]) (by simp[hk.out]),rfl⟩
    ·have hk:Hid (sk 52 (-1074) mag exp=true):=by unfold Hid sk;simp;omega
     obtain⟨s,hs⟩:∃ s:Nat,eg 52 (-1074) mag exp=(s:Int):=⟨(eg 52 (-1074) mag exp).toNat,by unfold eg;omega⟩
     have hs':Hid (eg 52 (-1074) mag exp=(s:Int)):=hs
     have hsd:Hid ((s:Int)=min (jU 52 mag) (exp+jz mag+1074)):=by unfold Hid;rw[<- hs];unfold eg;omega
     clear hs
     go_wp2
     go_loop [0,1] (fun a b=>∃ j:Nat,j<=s∧a=G6 (jo mag*2^j)∧b=G6 (exp+jz mag-j)) (fun _ b=>(intOf b+1074).toNat)
     case atStart=>exact⟨0,Nat.zero_le _,by simp,by simp⟩
     case round=>
      obtain⟨j,hjs,rfl,rfl⟩:=hrel
      have hd:=tu (fr:=52) h0 h (by omega) j
      rw[show(2:Int)^(52:Int).toNat=4503599627370496 by decide] at hd
      have hb:=mK (fr:=52) h0 h (by omega) j (by have:=hsd.out;omega)
      have hb1:=hb.1
      have hb2:jo mag*2^j<9007199254740992:=hb.2
      clear hb
      by_cases hlt:j<s
      ·have c1:jo mag*2^j<4503599627370496:=hd.2 (by have:=hsd.out;omega)
       have c2:-1074<exp+jz mag-j:=by have:=hsd.out;omega
       have e2:Hid (jo mag*2^j+jo mag*2^j=jo mag*2^(j+1)):=by
        unfold Hid;rw[Int.pow_succ,<- Int.mul_assoc];omega
       clear hd
       go_wp2
       go_round
       case rel=>exact⟨j+1,hlt,wm e2.out,wm (by omega)⟩
       case measure=>simp[intOf];omega
      ·have hje:j=s:=by omega
       subst hje
       have fin:¬ (-1074<exp+jz mag-j∧jo mag*2^j<4503599627370496):=by
        rw[hd];have:=hsd.out;omega
       clear hd
       by_cases c2:-1074<exp+jz mag-j
       all_goals
        go_wp2
        go_ret3
        exact⟨nI (by simp[sm,hk.out,hs'.out]) (by simp[se,hk.out,hs'.out]) (by simp[hk.out]),rfl⟩
   ·have hk:Hid (sk 52 (-1074) mag exp=false):=by unfold Hid sk;simp;omega
    clear hd1
    go_wp2
    go_ret3
    exact⟨nI (by simp[sm,hk.out]) (by simp[se,hk.out]) (by simp[hk.out]),rfl⟩
theorem NM (neg:Bool) (mag exp:Int) (w:World) (hm:ag mag) (he:ag exp) :
  Calls prog 308 #[.bool neg,G6 mag,G6 exp] w fun e w'=>e=.returned (.tuple #[G6 (jp neg mag exp),.bool (jk 52 2047 (-1074) mag exp)])∧w'=w:=by
 unfold ag at hm he
 rcases Int.lt_trichotomy mag 0 with h|h|h
 ·have hk:Hid (jk 52 2047 (-1074) mag exp=false):=by unfold Hid jk;rw[if_pos h]
  have hv:Hid (jp neg mag exp=0):=by unfold Hid jp;rw[hk.out];simp[jv];omega
  cases neg
  all_goals
   go_enter func308,ntmps308
   go_wp2
   go_ret2
   exact⟨cM hv.out.symm hk.out.symm,rfl⟩
 ·subst h
  cases neg
  all_goals
   go_enter func308,ntmps308
   go_wp2
   all_goals go_ret2
   all_goals exact⟨cM (by simp[jp,jk,jv]) (by simp[jk]),rfl⟩
 ·have hn:(mag == 0)=false:=by simp;omega
  by_cases f1:2000<exp
  ·have hg:=xx h hm.2 (exp:=exp) (by omega)
   have hk:Hid (jk 52 2047 (-1074) mag exp=false):=by unfold Hid jk;rw[if_neg (by omega),if_neg (by omega),hg]
   have hv:Hid (jp neg mag exp=0):=by unfold Hid jp;rw[hk.out];simp[jv,hg]
   clear hg
   cases neg
   all_goals
    go_enter func308,ntmps308
    go_wp2
    go_ret2
    exact⟨cM hv.out.symm hk.out.symm,rfl⟩
  ·by_cases f2:exp < -2000
   ·have hg:=Eh h hm.2 f2
    have hk:Hid (jk 52 2047 (-1074) mag exp=false):=by unfold Hid jk;rw[if_neg (by omega),if_neg (by omega),hg]
    have hv:Hid (jp neg mag exp=0):=by unfold Hid jp;rw[hk.out];simp[jv,hg]
    clear hg
    cases neg
    all_goals
     go_enter func308,ntmps308
     go_wp2
     go_ret2
     exact⟨cM hv.out.symm hk.out.symm,rfl⟩
   ·have hgs:=zm mag exp
    by_cases g1:sk 52 (-1074) mag exp=true
    ·by_cases g2:se 52 (-1074) mag exp<=971
     ·obtain⟨b1,b2,b3,b4⟩:=Qe h hm.2 g1 g2
      have hk:Hid (jk 52 2047 (-1074) mag exp=true):=by unfold Hid jk;rw[if_neg (by omega),if_neg (by omega),hgs,g1];simpa using g2
      have hv:Hid (jv 52 2047 (-1074) mag exp=(if sm 52 (-1074) mag exp<4503599627370496 then sm 52 (-1074) mag exp else (se 52 (-1074) mag exp+1075)*4503599627370496+sm 52 (-1074) mag exp-4503599627370496)):=b4
      clear b4 hgs
      by_cases g3:sm 52 (-1074) mag exp<4503599627370496
      all_goals
       cases neg
       all_goals
        go_enter func308,ntmps308
        go_wp2_with (go_at_call 328;refine(tq mag exp _ h hm.2 (by omega) (by omega)).mono ?_;rintro e w1 ⟨rfl,rfl⟩)
        go_ret2
        refine⟨cM ?_ hk.out.symm,rfl⟩
        unfold jp
        rw[hk.out,hv.out]
        simp
        omega
     ·have hg:cP 52 2047 (-1074) mag exp=false:=by rw[hgs,g1];simpa using g2
      have hk:Hid (jk 52 2047 (-1074) mag exp=false):=by unfold Hid jk;rw[if_neg (by omega),if_neg (by omega),hg]
      have hv:Hid (jp neg mag exp=0):=by unfold Hid jp;rw[hk.out];simp[jv,hg]
      clear hg hgs
      cases neg
      all_goals
       go_enter func308,ntmps308
       go_wp2_with (go_at_call 328;refine(tq mag exp _ h hm.2 (by omega) (by omega)).mono ?_;rintro e w1 ⟨rfl,rfl⟩)
       go_ret2
       exact⟨cM hv.out.symm hk.out.symm,rfl⟩
    ·have g1':sk 52 (-1074) mag exp=false:=by simpa using g1
     have hg:cP 52 2047 (-1074) mag exp=false:=by rw[hgs,g1'];rfl
     have hk:Hid (jk 52 2047 (-1074) mag exp=false):=by unfold Hid jk;rw[if_neg (by omega),if_neg (by omega),hg]
     have hv:Hid (jp neg mag exp=0):=by unfold Hid jp;rw[hk.out];simp[jv,hg]
     clear hg hgs g1
     cases neg
     all_goals
      go_enter func308,ntmps308
      go_wp2_with (go_at_call 328;refine(tq mag exp _ h hm.2 (by omega) (by omega)).mono ?_;rintro e w1 ⟨rfl,rfl⟩)
      go_ret2
      exact⟨cM hv.out.symm hk.out.symm,rfl⟩
theorem wn {A W:Int} {a:Nat->Int} {m:Nat} (hd:bP a (m+1)) (h:W*P (m+1)+val a (m+1)=A) (h0:0<=W) (hA:A<9223372036854775808):W*1073741824+a m<=9223372036854775807∧(W*1073741824+a m)*P m+val a m=A:=by
 have e:(W*1073741824+a m)*P m+val a m=A:=by
  rw[<- h,kQ,aZ];grind
 refine⟨?_,e⟩
 have h1:=bL (hd.le (Nat.le_succ m))
 have h2:=dt m
 have h3:=(hd m (by omega)).1
 have h4:(W*1073741824+a m)*1<=(W*1073741824+a m)*P m:=Int.mul_le_mul_of_nonneg_left (by omega) (by omega)
 omega
def eC:Value:=.agg #[G6 53,G6 (-1074),G6 1024,G6 9218868437227405312,G6 (-9223372036854775808)]
theorem ul (m:Int) (w:World) (h0:0<=m) (h1:m<=9223372036854775807) :
  Calls prog 276 #[G6 m] w fun e w'=>e=.returned (G6 (aQ m))∧w'=w:=by
 have hbl:aQ m<=63:=fO (by show m<9223372036854775808;omega)
 go_enter func276,ntmps276
 go_wp2
 go_loop [0,3] (fun v s=>∃ (x:Int) (t:Nat),s=G6 t∧v=G6 x∧0<=x∧x<=9223372036854775807∧t<=63∧Hid (t+aQ x=aQ m)) (fun v _=>(intOf v).toNat)
 case atStart=>exact⟨m,0,by go_num,rfl,h0,h1,by omega,by show 0+_=_;omega⟩
 case round=>
  obtain⟨x,t,rfl,rfl,hx0,hx1,ht,HT⟩:=hrel
  by_cases hp:0<x
  ·have ht2:t+1<=63:=by have:=HT.out;have:=oS hp;omega
   go_wp2
   go_round
   case rel=>exact⟨x/2,t+1,by go_num,rfl,by omega,by omega,ht2,by show _=_;have:=HT.out;have:=oS hp;omega⟩
   case measure=>simp[intOf];omega
  ·obtain rfl:x=0:=by omega
   go_wp2
   go_ret
   exact⟨de (by have:=HT.out;rw[sF] at this;omega),rfl⟩
theorem Ch (m e:Int) (w:World) (hm:ag m) (he:ag e) :
  Calls prog 277 #[eC,G6 m,G6 e] w fun x w'=>x=.returned (G6 (jp false m e))∧Below w.heap.size w w':=by
 have hJ:=fun W=>NM false m e W hm he
 generalize jp false m e=J at hJ ⊢
 generalize jk 52 2047 (-1074) m e=K at hJ
 unfold eC
 go_enter func277,ntmps277
 go_wp2_with fail
 refine(hJ _).mono ?_
 rintro r w1 ⟨rfl,rfl⟩
 go_wp2
 go_ret
 exact⟨rfl,af _ _⟩
theorem KV (ao:Option Addr) (n cap:Nat) (i:Int) (w:World) (hi:i<0) (hi2:-9223372036854775808<=i) :
  Calls prog 275 #[.slice ao n cap,G6 i] w fun e w'=>e=.returned (.bool false)∧w'=w:=by
 go_enter func275,ntmps275
 go_wp2
 go_ret
 exact⟨rfl,rfl⟩
def Pt (w:World) (ng na ni:Bool) (V:Int) (v:Value):Prop:=∃ xg xo xn xc xe,v=.agg #[.bool ng,.bool na,.bool ni,.bool xg,.slice xo xn xc,G6 xe]∧br w (.agg #[.bool xg,.slice xo xn xc,G6 xe]) V
theorem Bx (w:World):Calls prog 232 #[eC] w fun e w'=>e=.returned (G6 9221120237041090561)∧Below w.heap.size w w':=by
 unfold eC
 go_enter func232,ntmps232
 go_wp2
 go_ret
 exact⟨rfl,af _ _⟩
theorem kY (ng:Bool) (b:Int) (hb:0<=b∧b<=9218868437227405312) (w:World):Calls prog 233 #[eC,.bool ng,G6 b] w fun e w'=>e=.returned (G6 (aG ng b))∧Below w.heap.size w w':=by
 unfold eC aG
 cases ng
 all_goals
  go_enter func233,ntmps233
  go_wp2
  go_ret
  exact⟨de (by first|rfl|omega|(simp;done)|(simp;omega)),af _ _⟩
theorem mZ (ng na ni xg:Bool) (xo:Option Addr) (xn xc:Nat) (xe:Int) (hx:xn<=9223372036854775807) (w:World):Calls prog 235 #[.agg #[.bool ng,.bool na,.bool ni,.bool xg,.slice xo xn xc,G6 xe]] w fun e w'=>e=.returned (.bool (!na&&!ni&&decide (xn=0)))∧Below w.heap.size w w':=by
 by_cases h0:xn=0
 ·subst h0
  cases na<;>cases ni
  all_goals
   go_enter func235,ntmps235
   go_wp2
   go_ret
   exact⟨rfl,af _ _⟩
 ·have h1:((xn:Int) == 0)=false:=by simp;omega
  rw[decide_eq_false h0]
  cases na<;>cases ni
  all_goals
   go_enter func235,ntmps235
   go_wp2
   go_ret
   exact⟨rfl,af _ _⟩
theorem cB.set {B:Nat} {w:World} {V:Int} {v:Value} (h:cB B w V v) {a:Addr} (ha:a.block<B) (u:Value):cB B (w.setCell a u) V v:=by
 obtain⟨ng,s,m,e,h1,h2,t,d,h3,h4,h5⟩:=h
 exact⟨ng,s,m,e,h1,h2,t,d,h3.set_below ha u,h4,h5⟩
theorem DV {b:Int} (hp:ak b=true):aH b<3:=by
 unfold ak at hp
 unfold aH
 simp at hp
 rw[if_neg hp]
 split
 ·split<;>omega
 ·omega
theorem nY {b:Int} (hp:ak b≠true):(aH b=3∨aH b=4)∧aq b=0:=by
 unfold ak at hp
 simp at hp
 refine⟨?_,?_⟩
 ·unfold aH
  rw[if_pos hp]
  split<;>simp
 ·unfold aq aN
  rw[if_pos hp]
  have:sg (dW b) 0=0:=by unfold sg;split<;>rfl
  rw[this,Int.zero_mul]
theorem lG (b:Int) (w:World) (hb:ag b):Calls prog 179 #[eC,G6 b] w fun e w'=>∃ v,e=.returned v∧Below w.heap.size w w'∧Pt w' (decide (b<0)) (decide (aH b=4)) (decide (aH b=3)) (aq b) v:=by
 unfold eC
 have hC:=fun W=>mi b W hb
 by_cases hp:ak b=true
 ·have hO:=fun W=>xq b W hb hp
  have hc3:=DV hp
  have hV:sg (dW b) (aN b)*pw (bh b)=aq b:=rfl
  rw[hV] at hO
  clear hV
  generalize aq b=V at *
  obtain⟨c,hc⟩:∃ c,aH b=c:=⟨_,rfl⟩
  rw[hc] at hC hc3 ⊢
  have e4:decide (c=4)=(c == 4):=rfl
  have e3:decide (c=3)=(c == 3):=rfl
  have n4:(c == 4)=false:=by simp;omega
  have n3:(c == 3)=false:=by simp;omega
  have dd:decide (c<3)=true:=decide_eq_true hc3
  rw[e4,e3]
  clear hc hb hp e4 e3
  go_enter func179,ntmps179
  go_wp2_with fail
  refine(hC _).mono ?_
  rintro _ _ ⟨rfl,rfl⟩
  go_wp2_with fail
  refine(hO _).mono ?_
  rintro _ w3 ⟨v,rfl,hD⟩
  obtain⟨ng',s',m',e',rfl,hyy,hA2⟩:=id hD
  obtain⟨so',sn',sc',rfl⟩:=hA2.num.shape
  have q0:=(hD.below.block w.heap.size (by rw[nt];omega)).trans (pD _ _ _ _)
  have q1:=(hD.below.block (w.heap.size+1) (by rw[nt];omega)).trans (pE _ _ _ _)
  have q2:=(hD.below.block (w.heap.size+2) (by rw[nt];omega)).trans (lh _ _ _ _)
  have k0:=ae q0 0 rfl
  have x0:=ae q1 0 rfl
  have x1:=ae q1 1 rfl
  have x2:=ae q1 2 rfl
  have x3:=ae q1 3 rfl
  have x4:=ae q1 4 rfl
  have x5:=ae q1 5 rfl
  have f0:=ah q1 0
  have f1:=ah q1 1
  have f2:=ah q1 2
  have f3:=ah q1 3
  have f4:=ah q1 4
  have f5:=ah q1 5
  have y0:=ae q2 0 rfl
  have y1:=ae q2 1 rfl
  have y2:=ae q2 2 rfl
  have y3:=ae q2 3 rfl
  have y4:=ae q2 4 rfl
  have y5:=ae q2 5 rfl
  have g3:=ah q2 3
  have g4:=ah q2 4
  have g5:=ah q2 5
  have hbw:=ac (df w _ _ _) hD.below
  have hDa:=hD.dan
  rw[nt] at hDa
  clear hD hA2 hyy hO hC q0 q1 q2
  go_wp2
  refine bodyPost_ret (v:=.agg #[.bool (decide (b<0)),.bool false,.bool false,.bool ng',.slice so' sn' sc',G6 e']) (by simp[results,results179,go_sem,x0,x1,x2,x3,x4,x5]) rfl ⟨_,rfl,?_,?_⟩
  ·iterate 9 (refine Below.setCell ?_ (by dsimp only;omega) _)
   exact hbw
  ·rw[n4,n3]
   refine⟨_,_,_,_,_,rfl,cB.num (B:=w.heap.size+3) ?_⟩
   iterate 9 (refine cB.set ?_ (by dsimp only;omega) _)
   exact hDa
 ·obtain⟨hc34,hV⟩:=nY hp
  rw[hV]
  obtain⟨c,hc⟩:∃ c,aH b=c:=⟨_,rfl⟩
  rw[hc] at hC hc34 ⊢
  clear hc hb hp hV
  rcases hc34 with rfl|rfl
  all_goals
   go_enter func179,ntmps179
   go_wp2_with fail
   refine(hC _).mono ?_
   rintro _ _ ⟨rfl,rfl⟩
   go_wp2
  ·refine bodyPost_ret (v:=.agg #[.bool (decide (b<0)),.bool false,.bool true,.bool false,.slice none 0 0,G6 0]) (by simp[results,results179,go_sem]) rfl ⟨_,rfl,?_,?_⟩
   ·exact df _ _ _ _
   ·exact⟨_,_,_,_,_,rfl,br.zero _⟩
  ·refine bodyPost_ret (v:=.agg #[.bool (decide (b<0)),.bool true,.bool false,.bool false,.slice none 0 0,G6 0]) (by simp[results,results179,go_sem]) rfl ⟨_,rfl,?_,?_⟩
   ·exact df _ _ _ _
   ·exact⟨_,_,_,_,_,rfl,br.zero _⟩
def ig (way:Int) (ng hf rs:Bool) (K:Nat):Bool:=if way=0 then hf&&(rs||decide (K % 2=1)) else if way=1 then ng&&(hf||rs) else if way=2 then !ng&&(hf||rs) else false
def eK (way:Int) (ng hf rs:Bool) (K:Nat) (E:Int):Int × Bool :=
 let U:Nat:=K+(if ig way ng hf rs K then 1 else 0)
 if 4503599627370496<=U∧1024<(aQ (U:Int):Int)+E then ((if ng then -9223372036854775808 else 0)+(if way=0∨(way=2∧ng=false)∨(way=1∧ng=true) then 9218868437227405312 else 9218868437227405311),true) else ((if ng then -9223372036854775808 else 0)+jp false U E,hf||rs)
theorem NN {way:Int} {ng hf rs:Bool} {K:Nat} {E:Int} (U:Nat) (hU:K+(if ig way ng hf rs K then 1 else 0)=U) (h:¬ (4503599627370496<=U∧1024<(aQ (U:Int):Int)+E)):eK way ng hf rs K E=((if ng then -9223372036854775808 else 0)+jp false U E,hf||rs):=by
 unfold eK
 simp only
 rw[hU,if_neg h]
theorem NO {way:Int} {ng hf rs:Bool} {K:Nat} {E:Int} (U:Nat) (hU:K+(if ig way ng hf rs K then 1 else 0)=U) (h:4503599627370496<=U∧1024<(aQ (U:Int):Int)+E):eK way ng hf rs K E=((if ng then -9223372036854775808 else 0)+(if way=0∨(way=2∧ng=false)∨(way=1∧ng=true) then 9218868437227405312 else 9218868437227405311),true):=by
 unfold eK
 simp only
 rw[hU,if_pos h]
theorem mD {way:Int} {ng hf rs:Bool} {K:Nat} {E:Int} (U:Nat) (Ui:Int) (hi:((U:Nat):Int)=Ui) (hU:K+(if ig way ng hf rs K then 1 else 0)=U) (h:¬ (4503599627370496<=Ui∧1024<(aQ Ui:Int)+E)):eK way ng hf rs K E=((if ng then -9223372036854775808 else 0)+jp false Ui E,hf||rs):=by
 subst hi
 exact NN U hU (fun q=>h ⟨by omega,q.2⟩)
theorem By {way:Int} {ng hf rs:Bool} {K:Nat} {E:Int} (U:Nat) (Ui:Int) (hi:((U:Nat):Int)=Ui) (hU:K+(if ig way ng hf rs K then 1 else 0)=U) (h:4503599627370496<=Ui∧1024<(aQ Ui:Int)+E):eK way ng hf rs K E=((if ng then -9223372036854775808 else 0)+(if way=0∨(way=2∧ng=false)∨(way=1∧ng=true) then 9218868437227405312 else 9218868437227405311),true):=by
 subst hi
 exact NO U hU ⟨by omega,h.2⟩
structure Fj (ao:Option Addr) (n cap:Nat) (d:Nat->Int) (exp:Int) (more:Bool) (nb:Nat) (E lw:Int) (K:Nat) (hf rs:Bool) (l:Int):Prop where
 hnb:1<=nb∧nb<=300000
 he:-1300000<=exp∧exp<=1300000
 hlw:-100<=lw∧lw<=1700000
 hE:-1074<=E∧E<=1700000
 hEl:E-exp=lw
 hK:K<9007199254740992
 hl:0<=l∧l<=400000
 hr1:more=true->rs=true∧0<lw
 hr2:more=false->lw<=1->rs=false
 hr3:more=false->1<lw->rs=decide (l<lw-1)
 hm1:∀ (ts:Array TypeId) (t:TypeId) (w:World),(Builtin.max_ ts t #[G6 ((nb:Int)+exp-53),G6 (-1074)]).run prog w=.ok (G6 E) w
 hm2:∀ (ts:Array TypeId) (t:TypeId) (w:World),(Builtin.max_ ts t #[G6 lw,G6 0]).run prog w=.ok (G6 (max lw 0)) w
 CB:∀ W,aU W ao n cap d->Calls prog 274 #[.slice ao n cap] W fun e w'=>e=.returned (G6 nb)∧w'=W
 CS:∀ W,aU W ao n cap d->Calls prog 260 #[.slice ao n cap,G6 (max lw 0)] W fun e w'=>∃ so sn sc,e=.returned (.slice so sn sc)∧Below W.heap.size W w'∧(0<=lw->dU w' (.slice so sn sc) K)
 CL:lw<0->∀ W,aU W ao n cap d->Calls prog 204 #[.slice ao n cap,G6 (-lw)] W fun e w'=>∃ so sn sc,e=.returned (.slice so sn sc)∧Below W.heap.size W w'∧dU w' (.slice so sn sc) K
 CI:∀ W,aU W ao n cap d->Calls prog 275 #[.slice ao n cap,G6 (lw-1)] W fun e w'=>e=.returned (.bool hf)∧w'=W
 CW:∀ W,aU W ao n cap d->Calls prog 259 #[.slice ao n cap] W fun e w'=>e=.returned (G6 l)∧w'=W
 CJ:∀ U:Int,0<=U->U<=9007199254740992->∃ J:Int,J=jp false U E∧(0<=J∧J<9218868437227405312)∧∀ W,Calls prog 277 #[eC,G6 U,G6 E] W fun x w'=>x=.returned (G6 J)∧Below W.heap.size W w'
end Go.Proofs.YtjjihmnbdeeedaaGreatDoor
