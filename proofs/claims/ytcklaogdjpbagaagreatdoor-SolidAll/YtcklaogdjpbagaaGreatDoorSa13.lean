/- Parts of the proof. -/
import Derived.Test.YtcklaogdjpbagaaGreatDoorSa4
import Derived.Test.YtcklaogdjpbagaaGreatDoorSa2
import Derived.Test.YtcklaogdjpbagaaGreatDoorSa1
import Derived.Test.YtcklaogdjpbagaaGreatDoorSa6
import Derived.Test.YtcklaogdjpbagaaGreatDoorSa3
import Derived.Test.YtcklaogdjpbagaaGreatDoorSa5
import Derived.Test.YtcklaogdjpbagaaGreatDoorSa7
import Derived.Deep.RegionHeld3
set_option maxRecDepth 100000
set_option maxHeartbeats 8000000
set_option linter.unusedVariables false
set_option linter.unusedSimpArgs false
namespace Go.Proofs.YtcklaogdjpbagaaGreatDoor
open Go Go.Proofs.Tryz Go.Proofs.YtcklaogdjpbagaaGreatDoor.M
def cH (M:Nat) (low:Int):Bool:=decide (0<low)&&kv M (low-1).toNat
def cR (M:Nat) (more:Bool) (low:Int):Bool:=more||(decide (1<low)&&decide (M % 2^(low-1).toNat≠0))
theorem yJ {M:Nat} {more:Bool} {low:Int} (hc:more=true->0<low):rL M more low=if cH M low then (if cR M more low then 3 else 2) else (if cR M more low then 1 else 0):=by
 by_cases h:low<=0
 ·have hm:more=false:=by
   cases more
   ·rfl
   ·have:=hc rfl;omega
  unfold rL cH cR
  rw[if_pos h,decide_eq_false (show ¬ 0<low by omega),decide_eq_false (show ¬ 1<low by omega),hm]
  rfl
 ·obtain⟨s,rfl⟩:∃ s:Nat,low=(s:Int)+1:=⟨(low-1).toNat,by omega⟩
  have e1:((s:Int)+1-1).toNat=s:=by omega
  have e2:((s:Int)+1).toNat=s+1:=by omega
  unfold rL cH cR
  rw[if_neg h,e1,e2,decide_eq_true (show(0:Int)<(s:Int)+1 by omega),Bool.true_and]
  have hb:kv (M:Int) s=decide (M/2^s % 2=1):=by
   unfold kv
   have:(M:Int)/2^s % 2=((M/2^s % 2:Nat):Int):=by simp
   rw[this]
   rcases Nat.mod_two_eq_zero_or_one (M/2^s) with q|q<;>rw[q]<;>rfl
  rw[hb]
  have hs:M % 2^(s+1)=M/2^s % 2*2^s+M % 2^s:=by
   rw[Nat.pow_succ,Nat.mod_mul]
   rw[Nat.mul_comm,Nat.add_comm]
  have hr:(decide ((1:Int)<(s:Int)+1)&&decide (M % 2^s≠0))=decide (M % 2^s≠0):=by
   cases s with
   | zero=>simp[Nat.mod_one]
   | succ k=>rw[decide_eq_true (show(1:Int)<((k+1:Nat):Int)+1 by omega),Bool.true_and]
  rw[hr,hs,Nat.pow_succ]
  have hlt:=Nat.mod_lt M (Nat.two_pow_pos s)
  generalize M % 2^s=t at *
  generalize 2^s=q at *
  rcases Nat.mod_two_eq_zero_or_one (M/q) with p|p
  ·rw[p]
   cases more
   ·by_cases t0:t=0
    ·simp[t0]
    ·simp[t0]
     omega
   ·simp
    omega
  ·rw[p]
   cases more
   ·by_cases t0:t=0
    ·subst t0
     simp
     omega
    ·simp[t0]
     omega
   ·simp
    omega
theorem yK {M:Nat} {l:Int} {s:Nat} (h:mC M l) (h0:M≠0):(0<=l∧l<s)↔M % 2^s≠0:=by
 rcases h with⟨h,_⟩|⟨k,rfl,m,hm⟩
 ·omega
 ·have hm0:0<=m:=by
   rcases Int.lt_or_le m 0 with q|q
   ·have h2:=aJ k
    have:(2*m+1)*2^k<0:=Int.mul_neg_of_neg_of_pos (by omega) h2
    omega
   ·exact q
  obtain⟨c,rfl⟩:=Int.eq_ofNat_of_zero_le hm0
  have hM:M=(2*c+1)*2^k:=by
   have:((M:Nat):Int)=(((2*c+1)*2^k:Nat):Int):=by rw[hm];push_cast;rfl
   exact Int.ofNat.inj this
  constructor
  ·rintro⟨_,hk⟩ hz
   obtain⟨j,rfl⟩:∃ j,s=k+(j+1):=⟨s-k-1,by omega⟩
   have hd:2^(k+(j+1)) ∣ (2*c+1)*2^k:=by rw[<- hM];exact Nat.dvd_of_mod_eq_zero hz
   rw[Nat.pow_add,Nat.mul_comm (2*c+1)] at hd
   have hd2:=Nat.dvd_of_mul_dvd_mul_left (Nat.two_pow_pos k) hd
   obtain⟨x,hx⟩:=hd2
   rw[Nat.pow_succ,Nat.mul_assoc,Nat.mul_left_comm] at hx
   omega
  ·intro hz
   refine⟨by omega,?_⟩
   rcases Int.lt_or_le (k:Int) s with q|q
   ·exact q
   ·exfalso
    apply hz
    obtain⟨j,rfl⟩:∃ j,k=s+j:=⟨k-s,by omega⟩
    rw[hM,Nat.pow_add,Nat.mul_left_comm]
    exact Nat.mul_mod_right _ _
def cE (sz lowE:Int) (M:Nat) (exp:Int):Int:=max ((aG M:Int)+exp-sz) lowE
theorem kL {M:Nat} (h0:M≠0):1<=aG M∧2^(aG M-1)<=M∧M<2^aG M:=by
 obtain⟨h1,h2⟩:=gT (V:=(M:Int)) (by omega)
 have h3:=gS (M:Int)
 refine⟨h1,?_,?_⟩
 ·have:((2^(aG M-1):Nat):Int)<=(M:Int):=by simpa using h2
  exact Int.ofNat_le.1 this
 ·have:(M:Int)<((2^aG M:Nat):Int):=by simpa using h3
  exact Int.ofNat_lt.1 this
theorem tW {sz lowE:Int} {M:Nat} {exp:Int} (hs:0<sz) (h0:M≠0):rU M (cE sz lowE M exp-exp)<2^sz.toNat∧(lowE<cE sz lowE M exp->2^(sz.toNat-1)<=rU M (cE sz lowE M exp-exp)):=by
 obtain⟨b0,b1,b2⟩:=kL h0
 obtain⟨n,hn⟩:∃ n,aG M=n:=⟨_,rfl⟩
 obtain⟨z,rfl⟩:∃ z:Nat,sz=z:=⟨sz.toNat,by omega⟩
 unfold cE rU
 rw[hn] at b0 b1 b2 ⊢
 rw[Int.toNat_natCast]
 obtain⟨e,he⟩:∃ e,max ((n:Int)+exp-(z:Int)) lowE=e:=⟨_,rfl⟩
 have he1:(n:Int)+exp-z<=e:=by omega
 have he2:lowE<e->e=n+exp-z:=by omega
 rw[he]
 by_cases hse:e-exp<=0
 ·rw[if_pos hse]
  obtain⟨k,hk⟩:∃ k,(-(e-exp)).toNat=k:=⟨_,rfl⟩
  rw[hk]
  refine⟨?_,fun hl=>?_⟩
  ·calc M*2^k<2^n*2^k:=Nat.mul_lt_mul_of_pos_right b2 (Nat.two_pow_pos k)
    _=2^(n+k):=by rw[Nat.pow_add]
    _<=2^z:=Nat.pow_le_pow_right (by decide) (by omega)
  ·have:=he2 hl
   calc 2^(z-1)<=2^(n-1+k):=Nat.pow_le_pow_right (by decide) (by omega)
    _=2^(n-1)*2^k:=by rw[Nat.pow_add]
    _<=M*2^k:=Nat.mul_le_mul_right _ b1
 ·rw[if_neg hse]
  obtain⟨k,hk⟩:∃ k,(e-exp).toNat=k:=⟨_,rfl⟩
  rw[hk]
  refine⟨?_,fun hl=>?_⟩
  ·rw[Nat.div_lt_iff_lt_mul (Nat.two_pow_pos k),<- Nat.pow_add]
   exact Nat.lt_of_lt_of_le b2 (Nat.pow_le_pow_right (by decide) (by omega))
  ·have:=he2 hl
   rw[Nat.le_div_iff_mul_le (Nat.two_pow_pos k),<- Nat.pow_add]
   exact Nat.le_trans (Nat.pow_le_pow_right (by decide) (by omega)) b1
def cU (sz lowE way:Int) (ng:Bool) (M:Nat) (exp:Int) (more:Bool):Nat :=
 rU M (cE sz lowE M exp-exp)+(if cI way ng (decide (rU M (cE sz lowE M exp-exp) % 2=1)) (rL M more (cE sz lowE M exp-exp)) then 1 else 0)
def cO (sz lowE high way:Int) (ng:Bool) (M:Nat) (exp:Int) (more:Bool):Bool :=
 decide (2^(sz.toNat-1)<=cU sz lowE way ng M exp more)&&decide (high<(aG (cU sz lowE way ng M exp more):Int)+cE sz lowE M exp)
def cS (dT:Int) (ng:Bool):Int:=if ng then dT else 0
theorem yL {way:Int} {ng:Bool} {A:Int} {M:Nat} {exp:Int} {more:Bool} (hA:ld A M exp more) (h0:M≠0) (he:-4194304<=exp) (hc:more=true->2^60<=M) :
  ∃ (r0:Nat) (left:Int),ei A r0 left∧(if cO 53 (-1074) 1024 way ng M exp more then cS (-9223372036854775808) ng+(if cI way ng true 3 then 9218868437227405312 else 9218868437227405311) else cS (-9223372036854775808) ng+jp false (cU 53 (-1074) way ng M exp more) (cE 53 (-1074) M exp))=aP ng (bT way ng r0 left) ∧
   (cO 53 (-1074) 1024 way ng M exp more||(decide (rL M more (cE 53 (-1074) M exp-exp)≠0)))=(decide (left≠0)||decide (9218868437227405312<=(r0:Int))):=by
 obtain⟨b0,b1,b2⟩:=kL h0
 have hbits:=tW (sz:=53) (lowE:=-1074) (exp:=exp) (by decide) h0
 have hE1:-1074<=cE 53 (-1074) M exp:=by unfold cE;omega
 have hcs:more=true->0<cE 53 (-1074) M exp-exp:=fun h=>by
  have h1:=hc h
  have h2:60<aG M:=by
   have:=(Nat.pow_lt_pow_iff_right (by decide:1<2)).1 (Nat.lt_of_le_of_lt h1 b2)
   exact this
  unfold cE
  omega
 have hL:=tl hA hcs (by omega) he
 unfold cO cU
 obtain⟨E,hE⟩:∃ E,cE 53 (-1074) M exp=E:=⟨_,rfl⟩
 rw[hE] at hbits hE1 hL ⊢
 obtain⟨u,hu⟩:∃ u,rU M (E-exp)=u:=⟨_,rfl⟩
 obtain⟨left,hl⟩:∃ l,rL M more (E-exp)=l:=⟨_,rfl⟩
 rw[hu] at hbits hL ⊢
 rw[hl] at hL ⊢
 obtain⟨a,ha⟩:∃ a,(E - -1074).toNat=a:=⟨_,rfl⟩
 have e53:(2:Nat)^(53:Int).toNat=9007199254740992:=by decide
 have e52:(2:Nat)^((53:Int).toNat-1)=4503599627370496:=by decide
 rw[e53,e52] at hbits
 rw[e52]
 have eB:Ieee.double.binade=4503599627370496:=by decide
 have hV:=lh Ieee.double a u (by rw[eB];omega) (fun h=>by rw[eB];exact hbits.2 (by omega))
 rw[eB] at hV
 have hpw:pw E=2^a*pw (-1074):=by rw[iZ (e:=E) (low:=-1074) (by decide) hE1,ha]
 rw[hpw] at hL
 refine⟨a*4503599627370496+u,left,lr hL hV.1 hV.2,?_⟩
 have hodd:decide ((a*4503599627370496+u) % 2=1)=decide (u % 2=1):=by congr 1;apply propext;omega
 unfold bT
 rw[hodd]
 obtain⟨R,hR⟩:∃ R,cI way ng (decide (u % 2=1)) left=R:=⟨_,rfl⟩
 rw[hR]
 obtain⟨U,hU⟩:∃ U,u+(if R=true then 1 else 0)=U:=⟨_,rfl⟩
 rw[hU]
 have hR1:R=true->left≠0:=fun h hz=>by rw[hz,h] at hR;exact gY hR
 have hR2:R=true->cI way ng true 3=true:=fun h=>mG (hR.trans h)
 have hUle:U<=9007199254740992:=by rw[<- hU];split<;>omega
 have hcast:((a*4503599627370496+u:Nat):Int)+(if R=true then 1 else 0)=((a*4503599627370496+U:Nat):Int):=by
  rw[<- hU]
  cases R<;>simp only[if_true,if_false,Bool.false_eq_true]<;>omega
 rw[hcast]
 have huU:u<=U:=by rw[<- hU];omega
 have hO:(decide (4503599627370496<=U)&&decide (1024<(aG (U:Int):Int)+E))=decide (9218868437227405312<=((a*4503599627370496+U:Nat):Int)):=by
  have hsub:U<4503599627370496->a=0:=fun h=>by
   rcases Nat.eq_zero_or_pos a with q|q
   ·exact q
   ·have:=hbits.2 (by omega);omega
  have hEa:E=(a:Int)-1074:=by omega
  by_cases c1:4503599627370496<=U
  ·rw[decide_eq_true c1,Bool.true_and]
   by_cases c2:U=9007199254740992
   ·have:aG (U:Int)=54:=jQ (k:=53) (by rw[show(2:Int)^53=9007199254740992 from rfl];omega) (by rw[show(2:Int)^(53+1)=18014398509481984 from rfl];omega)
    rw[this]
    congr 1
    apply propext
    omega
   ·have:aG (U:Int)=53:=jQ (k:=52) (by rw[show(2:Int)^52=4503599627370496 from rfl];omega) (by rw[show(2:Int)^(52+1)=9007199254740992 from rfl];omega)
    rw[this]
    congr 1
    apply propext
    omega
  ·rw[decide_eq_false c1,Bool.false_and]
   have:=hsub (by omega)
   symm
   rw[decide_eq_false]
   omega
 rw[hO]
 by_cases hf:((a*4503599627370496+U:Nat):Int)<9218868437227405312
 ·have hf0:((a*4503599627370496+u:Nat):Int)<9218868437227405312:=by omega
  rw[decide_eq_false (show ¬ 9218868437227405312<=((a*4503599627370496+U:Nat):Int) by omega),if_neg (by decide),if_pos hf0,decide_eq_false (p:=9218868437227405312<=((a*4503599627370496+u:Nat):Int)) (by omega),Bool.or_false,Bool.false_or]
  refine⟨?_,rfl⟩
  have hjp:jp false (U:Int) E=((a*4503599627370496+U:Nat):Int):=by
   by_cases hU0:U=0
   ·have hu0:u=0:=by omega
    have ha0:a=0:=by
     rcases Nat.eq_zero_or_pos a with h|h
     ·exact h
     ·have:=hbits.2 (by omega);omega
    subst hU0 ha0
    rfl
   ·have hjr:=oI Ieee.double 52 (by decide) dB 2047 (-1074) (by decide) U E (by omega) (by rw[show(2:Nat)^(52+1)=9007199254740992 by decide];exact hUle) hE1 (fun h=>by rw[show(2:Nat)^52=4503599627370496 by decide];have:=hbits.2 h;omega)
    simp only at hjr
    rw[ha,show(2:Nat)^52=4503599627370496 by decide,show(2047:Int)*2^52=9218868437227405312 by decide] at hjr
    obtain⟨j1,j2⟩:=hjr
    rw[show jk ((52:Nat):Int) 2047 (-1074) (U:Int) E=jk 52 2047 (-1074) (U:Int) E from rfl,decide_eq_true hf] at j1
    have hjv:=j2 hf
    rw[show jv ((52:Nat):Int) 2047 (-1074) (U:Int) E=jv 52 2047 (-1074) (U:Int) E from rfl] at hjv
    unfold jp
    rw[j1,hjv]
    rfl
  rw[hjp]
  unfold cS aP
  cases ng<;>simp<;>omega
 ·rw[decide_eq_true (show 9218868437227405312<=((a*4503599627370496+U:Nat):Int) by omega),if_pos rfl,Bool.true_or]
  by_cases hf0:((a*4503599627370496+u:Nat):Int)<9218868437227405312
  ·have hRt:R=true:=by
    cases R
    ·exfalso;simp at hU;omega
    ·rfl
   have hUe:((a*4503599627370496+U:Nat):Int)=9218868437227405312:=by rw[hRt] at hU;simp at hU;omega
   rw[if_pos hf0,hUe,decide_eq_true (hR1 hRt),Bool.true_or,hR2 hRt,if_pos rfl]
   refine⟨?_,rfl⟩
   unfold cS aP
   cases ng<;>simp
  ·rw[if_neg hf0,decide_eq_true (p:=9218868437227405312<=((a*4503599627370496+u:Nat):Int)) (by omega),Bool.or_true]
   refine⟨?_,rfl⟩
   unfold cS aP fC
   cases ng<;>simp<;>split<;>omega
end Go.Proofs.YtcklaogdjpbagaaGreatDoor
namespace Go.Proofs.YtcklaogdjpbagaaGreatDoor
open Go Go.Proofs.Tryz Go.RowKit Go.Proofs.YtcklaogdjpbagaaGreatDoor.M
theorem AH {p:Prop} (h:p):Hid p:=h
theorem nY {k:IntKind} {a b:Int} (h:a=b):Value.int k a=.int k b:=by rw[h]
theorem lH (mag exp:Int) (w:World) (h0:0<mag) (h:mag<9223372036854775808) (e0:-2000<=exp) (e1:exp<=2000) :
  Calls prog 165 #[.int .i64 mag,.int .i64 exp,.int .i64 (-1074),.int .i64 53] w fun e w'=>e=.returned (.tuple #[.int .i64 (sm 52 (-1074) mag exp),.int .i64 (se 52 (-1074) mag exp),.bool (sk 52 (-1074) mag exp)])∧w'=w:=by
 have hj:=ki h0 h
 have hL:=mZ h0 h
 have hz63:jz mag<63:=by obtain⟨_,_,a,_⟩:=fQ h0 h;exact a
 have hodd:=uf h0 h
 go_enter func165,ntmps165
 go_wp2
 go_loop [0,1] (fun a b=>∃ k:Nat,k<=jz mag∧a=.int .i64 (mag/2^k)∧b=.int .i64 (exp+k)) (fun _ b=>(exp+jz mag-intOf b).toNat)
 case atStart=>exact⟨0,Nat.zero_le _,by simp,by simp⟩
 case round=>
  obtain⟨k,hk,rfl,rfl⟩:=hrel
  by_cases hlt:k<jz mag
  ·obtain⟨a1,a2,a3,a4⟩:=AV h0 h k hlt
   have b1:(mag/2^k % 2 == 0)=true:=by simp[a1]
   have A2:=AH a2
   clear a2 a1
   go_wp2
   go_round
   case rel=>exact⟨k+1,hlt,nY A2.out,nY (by omega)⟩
   case measure=>simp[intOf];omega
  ·have hke:k=jz mag:=by omega
   subst hke
   have eo:mag/2^jz mag=jo mag:=rfl
   have b1:(jo mag % 2 == 0)=false:=by simp[hodd]
   have hd0:=lP (fr:=53) h0 h (by omega) 0
   have hd1:jo mag<9007199254740992↔0<=gQ 52 mag:=by
    have e:jo mag*2^0=jo mag:=by simp
    rw[e,show(2:Int)^(53:Int).toNat=9007199254740992 by decide] at hd0
    rw[hd0];unfold gQ;omega
   clear hd0 hodd
   by_cases s1:jo mag<9007199254740992
   ·have sp:=hd1.1 s1
    clear hd1
    by_cases s2:exp+jz mag < -1074
    ·have hk:Hid (sk 52 (-1074) mag exp=false):=by unfold Hid sk;simp;omega
     go_wp2
     go_ret3
     exact⟨iO (by simp[sm,hk.out]) (by simp[se,hk.out]) (by simp[hk.out]),rfl⟩
    ·have hk:Hid (sk 52 (-1074) mag exp=true):=by unfold Hid sk;simp;omega
     obtain⟨s,hs⟩:∃ s:Nat,cZ 52 (-1074) mag exp=(s:Int):=⟨(cZ 52 (-1074) mag exp).toNat,by unfold cZ;omega⟩
     have hs':Hid (cZ 52 (-1074) mag exp=(s:Int)):=hs
     have hsd:Hid ((s:Int)=min (gQ 52 mag) (exp+jz mag+1074)):=by unfold Hid;rw[<- hs];unfold cZ;omega
     clear hs
     go_wp2
     go_loop [0,1] (fun a b=>∃ j:Nat,j<=s∧a=.int .i64 (jo mag*2^j)∧b=.int .i64 (exp+jz mag-j)) (fun _ b=>(intOf b+1074).toNat)
     case atStart=>exact⟨0,Nat.zero_le _,by simp,by simp⟩
     case round=>
      obtain⟨j,hjs,rfl,rfl⟩:=hrel
      have hd:=lP (fr:=52) h0 h (by omega) j
      rw[show(2:Int)^(52:Int).toNat=4503599627370496 by decide] at hd
      have hb:=jx (fr:=52) h0 h (by omega) j (by have:=hsd.out;omega)
      have hb1:=hb.1
      have hb2:jo mag*2^j<9007199254740992:=hb.2
      clear hb
      by_cases hlt:j<s
      ·have c1:jo mag*2^j<4503599627370496:=hd.2 (by have:=hsd.out;omega)
       have c2:-1074<exp+jz mag-j:=by have:=hsd.out;omega
       have e2:Hid (jo mag*2^j+jo mag*2^j=jo mag*2^(j+1)):=by
        unfold Hid;rw[Int.pow_succ,<- Int.mul_assoc];omega
       clear hd
       go_wp2
       go_round
       case rel=>exact⟨j+1,hlt,nY e2.out,nY (by omega)⟩
       case measure=>simp[intOf];omega
      ·have hje:j=s:=by omega
       subst hje
       have fin:¬ (-1074<exp+jz mag-j∧jo mag*2^j<4503599627370496):=by
        rw[hd];have:=hsd.out;omega
       clear hd
       by_cases c2:-1074<exp+jz mag-j
       all_goals
        go_wp2
        go_ret3
        exact⟨iO (by simp[sm,hk.out,hs'.out]) (by simp[se,hk.out,hs'.out]) (by simp[hk.out]),rfl⟩
   ·have hk:Hid (sk 52 (-1074) mag exp=false):=by unfold Hid sk;simp;omega
    clear hd1
    go_wp2
    go_ret3
    exact⟨iO (by simp[sm,hk.out]) (by simp[se,hk.out]) (by simp[hk.out]),rfl⟩
theorem AI (neg:Bool) (mag exp:Int) (w:World) (hm:ax mag) (he:ax exp) :
  Calls prog 159 #[.bool neg,.int .i64 mag,.int .i64 exp] w fun e w'=>e=.returned (.tuple #[.int .i64 (jp neg mag exp),.bool (jk 52 2047 (-1074) mag exp)])∧w'=w:=by
 unfold ax at hm he
 rcases Int.lt_trichotomy mag 0 with h|h|h
 ·have hk:Hid (jk 52 2047 (-1074) mag exp=false):=by unfold Hid jk;rw[if_pos h]
  have hv:Hid (jp neg mag exp=0):=by unfold Hid jp;rw[hk.out];simp[jv];omega
  cases neg
  all_goals
   go_enter func159,ntmps159
   go_wp2
   go_ret2
   exact⟨bf hv.out.symm hk.out.symm,rfl⟩
 ·subst h
  cases neg
  all_goals
   go_enter func159,ntmps159
   go_wp2
   all_goals go_ret2
   all_goals exact⟨bf (by simp[jp,jk,jv]) (by simp[jk]),rfl⟩
 ·have hn:(mag == 0)=false:=by simp;omega
  by_cases f1:2000<exp
  ·have hg:=vt h hm.2 (exp:=exp) (by omega)
   have hk:Hid (jk 52 2047 (-1074) mag exp=false):=by unfold Hid jk;rw[if_neg (by omega),if_neg (by omega),hg]
   have hv:Hid (jp neg mag exp=0):=by unfold Hid jp;rw[hk.out];simp[jv,hg]
   clear hg
   cases neg
   all_goals
    go_enter func159,ntmps159
    go_wp2
    go_ret2
    exact⟨bf hv.out.symm hk.out.symm,rfl⟩
  ·by_cases f2:exp < -2000
   ·have hg:=ug h hm.2 f2
    have hk:Hid (jk 52 2047 (-1074) mag exp=false):=by unfold Hid jk;rw[if_neg (by omega),if_neg (by omega),hg]
    have hv:Hid (jp neg mag exp=0):=by unfold Hid jp;rw[hk.out];simp[jv,hg]
    clear hg
    cases neg
    all_goals
     go_enter func159,ntmps159
     go_wp2
     go_ret2
     exact⟨bf hv.out.symm hk.out.symm,rfl⟩
   ·have hgs:=qt mag exp
    by_cases g1:sk 52 (-1074) mag exp=true
    ·by_cases g2:se 52 (-1074) mag exp<=971
     ·obtain⟨b1,b2,b3,b4⟩:=Ca h hm.2 g1 g2
      have hk:Hid (jk 52 2047 (-1074) mag exp=true):=by unfold Hid jk;rw[if_neg (by omega),if_neg (by omega),hgs,g1];simpa using g2
      have hv:Hid (jv 52 2047 (-1074) mag exp=(if sm 52 (-1074) mag exp<4503599627370496 then sm 52 (-1074) mag exp else (se 52 (-1074) mag exp+1075)*4503599627370496+sm 52 (-1074) mag exp-4503599627370496)):=b4
      clear b4 hgs
      by_cases g3:sm 52 (-1074) mag exp<4503599627370496
      all_goals
       cases neg
       all_goals
        go_enter func159,ntmps159
        go_wp2_with (go_at_call 165;refine(lH mag exp _ h hm.2 (by omega) (by omega)).mono ?_;rintro e w1 ⟨rfl,rfl⟩)
        go_ret2
        refine⟨bf ?_ hk.out.symm,rfl⟩
        unfold jp
        rw[hk.out,hv.out]
        simp
        omega
     ·have hg:dc 52 2047 (-1074) mag exp=false:=by rw[hgs,g1];simpa using g2
      have hk:Hid (jk 52 2047 (-1074) mag exp=false):=by unfold Hid jk;rw[if_neg (by omega),if_neg (by omega),hg]
      have hv:Hid (jp neg mag exp=0):=by unfold Hid jp;rw[hk.out];simp[jv,hg]
      clear hg hgs
      cases neg
      all_goals
       go_enter func159,ntmps159
       go_wp2_with (go_at_call 165;refine(lH mag exp _ h hm.2 (by omega) (by omega)).mono ?_;rintro e w1 ⟨rfl,rfl⟩)
       go_ret2
       exact⟨bf hv.out.symm hk.out.symm,rfl⟩
    ·have g1':sk 52 (-1074) mag exp=false:=by simpa using g1
     have hg:dc 52 2047 (-1074) mag exp=false:=by rw[hgs,g1'];rfl
     have hk:Hid (jk 52 2047 (-1074) mag exp=false):=by unfold Hid jk;rw[if_neg (by omega),if_neg (by omega),hg]
     have hv:Hid (jp neg mag exp=0):=by unfold Hid jp;rw[hk.out];simp[jv,hg]
     clear hg hgs g1
     cases neg
     all_goals
      go_enter func159,ntmps159
      go_wp2_with (go_at_call 165;refine(lH mag exp _ h hm.2 (by omega) (by omega)).mono ?_;rintro e w1 ⟨rfl,rfl⟩)
      go_ret2
      exact⟨bf hv.out.symm hk.out.symm,rfl⟩
theorem eL {A W:Int} {a:Nat->Int} {m:Nat} (hd:bF a (m+1)) (h:W*P (m+1)+val a (m+1)=A) (h0:0<=W) (hA:A<9223372036854775808):W*1073741824+a m<=9223372036854775807∧(W*1073741824+a m)*P m+val a m=A:=by
 have e:(W*1073741824+a m)*P m+val a m=A:=by
  rw[<- h,fZ,bc];grind
 refine⟨?_,e⟩
 have h1:=bz (hd.le (Nat.le_succ m))
 have h2:=cA m
 have h3:=(hd m (by omega)).1
 have h4:(W*1073741824+a m)*1<=(W*1073741824+a m)*P m:=Int.mul_le_mul_of_nonneg_left (by omega) (by omega)
 omega
def cl:Value:=.agg #[.int .i64 53,.int .i64 (-1074),.int .i64 1024,.int .i64 9218868437227405312,.int .i64 (-9223372036854775808)]
theorem ec (m:Int) (w:World) (h0:0<=m) (h1:m<=9223372036854775807) :
  Calls prog 150 #[.int .i64 m] w fun e w'=>e=.returned (.int .i64 (aG m))∧w'=w:=by
 have hbl:aG m<=63:=df (by show m<9223372036854775808;omega)
 go_enter func150,ntmps150
 go_wp2
 go_loop [0,3] (fun v s=>∃ (x:Int) (t:Nat),s=.int .i64 t∧v=.int .i64 x∧0<=x∧x<=9223372036854775807∧t<=63∧Hid (t+aG x=aG m)) (fun v _=>(intOf v).toNat)
 case atStart=>exact⟨m,0,by go_num,rfl,h0,h1,by omega,by show 0+_=_;omega⟩
 case round=>
  obtain⟨x,t,rfl,rfl,hx0,hx1,ht,HT⟩:=hrel
  by_cases hp:0<x
  ·have ht2:t+1<=63:=by have:=HT.out;have:=jA hp;omega
   go_wp2
   go_round
   case rel=>exact⟨x/2,t+1,by go_num,rfl,by omega,by omega,ht2,by show _=_;have:=HT.out;have:=jA hp;omega⟩
   case measure=>simp[intOf];omega
  ·obtain rfl:x=0:=by omega
   go_wp2
   go_ret
   exact⟨cz (by have:=HT.out;rw[oJ] at this;omega),rfl⟩
theorem sU (m e:Int) (w:World) (hm:ax m) (he:ax e) :
  Calls prog 151 #[cl,.int .i64 m,.int .i64 e] w fun x w'=>x=.returned (.int .i64 (jp false m e))∧Below w.heap.size w w':=by
 have hJ:=fun W=>AI false m e W hm he
 generalize jp false m e=J at hJ ⊢
 generalize jk 52 2047 (-1074) m e=K at hJ
 unfold cl
 go_enter func151,ntmps151
 go_wp2_with fail
 refine(hJ _).mono ?_
 rintro r w1 ⟨rfl,rfl⟩
 go_wp2
 go_ret
 exact⟨rfl,ah _ _⟩
theorem yM (ao:Option Addr) (n cap:Nat) (i:Int) (w:World) (hi:i<0) (hi2:-9223372036854775808<=i) :
  Calls prog 149 #[.slice ao n cap,.int .i64 i] w fun e w'=>e=.returned (.bool false)∧w'=w:=by
 go_enter func149,ntmps149
 go_wp2
 go_ret
 exact⟨rfl,rfl⟩
theorem tX (b:Int) (w:World) (hb:ax b) (hp:aF b=true) :
  Calls prog 108 #[.int .i64 b] w fun r w'=>∃ v,r=.returned v∧aW w w' (sg (dV b) (bL b)*pw (bM b)) v:=by
 obtain⟨i0,i1,i2,i3⟩:=gm hp
 have hF:=fun W=>vP (bL b) W i0 (by omega)
 have hN:=fun W ao n cap d (h:aS W ao n cap d) (hd:bF d n) (hn:n<=40000)=>lq (dV b) ao n cap d (bM b) W h hd hn (by omega) (by omega)
 have hP:=fun W=>xP b W hb
 generalize dV b=ng at *
 generalize bM b=ex at *
 generalize bL b=mg at *
 rw[hp] at hP
 go_enter func108,ntmps108
 go_wp2_with fail
 refine(hP _).mono ?_
 rintro r w1 ⟨rfl,rfl⟩
 go_wp2_with fail
 refine(hF _).mono ?_
 rintro r w2 ⟨v,rfl,hA⟩
 obtain⟨so,sn,sc,d,rfl,hR,hNr,hv⟩:=hA.num
 have hsn:sn<=100:=hA.num.len (k:=100) (by have:=iz (show 3<=100 by omega);have:P 3=1237940039285380274899124224:=rfl;omega)
 have hbw:=ac (ah w _) hA.below
 go_wp2_with fail
 refine(hN _ _ _ _ _ hR hNr.1 (by omega)).mono ?_
 rw[hv]
 rintro r w3 ⟨v,rfl,hD⟩
 obtain⟨ng',s',m',e',rfl,hyy,hA2⟩:=id hD
 obtain⟨so',sn',sc',rfl⟩:=hA2.num.shape
 have q0:=((ac hA.below hD.below).block w.heap.size (by rw[eF];omega)).trans (aA _ _)
 have x0:=af q0 0 rfl
 have x1:=af q0 1 rfl
 have x2:=af q0 2 rfl
 have z0:=ar q0 0
 have z1:=ar q0 1
 have z2:=ar q0 2
 go_wp2
 refine bodyPost_ret (v:=.agg #[.bool ng',.slice so' sn' sc',.int .i64 e']) (by simp[results,results108,go_sem,x0,x1,x2]) rfl ⟨_,rfl,?_⟩
 exact bG (g:=w.heap.size) hD hbw (Nat.le_refl _) (Nat.lt_of_lt_of_le (by rw[eF];omega) hA.below.size) _ _ _
def Pt (w:World) (ng na ni:Bool) (V:Int) (v:Value):Prop:=∃ xg xo xn xc xe,v=.agg #[.bool ng,.bool na,.bool ni,.bool xg,.slice xo xn xc,.int .i64 xe]∧aM w (.agg #[.bool xg,.slice xo xn xc,.int .i64 xe]) V
theorem rZ (w:World):Calls prog 129 #[cl] w fun e w'=>e=.returned (.int .i64 9221120237041090561)∧Below w.heap.size w w':=by
 unfold cl
 go_enter func129,ntmps129
 go_wp2
 go_ret
 exact⟨rfl,ah _ _⟩
theorem gc (ng:Bool) (b:Int) (hb:0<=b∧b<=9218868437227405312) (w:World):Calls prog 130 #[cl,.bool ng,.int .i64 b] w fun e w'=>e=.returned (.int .i64 (aP ng b))∧Below w.heap.size w w':=by
 unfold cl aP
 cases ng
 all_goals
  go_enter func130,ntmps130
  go_wp2
  go_ret
  exact⟨cz (by first|rfl|omega|(simp;done)|(simp;omega)),ah _ _⟩
theorem iy (ng na ni xg:Bool) (xo:Option Addr) (xn xc:Nat) (xe:Int) (hx:xn<=9223372036854775807) (w:World):Calls prog 131 #[.agg #[.bool ng,.bool na,.bool ni,.bool xg,.slice xo xn xc,.int .i64 xe]] w fun e w'=>e=.returned (.bool (!na&&!ni&&decide (xn=0)))∧Below w.heap.size w w':=by
 by_cases h0:xn=0
 ·subst h0
  cases na<;>cases ni
  all_goals
   go_enter func131,ntmps131
   go_wp2
   go_ret
   exact⟨rfl,ah _ _⟩
 ·have h1:((xn:Int) == 0)=false:=by simp;omega
  rw[decide_eq_false h0]
  cases na<;>cases ni
  all_goals
   go_enter func131,ntmps131
   go_wp2
   go_ret
   exact⟨rfl,ah _ _⟩
theorem bJ.set {B:Nat} {w:World} {V:Int} {v:Value} (h:bJ B w V v) {a:Addr} (ha:a.block<B) (u:Value):bJ B (w.setCell a u) V v:=by
 obtain⟨ng,s,m,e,h1,h2,t,d,h3,h4,h5⟩:=h
 exact⟨ng,s,m,e,h1,h2,t,d,h3.set_below ha u,h4,h5⟩
theorem tY {b:Int} (hp:aF b=true):aR b<3:=by
 unfold aF at hp
 unfold aR
 simp at hp
 rw[if_neg hp]
 split
 ·split<;>omega
 ·omega
theorem iS {b:Int} (hp:aF b≠true):(aR b=3∨aR b=4)∧am b=0:=by
 unfold aF at hp
 simp at hp
 refine⟨?_,?_⟩
 ·unfold aR
  rw[if_pos hp]
  split<;>simp
 ·unfold am bL
  rw[if_pos hp]
  have:sg (dV b) 0=0:=by unfold sg;split<;>rfl
  rw[this,Int.zero_mul]
theorem gD (b:Int) (w:World) (hb:ax b):Calls prog 110 #[cl,.int .i64 b] w fun e w'=>∃ v,e=.returned v∧Below w.heap.size w w'∧Pt w' (decide (b<0)) (decide (aR b=4)) (decide (aR b=3)) (am b) v:=by
 unfold cl
 have hC:=fun W=>je b W hb
 by_cases hp:aF b=true
 ·have hO:=fun W=>tX b W hb hp
  have hc3:=tY hp
  have hV:sg (dV b) (bL b)*pw (bM b)=am b:=rfl
  rw[hV] at hO
  clear hV
  generalize am b=V at *
  obtain⟨c,hc⟩:∃ c,aR b=c:=⟨_,rfl⟩
  rw[hc] at hC hc3 ⊢
  have e4:decide (c=4)=(c == 4):=rfl
  have e3:decide (c=3)=(c == 3):=rfl
  have n4:(c == 4)=false:=by simp;omega
  have n3:(c == 3)=false:=by simp;omega
  have dd:decide (c<3)=true:=decide_eq_true hc3
  rw[e4,e3]
  clear hc hb hp e4 e3
  go_enter func110,ntmps110
  go_wp2_with fail
  refine(hC _).mono ?_
  rintro _ _ ⟨rfl,rfl⟩
  go_wp2_with fail
  refine(hO _).mono ?_
  rintro _ w3 ⟨v,rfl,hD⟩
  obtain⟨ng',s',m',e',rfl,hyy,hA2⟩:=id hD
  obtain⟨so',sn',sc',rfl⟩:=hA2.num.shape
  have q0:=(hD.below.block w.heap.size (by rw[iH];omega)).trans (lj _ _ _ _)
  have q1:=(hD.below.block (w.heap.size+1) (by rw[iH];omega)).trans (lk _ _ _ _)
  have q2:=(hD.below.block (w.heap.size+2) (by rw[iH];omega)).trans (jc _ _ _ _)
  have k0:=af q0 0 rfl
  have x0:=af q1 0 rfl
  have x1:=af q1 1 rfl
  have x2:=af q1 2 rfl
  have x3:=af q1 3 rfl
  have x4:=af q1 4 rfl
  have x5:=af q1 5 rfl
  have f0:=ar q1 0
  have f1:=ar q1 1
  have f2:=ar q1 2
  have f3:=ar q1 3
  have f4:=ar q1 4
  have f5:=ar q1 5
  have y0:=af q2 0 rfl
  have y1:=af q2 1 rfl
  have y2:=af q2 2 rfl
  have y3:=af q2 3 rfl
  have y4:=af q2 4 rfl
  have y5:=af q2 5 rfl
  have g3:=ar q2 3
  have g4:=ar q2 4
  have g5:=ar q2 5
  have hbw:=ac (dn w _ _ _) hD.below
  have hDa:=hD.dan
  rw[iH] at hDa
  clear hD hA2 hyy hO hC q0 q1 q2
  go_wp2
  refine bodyPost_ret (v:=.agg #[.bool (decide (b<0)),.bool false,.bool false,.bool ng',.slice so' sn' sc',.int .i64 e']) (by simp[results,results110,go_sem,x0,x1,x2,x3,x4,x5]) rfl ⟨_,rfl,?_,?_⟩
  ·iterate 9 (refine Below.setCell ?_ (by dsimp only;omega) _)
   exact hbw
  ·rw[n4,n3]
   refine⟨_,_,_,_,_,rfl,bJ.num (B:=w.heap.size+3) ?_⟩
   iterate 9 (refine bJ.set ?_ (by dsimp only;omega) _)
   exact hDa
 ·obtain⟨hc34,hV⟩:=iS hp
  rw[hV]
  obtain⟨c,hc⟩:∃ c,aR b=c:=⟨_,rfl⟩
  rw[hc] at hC hc34 ⊢
  clear hc hb hp hV
  rcases hc34 with rfl|rfl
  all_goals
   go_enter func110,ntmps110
   go_wp2_with fail
   refine(hC _).mono ?_
   rintro _ _ ⟨rfl,rfl⟩
   go_wp2
  ·refine bodyPost_ret (v:=.agg #[.bool (decide (b<0)),.bool false,.bool true,.bool false,.slice none 0 0,.int .i64 0]) (by simp[results,results110,go_sem]) rfl ⟨_,rfl,?_,?_⟩
   ·exact dn _ _ _ _
   ·exact⟨_,_,_,_,_,rfl,aM.zero _⟩
  ·refine bodyPost_ret (v:=.agg #[.bool (decide (b<0)),.bool true,.bool false,.bool false,.slice none 0 0,.int .i64 0]) (by simp[results,results110,go_sem]) rfl ⟨_,rfl,?_,?_⟩
   ·exact dn _ _ _ _
   ·exact⟨_,_,_,_,_,rfl,aM.zero _⟩
def bm (way:Int) (ng hf rs:Bool) (K:Nat):Bool:=if way=0 then hf&&(rs||decide (K % 2=1)) else if way=1 then ng&&(hf||rs) else if way=2 then !ng&&(hf||rs) else false
def bh (way:Int) (ng hf rs:Bool) (K:Nat) (E:Int):Int × Bool :=
 let U:Nat:=K+(if bm way ng hf rs K then 1 else 0)
 if 4503599627370496<=U∧1024<(aG (U:Int):Int)+E then ((if ng then -9223372036854775808 else 0)+(if way=0∨(way=2∧ng=false)∨(way=1∧ng=true) then 9218868437227405312 else 9218868437227405311),true) else ((if ng then -9223372036854775808 else 0)+jp false U E,hf||rs)
theorem AJ {way:Int} {ng hf rs:Bool} {K:Nat} {E:Int} (U:Nat) (hU:K+(if bm way ng hf rs K then 1 else 0)=U) (h:¬ (4503599627370496<=U∧1024<(aG (U:Int):Int)+E)):bh way ng hf rs K E=((if ng then -9223372036854775808 else 0)+jp false U E,hf||rs):=by
 unfold bh
 simp only
 rw[hU,if_neg h]
theorem AK {way:Int} {ng hf rs:Bool} {K:Nat} {E:Int} (U:Nat) (hU:K+(if bm way ng hf rs K then 1 else 0)=U) (h:4503599627370496<=U∧1024<(aG (U:Int):Int)+E):bh way ng hf rs K E=((if ng then -9223372036854775808 else 0)+(if way=0∨(way=2∧ng=false)∨(way=1∧ng=true) then 9218868437227405312 else 9218868437227405311),true):=by
 unfold bh
 simp only
 rw[hU,if_pos h]
theorem bU {way:Int} {ng hf rs:Bool} {K:Nat} {E:Int} (U:Nat) (Ui:Int) (hi:((U:Nat):Int)=Ui) (hU:K+(if bm way ng hf rs K then 1 else 0)=U) (h:¬ (4503599627370496<=Ui∧1024<(aG Ui:Int)+E)):bh way ng hf rs K E=((if ng then -9223372036854775808 else 0)+jp false Ui E,hf||rs):=by
 subst hi
 exact AJ U hU (fun q=>h ⟨by omega,q.2⟩)
theorem fM {way:Int} {ng hf rs:Bool} {K:Nat} {E:Int} (U:Nat) (Ui:Int) (hi:((U:Nat):Int)=Ui) (hU:K+(if bm way ng hf rs K then 1 else 0)=U) (h:4503599627370496<=Ui∧1024<(aG Ui:Int)+E):bh way ng hf rs K E=((if ng then -9223372036854775808 else 0)+(if way=0∨(way=2∧ng=false)∨(way=1∧ng=true) then 9218868437227405312 else 9218868437227405311),true):=by
 subst hi
 exact AK U hU ⟨by omega,h.2⟩
structure jN (ao:Option Addr) (n cap:Nat) (d:Nat->Int) (exp:Int) (more:Bool) (nb:Nat) (E lw:Int) (K:Nat) (hf rs:Bool) (l:Int):Prop where
 hnb:1<=nb∧nb<=300000
 he:-1300000<=exp∧exp<=1300000
 hlw:-100<=lw∧lw<=1700000
 hE:-1074<=E∧E<=1700000
 hEl:E-exp=lw
 hK:K<9007199254740992
 hl:0<=l∧l<=400000
 hr1:more=true->rs=true∧0<lw
 hr2:more=false->lw<=1->rs=false
 hr3:more=false->1<lw->rs=decide (l<lw-1)
 hm1:∀ (ts:Array TypeId) (t:TypeId) (w:World),(Builtin.max_ ts t #[.int .i64 ((nb:Int)+exp-53),.int .i64 (-1074)]).run prog w=.ok (.int .i64 E) w
 hm2:∀ (ts:Array TypeId) (t:TypeId) (w:World),(Builtin.max_ ts t #[.int .i64 lw,.int .i64 0]).run prog w=.ok (.int .i64 (max lw 0)) w
 CB:∀ W,aS W ao n cap d->Calls prog 148 #[.slice ao n cap] W fun e w'=>e=.returned (.int .i64 nb)∧w'=W
 CS:∀ W,aS W ao n cap d->Calls prog 116 #[.slice ao n cap,.int .i64 (max lw 0)] W fun e w'=>∃ so sn sc,e=.returned (.slice so sn sc)∧Below W.heap.size W w'∧(0<=lw->cr w' (.slice so sn sc) K)
 CL:lw<0->∀ W,aS W ao n cap d->Calls prog 94 #[.slice ao n cap,.int .i64 (-lw)] W fun e w'=>∃ so sn sc,e=.returned (.slice so sn sc)∧Below W.heap.size W w'∧cr w' (.slice so sn sc) K
 CI:∀ W,aS W ao n cap d->Calls prog 149 #[.slice ao n cap,.int .i64 (lw-1)] W fun e w'=>e=.returned (.bool hf)∧w'=W
 CW:∀ W,aS W ao n cap d->Calls prog 115 #[.slice ao n cap] W fun e w'=>e=.returned (.int .i64 l)∧w'=W
 CJ:∀ U:Int,0<=U->U<=9007199254740992->∃ J:Int,J=jp false U E∧(0<=J∧J<9218868437227405312)∧∀ W,Calls prog 151 #[cl,.int .i64 U,.int .i64 E] W fun x w'=>x=.returned (.int .i64 J)∧Below W.heap.size W w'
end Go.Proofs.YtcklaogdjpbagaaGreatDoor
