/- Parts of the proof. -/
import Derived.Test.YtkkpppgfoilgmaaGreatDoorPart1
import Derived.Test.YtkkpppgfoilgmaaGreatDoorProg
import Derived.WalkKit
import Derived.OwnWalk
import Derived.Below
import Derived.Laws.OwnMore
import Derived.Laws.AppendOwnNone
import Derived.Deep.QuietTactic
import Derived.BigQuiet
import Derived.Tactics
import Derived.Tactics2
import Derived.Defers
import Derived.Recover
import Derived.Laws.Pointers
import Derived.WalkLawsBesides
import Derived.WideLaws
import Derived.Deep.RegionHeld3
import Derived.WalkSmall
set_option maxRecDepth 100000
set_option maxHeartbeats 8000000
set_option linter.unusedVariables false
set_option linter.unusedSimpArgs false
namespace Go.Proofs.YtkkpppgfoilgmaaGreatDoor.M
open Go Go.Proofs.Tryz Ieee
def rU (mag:Nat) (sh:Int):Nat:=if sh<=0 then mag*2^(-sh).toNat else mag/2^sh.toNat
def rL (mag:Nat) (cut:Bool) (sh:Int):Int :=
 if sh<=0 then 0 else if mag % 2^sh.toNat=0∧cut=false then 0 else if 2*(mag % 2^sh.toNat)<2^sh.toNat then 1 else if 2*(mag % 2^sh.toNat)=2^sh.toNat∧cut=false then 2 else 3
def rE (size low:Int) (mag:Nat) (exp:Int):Int:=max (exp+(Lib.bitLen mag:Int)-size) low
def aW (way:Int) (neg odd:Bool) (left:Int):Bool :=
 if way=0 then decide (left=3)||(decide (left=2)&&odd) else if way=1 then decide (left≠0)&&neg else if way=2 then decide (left≠0)&&!neg else false
def kO (A:Int) (mag:Nat) (exp:Int) (cut:Bool):Prop:=(mag:Int)*pw exp<=A∧A<((mag:Int)+1)*pw exp∧(cut=false↔A=(mag:Int)*pw exp)
structure gd (A:Int) (u:Nat) (q:Int) (left:Int):Prop where
 lo:(u:Int)*q<=A
 hi:A<(u:Int)*q+q
 l0:left=0↔A=(u:Int)*q
 l1:left=1↔(u:Int)*q<A∧2*A<2*((u:Int)*q)+q
 l2:left=2↔2*A=2*((u:Int)*q)+q
 l3:left=3↔2*((u:Int)*q)+q<2*A
theorem gd.mk' {A U q left:Int} {u:Nat} (hU:(u:Int)*q=U) (lo:U<=A) (hi:A<U+q) (l0:left=0↔A=U) (l1:left=1↔U<A∧2*A<2*U+q) (l2:left=2↔2*A=2*U+q) (l3:left=3↔2*U+q<2*A):gd A u q left:=by
 subst hU
 exact⟨lo,hi,l0,l1,l2,l3⟩
theorem pz (n:Nat) (h:0<n):∃ k,2^n=2*k∧0<k:=⟨2^(n-1),by rw[<- Nat.pow_succ',Nat.succ_eq_add_one,Nat.sub_add_cancel h],Nat.two_pow_pos _⟩
theorem rz {A:Int} {mag:Nat} {exp e:Int} {cut:Bool} (h:kO A mag exp cut) (hc:cut=true->0<e-exp) (h0:-4194304<=e) (h1:-4194304<=exp):gd A (rU mag (e-exp)) (pw e) (rL mag cut (e-exp)):=by
 obtain⟨a1,a2,a3⟩:=h
 have hq:=bD exp
 have hqe:=bD e
 by_cases hs:e-exp<=0
 ·have hcf:cut=false:=by cases cut;rfl;have:=hc rfl;omega
  have hA:=a3.1 hcf
  unfold rU rL
  rw[if_pos hs,if_pos hs]
  have e1:((mag*2^(-(e-exp)).toNat:Nat):Int)*pw e=A:=by
   rw[hA,iN (e:=exp) (low:=e) h0 (by omega),show(exp-e).toNat=(-(e-exp)).toNat by omega]
   push_cast
   rw[Int.mul_assoc]
  exact⟨by rw[e1];omega,by rw[e1];omega,by rw[e1];simp,by rw[e1];constructor<;>intro h<;>omega,by rw[e1];constructor<;>intro h<;>omega,by rw[e1];constructor<;>intro h<;>omega⟩
 ·have hp:pw e=2^(e-exp).toNat*pw exp:=iN h1 (by omega)
  obtain⟨s,hsn⟩:∃ s,(e-exp).toNat=s:=⟨_,rfl⟩
  have hs0:0<s:=by omega
  unfold rU rL
  rw[if_neg hs,if_neg hs,hsn]
  rw[hsn] at hp
  obtain⟨k,hk,hk0⟩:=pz s hs0
  have hpn:(2:Int)^s=((2^s:Nat):Int):=by simp
  rw[hpn,hk] at hp
  rw[hk]
  have hdm:=Nat.div_add_mod mag (2*k)
  have hml:=Nat.mod_lt mag (show 0<2*k by omega)
  generalize mag/(2*k)=u at *
  generalize mag % (2*k)=t at *
  generalize hQ:pw exp=q at *
  have e1:(mag:Int)*q=(u:Int)*(((2*k:Nat):Int)*q)+(t:Int)*q:=by
   rw[<- hdm];push_cast;rw[Int.add_mul];congr 1;rw[Int.mul_comm (2*(k:Int)) u,Int.mul_assoc]
  have e2:((mag:Int)+1)*q=(mag:Int)*q+q:=by rw[Int.add_mul,Int.one_mul]
  rw[e2,e1] at a2
  rw[e1] at a1 a3
  rw[hp]
  have e3:((2*k:Nat):Int)*q=2*((k:Int)*q):=by push_cast;rw[Int.mul_assoc]
  have t1:∀ x y:Nat,x<=y->(x:Int)*q<=(y:Int)*q:=fun x y h=>Int.mul_le_mul_of_nonneg_right (by omega) (by omega)
  have t2:∀ x y:Nat,x<y->(x:Int)*q+q<=(y:Int)*q:=fun x y h=>by
   have:=t1 (x+1) y h
   push_cast at this
   rwa [Int.add_mul,Int.one_mul] at this
  have t0:0<=(t:Int)*q:=Int.mul_nonneg (by omega) (by omega)
  have b1:(t:Int)*q+q<=2*((k:Int)*q):=by rw[<- e3];exact t2 t (2*k) hml
  rw[e3] at a1 a2 a3 ⊢
  have c1:t<k->(t:Int)*q+q<=(k:Int)*q:=t2 t k
  have c2:t=k->(t:Int)*q=(k:Int)*q:=fun h=>by rw[h]
  have c3:k<t->(k:Int)*q+q<=(t:Int)*q:=t2 k t
  have c4:t=0->(t:Int)*q=0:=fun h=>by rw[h];simp
  have c5:0<t->q<=(t:Int)*q:=fun h=>by have:=t1 1 t h;rwa [Int.natCast_one,Int.one_mul] at this
  clear e1 e2 e3 t1 t2 hp
  obtain⟨T,hT⟩:∃ T,(t:Int)*q=T:=⟨_,rfl⟩
  obtain⟨K,hK⟩:∃ K,(k:Int)*q=K:=⟨_,rfl⟩
  obtain⟨U,hU⟩:∃ U,(u:Int)*(2*K)=U:=⟨_,rfl⟩
  rw[hT] at c1 c2 c3 c4 c5 t0 b1 a1 a2 a3
  rw[hK] at c1 c2 c3 b1 a1 a2 a3 ⊢
  rw[hU] at a1 a2 a3
  have a3':cut=true->A≠U+T:=fun h h2=>by rw[a3.2 h2] at h;cases h
  cases cut
  ·have hA:=a3.1 rfl
   subst hA
   by_cases z0:t=0
   ·have:=c4 z0
    rw[if_pos ⟨z0,rfl⟩]
    exact gd.mk' hU (by omega) (by omega) (by constructor<;>intro h<;>omega) (by constructor<;>intro h<;>omega) (by constructor<;>intro h<;>omega) (by constructor<;>intro h<;>omega)
   ·have:=c5 (by omega)
    rw[if_neg (fun h=>z0 h.1)]
    by_cases z1:t<k
    ·have:=c1 z1
     rw[if_pos (by omega)]
     exact gd.mk' hU (by omega) (by omega) (by constructor<;>intro h<;>omega) (by constructor<;>intro h<;>omega) (by constructor<;>intro h<;>omega) (by constructor<;>intro h<;>omega)
    ·rw[if_neg (by omega)]
     by_cases z2:t=k
     ·have:=c2 z2
      rw[if_pos ⟨by omega,rfl⟩]
      exact gd.mk' hU (by omega) (by omega) (by constructor<;>intro h<;>omega) (by constructor<;>intro h<;>omega) (by constructor<;>intro h<;>omega) (by constructor<;>intro h<;>omega)
     ·have:=c3 (by omega)
      rw[if_neg (fun h=>z2 (by omega))]
      exact gd.mk' hU (by omega) (by omega) (by constructor<;>intro h<;>omega) (by constructor<;>intro h<;>omega) (by constructor<;>intro h<;>omega) (by constructor<;>intro h<;>omega)
  ·have hA:=a3' rfl
   rw[if_neg (fun h=>by cases h.2)]
   by_cases z1:t<k
   ·have:=c1 z1
    rw[if_pos (by omega)]
    exact gd.mk' hU (by omega) (by omega) (by constructor<;>intro h<;>omega) (by constructor<;>intro h<;>omega) (by constructor<;>intro h<;>omega) (by constructor<;>intro h<;>omega)
   ·rw[if_neg (by omega),if_neg (fun h=>by cases h.2)]
    have hkt:K<=T:=by
     by_cases z2:t=k
     ·have:=c2 z2;omega
     ·have:=c3 (by omega);omega
    exact gd.mk' hU (by omega) (by omega) (by constructor<;>intro h<;>omega) (by constructor<;>intro h<;>omega) (by constructor<;>intro h<;>omega) (by constructor<;>intro h<;>omega)
theorem rA {size low:Int} {mag:Nat} {exp:Int} (hs:0<size) (h:mag<2^64) (h0:mag≠0):rU mag (rE size low mag exp-exp)<2^size.toNat∧(low<rE size low mag exp->2^(size.toNat-1)<=rU mag (rE size low mag exp-exp)):=by
 obtain⟨b1,b2,b3,b4⟩:=dE mag h h0
 obtain⟨n,hn⟩:∃ n,Lib.bitLen mag=n:=⟨_,rfl⟩
 obtain⟨z,rfl⟩:∃ z:Nat,size=z:=⟨size.toNat,by omega⟩
 unfold rE rU
 rw[hn] at b1 b2 b3 b4 ⊢
 rw[Int.toNat_natCast]
 obtain⟨e,he⟩:∃ e,max (exp+(n:Int)-(z:Int)) low=e:=⟨_,rfl⟩
 have he1:exp+n-z<=e:=by omega
 have he2:low<e->e=exp+n-z:=by omega
 rw[he]
 by_cases hse:e-exp<=0
 ·rw[if_pos hse]
  obtain⟨k,hk⟩:∃ k,(-(e-exp)).toNat=k:=⟨_,rfl⟩
  rw[hk]
  refine⟨?_,fun hl=>?_⟩
  ·calc mag*2^k<2^n*2^k:=Nat.mul_lt_mul_of_pos_right b2 (Nat.two_pow_pos k)
    _=2^(n+k):=by rw[Nat.pow_add]
    _<=2^z:=Nat.pow_le_pow_right (by decide) (by omega)
  ·have:=he2 hl
   calc 2^(z-1)<=2^(n-1+k):=Nat.pow_le_pow_right (by decide) (by omega)
    _=2^(n-1)*2^k:=by rw[Nat.pow_add]
    _<=mag*2^k:=Nat.mul_le_mul_right _ b1
 ·rw[if_neg hse]
  obtain⟨k,hk⟩:∃ k,(e-exp).toNat=k:=⟨_,rfl⟩
  rw[hk]
  refine⟨?_,fun hl=>?_⟩
  ·rw[Nat.div_lt_iff_lt_mul (Nat.two_pow_pos k),<- Nat.pow_add]
   exact Nat.lt_of_lt_of_le b2 (Nat.pow_le_pow_right (by decide) (by omega))
  ·have:=he2 hl
   rw[Nat.le_div_iff_mul_le (Nat.two_pow_pos k),<- Nat.pow_add]
   exact Nat.le_trans (Nat.pow_le_pow_right (by decide) (by omega)) b1
theorem jw (f:Format) (a u:Nat) (h:u<2*f.binade) (h2:0<a->f.binade<=u):V f (a*f.binade+u)=u*2^a∧V f (a*f.binade+u+1)=(u+1)*2^a:=by
 have hB:=fi f
 refine⟨fR f a u (by by_cases ha:a=0<;>omega),?_⟩
 by_cases hu:u+1<2*f.binade
 ·rw[Nat.add_assoc]
  exact fR f a (u+1) (by by_cases ha:a=0<;>omega)
 ·have e:a*f.binade+u+1=(a+1)*f.binade+f.binade:=by rw[Nat.add_mul];omega
  rw[e,fR f (a+1) f.binade (by omega),Nat.pow_succ,show u+1=f.binade*2 by omega,Nat.mul_assoc,Nat.mul_comm (2^a) 2]
theorem tZ {mag:Int} (h0:0<mag) (h:mag<9223372036854775808) (k:Nat) (hk:2^k<=mag):(k:Int)+1<=(jz mag:Int)+jl mag:=by
 obtain⟨m,ez,z63,eo⟩:=eG h0 h
 have hj:=i6 h0 h
 have sp:=dE (jo mag).toNat (by omega) (by omega)
 have h1:(jo mag).toNat*2^jz mag<2^Lib.bitLen (jo mag).toNat*2^jz mag:=Nat.mul_lt_mul_of_pos_right sp.2.1 (Nat.two_pow_pos _)
 rw[<- Nat.pow_add] at h1
 have h2:(((jo mag).toNat*2^jz mag:Nat):Int)=mag:=by
  rw[Int.natCast_mul,Int.toNat_of_nonneg (by omega),eo,Int.mul_comm]
  simp only[Int.natCast_pow]
  exact ez.symm
 have h3:2^k<=(jo mag).toNat*2^jz mag:=by
  have:((2^k:Nat):Int)=2^k:=by simp
  omega
 have h4:2^k<2^(Lib.bitLen (jo mag).toNat+jz mag):=by omega
 have:=(Nat.pow_lt_pow_iff_right (by decide:1<2)).1 h4
 unfold jl
 omega
theorem rB (n:Nat):(0:Int)<=2^n:=Int.le_of_lt (aF n)
theorem nV (f:Format) (fr:Nat) (hfr:fr<=60) (hB:f.binade=2^fr) (top least:Int) (ht:2<=top) (u:Nat) (e:Int) (h0:0<u) (hu:u<=2^(fr+1)) (he:least<=e) (hn:least<e->2^fr<=u) :
  let rung:=(e-least).toNat*2^fr+u
  jk fr top least (u:Int) e=decide ((rung:Int)<top*2^fr)∧((rung:Int)<top*2^fr->jv fr top least (u:Int) e=rung):=by
 intro rung
 have hp60:2^(fr+1)<=2^61:=Nat.pow_le_pow_right (by decide) (by omega)
 have hu63:(u:Int)<9223372036854775808:=by
  have:(2:Nat)^61=2305843009213693952:=by decide
  omega
 have hu0:(0:Int)<(u:Int):=by omega
 have hP:0<2^fr:=Nat.two_pow_pos fr
 have hPi:((2^fr:Nat):Int)=2^fr:=by simp
 have hlo:=lz hu0 hu63
 have hJ:bI fr top least (u:Int) e=decide ((rung:Int)<top*2^fr):=by
  obtain⟨a,ha⟩:∃ a,(e-least).toNat=a:=⟨_,rfl⟩
  have hr:(rung:Int)=(a:Int)*2^fr+u:=by simp only[rung,ha];push_cast;rfl
  rw[hr]
  by_cases hlt:u<2^(fr+1)
  ·by_cases hea:(a:Int)<=top-2
   ·have g:=qM (fr:=(fr:Int)) (top:=top) (least:=least) (exp:=e) hu0 hu63 (by omega) (by rw[Int.toNat_natCast];exact_mod_cast hlt) he (by omega)
    rw[g]
    have:(a:Int)*2^fr<=(top-2)*2^fr:=Int.mul_le_mul_of_nonneg_right hea (by omega)
    have e2:(top-2)*2^fr=top*2^fr-2*2^fr:=by rw[Int.sub_mul]
    have hu2:(u:Int)<2*2^fr:=by rw[Nat.pow_succ] at hlt;omega
    exact(decide_eq_true (by omega)).symm
   ·have hge:=hn (by omega)
    have g2:=tZ hu0 hu63 fr (by rw[<- hPi];omega)
    have g:bI fr top least (u:Int) e=false:=by
     unfold bI fz b6 eM
     simp only[Bool.and_eq_false_iff,decide_eq_false_iff_not]
     omega
    rw[g]
    have:(top-1)*2^fr<=(a:Int)*2^fr:=Int.mul_le_mul_of_nonneg_right (by omega) (by omega)
    have e2:(top-1)*2^fr=top*2^fr-2^fr:=by rw[Int.sub_mul,Int.one_mul]
    exact(decide_eq_false (by omega)).symm
  ·have hue:u=2^(fr+1):=by omega
   have hpp:2^(fr+1)<2^(fr+2):=Nat.pow_lt_pow_right (by decide) (by omega)
   have g1:=C6 hu0 hu63 (fr+2) (by rw[hue];exact_mod_cast hpp)
   have g2:=tZ hu0 hu63 (fr+1) (by rw[hue];simp)
   have hu2:(u:Int)=2*2^fr:=by rw[hue,Nat.pow_succ];push_cast;omega
   have hjo:jl (u:Int)<=fr+1:=by
    obtain⟨mm,ez,z63,eo⟩:=eG hu0 hu63
    by_cases hz:jz (u:Int)=0
    ·exfalso
     rw[hz] at ez
     rw[hu2] at ez
     simp at ez
     omega
    ·omega
   by_cases hea:(a:Int)<=top-3
   ·have g:bI fr top least (u:Int) e=true:=by
     unfold bI fz b6 eM
     simp only[Bool.and_eq_true,decide_eq_true_eq]
     omega
    rw[g]
    have:(a:Int)*2^fr<=(top-3)*2^fr:=Int.mul_le_mul_of_nonneg_right hea (by omega)
    have e2:(top-3)*2^fr=top*2^fr-3*2^fr:=by rw[Int.sub_mul]
    exact(decide_eq_true (by omega)).symm
   ·have g:bI fr top least (u:Int) e=false:=by
     unfold bI fz b6 eM
     simp only[Bool.and_eq_false_iff,decide_eq_false_iff_not]
     omega
    rw[g]
    have:(top-2)*2^fr<=(a:Int)*2^fr:=Int.mul_le_mul_of_nonneg_right (by omega) (by omega)
    have e2:(top-2)*2^fr=top*2^fr-2*2^fr:=by rw[Int.sub_mul]
    exact(decide_eq_false (by omega)).symm
 refine⟨?_,fun hlt=>?_⟩
 ·unfold jk
  rw[if_neg (by omega),if_neg (by omega)]
  exact hJ
 ·have hg:bI fr top least (u:Int) e=true:=by rw[hJ];exact decide_eq_true hlt
  have hv:=zX f fr hB top least (u:Int) e hu0 hu63 hg he
  rw[Int.toNat_natCast] at hv
  have hj0:0<=jv fr top least (u:Int) e:=by
   unfold jv
   rw[if_neg (by omega),if_pos hg]
   have h1:=i6 hu0 hu63
   have h2:0<=fz fr least (u:Int) e:=by unfold fz b6;unfold bI at hg;simp only[Bool.and_eq_true,decide_eq_true_eq] at hg;omega
   have h3:(0:Int)<=2^(fr:Int).toNat:=rB _
   have h4:(0:Int)<=2^(b6 fr least (u:Int) e).toNat:=rB _
   have:=Int.mul_nonneg h2 h3
   have:=Int.mul_nonneg (show 0<=jo (u:Int) by omega) h4
   omega
  have hV:V f rung=u*2^(e-least).toNat:=by
   show V f ((e-least).toNat*2^fr+u)=_
   rw[<- hB]
   by_cases hlt2:u<2^(fr+1)
   ·exact(jw f (e-least).toNat u (by rw[hB];rw[Nat.pow_succ] at hlt2;omega) (fun h=>by rw[hB];exact hn (by omega))).1
   ·have hue:u=2*f.binade-1+1:=by rw[hB];rw[Nat.pow_succ] at hu hlt2;omega
    have hb:=fi f
    have:=(jw f (e-least).toNat (2*f.binade-1) (by omega) (fun h=>by omega)).2
    rw[<- hue,Nat.add_assoc,<- hue] at this
    exact this
  have:=BD f (hv.trans hV.symm)
  omega
end Go.Proofs.YtkkpppgfoilgmaaGreatDoor.M
namespace Go.Proofs.YtkkpppgfoilgmaaGreatDoor
open Go Go.Proofs.Tryz Go.RowKit Go.Proofs.YtkkpppgfoilgmaaGreatDoor.M
structure aG (w:World) (ao:Option Addr) (n cap:Nat) (d:Nat->Int):Prop where
 le:n<=cap
 max:cap<=9223372036854775807
 nl:ao=none->cap=0
 spot:0<n->∃ b off,ao=some ⟨b,off,none⟩∧b<w.heap.size∧∀ i,i<n->w.cell? ⟨b,off+i,none⟩=some (.int .i64 (d i))
def bw (w:World) (g N:Nat) (r:Nat->Int):Prop :=
 ∃ cur,w.heap[g]?=some (.cells cur 3 (0,0))∧cur.size=N∧∀ i,i<N->cur[i]?=some (.int .i64 (r i))
def d9 (d:Nat->Int) (n:Nat):List Value:=(List.range n).map fun i=>.int .i64 (d i)
theorem bR (d:Nat->Int) (n:Nat):(d9 d n).length=n:=by simp[d9]
theorem ec (d:Nat->Int) {n i:Nat} (h:i<n):(d9 d n)[i]?=some (.int .i64 (d i)):=by simp[d9,h]
theorem vP (d:Nat->Int) (n:Nat):∀ u ∈ d9 d n,u.oneCell'=true:=by
 intro u hu
 obtain⟨_,_,rfl⟩:=List.mem_map.1 hu
 rfl
theorem gB {xs:List Value} {d:Nat->Int} {n:Nat} (hl:xs.length=n) (h:∀ i,i<n->xs[i]?=some (.int .i64 (d i))):xs=d9 d n:=by
 apply List.ext_getElem?
 intro i
 by_cases hi:i<n
 ·rw[h i hi,ec d hi]
 ·rw[List.getElem?_eq_none (by omega),List.getElem?_eq_none (by rw[bR];omega)]
def aV (B:Nat) (w:World) (v:Value) (n:Nat) (d:Nat->Int):Prop:=w.ownsRow B 3 1 v n (d9 d n)
theorem aG.stays {w w':World} {ao:Option Addr} {n cap:Nat} {d:Nat->Int} (h:aG w ao n cap d) {B:Nat} (hb:Below B w w') (hB:w.heap.size<=B):aG w' ao n cap d :=
  ⟨h.le,h.max,h.nl,fun hn=>by
    obtain⟨b,off,rfl,hlt,hc⟩:=h.spot hn
    exact ⟨b,off,rfl,Nat.lt_of_lt_of_le hlt hb.size,fun i hi=>(hb.cell (p:=⟨b,off+i,none⟩) (Nat.lt_of_lt_of_le hlt hB)).trans (hc i hi)⟩⟩
theorem aG.keeps {w w':World} {ao:Option Addr} {n cap:Nat} {d:Nat->Int} (h:aG w ao n cap d) (hb:Below w.heap.size w w'):aG w' ao n cap d:=h.stays hb (Nat.le_refl _)
theorem aG.congr {w:World} {ao:Option Addr} {n cap:Nat} {d e:Nat->Int} (h:aG w ao n cap d) (he:∀ i,i<n->d i=e i):aG w ao n cap e :=
  ⟨h.le,h.max,h.nl,fun hn=>by
    obtain⟨b,off,rfl,hlt,hc⟩:=h.spot hn
    exact ⟨b,off,rfl,hlt,fun i hi=>by rw [<- he i hi]; exact hc i hi⟩⟩
theorem aG.nil (w:World) (d:Nat->Int):aG w none 0 0 d:=⟨Nat.le_refl _,by decide,fun _=>rfl,fun h=>by omega⟩
theorem aG.alloc {w:World} {ao:Option Addr} {n cap:Nat} {d:Nat->Int} (h:aG w ao n cap d) (o:Obj):aG (w.alloc o) ao n cap d:=h.keeps ((Below.refl _ _).alloc (Nat.le_refl _) _)
theorem bw.cell {w:World} {g N:Nat} {r:Nat->Int} (h:bw w g N r) {i:Nat} (hi:i<N):w.cell? ⟨g,i,none⟩=some (.int .i64 (r i)):=by
 obtain⟨cur,hg,hs,hc⟩:=h
 rw[cell_of_row w g i cur _ _ hg];exact hc i hi
theorem bw.frozen {w:World} {g N:Nat} {r:Nat->Int} (h:bw w g N r) (i:Nat):w.frozen? ⟨g,i,none⟩=false:=by
 obtain⟨cur,hg,hs,hc⟩:=h
 exact frozen_of_row w g i cur _ hg
theorem bw.lt {w:World} {g N:Nat} {r:Nat->Int} (h:bw w g N r):g<w.heap.size:=by
 obtain⟨cur,hg,hs,hc⟩:=h
 exact(aGe hg).1
theorem bw.store {w:World} {g N:Nat} {r:Nat->Int} (h:bw w g N r) (i:Nat) (x:Int):bw (w.setCell ⟨g,i,none⟩ (.int .i64 x)) g N (bK r i x):=by
 obtain⟨cur,hg,hs,hc⟩:=h
 refine⟨cur.setIfInBounds i (.int .i64 x),heap_setCell_same w g i cur _ _ hg,by simpa using hs,fun j hj=>?_⟩
 by_cases hji:j=i
 ·subst hji;rw[a6,Array.getElem?_setIfInBounds_self_of_lt (by omega)]
 ·rw[aP r x hji,Array.getElem?_setIfInBounds_ne (by omega)];exact hc j hj
theorem bw.of_block {w w':World} {g N:Nat} {r:Nat->Int} (h:bw w g N r) (hb:w'.heap[g]?=w.heap[g]?):bw w' g N r:=by
 obtain⟨cur,hg,hs,hc⟩:=h
 exact⟨cur,hb.trans hg,hs,hc⟩
theorem bw.stays {w w':World} {g N:Nat} {r:Nat->Int} (h:bw w g N r) {B:Nat} (hb:Below B w w') (hB:g<B):bw w' g N r:=h.of_block (hb.block g hB)
theorem bw.keeps {w w':World} {g N:Nat} {r:Nat->Int} (h:bw w g N r) (hb:Below w.heap.size w w'):bw w' g N r:=h.stays hb h.lt
theorem bw.apart {w:World} {g N:Nat} {r:Nat->Int} (h:bw w g N r) {a:Addr} (ha:g≠a.block) (u:Value):bw (w.setCell a u) g N r:=h.of_block (heap_setCell_other w a g u ha)
theorem bw.alloc {w:World} {g N:Nat} {r:Nat->Int} (h:bw w g N r) (o:Obj):bw (w.alloc o) g N r:=h.of_block (Below.heap_alloc w o g h.lt)
theorem bw.congr {w:World} {g N:Nat} {r s:Nat->Int} (h:bw w g N r) (he:∀ i,i<N->r i=s i):bw w g N s:=by
 obtain⟨cur,hg,hs,hc⟩:=h
 exact⟨cur,hg,hs,fun i hi=>by rw[hc i hi,he i hi]⟩
theorem bw.row {w:World} {g N:Nat} {r:Nat->Int} (h:bw w g N r) {off n cap:Nat} (hn:off+n<=N) (hc:n<=cap) (hm:cap<=9223372036854775807):aG w (some ⟨g,off,none⟩) n cap (fun i=>r (off+i)) :=
 ⟨hc,hm,(fun e=>by cases e),fun _=>⟨g,off,rfl,h.lt,fun i hi=>h.cell (by omega)⟩⟩
theorem bw.row0 {w:World} {g N:Nat} {r:Nat->Int} (h:bw w g N r) {n:Nat} (hn:n<=N) (hm:N<=9223372036854775807):aG w (some ⟨g,0,none⟩) n N r :=
 ⟨hn,hm,(fun e=>by cases e),fun _=>⟨g,0,rfl,h.lt,fun i hi=>by rw[Nat.zero_add];exact h.cell (by omega)⟩⟩
theorem bw.out {w:World} {g N:Nat} {r:Nat->Int} (h:bw w g N r) {B n:Nat} (hB:B<=g) (hn:n<=N) (hm:N<=9223372036854775807):aV B w (.slice (some ⟨g,0,none⟩) n N) n r:=by
 obtain⟨cur,hg,hs,hc⟩:=h
 refine⟨by rw[bR];omega,.inr ⟨g,N,cur,rfl,hB,hg,hn,by unfold maxLen;omega,by omega,?_⟩⟩
 apply gB (by simp;omega)
 intro i hi
 rw[List.getElem?_take,if_pos (by omega),Array.getElem?_toList]
 exact hc i (by omega)
theorem bw.made {w:World} {B g N:Nat} (h:w.ownsRow B 3 1 (.slice (some ⟨g,0,none⟩) N N) N (madeCells (Value.int .i64 0).cells (N*1)).toList):bw w g N (fun _=>0):=by
 rcases h.2 with⟨h',_⟩|⟨g',cap',cur,h',_,hg,_,_,hs,htake⟩
 ·simp at h'
 ·simp only[Value.slice.injEq,Option.some.injEq,Addr.mk.injEq,and_true,true_and] at h'
  obtain⟨rfl,rfl⟩:=h'
  refine⟨cur,hg,by omega,fun i hi=>?_⟩
  have e:cur.toList[i]?=(madeCells (Value.int .i64 0).cells (N*1)).toList[i]?:=by
   rw[<- htake,List.getElem?_take,if_pos (by omega)]
  rw[Array.getElem?_toList] at e
  rw[e]
  show(madeCells #[Value.int .i64 0] (N*1)).toList[i]?=_
  rw[Nat.mul_one,toList_madeCells_one]
  simp[hi]
theorem bw.new (w:World) (xs:Array Value) (r:Nat->Int) (h:∀ i,i<xs.size->xs[i]?=some (.int .i64 (r i))):bw (w.alloc (.cells xs 3)) w.heap.size xs.size r :=
 ⟨xs,heap_alloc_new w _,rfl,h⟩
theorem aV.row {B:Nat} {w:World} {v:Value} {n:Nat} {d:Nat->Int} (h:aV B w v n d):∃ ao cap,v=.slice ao n cap∧aG w ao n cap d:=by
 rcases h.2 with⟨rfl,rfl⟩|⟨g,cap,cur,rfl,hb,hg,hn,hm,hs,ht⟩
 ·exact⟨none,0,rfl,aG.nil _ _⟩
 ·refine⟨_,cap,rfl,hn,by unfold maxLen at hm;exact hm,(fun e=>by cases e),fun _=>⟨g,0,rfl,(aGe hg).1,fun i hi=>?_⟩⟩
  rw[Nat.zero_add,cell_of_row w g i cur _ _ hg]
  have e:(cur.toList.take (n*1))[i]?=(d9 d n)[i]?:=by rw[ht]
  rw[List.getElem?_take,if_pos (by omega),ec d hi,Array.getElem?_toList] at e
  exact e
theorem aV.nil (B:Nat) (w:World) (d:Nat->Int):aV B w (.slice none 0 0) 0 d:=World.ownsRow_nil _ _ _ _
theorem aV.stays {B:Nat} {w w':World} {v:Value} {n:Nat} {d:Nat->Int} (h:aV B w v n d) (hb:Below w.heap.size w w'):aV B w' v n d:=by
 refine⟨h.1,?_⟩
 rcases h.2 with hn|⟨g,cap,cur,rfl,hbb,hg,rest⟩
 ·exact .inl hn
 ·exact .inr ⟨g,cap,cur,rfl,hbb,(hb.block g (aGe hg).1).trans hg,rest⟩
theorem aV.lower {B B':Nat} {w:World} {v:Value} {n:Nat} {d:Nat->Int} (h:aV B w v n d) (hB:B'<=B):aV B' w v n d:=by
 refine⟨h.1,?_⟩
 rcases h.2 with hn|⟨g,cap,cur,rfl,hbb,rest⟩
 ·exact .inl hn
 ·exact .inr ⟨g,cap,cur,rfl,by omega,rest⟩
theorem aV.congr {B:Nat} {w:World} {v:Value} {n:Nat} {d e:Nat->Int} (h:aV B w v n d) (he:∀ i,i<n->d i=e i):aV B w v n e:=by
 unfold aV at h ⊢
 rwa [show d9 e n=d9 d n from(gB (bR d n) fun i hi=>by rw[ec d hi,he i hi]).symm]
theorem aa {a b c:World} (h:Below a.heap.size a b) (k:Below b.heap.size b c):Below a.heap.size a c:=h.trans (k.mono h.size)
theorem aq (w:World):Below w.heap.size w w:=Below.refl _ _
theorem a5 {B:Nat} {a w:World} (h:Below B a w) (n:Nat):Below B a (w.drewN n):=⟨h.os,h.tape,h.output,h.size,h.block⟩
def jh (ao:Option Addr) (t cap:Nat):Value:=if t=0 then .slice none 0 0 else .slice ao t cap
theorem bw.cut {w:World} {g N:Nat} {r:Nat->Int} (h:bw w g N r) {B t:Nat} (hB:B<=g) (ht:t<=N) (hm:N<=9223372036854775807):aV B w (jh (some ⟨g,0,none⟩) t N) t r:=by
 unfold jh
 split
 ·rename_i h0;subst h0;exact aV.nil _ _ _
 ·exact h.out hB ht hm
def bO (w w':World) (V:Int) (v:Value):Prop:=∃ t d,aV w.heap.size w' v t d∧bt d t∧val d t=V∧Below w.heap.size w w'
theorem bO.below {w w':World} {V:Int} {v:Value} (h:bO w w' V v):Below w.heap.size w w':=h.choose_spec.choose_spec.2.2.2
theorem bO.from {w0 w w':World} {V:Int} {v:Value} (h:bO w w' V v) (hb:Below w0.heap.size w0 w):bO w0 w' V v:=by
 obtain⟨t,d,h1,h2,h3,h4⟩:=h
 exact⟨t,d,h1.lower hb.size,h2,h3,aa hb h4⟩
theorem bO.stays {w w1 w2:World} {V:Int} {v:Value} (h:bO w w1 V v) (hb:Below w1.heap.size w1 w2):bO w w2 V v:=by
 obtain⟨t,d,h1,h2,h3,h4⟩:=h
 exact⟨t,d,h1.stays hb,h2,h3,aa h4 hb⟩
theorem bO.nil {w w':World} (hb:Below w.heap.size w w'):bO w w' 0 (.slice none 0 0):=⟨0,fun _=>0,aV.nil _ _ _,⟨fun i hi=>by omega,.inl rfl⟩,rfl,hb⟩
def C7 (w w':World) (V:Int) (v:Value) (er:Int):Prop:=Below w.heap.size w w'∧((V<P 2000∧er=0∧bO w w' V v)∨(P 2000<=V∧er=2∧v=.slice none 0 0))
theorem pA:(prog.info? 3).map (fun i=>(i.zero,i.size,i.bytes))=some (some (.int .i64 0),1,8):=by kernel_rfl
theorem qN {w w':World} (h:w.grownBy w' none):Below w.heap.size w w':=⟨h.os,h.tape,h.output,h.size,fun k hk=>h.block k hk (by simp)⟩
theorem gX {w:World} {ops:Array Oper} {rest:List Oper} {o:Oper} {a:Act} {Q:Exit->Act->World->Prop} (hg:o.guard=none) (l c:Operand) (hop:o.op=Op.makeSlice 24 l c)
  (L C:Int) (n:Nat) (hl:a.eval l=.int .i64 L) (hc:a.eval c=.int .i64 C) (hL:L=(n:Int)) (hC:C=(n:Int)) (hn:n<=1000000)
  (hK:∀ w',bw w' w.heap.size n (fun _=>0)->Below w.heap.size w w'->wpList prog ops Q rest (a.put o.dst (.slice (some ⟨w.heap.size,0,none⟩) n n)) w') :
  wpList prog ops Q (o :: rest) a w:=by
 obtain⟨i0,hi,hz0,hz1,hz2⟩:=info_parts pA
 exact wpList_make_full w hg l c 24 hop w.heap.size 3 i0 (.int .i64 0) 1 underlying24 hi hz0 hz1 .i64 .i64 L C n hl hc hL hC (by rw[hz2];omega) (by unfold maxLen;omega) (Nat.le_refl _)
  fun w' h1 h2=>hK w' (bw.made h1) (qN h2)
theorem gf (w:World) (x:Int) {g:Nat} (hg:g=w.heap.size):aG (w.alloc (.cells #[.int .i64 x] 3)) (some ⟨g,0,none⟩) 1 1 (fun _=>x):=by
 subst hg
 exact(bw.new w #[.int .i64 x] (fun _=>x) (fun i hi=>by simp at hi;subst hi;rfl)).row0 (Nat.le_refl _) (show 1<=9223372036854775807 by decide)
def d2 (x y:Int):Nat->Int:=fun i=>if i=0 then x else y
def kG (d:Nat->Int) (n:Nat) (e:Nat->Int):Nat->Int:=fun i=>if i<n then d i else e (i-n)
theorem vQ (d e:Nat->Int) (n m:Nat):d9 d n ++ d9 e m=d9 (kG d n e) (n+m):=by
 apply gB (by simp[bR])
 intro i hi
 by_cases h:i<n
 ·rw[List.getElem?_append_left (by rw[bR];exact h),ec d h];simp[kG,h]
 ·rw[List.getElem?_append_right (by rw[bR];omega),bR,ec e (by omega)];simp[kG,h]
theorem l7 (b off n:Nat):(⟨b,off,none⟩:Addr).add n=⟨b,off+n,none⟩:=by
 unfold Addr.add;split<;>simp_all
theorem bU {w:World} {ops:Array Oper} {rest:List Oper} {o:Oper} {a:Act} {Q:Exit->Act->World->Prop} (hgd:o.guard=none) (s x:Operand)
  (ho:o.op=.call { callee:=.builtin .append,args:=#[s,x],argTypes:=#[24,24] }) (B:Nat) (v:Value) (n:Nat) (d:Nat->Int) (hs:a.eval s=v) (hO:aV B w v n d)
  (bo:Option Addr) (m cb:Nat) (e:Nat->Int) (hx:a.eval x=.slice bo m cb) (hR:aG w bo m cb e) (hlen:n+m<=1000000) (hB:B<=w.heap.size)
  (h:∀ v' w',aV B w' v' (n+m) (kG d n e)->w.grownBy w' v.ownBlock->wpList prog ops Q rest (a.put o.dst v') w'):wpList prog ops Q (o :: rest) a w:=by
 obtain⟨i0,hi,hz0,hz1,hz2⟩:=info_parts pA
 cases bo with
 | none=>
  have hc:=hR.nl rfl
  have hl:=hR.le
  subst hc
  obtain rfl:m=0:=by omega
  refine wpList_append_own_none hgd s x 24 ho B 3 i0 1 underlying24 hi v n (d9 d n) hs hO hx ?_
  refine h v w ?_ ⟨rfl,rfl,rfl,Nat.le_refl _,fun _ _ _=>rfl⟩
  exact aV.congr hO fun i hi=>by simp[kG];omega
 | some ad=>
  refine wpList_append_own w hgd s x 24 ho B 3 i0 (.int .i64 0) 1 8 underlying24 hi hz0 hz1 hz2 rfl (by decide) v n (d9 d n) hs hO ad m cb (d9 e m) hx (by rw[bR];omega) ?_ (vP e m) (by unfold maxLen;omega) (by omega) hB ?_
  ·intro j u hu
   have hj:j<m:=by have:=(List.getElem?_eq_some_iff.1 hu).1;rwa [bR] at this
   obtain⟨b,off,hb,_,hc⟩:=hR.spot (by omega)
   obtain rfl:=Option.some.inj hb
   rw[ec e hj] at hu
   rw[l7,hc j hj];exact hu
  ·intro v' w' h1 h2 _
   rw[vQ] at h1
   exact h v' w' h1 h2
theorem c7 {B:Nat} {w:World} {v:Value} {n:Nat} {d:Nat->Int} (h:aV B w v n d):∀ k,v.ownBlock=some k->B<=k:=fun k hk=>(World.ownsRow.lt h k hk).1
def aT (w:World) (v:Value) (V:Int):Prop:=∃ ao n cap d,v=.slice ao n cap∧aG w ao n cap d∧bt d n∧val d n=V
theorem bO.num {w w':World} {V:Int} {v:Value} (h:bO w w' V v):aT w' v V:=by
 obtain⟨t,d,h1,h2,h3,h4⟩:=h
 obtain⟨ao,cap,rfl,hR⟩:=h1.row
 exact⟨ao,t,cap,d,rfl,hR,h2,h3⟩
theorem aT.keeps {w w':World} {v:Value} {V:Int} (h:aT w v V) (hb:Below w.heap.size w w'):aT w' v V:=by
 obtain⟨ao,n,cap,d,rfl,hR,h2⟩:=h
 exact⟨ao,n,cap,d,rfl,hR.keeps hb,h2⟩
theorem aT.shape {w:World} {v:Value} {V:Int} (h:aT w v V):∃ ao n cap,v=.slice ao n cap:=by
 obtain⟨ao,n,cap,d,e,_⟩:=h
 exact⟨ao,n,cap,e⟩
theorem aT.alloc {w:World} {v:Value} {V:Int} (h:aT w v V) (o:Obj):aT (w.alloc o) v V:=h.keeps ((Below.refl _ _).alloc (Nat.le_refl _) _)
theorem aT.len {w:World} {ao:Option Addr} {n cap:Nat} {V:Int} (h:aT w (.slice ao n cap) V) {k:Nat} (hV:V<P k):n<=k:=by
 obtain⟨ao',n',cap',d,e,hR,h2,h3⟩:=h
 simp only[Value.slice.injEq] at e
 obtain⟨rfl,rfl,rfl⟩:=e
 by_cases hk:n<=k
 ·exact hk
 ·have a:=cI h2.1 (by omega) h2.2
  have b:=fJ (show k<=n-1 by omega)
  omega
theorem aT.nonneg {w:World} {v:Value} {V:Int} (h:aT w v V):0<=V:=by
 obtain⟨ao',n',cap',d,e,hR,h2,rfl⟩:=h
 exact aJ h2.1
theorem aT.zero {w:World} {ao:Option Addr} {n cap:Nat} {V:Int} (h:aT w (.slice ao n cap) V):V=0↔n=0:=by
 obtain⟨ao',n',cap',d,e,hR,h2,rfl⟩:=h
 simp only[Value.slice.injEq] at e
 obtain⟨rfl,rfl,rfl⟩:=e
 exact jI h2
theorem ae (w:World) (o:Obj):Below w.heap.size w (w.alloc o):=(Below.refl _ _).alloc (Nat.le_refl _) _
theorem ax (w:World) (o p:Obj):Below w.heap.size w ((w.alloc o).alloc p):=(ae w o).alloc (by simp) _
theorem ab {w:World} {g:Nat} {xs:Array Value} {t:TypeId} (h:w.heap[g]?=some (.cells xs t (0,0))) (i:Nat) {v:Value} (hi:xs[i]?=some v):w.cell? ⟨g,i,none⟩=some v:=by
 rw[cell_of_row w g i xs _ _ h];exact hi
theorem ak {w:World} {g:Nat} {xs:Array Value} {t:TypeId} (h:w.heap[g]?=some (.cells xs t (0,0))) (i:Nat):w.frozen? ⟨g,i,none⟩=false:=by
 simp[World.frozen?,h]
theorem bv (w:World) (a b:Obj):((w.alloc a).alloc b).heap[w.heap.size]?=some a:=by
 show((w.heap.push a).push b)[w.heap.size]?=some a
 simp[Array.getElem?_push]
theorem bh (w:World) (a b:Obj):((w.alloc a).alloc b).heap[w.heap.size+1]?=some b:=by
 show((w.heap.push a).push b)[w.heap.size+1]?=some b
 rw[Array.getElem?_push,if_pos (by simp)]
theorem gR (w:World) (a b:Obj):((w.alloc a).alloc b).heap.size=w.heap.size+2:=by
 show((w.heap.push a).push b).size=_
 simp
theorem aV.set_below {B:Nat} {w:World} {v:Value} {n:Nat} {d:Nat->Int} (h:aV B w v n d) {a:Addr} (ha:a.block<B) (u:Value):aV B (w.setCell a u) v n d:=ownsRow_setCell_below h ha u
def aX (w:World) (v:Value) (V:Int):Prop:=∃ ng s m e,v=.agg #[.bool ng,s,.int .i64 e]∧Dy V ng m e∧aT w s m
def aZ (w w':World) (V:Int) (v:Value):Prop:=∃ ng s m e,v=.agg #[.bool ng,s,.int .i64 e]∧Dy V ng m e∧bO w w' m s
def de:Value:=.agg #[.bool false,.slice none 0 0,.int .i64 0]
theorem aZ.below {w w':World} {V:Int} {v:Value} (h:aZ w w' V v):Below w.heap.size w w':=by
 obtain⟨ng,s,m,e,_,_,h3⟩:=h
 exact h3.below
theorem aZ.num {w w':World} {V:Int} {v:Value} (h:aZ w w' V v):aX w' v V:=by
 obtain⟨ng,s,m,e,h1,h2,h3⟩:=h
 exact⟨ng,s,m,e,h1,h2,h3.num⟩
theorem aZ.from {w0 w w':World} {V:Int} {v:Value} (h:aZ w w' V v) (hb:Below w0.heap.size w0 w):aZ w0 w' V v:=by
 obtain⟨ng,s,m,e,h1,h2,h3⟩:=h
 exact⟨ng,s,m,e,h1,h2,h3.from hb⟩
theorem aZ.stays {w w1 w2:World} {V:Int} {v:Value} (h:aZ w w1 V v) (hb:Below w1.heap.size w1 w2):aZ w w2 V v:=by
 obtain⟨ng,s,m,e,h1,h2,h3⟩:=h
 exact⟨ng,s,m,e,h1,h2,h3.stays hb⟩
theorem aZ.zero {w w':World} (hb:Below w.heap.size w w'):aZ w w' 0 de:=⟨_,_,_,_,rfl,Dy.zero,bO.nil hb⟩
theorem aX.keeps {w w':World} {v:Value} {V:Int} (h:aX w v V) (hb:Below w.heap.size w w'):aX w' v V:=by
 obtain⟨ng,s,m,e,h1,h2,h3⟩:=h
 exact⟨ng,s,m,e,h1,h2,h3.keeps hb⟩
theorem aX.zero (w:World):aX w de 0:=(aZ.zero (aq w)).num
def gg (w w':World) (V:Int) (v:Value) (er:Int):Prop:=Below w.heap.size w w'∧((b7 V∧er=0∧aZ w w' V v)∨(¬ b7 V∧er=2∧v=de))
theorem zZ (w:World):(binOp .eql 20 Value.nilIface Value.nilIface).run prog w=.ok (.bool true) w:=by kernel_rfl
theorem z6 (w:World):(binOp .eql 20 (.iface 34 (.int .i64 2)) Value.nilIface).run prog w=.ok (.bool false) w:=by kernel_rfl
theorem yb (w:World):(binOp .eql 20 (.iface 34 (.int .i64 2)) (.iface 34 (.int .i64 2))).run prog w=.ok (.bool true) w:=by kernel_rfl
theorem mA (p:Addr) (x:Value) (older:List PanicEntry) (w:World) (hc:w.cell? p=some x) (hz:w.frozen? p=false) :
  CallsD prog 157 #[.pointer (some p)] (.panicking ({ v:=.iface 34 (.int .i64 2),recovered:=false } :: older)) w fun e u' w'=>
   e=.returned (.tuple #[])∧u'=.panicking ({ v:=.iface 34 (.int .i64 2),recovered:=true } :: older)∧w'=w.setCell p (.int .i64 2):=by
 have h1:=z6
 have h2:=yb
 refine callsD_of_wpS func157 rfl fun c₀ cs hu=>?_
 apply wpS_seq
 apply wpS_region
 simp[wpOpsS,go_sem,recoverD,hu,ntmps157,Exit.thenS]
 refine wpS_of_wp ?_
 go_wp2
 simp[bodyPostS,results,results157]
theorem sT (p:Addr) (w:World) :
  CallsD prog 157 #[.pointer (some p)] .returning w fun e u' w'=>e=.returned (.tuple #[])∧u'=.returning∧w'=w:=by
 have h1:=zZ
 refine callsD_of_wpS func157 rfl fun c₀ cs hu=>?_
 apply wpS_seq
 apply wpS_region
 simp[wpOpsS,go_sem,recoverD,hu,ntmps157,Exit.thenS]
 refine wpS_of_wp ?_
 go_wp2
 cases c₀
 simp_all[bodyPostS,results,results157]
theorem yc (F:Nat) (cap:Array Value) (w:World) (hE:∀ w,(callFunc F cap).run prog w=.ok (.enter F cap) w) (hF:∀ W,Below w.heap.size w W->Calls prog F cap W fun r W'=>r=.panicked [{ v:=.iface 34 (.int .i64 2),recovered:=false }]∧Below W.heap.size W W') :
  Calls prog 150 #[.func (.func F) #[] cap] w fun r w'=>r=.returned (.tuple #[.agg #[.bool false,.slice none 0 0,.int .i64 0],.int .i64 2])∧Below w.heap.size w w':=by
 have hmf:∀ (fn:Fn) (first cap:Array Value) (w:World),(Instr.makeFunc fn first cap).run prog w=.ok (.func fn first cap) w:=fun _ _ _ _=>rfl
 go_enter_defers func150,ntmps150
 go_wp2_with fail
 refine(hF _ (ax _ _ _)).mono ?_
 rintro r W' ⟨rfl,hb⟩
 have q1:=(hb.block (w.heap.size+1) (by rw[gR];omega)).trans (bh _ _ _)
 have q0:=(hb.block w.heap.size (by rw[gR];omega)).trans (bv _ _ _)
 have f0:=ak q1 0
 have k0:=ab q1 0 rfl
 go_wp2_with fail
 refine leaves_cons (f:=157) (args:=#[.pointer (some ⟨w.heap.size+1,0,none⟩)]) (by simp) (by simp[go_sem]) ?_
 refine(mA ⟨w.heap.size+1,0,none⟩ _ [] _ k0 f0).mono ?_
 rintro e u' w'' ⟨rfl,rfl,rfl⟩
 have c0:=ab q0 0 rfl
 have c1:=ab q0 1 rfl
 have c2:=ab q0 2 rfl
 simp[Leaves,settle,results,results150,go_sem,c0,c1,c2,k0]
 exact((ax _ _ _).trans (hb.mono (ax _ _ _).size)).setCell (Nat.le_succ _) _
theorem vR {w W w3:World} {V:Int} {v:Value} (hv:aZ W w3 V v) (hb:Below w.heap.size w W) {g:Nat} (h0:w.heap.size<=g) (h1:g+1<W.heap.size) (a b c x:Value) :
  aZ w ((((w3.setCell ⟨g,0,none⟩ a).setCell ⟨g,1,none⟩ b).setCell ⟨g,2,none⟩ c).setCell ⟨g+1,0,none⟩ x) V v:=by
 obtain⟨ng,s,m,e,h2,h3,t,d,hO,hN,hV,hB⟩:=hv
 refine⟨ng,s,m,e,h2,h3,t,d,?_,hN,hV,?_⟩
 ·exact((((hO.set_below (a:=⟨g,0,none⟩) (by show g<_;omega) a).set_below (a:=⟨g,1,none⟩) (by show g<_;omega) b).set_below (a:=⟨g,2,none⟩) (by show g<_;omega) c).set_below (a:=⟨g+1,0,none⟩) h1 x).lower hb.size
 ·exact((((hb.trans (hB.mono hb.size)).setCell (p:=⟨g,0,none⟩) h0 a).setCell (p:=⟨g,1,none⟩) h0 b).setCell (p:=⟨g,2,none⟩) h0 c).setCell (p:=⟨g+1,0,none⟩) (Nat.le_succ_of_le h0) x
theorem vT (F:Nat) (cap:Array Value) (w:World) (V:Int) (hE:∀ w,(callFunc F cap).run prog w=.ok (.enter F cap) w) (hF:∀ W,Below w.heap.size w W->Calls prog F cap W fun r W'=>∃ v,r=.returned v∧aZ W W' V v) :
  Calls prog 150 #[.func (.func F) #[] cap] w fun r w'=>∃ v,r=.returned (.tuple #[v,.int .i64 0])∧aZ w w' V v:=by
 have hmf:∀ (fn:Fn) (first cap:Array Value) (w:World),(Instr.makeFunc fn first cap).run prog w=.ok (.func fn first cap) w:=fun _ _ _ _=>rfl
 go_enter_defers func150,ntmps150
 go_wp2_with fail
 refine(hF _ (ax _ _ _)).mono ?_
 rintro r W' ⟨v,rfl,hD⟩
 have hb:=hD.below
 obtain⟨ng,s,m,e,rfl,hy,hA⟩:=id hD
 obtain⟨so,sn,sc,rfl⟩:=hA.num.shape
 have q1:=(hb.block (w.heap.size+1) (by rw[gR];omega)).trans (bh _ _ _)
 have q0:=(hb.block w.heap.size (by rw[gR];omega)).trans (bv _ _ _)
 have f0:=ak q1 0
 have k0:=ab q1 0 rfl
 have c0:=ab q0 0 rfl
 have c1:=ab q0 1 rfl
 have c2:=ab q0 2 rfl
 have z0:=ak q0 0
 have z1:=ak q0 1
 have z2:=ak q0 2
 go_wp2_with fail
 refine leaves_cons (f:=157) (args:=#[.pointer (some ⟨w.heap.size+1,0,none⟩)]) (by simp) (by simp[go_sem]) ?_
 refine(sT ⟨w.heap.size+1,0,none⟩ _).mono ?_
 rintro e u' w'' ⟨rfl,rfl,rfl⟩
 simp[Leaves,settle,results,results150,go_sem,c0,c1,c2,k0]
 exact vR (g:=w.heap.size) hD (ax _ _ _) (Nat.le_refl _) (by rw[gR];omega) _ _ _ _
theorem z7 (ng odd:Bool) (left:Int) (w:World):Calls prog 107 #[.bool ng,.bool odd,.int .i64 left] w fun e w'=>e=.returned (.bool (aW 0 ng odd left))∧w'=w:=by
 unfold aW
 rw[if_pos rfl]
 go_enter func107,ntmps107
 by_cases h3:left=3
 ·subst h3
  go_wp2
  go_ret
  exact⟨by simp,rfl⟩
 ·by_cases h2:left=2
  ·subst h2
   go_wp2
   go_ret
   exact⟨by simp,rfl⟩
  ·go_wp2
   go_ret
   exact⟨by simp[h2,h3],rfl⟩
theorem z8 (ng odd:Bool) (left:Int) (w:World):Calls prog 108 #[.bool ng,.bool odd,.int .i64 left] w fun e w'=>e=.returned (.bool (aW 1 ng odd left))∧w'=w:=by
 unfold aW
 rw[if_neg (by decide),if_pos rfl]
 go_enter func108,ntmps108
 by_cases h0:left=0
 ·subst h0
  go_wp2
  go_ret
  exact⟨by simp,rfl⟩
 ·go_wp2
  go_ret
  exact⟨by simp[h0],rfl⟩
theorem z9 (ng odd:Bool) (left:Int) (w:World):Calls prog 109 #[.bool ng,.bool odd,.int .i64 left] w fun e w'=>e=.returned (.bool (aW 2 ng odd left))∧w'=w:=by
 unfold aW
 rw[if_neg (by decide),if_neg (by decide),if_pos rfl]
 go_enter func109,ntmps109
 by_cases h0:left=0
 ·subst h0
  go_wp2
  go_ret
  exact⟨by simp,rfl⟩
 ·go_wp2
  go_ret
  exact⟨by simp[h0],rfl⟩
theorem Aa (ng odd:Bool) (left:Int) (w:World):Calls prog 110 #[.bool ng,.bool odd,.int .i64 left] w fun e w'=>e=.returned (.bool (aW 3 ng odd left))∧w'=w:=by
 unfold aW
 rw[if_neg (by decide),if_neg (by decide),if_neg (by decide)]
 go_enter func110,ntmps110
 go_wp2
 go_ret
 exact⟨rfl,rfl⟩
def eO (way:Int):Nat:=if way=0 then 107 else if way=1 then 108 else if way=2 then 109 else 110
def eP (way:Int):Value:=.agg #[.func (.func (eO way)) #[] #[]]
theorem gY (way:Int) (w:World):Calls prog 88 #[.int .i64 way] w fun e w'=>e=.returned (.tuple #[if 0<=way∧way<=3 then eP way else .agg #[.nilFunc],.bool (decide (0<=way∧way<=3))])∧Below w.heap.size w w':=by
 have hmf:∀ (fn:Fn) (first cap:Array Value) (w:World),(Instr.makeFunc fn first cap).run prog w=.ok (.func fn first cap) w:=fun _ _ _ _=>rfl
 have hst:∀ (p:Addr) (F:Nat) (m:Mode) (w:World),(store p (.func (.func F) #[] #[]) m).run prog w=stored prog w p (.func (.func F) #[] #[]) m:=fun p F m w=>run_store _ w p _ m rfl
 have hsn:∀ (p:Addr) (m:Mode) (w:World),(store p .nilFunc m).run prog w=stored prog w p .nilFunc m:=fun p m w=>run_store _ w p _ m rfl
 have hb2:=ax w (.cells #[.nilFunc] 124) (.cells #[.nilFunc,.nilFunc,.nilFunc,.nilFunc] 143)
 have q0:=bv w (.cells #[.nilFunc] 124) (.cells #[.nilFunc,.nilFunc,.nilFunc,.nilFunc] 143)
 have q1:=bh w (.cells #[.nilFunc] 124) (.cells #[.nilFunc,.nilFunc,.nilFunc,.nilFunc] 143)
 have x0:=ab q1 0 rfl
 have x1:=ab q1 1 rfl
 have x2:=ab q1 2 rfl
 have x3:=ab q1 3 rfl
 have z0:=ak q1 0
 have z1:=ak q1 1
 have z2:=ak q1 2
 have z3:=ak q1 3
 have y0:=ab q0 0 rfl
 have y1:=ak q0 0
 by_cases h0:way<0
 ·go_enter func88,ntmps88
  go_wp2
  refine bodyPost_ret (v:=.tuple #[.agg #[.nilFunc],.bool false]) (by simp[results,results88,go_sem]) rfl ⟨?_,?_⟩
  ·rfl
  ·exact ax _ _ _
 by_cases h4:4<=way
 ·go_enter func88,ntmps88
  go_wp2
  refine bodyPost_ret (v:=.tuple #[.agg #[.nilFunc],.bool false]) (by simp[results,results88,go_sem]) rfl ⟨?_,?_⟩
  ·rfl
  ·exact ax _ _ _
 rw[if_pos (by omega),show decide (0<=way∧way<=3)=true from decide_eq_true (by omega)]
 have hc:way=0∨way=1∨way=2∨way=3:=by omega
 rcases hc with rfl|rfl|rfl|rfl
 all_goals
  go_enter func88,ntmps88
  go_wp2
  refine bodyPost_ret (v:=.tuple #[eP _,.bool true]) (by simp[results,results88,go_sem,eP,eO];first|done|rfl) rfl ⟨rfl,?_⟩
  exact ax _ _ _
def cv (ng:Bool) (mag:Nat) (exp:Int) (cut sd:Bool):Value:=.agg #[.bool ng,.int .u64 mag,.int .i64 exp,.bool cut,.bool sd]
theorem t5 (ng:Bool) (mag:Nat) (exp unit:Int) (cut sd:Bool) (w:World) (k:Nat) (hk:unit-exp=-(k:Int)) (hk2:k<20000000) (hm:mag*2^k<18446744073709551616) :
  Calls prog 129 #[cv ng mag exp cut sd,.int .i64 unit] w fun e w'=>e=.returned (.tuple #[.int .u64 (mag*2^k:Nat),.int .i64 0])∧Below w.heap.size w w':=by
 have h0:IntKind.i64.wrap (unit-exp)=-(k:Int):=by rw[aR];omega
 unfold cv
 go_enter func129,ntmps129
 have hw:IntKind.u64.wrap ((mag:Int)*2^min k 64)=((mag*2^k:Nat):Int):=by
  rw[IntKind.wrap_u64]
  by_cases h:k<=64
  ·rw[show min k 64=k by omega]
   have e:(mag:Int)*2^k=((mag*2^k:Nat):Int):=by push_cast;rfl
   rw[e]
   omega
  ·have hz:mag=0:=by
    rcases Nat.eq_zero_or_pos mag with h0|h0
    ·exact h0
    ·have h1:2^64<=2^k:=Nat.pow_le_pow_right (by decide) (by omega)
     have h2:1*2^k<=mag*2^k:=Nat.mul_le_mul_right _ h0
     have h3:(2:Nat)^64=18446744073709551616:=by decide
     omega
   subst hz
   simp
 generalize ((mag*2^k:Nat):Int)=R at hw ⊢
 go_wp2
 refine bodyPost_ret (v:=.tuple #[.int .u64 R,.int .i64 0]) (by simp[results,results129,go_sem]) rfl ⟨rfl,ae _ _⟩
theorem Ab {a b c d:Int} (h1:a=c) (h2:b=d):Ending.returned (.tuple #[.int .u64 a,.int .i64 b])=Ending.returned (.tuple #[.int .u64 c,.int .i64 d]):=by rw[h1,h2]
theorem BE {mag k t m:Nat} {cut:Bool} (hk0:0<k) (hm:mag<18446744073709551616) (ht:mag % 2^k=t) (hmid:(if k<=64 then 2^(k-1) else 0)=m):rL mag cut (k:Int)=if t=0∧cut=false then 0 else if t<m∨64<k then 1 else if t=m∧cut=false then 2 else 3:=by
 unfold rL
 rw[if_neg (by omega),Int.toNat_natCast,ht]
 obtain⟨p,hp,hp0⟩:=pz k hk0
 have hp2:2^(k-1)=p:=by
  have:2^k=2*2^(k-1):=by rw[<- Nat.pow_succ',Nat.succ_eq_add_one,Nat.sub_add_cancel hk0]
  omega
 rw[hp]
 by_cases hk:k<=64
 ·rw[if_pos hk,hp2] at hmid
  subst hmid
  have e1:(2*t<2*p)=(t<p∨64<k):=propext ⟨fun h=>.inl (by omega),fun h=>by omega⟩
  have e2:(2*t=2*p∧cut=false)=(t=p∧cut=false):=propext ⟨fun h=>⟨by omega,h.2⟩,fun h=>⟨by omega,h.2⟩⟩
  simp only[e1,e2]
 ·have hlt:2*t<2*p:=by
   have h1:2^65<=2^k:=Nat.pow_le_pow_right (by decide) (by omega)
   have h2:(2:Nat)^65=36893488147419103232:=by decide
   have h3:=Nat.mod_le mag (2^k)
   omega
  rw[if_pos hlt,if_pos (show t<m∨64<k from .inr (by omega))]
theorem sW (ng:Bool) (mag:Nat) (exp unit:Int) (cut sd:Bool) (w:World) (k:Nat) (hk:unit-exp=(k:Int)) (hk0:0<k) (hk2:k<20000000) (hm:mag<18446744073709551616) :
  Calls prog 129 #[cv ng mag exp cut sd,.int .i64 unit] w fun e w'=>e=.returned (.tuple #[.int .u64 (mag/2^k:Nat),.int .i64 (rL mag cut (k:Int))])∧Below w.heap.size w w':=by
 have h0:IntKind.i64.wrap (unit-exp)=(k:Int):=by rw[aR];omega
 unfold cv
 obtain⟨u,hu⟩:∃ u,mag/2^k=u:=⟨_,rfl⟩
 obtain⟨t,ht⟩:∃ t,mag % 2^k=t:=⟨_,rfl⟩
 obtain⟨m,hmid⟩:∃ m:Nat,(if k<=64 then 2^(k-1) else 0)=m:=⟨_,rfl⟩
 have hd:=Nat.div_add_mod mag (2^k)
 rw[hu,ht] at hd
 have hpc:∀ n:Nat,(2:Int)^n=((2^n:Nat):Int):=fun n=>by simp
 have hbig:64<k->u=0∧mag/2^64=0:=fun h=>by
  have h1:2^64<=2^k:=Nat.pow_le_pow_right (by decide) (by omega)
  have h2:(2:Nat)^64=18446744073709551616:=by decide
  exact⟨by rw[<- hu];exact Nat.div_eq_of_lt (by omega),Nat.div_eq_of_lt (by omega)⟩
 have r1:(mag:Int)/2^min k 64=(u:Int):=by
  rw[hpc,<- Int.natCast_ediv]
  by_cases h:k<=64
  ·rw[show min k 64=k by omega,hu]
  ·obtain⟨h1,h2⟩:=hbig (by omega)
   rw[show min k 64=64 by omega,h1,h2]
 have r2:IntKind.u64.wrap ((u:Int)*2^min k 64)=(u:Int)*2^k:=by
  rw[IntKind.wrap_u64]
  by_cases h:k<=64
  ·rw[show min k 64=k by omega,hpc,<- Int.natCast_mul]
   have:u*2^k<=mag:=by rw[Nat.mul_comm];omega
   omega
  ·obtain⟨h1,_⟩:=hbig (by omega)
   rw[h1]
   simp
 have r3:IntKind.u64.wrap ((mag:Int)-(u:Int)*2^k)=(t:Int):=by
  rw[IntKind.wrap_u64,hpc,<- Int.natCast_mul,Nat.mul_comm]
  have:t<=mag:=by omega
  omega
 have r4:IntKind.i64.wrap ((k:Int)-1)=((k-1:Nat):Int):=by rw[aR];omega
 have r5:IntKind.u64.wrap ((2:Int)^min (k-1) 64)=(m:Int):=by
  rw[IntKind.wrap_u64,<- hmid]
  by_cases h:k<=64
  ·rw[if_pos h,show min (k-1) 64=k-1 by omega,hpc]
   have h1:2^(k-1)<=2^63:=Nat.pow_le_pow_right (by decide) (by omega)
   have h2:(2:Nat)^63=9223372036854775808:=by decide
   rw[h2] at h1
   generalize 2^(k-1)=p at h1 ⊢
   omega
  ·rw[if_neg h,show min (k-1) 64=64 by omega]
   decide
 have HRL:Hid (rL mag cut (k:Int)=if t=0∧cut=false then 0 else if t<m∨64<k then 1 else if t=m∧cut=false then 2 else 3):=BE hk0 hm ht hmid
 rw[hu]
 clear hd hpc hbig hmid ht hu
 have HW:Hid (IntKind.i64.wrap (unit-exp)=(k:Int)):=h0
 have g0:=heap_alloc_new w (.cells #[.bool ng,.int .u64 mag,.int .i64 exp,.bool cut,.bool sd] 104)
 have k1:=ab g0 1 rfl
 go_enter func129,ntmps129
 go_wp2
 go_region_held3 (fun W=>W.cell? ⟨w.heap.size,1,none⟩=some (.int .u64 mag))
  (first|assumption|exact k1)
  (fail)
 all_goals go_wp2
 all_goals go_ret2
 all_goals exact⟨Ab rfl (by rw[HRL.out];clear HRL;cases cut<;>simp at *<;>(repeat' split)<;>omega),by first|exact(ae _ _).drew|exact ae _ _⟩
theorem t6 (ng:Bool) (mag:Nat) (exp unit:Int) (cut sd:Bool) (w:World) (hm:mag<18446744073709551616) (hu:-5000000<=unit∧unit<=5000000) (he:-5000000<=exp∧exp<=5000000) (hs:unit-exp<=0->rU mag (unit-exp)<18446744073709551616) :
  Calls prog 129 #[cv ng mag exp cut sd,.int .i64 unit] w fun e w'=>e=.returned (.tuple #[.int .u64 (rU mag (unit-exp):Nat),.int .i64 (rL mag cut (unit-exp))])∧Below w.heap.size w w':=by
 by_cases h:unit-exp<=0
 ·have:=hs h
  unfold rU rL at *
  rw[if_pos h] at *
  rw[if_pos h]
  exact t5 ng mag exp unit cut sd w (-(unit-exp)).toNat (by omega) (by omega) this
 ·have e:unit-exp=((unit-exp).toNat:Int):=by omega
  have e1:rU mag (unit-exp)=mag/2^(unit-exp).toNat:=by unfold rU;rw[if_neg h]
  rw[e1,e]
  exact sW ng mag exp unit cut sd w (unit-exp).toNat e (by omega) (by omega) hm
theorem mB (way:Int) (hw:0<=way∧way<=3) (ng odd:Bool) (left:Int) (w:World):Calls prog (eO way) #[.bool ng,.bool odd,.int .i64 left] w fun e w'=>e=.returned (.bool (aW way ng odd left))∧w'=w:=by
 have hc:way=0∨way=1∨way=2∨way=3:=by omega
 rcases hc with rfl|rfl|rfl|rfl
 ·exact z7 ng odd left w
 ·exact z8 ng odd left w
 ·exact z9 ng odd left w
 ·exact Aa ng odd left w
theorem kP (way:Int) (cap:Array Value) (w:World):(callFunc (eO way) cap).run prog w=.ok (.enter (eO way) cap) w:=by
 unfold eO
 by_cases h0:way=0
 ·rw[if_pos h0];simp[go_sem]
 ·rw[if_neg h0]
  by_cases h1:way=1
  ·rw[if_pos h1];simp[go_sem]
  ·rw[if_neg h1]
   by_cases h2:way=2
   ·rw[if_pos h2];simp[go_sem]
   ·rw[if_neg h2];simp[go_sem]
theorem yd (F:Nat) (R:Bool->Bool->Int->Bool) (ng:Bool) (mag:Nat) (exp unit:Int) (cut sd:Bool) (u:Nat) (left:Int) (w:World) (hE:∀ (cap:Array Value) (w:World),(callFunc F cap).run prog w=.ok (.enter F cap) w)
  (hF:∀ ng odd left W,Calls prog F #[.bool ng,.bool odd,.int .i64 left] W fun e w'=>e=.returned (.bool (R ng odd left))∧w'=W) (hu:u<18446744073709551615)
  (hS:∀ W,Calls prog 129 #[cv ng mag exp cut sd,.int .i64 unit] W fun e w'=>e=.returned (.tuple #[.int .u64 (u:Nat),.int .i64 left])∧Below W.heap.size W w') :
  Calls prog 113 #[cv ng mag exp cut sd,.int .i64 unit,.agg #[.func (.func F) #[] #[]]] w fun e w'=>e=.returned (.tuple #[.int .u64 (u+(if R ng (decide (u % 2=1)) left then 1 else 0):Nat),.bool (decide (left≠0))])∧Below w.heap.size w w':=by
 unfold cv at *
 have hb2:=ax w (.cells #[.bool ng,.int .u64 mag,.int .i64 exp,.bool cut,.bool sd] 104) (.cells #[.func (.func F) #[] #[]] 124)
 have q0:=bv w (.cells #[.bool ng,.int .u64 mag,.int .i64 exp,.bool cut,.bool sd] 104) (.cells #[.func (.func F) #[] #[]] 124)
 have q1:=bh w (.cells #[.bool ng,.int .u64 mag,.int .i64 exp,.bool cut,.bool sd] 104) (.cells #[.func (.func F) #[] #[]] 124)
 obtain⟨odd,ho⟩:∃ odd,decide (u % 2=1)=odd:=⟨_,rfl⟩
 have hodd:(bits BinOp.and IntKind.u64 (u:Int) 1 == 1)=odd:=by
  rw[and_one_u64 _ (by omega) (by omega),<- ho]
  by_cases h:u % 2=1
  ·rw[decide_eq_true h];simp;omega
  ·rw[decide_eq_false h];simp;omega
 rw[ho]
 clear ho
 have hw1:IntKind.u64.wrap ((u:Int)+1)=((u+1:Nat):Int):=by rw[IntKind.wrap_u64];omega
 go_enter func113,ntmps113
 go_wp2_with fail
 refine(hS _).mono ?_
 rintro _ w1 ⟨rfl,hb1⟩
 have hbw:=aa hb2 hb1
 have p0:=(hb1.block _ (aGe q0).1).trans q0
 have p1:=(hb1.block _ (aGe q1).1).trans q1
 have k0:=ab p0 0 rfl
 have k1:=ab p1 0 rfl
 clear hS q0 q1 hb1 hb2
 go_wp2_with fail
 refine(hF ng odd left _).mono ?_
 rintro _ _ ⟨rfl,rfl⟩
 cases hR:R ng odd left
 ·have HR:Hid (R ng odd left=false):=hR
  by_cases hl:left=0
  ·go_wp2
   all_goals go_ret2
   all_goals exact⟨by simp_all,hbw⟩
  ·go_wp2
   all_goals go_ret2
   all_goals exact⟨by simp_all,hbw⟩
 ·have HR:Hid (R ng odd left=true):=hR
  by_cases hl:left=0
  ·go_wp2
   all_goals go_ret2
   all_goals exact⟨by simp_all,hbw⟩
  ·go_wp2
   all_goals go_ret2
   all_goals exact⟨by simp_all,hbw⟩
theorem t7 (way:Int) (hw:0<=way∧way<=3) (ng:Bool) (mag:Nat) (exp unit:Int) (cut sd:Bool) (w:World) (hm:mag<18446744073709551616) (hu:-5000000<=unit∧unit<=5000000) (he:-5000000<=exp∧exp<=5000000) (hs:rU mag (unit-exp)<18446744073709551615) :
  Calls prog 113 #[cv ng mag exp cut sd,.int .i64 unit,eP way] w fun e w'=>e=.returned (.tuple #[.int .u64 (rU mag (unit-exp)+(if aW way ng (decide (rU mag (unit-exp) % 2=1)) (rL mag cut (unit-exp)) then 1 else 0):Nat),.bool (decide (rL mag cut (unit-exp)≠0))])∧Below w.heap.size w w' :=
 yd (eO way) (aW way) ng mag exp unit cut sd _ _ w (kP way) (mB way hw) hs (fun W=>t6 ng mag exp unit cut sd W hm hu he (fun _=>by omega))
end Go.Proofs.YtkkpppgfoilgmaaGreatDoor
