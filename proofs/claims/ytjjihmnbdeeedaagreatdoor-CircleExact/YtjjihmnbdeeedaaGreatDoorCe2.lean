/- Parts of the proof. -/
import Derived.Test.YtjjihmnbdeeedaaGreatDoorCe1
import Derived.Test.YtjjihmnbdeeedaaGreatDoorProg
import Derived.WalkKit
import Derived.OwnWalk
import Derived.Below
import Derived.Laws.OwnMore
import Derived.Laws.AppendOwnNone
import Derived.Deep.QuietTactic
import Derived.BigQuiet
import Derived.Tactics
import Derived.Tactics2
import Derived.Defers
import Derived.Recover
import Derived.Laws.Pointers
import Derived.WalkLawsBesides
import Derived.WideLaws
import Derived.Deep.RegionHeld3
import Derived.WalkSmall
import Derived.RowKit3
import Derived.Lib.Strings
import Derived.Lib.Slices
import Derived.Lib.Small
import Derived.Lib.Walk
import Derived.Lib.BitFns
import Derived.Lib.TrailingZeros
import Derived.Laws.Bits64b
set_option linter.unusedVariables false
set_option linter.unusedSimpArgs false
namespace Go.Proofs.YtjjihmnbdeeedaaGreatDoor.M
open Go Ieee
def rU (mag:Nat) (sh:Int):Nat:=if sh<=0 then mag*2^(-sh).toNat else mag/2^sh.toNat
def rL (mag:Nat) (cut:Bool) (sh:Int):Int :=
  if sh<=0 then 0 else if mag % 2^sh.toNat=0∧cut=false then 0 else if 2*(mag % 2^sh.toNat)<2^sh.toNat then 1 else if 2*(mag % 2^sh.toNat)=2^sh.toNat∧cut=false then 2 else 3
def rE (size low:Int) (mag:Nat) (exp:Int):Int:=max (exp+(Lib.bitLen mag:Int)-size) low
def rUp (way:Int) (neg odd:Bool) (left:Int):Bool :=
  if way=0 then decide (left=3) || (decide (left=2) && odd) else if way=1 then decide (left≠0) && neg else if way=2 then decide (left≠0) && !neg else false
def Held (A:Int) (mag:Nat) (exp:Int) (cut:Bool):Prop:=(mag:Int)*pw exp<=A∧A<((mag:Int)+1)*pw exp∧(cut=false ↔ A=(mag:Int)*pw exp)
structure Left (A:Int) (u:Nat) (q:Int) (left:Int):Prop where
  lo:(u:Int)*q<=A
  hi:A<(u:Int)*q+q
  l0:left=0 ↔ A=(u:Int)*q
  l1:left=1 ↔ (u:Int)*q<A∧2*A<2*((u:Int)*q)+q
  l2:left=2 ↔ 2*A=2*((u:Int)*q)+q
  l3:left=3 ↔ 2*((u:Int)*q)+q<2*A
theorem Left.mk' {A U q left:Int} {u:Nat} (hU:(u:Int)*q=U) (lo:U<=A) (hi:A<U+q) (l0:left=0 ↔ A=U) (l1:left=1 ↔ U<A∧2*A<2*U+q) (l2:left=2 ↔ 2*A=2*U+q) (l3:left=3 ↔ 2*U+q<2*A):Left A u q left:=by
  subst hU
  exact ⟨lo,hi,l0,l1,l2,l3⟩
theorem two_half (n:Nat) (h:0<n):∃ k,2^n=2*k∧0<k:=⟨2^(n-1),by rw [<- Nat.pow_succ',Nat.succ_eq_add_one,Nat.sub_add_cancel h],Nat.two_pow_pos _⟩
theorem left_of {A:Int} {mag:Nat} {exp e:Int} {cut:Bool} (h:Held A mag exp cut) (hc:cut=true->0<e-exp) (h0:-4194304<=e) (h1:-4194304<=exp):Left A (rU mag (e-exp)) (pw e) (rL mag cut (e-exp)):=by
  obtain ⟨a1,a2,a3⟩:=h
  have hq:=pw_pos exp
  have hqe:=pw_pos e
  by_cases hs:e-exp<=0
  . have hcf:cut=false:=by cases cut; rfl; have:=hc rfl; omega
    have hA:=a3.1 hcf
    unfold rU rL
    rw [if_pos hs,if_pos hs]
    have e1:((mag*2^(-(e-exp)).toNat:Nat):Int)*pw e=A:=by
      rw [hA,pw_sub (e:=exp) (low:=e) h0 (by omega),show (exp-e).toNat=(-(e-exp)).toNat by omega]
      push_cast
      rw [Int.mul_assoc]
    exact ⟨by rw [e1]; omega,by rw [e1]; omega,by rw [e1]; simp,by rw [e1]; constructor <;> intro h <;> omega,by rw [e1]; constructor <;> intro h <;> omega,by rw [e1]; constructor <;> intro h <;> omega⟩
  . have hp:pw e=2^(e-exp).toNat*pw exp:=pw_sub h1 (by omega)
    obtain ⟨s,hsn⟩:∃ s,(e-exp).toNat=s:=⟨_,rfl⟩
    have hs0:0<s:=by omega
    unfold rU rL
    rw [if_neg hs,if_neg hs,hsn]
    rw [hsn] at hp
    obtain ⟨k,hk,hk0⟩:=two_half s hs0
    have hpn:(2:Int)^s=((2^s:Nat):Int):=by simp
    rw [hpn,hk] at hp
    rw [hk]
    have hdm:=Nat.div_add_mod mag (2*k)
    have hml:=Nat.mod_lt mag (show 0<2*k by omega)
    generalize mag/(2*k)=u at *
    generalize mag % (2*k)=t at *
    generalize hQ:pw exp=q at *
    have e1:(mag:Int)*q=(u:Int)*(((2*k:Nat):Int)*q)+(t:Int)*q:=by
      rw [<- hdm]; push_cast; rw [Int.add_mul]; congr 1; rw [Int.mul_comm (2*(k:Int)) u,Int.mul_assoc]
    have e2:((mag:Int)+1)*q=(mag:Int)*q+q:=by rw [Int.add_mul,Int.one_mul]
    rw [e2,e1] at a2
    rw [e1] at a1 a3
    rw [hp]
    have e3:((2*k:Nat):Int)*q=2*((k:Int)*q):=by push_cast; rw [Int.mul_assoc]
    have t1:∀ x y:Nat,x<=y->(x:Int)*q<=(y:Int)*q:=fun x y h=>Int.mul_le_mul_of_nonneg_right (by omega) (by omega)
    have t2:∀ x y:Nat,x<y->(x:Int)*q+q<=(y:Int)*q:=fun x y h=>by
      have:=t1 (x+1) y h
      push_cast at this
      rwa [Int.add_mul,Int.one_mul] at this
    have t0:0<=(t:Int)*q:=Int.mul_nonneg (by omega) (by omega)
    have b1:(t:Int)*q+q<=2*((k:Int)*q):=by rw [<- e3]; exact t2 t (2*k) hml
    rw [e3] at a1 a2 a3 ⊢
    have c1:t<k->(t:Int)*q+q<=(k:Int)*q:=t2 t k
    have c2:t=k->(t:Int)*q=(k:Int)*q:=fun h=>by rw [h]
    have c3:k<t->(k:Int)*q+q<=(t:Int)*q:=t2 k t
    have c4:t=0->(t:Int)*q=0:=fun h=>by rw [h]; simp
    have c5:0<t->q<=(t:Int)*q:=fun h=>by have:=t1 1 t h; rwa [Int.natCast_one,Int.one_mul] at this
    clear e1 e2 e3 t1 t2 hp
    obtain ⟨T,hT⟩:∃ T,(t:Int)*q=T:=⟨_,rfl⟩
    obtain ⟨K,hK⟩:∃ K,(k:Int)*q=K:=⟨_,rfl⟩
    obtain ⟨U,hU⟩:∃ U,(u:Int)*(2*K)=U:=⟨_,rfl⟩
    rw [hT] at c1 c2 c3 c4 c5 t0 b1 a1 a2 a3
    rw [hK] at c1 c2 c3 b1 a1 a2 a3 ⊢
    rw [hU] at a1 a2 a3
    have a3':cut=true->A≠U+T:=fun h h2=>by rw [a3.2 h2] at h; cases h
    cases cut
    . have hA:=a3.1 rfl
      subst hA
      by_cases z0:t=0
      . have:=c4 z0
        rw [if_pos ⟨z0,rfl⟩]
        exact Left.mk' hU (by omega) (by omega) (by constructor <;> intro h <;> omega) (by constructor <;> intro h <;> omega) (by constructor <;> intro h <;> omega) (by constructor <;> intro h <;> omega)
      . have:=c5 (by omega)
        rw [if_neg (fun h=>z0 h.1)]
        by_cases z1:t<k
        . have:=c1 z1
          rw [if_pos (by omega)]
          exact Left.mk' hU (by omega) (by omega) (by constructor <;> intro h <;> omega) (by constructor <;> intro h <;> omega) (by constructor <;> intro h <;> omega) (by constructor <;> intro h <;> omega)
        . rw [if_neg (by omega)]
          by_cases z2:t=k
          . have:=c2 z2
            rw [if_pos ⟨by omega,rfl⟩]
            exact Left.mk' hU (by omega) (by omega) (by constructor <;> intro h <;> omega) (by constructor <;> intro h <;> omega) (by constructor <;> intro h <;> omega) (by constructor <;> intro h <;> omega)
          . have:=c3 (by omega)
            rw [if_neg (fun h=>z2 (by omega))]
            exact Left.mk' hU (by omega) (by omega) (by constructor <;> intro h <;> omega) (by constructor <;> intro h <;> omega) (by constructor <;> intro h <;> omega) (by constructor <;> intro h <;> omega)
    . have hA:=a3' rfl
      rw [if_neg (fun h=>by cases h.2)]
      by_cases z1:t<k
      . have:=c1 z1
        rw [if_pos (by omega)]
        exact Left.mk' hU (by omega) (by omega) (by constructor <;> intro h <;> omega) (by constructor <;> intro h <;> omega) (by constructor <;> intro h <;> omega) (by constructor <;> intro h <;> omega)
      . rw [if_neg (by omega),if_neg (fun h=>by cases h.2)]
        have hkt:K<=T:=by
          by_cases z2:t=k
          . have:=c2 z2; omega
          . have:=c3 (by omega); omega
        exact Left.mk' hU (by omega) (by omega) (by constructor <;> intro h <;> omega) (by constructor <;> intro h <;> omega) (by constructor <;> intro h <;> omega) (by constructor <;> intro h <;> omega)
theorem rU_bits {size low:Int} {mag:Nat} {exp:Int} (hs:0<size) (h:mag<2^64) (h0:mag≠0):rU mag (rE size low mag exp-exp)<2^size.toNat∧(low<rE size low mag exp->2^(size.toNat-1)<=rU mag (rE size low mag exp-exp)):=by
  obtain ⟨b1,b2,b3,b4⟩:=bitLen_spec mag h h0
  obtain ⟨n,hn⟩:∃ n,Lib.bitLen mag=n:=⟨_,rfl⟩
  obtain ⟨z,rfl⟩:∃ z:Nat,size=z:=⟨size.toNat,by omega⟩
  unfold rE rU
  rw [hn] at b1 b2 b3 b4 ⊢
  rw [Int.toNat_natCast]
  obtain ⟨e,he⟩:∃ e,max (exp+(n:Int)-(z:Int)) low=e:=⟨_,rfl⟩
  have he1:exp+n-z<=e:=by omega
  have he2:low<e->e=exp+n-z:=by omega
  rw [he]
  by_cases hse:e-exp<=0
  . rw [if_pos hse]
    obtain ⟨k,hk⟩:∃ k,(-(e-exp)).toNat=k:=⟨_,rfl⟩
    rw [hk]
    refine ⟨?_,fun hl=>?_⟩
    . calc mag*2^k<2^n*2^k:=Nat.mul_lt_mul_of_pos_right b2 (Nat.two_pow_pos k)
        _=2^(n+k):=by rw [Nat.pow_add]
        _<=2^z:=Nat.pow_le_pow_right (by decide) (by omega)
    . have:=he2 hl
      calc 2^(z-1)<=2^(n-1+k):=Nat.pow_le_pow_right (by decide) (by omega)
        _=2^(n-1)*2^k:=by rw [Nat.pow_add]
        _<=mag*2^k:=Nat.mul_le_mul_right _ b1
  . rw [if_neg hse]
    obtain ⟨k,hk⟩:∃ k,(e-exp).toNat=k:=⟨_,rfl⟩
    rw [hk]
    refine ⟨?_,fun hl=>?_⟩
    . rw [Nat.div_lt_iff_lt_mul (Nat.two_pow_pos k),<- Nat.pow_add]
      exact Nat.lt_of_lt_of_le b2 (Nat.pow_le_pow_right (by decide) (by omega))
    . have:=he2 hl
      rw [Nat.le_div_iff_mul_le (Nat.two_pow_pos k),<- Nat.pow_add]
      exact Nat.le_trans (Nat.pow_le_pow_right (by decide) (by omega)) b1
theorem V_rung (f:Format) (a u:Nat) (h:u<2*f.binade) (h2:0<a->f.binade<=u):V f (a*f.binade+u)=u*2^a∧V f (a*f.binade+u+1)=(u+1)*2^a:=by
  have hB:=binade_pos f
  refine ⟨V_parts f a u (by by_cases ha:a=0 <;> omega),?_⟩
  by_cases hu:u+1<2*f.binade
  . rw [Nat.add_assoc]
    exact V_parts f a (u+1) (by by_cases ha:a=0 <;> omega)
  . have e:a*f.binade+u+1=(a+1)*f.binade+f.binade:=by rw [Nat.add_mul]; omega
    rw [e,V_parts f (a+1) f.binade (by omega),Nat.pow_succ,show u+1=f.binade*2 by omega,Nat.mul_assoc,Nat.mul_comm (2^a) 2]
theorem jzl_ge {mag:Int} (h0:0<mag) (h:mag<9223372036854775808) (k:Nat) (hk:2^k<=mag):(k:Int)+1<=(jz mag:Int)+jl mag:=by
  obtain ⟨m,ez,z63,eo⟩:=jz_spec h0 h
  have hj:=jo_le h0 h
  have sp:=bitLen_spec (jo mag).toNat (by omega) (by omega)
  have h1:(jo mag).toNat*2^jz mag<2^Lib.bitLen (jo mag).toNat*2^jz mag:=Nat.mul_lt_mul_of_pos_right sp.2.1 (Nat.two_pow_pos _)
  rw [<- Nat.pow_add] at h1
  have h2:(((jo mag).toNat*2^jz mag:Nat):Int)=mag:=by
    rw [Int.natCast_mul,Int.toNat_of_nonneg (by omega),eo,Int.mul_comm]
    simp only [Int.natCast_pow]
    exact ez.symm
  have h3:2^k<=(jo mag).toNat*2^jz mag:=by
    have:((2^k:Nat):Int)=2^k:=by simp
    omega
  have h4:2^k<2^(Lib.bitLen (jo mag).toNat+jz mag):=by omega
  have:=(Nat.pow_lt_pow_iff_right (by decide:1<2)).1 h4
  unfold jl
  omega
theorem pow2_nn (n:Nat):(0:Int)<=2^n:=Int.le_of_lt (two_pos n)
theorem join_rung (f:Format) (fr:Nat) (hfr:fr<=60) (hB:f.binade=2^fr) (top least:Int) (ht:2<=top) (u:Nat) (e:Int) (h0:0<u) (hu:u<=2^(fr+1)) (he:least<=e) (hn:least<e->2^fr<=u) :
    let rung:=(e-least).toNat*2^fr+u
    jk fr top least (u:Int) e=decide ((rung:Int)<top*2^fr)∧((rung:Int)<top*2^fr->jv fr top least (u:Int) e=rung):=by
  intro rung
  have hp60:2^(fr+1)<=2^61:=Nat.pow_le_pow_right (by decide) (by omega)
  have hu63:(u:Int)<9223372036854775808:=by
    have:(2:Nat)^61=2305843009213693952:=by decide
    omega
  have hu0:(0:Int)<(u:Int):=by omega
  have hP:0<2^fr:=Nat.two_pow_pos fr
  have hPi:((2^fr:Nat):Int)=2^fr:=by simp
  have hlo:=jl_le hu0 hu63
  have hJ:jgood fr top least (u:Int) e=decide ((rung:Int)<top*2^fr):=by
    obtain ⟨a,ha⟩:∃ a,(e-least).toNat=a:=⟨_,rfl⟩
    have hr:(rung:Int)=(a:Int)*2^fr+u:=by simp only [rung,ha]; push_cast; rfl
    rw [hr]
    by_cases hlt:u<2^(fr+1)
    . by_cases hea:(a:Int)<=top-2
      . have g:=jgood_small (fr:=(fr:Int)) (top:=top) (least:=least) (exp:=e) hu0 hu63 (by omega) (by rw [Int.toNat_natCast]; exact_mod_cast hlt) he (by omega)
        rw [g]
        have:(a:Int)*2^fr<=(top-2)*2^fr:=Int.mul_le_mul_of_nonneg_right hea (by omega)
        have e2:(top-2)*2^fr=top*2^fr-2*2^fr:=by rw [Int.sub_mul]
        have hu2:(u:Int)<2*2^fr:=by rw [Nat.pow_succ] at hlt; omega
        exact (decide_eq_true (by omega)).symm
      . have hge:=hn (by omega)
        have g2:=jzl_ge hu0 hu63 fr (by rw [<- hPi]; omega)
        have g:jgood fr top least (u:Int) e=false:=by
          unfold jgood jab jsh jsp
          simp only [Bool.and_eq_false_iff,decide_eq_false_iff_not]
          omega
        rw [g]
        have:(top-1)*2^fr<=(a:Int)*2^fr:=Int.mul_le_mul_of_nonneg_right (by omega) (by omega)
        have e2:(top-1)*2^fr=top*2^fr-2^fr:=by rw [Int.sub_mul,Int.one_mul]
        exact (decide_eq_false (by omega)).symm
    . have hue:u=2^(fr+1):=by omega
      have hpp:2^(fr+1)<2^(fr+2):=Nat.pow_lt_pow_right (by decide) (by omega)
      have g1:=jzl hu0 hu63 (fr+2) (by rw [hue]; exact_mod_cast hpp)
      have g2:=jzl_ge hu0 hu63 (fr+1) (by rw [hue]; simp)
      have hu2:(u:Int)=2*2^fr:=by rw [hue,Nat.pow_succ]; push_cast; omega
      have hjo:jl (u:Int)<=fr+1:=by
        obtain ⟨mm,ez,z63,eo⟩:=jz_spec hu0 hu63
        by_cases hz:jz (u:Int)=0
        . exfalso
          rw [hz] at ez
          rw [hu2] at ez
          simp at ez
          omega
        . omega
      by_cases hea:(a:Int)<=top-3
      . have g:jgood fr top least (u:Int) e=true:=by
          unfold jgood jab jsh jsp
          simp only [Bool.and_eq_true,decide_eq_true_eq]
          omega
        rw [g]
        have:(a:Int)*2^fr<=(top-3)*2^fr:=Int.mul_le_mul_of_nonneg_right hea (by omega)
        have e2:(top-3)*2^fr=top*2^fr-3*2^fr:=by rw [Int.sub_mul]
        exact (decide_eq_true (by omega)).symm
      . have g:jgood fr top least (u:Int) e=false:=by
          unfold jgood jab jsh jsp
          simp only [Bool.and_eq_false_iff,decide_eq_false_iff_not]
          omega
        rw [g]
        have:(top-2)*2^fr<=(a:Int)*2^fr:=Int.mul_le_mul_of_nonneg_right (by omega) (by omega)
        have e2:(top-2)*2^fr=top*2^fr-2*2^fr:=by rw [Int.sub_mul]
        exact (decide_eq_false (by omega)).symm
  refine ⟨?_,fun hlt=>?_⟩
  . unfold jk
    rw [if_neg (by omega),if_neg (by omega)]
    exact hJ
  . have hg:jgood fr top least (u:Int) e=true:=by rw [hJ]; exact decide_eq_true hlt
    have hv:=V_join f fr hB top least (u:Int) e hu0 hu63 hg he
    rw [Int.toNat_natCast] at hv
    have hj0:0<=jv fr top least (u:Int) e:=by
      unfold jv
      rw [if_neg (by omega),if_pos hg]
      have h1:=jo_le hu0 hu63
      have h2:0<=jab fr least (u:Int) e:=by unfold jab jsh; unfold jgood at hg; simp only [Bool.and_eq_true,decide_eq_true_eq] at hg; omega
      have h3:(0:Int)<=2^(fr:Int).toNat:=pow2_nn _
      have h4:(0:Int)<=2^(jsh fr least (u:Int) e).toNat:=pow2_nn _
      have:=Int.mul_nonneg h2 h3
      have:=Int.mul_nonneg (show 0<=jo (u:Int) by omega) h4
      omega
    have hV:V f rung=u*2^(e-least).toNat:=by
      show V f ((e-least).toNat*2^fr+u)=_
      rw [<- hB]
      by_cases hlt2:u<2^(fr+1)
      . exact (V_rung f (e-least).toNat u (by rw [hB]; rw [Nat.pow_succ] at hlt2; omega) (fun h=>by rw [hB]; exact hn (by omega))).1
      . have hue:u=2*f.binade-1+1:=by rw [hB]; rw [Nat.pow_succ] at hu hlt2; omega
        have hb:=binade_pos f
        have:=(V_rung f (e-least).toNat (2*f.binade-1) (by omega) (fun h=>by omega)).2
        rw [<- hue,Nat.add_assoc,<- hue] at this
        exact this
    have:=V_inj f (hv.trans hV.symm)
    omega
end Go.Proofs.YtjjihmnbdeeedaaGreatDoor.M
namespace Go.Proofs.YtjjihmnbdeeedaaGreatDoor
open Go Go.RowKit Go.Proofs.YtjjihmnbdeeedaaGreatDoor.M
structure Row (w:World) (ao:Option Addr) (n cap:Nat) (d:Nat->Int):Prop where
  le:n<=cap
  max:cap<=9223372036854775807
  nl:ao=none->cap=0
  spot:0<n->∃ b off,ao=some ⟨b,off,none⟩∧b<w.heap.size∧∀ i,i<n->w.cell? ⟨b,off+i,none⟩=some (.int .i64 (d i))
def Blk (w:World) (g N:Nat) (r:Nat->Int):Prop :=
  ∃ cur,w.heap[g]?=some (.cells cur 3 (0,0))∧cur.size=N∧∀ i,i<N->cur[i]?=some (.int .i64 (r i))
def vals (d:Nat->Int) (n:Nat):List Value:=(List.range n).map fun i=>.int .i64 (d i)
theorem vals_length (d:Nat->Int) (n:Nat):(vals d n).length=n:=by simp [vals]
theorem vals_get (d:Nat->Int) {n i:Nat} (h:i<n):(vals d n)[i]?=some (.int .i64 (d i)):=by simp [vals,h]
theorem vals_one (d:Nat->Int) (n:Nat):∀ u ∈ vals d n,u.oneCell'=true:=by
  intro u hu
  obtain ⟨_,_,rfl⟩:=List.mem_map.1 hu
  rfl
theorem vals_ext {xs:List Value} {d:Nat->Int} {n:Nat} (hl:xs.length=n) (h:∀ i,i<n->xs[i]?=some (.int .i64 (d i))):xs=vals d n:=by
  apply List.ext_getElem?
  intro i
  by_cases hi:i<n
  . rw [h i hi,vals_get d hi]
  . rw [List.getElem?_eq_none (by omega),List.getElem?_eq_none (by rw [vals_length]; omega)]
def Out (B:Nat) (w:World) (v:Value) (n:Nat) (d:Nat->Int):Prop:=w.ownsRow B 3 1 v n (vals d n)
theorem Row.stays {w w':World} {ao:Option Addr} {n cap:Nat} {d:Nat->Int} (h:Row w ao n cap d) {B:Nat} (hb:Below B w w') (hB:w.heap.size<=B):Row w' ao n cap d :=
  ⟨h.le,h.max,h.nl,fun hn=>by
    obtain ⟨b,off,rfl,hlt,hc⟩:=h.spot hn
    exact ⟨b,off,rfl,Nat.lt_of_lt_of_le hlt hb.size,fun i hi=>(hb.cell (p:=⟨b,off+i,none⟩) (Nat.lt_of_lt_of_le hlt hB)).trans (hc i hi)⟩⟩
theorem Row.keeps {w w':World} {ao:Option Addr} {n cap:Nat} {d:Nat->Int} (h:Row w ao n cap d) (hb:Below w.heap.size w w'):Row w' ao n cap d:=h.stays hb (Nat.le_refl _)
theorem Row.congr {w:World} {ao:Option Addr} {n cap:Nat} {d e:Nat->Int} (h:Row w ao n cap d) (he:∀ i,i<n->d i=e i):Row w ao n cap e :=
  ⟨h.le,h.max,h.nl,fun hn=>by
    obtain ⟨b,off,rfl,hlt,hc⟩:=h.spot hn
    exact ⟨b,off,rfl,hlt,fun i hi=>by rw [<- he i hi]; exact hc i hi⟩⟩
theorem Row.nil (w:World) (d:Nat->Int):Row w none 0 0 d:=⟨Nat.le_refl _,by decide,fun _=>rfl,fun h=>by omega⟩
theorem Row.alloc {w:World} {ao:Option Addr} {n cap:Nat} {d:Nat->Int} (h:Row w ao n cap d) (o:Obj):Row (w.alloc o) ao n cap d:=h.keeps ((Below.refl _ _).alloc (Nat.le_refl _) _)
theorem Blk.cell {w:World} {g N:Nat} {r:Nat->Int} (h:Blk w g N r) {i:Nat} (hi:i<N):w.cell? ⟨g,i,none⟩=some (.int .i64 (r i)):=by
  obtain ⟨cur,hg,hs,hc⟩:=h
  rw [cell_of_row w g i cur _ _ hg]; exact hc i hi
theorem Blk.frozen {w:World} {g N:Nat} {r:Nat->Int} (h:Blk w g N r) (i:Nat):w.frozen? ⟨g,i,none⟩=false:=by
  obtain ⟨cur,hg,hs,hc⟩:=h
  exact frozen_of_row w g i cur _ hg
theorem Blk.lt {w:World} {g N:Nat} {r:Nat->Int} (h:Blk w g N r):g<w.heap.size:=by
  obtain ⟨cur,hg,hs,hc⟩:=h
  exact (Array.getElem?_eq_some_iff.1 hg).1
theorem Blk.store {w:World} {g N:Nat} {r:Nat->Int} (h:Blk w g N r) (i:Nat) (x:Int):Blk (w.setCell ⟨g,i,none⟩ (.int .i64 x)) g N (upd r i x):=by
  obtain ⟨cur,hg,hs,hc⟩:=h
  refine ⟨cur.setIfInBounds i (.int .i64 x),heap_setCell_same w g i cur _ _ hg,by simpa using hs,fun j hj=>?_⟩
  by_cases hji:j=i
  . subst hji; rw [upd_same,Array.getElem?_setIfInBounds_self_of_lt (by omega)]
  . rw [upd_other r x hji,Array.getElem?_setIfInBounds_ne (by omega)]; exact hc j hj
theorem Blk.of_block {w w':World} {g N:Nat} {r:Nat->Int} (h:Blk w g N r) (hb:w'.heap[g]?=w.heap[g]?):Blk w' g N r:=by
  obtain ⟨cur,hg,hs,hc⟩:=h
  exact ⟨cur,hb.trans hg,hs,hc⟩
theorem Blk.stays {w w':World} {g N:Nat} {r:Nat->Int} (h:Blk w g N r) {B:Nat} (hb:Below B w w') (hB:g<B):Blk w' g N r:=h.of_block (hb.block g hB)
theorem Blk.keeps {w w':World} {g N:Nat} {r:Nat->Int} (h:Blk w g N r) (hb:Below w.heap.size w w'):Blk w' g N r:=h.stays hb h.lt
theorem Blk.apart {w:World} {g N:Nat} {r:Nat->Int} (h:Blk w g N r) {a:Addr} (ha:g≠a.block) (u:Value):Blk (w.setCell a u) g N r:=h.of_block (heap_setCell_other w a g u ha)
theorem Blk.alloc {w:World} {g N:Nat} {r:Nat->Int} (h:Blk w g N r) (o:Obj):Blk (w.alloc o) g N r:=h.of_block (Below.heap_alloc w o g h.lt)
theorem Blk.congr {w:World} {g N:Nat} {r s:Nat->Int} (h:Blk w g N r) (he:∀ i,i<N->r i=s i):Blk w g N s:=by
  obtain ⟨cur,hg,hs,hc⟩:=h
  exact ⟨cur,hg,hs,fun i hi=>by rw [hc i hi,he i hi]⟩
theorem Blk.row {w:World} {g N:Nat} {r:Nat->Int} (h:Blk w g N r) {off n cap:Nat} (hn:off+n<=N) (hc:n<=cap) (hm:cap<=9223372036854775807):Row w (some ⟨g,off,none⟩) n cap (fun i=>r (off+i)) :=
  ⟨hc,hm,(fun e=>by cases e),fun _=>⟨g,off,rfl,h.lt,fun i hi=>h.cell (by omega)⟩⟩
theorem Blk.row0 {w:World} {g N:Nat} {r:Nat->Int} (h:Blk w g N r) {n:Nat} (hn:n<=N) (hm:N<=9223372036854775807):Row w (some ⟨g,0,none⟩) n N r :=
  ⟨hn,hm,(fun e=>by cases e),fun _=>⟨g,0,rfl,h.lt,fun i hi=>by rw [Nat.zero_add]; exact h.cell (by omega)⟩⟩
theorem Blk.out {w:World} {g N:Nat} {r:Nat->Int} (h:Blk w g N r) {B n:Nat} (hB:B<=g) (hn:n<=N) (hm:N<=9223372036854775807):Out B w (.slice (some ⟨g,0,none⟩) n N) n r:=by
  obtain ⟨cur,hg,hs,hc⟩:=h
  refine ⟨by rw [vals_length]; omega,.inr ⟨g,N,cur,rfl,hB,hg,hn,by unfold maxLen; omega,by omega,?_⟩⟩
  apply vals_ext (by simp; omega)
  intro i hi
  rw [List.getElem?_take,if_pos (by omega),Array.getElem?_toList]
  exact hc i (by omega)
theorem Blk.made {w:World} {B g N:Nat} (h:w.ownsRow B 3 1 (.slice (some ⟨g,0,none⟩) N N) N (madeCells (Value.int .i64 0).cells (N*1)).toList):Blk w g N (fun _=>0):=by
  rcases h.2 with ⟨h',_⟩ | ⟨g',cap',cur,h',_,hg,_,_,hs,htake⟩
  . simp at h'
  . simp only [Value.slice.injEq,Option.some.injEq,Addr.mk.injEq,and_true,true_and] at h'
    obtain ⟨rfl,rfl⟩:=h'
    refine ⟨cur,hg,by omega,fun i hi=>?_⟩
    have e:cur.toList[i]?=(madeCells (Value.int .i64 0).cells (N*1)).toList[i]?:=by
      rw [<- htake,List.getElem?_take,if_pos (by omega)]
    rw [Array.getElem?_toList] at e
    rw [e]
    show (madeCells #[Value.int .i64 0] (N*1)).toList[i]?=_
    rw [Nat.mul_one,toList_madeCells_one]
    simp [hi]
theorem Blk.new (w:World) (xs:Array Value) (r:Nat->Int) (h:∀ i,i<xs.size->xs[i]?=some (.int .i64 (r i))):Blk (w.alloc (.cells xs 3)) w.heap.size xs.size r :=
  ⟨xs,heap_alloc_new w _,rfl,h⟩
theorem Out.row {B:Nat} {w:World} {v:Value} {n:Nat} {d:Nat->Int} (h:Out B w v n d):∃ ao cap,v=.slice ao n cap∧Row w ao n cap d:=by
  rcases h.2 with ⟨rfl,rfl⟩ | ⟨g,cap,cur,rfl,hb,hg,hn,hm,hs,ht⟩
  . exact ⟨none,0,rfl,Row.nil _ _⟩
  . refine ⟨_,cap,rfl,hn,by unfold maxLen at hm; exact hm,(fun e=>by cases e),fun _=>⟨g,0,rfl,(Array.getElem?_eq_some_iff.1 hg).1,fun i hi=>?_⟩⟩
    rw [Nat.zero_add,cell_of_row w g i cur _ _ hg]
    have e:(cur.toList.take (n*1))[i]?=(vals d n)[i]?:=by rw [ht]
    rw [List.getElem?_take,if_pos (by omega),vals_get d hi,Array.getElem?_toList] at e
    exact e
theorem Out.nil (B:Nat) (w:World) (d:Nat->Int):Out B w (.slice none 0 0) 0 d:=World.ownsRow_nil _ _ _ _
theorem Out.stays {B:Nat} {w w':World} {v:Value} {n:Nat} {d:Nat->Int} (h:Out B w v n d) (hb:Below w.heap.size w w'):Out B w' v n d:=by
  refine ⟨h.1,?_⟩
  rcases h.2 with hn | ⟨g,cap,cur,rfl,hbb,hg,rest⟩
  . exact .inl hn
  . exact .inr ⟨g,cap,cur,rfl,hbb,(hb.block g (Array.getElem?_eq_some_iff.1 hg).1).trans hg,rest⟩
theorem Out.lower {B B':Nat} {w:World} {v:Value} {n:Nat} {d:Nat->Int} (h:Out B w v n d) (hB:B'<=B):Out B' w v n d:=by
  refine ⟨h.1,?_⟩
  rcases h.2 with hn | ⟨g,cap,cur,rfl,hbb,rest⟩
  . exact .inl hn
  . exact .inr ⟨g,cap,cur,rfl,by omega,rest⟩
theorem Out.congr {B:Nat} {w:World} {v:Value} {n:Nat} {d e:Nat->Int} (h:Out B w v n d) (he:∀ i,i<n->d i=e i):Out B w v n e:=by
  unfold Out at h ⊢
  rwa [show vals e n=vals d n from (vals_ext (vals_length d n) fun i hi=>by rw [vals_get d hi,he i hi]).symm]
theorem bel_trans {a b c:World} (h:Below a.heap.size a b) (k:Below b.heap.size b c):Below a.heap.size a c:=h.trans (k.mono h.size)
theorem bel_refl (w:World):Below w.heap.size w w:=Below.refl _ _
theorem bDrewN {B:Nat} {a w:World} (h:Below B a w) (n:Nat):Below B a (w.drewN n):=⟨h.os,h.tape,h.output,h.size,h.block⟩
def cutV (ao:Option Addr) (t cap:Nat):Value:=if t=0 then .slice none 0 0 else .slice ao t cap
theorem Blk.cut {w:World} {g N:Nat} {r:Nat->Int} (h:Blk w g N r) {B t:Nat} (hB:B<=g) (ht:t<=N) (hm:N<=9223372036854775807):Out B w (cutV (some ⟨g,0,none⟩) t N) t r:=by
  unfold cutV
  split
  . rename_i h0; subst h0; exact Out.nil _ _ _
  . exact h.out hB ht hm
def Ans (w w':World) (V:Int) (v:Value):Prop:=∃ t d,Out w.heap.size w' v t d∧Nrm d t∧val d t=V∧Below w.heap.size w w'
theorem Ans.below {w w':World} {V:Int} {v:Value} (h:Ans w w' V v):Below w.heap.size w w':=h.choose_spec.choose_spec.2.2.2
theorem Ans.from {w0 w w':World} {V:Int} {v:Value} (h:Ans w w' V v) (hb:Below w0.heap.size w0 w):Ans w0 w' V v:=by
  obtain ⟨t,d,h1,h2,h3,h4⟩:=h
  exact ⟨t,d,h1.lower hb.size,h2,h3,bel_trans hb h4⟩
theorem Ans.stays {w w1 w2:World} {V:Int} {v:Value} (h:Ans w w1 V v) (hb:Below w1.heap.size w1 w2):Ans w w2 V v:=by
  obtain ⟨t,d,h1,h2,h3,h4⟩:=h
  exact ⟨t,d,h1.stays hb,h2,h3,bel_trans h4 hb⟩
theorem Ans.nil {w w':World} (hb:Below w.heap.size w w'):Ans w w' 0 (.slice none 0 0):=⟨0,fun _=>0,Out.nil _ _ _,⟨fun i hi=>by omega,.inl rfl⟩,rfl,hb⟩
def Fit (w w':World) (V:Int) (v:Value) (er:Int):Prop:=Below w.heap.size w w'∧((V<P 2000∧er=0∧Ans w w' V v)∨(P 2000<=V∧er=2∧v=.slice none 0 0))
theorem info_int:(Tryz.prog.info? 3).map (fun i=>(i.zero,i.size,i.bytes))=some (some (.int .i64 0),1,8):=by kernel_rfl
theorem grown_below {w w':World} (h:w.grownBy w' none):Below w.heap.size w w':=⟨h.os,h.tape,h.output,h.size,fun k hk=>h.block k hk (by simp)⟩
theorem wpList_mk {w:World} {ops:Array Oper} {rest:List Oper} {o:Oper} {a:Act} {Q:Exit->Act->World->Prop} (hg:o.guard=none) (l c:Operand) (hop:o.op=Op.makeSlice 38 l c)
    (L C:Int) (n:Nat) (hl:a.eval l=.int .i64 L) (hc:a.eval c=.int .i64 C) (hL:L=(n:Int)) (hC:C=(n:Int)) (hn:n<=1000000)
    (hK:∀ w',Blk w' w.heap.size n (fun _=>0)->Below w.heap.size w w'->wpList Tryz.prog ops Q rest (a.put o.dst (.slice (some ⟨w.heap.size,0,none⟩) n n)) w') :
    wpList Tryz.prog ops Q (o :: rest) a w:=by
  obtain ⟨i0,hi,hz0,hz1,hz2⟩:=info_parts info_int
  exact wpList_make_full w hg l c 38 hop w.heap.size 3 i0 (.int .i64 0) 1 Tryz.underlying38 hi hz0 hz1 .i64 .i64 L C n hl hc hL hC (by rw [hz2]; omega) (by unfold maxLen; omega) (Nat.le_refl _)
    fun w' h1 h2=>hK w' (Blk.made h1) (grown_below h2)
theorem row1 (w:World) (x:Int) {g:Nat} (hg:g=w.heap.size):Row (w.alloc (.cells #[.int .i64 x] 3)) (some ⟨g,0,none⟩) 1 1 (fun _=>x):=by
  subst hg
  exact (Blk.new w #[.int .i64 x] (fun _=>x) (fun i hi=>by simp at hi; subst hi; rfl)).row0 (Nat.le_refl _) (show 1<=9223372036854775807 by decide)
def d2 (x y:Int):Nat->Int:=fun i=>if i=0 then x else y
def cat (d:Nat->Int) (n:Nat) (e:Nat->Int):Nat->Int:=fun i=>if i<n then d i else e (i-n)
theorem vals_cat (d e:Nat->Int) (n m:Nat):vals d n ++ vals e m=vals (cat d n e) (n+m):=by
  apply vals_ext (by simp [vals_length])
  intro i hi
  by_cases h:i<n
  . rw [List.getElem?_append_left (by rw [vals_length]; exact h),vals_get d h]; simp [cat,h]
  . rw [List.getElem?_append_right (by rw [vals_length]; omega),vals_length,vals_get e (by omega)]; simp [cat,h]
theorem add_none (b off n:Nat):(⟨b,off,none⟩:Addr).add n=⟨b,off+n,none⟩:=by
  unfold Addr.add; split <;> simp_all
theorem wpList_app {w:World} {ops:Array Oper} {rest:List Oper} {o:Oper} {a:Act} {Q:Exit->Act->World->Prop} (hgd:o.guard=none) (s x:Operand)
    (ho:o.op=.call { callee:=.builtin .append,args:=#[s,x],argTypes:=#[38,38] }) (B:Nat) (v:Value) (n:Nat) (d:Nat->Int) (hs:a.eval s=v) (hO:Out B w v n d)
    (bo:Option Addr) (m cb:Nat) (e:Nat->Int) (hx:a.eval x=.slice bo m cb) (hR:Row w bo m cb e) (hlen:n+m<=1000000) (hB:B<=w.heap.size)
    (h:∀ v' w',Out B w' v' (n+m) (cat d n e)->w.grownBy w' v.ownBlock->wpList Tryz.prog ops Q rest (a.put o.dst v') w'):wpList Tryz.prog ops Q (o :: rest) a w:=by
  obtain ⟨i0,hi,hz0,hz1,hz2⟩:=info_parts info_int
  cases bo with
  | none=>
    have hc:=hR.nl rfl
    have hl:=hR.le
    subst hc
    obtain rfl:m=0:=by omega
    refine wpList_append_own_none hgd s x 38 ho B 3 i0 1 Tryz.underlying38 hi v n (vals d n) hs hO hx ?_
    refine h v w ?_ ⟨rfl,rfl,rfl,Nat.le_refl _,fun _ _ _=>rfl⟩
    exact Out.congr hO fun i hi=>by simp [cat]; omega
  | some ad=>
    refine wpList_append_own w hgd s x 38 ho B 3 i0 (.int .i64 0) 1 8 Tryz.underlying38 hi hz0 hz1 hz2 rfl (by decide) v n (vals d n) hs hO ad m cb (vals e m) hx (by rw [vals_length]; omega) ?_ (vals_one e m) (by unfold maxLen; omega) (by omega) hB ?_
    . intro j u hu
      have hj:j<m:=by have:=(List.getElem?_eq_some_iff.1 hu).1; rwa [vals_length] at this
      obtain ⟨b,off,hb,_,hc⟩:=hR.spot (by omega)
      obtain rfl:=Option.some.inj hb
      rw [vals_get e hj] at hu
      rw [add_none,hc j hj]; exact hu
    . intro v' w' h1 h2 _
      rw [vals_cat] at h1
      exact h v' w' h1 h2
theorem own_ge {B:Nat} {w:World} {v:Value} {n:Nat} {d:Nat->Int} (h:Out B w v n d):∀ k,v.ownBlock=some k->B<=k:=fun k hk=>(World.ownsRow.lt h k hk).1
def Num (w:World) (v:Value) (V:Int):Prop:=∃ ao n cap d,v=.slice ao n cap∧Row w ao n cap d∧Nrm d n∧val d n=V
theorem Ans.num {w w':World} {V:Int} {v:Value} (h:Ans w w' V v):Num w' v V:=by
  obtain ⟨t,d,h1,h2,h3,h4⟩:=h
  obtain ⟨ao,cap,rfl,hR⟩:=h1.row
  exact ⟨ao,t,cap,d,rfl,hR,h2,h3⟩
theorem Num.keeps {w w':World} {v:Value} {V:Int} (h:Num w v V) (hb:Below w.heap.size w w'):Num w' v V:=by
  obtain ⟨ao,n,cap,d,rfl,hR,h2⟩:=h
  exact ⟨ao,n,cap,d,rfl,hR.keeps hb,h2⟩
theorem Num.shape {w:World} {v:Value} {V:Int} (h:Num w v V):∃ ao n cap,v=.slice ao n cap:=by
  obtain ⟨ao,n,cap,d,e,_⟩:=h
  exact ⟨ao,n,cap,e⟩
theorem Num.alloc {w:World} {v:Value} {V:Int} (h:Num w v V) (o:Obj):Num (w.alloc o) v V:=h.keeps ((Below.refl _ _).alloc (Nat.le_refl _) _)
theorem Num.len {w:World} {ao:Option Addr} {n cap:Nat} {V:Int} (h:Num w (.slice ao n cap) V) {k:Nat} (hV:V<P k):n<=k:=by
  obtain ⟨ao',n',cap',d,e,hR,h2,h3⟩:=h
  simp only [Value.slice.injEq] at e
  obtain ⟨rfl,rfl,rfl⟩:=e
  by_cases hk:n<=k
  . exact hk
  . have a:=val_top h2.1 (by omega) h2.2
    have b:=P_le (show k<=n-1 by omega)
    omega
theorem Num.nonneg {w:World} {v:Value} {V:Int} (h:Num w v V):0<=V:=by
  obtain ⟨ao',n',cap',d,e,hR,h2,rfl⟩:=h
  exact val_nonneg h2.1
theorem Num.zero {w:World} {ao:Option Addr} {n cap:Nat} {V:Int} (h:Num w (.slice ao n cap) V):V=0 ↔ n=0:=by
  obtain ⟨ao',n',cap',d,e,hR,h2,rfl⟩:=h
  simp only [Value.slice.injEq] at e
  obtain ⟨rfl,rfl,rfl⟩:=e
  exact val_zero h2
theorem bel_alloc (w:World) (o:Obj):Below w.heap.size w (w.alloc o):=(Below.refl _ _).alloc (Nat.le_refl _) _
theorem bel_alloc2 (w:World) (o p:Obj):Below w.heap.size w ((w.alloc o).alloc p):=(bel_alloc w o).alloc (by simp) _
theorem blkC {w:World} {g:Nat} {xs:Array Value} {t:TypeId} (h:w.heap[g]?=some (.cells xs t (0,0))) (i:Nat) {v:Value} (hi:xs[i]?=some v):w.cell? ⟨g,i,none⟩=some v:=by
  rw [cell_of_row w g i xs _ _ h]; exact hi
theorem blkF {w:World} {g:Nat} {xs:Array Value} {t:TypeId} (h:w.heap[g]?=some (.cells xs t (0,0))) (i:Nat):w.frozen? ⟨g,i,none⟩=false:=by
  simp [World.frozen?,h]
theorem heap_a2 (w:World) (a b:Obj):((w.alloc a).alloc b).heap[w.heap.size]?=some a:=by
  show ((w.heap.push a).push b)[w.heap.size]?=some a
  simp [Array.getElem?_push]
theorem heap_b2 (w:World) (a b:Obj):((w.alloc a).alloc b).heap[w.heap.size+1]?=some b:=by
  show ((w.heap.push a).push b)[w.heap.size+1]?=some b
  rw [Array.getElem?_push,if_pos (by simp)]
theorem size2 (w:World) (a b:Obj):((w.alloc a).alloc b).heap.size=w.heap.size+2:=by
  show ((w.heap.push a).push b).size=_
  simp
theorem Out.set_below {B:Nat} {w:World} {v:Value} {n:Nat} {d:Nat->Int} (h:Out B w v n d) {a:Addr} (ha:a.block<B) (u:Value):Out B (w.setCell a u) v n d:=ownsRow_setCell_below h ha u
def DNum (w:World) (v:Value) (V:Int):Prop:=∃ ng s m e,v=.agg #[.bool ng,s,.int .i64 e]∧Dy V ng m e∧Num w s m
def DAns (w w':World) (V:Int) (v:Value):Prop:=∃ ng s m e,v=.agg #[.bool ng,s,.int .i64 e]∧Dy V ng m e∧Ans w w' m s
def zeroV:Value:=.agg #[.bool false,.slice none 0 0,.int .i64 0]
theorem DAns.below {w w':World} {V:Int} {v:Value} (h:DAns w w' V v):Below w.heap.size w w':=by
  obtain ⟨ng,s,m,e,_,_,h3⟩:=h
  exact h3.below
theorem DAns.num {w w':World} {V:Int} {v:Value} (h:DAns w w' V v):DNum w' v V:=by
  obtain ⟨ng,s,m,e,h1,h2,h3⟩:=h
  exact ⟨ng,s,m,e,h1,h2,h3.num⟩
theorem DAns.from {w0 w w':World} {V:Int} {v:Value} (h:DAns w w' V v) (hb:Below w0.heap.size w0 w):DAns w0 w' V v:=by
  obtain ⟨ng,s,m,e,h1,h2,h3⟩:=h
  exact ⟨ng,s,m,e,h1,h2,h3.from hb⟩
theorem DAns.stays {w w1 w2:World} {V:Int} {v:Value} (h:DAns w w1 V v) (hb:Below w1.heap.size w1 w2):DAns w w2 V v:=by
  obtain ⟨ng,s,m,e,h1,h2,h3⟩:=h
  exact ⟨ng,s,m,e,h1,h2,h3.stays hb⟩
theorem DAns.zero {w w':World} (hb:Below w.heap.size w w'):DAns w w' 0 zeroV:=⟨_,_,_,_,rfl,Dy.zero,Ans.nil hb⟩
theorem DNum.keeps {w w':World} {v:Value} {V:Int} (h:DNum w v V) (hb:Below w.heap.size w w'):DNum w' v V:=by
  obtain ⟨ng,s,m,e,h1,h2,h3⟩:=h
  exact ⟨ng,s,m,e,h1,h2,h3.keeps hb⟩
theorem DNum.zero (w:World):DNum w zeroV 0:=(DAns.zero (bel_refl w)).num
def DFit (w w':World) (V:Int) (v:Value) (er:Int):Prop:=Below w.heap.size w w'∧((Dok V∧er=0∧DAns w w' V v)∨(¬ Dok V∧er=2∧v=zeroV))
theorem if_nil (w:World):(binOp .eql 20 Value.nilIface Value.nilIface).run Tryz.prog w=.ok (.bool true) w:=by kernel_rfl
theorem if_not (w:World):(binOp .eql 20 (.iface 29 (.int .i64 2)) Value.nilIface).run Tryz.prog w=.ok (.bool false) w:=by kernel_rfl
theorem if_long (w:World):(binOp .eql 20 (.iface 29 (.int .i64 2)) (.iface 29 (.int .i64 2))).run Tryz.prog w=.ok (.bool true) w:=by kernel_rfl
theorem catch_panicking (p:Addr) (x:Value) (older:List PanicEntry) (w:World) (hc:w.cell? p=some x) (hz:w.frozen? p=false) :
    CallsD Tryz.prog 218 #[.pointer (some p)] (.panicking ({ v:=.iface 29 (.int .i64 2),recovered:=false } :: older)) w fun e u' w'=>
      e=.returned (.tuple #[])∧u'=.panicking ({ v:=.iface 29 (.int .i64 2),recovered:=true } :: older)∧w'=w.setCell p (.int .i64 2):=by
  have h1:=if_not
  have h2:=if_long
  refine callsD_of_wpS Tryz.func218 rfl fun c₀ cs hu=>?_
  apply wpS_seq
  apply wpS_region
  simp [wpOpsS,go_sem,recoverD,hu,Tryz.ntmps218,Exit.thenS]
  refine wpS_of_wp ?_
  go_wp2
  simp [bodyPostS,results,Tryz.results218]
theorem catch_idle (p:Addr) (w:World) :
    CallsD Tryz.prog 218 #[.pointer (some p)] .returning w fun e u' w'=>e=.returned (.tuple #[])∧u'=.returning∧w'=w:=by
  have h1:=if_nil
  refine callsD_of_wpS Tryz.func218 rfl fun c₀ cs hu=>?_
  apply wpS_seq
  apply wpS_region
  simp [wpOpsS,go_sem,recoverD,hu,Tryz.ntmps218,Exit.thenS]
  refine wpS_of_wp ?_
  go_wp2
  cases c₀
  simp_all [bodyPostS,results,Tryz.results218]
set_option maxRecDepth 100000 in
set_option maxHeartbeats 1000000 in
theorem told_no (F:Nat) (cap:Array Value) (w:World) (hE:∀ w,(callFunc F cap).run Tryz.prog w=.ok (.enter F cap) w) (hF:∀ W,Below w.heap.size w W->Calls Tryz.prog F cap W fun r W'=>r=.panicked [{ v:=.iface 29 (.int .i64 2),recovered:=false }]∧Below W.heap.size W W') :
    Calls Tryz.prog 163 #[.func (.func F) #[] cap] w fun r w'=>r=.returned (.tuple #[.agg #[.bool false,.slice none 0 0,.int .i64 0],.int .i64 2])∧Below w.heap.size w w':=by
  have hmf:∀ (fn:Fn) (first cap:Array Value) (w:World),(Instr.makeFunc fn first cap).run Tryz.prog w=.ok (.func fn first cap) w:=fun _ _ _ _=>rfl
  go_enter_defers Tryz.func163,Tryz.ntmps163
  go_wp2_with fail
  refine (hF _ (bel_alloc2 _ _ _)).mono ?_
  rintro r W' ⟨rfl,hb⟩
  have q1:=(hb.block (w.heap.size+1) (by rw [size2]; omega)).trans (heap_b2 _ _ _)
  have q0:=(hb.block w.heap.size (by rw [size2]; omega)).trans (heap_a2 _ _ _)
  have f0:=blkF q1 0
  have k0:=blkC q1 0 rfl
  go_wp2_with fail
  refine leaves_cons (f:=218) (args:=#[.pointer (some ⟨w.heap.size+1,0,none⟩)]) (by simp) (by simp [go_sem]) ?_
  refine (catch_panicking ⟨w.heap.size+1,0,none⟩ _ [] _ k0 f0).mono ?_
  rintro e u' w'' ⟨rfl,rfl,rfl⟩
  have c0:=blkC q0 0 rfl
  have c1:=blkC q0 1 rfl
  have c2:=blkC q0 2 rfl
  simp [Leaves,settle,results,Tryz.results163,go_sem,c0,c1,c2,k0]
  exact ((bel_alloc2 _ _ _).trans (hb.mono (bel_alloc2 _ _ _).size)).setCell (Nat.le_succ _) _
theorem dans_res {w W w3:World} {V:Int} {v:Value} (hv:DAns W w3 V v) (hb:Below w.heap.size w W) {g:Nat} (h0:w.heap.size<=g) (h1:g+1<W.heap.size) (a b c x:Value) :
    DAns w ((((w3.setCell ⟨g,0,none⟩ a).setCell ⟨g,1,none⟩ b).setCell ⟨g,2,none⟩ c).setCell ⟨g+1,0,none⟩ x) V v:=by
  obtain ⟨ng,s,m,e,h2,h3,t,d,hO,hN,hV,hB⟩:=hv
  refine ⟨ng,s,m,e,h2,h3,t,d,?_,hN,hV,?_⟩
  . exact ((((hO.set_below (a:=⟨g,0,none⟩) (by show g<_; omega) a).set_below (a:=⟨g,1,none⟩) (by show g<_; omega) b).set_below (a:=⟨g,2,none⟩) (by show g<_; omega) c).set_below (a:=⟨g+1,0,none⟩) h1 x).lower hb.size
  . exact ((((hb.trans (hB.mono hb.size)).setCell (p:=⟨g,0,none⟩) h0 a).setCell (p:=⟨g,1,none⟩) h0 b).setCell (p:=⟨g,2,none⟩) h0 c).setCell (p:=⟨g+1,0,none⟩) (Nat.le_succ_of_le h0) x
set_option maxRecDepth 100000 in
set_option maxHeartbeats 1000000 in
theorem told_yes (F:Nat) (cap:Array Value) (w:World) (V:Int) (hE:∀ w,(callFunc F cap).run Tryz.prog w=.ok (.enter F cap) w) (hF:∀ W,Below w.heap.size w W->Calls Tryz.prog F cap W fun r W'=>∃ v,r=.returned v∧DAns W W' V v) :
    Calls Tryz.prog 163 #[.func (.func F) #[] cap] w fun r w'=>∃ v,r=.returned (.tuple #[v,.int .i64 0])∧DAns w w' V v:=by
  have hmf:∀ (fn:Fn) (first cap:Array Value) (w:World),(Instr.makeFunc fn first cap).run Tryz.prog w=.ok (.func fn first cap) w:=fun _ _ _ _=>rfl
  go_enter_defers Tryz.func163,Tryz.ntmps163
  go_wp2_with fail
  refine (hF _ (bel_alloc2 _ _ _)).mono ?_
  rintro r W' ⟨v,rfl,hD⟩
  have hb:=hD.below
  obtain ⟨ng,s,m,e,rfl,hy,hA⟩:=id hD
  obtain ⟨so,sn,sc,rfl⟩:=hA.num.shape
  have q1:=(hb.block (w.heap.size+1) (by rw [size2]; omega)).trans (heap_b2 _ _ _)
  have q0:=(hb.block w.heap.size (by rw [size2]; omega)).trans (heap_a2 _ _ _)
  have f0:=blkF q1 0
  have k0:=blkC q1 0 rfl
  have c0:=blkC q0 0 rfl
  have c1:=blkC q0 1 rfl
  have c2:=blkC q0 2 rfl
  have z0:=blkF q0 0
  have z1:=blkF q0 1
  have z2:=blkF q0 2
  go_wp2_with fail
  refine leaves_cons (f:=218) (args:=#[.pointer (some ⟨w.heap.size+1,0,none⟩)]) (by simp) (by simp [go_sem]) ?_
  refine (catch_idle ⟨w.heap.size+1,0,none⟩ _).mono ?_
  rintro e u' w'' ⟨rfl,rfl,rfl⟩
  simp [Leaves,settle,results,Tryz.results163,go_sem,c0,c1,c2,k0]
  exact dans_res (g:=w.heap.size) hD (bel_alloc2 _ _ _) (Nat.le_refl _) (by rw [size2]; omega) _ _ _ _
structure Lays (w:World):Prop where
  a0:w.cell? ⟨1,0,none⟩=some (.int .i64 52)
  a1:w.cell? ⟨1,1,none⟩=some (.int .i64 2047)
  a2:w.cell? ⟨1,2,none⟩=some (.int .i64 (-1074))
  b0:True
  b1:True
  b2:True
structure Gr (W w':World):Prop where
  gr:Grown W w'
  be:Below W.heap.size W w'
theorem Gr.refl (W:World):Gr W W:=⟨Grown.refl _,Below.refl _ _⟩
theorem Gr.alloc {W w':World} (h:Gr W w') (c:Array Value) (t:TypeId):Gr W (w'.alloc (.cells c t)):=⟨h.gr.alloc c t,h.be.alloc h.be.size _⟩
theorem Gr.drew {W w':World} (h:Gr W w'):Gr W w'.drew:=⟨h.gr.drew,⟨h.be.os,h.be.tape,h.be.output,h.be.size,h.be.block⟩⟩
theorem gDrewN {W w':World} (h:Gr W w') (n:Nat):Gr W (w'.drewN n):=⟨h.gr,⟨h.be.os,h.be.tape,h.be.output,h.be.size,h.be.block⟩⟩
theorem gCell {a b:World} (h:Gr a b) {p:Addr} {v:Value} (hc:a.cell? p=some v):b.cell? p=some v:=by
  unfold World.cell? at hc ⊢
  have hlt:p.block<a.heap.size:=by
    by_cases hp:p.block<a.heap.size
    . exact hp
    . rw [Array.getElem?_eq_none (by omega)] at hc; simp at hc
  have k:=h.gr.1.2.2 p.block hlt
  cases ha:a.heap[p.block]? with
  | none=>rw [ha] at hc; simp at hc
  | some oa=>
    rw [ha] at hc k
    cases oa with
    | cells c t fr=>
      cases hb:b.heap[p.block]? with
      | none=>rw [hb] at k; simp at k
      | some ob=>
        rw [hb] at k
        cases ob with
        | cells c' t' fr'=>
          simp only at hc k ⊢
          obtain ⟨_,_,_,kc⟩:=k
          rw [kc p.off (fun f=>f)]
          exact hc
        | _=>simp at k
    | _=>simp at hc
theorem Lays.grown {w w':World} (h:Lays w) (g:Gr w w'):Lays w' :=
  ⟨gCell g h.a0,gCell g h.a1,gCell g h.a2,trivial,trivial,trivial⟩
theorem b_ret_int {k:IntKind} {a b:Int} (h:a=b):Ending.returned (.int k a)=.returned (.int k b):=by rw [h]
theorem b_ret_bool {a b:Bool} (h:a=b):Ending.returned (.bool a)=.returned (.bool b):=by rw [h]
theorem ret_bii {a a':Bool} {b b' c c':Int} (h:a=a') (k:b=b') (l:c=c'):Ending.returned (.tuple #[.bool a,.int .i64 b,.int .i64 c])=.returned (.tuple #[.bool a',.int .i64 b',.int .i64 c']):=by rw [h,k,l]
theorem ret_ttt {a a' b b':Int} {c c':Bool} (h:a=a') (k:b=b') (l:c=c'):Ending.returned (.tuple #[.int .i64 a,.int .i64 b,.bool c])=.returned (.tuple #[.int .i64 a',.int .i64 b',.bool c']):=by rw [h,k,l]
theorem ret_ttt4 {n n':Bool} {a a' b b':Int} {c c':Bool} (g:n=n') (h:a=a') (k:b=b') (l:c=c'):Ending.returned (.tuple #[.bool n,.int .i64 a,.int .i64 b,.bool c])=.returned (.tuple #[.bool n',.int .i64 a',.int .i64 b',.bool c']):=by rw [g,h,k,l]
theorem split64 (b:Int) (w:World) :
    Calls Tryz.prog 292 #[.agg #[.int .i64 52,.int .i64 2047,.int .i64 (-1074)],.int .i64 b] w fun e w'=>e=.returned (.tuple #[.int .i64 (fld b),.int .i64 (frc b)])∧∃ n,w'=(w.alloc (.cells #[.int .i64 52,.int .i64 2047,.int .i64 (-1074)] 255)).drewN n:=by
  have h1:bits .and .i64 (b/4503599627370496) 2047=fld b:=and_i64_2047 _
  have h2:bits .and .i64 b 4503599627370495=frc b:=and_i64_m52 _
  go_enter Tryz.func292,Tryz.ntmps292
  go_wp2
  go_quiet (fail)
  go_wp2
  go_ret2
  exact ⟨rfl,_,rfl⟩
theorem parts64 (b:Int) (w:World) :
    Calls Tryz.prog 250 #[.agg #[.int .i64 52,.int .i64 2047,.int .i64 (-1074)],.int .i64 b] w fun e w'=>e=.returned (.tuple #[.int .i64 (pmag b),.int .i64 (pexp b),.bool (pok b)])∧Gr w w':=by
  have hf:=fld_le b
  have hr:=frc_le b
  by_cases h1:fld b=2047
  . go_enter Tryz.func250,Tryz.ntmps250
    go_wp2_with (go_at_call 292; refine (split64 _ _).mono ?_; rintro e w1 ⟨rfl,n,rfl⟩)
    go_ret3
    exact ⟨ret_ttt (by simp [pmag,h1]) (by simp [pexp,h1]) (by simp [pok,h1]),gDrewN (((Gr.refl _).alloc _ _).alloc _ _) _⟩
  . by_cases h2:fld b=0
    . go_enter Tryz.func250,Tryz.ntmps250
      go_wp2_with (go_at_call 292; refine (split64 _ _).mono ?_; rintro e w1 ⟨rfl,n,rfl⟩)
      go_quiet (fail)
      go_wp2
      go_ret3
      exact ⟨ret_ttt (by simp [pmag,h1,h2]) (by simp [pexp,h1,h2]) (by simp [pok,h1]),gDrewN (gDrewN (((Gr.refl _).alloc _ _).alloc _ _) _) _⟩
    . go_enter Tryz.func250,Tryz.ntmps250
      go_wp2_with (go_at_call 292; refine (split64 _ _).mono ?_; rintro e w1 ⟨rfl,n,rfl⟩)
      go_quiet (fail)
      go_wp2
      go_ret3
      exact ⟨ret_ttt (by simp [pmag,h1,h2]) (by simp [pexp,h1,h2]; omega) (by simp [pok,h1]),gDrewN (gDrewN (((Gr.refl _).alloc _ _).alloc _ _) _) _⟩
def b_Tab (w:World):Prop:=∀ j,j<64->w.cell? ⟨3,j,none⟩=some (.int .u8 ((Lib.deBruijn64tab.getD j 0:Nat):Int))
theorem b_Tab.grown {w w':World} (h:b_Tab w) (g:Gr w w'):b_Tab w':=fun j hj=>gCell g (h j hj)
theorem b_tz_key (x a:Nat) (hx:x<18446744073709551616) (hx0:x≠0) (hlow:x &&& (18446744073709551616-x)=a) :
    IntKind.u64.wrap (bits .and .u64 (x:Int) (IntKind.u64.wrap (-(x:Int)))*285870213051353865)/288230376151711744=((a*285870213051353865 % 18446744073709551616/288230376151711744:Nat):Int):=by
  have e1:IntKind.u64.wrap (-(x:Int))=((18446744073709551616-x:Nat):Int):=by rw [IntKind.wrap_u64]; omega
  rw [e1,bits_and_u64_nat x _ hx (by omega),hlow,IntKind.wrap_u64]
  omega
set_option maxHeartbeats 1000000 in
theorem b_tz_core (x k idx:Nat) (w:World) (hx0:((x:Int) == 0)=false)
    (key:IntKind.u64.wrap (bits .and .u64 (x:Int) (IntKind.u64.wrap (-(x:Int)))*285870213051353865)/288230376151711744=(idx:Int))
    (hi:idx<64) (hk:k<64) (hcell:w.cell? ⟨3,idx,none⟩=some (.int .u8 k)) :
    Calls Tryz.prog 286 #[.int .u64 x] w fun e w'=>e=.returned (.int .i64 k)∧w'=w:=by
  go_enter Tryz.func286,Tryz.ntmps286
  go_wp2_with (simp only [key])
  go_ret
  exact ⟨rfl,rfl⟩
theorem b_trailing (x:Nat) (hx:x<18446744073709551616) (h0:x≠0) (w:World) (hT:b_Tab w) :
    Calls Tryz.prog 286 #[.int .u64 x] w fun e w'=>e=.returned (.int .i64 (Lib.ctz 64 x))∧w'=w:=by
  obtain ⟨hlow,hk⟩:=Lib.lowest_bit 64 x h0 hx
  obtain ⟨hi,htab⟩:=Lib.deBruijn64_at _ hk
  have hcell:=hT _ hi
  rw [htab] at hcell
  exact b_tz_core x _ _ w (by simp; omega) (b_tz_key x _ hx h0 hlow) hi hk hcell
structure Env (w:World):Prop where
  lays:Lays w
  tab:b_Tab w
theorem Env.grown {w w':World} (h:Env w) (g:Gr w w'):Env w':=⟨h.lays.grown g,h.tab.grown g⟩
end Go.Proofs.YtjjihmnbdeeedaaGreatDoor
namespace Go.Proofs.YtjjihmnbdeeedaaGreatDoor.M
open Go
theorem dig_mul {x y:Int} (hx:0<=x∧x<1073741824) (hy:0<=y∧y<1073741824):0<=x*y∧x*y<=1152921502459363329:=by
  refine ⟨Int.mul_nonneg hx.1 hy.1,?_⟩
  have h1:x*y<=1073741823*y:=Int.mul_le_mul_of_nonneg_right (by omega) hy.1
  omega
theorem zero_dig (n:Nat):Dig (fun _=>0) n:=fun i _=>⟨Int.le_refl 0,show (0:Int)<1073741824 by decide⟩
theorem mod_dig (x:Int):0<=x % 1073741824∧x % 1073741824<1073741824:=by omega
theorem sum_step {r:Nat->Int} {k:Nat} {c x V:Int} (h:val r k+c*P k=V):val (upd r k ((c+x) % 1073741824)) (k+1)+(c+x)/1073741824*P (k+1)=V+x*P k:=by
  rw [val_succ,val_upd_ge r _ (Nat.le_refl k),upd_same,P_succ,carry_step,h]
theorem mul_step {r r0 b:Nat->Int} {i j:Nat} {c ai:Int} (h:val r (i+j)+c*P (i+j)=val r0 (i+j)+ai*val b j*P i) (hr:r (i+j)=r0 (i+j)) :
    val (upd r (i+j) ((c+(ai*b j+r (i+j))) % 1073741824)) (i+(j+1))+(c+(ai*b j+r (i+j)))/1073741824*P (i+(j+1))=val r0 (i+(j+1))+ai*val b (j+1)*P i:=by
  have e:=sum_step (x:=ai*b j+r (i+j)) h
  rw [<- Nat.add_assoc,e,val_succ,val_succ,P_add,hr]
  grind
theorem mul_row {r r0 b:Nat->Int} {i m:Nat} {c ai A:Int} (h:val r (i+m)+c*P (i+m)=val r0 (i+m)+ai*val b m*P i) (h0:val r0 (i+m)=A*val b m) :
    val (upd r (i+m) c) (i+1+m)=(A+ai*P i)*val b m:=by
  rw [show i+1+m=i+m+1 by omega,val_succ,upd_same,val_upd_ge r _ (Nat.le_refl _),h,h0]
  grind
theorem nrm_of_top {d:Nat->Int} {n t:Nat} (hd:Dig d n) (ht:t<=n) (htop:Top d t) (hz:∀ i,t<=i->i<n->d i=0):Nrm d t∧val d t=val d n :=
  ⟨⟨hd.le ht,htop⟩,(val_zeros ht hz).symm⟩
theorem cmp_top {d e:Nat->Int} {n k:Nat} (hd:Dig d n) (he:Dig e n) (hk:k<n) (hs:∀ i,k<i->i<n->d i=e i) (hlt:d k<e k):val d n<val e n:=by
  have s1:=val_split d (k+1) (n-(k+1))
  have s2:=val_split e (k+1) (n-(k+1))
  rw [show k+1+(n-(k+1))=n by omega] at s1 s2
  have e1:val (fun i=>d (k+1+i)) (n-(k+1))=val (fun i=>e (k+1+i)) (n-(k+1)):=val_congr fun i hi=>hs _ (by omega) (by omega)
  rw [s1,s2,e1,val_succ,val_succ]
  have a:=val_lt (hd.le (show k<=n by omega))
  have b:=val_nonneg (he.le (show k<=n by omega))
  have c:(d k+1)*P k<=e k*P k:=Int.mul_le_mul_of_nonneg_right (by omega) (Int.le_of_lt (P_pos k))
  rw [Int.add_mul] at c
  omega
def ord (a b:Int):Int:=if a<b then -1 else if b<a then 1 else 0
theorem ord_lt {a b:Int} (h:a<b):ord a b=-1:=by simp [ord,h]
theorem ord_gt {a b:Int} (h:b<a):ord a b=1:=by simp [ord,h]; omega
theorem ord_eq {a b:Int} (h:a=b):ord a b=0:=by simp [ord,h]
end Go.Proofs.YtjjihmnbdeeedaaGreatDoor.M
