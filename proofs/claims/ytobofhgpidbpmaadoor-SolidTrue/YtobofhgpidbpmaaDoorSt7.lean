/- Parts of the proof. -/
import Derived.Test.YtobofhgpidbpmaaDoorSt6
import Derived.Test.YtobofhgpidbpmaaDoorSt5
import Derived.Test.YtobofhgpidbpmaaDoorSt1
import Derived.Laws.FloatArith
set_option linter.unusedVariables false
set_option linter.unusedSimpArgs false
namespace Go.Proofs.YtobofhgpidbpmaaDoor
open Go Go.RowKit Go.Proofs.YtobofhgpidbpmaaDoor.M
theorem patS_facts {ng:Bool} {r:Int} (h0:0<=r) (h1:r<=9218868437227405312) (h:ng=true->0<r):rng (patS ng r)∧rg (patS ng r)=r∧(patS ng r<0 ↔ ng=true):=by
  unfold patS rg rng
  cases ng
  . simp only [Bool.false_eq_true,if_false]
    exact ⟨by omega,by rw [if_neg (by omega)],by omega,fun h=>by cases h⟩
  . simp only [if_true]
    exact ⟨by have:=h rfl; omega,by have:=h rfl; rw [if_pos (by omega)]; omega,fun _=>trivial,fun _=>by omega⟩
theorem patS_pok {ng:Bool} {r:Int} (h0:0<=r) (h1:r<=9218868437227405312) (h:ng=true->0<r):pok (patS ng r)=decide (r<9218868437227405312):=by
  obtain ⟨a,b,c⟩:=patS_facts h0 h1 h
  have hp:=rg_parts a
  rw [b] at hp
  have hf:0<=frc (patS ng r)∧frc (patS ng r)<4503599627370496:=by unfold frc; omega
  unfold pok
  by_cases hr:r<9218868437227405312
  . rw [decide_eq_true hr]
    simp
    omega
  . rw [decide_eq_false hr]
    simp
    omega
theorem patV_patS {ng:Bool} {r:Nat} (h1:(r:Int)<9218868437227405312) (h:ng=true->0<r):patV (patS ng r)=sg ng (vS r):=by
  have hh:ng=true->(0:Int)<r:=fun q=>by have:=h q; omega
  obtain ⟨a,b,c⟩:=patS_facts (ng:=ng) (r:=(r:Int)) (by omega) (by omega) hh
  have hp:pok (patS ng r)=true:=by rw [patS_pok (by omega) (by omega) hh]; exact decide_eq_true h1
  have hV:=V_rg a hp
  rw [b,Int.toNat_natCast] at hV
  obtain ⟨i0,i1,i2,i3⟩:=pmag_in hp
  have hn:pneg (patS ng r)=ng:=by
    unfold pneg
    rw [hp,Bool.true_and]
    cases ng
    . exact decide_eq_false (fun q=>by have:=c.1 q; cases this)
    . exact decide_eq_true (c.2 rfl)
  unfold patV vS
  rw [hV,hn]
  have e:pw (pexp (patS ng r))=2^(pexp (patS ng r)+1074).toNat*pw (-1074):=by
    rw [pw_sub (e:=pexp (patS ng r)) (low:=-1074) (by decide) i2]
    congr 2
  have e2:(((pmag (patS ng r)).toNat*2^(pexp (patS ng r)+1074).toNat:Nat):Int)*pw (-1074)=pmag (patS ng r)*pw (pexp (patS ng r)):=by
    push_cast
    rw [Int.toNat_of_nonneg i0,e,Int.mul_assoc]
  rw [e2]
  cases ng
  . rfl
  . show -pmag _*_=-(pmag _*_)
    rw [Int.neg_mul]
theorem Rung.unique {A:Int} {r s:Nat} {l k:Int} (h:Rung A r l) (g:Rung A s k):r=s∧l=k:=by
  have e:r=s:=by
    rcases Nat.lt_trichotomy r s with q | q | q
    . exfalso
      have h1:=h.hi
      have h2:=g.lo
      rcases Nat.lt_or_eq_of_le (show r+1<=s from q) with q2 | q2
      . have:=vS_lt q2; omega
      . rw [q2] at h1; omega
    . exact q
    . exfalso
      have h1:=g.hi
      have h2:=h.lo
      rcases Nat.lt_or_eq_of_le (show s+1<=r from q) with q2 | q2
      . have:=vS_lt q2; omega
      . rw [q2] at h1; omega
  subst e
  refine ⟨rfl,?_⟩
  have a0:=h.lo
  by_cases c0:A=vS r
  . rw [h.l0.2 c0,g.l0.2 c0]
  . by_cases c1:2*A<vS r+vS (r+1)
    . rw [h.l1.2 ⟨by omega,c1⟩,g.l1.2 ⟨by omega,c1⟩]
    . by_cases c2:2*A=vS r+vS (r+1)
      . rw [h.l2.2 c2,g.l2.2 c2]
      . rw [h.l3.2 (by omega),g.l3.2 (by omega)]
def toR (way:Int) (x:NumR):Int × Bool:=r64 way x.ng false (val x.d x.n/2^vK (val x.d x.n)).toNat (x.e+vK (val x.d x.n)) (decide (val x.d x.n % 2^vK (val x.d x.n)≠0))
theorem to_all {x:NumR} (ok:okR x=true) (h0:0<x.n):∃ (r0:Nat) (left:Int),Rung (val x.d x.n*pw x.e) r0 left∧∀ way,toR way x=(patS (x.ng && decide (0<rTo way x.ng r0 left)) (rTo way x.ng r0 left),decide (left≠0) || decide (9218868437227405312<=(r0:Int))):=by
  obtain ⟨r0,left,hR,_⟩:=to_rung (way:=0) ok h0
  refine ⟨r0,left,hR,fun way=>?_⟩
  obtain ⟨r1,l1,hR1,e1⟩:=to_rung (way:=way) ok h0
  obtain ⟨rfl,rfl⟩:=hR.unique hR1
  unfold toR
  rw [e1,Bool.or_false]
theorem to_zero {x:NumR} (ok:okR x=true) (h0:x.n=0) (way:Int):toR way x=(0,false):=by
  have hz:x.ng=false∧x.e=0:=by
    have:=of_decide_eq_true ok
    rcases this with ⟨_,a,b⟩ | ⟨a,_⟩
    . exact ⟨a,b⟩
    . omega
  have hv:val x.d x.n=0:=by rw [h0]; rfl
  unfold toR
  rw [hv,hz.1,hz.2]
  have e:r64 way false false ((0:Int)/2^vK 0).toNat (0+(vK 0:Int)) (decide ((0:Int) % 2^vK 0≠0))=r64 way false false 0 0 false:=by
    rw [show vK 0=0 by decide]
    rfl
  rw [e]
  have HR:r64 way false false 0 0 false=(let E:=rE 53 (-1074) 0 0
    let u:=rU 0 (E-0)
    let left:=rL 0 false (E-0)
    let U:=u+(if rUp way false (decide (u % 2=1)) left then 1 else 0)
    let neg:=false && (decide (0<U) || false)
    if jk 52 2047 (-1074) U E then (jp neg U E,decide (left≠0)) else (patS neg (bRung way neg),true)):=rfl
  rw [HR]
  have hE:rE 53 (-1074) 0 0=-53:=by decide
  simp only [hE]
  have hu:rU 0 (-53-0)=0:=by decide
  have hl:rL 0 false (-53-0)=0:=by decide
  simp only [hu,hl]
  have hr:rUp way false (decide (0 % 2=1)) 0=false:=by
    cases h:rUp way false (decide (0 % 2=1)) 0
    . rfl
    . exact absurd h (fun q=>rUp_left q)
  rw [hr]
  rfl
theorem vS_zero:vS 0=0:=by unfold vS; rw [V_zero]; simp
theorem ordP_pat {A:Int} {ng:Bool} {r:Nat} (h:(r:Int)<9218868437227405312):ordP A (patS (ng && decide ((0:Int)<r)) r)=ord A (sg ng (vS r)):=by
  by_cases h0:r=0
  . subst h0
    have e:(ng && decide ((0:Int)<((0:Nat):Int)))=false:=by simp
    rw [e,vS_zero]
    have hp:pok (patS false ((0:Nat):Int))=true:=by decide
    have hv:patV (patS false ((0:Nat):Int))=0:=by rw [patV_patS (by decide) (fun q=>by cases q),vS_zero]; rfl
    unfold ordP
    rw [if_pos hp,hv]
    cases ng <;> rfl
  . have e:(ng && decide ((0:Int)<(r:Int)))=ng:=by rw [decide_eq_true (by omega),Bool.and_true]
    rw [e]
    have hp:pok (patS ng r)=true:=by rw [patS_pok (by omega) (by omega) (fun _=>by omega)]; exact decide_eq_true h
    unfold ordP
    rw [if_pos hp,patV_patS h (fun _=>by omega)]
theorem ordP_inf {A:Int} {ng:Bool}:ordP A (patS (ng && decide ((0:Int)<9218868437227405312)) 9218868437227405312)=if ng then 1 else -1:=by
  cases ng <;> rfl
theorem rUp_down (ng odd:Bool) (left:Int):rUp 1 ng odd left=(decide (left≠0) && ng):=rfl
theorem rUp_up (ng odd:Bool) (left:Int):rUp 2 ng odd left=(decide (left≠0) && !ng):=rfl
theorem rUp_zero (ng odd:Bool) (left:Int):rUp 3 ng odd left=false:=rfl
theorem rTo_fin {ng:Bool} {r0:Nat} {left:Int} (h:(r0:Int)<9218868437227405312) :
    rTo 1 ng r0 left=(if left≠0∧ng=true then ((r0+1:Nat):Int) else (r0:Int))∧rTo 2 ng r0 left=(if left≠0∧ng=false then ((r0+1:Nat):Int) else (r0:Int))∧rTo 3 ng r0 left=(r0:Int)∧(rTo 0 ng r0 left=(r0:Int)∨(left≠0∧rTo 0 ng r0 left=((r0+1:Nat):Int))):=by
  unfold rTo
  simp only [if_pos h]
  refine ⟨?_,?_,?_,?_⟩
  . rw [rUp_down]
    by_cases h0:left=0
    . subst h0; simp
    . cases ng <;> simp [h0]
  . rw [rUp_up]
    by_cases h0:left=0
    . subst h0; simp
    . cases ng <;> simp [h0]
  . rw [rUp_zero]
    simp
  . cases hu:rUp 0 ng (decide (r0 % 2=1)) left
    . left; simp
    . right
      refine ⟨fun hz=>?_,by simp⟩
      rw [hz] at hu
      exact rUp_left hu
theorem rTo_inf {ng:Bool} {r0:Nat} {left:Int} (h:¬ (r0:Int)<9218868437227405312) :
    rTo 1 ng r0 left=(if ng=true then 9218868437227405312 else 9218868437227405311)∧rTo 2 ng r0 left=(if ng=true then 9218868437227405311 else 9218868437227405312)∧rTo 3 ng r0 left=9218868437227405311∧rTo 0 ng r0 left=9218868437227405312:=by
  unfold rTo
  simp only [if_neg h]
  cases ng <;> decide
theorem cls_rg {b:Int} (hb:rng b):(cls b=4 ↔ 9218868437227405312<rg b)∧(cls b=0 ↔ rg b=0):=by
  obtain ⟨h0,h1⟩:=rg_parts hb
  have hf:0<=frc b∧frc b<4503599627370496:=by unfold frc; omega
  have hg:0<=fld b∧fld b<2048:=by unfold fld; omega
  generalize rg b=r at *
  unfold cls
  generalize fld b=f at *
  generalize frc b=c at *
  constructor
  . split
    . split <;> constructor <;> intro h <;> omega
    . split
      . split <;> constructor <;> intro h <;> omega
      . constructor <;> intro h <;> omega
  . split
    . split <;> constructor <;> intro h <;> omega
    . split
      . split <;> constructor <;> intro h <;> omega
      . constructor <;> intro h <;> omega
theorem up_pos {r:Int} (h0:0<=r) (h1:r<9218868437227405312):canon (next (patS false r))=r+1:=by
  have e:patS false r=r:=rfl
  rw [e]
  have a1:rng r:=by unfold rng; omega
  have a2:rng (r+1):=by unfold rng; omega
  have g1:rg r=r:=by unfold rg; rw [if_neg (by omega)]
  have g2:rg (r+1)=r+1:=by unfold rg; rw [if_neg (by omega)]
  have c1:=cls_rg a1
  have c2:=cls_rg a2
  rw [g1] at c1
  rw [g2] at c2
  have n:next r=r+1:=by
    unfold next
    rw [if_neg (by rw [c1.1]; omega),if_neg (by omega),if_neg (by omega),if_neg (by omega)]
  rw [n]
  unfold canon
  rw [if_neg (by rw [c2.1]; omega),if_neg (by rw [c2.2]; omega)]
theorem up_neg {r:Int} (h0:0<r) (h1:r<=9218868437227405312):canon (next (patS true r))=patS (decide (0<r-1)) (r-1):=by
  have e:patS true r=r-9223372036854775808:=rfl
  rw [e]
  have a1:rng (r-9223372036854775808):=by unfold rng; omega
  have a2:rng (r-9223372036854775808-1):=by unfold rng; omega
  have g1:rg (r-9223372036854775808)=r:=by unfold rg; rw [if_pos (by omega)]; omega
  have g2:rg (r-9223372036854775808-1)=r-1:=by unfold rg; rw [if_pos (by omega)]; omega
  have c1:=cls_rg a1
  have c2:=cls_rg a2
  rw [g1] at c1
  rw [g2] at c2
  have n:next (r-9223372036854775808)=r-9223372036854775808-1:=by
    unfold next
    rw [if_neg (by rw [c1.1]; omega),if_neg (by omega),if_neg (by omega),if_pos (by omega)]
  rw [n]
  unfold canon
  rw [if_neg (by rw [c2.1]; omega)]
  by_cases h:r-1=0
  . rw [if_pos (c2.2.2 h),h]
    rfl
  . rw [if_neg (by rw [c2.2]; exact h),decide_eq_true (by omega)]
    unfold patS
    rw [if_pos rfl]
    omega
structure Btw (V:Int) (ng:Bool) (f:Int->Int × Bool):Prop where
  o2:(f 2).2=(f 1).2
  o3:(f 3).2=(f 1).2
  o0:(f 0).2=(f 1).2
  lo:¬ ordP V (f 1).1<0
  hi:¬ 0<ordP V (f 2).1
  ex:(f 1).2=false->ordP V (f 1).1=0∧(f 2).1=(f 1).1∧(f 3).1=(f 1).1∧(f 0).1=(f 1).1
  up:(f 1).2=true->ordP V (f 1).1≠0∧canon (next (f 1).1)=(f 2).1∧((f 0).1=(f 1).1∨(f 0).1=(f 2).1)∧(ng=false->(f 3).1=(f 1).1)∧(ng=true->(f 3).1=(f 2).1)
theorem ord_self (a:Int):ord a a=0:=by unfold ord; rw [if_neg (by omega),if_neg (by omega)]
theorem Btw.of {V:Int} {ng:Bool} {f:Int->Int × Bool} {o:Bool} {d u z n:Int} (f1:f 1=(patS (ng && decide (0<d)) d,o)) (f2:f 2=(patS (ng && decide (0<u)) u,o)) (f3:f 3=(patS (ng && decide (0<z)) z,o)) (f0:f 0=(patS (ng && decide (0<n)) n,o))
    (lo:¬ ordP V (patS (ng && decide (0<d)) d)<0) (hi:¬ 0<ordP V (patS (ng && decide (0<u)) u)) (ex:o=false->ordP V (patS (ng && decide (0<d)) d)=0∧u=d∧z=d∧n=d)
    (up:o=true->ordP V (patS (ng && decide (0<d)) d)≠0∧canon (next (patS (ng && decide (0<d)) d))=patS (ng && decide (0<u)) u∧(n=d∨n=u)∧(ng=false->z=d)∧(ng=true->z=u)):Btw V ng f:=by
  refine ⟨by rw [f1,f2],by rw [f1,f3],by rw [f1,f0],by rw [f1]; exact lo,by rw [f2]; exact hi,fun h=>?_,fun h=>?_⟩
  . rw [f1] at h
    obtain ⟨a,b,c,e⟩:=ex h
    rw [f1,f2,f3,f0,b,c,e]
    exact ⟨a,rfl,rfl,rfl⟩
  . rw [f1] at h
    obtain ⟨a,b,c,e,g⟩:=up h
    rw [f1,f2,f3,f0]
    refine ⟨a,b,?_,fun q=>by rw [e q],fun q=>by rw [g q]⟩
    rcases c with c | c
    . left; rw [c]
    . right; rw [c]
theorem k_top {r:Nat} (h:(r:Int)<9218868437227405312) (g:¬ ((r+1:Nat):Int)<9218868437227405312):((r+1:Nat):Int)=9218868437227405312:=by omega
theorem k_pos (r:Nat):(0:Int)<((r+1:Nat):Int):=by omega
theorem k_le {r:Nat} (h:(r:Int)<9218868437227405312):((r+1:Nat):Int)<=9218868437227405312:=by omega
theorem k_sub (r:Nat):((r+1:Nat):Int)-1=(r:Int):=by omega
theorem k_one (r:Nat):((r+1:Nat):Int)=(r:Int)+1:=by omega
theorem k_lt {r k:Nat} (hk:(9218868437227405311:Int)=(k:Int)) (h:¬ (r:Int)<9218868437227405312):k<r:=by omega
theorem k_ex:∃ k:Nat,(9218868437227405311:Int)=(k:Int):=⟨9218868437227405311,rfl⟩
theorem k_fin {k:Nat} (hk:(9218868437227405311:Int)=(k:Int)):(k:Int)<9218868437227405312∧(k:Int)+1=9218868437227405312∧(9218868437227405312:Int)-1=(k:Int):=by omega
theorem ord_sg_lt {ng:Bool} {A B:Int} (h:A<B):ord (sg ng A) (sg ng B)=if ng then 1 else -1:=by
  cases ng
  . exact ord_lt h
  . exact ord_gt (Int.neg_lt_neg h)
theorem ord_sg_gt {ng:Bool} {A B:Int} (h:B<A):ord (sg ng A) (sg ng B)=if ng then -1 else 1:=by
  cases ng
  . exact ord_gt h
  . exact ord_lt (Int.neg_lt_neg h)
theorem sg_prod (ng:Bool) (a b:Int):sg ng a*b=sg ng (a*b):=by
  unfold sg
  cases ng
  . rfl
  . exact Int.neg_mul a b
theorem between {x:NumR} (ok:okR x=true):Btw x.V x.ng (fun way=>toR way x):=by
  by_cases h0:x.n=0
  . have hz:x.ng=false:=by
      have:=of_decide_eq_true ok
      rcases this with ⟨_,a,b⟩ | ⟨a,_⟩
      . exact a
      . omega
    have hv:x.V=0:=by
      have hv:val x.d x.n=0:=by rw [h0]; rfl
      unfold NumR.V
      rw [hv,sg_zero,Int.zero_mul]
    have hp:ordP x.V (patS (x.ng && decide ((0:Int)<0)) 0)=0:=by
      have:=ordP_pat (A:=x.V) (ng:=x.ng) (r:=0) (by decide)
      rw [vS_zero,hv,hz] at this
      rw [hv,hz]
      exact this
    have hz0:∀ way,toR way x=(patS (x.ng && decide ((0:Int)<0)) 0,false):=fun way=>by
      rw [to_zero ok h0,hz]
      rfl
    exact Btw.of (f:=fun way=>toR way x) (hz0 1) (hz0 2) (hz0 3) (hz0 0) (by rw [hp]; decide) (by rw [hp]; decide) (fun _=>⟨hp,rfl,rfl,rfl⟩) (fun h=>by cases h)
  . obtain ⟨r0,left,hR,hf⟩:=to_all ok (by omega)
    obtain ⟨A,hA⟩:∃ A,val x.d x.n*pw x.e=A:=⟨_,rfl⟩
    rw [hA] at hR
    have hV:x.V=sg x.ng A:=by
      unfold NumR.V
      rw [<- hA]
      exact sg_prod _ _ _
    clear hA
    have lo:=hR.lo
    have hi:=hR.hi
    have l0:=hR.l0
    rw [hV]
    by_cases hr:(r0:Int)<9218868437227405312
    . obtain ⟨t1,t2,t3,t0⟩:=rTo_fin (ng:=x.ng) (left:=left) hr
      have ho:(decide (left≠0) || decide (9218868437227405312<=(r0:Int)))=decide (left≠0):=by rw [decide_eq_false (p:=9218868437227405312<=(r0:Int)) (Int.not_le.2 hr),Bool.or_false]
      rw [ho] at hf
      have P0:=ordP_pat (A:=sg x.ng A) (ng:=x.ng) hr
      by_cases hl:left=0
      . have hAe:=l0.1 hl
        have e1:rTo 1 x.ng r0 left=(r0:Int):=by rw [t1,if_neg (fun h=>h.1 hl)]
        have e2:rTo 2 x.ng r0 left=(r0:Int):=by rw [t2,if_neg (fun h=>h.1 hl)]
        have e0:rTo 0 x.ng r0 left=(r0:Int):=by rcases t0 with h | h; exact h; exact absurd hl h.1
        rw [hAe,ord_self] at P0
        refine Btw.of (f:=fun way=>toR way x) (hf 1) (hf 2) (hf 3) (hf 0) ?_ ?_ ?_ ?_
        . rw [e1,hAe,P0]; decide
        . rw [e2,hAe,P0]; decide
        . intro _; rw [e1,e2,t3,e0,hAe]; exact ⟨P0,rfl,rfl,rfl⟩
        . intro h; exact absurd hl (of_decide_eq_true h)
      . have hAl:vS r0<A:=by
          rcases Int.lt_or_eq_of_le lo with h | h
          . exact h
          . exact absurd (l0.2 h.symm) hl
        have P1:ordP (sg x.ng A) (patS (x.ng && decide ((0:Int)<((r0+1:Nat):Int))) ((r0+1:Nat):Int))=if x.ng then 1 else -1:=by
          by_cases h1:((r0+1:Nat):Int)<9218868437227405312
          . rw [ordP_pat h1]
            exact ord_sg_lt hi
          . have e:=k_top hr h1
            rw [e]
            exact ordP_inf
        have P0':ordP (sg x.ng A) (patS (x.ng && decide ((0:Int)<(r0:Int))) (r0:Int))=if x.ng then -1 else 1:=by
          rw [P0]
          exact ord_sg_gt hAl
        clear hV
        generalize x.ng=ng at *
        cases ng
        . have e1:rTo 1 false r0 left=(r0:Int):=by rw [t1,if_neg (fun h=>by cases h.2)]
          have e2:rTo 2 false r0 left=((r0+1:Nat):Int):=by rw [t2,if_pos ⟨hl,rfl⟩]
          refine Btw.of (f:=fun way=>toR way x) (hf 1) (hf 2) (hf 3) (hf 0) ?_ ?_ ?_ ?_
          . rw [e1,P0']; decide
          . rw [e2,P1]; decide
          . intro h; exact absurd hl (by simpa using h)
          . intro _
            rw [e1,e2,t3,P0']
            refine ⟨by decide,?_,?_,(fun _=>rfl),(fun h=>by cases h)⟩
            . rw [Bool.false_and,Bool.false_and,up_pos (Int.natCast_nonneg _) hr]; exact (k_one r0).symm
            . rcases t0 with h | h
              . exact .inl h
              . exact .inr h.2
        . have e1:rTo 1 true r0 left=((r0+1:Nat):Int):=by rw [t1,if_pos ⟨hl,rfl⟩]
          have e2:rTo 2 true r0 left=(r0:Int):=by rw [t2,if_neg (fun h=>by cases h.2)]
          refine Btw.of (f:=fun way=>toR way x) (hf 1) (hf 2) (hf 3) (hf 0) ?_ ?_ ?_ ?_
          . rw [e1,P1]; decide
          . rw [e2,P0']; decide
          . intro h; exact absurd hl (by simpa using h)
          . intro _
            rw [e1,e2,t3,P1]
            refine ⟨by decide,?_,?_,(fun h=>by cases h),fun _=>rfl⟩
            . rw [Bool.true_and,Bool.true_and,decide_eq_true (p:=(0:Int)<((r0+1:Nat):Int)) (k_pos r0),up_neg (k_pos r0) (k_le hr),k_sub]
            . rcases t0 with h | h
              . exact .inr h
              . exact .inl h.2
    . obtain ⟨t1,t2,t3,t0⟩:=rTo_inf (ng:=x.ng) (left:=left) hr
      have ho:(decide (left≠0) || decide (9218868437227405312<=(r0:Int)))=true:=by rw [decide_eq_true (p:=9218868437227405312<=(r0:Int)) (Int.not_lt.1 hr),Bool.or_true]
      rw [ho] at hf
      obtain ⟨k,hk⟩:=k_ex
      obtain ⟨hk1,hk2,hk3⟩:=k_fin hk
      have hAl:vS k<A:=Int.lt_of_lt_of_le (vS_lt (k_lt hk hr)) lo
      have P0:ordP (sg x.ng A) (patS (x.ng && decide ((0:Int)<(k:Int))) (k:Int))=if x.ng then -1 else 1:=by
        refine (ordP_pat (A:=sg x.ng A) (ng:=x.ng) hk1).trans ?_
        exact ord_sg_gt hAl
      rw [hk] at t1 t2 t3
      have P1:ordP (sg x.ng A) (patS (x.ng && decide ((0:Int)<9218868437227405312)) 9218868437227405312)=if x.ng then 1 else -1:=ordP_inf
      clear hV hR lo hi l0
      generalize x.ng=ng at *
      cases ng
      . rw [if_neg (by decide)] at t1 t2
        refine Btw.of (f:=fun way=>toR way x) (hf 1) (hf 2) (hf 3) (hf 0) ?_ ?_ ?_ ?_
        . rw [t1,P0]; decide
        . rw [t2,P1]; decide
        . intro h; cases h
        . intro _
          rw [t1,t2,t3,t0,P0]
          refine ⟨by decide,?_,.inr rfl,(fun _=>rfl),(fun h=>by cases h)⟩
          rw [Bool.false_and,Bool.false_and]
          rw [up_pos (Int.natCast_nonneg _) hk1,hk2]
          rfl
      . rw [if_pos rfl] at t1 t2
        refine Btw.of (f:=fun way=>toR way x) (hf 1) (hf 2) (hf 3) (hf 0) ?_ ?_ ?_ ?_
        . rw [t1,P1]; decide
        . rw [t2,P0]; decide
        . intro h; cases h
        . intro _
          rw [t1,t2,t3,t0,P1]
          refine ⟨by decide,?_,.inl rfl,(fun h=>by cases h),fun _=>rfl⟩
          rw [Bool.true_and,Bool.true_and]
          rw [decide_eq_true (p:=(0:Int)<9218868437227405312) (by decide),up_neg (by decide) (Int.le_refl _),hk3]
end Go.Proofs.YtobofhgpidbpmaaDoor
namespace Go.Proofs.YtobofhgpidbpmaaDoor
open Go Go.ChangeShapes Go.WideShapes Go.ChangeAt Go.RowKit Go.Proofs.YtobofhgpidbpmaaDoor.M
end Go.Proofs.YtobofhgpidbpmaaDoor
namespace Go.Proofs.YtobofhgpidbpmaaDoor
open Go Go.RowKit Go.Proofs.YtobofhgpidbpmaaDoor.M
theorem allOk_out {r:Nat->NumR} {n:Nat} (h:allOk r n=true):∀ i,i<n->okR (r i)=true:=of_decide_eq_true h
theorem DFit.no {w w':World} {V er:Int} {v:Value} (h:DFit w w' V v er) (no:¬ Dok V):er=2∧v=zeroV∧Below w.heap.size w w':=by
  rcases h.2 with ⟨ok,_⟩ | ⟨_,h1,h2⟩
  . exact absurd ok no
  . exact ⟨h1,h2,h.1⟩
theorem DNum.open2 {w:World} {ng:Bool} {so:Option Addr} {sn sc:Nat} {e V:Int} (h:DNum w (.agg #[.bool ng,.slice so sn sc,.int .i64 e]) V) (ok:Dok V):∃ d,Row w so sn sc d∧okR ⟨ng,so,sn,sc,d,e⟩=true∧(⟨ng,so,sn,sc,d,e⟩:NumR).V=V:=by
  obtain ⟨x,h1,h2,h3,h4⟩:=h.open ok
  obtain ⟨xg,xo,xn,xc,xd,xe⟩:=x
  simp only [NumR.v,Value.agg.injEq,Array.mk.injEq,List.cons.injEq,Value.bool.injEq,Value.int.injEq,Value.slice.injEq,and_true,true_and] at h1
  obtain ⟨rfl,⟨rfl,rfl,rfl⟩,rfl⟩:=h1
  exact ⟨xd,h2,h3,h4⟩
end Go.Proofs.YtobofhgpidbpmaaDoor
namespace Go.Proofs.YtobofhgpidbpmaaDoor
open Go Go.ChangeShapes Go.WideShapes Go.ChangeAt Go.RowKit Go.Proofs.YtobofhgpidbpmaaDoor.M
structure Hold4 (w:World):Prop where
  lay:Lay64 w
  tab:Tab w
  env:Env w
theorem Hold4.keeps {w w':World} (h:Hold4 w) (hb:Below w.heap.size w w'):Hold4 w':=⟨h.lay.keeps hb,h.tab.keeps hb,h.env.keeps hb⟩
theorem rTo_range (way:Int) (ng:Bool) (r0:Nat) (left:Int):0<=rTo way ng r0 left∧rTo way ng r0 left<=9218868437227405312:=by
  unfold rTo
  split
  . split <;> omega
  . unfold bRung
    repeat' split
    all_goals decide
end Go.Proofs.YtobofhgpidbpmaaDoor
namespace Go.Proofs.YtobofhgpidbpmaaDoor
open Go Go.RowKit Go.Proofs.YtobofhgpidbpmaaDoor.M
def RdOf (V:Int) (ng:Bool) (f:Int->Int × Bool):Prop:=∃ (A:Int) (r0:Nat) (left:Int),V=sg ng A∧(ng=true->0<A)∧Rung A r0 left∧∀ way,f way=(patS (ng && decide (0<rTo way ng r0 left)) (rTo way ng r0 left),decide (left≠0) || decide (9218868437227405312<=(r0:Int)))
theorem ord_neg_iff {a b:Int}:ord a b<0 ↔ a<b:=by
  rcases Int.lt_trichotomy a b with h | h | h
  . rw [ord_lt h]; exact ⟨fun _=>h,fun _=>by decide⟩
  . rw [ord_eq h]; exact ⟨fun q=>absurd q (by decide),fun q=>by omega⟩
  . rw [ord_gt h]; exact ⟨fun q=>absurd q (by decide),fun q=>by omega⟩
theorem ord_pos_iff {a b:Int}:0<ord a b ↔ b<a:=by
  rcases Int.lt_trichotomy a b with h | h | h
  . rw [ord_lt h]; exact ⟨fun q=>absurd q (by decide),fun q=>by omega⟩
  . rw [ord_eq h]; exact ⟨fun q=>absurd q (by decide),fun q=>by omega⟩
  . rw [ord_gt h]; exact ⟨fun _=>h,fun _=>by decide⟩
theorem ord_zero_iff {a b:Int}:ord a b=0 ↔ a=b:=by
  rcases Int.lt_trichotomy a b with h | h | h
  . rw [ord_lt h]; exact ⟨fun q=>absurd q (by decide),fun q=>by omega⟩
  . rw [ord_eq h]; exact ⟨fun _=>h,fun _=>rfl⟩
  . rw [ord_gt h]; exact ⟨fun q=>absurd q (by decide),fun q=>by omega⟩
theorem near_pos {A a b left:Int} (l1:left=1 ↔ a<A∧2*A<a+b) (l2:left=2 ↔ 2*A=a+b) (l3:left=3 ↔ a+b<2*A) (lo:a<A) :
    (ord (A-a) (b-A)<0->left=1)∧(0<ord (A-a) (b-A)->left=3)∧(ord (A-a) (b-A)=0->left=2) :=
  ⟨fun h=>l1.2 ⟨lo,by have:=ord_neg_iff.1 h; omega⟩,fun h=>l3.2 (by have:=ord_pos_iff.1 h; omega),fun h=>l2.2 (by have:=ord_zero_iff.1 h; omega)⟩
theorem near_neg {A a b left:Int} (l1:left=1 ↔ a<A∧2*A<a+b) (l2:left=2 ↔ 2*A=a+b) (l3:left=3 ↔ a+b<2*A) (lo:a<A) :
    (ord (-A - -b) (-a - -A)<0->left=3)∧(0<ord (-A - -b) (-a - -A)->left=1)∧(ord (-A - -b) (-a - -A)=0->left=2) :=
  ⟨fun h=>l3.2 (by have:=ord_neg_iff.1 h; omega),fun h=>l1.2 ⟨lo,by have:=ord_pos_iff.1 h; omega⟩,fun h=>l2.2 (by have:=ord_zero_iff.1 h; omega)⟩
theorem near_posS {A a b left:Int} (l1:left=1 ↔ a<A∧2*A<a+b) (l2:left=2 ↔ 2*A=a+b) (l3:left=3 ↔ a+b<2*A) (lo:a<A) :
    (ord (sg false A-sg false a) (sg false b-sg false A)<0->left=1)∧(0<ord (sg false A-sg false a) (sg false b-sg false A)->left=3)∧(ord (sg false A-sg false a) (sg false b-sg false A)=0->left=2):=near_pos l1 l2 l3 lo
theorem near_negS {A a b left:Int} (l1:left=1 ↔ a<A∧2*A<a+b) (l2:left=2 ↔ 2*A=a+b) (l3:left=3 ↔ a+b<2*A) (lo:a<A) :
    (ord (sg true A-sg true b) (sg true a-sg true A)<0->left=3)∧(0<ord (sg true A-sg true b) (sg true a-sg true A)->left=1)∧(ord (sg true A-sg true b) (sg true a-sg true A)=0->left=2):=near_neg l1 l2 l3 lo
theorem rTo0_1 {ng:Bool} {r0:Nat} (h:(r0:Int)<9218868437227405312):rTo 0 ng r0 1=(r0:Int):=by
  unfold rTo
  rw [if_pos h]
  simp [rUp]
theorem rTo0_3 {ng:Bool} {r0:Nat} (h:(r0:Int)<9218868437227405312):rTo 0 ng r0 3=((r0+1:Nat):Int):=by
  unfold rTo
  rw [if_pos h]
  simp [rUp]
theorem rTo0_2 {ng:Bool} {r0:Nat} (h:(r0:Int)<9218868437227405312):rTo 0 ng r0 2 % 2=0:=by
  unfold rTo
  rw [if_pos h]
  by_cases hp:r0 % 2=1
  . simp [rUp,hp]; omega
  . simp [rUp,hp]; omega
theorem patS_even {b:Bool} {r:Int} (h:r % 2=0):patS b r % 2=0:=by
  unfold patS
  cases b
  . exact h
  . show (r-9223372036854775808) % 2=0; omega
theorem and_pos {ng:Bool} {r:Int} (h:(ng && decide (0<r))=true):0<r:=by
  cases ng
  . cases h
  . rw [Bool.true_and] at h; exact of_decide_eq_true h
theorem pat_fin {ng:Bool} {r:Int} (h0:0<=r) (h1:r<=9218868437227405312) (h:pok (patS (ng && decide (0<r)) r)=true):r<9218868437227405312:=by
  rw [patS_pok h0 h1 and_pos] at h
  exact of_decide_eq_true h
theorem patV_rung {ng:Bool} {r:Nat} (h:(r:Int)<9218868437227405312):patV (patS (ng && decide ((0:Int)<(r:Int))) (r:Int))=sg ng (vS r):=by
  rw [patV_patS h (fun q=>by have:=and_pos q; omega)]
  by_cases h0:r=0
  . subst h0
    rw [vS_zero]
    simp [sg]
  . have e:(ng && decide ((0:Int)<(r:Int)))=ng:=by rw [decide_eq_true (by omega),Bool.and_true]
    rw [e]
structure Nea (V:Int) (f:Int->Int × Bool):Prop where
  lo:ord (V-patV (f 1).1) (patV (f 2).1-V)<0->(f 0).1=(f 1).1
  hi:0<ord (V-patV (f 1).1) (patV (f 2).1-V)->(f 0).1=(f 2).1
  ev:ord (V-patV (f 1).1) (patV (f 2).1-V)=0->(f 0).1 % 2=0
theorem Nea.of {V:Int} {f:Int->Int × Bool} {d u n p q:Int} {o:Bool} (f1:f 1=(d,o)) (f2:f 2=(u,o)) (f0:f 0=(n,o)) (hd:patV d=p) (hu:patV u=q)
    (lo:ord (V-p) (q-V)<0->n=d) (hi:0<ord (V-p) (q-V)->n=u) (ev:ord (V-p) (q-V)=0->n % 2=0):Nea V f:=by
  subst hd hu
  exact ⟨by rw [f1,f2,f0]; exact lo,by rw [f1,f2,f0]; exact hi,by rw [f1,f2,f0]; exact ev⟩
theorem nearest {V:Int} {ng:Bool} {f:Int->Int × Bool} (h:RdOf V ng f) (o:(f 0).2=true) (pd:pok (f 1).1=true) (pu:pok (f 2).1=true):Nea V f:=by
  obtain ⟨A,r0,left,hV,hA,hR,hf⟩:=h
  have f1:=hf 1
  have f2:=hf 2
  have f0:=hf 0
  rw [f1] at pd
  rw [f2] at pu
  rw [f0] at o
  have g1:=rTo_range 1 ng r0 left
  have g2:=rTo_range 2 ng r0 left
  have q1:=pat_fin g1.1 g1.2 pd
  have q2:=pat_fin g2.1 g2.2 pu
  clear pd pu hf g1 g2
  by_cases hr:(r0:Int)<9218868437227405312
  . obtain ⟨t1,t2,t3,t0⟩:=rTo_fin (ng:=ng) (left:=left) hr
    have hl:left≠0:=by
      have o':(decide (left≠0) || decide (9218868437227405312<=(r0:Int)))=true:=o
      rw [decide_eq_false (p:=9218868437227405312<=(r0:Int)) (Int.not_le.2 hr),Bool.or_false] at o'
      exact of_decide_eq_true o'
    have hAl:vS r0<A:=by
      rcases Int.lt_or_eq_of_le hR.lo with h | h
      . exact h
      . exact absurd (hR.l0.2 h.symm) hl
    have l1:=hR.l1
    have l2:=hR.l2
    have l3:=hR.l3
    clear hR t3 t0 hA
    have V0:=patV_rung (ng:=ng) hr
    cases ng
    . have e1:rTo 1 false r0 left=(r0:Int):=by rw [t1,if_neg (fun h=>by cases h.2)]
      have e2:rTo 2 false r0 left=((r0+1:Nat):Int):=by rw [t2,if_pos ⟨hl,rfl⟩]
      rw [e1] at f1
      rw [e2] at f2 q2
      have V1:=patV_rung (ng:=false) q2
      obtain ⟨n1,n2,n3⟩:=near_posS l1 l2 l3 hAl
      refine Nea.of f1 f2 f0 V0 V1 ?_ ?_ ?_
      . intro h
        rw [hV] at h
        have:=n1 h
        subst this
        rw [rTo0_1 hr]
      . intro h
        rw [hV] at h
        have:=n2 h
        subst this
        rw [rTo0_3 hr]
      . intro h
        rw [hV] at h
        have:=n3 h
        subst this
        exact patS_even (rTo0_2 hr)
    . have e1:rTo 1 true r0 left=((r0+1:Nat):Int):=by rw [t1,if_pos ⟨hl,rfl⟩]
      have e2:rTo 2 true r0 left=(r0:Int):=by rw [t2,if_neg (fun h=>by cases h.2)]
      rw [e1] at f1 q1
      rw [e2] at f2
      have V1:=patV_rung (ng:=true) q1
      obtain ⟨n1,n2,n3⟩:=near_negS l1 l2 l3 hAl
      refine Nea.of f1 f2 f0 V1 V0 ?_ ?_ ?_
      . intro h
        rw [hV] at h
        have:=n1 h
        subst this
        rw [rTo0_3 hr]
      . intro h
        rw [hV] at h
        have:=n2 h
        subst this
        rw [rTo0_1 hr]
      . intro h
        rw [hV] at h
        have:=n3 h
        subst this
        exact patS_even (rTo0_2 hr)
  . exfalso
    obtain ⟨t1,t2,t3,t0⟩:=rTo_inf (ng:=ng) (left:=left) hr
    rw [t1] at q1
    rw [t2] at q2
    clear f1 f2 f0 o hV hA hR
    cases ng
    . rw [if_neg (by decide)] at q2; omega
    . rw [if_pos rfl] at q1; omega
end Go.Proofs.YtobofhgpidbpmaaDoor
namespace Go.Proofs.YtobofhgpidbpmaaDoor.M
open Go
/-! the order of all -/
theorem ord_neg (a b:Int):b_ord a b=- b_ord b a:=by
  unfold b_ord; repeat' split
  all_goals omega
end Go.Proofs.YtobofhgpidbpmaaDoor.M
namespace Go.Proofs.YtobofhgpidbpmaaDoor.M
open Go Ieee
theorem cut_zero (neg:Bool) (n:Nat):Toward.even.cut neg n 0=n:=by
  unfold Toward.cut
  have h1:n % 1=0:=Nat.mod_one n
  simp [h1]
theorem dLeast:Ieee.double.leastPlace=-1074:=by decide
end Go.Proofs.YtobofhgpidbpmaaDoor.M
namespace Go.Proofs.YtobofhgpidbpmaaDoor
open Go Go.RowKit Go.Proofs.YtobofhgpidbpmaaDoor.M Ieee
def lefN (t D:Nat):Int:=if t=0 then 0 else if 2*t<D then 1 else if 2*t=D then 2 else 3
theorem left_nat {mag u t D:Nat} {q:Int} (hq:0<q) (hm:mag=u*D+t) (ht:t<D):M.Left ((mag:Int)*q) u ((D:Int)*q) (lefN t D):=by
  have e:(mag:Int)*q=(u:Int)*((D:Int)*q)+(t:Int)*q:=by
    rw [hm]; push_cast; rw [Int.add_mul,Int.mul_assoc]
  have k1:∀ a b:Nat,a<b->(a:Int)*q<(b:Int)*q:=fun a b h=>Int.mul_lt_mul_of_pos_right (by omega) hq
  have t0:0<=(t:Int)*q:=Int.mul_nonneg (by omega) (Int.le_of_lt hq)
  have t1:=k1 t D ht
  have e2:((2*t:Nat):Int)*q=2*((t:Int)*q):=by push_cast; rw [Int.mul_assoc]
  have z1:2*t<D->2*((t:Int)*q)<(D:Int)*q:=fun h=>by rw [<- e2]; exact k1 _ _ h
  have z2:2*t=D->2*((t:Int)*q)=(D:Int)*q:=fun h=>by rw [<- e2,h]
  have z3:D<2*t->(D:Int)*q<2*((t:Int)*q):=fun h=>by rw [<- e2]; exact k1 _ _ h
  have z4:0<t->0<(t:Int)*q:=fun h=>Int.mul_pos (by omega) hq
  have z5:t=0->(t:Int)*q=0:=fun h=>by rw [h]; simp
  obtain ⟨U,hU⟩:∃ U,(u:Int)*((D:Int)*q)=U:=⟨_,rfl⟩
  rw [e,hU]
  generalize (t:Int)*q=T at *
  generalize (D:Int)*q=R at *
  unfold lefN
  by_cases c0:t=0
  . rw [if_pos c0]
    have:=z5 c0
    exact M.Left.mk' hU (by omega) (by omega) (by constructor <;> intro h <;> omega) (by constructor <;> intro h <;> omega) (by constructor <;> intro h <;> omega) (by constructor <;> intro h <;> omega)
  . have:=z4 (by omega)
    rw [if_neg c0]
    by_cases c1:2*t<D
    . rw [if_pos c1]
      have:=z1 c1
      exact M.Left.mk' hU (by omega) (by omega) (by constructor <;> intro h <;> omega) (by constructor <;> intro h <;> omega) (by constructor <;> intro h <;> omega) (by constructor <;> intro h <;> omega)
    . rw [if_neg c1]
      by_cases c2:2*t=D
      . rw [if_pos c2]
        have:=z2 c2
        exact M.Left.mk' hU (by omega) (by omega) (by constructor <;> intro h <;> omega) (by constructor <;> intro h <;> omega) (by constructor <;> intro h <;> omega) (by constructor <;> intro h <;> omega)
      . rw [if_neg c2]
        have:=z3 (by omega)
        exact M.Left.mk' hU (by omega) (by omega) (by constructor <;> intro h <;> omega) (by constructor <;> intro h <;> omega) (by constructor <;> intro h <;> omega) (by constructor <;> intro h <;> omega)
theorem up_lef (neg odd:Bool) (t D:Nat) (ht:t<D):rUp 0 neg odd (lefN t D)=(decide (D<2*t) || (decide (D=2*t) && odd)):=by
  unfold rUp lefN
  rw [if_pos rfl]
  by_cases c0:t=0
  . rw [if_pos c0,decide_eq_false (p:=D<2*t) (by omega),decide_eq_false (p:=D=2*t) (by omega)]
    simp
  . rw [if_neg c0]
    by_cases c1:2*t<D
    . rw [if_pos c1,decide_eq_false (p:=D<2*t) (by omega),decide_eq_false (p:=D=2*t) (by omega)]
      simp
    . rw [if_neg c1]
      by_cases c2:2*t=D
      . rw [if_pos c2,decide_eq_false (p:=D<2*t) (by omega),decide_eq_true (p:=D=2*t) (by omega)]
        simp
      . rw [if_neg c2,decide_eq_true (p:=D<2*t) (by omega)]
        simp
theorem cut_even (neg:Bool) (n d:Nat) (hn:n≠0):Toward.even.cut neg n d=n/2^d+(if rUp 0 neg (decide (n/2^d % 2=1)) (lefN (n % 2^d) (2^d)) then 1 else 0):=by
  have h2:n<2^(n.log2+1):=Nat.lt_log2_self
  have hD:=Nat.two_pow_pos d
  rw [up_lef _ _ _ _ (Nat.mod_lt _ hD)]
  unfold Toward.cut
  dsimp only
  by_cases h:d<=n.log2+2
  . rw [Nat.min_eq_left h,Nat.shiftLeft_eq,Nat.one_mul]
    congr 1
    have e1:(2^d == 2*(n % 2^d))=decide (2^d=2*(n % 2^d)):=rfl
    have e2:(n/2^d % 2 == 1)=decide (n/2^d % 2=1):=rfl
    rw [e1,e2]
    cases (decide (2^d<2*(n % 2^d)) || decide (2^d=2*(n % 2^d)) && decide (n/2^d % 2=1)) <;> rfl
  . rw [Nat.min_eq_right (by omega),Nat.shiftLeft_eq,Nat.one_mul]
    have h3:2^(n.log2+2)=2*2^(n.log2+1):=by rw [Nat.pow_succ,Nat.mul_comm]
    have h4:2^(n.log2+2)<=2^d:=Nat.pow_le_pow_right (by decide) (by omega)
    have q1:n/2^(n.log2+2)=0:=Nat.div_eq_of_lt (by omega)
    have q2:n % 2^(n.log2+2)=n:=Nat.mod_eq_of_lt (by omega)
    have q3:n/2^d=0:=Nat.div_eq_of_lt (by omega)
    have q4:n % 2^d=n:=Nat.mod_eq_of_lt (by omega)
    rw [q1,q2,q3,q4,decide_eq_false (p:=2^d<2*n) (by omega),decide_eq_false (p:=2^d=2*n) (by omega),decide_eq_false (p:=2^(n.log2+2)<2*n) (by omega)]
    have e1:(2^(n.log2+2) == 2*n)=decide (2^(n.log2+2)=2*n):=rfl
    rw [e1,decide_eq_false (p:=2^(n.log2+2)=2*n) (by omega)]
    rfl
theorem dLeast:Ieee.double.leastPlace=-1074:=by decide
theorem dFrac:Ieee.double.fractionBits=52:=by decide
theorem dBin:Ieee.double.binade=4503599627370496:=by decide
def lastP (mag:Nat) (place:Int):Int:=max (place+(mag.log2:Int)-52) (-1074)
theorem nearest_word (neg:Bool) {mag:Nat} (place:Int) (h:mag≠0):Ieee.double.nearest neg mag place=Ieee.double.word neg (min ((lastP mag place+1074).toNat*4503599627370496+Toward.even.cut neg (mag*2^(place-lastP mag place).toNat) (lastP mag place-place).toNat) 9218868437227405312):=by
  unfold Format.nearest
  rw [if_neg h,dLeast,dFrac,dBin,dInf]
  dsimp only
  rw [Nat.shiftLeft_eq,show (lastP mag place+1074)=(lastP mag place - -1074) by omega]
  rfl
theorem minInf {r:Nat} {up:Bool} {neg:Bool} {left:Int} (hup:rUp 0 neg (decide (r % 2=1)) left=up):((min (r+(if up=true then 1 else 0)) 9218868437227405312:Nat):Int)=rTo 0 neg r left:=by
  unfold rTo
  rw [hup]
  by_cases h:(r:Int)<9218868437227405312
  . rw [if_pos h]
    cases up
    . simp only [Bool.false_eq_true,if_false]; omega
    . simp only [if_true]; omega
  . rw [if_neg h]
    have hb:bRung 0 neg=9218868437227405312:=by cases neg <;> rfl
    rw [hb]
    split <;> omega
theorem odd_rung (a u:Nat):decide ((a*4503599627370496+u) % 2=1)=decide (u % 2=1):=by congr 1; apply propext; omega
theorem nearest_rung (neg:Bool) {mag:Nat} {place:Int} (h:mag≠0) (hp:-4194304<=place) :
    ∃ (r0:Nat) (left:Int),Rung ((mag:Int)*pw place) r0 left∧Ieee.double.nearest neg mag place=Ieee.double.word neg (rTo 0 neg r0 left).toNat:=by
  rw [nearest_word neg place h]
  have h1:=Nat.log2_self_le h
  have h2:mag<2^(mag.log2+1):=Nat.lt_log2_self
  have hL:lastP mag place=max (place+(mag.log2:Int)-52) (-1074):=rfl
  obtain ⟨l,hl⟩:∃ l,lastP mag place=l:=⟨_,rfl⟩
  rw [hl] at hL ⊢
  have hl0:-1074<=l:=by omega
  have hl1:place+(mag.log2:Int)-52<=l:=by omega
  have hl2:-1074<l->l=place+(mag.log2:Int)-52:=by omega
  obtain ⟨a,ha⟩:∃ a:Nat,(l+1074).toNat=a:=⟨_,rfl⟩
  have hal:l=-1074+(a:Int):=by omega
  have e52:(2:Nat)^52=4503599627370496:=by decide
  have e53:(2:Nat)^53=9007199254740992:=by decide
  rw [ha]
  -- u units of 2^l and what is left
  have main:∃ (u:Nat) (left:Int),M.Left ((mag:Int)*pw place) u (pw l) left∧Toward.even.cut neg (mag*2^(place-l).toNat) (l-place).toNat=u+(if rUp 0 neg (decide (u % 2=1)) left then 1 else 0)∧u<9007199254740992∧(0<a->4503599627370496<=u):=by
    by_cases hs:l<=place
    . obtain ⟨k,hk⟩:∃ k:Nat,(place-l).toNat=k:=⟨_,rfl⟩
      have hpl:place=l+(k:Int):=by omega
      rw [hk,show (l-place).toNat=0 by omega,cut_zero]
      refine ⟨mag*2^k,0,?_,?_,?_,?_⟩
      . have e:(mag:Int)*pw place=((mag*2^k:Nat):Int)*pw l:=by
          rw [hpl,pw_add (by omega),Int.mul_comm (pw l)]
          push_cast
          rw [Int.mul_assoc]
        have:=left_nat (mag:=mag*2^k) (u:=mag*2^k) (t:=0) (D:=1) (pw_pos l) (by omega) (by decide)
        rw [e]
        have e1:((1:Nat):Int)*pw l=pw l:=by rw [Int.natCast_one,Int.one_mul]
        rw [e1] at this
        exact this
      . have:rUp 0 neg (decide (mag*2^k % 2=1)) 0=false:=by
          cases hu:rUp 0 neg (decide (mag*2^k % 2=1)) 0
          . rfl
          . exact (rUp_left hu).elim
        rw [this]
        rfl
      . have b1:mag*2^k<2^(mag.log2+1)*2^k:=Nat.mul_lt_mul_of_pos_right h2 (Nat.two_pow_pos _)
        rw [<- Nat.pow_add] at b1
        have b2:2^(mag.log2+1+k)<=2^53:=Nat.pow_le_pow_right (by decide) (by omega)
        omega
      . intro h0
        have b1:2^mag.log2*2^k<=mag*2^k:=Nat.mul_le_mul_right _ h1
        rw [<- Nat.pow_add] at b1
        have b2:2^52<=2^(mag.log2+k):=Nat.pow_le_pow_right (by decide) (by have:=hl2 (by omega); omega)
        omega
    . obtain ⟨k,hk⟩:∃ k:Nat,(l-place).toNat=k:=⟨_,rfl⟩
      have hpl:l=place+(k:Int):=by omega
      rw [hk,show (place-l).toNat=0 by omega,Nat.pow_zero,Nat.mul_one,cut_even neg mag k h]
      have hD:=Nat.two_pow_pos k
      have hdm:=Nat.div_add_mod mag (2^k)
      have hml:=Nat.mod_lt mag hD
      refine ⟨mag/2^k,lefN (mag % 2^k) (2^k),?_,rfl,?_,?_⟩
      . have:=left_nat (mag:=mag) (u:=mag/2^k) (t:=mag % 2^k) (D:=2^k) (pw_pos place) (by rw [Nat.mul_comm]; exact hdm.symm) hml
        have e:pw l=((2^k:Nat):Int)*pw place:=by
          rw [hpl,pw_add hp,Int.mul_comm]
          push_cast
          rfl
        rw [e]
        exact this
      . rw [Nat.div_lt_iff_lt_mul hD,<- e53,<- Nat.pow_add]
        exact Nat.lt_of_lt_of_le h2 (Nat.pow_le_pow_right (by decide) (by omega))
      . intro h0
        rw [Nat.le_div_iff_mul_le hD,<- e52,<- Nat.pow_add]
        exact Nat.le_trans (Nat.pow_le_pow_right (by decide) (by have:=hl2 (by omega); omega)) h1
  obtain ⟨u,left,hLeft,hcut,hu1,hu2⟩:=main
  rw [hcut]
  have hV:=V_rung Ieee.double a u (by rw [dBin]; omega) (fun q=>by rw [dBin]; exact hu2 q)
  rw [dBin] at hV
  have hpw:pw l=2^a*pw (-1074):=by rw [hal,pw_add (by decide),Int.mul_comm]
  rw [hpw] at hLeft
  refine ⟨a*4503599627370496+u,left,left_rung hLeft hV.1 hV.2,?_⟩
  have hm:=minInf (r:=a*4503599627370496+u) (neg:=neg) (left:=left) rfl
  rw [odd_rung] at hm
  rw [<- hm,Int.toNat_natCast,Nat.add_assoc]
end Go.Proofs.YtobofhgpidbpmaaDoor
namespace Go.Proofs.YtobofhgpidbpmaaDoor
open Go Go.RowKit Go.Proofs.YtobofhgpidbpmaaDoor.M
theorem patV_bd {b:Int} (h:pok b=true):Bd 4000 (patV b):=by
  obtain ⟨i0,i1,i2,i3⟩:=pmag_in h
  have h30:(9007199254740992:Int)<=P 30:=by unfold P; decide
  exact bd_num i0 (Int.lt_of_lt_of_le (by omega) h30) (by omega) (by omega)
theorem Bd.sub {B:Nat} {V W:Int} (h:Bd B V) (k:Bd B W) (hB:B<4194304):Bd (B+1) (V-W):=by
  rw [Int.sub_eq_add_neg]
  exact h.add k.neg hB
theorem of_ok {b:Int} {w:World} (h:pok b=true) (H:Hold4 w):Calls Tryd.prog 43 #[.int .i64 b] w fun r w'=>∃ v,r=.returned (.tuple #[v,.int .i64 0])∧DAns w w' (patV b) v:=by
  refine (dof_any b w H.lay H.tab).mono ?_
  rintro _ w' ⟨v,er,rfl,hb,(⟨_,rfl,hD⟩ | ⟨h',_⟩)⟩
  . exact ⟨v,rfl,hD⟩
  . rw [h] at h'; cases h'
theorem cls_pat {s:Bool} {r:Int} (h0:0<=r) (h1:r<=9218868437227405312) (h:s=true->0<r):cls (patS s r)≠4:=by
  obtain ⟨a,b,_⟩:=patS_facts h0 h1 h
  intro q
  have:=(cls_rg a).1.1 q
  omega
theorem key_pat {s:Bool} {r:Int} (h0:0<=r) (h1:r<=9218868437227405312) (h:s=true->0<r):key (patS s r)=sg s r:=by
  unfold key patS sg
  cases s
  . simp only [Bool.false_eq_true,if_false]
    rw [if_neg (by omega)]
  . have:=h rfl
    simp only [if_true]
    rw [if_pos (by omega)]
    omega
theorem rg_neg {b:Int} (hb:rng b) (h:cls b≠4):rg (neg b)=rg b∧key (neg b)=-key b:=by
  unfold rng at hb
  unfold neg
  rw [if_neg h]
  unfold rg key
  by_cases h0:b<0
  . rw [if_pos h0,if_neg (by omega),if_pos h0,if_neg (by omega),if_pos h0]; omega
  . rw [if_neg h0,if_pos (by omega),if_neg h0,if_pos (by omega),if_neg h0]; omega
theorem cls_neg {b:Int} (hb:rng b) (h:cls b≠4):cls (neg b)≠4:=by
  intro q
  have h1:=(cls_rg (rng_neg hb)).1.1 q
  rw [(rg_neg hb h).1] at h1
  exact h ((cls_rg hb).1.2 h1)
theorem rUp_mono {way:Int} {ng odd:Bool} {A B a b l k:Int} (h0:l=0 ↔ A=a) (h2:l=2 ↔ 2*A=a+b) (h3:l=3 ↔ a+b<2*A) (g0:k=0 ↔ B=a) (g2:k=2 ↔ 2*B=a+b) (g3:k=3 ↔ a+b<2*B) (lo:a<=A) (AB:A<=B)
    (h:rUp way ng odd l=true):rUp way ng odd k=true:=by
  have nz:l≠0->k≠0:=fun q e=>by
    have e1:=g0.1 e
    exact q (h0.2 (by omega))
  unfold rUp at *
  split at h
  . rename_i e
    rw [if_pos e]
    simp only [Bool.or_eq_true,Bool.and_eq_true,decide_eq_true_eq] at *
    rcases h with h | ⟨h,ho⟩
    . left; exact g3.2 (by have:=h3.1 h; omega)
    . have e2:=h2.1 h
      by_cases e3:2*B=a+b
      . right; exact ⟨g2.2 e3,ho⟩
      . left; exact g3.2 (by omega)
  . rename_i e
    rw [if_neg e]
    split at h
    . rename_i e2
      rw [if_pos e2]
      simp only [Bool.and_eq_true,decide_eq_true_eq] at *
      exact ⟨nz h.1,h.2⟩
    . rename_i e2
      rw [if_neg e2]
      split at h
      . rename_i e3
        rw [if_pos e3]
        simp only [Bool.and_eq_true,decide_eq_true_eq] at *
        exact ⟨nz h.1,h.2⟩
      . cases h
theorem rung_le {A B:Int} {r s:Nat} {l k:Int} (h:Rung A r l) (g:Rung B s k) (AB:A<=B):r<=s:=by
  rcases Nat.lt_or_ge s r with q | q
  . exfalso
    have h1:=h.lo
    have g1:=g.hi
    have e:vS (s+1)<=vS r:=by
      rcases Nat.lt_or_eq_of_le (show s+1<=r from q) with q2 | q2
      . exact Int.le_of_lt (vS_lt q2)
      . rw [q2]; exact Int.le_refl _
    exact absurd (Int.lt_of_lt_of_le g1 (Int.le_trans e (Int.le_trans h1 AB))) (Int.lt_irrefl _)
  . exact q
theorem rTo_mono {way:Int} {ng:Bool} {A B:Int} {r s:Nat} {l k:Int} (h:Rung A r l) (g:Rung B s k) (AB:A<=B):rTo way ng r l<=rTo way ng s k:=by
  have hrs:=rung_le h g AB
  rcases Nat.lt_or_eq_of_le hrs with q | q
  . clear h g
    unfold rTo
    by_cases hs:(s:Int)<9218868437227405312
    . rw [if_pos hs,if_pos (by omega)]
      split <;> split <;> omega
    . rw [if_neg hs]
      by_cases hr:(r:Int)<9218868437227405312
      . rw [if_pos hr]
        unfold bRung
        cases hu:rUp way ng (decide (r % 2=1)) l
        . simp only [Bool.false_eq_true,if_false]
          split <;> omega
        . rw [if_pos rfl,if_pos (rUp_more hu)]
          omega
      . rw [if_neg hr]
        exact Int.le_refl _
  . subst q
    have lo:=h.lo
    have h0:=h.l0
    have h2:=h.l2
    have h3:=h.l3
    have g0:=g.l0
    have g2:=g.l2
    have g3:=g.l3
    have hm:=fun odd=>@rUp_mono way ng odd A B (vS r) (vS (r+1)) l k h0 h2 h3 g0 g2 g3 lo AB
    clear h g lo h0 h2 h3 g0 g2 g3
    unfold rTo
    by_cases hr:(r:Int)<9218868437227405312
    . rw [if_pos hr,if_pos hr]
      cases hu:rUp way ng (decide (r % 2=1)) l
      . simp only [Bool.false_eq_true,if_false]
        split <;> omega
      . rw [hm _ hu]
        exact Int.le_refl _
    . rw [if_neg hr,if_neg hr]
      exact Int.le_refl _
theorem vS_nonneg (r:Nat):0<=vS r:=by
  rcases Nat.eq_zero_or_pos r with h | h
  . subst h; rw [vS_zero]; exact Int.le_refl _
  . have:=vS_lt h
    rw [vS_zero] at this
    exact Int.le_of_lt this
theorem sg_key (ng:Bool) {r:Int} (h0:0<=r):sg (ng && decide (0<r)) r=sg ng r:=by
  by_cases h:0<r
  . rw [decide_eq_true h,Bool.and_true]
  . obtain rfl:r=0:=by omega
    cases ng <;> rfl
theorem RdOf.key {V:Int} {ng:Bool} {f:Int->Int × Bool} {A:Int} {r0:Nat} {left:Int} {way:Int} (hf:f way=(patS (ng && decide (0<rTo way ng r0 left)) (rTo way ng r0 left),decide (left≠0) || decide (9218868437227405312<=(r0:Int)))) :
    M.key (f way).1=sg ng (rTo way ng r0 left)∧cls (f way).1≠4∧rng (f way).1:=by
  obtain ⟨g1,g2⟩:=rTo_range way ng r0 left
  rw [hf]
  exact ⟨(key_pat g1 g2 and_pos).trans (sg_key ng g1),cls_pat g1 g2 and_pos,(patS_facts g1 g2 and_pos).1⟩
structure Quo (U S d:Int) (o:Bool):Prop where
  rg:rng d
  fin:pok d=true->patV d*S<=U∧(patV d*S=U ↔ o=false)
  nxt:pok (next d)=true->U<patV (next d)*S
  neg:pok d=false->d<0
theorem next_pos {r:Int} (h0:0<=r) (h1:r<9218868437227405312):next (patS false r)=patS false (r+1):=by
  have hc:=cls_pat (s:=false) (r:=r) h0 (by omega) (fun h=>by cases h)
  unfold next
  rw [if_neg hc]
  show (if r=9218868437227405312 then r else if r=-9223372036854775808 then 1 else if r<0 then r-1 else r+1)=r+1
  rw [if_neg (by omega),if_neg (by omega),if_neg (by omega)]
theorem pmag_nz:pmag (-9223372036854775808)=0:=by decide
theorem patV_neg {r:Nat} (h:(r:Int)<9218868437227405312):patV (patS true (r:Int))=sg true (vS r):=by
  by_cases h0:r=0
  . subst h0
    rw [vS_zero]
    show patV (-9223372036854775808)=sg true 0
    unfold patV
    rw [pmag_nz,sg_zero,sg_zero,Int.zero_mul]
  . exact patV_patS h (fun _=>by omega)
theorem pok_pos {r:Int} (h0:0<=r) (h1:r<=9218868437227405312) (h:pok (patS false r)=true):r<9218868437227405312:=by
  rw [patS_pok h0 h1 (fun q=>by cases q)] at h
  exact of_decide_eq_true h
theorem Quo.pos {S A:Int} {r:Nat} {o:Bool} (hr:(r:Int)<9218868437227405312) (lo:vS r*S<=A) (eq:vS r*S=A ↔ o=false) (hi:((r+1:Nat):Int)<9218868437227405312->A<vS (r+1)*S):Quo A S (patS false (r:Int)) o:=by
  have hv:patV (patS false (r:Int))=vS r:=by
    have:=patV_patS (ng:=false) hr (fun h=>by cases h)
    rw [this]
    unfold sg
    rw [if_neg (by decide)]
  have hnx:next (patS false (r:Int))=patS false ((r+1:Nat):Int):=by
    rw [next_pos (by omega) hr]; rfl
  refine ⟨(patS_facts (by omega) (by omega) (fun h=>by cases h)).1,fun _=>?_,fun h=>?_,fun h=>?_⟩
  . rw [hv]; exact ⟨lo,eq⟩
  . rw [hnx] at h ⊢
    have h1:=pok_pos (by omega) (by omega) h
    have:=patV_patS (ng:=false) h1 (fun h=>by cases h)
    rw [this]
    unfold sg
    rw [if_neg (by decide)]
    exact hi h1
  . exfalso
    rw [patS_pok (by omega) (by omega) (fun h=>by cases h)] at h
    exact absurd hr (of_decide_eq_false h)
structure RungR (X:Int) (r0:Nat) (left:Int):Prop where
  lo:vS r0*vS r0<=X
  hi:X<vS (r0+1)*vS (r0+1)
  l0:left=0 ↔ X=vS r0*vS r0
theorem sq_le {a b:Int} (h0:0<=a) (h:a<=b):a*a<=b*b:=Int.mul_le_mul h h h0 (Int.le_trans h0 h)
theorem RungR.unique {X:Int} {r s:Nat} {l k:Int} (h:RungR X r l) (g:RungR X s k):r=s:=by
  have key:∀ {r s:Nat} {l k:Int},RungR X r l->RungR X s k->¬ r<s:=fun {r s l k} h g q=>by
    have e:vS (r+1)<=vS s:=by
      rcases Nat.lt_or_eq_of_le (show r+1<=s from q) with q2 | q2
      . exact Int.le_of_lt (vS_lt q2)
      . rw [q2]; exact Int.le_refl _
    exact absurd (Int.lt_of_lt_of_le h.hi (Int.le_trans (sq_le (vS_nonneg _) e) g.lo)) (Int.lt_irrefl _)
  rcases Nat.lt_trichotomy r s with q | q | q
  . exact absurd q (key h g)
  . exact q
  . exact absurd q (key g h)
theorem Bd.sg {B:Nat} {V:Int} (g:Bool) (h:Bd B V):Bd B (M.sg g V):=by
  cases g
  . exact h
  . exact h.neg
end Go.Proofs.YtobofhgpidbpmaaDoor
