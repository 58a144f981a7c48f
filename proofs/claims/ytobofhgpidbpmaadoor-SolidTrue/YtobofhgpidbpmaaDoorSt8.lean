/- Parts of the proof. -/
import Derived.Test.YtobofhgpidbpmaaDoorSt7
import Derived.Laws.FloatArith
import Derived.Test.YtobofhgpidbpmaaDoorSt5
set_option linter.unusedVariables false
set_option linter.unusedSimpArgs false
namespace Go.Proofs.YtobofhgpidbpmaaDoor
open Go Go.RowKit Go.Proofs.YtobofhgpidbpmaaDoor.M
theorem patV_rg {b:Int} (hb:rng b) (hp:pok b=true):∃ (ng:Bool) (r:Nat),(r:Int)=rg b∧(r:Int)<9218868437227405312∧patV b=sg ng (vS r):=by
  obtain ⟨r0,r1⟩:=rg_parts hb
  have hlt:rg b<9218868437227405312:=by
    have hne:=pparts hp
    have hf:0<=frc b∧frc b<4503599627370496:=by unfold frc; omega
    have hg:0<=fld b∧fld b<2048:=by unfold fld; omega
    omega
  obtain ⟨r,hr⟩:∃ r:Nat,(r:Int)=rg b:=⟨(rg b).toNat,Int.toNat_of_nonneg r0⟩
  have hs:b=patS (decide (b<0)) (r:Int):=by
    rw [hr]
    unfold patS rg
    by_cases h:b<0
    . rw [decide_eq_true h,if_pos rfl,if_pos h]; omega
    . rw [decide_eq_false h,if_neg (by decide),if_neg h]
  refine ⟨decide (b<0),r,hr,by rw [hr]; exact hlt,?_⟩
  rw [<- hr] at hlt
  cases hd:decide (b<0)
  . rw [hd] at hs
    rw [hs]
    exact patV_patS hlt (fun h=>by cases h)
  . rw [hd] at hs
    rw [hs]
    exact patV_neg hlt
end Go.Proofs.YtobofhgpidbpmaaDoor
namespace Go.Proofs.YtobofhgpidbpmaaDoor
open Go Go.RowKit Go.Proofs.YtobofhgpidbpmaaDoor.M Ieee
theorem wd_word {ng:Bool} {r:Int} (h0:0<=r) (h1:r<=9218868437227405312):Ieee.double.word ng r.toNat=wd (patS ng r):=by
  unfold Format.word wd patS
  rw [dSign]
  cases ng
  . rw [if_neg (by decide),if_neg (by decide)]; omega
  . rw [if_pos rfl,if_pos rfl]; omega
theorem rg_lt {b:Int} (hb:rng b) (hp:pok b=true):0<=rg b∧rg b<9218868437227405312:=by
  obtain ⟨_,r,hr,hlt,_⟩:=patV_rg hb hp
  omega
theorem patV_dec {b:Int} (hb:rng b) (hp:pok b=true):patV b=sg (decide (b<0)) (vS (rg b).toNat):=by
  obtain ⟨h0,h1⟩:=rg_lt hb hp
  obtain ⟨r,hr⟩:∃ r:Nat,(r:Int)=rg b:=⟨(rg b).toNat,Int.toNat_of_nonneg h0⟩
  have hs:b=patS (decide (b<0)) (r:Int):=by
    rw [hr]
    unfold patS rg
    by_cases h:b<0
    . rw [decide_eq_true h,if_pos rfl,if_pos h]; omega
    . rw [decide_eq_false h,if_neg (by decide),if_neg h]
  rw [<- hr] at h1 ⊢
  rw [Int.toNat_natCast]
  cases hd:decide (b<0)
  . rw [hd] at hs
    rw [hs]
    exact patV_patS h1 (fun h=>by cases h)
  . rw [hd] at hs
    rw [hs]
    exact patV_neg h1
theorem read_wd {b:Int} (hb:rng b) (hp:pok b=true):∃ m u:Nat,Ieee.double.read (wd b)=.number (decide (b<0)) m (-1074+(u:Int))∧patV b=sg (decide (b<0)) ((m:Int)*pw (-1074+(u:Int))):=by
  obtain ⟨h0,h1⟩:=rg_lt hb hp
  have hw:((wd b % 9223372036854775808:Nat):Int)=rg b:=wd_rung hb
  have hw2:wd b % 9223372036854775808=(rg b).toNat:=by omega
  obtain ⟨m,u,h,hm⟩:=read_finite Ieee.double (wd b) (by rw [dSign,dInf]; omega)
  rw [dSign,dLeast,wd_neg hb] at h
  rw [dSign,hw2] at hm
  refine ⟨m,u,h,?_⟩
  have e:vS (rg b).toNat=(m:Int)*pw (-1074+(u:Int)):=by
    unfold vS
    rw [<- hm,pw_add (by decide),Int.mul_comm (pw (-1074))]
    generalize pw (-1074)=q
    push_cast
    rw [Int.mul_assoc]
  rw [patV_dec hb hp,e]
theorem signed_pw (s:Bool) (m k:Nat) {i base:Int} (h:i=base+(k:Int)) (hb:-4194304<=base):signed s m k*pw base=sg s ((m:Int)*pw i):=by
  rw [signed_V,h,pw_add hb,Int.mul_comm (pw base),<- Int.mul_assoc]
  have e:((m*2^k:Nat):Int)=(m:Int)*2^k:=by push_cast; rfl
  rw [e]
  generalize (m:Int)*2^k=t
  unfold sg
  cases s
  . rfl
  . show -t*pw base=-(t*pw base)
    rw [Int.neg_mul]
theorem natAbs_sg {t q:Int} (hq:0<q):t*q=sg (decide (t<0)) ((t.natAbs:Int)*q):=by
  by_cases h:t<0
  . rw [decide_eq_true h]
    show t*q=-((t.natAbs:Int)*q)
    rw [<- Int.neg_mul,show -(t.natAbs:Int)=t by omega]
  . rw [decide_eq_false h]
    show t*q=(t.natAbs:Int)*q
    rw [show (t.natAbs:Int)=t by omega]
theorem lt_zero_iff {t q:Int} (hq:0<q):t<0 ↔ t*q<0:=by
  constructor
  . exact fun h=>Int.mul_neg_of_neg_of_pos h hq
  . intro h
    rcases Int.lt_or_le t 0 with g | g
    . exact g
    . exact absurd h (Int.not_lt.2 (Int.mul_nonneg g (Int.le_of_lt hq)))
theorem eq_zero_iff {t q:Int} (hq:0<q):t=0 ↔ t*q=0:=by
  constructor
  . intro h; rw [h,Int.zero_mul]
  . intro h
    rcases Int.mul_eq_zero.1 h with g | g
    . exact g
    . omega
theorem write_near {S t base:Int} (hb:-4194304<=base) (hS:t*pw base=S) (h0:S≠0) :
    ∃ (A:Int) (r0:Nat) (left:Int),S=sg (decide (S<0)) A∧Rung A r0 left∧Ieee.double.nearest (decide (t<0)) t.natAbs base=wd (patS (decide (S<0)) (rTo 0 (decide (S<0)) r0 left)):=by
  have hq:=pw_pos base
  have ht:t≠0:=fun h=>h0 (by rw [<- hS,h,Int.zero_mul])
  have hd:decide (t<0)=decide (S<0):=by rw [<- hS]; congr 1; exact propext (lt_zero_iff hq)
  obtain ⟨r0,left,hR,hE⟩:=nearest_rung (decide (t<0)) (mag:=t.natAbs) (place:=base) (by omega) hb
  refine ⟨_,r0,left,?_,hR,?_⟩
  . rw [<- hd,<- hS]; exact natAbs_sg hq
  . rw [hE,hd]
    obtain ⟨g1,g2⟩:=rTo_range 0 (decide (S<0)) r0 left
    exact wd_word g1 g2
theorem fadd {a b:Int} (ha:rng a) (hb:rng b) (pa:pok a=true) (pb:pok b=true) :
    (patV a+patV b=0->Ieee.double.add (wd a) (wd b)=some (wd (patS (decide (a<0) && decide (b<0)) 0))) ∧
    (patV a+patV b≠0->∃ (A:Int) (r0:Nat) (left:Int),patV a+patV b=sg (decide (patV a+patV b<0)) A∧Rung A r0 left∧Ieee.double.add (wd a) (wd b)=some (wd (patS (decide (patV a+patV b<0)) (rTo 0 (decide (patV a+patV b<0)) r0 left)))):=by
  obtain ⟨m,u,h1,v1⟩:=read_wd ha pa
  obtain ⟨n,v,h2,v2⟩:=read_wd hb pb
  have hadd:Ieee.double.add (wd a) (wd b)=some (Ieee.double.nearest (if signed (decide (a<0)) m (u-min u v)+signed (decide (b<0)) n (v-min u v)=0 then decide (a<0) && decide (b<0) else decide (signed (decide (a<0)) m (u-min u v)+signed (decide (b<0)) n (v-min u v)<0)) (signed (decide (a<0)) m (u-min u v)+signed (decide (b<0)) n (v-min u v)).natAbs (-1074+((min u v:Nat):Int))):=by
    unfold Format.add
    rw [h1,h2]
    unfold Datum.sum
    dsimp only
    have hmin:min (-1074+(u:Int)) (-1074+(v:Int))=-1074+((min u v:Nat):Int):=by omega
    have e1:(-1074+(u:Int)-(-1074+((min u v:Nat):Int))).toNat=u-min u v:=by omega
    have e2:(-1074+(v:Int)-(-1074+((min u v:Nat):Int))).toNat=v-min u v:=by omega
    rw [hmin,e1,e2]
    rfl
  have s1:=signed_pw (decide (a<0)) m (u-min u v) (i:=-1074+(u:Int)) (base:=-1074+((min u v:Nat):Int)) (by omega) (by omega)
  have s2:=signed_pw (decide (b<0)) n (v-min u v) (i:=-1074+(v:Int)) (base:=-1074+((min u v:Nat):Int)) (by omega) (by omega)
  rw [<- v1] at s1
  rw [<- v2] at s2
  have hB:-4194304 <= -1074+((min u v:Nat):Int):=by omega
  generalize -1074+((min u v:Nat):Int)=base at *
  have hq:=pw_pos base
  have hS:(signed (decide (a<0)) m (u-min u v)+signed (decide (b<0)) n (v-min u v))*pw base=patV a+patV b:=by rw [Int.add_mul,s1,s2]
  generalize signed (decide (a<0)) m (u-min u v)+signed (decide (b<0)) n (v-min u v)=t at *
  clear s1 s2 v1 v2 h1 h2
  refine ⟨fun h=>?_,fun h=>?_⟩
  . have ht:t=0:=(eq_zero_iff hq).2 (hS.trans h)
    rw [hadd,ht,if_pos rfl]
    unfold Format.nearest
    rw [if_pos (show Int.natAbs 0=0 from rfl)]
    have:=wd_word (ng:=decide (a<0) && decide (b<0)) (r:=0) (by decide) (by decide)
    rw [<- this]
    rfl
  . have ht:t≠0:=fun e=>h (by rw [<- hS,e,Int.zero_mul])
    obtain ⟨A,r0,left,q1,q2,q3⟩:=write_near hB hS h
    refine ⟨A,r0,left,q1,q2,?_⟩
    rw [hadd,if_neg ht,q3]
theorem fmul_core {g h:Bool} {x y p q r Z:Int} (e:p*q=r*Z):sg (g != h) (x*y*r)*Z=sg g (x*p)*sg h (y*q):=by
  rw [sg_mul,sg_prod]
  congr 1
  rw [Int.mul_assoc (x*y),<- e,Int.mul_assoc x y,Int.mul_assoc x p]
  congr 1
  rw [<- Int.mul_assoc,<- Int.mul_assoc,Int.mul_comm y p]
theorem xor_ne (g h:Bool):(g ^^ h)=(g != h):=by cases g <;> cases h <;> rfl
theorem fmul {a b:Int} (ha:rng a) (hb:rng b) (pa:pok a=true) (pb:pok b=true) :
    ∃ D:Int,0<=D∧sg (decide (a<0) != decide (b<0)) D*2^4194304=patV a*patV b ∧
      (D=0->Ieee.double.mul (wd a) (wd b)=some (wd (patS (decide (a<0) != decide (b<0)) 0))) ∧
      (D≠0->∃ (r0:Nat) (left:Int),Rung D r0 left∧Ieee.double.mul (wd a) (wd b)=some (wd (patS (decide (a<0) != decide (b<0)) (rTo 0 (decide (a<0) != decide (b<0)) r0 left)))):=by
  obtain ⟨m,u,h1,v1⟩:=read_wd ha pa
  obtain ⟨n,v,h2,v2⟩:=read_wd hb pb
  have hmul:Ieee.double.mul (wd a) (wd b)=some (Ieee.double.nearest (decide (a<0) != decide (b<0)) (m*n) (-1074+(u:Int)+(-1074+(v:Int)))):=by
    unfold Format.mul
    rw [h1,h2]
    unfold Datum.product
    dsimp only
    rw [xor_ne]
    rfl
  have hpm:=pw_mul (a:=-1074+(u:Int)) (b:=-1074+(v:Int)) (by omega) (by omega)
  have hB:-4194304 <= -1074+(u:Int)+(-1074+(v:Int)):=by omega
  have hq:=pw_pos (-1074+(u:Int)+(-1074+(v:Int)))
  have hC:=fmul_core (g:=decide (a<0)) (h:=decide (b<0)) (x:=(m:Int)) (y:=(n:Int)) hpm
  rw [<- v1,<- v2] at hC
  generalize -1074+(u:Int)+(-1074+(v:Int))=base at *
  have hcast:((m*n:Nat):Int)=(m:Int)*(n:Int):=by push_cast; rfl
  refine ⟨(m:Int)*(n:Int)*pw base,Int.mul_nonneg (by rw [<- hcast]; omega) (Int.le_of_lt hq),hC,fun h=>?_,fun h=>?_⟩
  . have h0:m*n=0:=by
      rcases Int.mul_eq_zero.1 h with g | g
      . rw [<- hcast] at g; omega
      . omega
    rw [hmul,h0]
    unfold Format.nearest
    rw [if_pos rfl]
    have:=wd_word (ng:=decide (a<0) != decide (b<0)) (r:=0) (by decide) (by decide)
    rw [<- this]
    rfl
  . have h0:m*n≠0:=fun e=>h (by rw [<- hcast,e]; simp)
    obtain ⟨r0,left,hR,hE⟩:=nearest_rung (decide (a<0) != decide (b<0)) (place:=base) h0 hB
    rw [hcast] at hR
    refine ⟨r0,left,hR,?_⟩
    rw [hmul,hE]
    obtain ⟨g1,g2⟩:=rTo_range 0 (decide (a<0) != decide (b<0)) r0 left
    rw [wd_word g1 g2]
def NanW (z:Nat):Prop:=z<18446744073709551616∧9218868437227405312<z % 9223372036854775808
theorem nan_cut (x y t:Nat):NanW ((Question.nanBits .f64 x y).cut t):=by
  have h:(Question.nanBits .f64 x y).cut t=(t % 2)*2^63+0x7ff0000000000000+1+(t/2) % (2^52-1):=rfl
  have e63:(2:Nat)^63=9223372036854775808:=by decide
  have e52:(2:Nat)^52-1=4503599627370495:=by decide
  rw [h,e63,e52]
  have hc:=Nat.mod_lt (t/2) (show 0<4503599627370495 by decide)
  have hm:t % 2=0∨t % 2=1:=by omega
  generalize t/2 % 4503599627370495=c at *
  unfold NanW
  rcases hm with h2 | h2
  . rw [h2]; omega
  . rw [h2]; omega
theorem run_farith {P:Program} (op:BinOp) (ho:op=.add∨op=.sub∨op=.mul∨op=.quo) (t:TypeId) (x y:Nat) (w:World) :
    ∃ z w',(binOp op t (.float .f64 x) (.float .f64 y)).run P w=.ok (.float .f64 z) w'∧((floatBits op .f64 x y=some z∧w'=w)∨(floatBits op .f64 x y=none∧NanW z∧w'=w.drew)):=by
  cases h:floatBits op .f64 x y with
  | some r=>exact ⟨r,w,run_float_arith w op t .f64 x y r h,.inl ⟨rfl,rfl⟩⟩
  | none=>
    refine ⟨_,w.drew,?_,.inr ⟨rfl,nan_cut x y (w.tape w.drawn (.nanBits .f64 x y)),rfl⟩⟩
    unfold floatBits at h
    rcases ho with rfl | rfl | rfl | rfl <;> simp only at h <;> simp [binOp,Op.floatArith,h] <;> exact fun hf=>absurd (show false=true from hf) (by decide)
def FW (p:Int) (x:Nat):Prop:=(cls p≠4∧rng p∧x=wd p)∨(p=9221120237041090561∧NanW x)
def patW (x:Nat):Int:=if x<9223372036854775808 then (x:Int) else (x:Int)-18446744073709551616
theorem patW_wd {p:Int} (h:rng p):patW (wd p)=p:=by
  unfold rng at h
  unfold patW wd
  split <;> omega
def nearP (S:Int):Int:=patW (Ieee.double.nearest (decide (S<0)) S.natAbs (-4194304))
theorem pw_least:pw (-4194304)=1:=by unfold pw; rfl
theorem patS_rng {ng:Bool} {r:Int} (h0:0<=r) (h1:r<=9218868437227405312):rng (patS ng r)∧cls (patS ng r)≠4:=by
  have hr:rng (patS ng r):=by unfold rng patS; cases ng <;> simp <;> omega
  refine ⟨hr,fun q=>?_⟩
  have:=(cls_rg hr).1.1 q
  unfold rg patS at this
  cases ng
  . simp only [Bool.false_eq_true,if_false] at this; split at this <;> omega
  . simp only [if_true] at this; split at this <;> omega
theorem nearP_rung {S:Int} (h:S≠0):∃ (A:Int) (r0:Nat) (left:Int),S=sg (decide (S<0)) A∧Rung A r0 left∧nearP S=patS (decide (S<0)) (rTo 0 (decide (S<0)) r0 left):=by
  obtain ⟨A,r0,left,h1,h2,h3⟩:=write_near (S:=S) (t:=S) (base:=-4194304) (by decide) (by rw [pw_least,Int.mul_one]) h
  refine ⟨A,r0,left,h1,h2,?_⟩
  unfold nearP
  rw [h3]
  obtain ⟨g1,g2⟩:=rTo_range 0 (decide (S<0)) r0 left
  exact patW_wd (patS_rng g1 g2).1
theorem sg_inj {g:Bool} {A B:Int} (h:sg g A=sg g B):A=B:=by
  cases g
  . exact h
  . exact Int.neg_inj.1 h
def fsum (p q:Int):Int :=
  if cls p=4∨cls q=4 then 9221120237041090561
  else if rg p=9218868437227405312 then (if rg q=9218868437227405312∧decide (p<0)≠decide (q<0) then 9221120237041090561 else p)
  else if rg q=9218868437227405312 then q
  else if patV p+patV q=0 then patS (decide (p<0) && decide (q<0)) 0 else nearP (patV p+patV q)
theorem pok_rg {p:Int} (hp:rng p):pok p=true ↔ rg p<9218868437227405312:=by
  obtain ⟨r0,r1⟩:=rg_parts hp
  have hf:0<=frc p∧frc p<4503599627370496:=by unfold frc; omega
  have hg:0<=fld p∧fld p<2048:=by unfold fld; omega
  unfold pok
  simp
  omega
theorem fadd_fin {p q:Int} (hp:rng p) (hq:rng q) (pp:pok p=true) (pq:pok q=true):Ieee.double.add (wd p) (wd q)=some (wd (if patV p+patV q=0 then patS (decide (p<0) && decide (q<0)) 0 else nearP (patV p+patV q))):=by
  obtain ⟨h0,h1⟩:=fadd hp hq pp pq
  by_cases hS:patV p+patV q=0
  . rw [if_pos hS]; exact h0 hS
  . rw [if_neg hS]
    obtain ⟨A,r0,left,a1,a2,a3⟩:=h1 hS
    obtain ⟨B,s0,k,b1,b2,b3⟩:=nearP_rung hS
    have hAB:=sg_inj (a1.symm.trans b1)
    subst hAB
    obtain ⟨h2,h3⟩:=a2.unique b2
    subst h2 h3
    rw [a3,b3]
theorem read_inf64 {p:Int} (hp:rng p) (h:rg p=9218868437227405312):Ieee.double.read (wd p)=.infinity (decide (p<0)):=by
  have hw:((wd p % 9223372036854775808:Nat):Int)=rg p:=wd_rung hp
  have:=read_inf Ieee.double dOk (wd p) (by rw [dSign,dInf]; omega)
  rwa [dSign,wd_neg hp] at this
theorem write_inf64 {p:Int} (hp:rng p) (h:rg p=9218868437227405312):Ieee.double.write (.infinity (decide (p<0)))=wd p:=by
  unfold Format.write
  dsimp only
  rw [dInf]
  have:=wd_word (ng:=decide (p<0)) (r:=9218868437227405312) (by decide) (by decide)
  have e:patS (decide (p<0)) 9218868437227405312=p:=by
    unfold rg at h
    unfold patS
    by_cases h0:p<0
    . rw [if_pos h0] at h; rw [decide_eq_true h0,if_pos rfl]; omega
    . rw [if_neg h0] at h; rw [decide_eq_false h0,if_neg (by decide)]; omega
  rw [e] at this
  exact this
theorem nan_canon:cls 9221120237041090561=4:=by decide
theorem FW.nan {x:Nat} (h:NanW x):FW 9221120237041090561 x:=.inr ⟨rfl,h⟩
theorem FW.pat {p:Int} (h:cls p≠4) (hp:rng p):FW p (wd p):=.inl ⟨h,hp,rfl⟩
theorem FW.read_nan {p:Int} {x:Nat} (h:FW p x) (h4:cls p=4):∃ s t,Ieee.double.read x=.nan s t:=by
  rcases h with ⟨h,_⟩ | ⟨_,h⟩
  . exact absurd h4 h
  . exact M.read_nan Ieee.double dOk x (by rw [dSign,dInf]; exact h.2)
theorem FW.of {p:Int} {x:Nat} (h:FW p x) (h4:cls p≠4):rng p∧x=wd p∧0<=rg p∧rg p<=9218868437227405312:=by
  rcases h with ⟨_,h1,h2⟩ | ⟨h,_⟩
  . obtain ⟨r0,_⟩:=rg_parts h1
    refine ⟨h1,h2,r0,?_⟩
    rcases Int.lt_or_le 9218868437227405312 (rg p) with g | g
    . exact absurd ((cls_rg h1).1.2 g) h4
    . exact g
  . rw [h] at h4; exact absurd nan_canon h4
theorem nearP_pat {S:Int} (h:S≠0):rng (nearP S)∧cls (nearP S)≠4:=by
  obtain ⟨A,r0,left,_,_,e⟩:=nearP_rung h
  rw [e]
  obtain ⟨g1,g2⟩:=rTo_range 0 (decide (S<0)) r0 left
  exact patS_rng g1 g2
theorem add_FW {p q:Int} {x y:Nat} (hx:FW p x) (hy:FW q y):(∃ z,Ieee.double.add x y=some z∧FW (fsum p q) z)∨(Ieee.double.add x y=none∧fsum p q=9221120237041090561):=by
  by_cases h4:cls p=4∨cls q=4
  . right
    refine ⟨?_,by unfold fsum; rw [if_pos h4]⟩
    unfold Format.add
    rcases h4 with h | h
    . obtain ⟨s,t,e⟩:=hx.read_nan h
      rw [e]
      rfl
    . obtain ⟨s,t,e⟩:=hy.read_nan h
      rw [e]
      cases Ieee.double.read x <;> rfl
  . have h4p:cls p≠4:=fun h=>h4 (.inl h)
    have h4q:cls q≠4:=fun h=>h4 (.inr h)
    obtain ⟨rp,rfl,p0,p1⟩:=hx.of h4p
    obtain ⟨rq,rfl,q0,q1⟩:=hy.of h4q
    unfold fsum
    rw [if_neg h4]
    by_cases ip:rg p=9218868437227405312
    . rw [if_pos ip]
      have ep:=read_inf64 rp ip
      by_cases iq:rg q=9218868437227405312
      . have eq:=read_inf64 rq iq
        by_cases hs:decide (p<0)=decide (q<0)
        . left
          refine ⟨wd p,?_,?_⟩
          . unfold Format.add
            rw [ep,eq]
            unfold Datum.sum
            dsimp only
            rw [if_pos hs]
            show some (Ieee.double.write (.infinity (decide (p<0))))=_
            rw [write_inf64 rp ip]
          . rw [if_neg (fun h=>h.2 hs)]
            exact FW.pat h4p rp
        . right
          refine ⟨?_,by rw [if_pos ⟨iq,hs⟩]⟩
          unfold Format.add
          rw [ep,eq]
          unfold Datum.sum
          dsimp only
          rw [if_neg hs]
          rfl
      . left
        obtain ⟨m,u,eq,_⟩:=read_wd rq ((pok_rg rq).2 (by omega))
        refine ⟨wd p,?_,?_⟩
        . unfold Format.add
          rw [ep,eq]
          show some (Ieee.double.write (.infinity (decide (p<0))))=_
          rw [write_inf64 rp ip]
        . rw [if_neg (fun h=>iq h.1)]
          exact FW.pat h4p rp
    . rw [if_neg ip]
      have pp:=(pok_rg rp).2 (by omega)
      by_cases iq:rg q=9218868437227405312
      . left
        rw [if_pos iq]
        have eq:=read_inf64 rq iq
        obtain ⟨m,u,ep,_⟩:=read_wd rp pp
        refine ⟨wd q,?_,FW.pat h4q rq⟩
        unfold Format.add
        rw [ep,eq]
        show some (Ieee.double.write (.infinity (decide (q<0))))=_
        rw [write_inf64 rq iq]
      . left
        rw [if_neg iq]
        refine ⟨_,fadd_fin rp rq pp ((pok_rg rq).2 (by omega)),?_⟩
        by_cases hS:patV p+patV q=0
        . rw [if_pos hS]
          obtain ⟨g1,g2⟩:=patS_rng (ng:=decide (p<0) && decide (q<0)) (r:=0) (by decide) (by decide)
          exact FW.pat g2 g1
        . rw [if_neg hS]
          exact FW.pat (nearP_pat hS).2 (nearP_pat hS).1
theorem read_same {x y:Nat} (h1:x % Ieee.double.signWeight=y % Ieee.double.signWeight) (h2:(x/Ieee.double.signWeight % 2 == 1)=!(y/Ieee.double.signWeight % 2 == 1)):Ieee.double.read x=(Ieee.double.read y).opposite:=by
  unfold Format.read
  dsimp only
  rw [h1,h2]
  split
  . rfl
  . split
    . rfl
    . split
      . rfl
      . rfl
theorem read_neg {q:Int} (hq:rng q) (h4:cls q≠4):Ieee.double.read (wd (neg q))=(Ieee.double.read (wd q)).opposite:=by
  have hn:neg q=if q<0 then q+9223372036854775808 else q-9223372036854775808:=by unfold neg; rw [if_neg h4]
  refine read_same ?_ ?_
  . rw [dSign,hn]
    unfold rng at hq
    unfold wd
    split <;> omega
  . rw [dSign,wd_neg (rng_neg hq),wd_neg hq,hn]
    unfold rng at hq
    by_cases h:q<0
    . rw [if_pos h,decide_eq_false (p:=q+9223372036854775808<0) (by omega),decide_eq_true h]; rfl
    . rw [if_neg h,decide_eq_true (p:=q-9223372036854775808<0) (by omega),decide_eq_false h]; rfl
theorem neg_nan {q:Int} (h:cls q=4):neg q=9221120237041090561:=by unfold neg; rw [if_pos h]
theorem sub_FW {p q:Int} {x y:Nat} (hx:FW p x) (hy:FW q y):(∃ z,Ieee.double.sub x y=some z∧FW (fsum p (neg q)) z)∨(Ieee.double.sub x y=none∧fsum p (neg q)=9221120237041090561):=by
  by_cases h4:cls q=4
  . right
    refine ⟨?_,by unfold fsum; rw [neg_nan h4,if_pos (.inr nan_canon)]⟩
    obtain ⟨s,t,e⟩:=hy.read_nan h4
    unfold Format.sub
    rw [e]
    cases Ieee.double.read x <;> rfl
  . obtain ⟨rq,rfl,_,_⟩:=hy.of h4
    have hs:Ieee.double.sub x (wd q)=Ieee.double.add x (wd (neg q)):=by
      unfold Format.sub Format.add
      rw [read_neg rq h4]
    rw [hs]
    exact add_FW hx (FW.pat (cls_neg rq h4) (rng_neg rq))
def xsg (p q:Int):Bool:=decide (p<0) != decide (q<0)
def fsize (p q:Int):Int:=sg (xsg p q) (patV p*patV q/2^4194304)
def fprod (p q:Int):Int :=
  if cls p=4∨cls q=4 then 9221120237041090561
  else if rg p=9218868437227405312∨rg q=9218868437227405312 then (if rg p=0∨rg q=0 then 9221120237041090561 else patS (xsg p q) 9218868437227405312)
  else if fsize p q=0 then patS (xsg p q) 0 else nearP (sg (xsg p q) (fsize p q))
theorem fsize_of {g:Bool} {D Z C:Int} (hZ:0<Z) (h:sg g D*Z=C):sg g (C/Z)=D:=by
  rw [<- h,Int.mul_ediv_cancel _ (Int.ne_of_gt hZ)]
  cases g
  . rfl
  . exact Int.neg_neg D
theorem nearP_sg {g:Bool} {D:Int} {r0:Nat} {left:Int} (h0:0<D) (hR:Rung D r0 left):nearP (sg g D)=patS g (rTo 0 g r0 left):=by
  have hd:decide (sg g D<0)=g:=by
    cases g
    . exact decide_eq_false (by show ¬ D<0; omega)
    . exact decide_eq_true (by show -D<0; omega)
  have hn:sg g D≠0:=by
    cases g
    . show D≠0; omega
    . show -D≠0; omega
  obtain ⟨A,s0,k,e1,e2,e3⟩:=nearP_rung hn
  rw [hd] at e1 e3
  have:=sg_inj e1
  subst this
  obtain ⟨h1,h2⟩:=hR.unique e2
  subst h1 h2
  exact e3
theorem fmul_fin {p q:Int} (hp:rng p) (hq:rng q) (pp:pok p=true) (pq:pok q=true):Ieee.double.mul (wd p) (wd q)=some (wd (if fsize p q=0 then patS (xsg p q) 0 else nearP (sg (xsg p q) (fsize p q)))):=by
  obtain ⟨D,d0,d1,d2,d3⟩:=fmul hp hq pp pq
  have hf:fsize p q=D:=fsize_of (two_pos 4194304) d1
  rw [hf]
  by_cases h:D=0
  . rw [if_pos h]; exact d2 h
  . rw [if_neg h]
    obtain ⟨r0,left,hR,hE⟩:=d3 h
    rw [hE,nearP_sg (by omega) hR]
    rfl
theorem write_infS (g:Bool):Ieee.double.write (.infinity g)=wd (patS g 9218868437227405312):=by
  unfold Format.write
  dsimp only
  rw [dInf]
  exact wd_word (ng:=g) (r:=9218868437227405312) (by decide) (by decide)
theorem mag_zero {q:Int} {m u:Nat} (hq:rng q) (pq:pok q=true) (h:patV q=sg (decide (q<0)) ((m:Int)*pw (-1074+(u:Int)))):m=0 ↔ rg q=0:=by
  have e:=patV_dec hq pq
  rw [h] at e
  have e2:=sg_inj e
  obtain ⟨r0,r1⟩:=rg_lt hq pq
  constructor
  . intro hm
    rw [hm] at e2
    have e3:vS (rg q).toNat=0:=by rw [<- e2]; simp
    rcases Nat.eq_zero_or_pos (rg q).toNat with g | g
    . omega
    . have:=vS_lt g
      rw [vS_zero,e3] at this
      exact absurd this (Int.lt_irrefl _)
  . intro hr
    rw [hr] at e2
    have e3:(m:Int)*pw (-1074+(u:Int))=0:=by rw [e2]; exact vS_zero
    have:=(eq_zero_iff (pw_pos (-1074+(u:Int)))).2 e3
    omega
theorem mul_FW {p q:Int} {x y:Nat} (hx:FW p x) (hy:FW q y):(∃ z,Ieee.double.mul x y=some z∧FW (fprod p q) z)∨(Ieee.double.mul x y=none∧fprod p q=9221120237041090561):=by
  by_cases h4:cls p=4∨cls q=4
  . right
    refine ⟨?_,by unfold fprod; rw [if_pos h4]⟩
    unfold Format.mul
    rcases h4 with h | h
    . obtain ⟨s,t,e⟩:=hx.read_nan h
      rw [e]
      rfl
    . obtain ⟨s,t,e⟩:=hy.read_nan h
      rw [e]
      cases Ieee.double.read x <;> rfl
  . have h4p:cls p≠4:=fun h=>h4 (.inl h)
    have h4q:cls q≠4:=fun h=>h4 (.inr h)
    obtain ⟨rp,rfl,p0,p1⟩:=hx.of h4p
    obtain ⟨rq,rfl,q0,q1⟩:=hy.of h4q
    have hI:=patS_rng (ng:=xsg p q) (r:=9218868437227405312) (by decide) (by decide)
    have hX:(decide (p<0) ^^ decide (q<0))=xsg p q:=xor_ne _ _
    have hX2:(decide (q<0) ^^ decide (p<0))=xsg p q:=by rw [<- hX]; cases decide (p<0) <;> cases decide (q<0) <;> rfl
    unfold fprod
    rw [if_neg h4]
    by_cases ip:rg p=9218868437227405312
    . rw [if_pos (.inl ip)]
      have ep:=read_inf64 rp ip
      by_cases iq:rg q=9218868437227405312
      . left
        rw [if_neg (by omega)]
        refine ⟨_,?_,FW.pat hI.2 hI.1⟩
        unfold Format.mul
        rw [ep,read_inf64 rq iq]
        show some (Ieee.double.write (.infinity (decide (p<0) ^^ decide (q<0))))=_
        rw [write_infS,hX]
      . have pq:=(pok_rg rq).2 (by omega)
        obtain ⟨m,u,eq,vq⟩:=read_wd rq pq
        have hz:=mag_zero rq pq vq
        by_cases hm:m=0
        . right
          refine ⟨?_,by rw [if_pos (.inr (hz.1 hm))]⟩
          unfold Format.mul
          rw [ep,eq,hm]
          rfl
        . left
          rw [if_neg (fun h=>by rcases h with h | h; omega; exact hm (hz.2 h))]
          refine ⟨_,?_,FW.pat hI.2 hI.1⟩
          unfold Format.mul
          rw [ep,eq]
          unfold Datum.product
          dsimp only
          rw [if_neg hm]
          show some (Ieee.double.write (.infinity (decide (p<0) ^^ decide (q<0))))=_
          rw [write_infS,hX]
    . have pp:=(pok_rg rp).2 (by omega)
      by_cases iq:rg q=9218868437227405312
      . rw [if_pos (.inr iq)]
        obtain ⟨m,u,ep,vp⟩:=read_wd rp pp
        have hz:=mag_zero rp pp vp
        have eq:=read_inf64 rq iq
        by_cases hm:m=0
        . right
          refine ⟨?_,by rw [if_pos (.inl (hz.1 hm))]⟩
          unfold Format.mul
          rw [ep,eq,hm]
          rfl
        . left
          rw [if_neg (fun h=>by rcases h with h | h; exact hm (hz.2 h); omega)]
          refine ⟨_,?_,FW.pat hI.2 hI.1⟩
          unfold Format.mul
          rw [ep,eq]
          unfold Datum.product
          dsimp only
          rw [if_neg hm]
          show some (Ieee.double.write (.infinity (decide (q<0) ^^ decide (p<0))))=_
          rw [write_infS,hX2]
      . left
        rw [if_neg (by omega)]
        refine ⟨_,fmul_fin rp rq pp ((pok_rg rq).2 (by omega)),?_⟩
        by_cases hS:fsize p q=0
        . rw [if_pos hS]
          obtain ⟨g1,g2⟩:=patS_rng (ng:=xsg p q) (r:=0) (by decide) (by decide)
          exact FW.pat g2 g1
        . rw [if_neg hS]
          have hn:sg (xsg p q) (fsize p q)≠0:=by
            generalize fsize p q=D at *
            cases xsg p q
            . exact hS
            . show -D≠0; omega
          exact FW.pat (nearP_pat hn).2 (nearP_pat hn).1
end Go.Proofs.YtobofhgpidbpmaaDoor
namespace Go.Proofs.YtobofhgpidbpmaaDoor.M
def Fl (n:Int):Prop:=∃ k:Nat,(2^k:Int) ∣ n∧(n.natAbs:Int)<9007199254740992*2^k
def Nr (S h:Int):Prop:=Fl h∧∀ f,Fl f->(h-S).natAbs<=(f-S).natAbs
theorem p2 (k:Nat):(0:Int)<2^k:=Int.pow_pos (by decide)
theorem p2s (k:Nat):(2:Int)^(k+1)=2*2^k:=by rw [Int.pow_succ,Int.mul_comm]
theorem p2dvd {j k:Nat} (h:j<=k):(2^j:Int) ∣ 2^k:=⟨2^(k-j),by rw [<- Int.pow_add,Nat.add_sub_cancel' h]⟩
theorem p2le {j k:Nat} (h:j<=k):(2:Int)^j<=2^k:=Int.le_of_dvd (p2 k) (p2dvd h)
theorem p2lt {j k:Nat} (h:(2:Int)^j<2^k):j<k:=by
  rcases Nat.lt_or_ge j k with c | c
  . exact c
  . have:=p2le c; omega
theorem Fl.neg {n:Int} (h:Fl n):Fl (-n):=by
  obtain ⟨k,d,b⟩:=h
  exact ⟨k,(Int.dvd_neg).2 d,by rw [Int.natAbs_neg]; exact b⟩
theorem fl_zero:Fl 0:=⟨0,⟨0,by simp⟩,by simp⟩
theorem fl_of {n:Int} {k:Nat} (d:(2^k:Int) ∣ n) (b:(n.natAbs:Int)<=9007199254740992*2^k):Fl n:=by
  by_cases c:(n.natAbs:Int)<9007199254740992*2^k
  . exact ⟨k,d,c⟩
  . have e:(n.natAbs:Int)=9007199254740992*2^k:=by omega
    refine ⟨k+1,?_,?_⟩
    . rw [<- Int.dvd_natAbs,e,p2s]
      exact ⟨4503599627370496,by omega⟩
    . rw [p2s]; have:=p2 k; omega
theorem Fl.dbl {n:Int} (h:Fl n):Fl (2*n):=by
  obtain ⟨k,⟨c,rfl⟩,b⟩:=h
  refine ⟨k+1,⟨c,by rw [p2s,Int.mul_assoc]⟩,?_⟩
  rw [p2s]
  omega
theorem Nr.neg {S h:Int} (n:Nr S h):Nr (-S) (-h):=by
  refine ⟨n.1.neg,fun f hf=>?_⟩
  have:=n.2 (-f) hf.neg
  omega
theorem nr_self {S h:Int} (hS:Fl S) (n:Nr S h):h=S:=by
  have:=n.2 S hS
  omega
theorem fl_sub {x y:Int} (hx:Fl x) (hy:Fl y) (h1:(x-y).natAbs<=x.natAbs) (h2:(x-y).natAbs<=y.natAbs):Fl (x-y):=by
  obtain ⟨j,dx,bx⟩:=hx
  obtain ⟨k,dy,by1⟩:=hy
  rcases Nat.le_total j k with c | c
  . exact ⟨j,Int.dvd_sub dx (Int.dvd_trans (p2dvd c) dy),by omega⟩
  . exact ⟨k,Int.dvd_sub (Int.dvd_trans (p2dvd c) dx) dy,by omega⟩
theorem fl_add {x y:Int} (hx:Fl x) (hy:Fl y) (h1:(x+y).natAbs<=x.natAbs) (h2:(x+y).natAbs<=y.natAbs):Fl (x+y):=by
  have e:x+y=x - -y:=by omega
  rw [e]
  exact fl_sub hx hy.neg (by omega) (by omega)
theorem nr_dvd_pos {S h:Int} {k:Nat} (n:Nr S h) (d:(2^k:Int) ∣ S) (h0:0<=S):(2^k:Int) ∣ h:=by
  by_cases c:(S.natAbs:Int)<=9007199254740992*2^k
  . rw [nr_self (fl_of d c) n]; exact d
  . have hT:Fl (9007199254740992*2^k):=fl_of ⟨9007199254740992,by rw [Int.mul_comm]⟩ (by have:=p2 k; omega)
    have h1:=n.2 _ hT
    obtain ⟨j,dj,bj⟩:=n.1
    have hk:=p2 k
    have hj:=p2 j
    have:(2:Int)^k<2^j:=by omega
    exact Int.dvd_trans (p2dvd (Nat.le_of_lt (p2lt this))) dj
theorem nr_dvd {S h:Int} {k:Nat} (n:Nr S h) (d:(2^k:Int) ∣ S):(2^k:Int) ∣ h:=by
  rcases Int.le_total 0 S with c | c
  . exact nr_dvd_pos n d c
  . have:=nr_dvd_pos n.neg ((Int.dvd_neg).2 d) (by omega)
    exact (Int.dvd_neg).1 this
theorem err_sum {a b h:Int} (ha:Fl a) (hb:Fl b) (n:Nr (a+b) h):Fl (a+b-h):=by
  have e1:=n.2 a ha
  have e2:=n.2 b hb
  obtain ⟨j,da,ba⟩:=ha
  obtain ⟨k,db,bb⟩:=hb
  rcases Nat.le_total j k with c | c
  . have d:=Int.dvd_add da (Int.dvd_trans (p2dvd c) db)
    exact ⟨j,Int.dvd_sub d (nr_dvd n d),by omega⟩
  . have d:=Int.dvd_add (Int.dvd_trans (p2dvd c) da) db
    exact ⟨k,Int.dvd_sub d (nr_dvd n d),by omega⟩
theorem back_pos {a b h:Int} (ha:Fl a) (hb:Fl b) (h0:0<=a) (hab:b.natAbs<=a.natAbs) (n:Nr (a+b) h):Fl (h-a):=by
  have ea:=n.2 a ha
  have e2:=n.2 (2*a) ha.dbl
  have ez:=n.2 0 fl_zero
  by_cases hs:a<=2*h
  . exact fl_sub n.1 ha (by omega) (by omega)
  . have hS:Fl (a+b):=by
      obtain ⟨k,⟨c,hc⟩,ba⟩:=ha
      cases k with
      | zero=>exact ⟨0,⟨a+b,by simp⟩,by simp at ba ⊢; omega⟩
      | succ k=>
        have hf:Fl (2^k*c):=⟨k,⟨c,rfl⟩,by rw [p2s] at ba hc; rw [Int.mul_assoc] at hc; omega⟩
        have e3:=n.2 _ hf
        rw [p2s,Int.mul_assoc] at hc
        exact fl_add ⟨k+1,⟨c,by rw [p2s,Int.mul_assoc]; exact hc⟩,ba⟩ hb (by omega) (by omega)
    rw [nr_self hS n,show a+b-a=b by omega]
    exact hb
theorem back {a b h:Int} (ha:Fl a) (hb:Fl b) (hab:b.natAbs<=a.natAbs) (n:Nr (a+b) h):Fl (h-a):=by
  rcases Int.le_total 0 a with c | c
  . exact back_pos ha hb c hab n
  . have n2:=n.neg
    rw [show -(a+b)=-a + -b by omega] at n2
    have:=(back_pos ha.neg hb.neg (by omega) (by omega) n2).neg
    rwa [show -(-h - -a)=h-a by omega] at this
theorem binade (S:Int) (h0:0<=S):∃ k:Nat,S<9007199254740992*2^k∧(k=0∨4503599627370496*2^k<=S):=by
  have ex:∀ n:Nat,S<9007199254740992*2^n->∃ k:Nat,S<9007199254740992*2^k∧(k=0∨4503599627370496*2^k<=S):=by
    intro n
    induction n with
    | zero=>intro h; exact ⟨0,h,.inl rfl⟩
    | succ n ih=>
      intro h
      by_cases c:S<9007199254740992*2^n
      . exact ih c
      . exact ⟨n+1,h,.inr (by rw [p2s]; omega)⟩
  refine ex S.natAbs ?_
  have h1:S.natAbs<2^S.natAbs:=Nat.lt_two_pow_self
  have h2:((2^S.natAbs:Nat):Int)=2^S.natAbs:=by simp
  have h3:=p2 S.natAbs
  omega
theorem nr_rel_pos {S h:Int} (n:Nr S h) (h0:0<=S):1000*(h-S).natAbs<=S.natAbs:=by
  obtain ⟨k,b,c⟩:=binade S h0
  have hk:=p2 k
  have hm:=Int.emod_nonneg S (show (2:Int)^k≠0 by omega)
  have hl:=Int.emod_lt_of_pos S hk
  have hf:Fl (S-S % 2^k):=by
    refine fl_of (k:=k) ⟨S/2^k,by have:=Int.emod_add_mul_ediv S (2^k); omega⟩ ?_
    have:0<=S-S % 2^k:=by
      have:=Int.emod_add_mul_ediv S (2^k)
      have h2:0<=2^k*(S/2^k):=Int.mul_nonneg (by omega) (Int.ediv_nonneg h0 (by omega))
      omega
    omega
  have e:=n.2 _ hf
  rcases c with c | c
  . subst c
    have:S % 2^0=0:=by simp
    omega
  . omega
theorem nr_rel {S h:Int} (n:Nr S h):1000*(h-S).natAbs<=S.natAbs:=by
  rcases Int.le_total 0 S with c | c
  . exact nr_rel_pos n c
  . have:=nr_rel_pos n.neg (by omega)
    omega
theorem two_sum {a b h v u p q l:Int} (ha:Fl a) (hb:Fl b) (nh:Nr (a+b) h) (nv:Nr (h-a) v) (nu:Nr (h-v) u) (np:Nr (a-u) p) (nq:Nr (b-v) q) (nl:Nr (p+q) l):l=a+b-h:=by
  have hd:=err_sum ha hb nh
  -- the step back,where it is exact
  have A:Fl (h-a)->l=a+b-h:=by
    intro hx
    have e1:=nr_self hx nv
    subst e1
    rw [show h-(h-a)=a by omega] at nu
    have e2:=nr_self ha nu
    subst e2
    rw [show u-u=0 by omega] at np
    have e3:=nr_self fl_zero np
    subst e3
    rw [show b-(h-u)=u+b-h by omega] at nq
    have e4:=nr_self hd nq
    subst e4
    rw [show 0+(u+b-h)=u+b-h by omega] at nl
    exact nr_self hd nl
  by_cases hab:b.natAbs<=a.natAbs
  . exact A (back ha hb hab nh)
  by_cases hha:a.natAbs<=h.natAbs
  . -- h-v is exact
    have n1:Nr (h + -a) v:=by rw [show h + -a=h-a by omega]; exact nv
    have hx:=(back nh.1 ha.neg (by omega) n1).neg
    rw [show -(v-h)=h-v by omega] at hx
    have e1:=nr_self hx nu
    subst e1
    have hy:=(err_sum nh.1 ha.neg n1).neg
    rw [show -(h + -a-v)=a-(h-v) by omega] at hy
    have e2:=nr_self hy np
    subst e2
    have r1:=nr_rel nh
    have r2:=nv.2 b hb
    have hz:Fl (b-v):=fl_sub hb nv.1 (by omega) (by omega)
    have e3:=nr_self hz nq
    subst e3
    rw [show a-(h-v)+(b-v)=a+b-h by omega] at nl
    exact nr_self hd nl
  . -- then the sum is exact
    have e1:=nh.2 a ha
    have e2:=nh.2 (-a) ha.neg
    have hS:Fl (a+b):=fl_add ha hb (by omega) (by omega)
    have e3:=nr_self hS nh
    exact A (by rw [e3,show a+b-a=b by omega]; exact hb)
theorem nr_ge {S h T:Int} (n:Nr S h) (hT:Fl T) (c:T<=S):T<=h:=by
  have:=n.2 T hT
  omega
theorem fl_p2 (i:Nat) {m:Nat} (hm:(m:Int)<=9007199254740992):Fl ((m:Int)*2^i):=by
  refine fl_of (k:=i) ⟨m,by rw [Int.mul_comm]⟩ ?_
  have h1:0<=(m:Int)*2^i:=Int.mul_nonneg (by omega) (Int.le_of_lt (p2 i))
  have h2:(m:Int)*2^i<=9007199254740992*2^i:=Int.mul_le_mul_of_nonneg_right hm (Int.le_of_lt (p2 i))
  omega
theorem fl_units {h:Int} {i:Nat} (f:Fl h) (c:4503599627370496*2^i<=(h.natAbs:Int)):(2^i:Int) ∣ h:=by
  obtain ⟨j,d,b⟩:=f
  have hi:=p2 i
  have hj:=p2 j
  cases i with
  | zero=>exact ⟨h,by simp⟩
  | succ i=>
    rw [p2s] at c
    have:(2:Int)^i<2^j:=by omega
    exact Int.dvd_trans (p2dvd (p2lt this)) d
theorem near_mult (S:Int) (i:Nat):∃ T:Int,(2^i:Int) ∣ T∧2*(T-S).natAbs<=(2^i:Int):=by
  have hi:=p2 i
  have hm:=Int.emod_nonneg S (show (2:Int)^i≠0 by omega)
  have hl:=Int.emod_lt_of_pos S hi
  have e:=Int.emod_add_mul_ediv S (2^i)
  generalize S % 2^i=t at *
  by_cases c:2*t<=2^i
  . exact ⟨S-t,⟨S/2^i,by omega⟩,by omega⟩
  . exact ⟨S-t+2^i,⟨S/2^i+1,by rw [Int.mul_add,Int.mul_one]; omega⟩,by omega⟩
theorem nr_err {S h:Int} {i:Nat} (n:Nr S h) (c:(S.natAbs:Int)<=9007199254740992*2^i):2*((h-S).natAbs:Int)<=2^i:=by
  obtain ⟨T,d,e⟩:=near_mult S i
  have hi:=p2 i
  have hT:Fl T:=by
    by_cases c2:(T.natAbs:Int)<=9007199254740992*2^i
    . exact fl_of d c2
    . exfalso
      obtain ⟨t,rfl⟩:=d
      have h1:(9007199254740992:Int)<t.natAbs:=by
        rw [Int.natAbs_mul] at c2
        have e2:((2^i:Int).natAbs:Int)=2^i:=by omega
        push_cast at c2
        rcases Int.lt_or_le 9007199254740992 (t.natAbs:Int) with g | g
        . exact g
        . exfalso
          have:=Int.mul_le_mul_of_nonneg_left g (Int.le_of_lt hi)
          rw [e2] at c2
          omega
      have h2:(2^i:Int)*9007199254740993<=((2^i*t).natAbs:Int):=by
        rw [Int.natAbs_mul]
        have e2:((2^i:Int).natAbs:Int)=2^i:=by omega
        rw [Int.natCast_mul,e2]
        exact Int.mul_le_mul_of_nonneg_left (by omega) (Int.le_of_lt hi)
      generalize 2^i*t=T at *
      omega
  have:=n.2 T hT
  omega
structure Spl (a h:Int) (j:Nat):Prop where
  up:(134217728*2^j:Int) ∣ h
  lo:(2^j:Int) ∣ a-h
  top:(h.natAbs:Int)<=9007199254740992*2^j
  low:((a-h).natAbs:Int)<=67108864*2^j
theorem Spl.neg {a h:Int} {j:Nat} (s:Spl a h j):Spl (-a) (-h) j :=
  ⟨(Int.dvd_neg).2 s.up,by rw [show -a - -h=-(a-h) by omega]; exact (Int.dvd_neg).2 s.lo,by rw [Int.natAbs_neg]; exact s.top,by rw [show -a - -h=-(a-h) by omega,Int.natAbs_neg]; exact s.low⟩
theorem natAbs_p2 (i:Nat) (t:Int):((2^i*t).natAbs:Int)=2^i*(t.natAbs:Int):=by
  have hi:=p2 i
  rw [Int.natAbs_mul,Int.natCast_mul,show ((2^i:Int).natAbs:Int)=2^i by omega]
theorem Fl.down {i:Nat} {t:Int} (h:Fl (2^i*t)):Fl t:=by
  obtain ⟨k,d,b⟩:=h
  rw [natAbs_p2] at b
  rcases Nat.le_total i k with c | c
  . obtain ⟨e,rfl⟩:∃ e,k=i+e:=⟨k-i,by omega⟩
    rw [Int.pow_add] at d b
    refine ⟨e,Int.dvd_of_mul_dvd_mul_left (by have:=p2 i; omega) d,?_⟩
    have e2:(9007199254740992:Int)*(2^i*2^e)=2^i*(9007199254740992*2^e):=by rw [<- Int.mul_assoc,<- Int.mul_assoc,Int.mul_comm _ (2^i)]
    rw [e2] at b
    exact Int.lt_of_mul_lt_mul_left b (Int.le_of_lt (p2 i))
  . refine ⟨0,⟨t,by simp⟩,?_⟩
    have h1:(9007199254740992:Int)*2^k<=2^i*9007199254740992:=by rw [Int.mul_comm]; exact Int.mul_le_mul_of_nonneg_right (p2le c) (by decide)
    have h2:=Int.lt_of_mul_lt_mul_left (Int.lt_of_lt_of_le b h1) (Int.le_of_lt (p2 i))
    simpa using h2
theorem Fl.up {t:Int} (h:Fl t) (i:Nat):Fl (2^i*t):=by
  obtain ⟨k,⟨c,rfl⟩,b⟩:=h
  refine ⟨i+k,⟨c,by rw [Int.pow_add,Int.mul_assoc]⟩,?_⟩
  rw [natAbs_p2,Int.pow_add]
  have e2:(9007199254740992:Int)*(2^i*2^k)=2^i*(9007199254740992*2^k):=by rw [<- Int.mul_assoc,<- Int.mul_assoc,Int.mul_comm _ (2^i)]
  rw [e2]
  exact Int.mul_lt_mul_of_pos_left b (p2 i)
theorem abs_mul_le {x y:Int} {X Y:Int} (hx:(x.natAbs:Int)<=X) (hy:(y.natAbs:Int)<=Y):((x*y).natAbs:Int)<=X*Y:=by
  rw [Int.natAbs_mul,Int.natCast_mul]
  exact Int.mul_le_mul hx hy (by omega) (by omega)
end Go.Proofs.YtobofhgpidbpmaaDoor.M
namespace Go.Proofs.YtobofhgpidbpmaaDoor
open Go Go.RowKit Go.Proofs.YtobofhgpidbpmaaDoor.M Ieee
def iV (p:Int):Int:=sg (decide (p<0)) (V Ieee.double (rg p).toNat:Int)
theorem patV_iV {p:Int} (hp:rng p) (h:pok p=true):patV p=iV p*pw (-1074):=by
  rw [patV_dec hp h]; unfold iV vS; rw [sg_prod]
theorem nat_two (n k:Nat):((n*2^k:Nat):Int)=2^k*(n:Int):=by rw [Int.natCast_mul,Int.mul_comm]; simp
theorem k_ne {S q:Int} (hq:0<q) (h:S≠0):S*q≠0:=fun c=>by
  rcases Int.mul_eq_zero.1 c with d | d <;> omega
theorem k_neg {S q:Int} (hq:0<q):decide (S*q<0)=decide (S<0):=by
  congr 1
  exact propext (lt_zero_iff hq).symm
theorem k_abs {S q A:Int} (hq:0<q) (h:S*q=sg (decide (S<0)) A):A=(S.natAbs:Int)*q:=by
  have:=natAbs_sg (t:=S) hq
  rw [this] at h
  exact (sg_inj h).symm
theorem k_back {S h:Int} (n:Nr (S.natAbs:Int) h):Nr S (sg (decide (S<0)) h):=by
  by_cases c:S<0
  . rw [decide_eq_true c]
    have n2:=n.neg
    have e:-(S.natAbs:Int)=S:=by omega
    rw [e] at n2
    exact n2
  . rw [decide_eq_false c]
    have e:(S.natAbs:Int)=S:=by omega
    rw [e] at n
    exact n
theorem fl_V (r:Nat):Fl (V Ieee.double r:Int):=by
  unfold V
  rw [dBin]
  by_cases h:r<4503599627370496
  . rw [if_pos h]
    exact ⟨0,⟨r,by simp⟩,by simp; omega⟩
  . rw [if_neg h]
    have hm:=Nat.mod_lt r (show 0<4503599627370496 by decide)
    obtain ⟨n,hn⟩:∃ n,4503599627370496+r % 4503599627370496=n:=⟨_,rfl⟩
    rw [hn]
    refine ⟨r/4503599627370496-1,⟨n,nat_two _ _⟩,?_⟩
    rw [Int.natAbs_natCast,nat_two,Int.mul_comm]
    exact Int.mul_lt_mul_of_pos_right (by omega) (p2 _)
theorem V_fl {f:Int} (h:Fl f):∃ r:Nat,(f.natAbs:Int)=(V Ieee.double r:Int):=by
  obtain ⟨k,b,c⟩:=binade (f.natAbs:Int) (by omega)
  rcases Nat.eq_zero_or_pos k with g | g
  . subst g
    have:=V_parts Ieee.double 0 f.natAbs (.inl ⟨rfl,by rw [dBin]; simp at b; omega⟩)
    exact ⟨_,by rw [this]; simp⟩
  . have c2:4503599627370496*2^k<=(f.natAbs:Int):=by
      rcases c with c | c
      . omega
      . exact c
    obtain ⟨t,ht⟩:=fl_units h c2
    have e:(f.natAbs:Int)=2^k*(t.natAbs:Int):=by rw [ht,natAbs_p2]
    rw [e] at b c2
    have hk:=p2 k
    have b2:(t.natAbs:Int)<9007199254740992:=Int.lt_of_mul_lt_mul_left (by rw [Int.mul_comm (2^k) 9007199254740992]; exact b) (Int.le_of_lt hk)
    have c3:4503599627370496<=(t.natAbs:Int):=Int.le_of_mul_le_mul_left (by rw [Int.mul_comm (2^k) 4503599627370496]; exact c2) hk
    have:=V_parts Ieee.double k t.natAbs (.inr ⟨by rw [dBin]; omega,by rw [dBin]; omega⟩)
    exact ⟨_,by rw [this,e]; push_cast; rw [Int.mul_comm]⟩
theorem V_le {r s:Nat} (h:r<=s):(V Ieee.double r:Int)<=V Ieee.double s:=by
  rcases Nat.lt_or_eq_of_le h with g | g
  . have:=V_lt Ieee.double g; omega
  . rw [g]; omega
theorem nr_V {S:Int} {ng:Bool} {r0:Nat} {left:Int} (h0:0<=S) (hR:Rung (S*pw (-1074)) r0 left) (hf:rTo 0 ng r0 left<9218868437227405312):Nr S (V Ieee.double (rTo 0 ng r0 left).toNat:Int):=by
  obtain ⟨lo,hi,l0,l1,l2,l3⟩:=hR
  have hq:=pw_pos (-1074)
  unfold vS at *
  generalize pw (-1074)=q at *
  have g1:(V Ieee.double r0:Int)<=S:=Int.le_of_mul_le_mul_right lo hq
  have g2:S<(V Ieee.double (r0+1):Int):=Int.lt_of_mul_lt_mul_right hi (Int.le_of_lt hq)
  have g3:left=2->2*S=(V Ieee.double r0:Int)+V Ieee.double (r0+1):=fun c=>by
    have:=l2.1 c
    rw [<- Int.add_mul,<- Int.mul_assoc] at this
    exact Int.eq_of_mul_eq_mul_right (by omega) this
  have g4:left=3->(V Ieee.double r0:Int)+V Ieee.double (r0+1)<2*S:=fun c=>by
    have:=l3.1 c
    rw [<- Int.add_mul,<- Int.mul_assoc] at this
    exact Int.lt_of_mul_lt_mul_right this (Int.le_of_lt hq)
  have g5:left≠3->2*S<=(V Ieee.double r0:Int)+V Ieee.double (r0+1):=fun c=>by
    rcases Int.lt_or_le ((V Ieee.double r0:Int)+V Ieee.double (r0+1)) (2*S) with d | d
    . have:=Int.mul_lt_mul_of_pos_right d hq
      rw [Int.add_mul,Int.mul_assoc] at this
      exact absurd (l3.2 this) c
    . exact d
  clear l0 l1 l2 l3 lo hi
  have far:∀ f:Int,Fl f->f<=V Ieee.double r0∨V Ieee.double (r0+1)<=f:=by
    intro f hf
    obtain ⟨s,hs⟩:=V_fl hf
    rcases Nat.lt_or_ge r0 s with c | c
    . have:=V_le (show r0+1<=s from c)
      have:=V_le (show 0<=r0 by omega)
      omega
    . have:=V_le c
      omega
  unfold rTo at hf ⊢
  by_cases hr:(r0:Int)<9218868437227405312
  . rw [if_pos hr] at hf ⊢
    cases hu:rUp 0 ng (decide (r0 % 2=1)) left
    . rw [if_neg (by decide)]
      have e:((r0:Int)+0).toNat=r0:=by omega
      rw [e]
      have hl:left≠3:=fun c=>by
        subst c
        unfold rUp at hu
        simp at hu
      refine ⟨fl_V r0,fun f hf=>?_⟩
      have:=far f hf
      have:=g5 hl
      omega
    . rw [if_pos rfl]
      have e:((r0:Int)+1).toNat=r0+1:=by omega
      rw [e]
      have hl:left=3∨left=2:=by
        unfold rUp at hu
        simp at hu
        rcases hu with c | c
        . exact .inl c
        . exact .inr c.1
      refine ⟨fl_V (r0+1),fun f hf=>?_⟩
      have:=far f hf
      rcases hl with c | c
      . have:=g4 c; omega
      . have:=g3 c; omega
  . rw [if_neg hr] at hf
    unfold bRung rUp at hf
    simp at hf
def maxV:Int:=(V Ieee.double 9218868437227405311:Int)
theorem fin_V {S:Int} {ng:Bool} {r0:Nat} {left:Int} (h0:S<=maxV) (hR:Rung (S*pw (-1074)) r0 left):rTo 0 ng r0 left<9218868437227405312:=by
  obtain ⟨lo,hi,l0,l1,l2,l3⟩:=hR
  have hq:=pw_pos (-1074)
  unfold vS at *
  generalize pw (-1074)=q at *
  have g1:(V Ieee.double r0:Int)<=S:=Int.le_of_mul_le_mul_right lo hq
  have hr:r0<=9218868437227405311:=by
    rcases Nat.lt_or_ge 9218868437227405311 r0 with c | c
    . have:=V_lt Ieee.double c
      unfold maxV at h0
      omega
    . exact c
  unfold rTo
  rw [if_pos (by omega)]
  by_cases c:r0=9218868437227405311
  . have e:S=(V Ieee.double r0:Int):=by rw [c] at g1 ⊢; unfold maxV at h0; omega
    have:left=0:=l0.2 (by rw [e])
    subst this
    rw [if_neg (fun c=>rUp_left c)]
    omega
  . split <;> omega
theorem patS_parts {ng:Bool} {r:Int} (h0:0<=r) (h1:r<=9218868437227405312):rng (patS ng r)∧rg (patS ng r)=r∧decide (patS ng r<0)=ng:=by
  unfold patS rng rg
  cases ng
  . simp only [Bool.false_eq_true,if_false]
    rw [if_neg (by omega)]
    exact ⟨by omega,rfl,decide_eq_false (by omega)⟩
  . simp only [if_true]
    rw [if_pos (by omega)]
    exact ⟨by omega,by omega,decide_eq_true (by omega)⟩
theorem patS_fin {ng:Bool} {r:Int} (h0:0<=r) (h1:r<=9218868437227405312):pok (patS ng r)=decide (r<9218868437227405312):=by
  obtain ⟨a,b,_⟩:=patS_parts (ng:=ng) h0 h1
  have:=pok_rg a
  rw [b] at this
  cases h:pok (patS ng r)
  . refine (decide_eq_false fun c=>?_).symm
    rw [this.2 c] at h; cases h
  . exact (decide_eq_true (this.1 h)).symm
theorem iV_patS {ng:Bool} {r:Int} (h0:0<=r) (h1:r<=9218868437227405312):iV (patS ng r)=sg ng (V Ieee.double r.toNat:Int):=by
  obtain ⟨_,b,c⟩:=patS_parts (ng:=ng) h0 h1
  unfold iV
  rw [b,c]
theorem nr_zero:Nr 0 0:=⟨fl_zero,fun f _=>by omega⟩
theorem near_iV {S:Int} (h:S≠0):rng (nearP (S*pw (-1074)))∧(pok (nearP (S*pw (-1074)))=true->Nr S (iV (nearP (S*pw (-1074)))))∧((S.natAbs:Int)<=maxV->pok (nearP (S*pw (-1074)))=true):=by
  have hq:=pw_pos (-1074)
  obtain ⟨A,r0,left,e1,hR,e2⟩:=nearP_rung (k_ne hq h)
  rw [k_neg hq] at e1 e2
  have hA:=k_abs hq e1
  rw [hA] at hR
  have hrr:=rTo_range 0 (decide (S<0)) r0 left
  rw [e2]
  refine ⟨(patS_parts hrr.1 hrr.2).1,fun hp=>?_,fun hb=>?_⟩
  . rw [patS_fin hrr.1 hrr.2] at hp
    have n:=nr_V (ng:=decide (S<0)) (Int.natCast_nonneg _) hR (of_decide_eq_true hp)
    rw [iV_patS hrr.1 hrr.2]
    exact k_back n
  . rw [patS_fin hrr.1 hrr.2]
    exact decide_eq_true (fin_V hb hR)
end Go.Proofs.YtobofhgpidbpmaaDoor
