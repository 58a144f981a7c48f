/- Parts of the proof. -/
import Derived.Test.YtobofhgpidbpmaaDoorSt8
import Derived.Test.YtobofhgpidbpmaaDoorSt4
import Derived.Test.YtobofhgpidbpmaaDoorSt7
import Derived.Test.YtobofhgpidbpmaaDoorSt1
import Derived.Test.YtobofhgpidbpmaaDoorSt5
import Derived.Test.YtobofhgpidbpmaaDoorSt6
import Derived.Test.YtobofhgpidbpmaaDoorSt2
import Derived.Test.YtobofhgpidbpmaaDoorSt3
import Derived.Deep.RegionHeld3
import Derived.ArgAppend
import Derived.Lib.AppendZerosOnto
set_option linter.unusedVariables false
set_option linter.unusedSimpArgs false
namespace Go.Proofs.YtobofhgpidbpmaaDoor
open Go Go.RowKit Go.Proofs.YtobofhgpidbpmaaDoor.M Ieee
theorem nan_rng:rng 9221120237041090561:=by unfold rng; decide
theorem nan_no:pok 9221120237041090561=false:=by decide
theorem pok_of {p:Int} (hp:rng p) (h4:¬ cls p=4) (hi:¬ rg p=9218868437227405312):pok p=true:=by
  have:=(cls_rg hp).1
  rw [pok_rg hp]
  have:¬ 9218868437227405312<rg p:=fun c=>h4 (this.2 c)
  omega
theorem inf_no {p:Int} (hp:rng p) (hi:rg p=9218868437227405312):¬ pok p=true:=fun h=>by
  have:=(pok_rg hp).1 h
  omega
theorem fin_cls {p:Int} (hp:rng p) (h:pok p=true):¬ cls p=4∧¬ rg p=9218868437227405312:=by
  have h1:=(pok_rg hp).1 h
  exact ⟨fun c=>by have:=(cls_rg hp).1.1 c; omega,by omega⟩
theorem fsum_args {p q:Int} (hp:rng p) (hq:rng q) (h:pok (fsum p q)=true):pok p=true∧pok q=true:=by
  unfold fsum at h
  by_cases c4:cls p=4∨cls q=4
  . rw [if_pos c4,nan_no] at h; cases h
  rw [if_neg c4] at h
  by_cases ci:rg p=9218868437227405312
  . rw [if_pos ci] at h
    by_cases cj:rg q=9218868437227405312∧decide (p<0)≠decide (q<0)
    . rw [if_pos cj,nan_no] at h; cases h
    . rw [if_neg cj] at h; exact absurd h (inf_no hp ci)
  rw [if_neg ci] at h
  by_cases cj:rg q=9218868437227405312
  . rw [if_pos cj] at h; exact absurd h (inf_no hq cj)
  exact ⟨pok_of hp (fun c=>c4 (.inl c)) ci,pok_of hq (fun c=>c4 (.inr c)) cj⟩
theorem zero_facts (g:Bool):rng (patS g 0)∧pok (patS g 0)=true∧iV (patS g 0)=0:=by
  refine ⟨(patS_parts (by decide) (by decide)).1,?_,?_⟩
  . rw [patS_fin (by decide) (by decide)]; decide
  . rw [iV_patS (by decide) (by decide)]
    show sg g (V Ieee.double 0:Int)=0
    rw [V_zero]
    exact sg_zero g
structure EStp (S p:Int):Prop where
  rn:rng p
  nr:pok p=true->Nr S (iV p)
  fin:(S.natAbs:Int)<=maxV->pok p=true
theorem stp_zero (g:Bool):EStp 0 (patS g 0):=by
  obtain ⟨a,b,c⟩:=zero_facts g
  exact ⟨a,fun _=>by rw [c]; exact nr_zero,fun _=>b⟩
theorem stp_near {S:Int} (h:S≠0):EStp S (nearP (S*pw (-1074))):=by
  obtain ⟨a,b,c⟩:=near_iV h
  exact ⟨a,b,c⟩
theorem k_fs {a b T u Z k w:Int} (hz:0<Z) (e2:w*w=u*Z) (e3:w=u*k) (hT:k*T=a*b):a*w*(b*w)/Z=T*w:=by
  have e1:a*w*(b*w)=a*b*(w*w):=by
    rw [Int.mul_assoc,Int.mul_assoc]; congr 1; rw [<- Int.mul_assoc,<- Int.mul_assoc,Int.mul_comm w b]
  rw [e1,e2,<- hT]
  have:k*T*(u*Z)=T*w*Z:=by
    rw [e3,Int.mul_comm k T,Int.mul_assoc,Int.mul_assoc,<- Int.mul_assoc k u Z,Int.mul_comm k u]
  rw [this]
  exact Int.mul_ediv_cancel _ (by omega)
theorem k_zero {T w:Int} (g:Bool) (hw:0<w) (d:sg g (T*w)=0):T=0:=by
  have:=sg_eq_zero d
  rcases Int.mul_eq_zero.1 this with g | g <;> omega
theorem k_zero0 {T w:Int} (hw:0<w) (d:T*w=0):T=0:=by
  rcases Int.mul_eq_zero.1 d with g | g <;> omega
theorem k_sgz {T w:Int} (g:Bool) (h:T=0):sg g (T*w)=0:=by rw [h,Int.zero_mul]; exact sg_zero g
theorem k_sgsg (g:Bool) (A:Int):sg g (sg g A)=A:=by cases g <;> simp [sg]
theorem stp_sum {p q:Int} (hp:rng p) (hq:rng q) (pp:pok p=true) (pq:pok q=true):EStp (iV p+iV q) (fsum p q):=by
  obtain ⟨a1,a2⟩:=fin_cls hp pp
  obtain ⟨b1,b2⟩:=fin_cls hq pq
  have e:fsum p q=if iV p+iV q=0 then patS (decide (p<0) && decide (q<0)) 0 else nearP ((iV p+iV q)*pw (-1074)):=by
    unfold fsum
    rw [if_neg (fun c=>c.elim a1 b1),if_neg a2,if_neg b2,patV_iV hp pp,patV_iV hq pq,<- Int.add_mul]
    have hq:=pw_pos (-1074)
    by_cases c:iV p+iV q=0
    . rw [if_pos c,if_pos (by rw [c,Int.zero_mul])]
    . rw [if_neg c,if_neg (fun d=>c (k_zero0 hq d))]
  rw [e]
  by_cases c:iV p+iV q=0
  . rw [if_pos c,c]; exact stp_zero _
  . rw [if_neg c]; exact stp_near c
theorem stp_prod {p q T:Int} (hp:rng p) (hq:rng q) (pp:pok p=true) (pq:pok q=true) (hT:2^1074*T=iV p*iV q):EStp T (fprod p q):=by
  obtain ⟨a1,a2⟩:=fin_cls hp pp
  obtain ⟨b1,b2⟩:=fin_cls hq pq
  have hw:=pw_pos (-1074)
  have hs:patV p*patV q/2^4194304=T*pw (-1074):=by
    rw [patV_iV hp pp,patV_iV hq pq]
    have e2:=pw_mul (a:=-1074) (b:=-1074) (by decide) (by decide)
    rw [show (-1074 + -1074:Int)=-2148 by decide] at e2
    have e3:=pw_add (e:=-2148) (by decide) 1074
    rw [show (-2148+((1074:Nat):Int))=-1074 by decide] at e3
    exact k_fs (two_pos 4194304) e2 e3 hT
  have e:fprod p q=if T=0 then patS (xsg p q) 0 else nearP (T*pw (-1074)):=by
    unfold fprod fsize
    rw [if_neg (fun c=>c.elim a1 b1),if_neg (fun c=>c.elim a2 b2),hs]
    by_cases c:T=0
    . rw [if_pos c,if_pos (k_sgz _ c)]
    . rw [if_neg c,if_neg (fun d=>c (k_zero _ hw d)),k_sgsg]
  rw [e]
  by_cases c:T=0
  . rw [if_pos c,c]; exact stp_zero _
  . rw [if_neg c]; exact stp_near c
theorem neg_facts {q:Int} (hq:rng q) (h:pok q=true):rng (neg q)∧pok (neg q)=true∧iV (neg q)=-iV q:=by
  obtain ⟨b1,b2⟩:=fin_cls hq h
  have h1:=(pok_rg hq).1 h
  have e:neg q=patS (!decide (q<0)) (rg q):=by
    unfold neg patS rg
    rw [if_neg b1]
    by_cases c:q<0
    . rw [if_pos c,if_pos c,decide_eq_true c]; rfl
    . rw [if_neg c,if_neg c,decide_eq_false c]; rfl
  have h0:0<=rg q:=by unfold rg; unfold rng at hq; split <;> omega
  obtain ⟨c1,c2,c3⟩:=patS_parts (ng:=!decide (q<0)) h0 (by omega)
  refine ⟨by rw [e]; exact c1,by rw [e,patS_fin h0 (by omega)]; exact decide_eq_true h1,?_⟩
  rw [e,iV_patS h0 (by omega)]
  unfold iV
  rw [sg_not]
theorem neg_arg {q:Int} (hq:rng q) (h:pok (neg q)=true):pok q=true:=by
  unfold neg at h
  by_cases c:cls q=4
  . rw [if_pos c,nan_no] at h; cases h
  . by_cases ci:rg q=9218868437227405312
    . exfalso
      rw [if_neg c] at h
      have hr:rng (if q<0 then q+9223372036854775808 else q-9223372036854775808):=by unfold rng at *; split <;> omega
      have:=(pok_rg hr).1 h
      unfold rg at this ci
      split at this <;> split at ci <;> split at this <;> omega
    . exact pok_of hq c ci
theorem neg_rng {q:Int} (hq:rng q):rng (neg q):=by
  unfold neg rng at *
  split
  . omega
  . split <;> omega
theorem stp_diff {p q:Int} (hp:rng p) (hq:rng q) (pp:pok p=true) (pq:pok q=true):EStp (iV p-iV q) (fsum p (neg q)):=by
  obtain ⟨a,b,c⟩:=neg_facts hq pq
  have:=stp_sum hp a pp b
  rw [c] at this
  exact this
theorem fdiff_args {p q:Int} (hp:rng p) (hq:rng q) (h:pok (fsum p (neg q))=true):pok p=true∧pok q=true:=by
  obtain ⟨a,b⟩:=fsum_args hp (neg_rng hq) h
  exact ⟨a,neg_arg hq b⟩
theorem fsum_rng {p q:Int} (hp:rng p) (hq:rng q):rng (fsum p q):=by
  by_cases h:pok p=true∧pok q=true
  . exact (stp_sum hp hq h.1 h.2).rn
  . unfold fsum
    by_cases c4:cls p=4∨cls q=4
    . rw [if_pos c4]; exact nan_rng
    rw [if_neg c4]
    by_cases ci:rg p=9218868437227405312
    . rw [if_pos ci]; split
      . exact nan_rng
      . exact hp
    rw [if_neg ci]
    by_cases cj:rg q=9218868437227405312
    . rw [if_pos cj]; exact hq
    exact absurd ⟨pok_of hp (fun c=>c4 (.inl c)) ci,pok_of hq (fun c=>c4 (.inr c)) cj⟩ h
theorem fprod_rng {p q:Int} (hp:rng p) (hq:rng q):rng (fprod p q):=by
  unfold fprod
  split
  . exact nan_rng
  . split
    . split
      . exact nan_rng
      . exact (patS_parts (by decide) (by decide)).1
    . split
      . exact (patS_parts (by decide) (by decide)).1
      . rename_i h
        exact (nearP_pat (fun c=>h (sg_eq_zero c))).1
def sV (p q:Int):Int:=fsum (fsum p q) (neg p)
def sL (p q:Int):Int:=fsum (fsum p (neg (fsum (fsum p q) (neg (sV p q))))) (fsum q (neg (sV p q)))
def fL (p q:Int):Int:=fsum q (neg (fsum (fsum p q) (neg p)))
def cC (p:Int):Int:=fprod 4728779608772575232 p
def spH (p:Int):Int:=fsum (cC p) (neg (fsum (cC p) (neg p)))
def spL (p:Int):Int:=fsum p (neg (spH p))
def pT1 (a b:Int):Int:=fsum (fprod a b) (neg (fprod (spH a) (spH b)))
def pT2 (a b:Int):Int:=fsum (pT1 a b) (neg (fprod (spL a) (spH b)))
def pT3 (a b:Int):Int:=fsum (pT2 a b) (neg (fprod (spH a) (spL b)))
def prL (a b:Int):Int:=fsum (fprod (spL a) (spL b)) (neg (pT3 a b))
theorem fl_iV (p:Int):Fl (iV p):=by
  unfold iV
  cases decide (p<0)
  . exact fl_V _
  . exact (fl_V _).neg
theorem iV_abs (p:Int):((iV p).natAbs:Int)=(V Ieee.double (rg p).toNat:Int):=by
  unfold iV sg
  cases decide (p<0)
  . simp
  . simp
theorem sL_exact {p q:Int} (hp:rng p) (hq:rng q) (h:pok (sL p q)=true):(pok p=true∧pok q=true)∧pok (fsum p q)=true∧iV (fsum p q)+iV (sL p q)=iV p+iV q:=by
  have rh:=fsum_rng hp hq
  have rv:rng (sV p q):=fsum_rng rh (neg_rng hp)
  have rU:=fsum_rng rh (neg_rng rv)
  have rX:=fsum_rng hp (neg_rng rU)
  have rY:=fsum_rng hq (neg_rng rv)
  obtain ⟨pX,pY⟩:=fsum_args rX rY h
  obtain ⟨pp,pU⟩:=fdiff_args hp rU pX
  obtain ⟨pq,pv⟩:=fdiff_args hq rv pY
  obtain ⟨ph,_⟩:=fdiff_args rh hp pv
  have e:=two_sum (fl_iV p) (fl_iV q) ((stp_sum hp hq pp pq).nr ph) ((stp_diff rh hp ph pp).nr pv) ((stp_diff rh rv ph pv).nr pU) ((stp_diff hp rU pp pU).nr pX) ((stp_diff hq rv pq pv).nr pY) ((stp_sum rX rY pX pY).nr h)
  exact ⟨⟨pp,pq⟩,ph,by unfold sL; omega⟩
theorem fsum_eqn {p q:Int} (hp:rng p) (hq:rng q) (pp:pok p=true) (pq:pok q=true):fsum p q=if patV p+patV q=0 then patS (decide (p<0) && decide (q<0)) 0 else nearP (patV p+patV q):=by
  obtain ⟨a1,a2⟩:=fin_cls hp pp
  obtain ⟨b1,b2⟩:=fin_cls hq pq
  unfold fsum
  rw [if_neg (fun c=>c.elim a1 b1),if_neg a2,if_neg b2]
theorem fsum_comm {p q:Int} (hp:rng p) (hq:rng q) (pp:pok p=true) (pq:pok q=true):fsum p q=fsum q p:=by
  rw [fsum_eqn hp hq pp pq,fsum_eqn hq hp pq pp,Int.add_comm (patV q),Bool.and_comm (decide (q<0))]
def fX (p q:Int):Bool:=pok (fL p q) && (!decide ((iV p).natAbs<(iV q).natAbs) || decide (iV (fL p q)=iV (fL q p)))
end Go.Proofs.YtobofhgpidbpmaaDoor
/-
  Mathematics of whole numbers: a float's whole units,ints as floats,the order of floats in the model.
-/
namespace Go.Proofs.YtobofhgpidbpmaaDoor.M
open Go Ieee
theorem left_u {A q:Int} {u v:Nat} {l k:Int} (h:Left A u q l) (g:Left A v q k):¬ u<v:=fun c=>by
  have h1:=h.hi
  have h2:=g.lo
  have hq:0<q:=by have:=h.lo; omega
  have h3:((u:Int)+1)*q<=(v:Int)*q:=Int.mul_le_mul_of_nonneg_right (by omega) (by omega)
  rw [Int.add_mul,Int.one_mul] at h3
  omega
theorem Left.unique {A q:Int} {u v:Nat} {l k:Int} (h:Left A u q l) (g:Left A v q k):u=v∧l=k:=by
  have e:u=v:=by
    have h1:=left_u h g
    have h2:=left_u g h
    omega
  subst e
  refine ⟨rfl,?_⟩
  have lo:=h.lo
  have hi:=h.hi
  obtain ⟨T,hT⟩:∃ T,(u:Int)*q=T:=⟨_,rfl⟩
  rw [hT] at lo hi
  have a0:=h.l0
  have a1:=h.l1
  have a2:=h.l2
  have a3:=h.l3
  have b0:=g.l0
  have b1:=g.l1
  have b2:=g.l2
  have b3:=g.l3
  rw [hT] at a0 a1 a2 a3 b0 b1 b2 b3
  by_cases c0:A=T
  . rw [a0.2 c0,b0.2 c0]
  . by_cases c1:2*A<2*T+q
    . rw [a1.2 ⟨by omega,c1⟩,b1.2 ⟨by omega,c1⟩]
    . by_cases c2:2*A=2*T+q
      . rw [a2.2 c2,b2.2 c2]
      . rw [a3.2 (by omega),b3.2 (by omega)]
end Go.Proofs.YtobofhgpidbpmaaDoor.M
namespace Go.Proofs.YtobofhgpidbpmaaDoor
open Go Go.RowKit Go.Proofs.YtobofhgpidbpmaaDoor.M Ieee
end Go.Proofs.YtobofhgpidbpmaaDoor
namespace Go.Proofs.YtobofhgpidbpmaaDoor
open Go Go.RowKit Go.Proofs.YtobofhgpidbpmaaDoor.M Ieee
theorem FW.rng {p:Int} {x:Nat} (h:FW p x):M.rng p:=by
  rcases h with ⟨_,h,_⟩ | ⟨rfl,_⟩
  . exact h
  . exact nan_rng
end Go.Proofs.YtobofhgpidbpmaaDoor
/-
  Package eft: math.Abs,FastTwoSum,reachable,TwoProd,by their contracts.
-/
namespace Go.Proofs.YtobofhgpidbpmaaDoor
open Go Go.RowKit Go.Proofs.YtobofhgpidbpmaaDoor.M Ieee
theorem FW.fin {p:Int} {x:Nat} (h:FW p x) (g:pok p=true):x=wd p:=by
  rcases h with ⟨_,_,h⟩ | ⟨rfl,_⟩
  . exact h
  . rw [nan_no] at g; cases g
end Go.Proofs.YtobofhgpidbpmaaDoor
namespace Go.Proofs.YtobofhgpidbpmaaDoor
open Go Go.RowKit Go.Proofs.YtobofhgpidbpmaaDoor.M Ieee
def reach (a b:Int):Bool:=decide (pmag a=0) || decide (pmag b=0) || decide (-1074<=pexp a+jz (pmag a)+pexp b+jz (pmag b))
end Go.Proofs.YtobofhgpidbpmaaDoor
namespace Go.Proofs.YtobofhgpidbpmaaDoor
open Go Go.RowKit Go.Proofs.YtobofhgpidbpmaaDoor.M Ieee
def pX (p q:Int):Bool:=pok (prL p q) && reach p q
theorem iV_form {p:Int} (hp:rng p) (h:pok p=true):((iV p).natAbs:Int)=pmag p*2^(pexp p+1074).toNat:=by
  have h0:=(pmag_in h).1
  rw [iV_abs,V_rg hp h,nat_two,Int.toNat_of_nonneg h0,Int.mul_comm]
end Go.Proofs.YtobofhgpidbpmaaDoor
namespace Go.Proofs.YtobofhgpidbpmaaDoor
open Go Go.RowKit Go.Proofs.YtobofhgpidbpmaaDoor.M
end Go.Proofs.YtobofhgpidbpmaaDoor
namespace Go.Proofs.YtobofhgpidbpmaaDoor
open Go Go.RowKit Go.Proofs.YtobofhgpidbpmaaDoor.M Ieee
end Go.Proofs.YtobofhgpidbpmaaDoor
namespace Go.Proofs.YtobofhgpidbpmaaDoor.M
open Go Ieee
theorem q_rg {b:Int} (h:rng b):rng (rg b)∧0<=rg b:=by unfold rng rg at *; split <;> omega
theorem q_cls {b:Int} (h:rng b):cls (rg b)=cls b:=by
  unfold rng at h; unfold cls rg fld frc
  by_cases h0:b<0
  . rw [if_pos h0,show (b+9223372036854775808)/4503599627370496 % 2048=b/4503599627370496 % 2048 from by omega,show (b+9223372036854775808) % 4503599627370496=b % 4503599627370496 from by omega]
  . rw [if_neg h0]
theorem q_wd {b:Int} (h:rng b):wd b % 9223372036854775808=wd (rg b):=by unfold rng rg wd at *; split <;> omega
theorem q_key {b:Int} (h:0<=b):key b=b:=by unfold key; rw [if_neg (by omega)]
theorem q_wdlt (b:Int):wd b<18446744073709551616:=by unfold wd; omega
theorem q_abs {b:Int} (h:rng b):(bits .andNot .u64 (wd b) 9223372036854775808).toNat=wd (rg b):=by
  have e:=q_wd h
  have l:=q_wdlt b
  rw [<- e]
  show (IntKind.u64.wrap (((BitVec.ofInt 64 (wd b:Int) &&& ~~~ BitVec.ofInt 64 9223372036854775808).toNat:Nat):Int)).toNat=_
  rw [BitVec.toNat_and,BitVec.toNat_not,ofInt64_toNat,ofInt64_toNat,show (2^64-1-((9223372036854775808:Int) % 18446744073709551616).toNat)=2^63-1 from by decide,Nat.and_two_pow_sub_one_eq_mod,IntKind.wrap_u64]
  omega
theorem q_fin {b:Int} (h:pok b=true):¬ cls b=4:=by
  have:=pparts h
  unfold cls; rw [if_neg this]; split
  . split <;> omega
  . omega
theorem q_lt {a b:Int} (ha:rng a) (hb:rng b) (h1:¬ cls a=4) (h2:¬ cls b=4) (h:key a<key b):FloatKind.f64.format.order (wd a) (wd b)=some .lt:=by rw [order64 ha hb h1 h2,compare_lt h]
theorem q_gt {a b:Int} (ha:rng a) (hb:rng b) (h1:¬ cls a=4) (h2:¬ cls b=4) (h:key b<key a):FloatKind.f64.format.order (wd a) (wd b)=some .gt:=by rw [order64 ha hb h1 h2,compare_gt h]
theorem q_eq {a b:Int} (ha:rng a) (hb:rng b) (h1:¬ cls a=4) (h2:¬ cls b=4) (h:key a=key b):FloatKind.f64.format.order (wd a) (wd b)=some .eq:=by rw [order64 ha hb h1 h2,compare_eq h]
def tame (b:Int):Bool:=decide (rg b=0) || (decide (3931642474694443008<=rg b) && decide (rg b<5282722362905591808))
theorem tame_fld {b:Int} (h:rng b):tame b=(decide (rg b=0) || (decide (873<=fld b) && decide (fld b<1173))):=by
  obtain ⟨h0,h1⟩:=rg_parts h
  have h2:0<=frc b∧frc b<4503599627370496:=by unfold frc; omega
  unfold tame
  congr 1
  congr 1
  . apply decide_eq_decide.2; omega
  . apply decide_eq_decide.2; omega
theorem pok_rg' {b:Int} (h:rng b):pok b=decide (rg b<=9218868437227405311):=by
  obtain ⟨h0,h1⟩:=rg_parts h
  have h2:0<=frc b∧frc b<4503599627370496:=by unfold frc; omega
  have h3:0<=fld b∧fld b<2048:=by unfold fld; omega
  unfold pok
  by_cases e:fld b=2047
  . simp [e]; omega
  . simp [e]; omega
end Go.Proofs.YtobofhgpidbpmaaDoor.M
namespace Go.Proofs.YtobofhgpidbpmaaDoor
open Go Go.RowKit Go.Proofs.YtobofhgpidbpmaaDoor.M
structure Ls where
  n:Nat
  d:Nat->Int
def Ls.add (s:Ls) (b:Int):Ls:=if rg b=0 then s else ⟨s.n+1,upd s.d s.n b⟩
def Ls.same (s t:Ls):Prop:=s.n=t.n∧∀ i,i<s.n->s.d i=t.d i
theorem Ls.same.add {s t:Ls} (h:s.same t) (b:Int):(s.add b).same (t.add b):=by
  unfold Ls.add
  split
  . exact h
  . refine ⟨by show s.n+1=t.n+1; rw [h.1],fun i hi=>?_⟩
    show upd s.d s.n b i=upd t.d t.n b i
    by_cases e:i=s.n
    . subst e; rw [upd_same,h.1,upd_same]
    . rw [upd_other _ _ e,upd_other _ _ (by rw [<- h.1]; exact e)]
      exact h.2 i (by have:i<s.n+1:=hi; omega)
def gq (d:Nat->Int) (q:Int):Nat->Int
  | 0=>q
  | k+1=>fsum (gq d q k) (d k)
def gl (d:Nat->Int) (q:Int) (k:Nat):Int:=sL (gq d q k) (d k)
def gs (d:Nat->Int) (q:Int):Nat->Ls
  | 0=>⟨0,d⟩
  | k+1=>(gs d q k).add (gl d q k)
def gx (d:Nat->Int) (q:Int):Nat->Bool
  | 0=>true
  | k+1=>gx d q k && pok (gl d q k)
theorem mathAbs {b:Int} (hb:rng b) (w:World) :
    Calls Tryd.prog 25 #[.float .f64 (wd b)] w fun e w'=>e=.returned (.float .f64 (wd (rg b)))∧w'=w:=by
  have h1:=run_bits64
  have h2:=run_from64
  go_enter Tryd.func25,Tryd.ntmps25
  go_wp2
  go_ret
  exact ⟨ret_float (q_abs hb),rfl⟩
theorem q_finite {b:Int} (hb:rng b) (w:World) :
    Calls Tryd.prog 61 #[.float .f64 (wd b)] w fun e w'=>e=.returned (.bool (pok b))∧w'=w:=by
  have n0:=no64 hb
  obtain ⟨r1,r2⟩:=q_rg hb
  by_cases h4:cls b=4
  . have n1:(FloatKind.f64.format.order (wd b) (wd b) != some .eq)=true:=by rw [n0]; simp [h4]
    have hp:pok b=false:=by
      cases h:pok b
      . rfl
      . exact absurd h4 (q_fin h)
    clear n0
    go_enter Tryd.func61,Tryd.ntmps61
    go_wp2
    go_ret
    exact ⟨b_ret_bool hp.symm,rfl⟩
  . have n1:(FloatKind.f64.format.order (wd b) (wd b) != some .eq)=false:=by rw [n0]; simp [h4]
    have c1:¬ cls (rg b)=4:=by rw [q_cls hb]; exact h4
    have c2:¬ cls 9218868437227405311=4:=by decide
    have r3:rng 9218868437227405311:=by unfold rng; omega
    have k1:=q_key r2
    have k2:key 9218868437227405311=9218868437227405311:=by decide
    have e2:wd 9218868437227405311=9218868437227405311:=by decide
    have hp:=pok_rg' hb
    clear n0
    rcases Int.lt_trichotomy (rg b) 9218868437227405311 with h | h | h
    . have o:=q_lt r1 r3 c1 c2 (by rw [k1,k2]; exact h)
      rw [e2] at o
      have hp':pok b=true:=by rw [hp]; simp; omega
      clear hp
      go_enter Tryd.func61,Tryd.ntmps61
      go_wp2_with (go_at_call 25; refine (mathAbs hb _).mono ?_; rintro _ _ ⟨rfl,rfl⟩)
      go_ret
      exact ⟨b_ret_bool hp'.symm,rfl⟩
    . have o:=q_eq r1 r3 c1 c2 (by rw [k1,k2]; exact h)
      rw [e2] at o
      have hp':pok b=true:=by rw [hp]; simp; omega
      clear hp
      go_enter Tryd.func61,Tryd.ntmps61
      go_wp2_with (go_at_call 25; refine (mathAbs hb _).mono ?_; rintro _ _ ⟨rfl,rfl⟩)
      go_ret
      exact ⟨b_ret_bool hp'.symm,rfl⟩
    . have o:=q_gt r1 r3 c1 c2 (by rw [k1,k2]; exact h)
      rw [e2] at o
      have hp':pok b=false:=by rw [hp]; simp; omega
      clear hp
      go_enter Tryd.func61,Tryd.ntmps61
      go_wp2_with (go_at_call 25; refine (mathAbs hb _).mono ?_; rintro _ _ ⟨rfl,rfl⟩)
      go_ret
      exact ⟨b_ret_bool hp'.symm,rfl⟩
theorem pointTame {b:Int} (hb:rng b) (w:World) :
    Calls Tryd.prog 37 #[.int .i64 b] w fun e w'=>e=.returned (.bool (tame b))∧w'=w:=by
  obtain ⟨r1,r2⟩:=q_rg hb
  have k1:=q_key r2
  have z1:wd 0=0:=by decide
  have z2:wd 3931642474694443008=3931642474694443008:=by decide
  have z3:wd 5282722362905591808=5282722362905591808:=by decide
  have s1:=same_order r1 (show rng 0 by unfold rng; omega)
  have s2:=less_order r1 (show rng 5282722362905591808 by unfold rng; omega)
  have o0:=@order64_nan
  by_cases h4:cls (rg b)=4
  . have o1:=order64_nan r1 (show rng 0 by unfold rng; omega) (.inl h4)
    have o2:=order64_nan (show rng 3931642474694443008 by unfold rng; omega) r1 (.inr h4)
    rw [z1] at o1
    rw [z2] at o2
    have ht:tame b=false:=by
      have h5:cls b=4:=by rw [<- q_cls hb]; exact h4
      have h6:fld b=2047:=by
        unfold cls at h5; split at h5
        . assumption
        . split at h5
          . split at h5 <;> omega
          . omega
      have:=rg_parts hb
      have h7:0<=frc b∧frc b<4503599627370496:=by unfold frc; omega
      rw [tame_fld hb,h6]
      simp
      omega
    clear s1 s2 o0
    go_enter Tryd.func37,Tryd.ntmps37
    go_wp2_with (first
      | (go_at_call 39; refine (bitsFloat _ _).mono ?_; rintro _ _ ⟨rfl,rfl⟩)
      | (go_at_call 25; refine (mathAbs hb _).mono ?_; rintro _ _ ⟨rfl,rfl⟩))
    go_ret
    exact ⟨b_ret_bool ht.symm,rfl⟩
  . have c0:¬ cls 0=4:=by decide
    have c2:¬ cls 3931642474694443008=4:=by decide
    have c3:¬ cls 5282722362905591808=4:=by decide
    have y0:rng 0:=by unfold rng; omega
    have y2:rng 3931642474694443008:=by unfold rng; omega
    have y3:rng 5282722362905591808:=by unfold rng; omega
    have m0:key 0=0:=by decide
    have m2:key 3931642474694443008=3931642474694443008:=by decide
    have m3:key 5282722362905591808=5282722362905591808:=by decide
    clear s1 s2 o0
    by_cases e0:rg b=0
    . have o1:=q_eq r1 y0 h4 c0 (by rw [k1,m0]; exact e0)
      rw [z1] at o1
      have ht:tame b=true:=by unfold tame; simp [e0]
      go_enter Tryd.func37,Tryd.ntmps37
      go_wp2_with (first
        | (go_at_call 39; refine (bitsFloat _ _).mono ?_; rintro _ _ ⟨rfl,rfl⟩)
        | (go_at_call 25; refine (mathAbs hb _).mono ?_; rintro _ _ ⟨rfl,rfl⟩))
      go_ret
      exact ⟨b_ret_bool ht.symm,rfl⟩
    have o1:=q_gt r1 y0 h4 c0 (by rw [k1,m0]; omega)
    rw [z1] at o1
    by_cases e1:rg b<3931642474694443008
    . have o2:=q_gt y2 r1 c2 h4 (by rw [k1,m2]; exact e1)
      rw [z2] at o2
      have ht:tame b=false:=by unfold tame; simp [e0]; omega
      go_enter Tryd.func37,Tryd.ntmps37
      go_wp2_with (first
        | (go_at_call 39; refine (bitsFloat _ _).mono ?_; rintro _ _ ⟨rfl,rfl⟩)
        | (go_at_call 25; refine (mathAbs hb _).mono ?_; rintro _ _ ⟨rfl,rfl⟩))
      go_ret
      exact ⟨b_ret_bool ht.symm,rfl⟩
    by_cases e2:rg b=3931642474694443008
    . have o2:=q_eq y2 r1 c2 h4 (by rw [k1,m2]; exact e2.symm)
      have o3:=q_lt r1 y3 h4 c3 (by rw [k1,m3]; omega)
      rw [z2] at o2
      rw [z3] at o3
      have ht:tame b=true:=by unfold tame; simp [e2]
      go_enter Tryd.func37,Tryd.ntmps37
      go_wp2_with (first
        | (go_at_call 39; refine (bitsFloat _ _).mono ?_; rintro _ _ ⟨rfl,rfl⟩)
        | (go_at_call 25; refine (mathAbs hb _).mono ?_; rintro _ _ ⟨rfl,rfl⟩))
      go_ret
      exact ⟨b_ret_bool ht.symm,rfl⟩
    have o2:=q_lt y2 r1 c2 h4 (by rw [k1,m2]; omega)
    rw [z2] at o2
    rcases Int.lt_trichotomy (rg b) 5282722362905591808 with h | h | h
    . have o3:=q_lt r1 y3 h4 c3 (by rw [k1,m3]; omega)
      rw [z3] at o3
      have ht:tame b=true:=by unfold tame; simp [e0]; omega
      go_enter Tryd.func37,Tryd.ntmps37
      go_wp2_with (first
        | (go_at_call 39; refine (bitsFloat _ _).mono ?_; rintro _ _ ⟨rfl,rfl⟩)
        | (go_at_call 25; refine (mathAbs hb _).mono ?_; rintro _ _ ⟨rfl,rfl⟩))
      go_ret
      exact ⟨b_ret_bool ht.symm,rfl⟩
    . have o3:=q_eq r1 y3 h4 c3 (by rw [k1,m3]; omega)
      rw [z3] at o3
      have ht:tame b=false:=by unfold tame; simp [e0]; omega
      go_enter Tryd.func37,Tryd.ntmps37
      go_wp2_with (first
        | (go_at_call 39; refine (bitsFloat _ _).mono ?_; rintro _ _ ⟨rfl,rfl⟩)
        | (go_at_call 25; refine (mathAbs hb _).mono ?_; rintro _ _ ⟨rfl,rfl⟩))
      go_ret
      exact ⟨b_ret_bool ht.symm,rfl⟩
    . have o3:=q_gt r1 y3 h4 c3 (by rw [k1,m3]; omega)
      rw [z3] at o3
      have ht:tame b=false:=by unfold tame; simp [e0]; omega
      go_enter Tryd.func37,Tryd.ntmps37
      go_wp2_with (first
        | (go_at_call 39; refine (bitsFloat _ _).mono ?_; rintro _ _ ⟨rfl,rfl⟩)
        | (go_at_call 25; refine (mathAbs hb _).mono ?_; rintro _ _ ⟨rfl,rfl⟩))
      go_ret
      exact ⟨b_ret_bool ht.symm,rfl⟩
def errF (b:Bool):Int:=if b then 0 else 10
def allFin (d:Nat->Int) (n:Nat):Bool:=decide (∀ i,i<n->pok (d i)=true)
set_option maxRecDepth 100000 in
theorem q_checked (ao:Option Addr) (n cap:Nat) (d:Nat->Int) (w:World) (h:Row w ao n cap d) (hd:∀ i,i<n->rng (d i)) :
    Calls Tryd.prog 50 #[.slice ao n cap] w fun e w'=>e=.returned (.int .i64 (errF (allFin d n)))∧w'=w:=by
  have hl:=h.le
  have hm:=h.max
  go_enter Tryd.func50,Tryd.ntmps50
  go_wp2_with fail
  go_loop [7] (fun i=>∃ k:Nat,k<=n∧i=.int .i64 k∧Hid (∀ j,j<k->pok (d j)=true)) (fun i=>n-(intOf i).toNat)
  case atStart=>exact ⟨0,Nat.zero_le _,rfl,fun j hj=>by omega⟩
  case round=>
    obtain ⟨k,hk,rfl,HO⟩:=hrel
    by_cases hlt:k<n
    . obtain ⟨b,off,rfl,hb,hc⟩:=h.spot (by omega)
      have c0:=hc k hlt
      have hr:=hd k hlt
      by_cases hok:pok (d k)=true
      . go_wp2_with (first
          | (go_at_call 39; refine (bitsFloat _ _).mono ?_; rintro _ _ ⟨rfl,rfl⟩)
          | (go_at_call 61; refine (q_finite hr _).mono ?_; rintro _ _ ⟨rfl,rfl⟩))
        go_round
        case rel=>exact ⟨k+1,by omega,by go_num,fun j hj=>by
            by_cases e:j=k
            . subst e; exact hok
            . exact HO.out j (by omega)⟩
        case measure=>simp [intOf]; omega
      . have hok':pok (d k)=false:=by simpa using hok
        go_wp2_with (first
          | (go_at_call 39; refine (bitsFloat _ _).mono ?_; rintro _ _ ⟨rfl,rfl⟩)
          | (go_at_call 61; refine (q_finite hr _).mono ?_; rintro _ _ ⟨rfl,rfl⟩))
        go_ret
        exact ⟨b_ret_int (by
          unfold errF
          rw [if_neg]
          intro hx
          exact hok (of_decide_eq_true hx k hlt)),rfl⟩
    . obtain rfl:k=n:=by omega
      go_wp2
      go_ret
      exact ⟨b_ret_int (by unfold errF; rw [if_pos (show allFin d k=true from decide_eq_true HO.out)]),rfl⟩
theorem allFin3 (x y z:Int):allFin (fun i=>if i=0 then x else if i=1 then y else z) 3=(pok x && pok y && pok z):=by
  unfold allFin
  rw [Bool.eq_iff_iff]
  simp
  constructor
  . intro h
    exact ⟨⟨by simpa using h 0 (by omega),by simpa using h 1 (by omega)⟩,by simpa using h 2 (by omega)⟩
  . rintro ⟨⟨h1,h2⟩,h3⟩ i hi
    split
    . exact h1
    . split
      . exact h2
      . exact h3
theorem q_row3 (w:World) (o:Obj) (x y z:Int) (t:TypeId):Row ((w.alloc o).alloc (.cells #[.int .i64 x,.int .i64 y,.int .i64 z] t)) (some ⟨w.heap.size+1,0,none⟩) 3 3 (fun i=>if i=0 then x else if i=1 then y else z) :=
  ⟨by omega,by omega,(fun h=>by cases h),fun _=>⟨_,_,rfl,by simp,fun i hi=>by
    have e:((w.alloc o).alloc (.cells #[.int .i64 x,.int .i64 y,.int .i64 z] t)).heap[w.heap.size+1]?=some (.cells #[.int .i64 x,.int .i64 y,.int .i64 z] t):=heap_b2 w o _
    unfold World.cell?
    rw [show ((⟨w.heap.size+1,0+i,none⟩:Addr)).block=w.heap.size+1 from rfl,e]
    match i,hi with
    | 0,_=>rfl
    | 1,_=>rfl
    | 2,_=>rfl⟩⟩
set_option maxRecDepth 100000 in
theorem pointCheckSpace {x y z:Int} (hx:rng x) (hy:rng y) (hz:rng z) (w:World) :
    Calls Tryd.prog 35 #[.agg #[.int .i64 x,.int .i64 y,.int .i64 z]] w fun e w'=>e=.returned (.int .i64 (errF (pok x && pok y && pok z)))∧Below w.heap.size w w':=by
  have hr:=q_row3 w (.cells #[.int .i64 x,.int .i64 y,.int .i64 z] 23) x y z 3
  have e2:=allFin3 x y z
  go_enter Tryd.func35,Tryd.ntmps35
  go_wp2_with fail
  refine (q_checked _ _ _ _ _ hr (fun i _=>by show rng (if i=0 then x else if i=1 then y else z); split; assumption; split <;> assumption)).mono ?_
  rintro _ _ ⟨rfl,rfl⟩
  go_wp2
  go_ret
  exact ⟨b_ret_int (by rw [<- e2]),bel_alloc2 _ _ _⟩
structure Own (B:Nat) (w:World) (v:Value) (w':World) (v':Value) (s:Ls):Prop where
  out:Out B w' v' s.n s.d
  gr:w.grownBy w' v.ownBlock
  at':v'.ownBlock=v.ownBlock∨∀ k,v'.ownBlock=some k->w.heap.size<=k
theorem Own.refl {B:Nat} {w:World} {v:Value} {s:Ls} (h:Out B w v s.n s.d):Own B w v w v s:=⟨h,World.grownBy.refl _ _,.inl rfl⟩
theorem Own.below {B:Nat} {w w':World} {v v':Value} {s:Ls} (h:Own B w v w' v' s) (hO:∀ k,v.ownBlock=some k->B<=k) (hB:B<=w.heap.size):Below B w w' :=
  (Below.refl B w).grown h.gr hB hO
def InB (w:World) (g cap N:Nat) (s:Ls):Prop:=∃ cur,w.heap[g]?=some (.cells cur 3 (0,0))∧cur.size=cap∧∀ i,i<N->cur[i]?=some (.int .i64 (s.d i))
theorem InB.keeps {w w':World} {g cap N:Nat} {s:Ls} (h:InB w g cap N s) (hb:Below w.heap.size w w'):InB w' g cap N s:=by
  obtain ⟨cur,h1,h2⟩:=h
  exact ⟨cur,(hb.block _ (Array.getElem?_eq_some_iff.1 h1).1).trans h1,h2⟩
theorem InB.out {w:World} {B g cap N:Nat} {s:Ls} (h:InB w g cap N s) (hn:s.n<=N) (hN:N<=cap) (hB:B<=g) (hm:cap<=9223372036854775807):Out B w (.slice (some ⟨g,0,none⟩) s.n cap) s.n s.d:=by
  obtain ⟨cur,h1,h2,h3⟩:=h
  refine ⟨by rw [vals_length]; omega,.inr ⟨g,cap,cur,rfl,hB,h1,by omega,by unfold maxLen; omega,by omega,?_⟩⟩
  apply vals_ext (by simp; omega)
  intro i hi
  rw [List.getElem?_take,if_pos (by omega),Array.getElem?_toList]
  exact h3 i (by omega)
theorem grown_bel {B:Nat} {w w':World} {g:Nat} (h:w.grownBy w' (some g)) (hB:B<=g) (hw:B<=w.heap.size):Below B w w' :=
  (Below.refl B w).grown h hw (fun k hk=>by simp at hk; omega)
def LsO (B:Nat) (w:World) (v:Value) (s:Ls):Prop:=Out B w v s.n s.d∨(s.n=0∧∃ ad,v=.slice (some ad) 0 0)
def XGr (B:Nat) (w:World) (v:Value) (w':World):Prop:=w.grownBy w' none∨∃ k,v.ownBlock=some k∧B<=k∧w.grownBy w' (some k)
theorem XGr.below {B:Nat} {w w':World} {v:Value} (h:XGr B w v w') (hB:B<=w.heap.size):Below B w w':=by
  rcases h with h | ⟨k,_,hk,h⟩
  . exact (Below.refl B w).grown h hB (fun k hk=>by cases hk)
  . exact grown_bel h hk hB
theorem XGr.size {B:Nat} {w w':World} {v:Value} (h:XGr B w v w'):w.heap.size<=w'.heap.size:=by
  rcases h with h | ⟨k,_,_,h⟩ <;> exact h.size
theorem LsO.lower {B B':Nat} {w:World} {v:Value} {s:Ls} (h:LsO B w v s) (hB:B'<=B):LsO B' w v s:=by
  rcases h with h | h
  . exact .inl (h.lower hB)
  . exact .inr h
def Ls.fin (s:Ls):Prop:=∀ i,i<s.n->rng (s.d i)∧pok (s.d i)=true
theorem Ls.fin.add {s:Ls} (h:s.fin) {b:Int} (hb:rng b) (pb:pok b=true):(s.add b).fin:=by
  unfold Ls.add
  split
  . exact h
  . intro i hi
    show rng (upd s.d s.n b i)∧pok (upd s.d s.n b i)=true
    by_cases e:i=s.n
    . subst e; rw [upd_same]; exact ⟨hb,pb⟩
    . rw [upd_other _ _ e]
      exact h i (by have:i<s.n+1:=hi; omega)
theorem LsO.shape {B:Nat} {w:World} {v:Value} {s:Ls} (h:LsO B w v s):∃ ao cap,v=.slice ao s.n cap:=by
  rcases h with h | ⟨h0,ad,rfl⟩
  . obtain ⟨ao,cap,e,_⟩:=h.row
    exact ⟨ao,cap,e⟩
  . exact ⟨some ad,0,by rw [h0]⟩
def sq (d:Nat->Int) (b:Int):Nat->Int
  | 0=>fprod (d 0) b
  | k+1=>fsum (fprod (d (k+1)) b) (fsum (sq d b k) (prL (d (k+1)) b))
def sx (d:Nat->Int) (b:Int):Nat->Bool
  | 0=>pX (d 0) b
  | k+1=>sx d b k && (pX (d (k+1)) b && (pok (sL (sq d b k) (prL (d (k+1)) b)) && fX (fprod (d (k+1)) b) (fsum (sq d b k) (prL (d (k+1)) b))))
def XA (w:World) (ok:Bool) (s:Ls) (r:Ending) (w':World):Prop:=((ok=true∧∃ v,r=.returned (.tuple #[v,.int .i64 0])∧LsO w.heap.size w' v s)∨(ok=false∧r=.returned (.tuple #[.slice none 0 0,.int .i64 14])))∧Below w.heap.size w w'
end Go.Proofs.YtobofhgpidbpmaaDoor
namespace Go.Proofs.YtobofhgpidbpmaaDoor
open Go Go.RowKit Go.Proofs.YtobofhgpidbpmaaDoor.M Ieee
end Go.Proofs.YtobofhgpidbpmaaDoor
namespace Go.Proofs.YtobofhgpidbpmaaDoor
open Go Go.RowKit Go.Proofs.YtobofhgpidbpmaaDoor.M
theorem LsO.row {B:Nat} {w:World} {v:Value} {s:Ls} (h:LsO B w v s):∃ ao cap,v=.slice ao s.n cap∧Row w ao s.n cap s.d:=by
  rcases h with h | ⟨h0,ad,rfl⟩
  . exact h.row
  . rw [h0]
    exact ⟨some ad,0,rfl,Nat.le_refl _,by decide,(fun q=>by cases q),fun q=>by omega⟩
theorem XA.yes {w w':World} {ok:Bool} {s:Ls} {r:Ending} (h:XA w ok s r w') (ho:ok=true):∃ ao cap,r=.returned (.tuple #[.slice ao s.n cap,.int .i64 0])∧Row w' ao s.n cap s.d∧Below w.heap.size w w':=by
  obtain ⟨(⟨_,v,h1,h2⟩ | ⟨h1,_⟩),hb⟩:=h
  . obtain ⟨ao,cap,rfl,hR⟩:=h2.row
    exact ⟨ao,cap,h1,hR,hb⟩
  . rw [ho] at h1; cases h1
theorem XA.no {w w':World} {ok:Bool} {s:Ls} {r:Ending} (h:XA w ok s r w') (ho:ok=false):r=.returned (.tuple #[.slice none 0 0,.int .i64 14])∧Below w.heap.size w w':=by
  obtain ⟨(⟨h1,_⟩ | ⟨_,h1⟩),hb⟩:=h
  . rw [ho] at h1; cases h1
  . exact ⟨h1,hb⟩
end Go.Proofs.YtobofhgpidbpmaaDoor
namespace Go.Proofs.YtobofhgpidbpmaaDoor
open Go Go.RowKit Go.Proofs.YtobofhgpidbpmaaDoor.M Ieee
theorem pr_1 {a b h M:Int} (h1:((a.natAbs:Int)+b.natAbs)<=M):((a+b).natAbs:Int)<=M:=by omega
theorem pr_2 {a b h M:Int} (ha:2*(a.natAbs:Int)<=M) (hb:2*(b.natAbs:Int)<=M) (e1:(h-(a+b)).natAbs<=(a-(a+b)).natAbs):((h-a).natAbs:Int)<=M:=by omega
theorem pr_3 {a b h v M:Int} (ha:2*(a.natAbs:Int)<=M) (e2:(h-(a+b)).natAbs<=(b-(a+b)).natAbs) (e3:(v-(h-a)).natAbs<=(b-(h-a)).natAbs):((h-v).natAbs:Int)<=M:=by omega
theorem pr_4 {a b h v u M:Int} (ha:2*(a.natAbs:Int)<=M) (e2:(h-(a+b)).natAbs<=(b-(a+b)).natAbs) (e3:(v-(h-a)).natAbs<=(b-(h-a)).natAbs) (e4:(u-(h-v)).natAbs<=(a-(h-v)).natAbs):((a-u).natAbs:Int)<=M∧(a-u).natAbs<=2*(h-(a+b)).natAbs:=by omega
theorem pr_5 {a b h v M:Int} (hb:2*(b.natAbs:Int)<=M) (e1:(h-(a+b)).natAbs<=(a-(a+b)).natAbs) (e3:(v-(h-a)).natAbs<=(b-(h-a)).natAbs):((b-v).natAbs:Int)<=M∧(b-v).natAbs<=2*(h-(a+b)).natAbs:=by omega
theorem pr_6 {S h x y p q M:Int} (hM:(S.natAbs:Int)<=M) (r:1000*(h-S).natAbs<=S.natAbs) (g1:x.natAbs<=2*(h-S).natAbs) (g2:y.natAbs<=2*(h-S).natAbs) (n1:(p-x).natAbs<=(0-x).natAbs) (n2:(q-y).natAbs<=(0-y).natAbs):((p+q).natAbs:Int)<=M:=by omega
theorem sum_fin {p q:Int} (hp:M.rng p) (hq:M.rng q) (pp:pok p=true) (pq:pok q=true) (h1:2*((iV p).natAbs:Int)<=maxV) (h2:2*((iV q).natAbs:Int)<=maxV):pok (fsum p q)=true∧pok (sL p q)=true:=by
  have rh:=fsum_rng hp hq
  have rv:M.rng (sV p q):=fsum_rng rh (neg_rng hp)
  have rU:=fsum_rng rh (neg_rng rv)
  have rX:=fsum_rng hp (neg_rng rU)
  have rY:=fsum_rng hq (neg_rng rv)
  have Sh:=stp_sum hp hq pp pq
  have hM:=pr_1 (h:=0) (a:=iV p) (b:=iV q) (M:=maxV) (by omega)
  have ph:=Sh.fin hM
  have nh:=Sh.nr ph
  have e1:=nh.2 _ (fl_iV p)
  have e2:=nh.2 _ (fl_iV q)
  have Sv:=stp_diff rh hp ph pp
  have pv:=Sv.fin (pr_2 h1 h2 e1)
  have nv:=Sv.nr pv
  have e3:=nv.2 _ (fl_iV q)
  have SU:=stp_diff rh rv ph pv
  have pU:=SU.fin (pr_3 h1 e2 e3)
  have e4:=(SU.nr pU).2 _ (fl_iV p)
  have SX:=stp_diff hp rU pp pU
  obtain ⟨g1,g2⟩:=pr_4 h1 e2 e3 e4
  have pX:=SX.fin g1
  have SY:=stp_diff hq rv pq pv
  obtain ⟨g3,g4⟩:=pr_5 h2 e1 e3
  have pY:=SY.fin g3
  exact ⟨ph,(stp_sum rX rY pX pY).fin (pr_6 hM (nr_rel nh) g2 g4 ((SX.nr pX).2 _ fl_zero) ((SY.nr pY).2 _ fl_zero))⟩
end Go.Proofs.YtobofhgpidbpmaaDoor
namespace Go.Proofs.YtobofhgpidbpmaaDoor
open Go Go.RowKit Go.Proofs.YtobofhgpidbpmaaDoor.M
theorem cls_nought {b:Int} (hb:rng b):cls b=0 ↔ rg b=0:=by
  have h1:=q_cls hb
  rw [<- h1]
  constructor
  . intro h
    have hr:=(q_rg hb).1
    have h0:0<=rg b:=(q_rg hb).2
    generalize rg b=r at *
    unfold rng at hr
    unfold cls fld frc at h
    split at h
    . split at h <;> omega
    . split at h
      . split at h
        . omega
        . omega
      . omega
  . intro h; rw [h]; decide
theorem Ls.same.refl (s:Ls):s.same s:=⟨rfl,fun _ _=>rfl⟩
theorem Ls.same.symm {s t:Ls} (h:s.same t):t.same s:=⟨h.1.symm,fun i hi=>(h.2 i (by rw [h.1]; exact hi)).symm⟩
theorem Ls.same.trans {s t u:Ls} (h:s.same t) (k:t.same u):s.same u:=⟨h.1.trans k.1,fun i hi=>(h.2 i hi).trans (k.2 i (by rw [<- h.1]; exact hi))⟩
def Lo (x y:Int):Prop:=∃ s:Nat,(x.natAbs:Int)<2^s∧(2^s:Int) ∣ y
theorem dvd_abs_le {x y:Int} (h:x ∣ y) (h0:y≠0) (hx:0<x):x<=(y.natAbs:Int):=by
  have h1:x ∣ (y.natAbs:Int):=Int.dvd_natAbs.2 h
  exact Int.le_of_dvd (by omega) h1
theorem Lo.trans {x y z:Int} (h:Lo x y) (hy:y≠0) (k:Lo y z):Lo x z:=by
  obtain ⟨s,h1,h2⟩:=h
  obtain ⟨t,k1,k2⟩:=k
  have h3:=dvd_abs_le h2 hy (p2 s)
  have h4:s<t:=p2lt (Int.lt_of_le_of_lt h3 k1)
  exact ⟨s,h1,Int.dvd_trans (p2dvd (by omega)) k2⟩
theorem iV_nought {b:Int} (hb:rng b) (h:rg b=0):iV b=0:=by
  have:=iV_abs b
  rw [h] at this
  have h2:(V Ieee.double (0:Int).toNat:Int)=0:=by decide +kernel
  omega
theorem iV_some {b:Int} (hb:rng b) (pb:pok b=true) (h:rg b≠0):iV b≠0∧pmag b≠0:=by
  have e:=iV_form hb pb
  have hm:pmag b≠0:=by
    intro q
    have hc:cls b=0:=by
      have hf:fld b≠2047:=by simpa [pok] using pb
      have:=frc_le b
      unfold pmag at q
      rw [if_neg hf] at q
      unfold cls
      rw [if_neg hf]
      by_cases h0:fld b=0
      . rw [if_pos h0] at q ⊢
        rw [if_pos q]
      . rw [if_neg h0] at q
        omega
    exact h ((cls_nought hb).1 hc)
  refine ⟨fun q=>?_,hm⟩
  obtain ⟨i0,_⟩:=pmag_in pb
  have p1:=two_pos (pexp b+1074).toNat
  have:0<pmag b*2^(pexp b+1074).toNat:=Int.mul_pos (by omega) p1
  rw [q] at e
  omega
structure XV (d:Nat->Int) (n:Nat):Prop where
  fin:∀ i,i<n->rng (d i)∧pok (d i)=true∧rg (d i)≠0
  lo:∀ i,i+1<n->Lo (iV (d i)) (iV (d (i+1)))
theorem XV.ne {d:Nat->Int} {n:Nat} (h:XV d n) {i:Nat} (hi:i<n):iV (d i)≠0:=(iV_some (h.fin i hi).1 (h.fin i hi).2.1 (h.fin i hi).2.2).1
theorem XV.far {d:Nat->Int} {n:Nat} (h:XV d n) {i:Nat}:∀ {j},i<j->j<n->Lo (iV (d i)) (iV (d j))
  | 0,hij,_=>absurd hij (Nat.not_lt_zero _)
  | j+1,hij,hj=>by
    by_cases e:i=j
    . subst e; exact h.lo i hj
    . exact (h.far (show i<j by omega) (by omega)).trans (h.ne (by omega)) (h.lo j hj)
theorem XV.add {s:Ls} (h:XV s.d s.n) {b:Int} (hb:rng b) (pb:pok b=true) (hlo:∀ i,i<s.n->Lo (iV (s.d i)) (iV b)):XV (s.add b).d (s.add b).n:=by
  unfold Ls.add
  split
  . exact h
  . rename_i hz
    refine ⟨fun i hi=>?_,fun i hi=>?_⟩
    . show rng (upd s.d s.n b i)∧pok (upd s.d s.n b i)=true∧rg (upd s.d s.n b i)≠0
      by_cases e:i=s.n
      . subst e; rw [upd_same]; exact ⟨hb,pb,hz⟩
      . rw [upd_other _ _ e]; exact h.fin i (by have:i<s.n+1:=hi; omega)
    . have hi':i+1<s.n+1:=hi
      show Lo (iV (upd s.d s.n b i)) (iV (upd s.d s.n b (i+1)))
      rw [upd_other _ _ (show i≠s.n by omega)]
      by_cases e:i+1=s.n
      . rw [e,upd_same]; exact hlo i (by omega)
      . rw [upd_other _ _ e]; exact h.lo i (by omega)
theorem fsum_nr {p q:Int} (hp:rng p) (hq:rng q) (h:pok (sL p q)=true):Nr (iV p+iV q) (iV (fsum p q)):=by
  obtain ⟨⟨pp,pq⟩,ps,e⟩:=sL_exact hp hq h
  exact (stp_sum hp hq pp pq).nr ps
theorem maxV_ge:(2:Int)^2097<=maxV:=by
  have h:(2:Int)^2097<=(V Ieee.double 9218868437227405311:Int):=by decide +kernel
  exact h
theorem p2_up {b c:Nat} {x:Int} (h:(x.natAbs:Int)<=2^b) (hbc:b<=c):(x.natAbs:Int)<=2^c:=Int.le_trans h (p2le hbc)
def LB (s:Ls) (b:Nat):Prop:=∀ i,i<s.n->((iV (s.d i)).natAbs:Int)<=2^b
theorem LB.add {s:Ls} {b:Nat} (h:LB s b) {x:Int} (hx:((iV x).natAbs:Int)<=2^b):LB (s.add x) b:=by
  unfold Ls.add
  split
  . exact h
  . intro i hi
    show ((iV (upd s.d s.n x i)).natAbs:Int)<=_
    by_cases e:i=s.n
    . subst e; rw [upd_same]; exact hx
    . rw [upd_other _ _ e]; exact h i (by have:i<s.n+1:=hi; omega)
theorem XV.fn {s:Ls} (h:XV s.d s.n):s.fin:=fun i hi=>⟨(h.fin i hi).1,(h.fin i hi).2.1⟩
def PB (P:Nat->Prop) (w:World):Prop:=∀ k,P k->k<w.heap.size
structure BelP (P:Nat->Prop) (w w':World):Prop where
  os:w'.os=w.os
  tape:w'.tape=w.tape
  output:w'.output=w.output
  size:w.heap.size<=w'.heap.size
  block:∀ k,P k->w'.heap[k]?=w.heap[k]?
theorem BelP.refl (P:Nat->Prop) (w:World):BelP P w w:=⟨rfl,rfl,rfl,Nat.le_refl _,fun _ _=>rfl⟩
theorem BelP.trans {P:Nat->Prop} {a b c:World} (h:BelP P a b) (k:BelP P b c):BelP P a c :=
  ⟨k.os.trans h.os,k.tape.trans h.tape,k.output.trans h.output,Nat.le_trans h.size k.size,fun i hi=>(k.block i hi).trans (h.block i hi)⟩
theorem BelP.of {P:Nat->Prop} {w w':World} (h:Below w.heap.size w w') (hP:PB P w):BelP P w w':=⟨h.os,h.tape,h.output,h.size,fun k hk=>h.block k (hP k hk)⟩
theorem PB.le {P:Nat->Prop} {w w':World} (h:PB P w) (hs:w.heap.size<=w'.heap.size):PB P w':=fun k hk=>Nat.lt_of_lt_of_le (h k hk) hs
def OutP (P:Nat->Prop) (w:World) (v:Value) (s:Ls):Prop:=Out 0 w v s.n s.d∧∀ k,v.ownBlock=some k->¬ P k
theorem OutP.shape {P:Nat->Prop} {w:World} {v:Value} {s:Ls} (h:OutP P w v s):∃ ao cap,v=.slice ao s.n cap:=by
  obtain ⟨ao,cap,e,_⟩:=h.1.row
  exact ⟨ao,cap,e⟩
theorem OutP.stays {P:Nat->Prop} {w w':World} {v:Value} {s:Ls} (h:OutP P w v s) (hb:Below w.heap.size w w'):OutP P w' v s:=⟨h.1.stays hb,h.2⟩
theorem OutP.gr {P:Nat->Prop} {w w':World} {v:Value} {s:Ls} (h:OutP P w v s) (hP:PB P w) (g:w.grownBy w' v.ownBlock):BelP P w w' :=
  ⟨g.os,g.tape,g.output,g.size,fun k hk=>g.block k (hP k hk) fun e=>h.2 k e.symm hk⟩
end Go.Proofs.YtobofhgpidbpmaaDoor
