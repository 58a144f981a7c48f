/- Parts of the proof. -/
import Derived.Test.YtjjihmnbdeeedaaGreatDoorKn5
import Derived.Test.YtjjihmnbdeeedaaGreatDoorKn3
import Derived.Test.YtjjihmnbdeeedaaGreatDoorKn4
import Derived.Test.YtjjihmnbdeeedaaGreatDoorKn1
import Derived.Test.YtjjihmnbdeeedaaGreatDoorKn2
import Derived.Deep.RegionHeld3
set_option maxRecDepth 100000
set_option maxHeartbeats 40000000
set_option linter.unusedVariables false
set_option linter.unusedSimpArgs false
namespace Go.Proofs.YtjjihmnbdeeedaaGreatDoor
open Go Go.RowKit Go.Proofs.YtjjihmnbdeeedaaGreatDoor.M Ieee
def iV (p:Int):Int:=sg (decide (p<0)) (V Ieee.double (rg p).toNat:Int)
theorem patV_iV {p:Int} (hp:rng p) (h:pok p=true):patV p=iV p*pw (-1074):=by
 rw [patV_dec hp h]; unfold iV vS; rw [sg_prod]
theorem nat_two (n k:Nat):((n*2^k:Nat):Int)=2^k*(n:Int):=by rw [Int.natCast_mul,Int.mul_comm]; simp
theorem k_ne {S q:Int} (hq:0<q) (h:S≠0):S*q≠0:=fun c=>by
 rcases Int.mul_eq_zero.1 c with d | d <;> omega
theorem k_neg {S q:Int} (hq:0<q):decide (S*q<0)=decide (S<0):=by
 congr 1
 exact propext (lt_zero_iff hq).symm
theorem k_abs {S q A:Int} (hq:0<q) (h:S*q=sg (decide (S<0)) A):A=(S.natAbs:Int)*q:=by
 have:=natAbs_sg (t:=S) hq
 rw [this] at h
 exact (sg_inj h).symm
theorem k_back {S h:Int} (n:Nr (S.natAbs:Int) h):Nr S (sg (decide (S<0)) h):=by
 by_cases c:S<0
 ·rw [decide_eq_true c]
  have n2:=n.neg
  have e:-(S.natAbs:Int)=S:=by omega
  rw [e] at n2
  exact n2
 ·rw [decide_eq_false c]
  have e:(S.natAbs:Int)=S:=by omega
  rw [e] at n
  exact n
theorem fl_V (r:Nat):Fl (V Ieee.double r:Int):=by
 unfold V
 rw [dBin]
 by_cases h:r<4503599627370496
 ·rw [if_pos h]
  exact ⟨0,⟨r,by simp⟩,by simp; omega⟩
 ·rw [if_neg h]
  have hm:=Nat.mod_lt r (show 0<4503599627370496 by decide)
  obtain ⟨n,hn⟩:∃ n,4503599627370496+r % 4503599627370496=n:=⟨_,rfl⟩
  rw [hn]
  refine ⟨r/4503599627370496-1,⟨n,nat_two _ _⟩,?_⟩
  rw [Int.natAbs_natCast,nat_two,Int.mul_comm]
  exact Int.mul_lt_mul_of_pos_right (by omega) (p2 _)
theorem V_fl {f:Int} (h:Fl f):∃ r:Nat,(f.natAbs:Int)=(V Ieee.double r:Int):=by
 obtain ⟨k,b,c⟩:=binade (f.natAbs:Int) (by omega)
 rcases Nat.eq_zero_or_pos k with g | g
 ·subst g
  have:=V_parts Ieee.double 0 f.natAbs (.inl ⟨rfl,by rw [dBin]; simp at b; omega⟩)
  exact ⟨_,by rw [this]; simp⟩
 ·have c2:4503599627370496*2^k<=(f.natAbs:Int):=by
   rcases c with c | c
   ·omega
   ·exact c
  obtain ⟨t,ht⟩:=fl_units h c2
  have e:(f.natAbs:Int)=2^k*(t.natAbs:Int):=by rw [ht,natAbs_p2]
  rw [e] at b c2
  have hk:=p2 k
  have b2:(t.natAbs:Int)<9007199254740992:=Int.lt_of_mul_lt_mul_left (by rw [Int.mul_comm (2^k) 9007199254740992]; exact b) (Int.le_of_lt hk)
  have c3:4503599627370496<=(t.natAbs:Int):=Int.le_of_mul_le_mul_left (by rw [Int.mul_comm (2^k) 4503599627370496]; exact c2) hk
  have:=V_parts Ieee.double k t.natAbs (.inr ⟨by rw [dBin]; omega,by rw [dBin]; omega⟩)
  exact ⟨_,by rw [this,e]; push_cast; rw [Int.mul_comm]⟩
theorem V_le {r s:Nat} (h:r<=s):(V Ieee.double r:Int)<=V Ieee.double s:=by
 rcases Nat.lt_or_eq_of_le h with g | g
 ·have:=V_lt Ieee.double g; omega
 ·rw [g]; omega
theorem nr_V {S:Int} {ng:Bool} {r0:Nat} {left:Int} (h0:0<=S) (hR:Rung (S*pw (-1074)) r0 left) (hf:rTo 0 ng r0 left<9218868437227405312):Nr S (V Ieee.double (rTo 0 ng r0 left).toNat:Int):=by
 obtain ⟨lo,hi,l0,l1,l2,l3⟩:=hR
 have hq:=pw_pos (-1074)
 unfold vS at *
 generalize pw (-1074)=q at *
 have g1:(V Ieee.double r0:Int)<=S:=Int.le_of_mul_le_mul_right lo hq
 have g2:S<(V Ieee.double (r0+1):Int):=Int.lt_of_mul_lt_mul_right hi (Int.le_of_lt hq)
 have g3:left=2->2*S=(V Ieee.double r0:Int)+V Ieee.double (r0+1):=fun c=>by
  have:=l2.1 c
  rw [<- Int.add_mul,<- Int.mul_assoc] at this
  exact Int.eq_of_mul_eq_mul_right (by omega) this
 have g4:left=3->(V Ieee.double r0:Int)+V Ieee.double (r0+1)<2*S:=fun c=>by
  have:=l3.1 c
  rw [<- Int.add_mul,<- Int.mul_assoc] at this
  exact Int.lt_of_mul_lt_mul_right this (Int.le_of_lt hq)
 have g5:left≠3->2*S<=(V Ieee.double r0:Int)+V Ieee.double (r0+1):=fun c=>by
  rcases Int.lt_or_le ((V Ieee.double r0:Int)+V Ieee.double (r0+1)) (2*S) with d | d
  ·have:=Int.mul_lt_mul_of_pos_right d hq
   rw [Int.add_mul,Int.mul_assoc] at this
   exact absurd (l3.2 this) c
  ·exact d
 clear l0 l1 l2 l3 lo hi
 have far:∀ f:Int,Fl f->f<=V Ieee.double r0∨V Ieee.double (r0+1)<=f:=by
  intro f hf
  obtain ⟨s,hs⟩:=V_fl hf
  rcases Nat.lt_or_ge r0 s with c | c
  ·have:=V_le (show r0+1<=s from c)
   have:=V_le (show 0<=r0 by omega)
   omega
  ·have:=V_le c
   omega
 unfold rTo at hf ⊢
 by_cases hr:(r0:Int)<9218868437227405312
 ·rw [if_pos hr] at hf ⊢
  cases hu:rUp 0 ng (decide (r0 % 2=1)) left
  ·rw [if_neg (by decide)]
   have e:((r0:Int)+0).toNat=r0:=by omega
   rw [e]
   have hl:left≠3:=fun c=>by
    subst c
    unfold rUp at hu
    simp at hu
   refine ⟨fl_V r0,fun f hf=>?_⟩
   have:=far f hf
   have:=g5 hl
   omega
  ·rw [if_pos rfl]
   have e:((r0:Int)+1).toNat=r0+1:=by omega
   rw [e]
   have hl:left=3∨left=2:=by
    unfold rUp at hu
    simp at hu
    rcases hu with c | c
    ·exact .inl c
    ·exact .inr c.1
   refine ⟨fl_V (r0+1),fun f hf=>?_⟩
   have:=far f hf
   rcases hl with c | c
   ·have:=g4 c; omega
   ·have:=g3 c; omega
 ·rw [if_neg hr] at hf
  unfold bRung rUp at hf
  simp at hf
def maxV:Int:=(V Ieee.double 9218868437227405311:Int)
theorem fin_V {S:Int} {ng:Bool} {r0:Nat} {left:Int} (h0:S<=maxV) (hR:Rung (S*pw (-1074)) r0 left):rTo 0 ng r0 left<9218868437227405312:=by
 obtain ⟨lo,hi,l0,l1,l2,l3⟩:=hR
 have hq:=pw_pos (-1074)
 unfold vS at *
 generalize pw (-1074)=q at *
 have g1:(V Ieee.double r0:Int)<=S:=Int.le_of_mul_le_mul_right lo hq
 have hr:r0<=9218868437227405311:=by
  rcases Nat.lt_or_ge 9218868437227405311 r0 with c | c
  ·have:=V_lt Ieee.double c
   unfold maxV at h0
   omega
  ·exact c
 unfold rTo
 rw [if_pos (by omega)]
 by_cases c:r0=9218868437227405311
 ·have e:S=(V Ieee.double r0:Int):=by rw [c] at g1 ⊢; unfold maxV at h0; omega
  have:left=0:=l0.2 (by rw [e])
  subst this
  rw [if_neg (fun c=>rUp_left c)]
  omega
 ·split <;> omega
theorem patS_parts {ng:Bool} {r:Int} (h0:0<=r) (h1:r<=9218868437227405312):rng (patS ng r)∧rg (patS ng r)=r∧decide (patS ng r<0)=ng:=by
 unfold patS rng rg
 cases ng
 ·simp only [Bool.false_eq_true,if_false]
  rw [if_neg (by omega)]
  exact ⟨by omega,rfl,decide_eq_false (by omega)⟩
 ·simp only [if_true]
  rw [if_pos (by omega)]
  exact ⟨by omega,by omega,decide_eq_true (by omega)⟩
theorem patS_fin {ng:Bool} {r:Int} (h0:0<=r) (h1:r<=9218868437227405312):pok (patS ng r)=decide (r<9218868437227405312):=by
 obtain ⟨a,b,_⟩:=patS_parts (ng:=ng) h0 h1
 have:=pok_rg a
 rw [b] at this
 cases h:pok (patS ng r)
 ·refine (decide_eq_false fun c=>?_).symm
  rw [this.2 c] at h; cases h
 ·exact (decide_eq_true (this.1 h)).symm
theorem iV_patS {ng:Bool} {r:Int} (h0:0<=r) (h1:r<=9218868437227405312):iV (patS ng r)=sg ng (V Ieee.double r.toNat:Int):=by
 obtain ⟨_,b,c⟩:=patS_parts (ng:=ng) h0 h1
 unfold iV
 rw [b,c]
theorem nr_zero:Nr 0 0:=⟨fl_zero,fun f _=>by omega⟩
theorem near_iV {S:Int} (h:S≠0):rng (nearP (S*pw (-1074)))∧(pok (nearP (S*pw (-1074)))=true->Nr S (iV (nearP (S*pw (-1074)))))∧((S.natAbs:Int)<=maxV->pok (nearP (S*pw (-1074)))=true):=by
 have hq:=pw_pos (-1074)
 obtain ⟨A,r0,left,e1,hR,e2⟩:=nearP_rung (k_ne hq h)
 rw [k_neg hq] at e1 e2
 have hA:=k_abs hq e1
 rw [hA] at hR
 have hrr:=rTo_range 0 (decide (S<0)) r0 left
 rw [e2]
 refine ⟨(patS_parts hrr.1 hrr.2).1,fun hp=>?_,fun hb=>?_⟩
 ·rw [patS_fin hrr.1 hrr.2] at hp
  have n:=nr_V (ng:=decide (S<0)) (Int.natCast_nonneg _) hR (of_decide_eq_true hp)
  rw [iV_patS hrr.1 hrr.2]
  exact k_back n
 ·rw [patS_fin hrr.1 hrr.2]
  exact decide_eq_true (fin_V hb hR)
theorem nan_rng:rng 9221120237041090561:=by unfold rng; decide
theorem nan_no:pok 9221120237041090561=false:=by decide
theorem pok_of {p:Int} (hp:rng p) (h4:¬ cls p=4) (hi:¬ rg p=9218868437227405312):pok p=true:=by
 have:=(cls_rg hp).1
 rw [pok_rg hp]
 have:¬ 9218868437227405312<rg p:=fun c=>h4 (this.2 c)
 omega
theorem inf_no {p:Int} (hp:rng p) (hi:rg p=9218868437227405312):¬ pok p=true:=fun h=>by
 have:=(pok_rg hp).1 h
 omega
theorem fin_cls {p:Int} (hp:rng p) (h:pok p=true):¬ cls p=4∧¬ rg p=9218868437227405312:=by
 have h1:=(pok_rg hp).1 h
 exact ⟨fun c=>by have:=(cls_rg hp).1.1 c; omega,by omega⟩
theorem fsum_args {p q:Int} (hp:rng p) (hq:rng q) (h:pok (fsum p q)=true):pok p=true∧pok q=true:=by
 unfold fsum at h
 by_cases c4:cls p=4∨cls q=4
 ·rw [if_pos c4,nan_no] at h; cases h
 rw [if_neg c4] at h
 by_cases ci:rg p=9218868437227405312
 ·rw [if_pos ci] at h
  by_cases cj:rg q=9218868437227405312∧decide (p<0)≠decide (q<0)
  ·rw [if_pos cj,nan_no] at h; cases h
  ·rw [if_neg cj] at h; exact absurd h (inf_no hp ci)
 rw [if_neg ci] at h
 by_cases cj:rg q=9218868437227405312
 ·rw [if_pos cj] at h; exact absurd h (inf_no hq cj)
 exact ⟨pok_of hp (fun c=>c4 (.inl c)) ci,pok_of hq (fun c=>c4 (.inr c)) cj⟩
theorem fprod_args {p q:Int} (hp:rng p) (hq:rng q) (h:pok (fprod p q)=true):pok p=true∧pok q=true:=by
 unfold fprod at h
 by_cases c4:cls p=4∨cls q=4
 ·rw [if_pos c4,nan_no] at h; cases h
 rw [if_neg c4] at h
 by_cases ci:rg p=9218868437227405312∨rg q=9218868437227405312
 ·rw [if_pos ci] at h
  by_cases cj:rg p=0∨rg q=0
  ·rw [if_pos cj,nan_no] at h; cases h
  ·rw [if_neg cj,patS_fin (by decide) (by decide)] at h
   simp at h
 exact ⟨pok_of hp (fun c=>c4 (.inl c)) (fun c=>ci (.inl c)),pok_of hq (fun c=>c4 (.inr c)) (fun c=>ci (.inr c))⟩
theorem zero_facts (g:Bool):rng (patS g 0)∧pok (patS g 0)=true∧iV (patS g 0)=0:=by
 refine ⟨(patS_parts (by decide) (by decide)).1,?_,?_⟩
 ·rw [patS_fin (by decide) (by decide)]; decide
 ·rw [iV_patS (by decide) (by decide)]
  show sg g (V Ieee.double 0:Int)=0
  rw [V_zero]
  exact sg_zero g
structure EStp (S p:Int):Prop where
 rn:rng p
 nr:pok p=true->Nr S (iV p)
 fin:(S.natAbs:Int)<=maxV->pok p=true
theorem stp_zero (g:Bool):EStp 0 (patS g 0):=by
 obtain ⟨a,b,c⟩:=zero_facts g
 exact ⟨a,fun _=>by rw [c]; exact nr_zero,fun _=>b⟩
theorem stp_near {S:Int} (h:S≠0):EStp S (nearP (S*pw (-1074))):=by
 obtain ⟨a,b,c⟩:=near_iV h
 exact ⟨a,b,c⟩
theorem k_fs {a b T u Z k w:Int} (hz:0<Z) (e2:w*w=u*Z) (e3:w=u*k) (hT:k*T=a*b):a*w*(b*w)/Z=T*w:=by
 have e1:a*w*(b*w)=a*b*(w*w):=by
  rw [Int.mul_assoc,Int.mul_assoc]; congr 1; rw [<- Int.mul_assoc,<- Int.mul_assoc,Int.mul_comm w b]
 rw [e1,e2,<- hT]
 have:k*T*(u*Z)=T*w*Z:=by
  rw [e3,Int.mul_comm k T,Int.mul_assoc,Int.mul_assoc,<- Int.mul_assoc k u Z,Int.mul_comm k u]
 rw [this]
 exact Int.mul_ediv_cancel _ (by omega)
theorem k_zero {T w:Int} (g:Bool) (hw:0<w) (d:sg g (T*w)=0):T=0:=by
 have:=sg_eq_zero d
 rcases Int.mul_eq_zero.1 this with g | g <;> omega
theorem k_zero0 {T w:Int} (hw:0<w) (d:T*w=0):T=0:=by
 rcases Int.mul_eq_zero.1 d with g | g <;> omega
theorem k_sgz {T w:Int} (g:Bool) (h:T=0):sg g (T*w)=0:=by rw [h,Int.zero_mul]; exact sg_zero g
theorem k_sgsg (g:Bool) (A:Int):sg g (sg g A)=A:=by cases g <;> simp [sg]
theorem stp_sum {p q:Int} (hp:rng p) (hq:rng q) (pp:pok p=true) (pq:pok q=true):EStp (iV p+iV q) (fsum p q):=by
 obtain ⟨a1,a2⟩:=fin_cls hp pp
 obtain ⟨b1,b2⟩:=fin_cls hq pq
 have e:fsum p q=if iV p+iV q=0 then patS (decide (p<0) && decide (q<0)) 0 else nearP ((iV p+iV q)*pw (-1074)):=by
  unfold fsum
  rw [if_neg (fun c=>c.elim a1 b1),if_neg a2,if_neg b2,patV_iV hp pp,patV_iV hq pq,<- Int.add_mul]
  have hq:=pw_pos (-1074)
  by_cases c:iV p+iV q=0
  ·rw [if_pos c,if_pos (by rw [c,Int.zero_mul])]
  ·rw [if_neg c,if_neg (fun d=>c (k_zero0 hq d))]
 rw [e]
 by_cases c:iV p+iV q=0
 ·rw [if_pos c,c]; exact stp_zero _
 ·rw [if_neg c]; exact stp_near c
theorem stp_prod {p q T:Int} (hp:rng p) (hq:rng q) (pp:pok p=true) (pq:pok q=true) (hT:2^1074*T=iV p*iV q):EStp T (fprod p q):=by
 obtain ⟨a1,a2⟩:=fin_cls hp pp
 obtain ⟨b1,b2⟩:=fin_cls hq pq
 have hw:=pw_pos (-1074)
 have hs:patV p*patV q/2^4194304=T*pw (-1074):=by
  rw [patV_iV hp pp,patV_iV hq pq]
  have e2:=pw_mul (a:=-1074) (b:=-1074) (by decide) (by decide)
  rw [show (-1074 + -1074:Int)=-2148 by decide] at e2
  have e3:=pw_add (e:=-2148) (by decide) 1074
  rw [show (-2148+((1074:Nat):Int))=-1074 by decide] at e3
  exact k_fs (two_pos 4194304) e2 e3 hT
 have e:fprod p q=if T=0 then patS (xsg p q) 0 else nearP (T*pw (-1074)):=by
  unfold fprod fsize
  rw [if_neg (fun c=>c.elim a1 b1),if_neg (fun c=>c.elim a2 b2),hs]
  by_cases c:T=0
  ·rw [if_pos c,if_pos (k_sgz _ c)]
  ·rw [if_neg c,if_neg (fun d=>c (k_zero _ hw d)),k_sgsg]
 rw [e]
 by_cases c:T=0
 ·rw [if_pos c,c]; exact stp_zero _
 ·rw [if_neg c]; exact stp_near c
theorem neg_facts {q:Int} (hq:rng q) (h:pok q=true):rng (neg q)∧pok (neg q)=true∧iV (neg q)=-iV q:=by
 obtain ⟨b1,b2⟩:=fin_cls hq h
 have h1:=(pok_rg hq).1 h
 have e:neg q=patS (!decide (q<0)) (rg q):=by
  unfold neg patS rg
  rw [if_neg b1]
  by_cases c:q<0
  ·rw [if_pos c,if_pos c,decide_eq_true c]; rfl
  ·rw [if_neg c,if_neg c,decide_eq_false c]; rfl
 have h0:0<=rg q:=by unfold rg; unfold rng at hq; split <;> omega
 obtain ⟨c1,c2,c3⟩:=patS_parts (ng:=!decide (q<0)) h0 (by omega)
 refine ⟨by rw [e]; exact c1,by rw [e,patS_fin h0 (by omega)]; exact decide_eq_true h1,?_⟩
 rw [e,iV_patS h0 (by omega)]
 unfold iV
 rw [sg_not]
theorem neg_arg {q:Int} (hq:rng q) (h:pok (neg q)=true):pok q=true:=by
 unfold neg at h
 by_cases c:cls q=4
 ·rw [if_pos c,nan_no] at h; cases h
 ·by_cases ci:rg q=9218868437227405312
  ·exfalso
   rw [if_neg c] at h
   have hr:rng (if q<0 then q+9223372036854775808 else q-9223372036854775808):=by unfold rng at *; split <;> omega
   have:=(pok_rg hr).1 h
   unfold rg at this ci
   split at this <;> split at ci <;> split at this <;> omega
  ·exact pok_of hq c ci
theorem neg_rng {q:Int} (hq:rng q):rng (neg q):=by
 unfold neg rng at *
 split
 ·omega
 ·split <;> omega
theorem stp_diff {p q:Int} (hp:rng p) (hq:rng q) (pp:pok p=true) (pq:pok q=true):EStp (iV p-iV q) (fsum p (neg q)):=by
 obtain ⟨a,b,c⟩:=neg_facts hq pq
 have:=stp_sum hp a pp b
 rw [c] at this
 exact this
theorem fdiff_args {p q:Int} (hp:rng p) (hq:rng q) (h:pok (fsum p (neg q))=true):pok p=true∧pok q=true:=by
 obtain ⟨a,b⟩:=fsum_args hp (neg_rng hq) h
 exact ⟨a,neg_arg hq b⟩
theorem fsum_rng {p q:Int} (hp:rng p) (hq:rng q):rng (fsum p q):=by
 by_cases h:pok p=true∧pok q=true
 ·exact (stp_sum hp hq h.1 h.2).rn
 ·unfold fsum
  by_cases c4:cls p=4∨cls q=4
  ·rw [if_pos c4]; exact nan_rng
  rw [if_neg c4]
  by_cases ci:rg p=9218868437227405312
  ·rw [if_pos ci]; split
   ·exact nan_rng
   ·exact hp
  rw [if_neg ci]
  by_cases cj:rg q=9218868437227405312
  ·rw [if_pos cj]; exact hq
  exact absurd ⟨pok_of hp (fun c=>c4 (.inl c)) ci,pok_of hq (fun c=>c4 (.inr c)) cj⟩ h
theorem fprod_rng {p q:Int} (hp:rng p) (hq:rng q):rng (fprod p q):=by
 unfold fprod
 split
 ·exact nan_rng
 ·split
  ·split
   ·exact nan_rng
   ·exact (patS_parts (by decide) (by decide)).1
  ·split
   ·exact (patS_parts (by decide) (by decide)).1
   ·rename_i h
    exact (nearP_pat (fun c=>h (sg_eq_zero c))).1
def sV (p q:Int):Int:=fsum (fsum p q) (neg p)
def sL (p q:Int):Int:=fsum (fsum p (neg (fsum (fsum p q) (neg (sV p q))))) (fsum q (neg (sV p q)))
def fL (p q:Int):Int:=fsum q (neg (fsum (fsum p q) (neg p)))
def cC (p:Int):Int:=fprod 4728779608772575232 p
def spH (p:Int):Int:=fsum (cC p) (neg (fsum (cC p) (neg p)))
def spL (p:Int):Int:=fsum p (neg (spH p))
def pT1 (a b:Int):Int:=fsum (fprod a b) (neg (fprod (spH a) (spH b)))
def pT2 (a b:Int):Int:=fsum (pT1 a b) (neg (fprod (spL a) (spH b)))
def pT3 (a b:Int):Int:=fsum (pT2 a b) (neg (fprod (spH a) (spL b)))
def prL (a b:Int):Int:=fsum (fprod (spL a) (spL b)) (neg (pT3 a b))
theorem stay_b {w w':World} (h:w'=w∨w'=w.drew):Below w.heap.size w w':=by
 rcases h with rfl | rfl
 ·exact bel_refl _
 ·exact (bel_refl _).drew
theorem cv64 (x:Nat) (w:World):(convert 59 59 (.float .f64 x)).run Tryz.prog w=.ok (.float .f64 x) w:=run_convert_float_float w _ _ _ _ _ _ (by rw [Tryz.underlying59]; rfl) Tryz.underlying59 rfl
theorem esum_any {p q:Int} {x y:Nat} (hx:FW p x) (hy:FW q y) (w:World) :
  Calls Tryz.prog 305 #[.float .f64 x,.float .f64 y] w fun e w'=>∃ z u,e=.returned (.tuple #[.float .f64 z,.float .f64 u])∧FW (fsum p q) z∧FW (sL p q) u∧Below w.heap.size w w':=by
 obtain ⟨z1,w1,e1,f1,d1⟩:=run_fsum (P:=Tryz.prog) 59 hx hy w
 obtain ⟨z2,w2,e2,f2,d2⟩:=run_fdiff (P:=Tryz.prog) 59 f1 hx w1
 obtain ⟨z3,w3,e3,f3,d3⟩:=run_fdiff (P:=Tryz.prog) 59 f1 f2 w2
 obtain ⟨z4,w4,e4,f4,d4⟩:=run_fdiff (P:=Tryz.prog) 59 hx f3 w3
 obtain ⟨z5,w5,e5,f5,d5⟩:=run_fdiff (P:=Tryz.prog) 59 hy f2 w4
 obtain ⟨z6,w6,e6,f6,d6⟩:=run_fsum (P:=Tryz.prog) 59 f4 f5 w5
 have hb:Hid (Below w.heap.size w w6):=bel_trans (bel_trans (bel_trans (bel_trans (bel_trans (stay_b d1) (stay_b d2)) (stay_b d3)) (stay_b d4)) (stay_b d5)) (stay_b d6)
 have H1:Hid (FW (fsum p q) z1):=f1
 have H6:Hid (FW (sL p q) z6):=f6
 clear d1 d2 d3 d4 d5 d6 f1 f2 f3 f4 f5 f6 hx hy
 go_enter Tryz.func305,Tryz.ntmps305
 go_wp2
 refine bodyPost_ret (v:=.tuple #[.float .f64 z1,.float .f64 z6]) (by simp [results,Tryz.results305,go_sem]) rfl ⟨z1,z6,rfl,H1.out,H6.out,hb.out⟩
theorem efast_any {p q:Int} {x y:Nat} (hx:FW p x) (hy:FW q y) (w:World) :
  Calls Tryz.prog 307 #[.float .f64 x,.float .f64 y] w fun e w'=>∃ z u,e=.returned (.tuple #[.float .f64 z,.float .f64 u])∧FW (fsum p q) z∧FW (fL p q) u∧Below w.heap.size w w':=by
 obtain ⟨z1,w1,e1,f1,d1⟩:=run_fsum (P:=Tryz.prog) 59 hx hy w
 obtain ⟨z2,w2,e2,f2,d2⟩:=run_fdiff (P:=Tryz.prog) 59 f1 hx w1
 obtain ⟨z3,w3,e3,f3,d3⟩:=run_fdiff (P:=Tryz.prog) 59 hy f2 w2
 have hb:Hid (Below w.heap.size w w3):=bel_trans (bel_trans (stay_b d1) (stay_b d2)) (stay_b d3)
 have H1:Hid (FW (fsum p q) z1):=f1
 have H6:Hid (FW (fL p q) z3):=f3
 clear d1 d2 d3 f1 f2 f3 hx hy
 go_enter Tryz.func307,Tryz.ntmps307
 go_wp2
 refine bodyPost_ret (v:=.tuple #[.float .f64 z1,.float .f64 z3]) (by simp [results,Tryz.results307,go_sem]) rfl ⟨z1,z3,rfl,H1.out,H6.out,hb.out⟩
theorem spl_rng:rng 4728779608772575232:=by unfold rng; decide
theorem fw_split:FW 4728779608772575232 4728779608772575232:=.inl ⟨by decide,spl_rng,by decide⟩
theorem esplit_any {p:Int} {x:Nat} (hx:FW p x) (w:World) :
  Calls Tryz.prog 280 #[.float .f64 x] w fun e w'=>∃ z u,e=.returned (.tuple #[.float .f64 z,.float .f64 u])∧FW (spH p) z∧FW (spL p) u∧Below w.heap.size w w':=by
 obtain ⟨z1,w1,e1,f1,d1⟩:=run_fprod (P:=Tryz.prog) 59 fw_split hx w
 obtain ⟨z2,w2,e2,f2,d2⟩:=run_fdiff (P:=Tryz.prog) 59 f1 hx w1
 obtain ⟨z3,w3,e3,f3,d3⟩:=run_fdiff (P:=Tryz.prog) 59 f1 f2 w2
 obtain ⟨z4,w4,e4,f4,d4⟩:=run_fdiff (P:=Tryz.prog) 59 hx f3 w3
 have hcv:=cv64
 have hb:Hid (Below w.heap.size w w4):=bel_trans (bel_trans (bel_trans (stay_b d1) (stay_b d2)) (stay_b d3)) (stay_b d4)
 have H1:Hid (FW (spH p) z3):=f3
 have H6:Hid (FW (spL p) z4):=f4
 clear d1 d2 d3 d4 f1 f2 f3 f4 hx
 go_enter Tryz.func280,Tryz.ntmps280
 go_wp2
 refine bodyPost_ret (v:=.tuple #[.float .f64 z3,.float .f64 z4]) (by simp [results,Tryz.results280,go_sem]) rfl ⟨z3,z4,rfl,H1.out,H6.out,hb.out⟩
theorem eprod_any {p q:Int} {x y:Nat} (hx:FW p x) (hy:FW q y) (w:World) :
  Calls Tryz.prog 239 #[.float .f64 x,.float .f64 y] w fun e w'=>∃ z u,e=.returned (.tuple #[.float .f64 z,.float .f64 u])∧FW (fprod p q) z∧FW (prL p q) u∧Below w.heap.size w w':=by
 obtain ⟨z1,w1,e1,f1,d1⟩:=run_fprod (P:=Tryz.prog) 59 hx hy w
 have hcv:=cv64
 have Hx:Hid (FW p x):=hx
 have Hy:Hid (FW q y):=hy
 have F1:Hid (FW (fprod p q) z1):=f1
 have B1:Hid (Below w.heap.size w w1):=stay_b d1
 clear hx hy f1 d1
 go_enter Tryz.func239,Tryz.ntmps239
 go_wp2_with fail
 refine (esplit_any Hx.out _).mono ?_
 rintro _ w2 ⟨P,Q,rfl,gP,gQ,b2⟩
 have GP:Hid (FW (spH p) P):=gP
 have GQ:Hid (FW (spL p) Q):=gQ
 have B2:Hid (Below w.heap.size w w2):=bel_trans B1.out b2
 clear gP gQ b2 B1 e1
 go_wp2_with fail
 refine (esplit_any Hy.out _).mono ?_
 rintro _ w3 ⟨R,S,rfl,gR,gS,b3⟩
 have hb3:=bel_trans B2.out b3
 obtain ⟨z2,w4,e2,f2,d2⟩:=run_fprod (P:=Tryz.prog) 59 GQ.out gS w3
 obtain ⟨z3,w5,e3,f3,d3⟩:=run_fprod (P:=Tryz.prog) 59 GP.out gR w4
 obtain ⟨z4,w6,e4,f4,d4⟩:=run_fdiff (P:=Tryz.prog) 59 F1.out f3 w5
 obtain ⟨z5,w7,e5,f5,d5⟩:=run_fprod (P:=Tryz.prog) 59 GQ.out gR w6
 obtain ⟨z6,w8,e6,f6,d6⟩:=run_fdiff (P:=Tryz.prog) 59 f4 f5 w7
 obtain ⟨z7,w9,e7,f7,d7⟩:=run_fprod (P:=Tryz.prog) 59 GP.out gS w8
 obtain ⟨z8,wa,e8,f8,d8⟩:=run_fdiff (P:=Tryz.prog) 59 f6 f7 w9
 obtain ⟨z9,wb,e9,f9,d9⟩:=run_fdiff (P:=Tryz.prog) 59 f2 f8 wa
 have hb:Hid (Below w.heap.size w wb):=bel_trans (bel_trans (bel_trans (bel_trans (bel_trans (bel_trans (bel_trans (bel_trans hb3 (stay_b d2)) (stay_b d3)) (stay_b d4)) (stay_b d5)) (stay_b d6)) (stay_b d7)) (stay_b d8)) (stay_b d9)
 have H9:Hid (FW (prL p q) z9):=f9
 clear d2 d3 d4 d5 d6 d7 d8 d9 f2 f3 f4 f5 f6 f7 f8 f9 gR gS b3 hb3 B2 Hx Hy GP GQ
 go_wp2
 refine bodyPost_ret (v:=.tuple #[.float .f64 z1,.float .f64 z9]) (by simp [results,Tryz.results239,go_sem]) rfl ⟨z1,z9,rfl,F1.out,H9.out,hb.out⟩
theorem fl_iV (p:Int):Fl (iV p):=by
 unfold iV
 cases decide (p<0)
 ·exact fl_V _
 ·exact (fl_V _).neg
theorem iV_abs (p:Int):((iV p).natAbs:Int)=(V Ieee.double (rg p).toNat:Int):=by
 unfold iV sg
 cases decide (p<0)
 ·simp
 ·simp
theorem iV_max {p:Int} (hp:rng p) (h:pok p=true):((iV p).natAbs:Int)<=maxV:=by
 rw [iV_abs]
 have:=(pok_rg hp).1 h
 exact V_le (by omega)
theorem sL_exact {p q:Int} (hp:rng p) (hq:rng q) (h:pok (sL p q)=true):(pok p=true∧pok q=true)∧pok (fsum p q)=true∧iV (fsum p q)+iV (sL p q)=iV p+iV q:=by
 have rh:=fsum_rng hp hq
 have rv:rng (sV p q):=fsum_rng rh (neg_rng hp)
 have rU:=fsum_rng rh (neg_rng rv)
 have rX:=fsum_rng hp (neg_rng rU)
 have rY:=fsum_rng hq (neg_rng rv)
 obtain ⟨pX,pY⟩:=fsum_args rX rY h
 obtain ⟨pp,pU⟩:=fdiff_args hp rU pX
 obtain ⟨pq,pv⟩:=fdiff_args hq rv pY
 obtain ⟨ph,_⟩:=fdiff_args rh hp pv
 have e:=two_sum (fl_iV p) (fl_iV q) ((stp_sum hp hq pp pq).nr ph) ((stp_diff rh hp ph pp).nr pv) ((stp_diff rh rv ph pv).nr pU) ((stp_diff hp rU pp pU).nr pX) ((stp_diff hq rv pq pv).nr pY) ((stp_sum rX rY pX pY).nr h)
 exact ⟨⟨pp,pq⟩,ph,by unfold sL; omega⟩
theorem fL_args {p q:Int} (hp:rng p) (hq:rng q) (h:pok (fL p q)=true):(pok p=true∧pok q=true)∧pok (fsum p q)=true:=by
 have rh:=fsum_rng hp hq
 have rv:rng (fsum (fsum p q) (neg p)):=fsum_rng rh (neg_rng hp)
 obtain ⟨pq,pv⟩:=fdiff_args hq rv h
 obtain ⟨ph,pp⟩:=fdiff_args rh hp pv
 exact ⟨⟨pp,pq⟩,ph⟩
theorem back_le {a b h:Int} (ha:Fl a) (hab:b.natAbs<=a.natAbs) (n:Nr (a+b) h):(h-a).natAbs<=a.natAbs:=by
 have e1:=n.2 _ ha
 have e2:=n.2 _ ha.dbl
 have e3:=n.2 _ fl_zero
 omega
theorem fL_fin {p q:Int} (hp:rng p) (hq:rng q) (pp:pok p=true) (pq:pok q=true) (ph:pok (fsum p q)=true) (hab:(iV q).natAbs<=(iV p).natAbs):pok (fL p q)=true∧iV (fsum p q)+iV (fL p q)=iV p+iV q:=by
 have rh:=fsum_rng hp hq
 have rv:rng (fsum (fsum p q) (neg p)):=fsum_rng rh (neg_rng hp)
 have nh:=(stp_sum hp hq pp pq).nr ph
 have sv:=stp_diff rh hp ph pp
 have b1:=back_le (fl_iV p) hab nh
 have pv:=sv.fin (by have:=iV_max hp pp; omega)
 have ev:=nr_self (back (fl_iV p) (fl_iV q) hab nh) (sv.nr pv)
 have sl:=stp_diff hq rv pq pv
 have e3:=nh.2 _ (fl_iV p)
 have pl:=sl.fin (by rw [ev]; have:=iV_max hq pq; omega)
 have nl:=sl.nr pl
 have e4:=fast_sum (fl_iV p) (fl_iV q) hab nh (sv.nr pv) nl
 exact ⟨pl,by unfold fL; omega⟩
theorem fsum_eqn {p q:Int} (hp:rng p) (hq:rng q) (pp:pok p=true) (pq:pok q=true):fsum p q=if patV p+patV q=0 then patS (decide (p<0) && decide (q<0)) 0 else nearP (patV p+patV q):=by
 obtain ⟨a1,a2⟩:=fin_cls hp pp
 obtain ⟨b1,b2⟩:=fin_cls hq pq
 unfold fsum
 rw [if_neg (fun c=>c.elim a1 b1),if_neg a2,if_neg b2]
theorem fsum_comm {p q:Int} (hp:rng p) (hq:rng q) (pp:pok p=true) (pq:pok q=true):fsum p q=fsum q p:=by
 rw [fsum_eqn hp hq pp pq,fsum_eqn hq hp pq pp,Int.add_comm (patV q),Bool.and_comm (decide (q<0))]
def fX (p q:Int):Bool:=pok (fL p q) && (!decide ((iV p).natAbs<(iV q).natAbs) || decide (iV (fL p q)=iV (fL q p)))
theorem fX_iff {p q:Int} (hp:rng p) (hq:rng q) (h:pok (fL p q)=true):fX p q=decide (iV (fsum p q)+iV (fL p q)=iV p+iV q):=by
 obtain ⟨⟨pp,pq⟩,ph⟩:=fL_args hp hq h
 unfold fX
 rw [h,Bool.true_and]
 by_cases c:(iV p).natAbs<(iV q).natAbs
 ·have hc:=fsum_comm hp hq pp pq
  obtain ⟨k1,k2⟩:=fL_fin hq hp pq pp (by rw [<- hc]; exact ph) (by omega)
  rw [<- hc] at k2
  rw [decide_eq_true c]
  show decide _=decide _
  congr 1
  apply propext
  constructor <;> intro g <;> omega
 ·rw [decide_eq_false c]
  have:=(fL_fin hp hq pp pq ph (by omega)).2
  rw [decide_eq_true this]
  rfl
theorem k_pow (k:Nat):((2^k:Nat):Int)=2^k:=by simp
theorem k_spl {K:Nat} {A B:Int} (h:(K:Int)=A) (g:B=33554432*A):(((4503599627370496+33554432)*K:Nat):Int)=134217729*B:=by omega
theorem k_split2 (i j:Nat):(2:Int)^(i+j)=2^i*2^j:=Int.pow_add _ _ _
theorem V_splitter {k:Nat} (hk:k=1049):V Ieee.double 4728779608772575232=(4503599627370496+33554432)*2^k:=by
 unfold V
 rw [dBin,if_neg (by decide),show (4728779608772575232 % 4503599627370496:Nat)=33554432 by decide,show (4728779608772575232/4503599627370496-1:Nat)=k by omega]
theorem iV_splitter:iV 4728779608772575232=134217729*2^1074:=by
 obtain ⟨k,hk⟩:∃ k:Nat,k=1049:=⟨_,rfl⟩
 rw [show (1074:Nat)=25+k by omega]
 have e3:iV 4728779608772575232=(V Ieee.double 4728779608772575232:Int):=by
  unfold iV
  rw [show (rg 4728779608772575232).toNat=4728779608772575232 by decide,show decide ((4728779608772575232:Int)<0)=false by decide]
  exact sgF _
 have e2:=k_split2 25 k
 rw [show (2:Int)^25=33554432 by decide] at e2
 rw [e3,V_splitter hk]
 exact k_spl (k_pow k) e2
structure Hlv (a h l:Int):Prop where
 sum:h+l=a
 dvd:∀ k:Nat,(2^k:Int) ∣ a->(2^k:Int) ∣ h
 zero:a=0->h=0
 spl:a≠0->∃ x j:Nat,Spl (2^x*a) (2^x*h) j∧4503599627370496*2^j<=((2^x*a).natAbs:Int)∧((2^x*a).natAbs:Int)<9007199254740992*2^j
theorem stp_split {p:Int} (hp:rng p) (pp:pok p=true):EStp (134217729*iV p) (cC p):=by
 refine stp_prod spl_rng hp (by decide) pp ?_
 rw [iV_splitter]
 generalize (2:Int)^1074=k
 rw [<- Int.mul_assoc,Int.mul_comm k]
theorem hlv_of {a c d h l:Int} (ha:Fl a) (nc:Nr (134217729*a) c) (nd:Nr (c-a) d) (nh:Nr (c-d) h) (nl:Nr (a-h) l):Hlv a h l:=by
 have dv:∀ k:Nat,(2^k:Int) ∣ a->(2^k:Int) ∣ h:=fun k g=>by
  have g1:=nr_dvd nc (Int.dvd_mul_of_dvd_right g)
  have g2:=nr_dvd nd (Int.dvd_sub g1 g)
  exact nr_dvd nh (Int.dvd_sub g1 g2)
 by_cases h0:a=0
 ·subst h0
  have e1:=nr_self fl_zero nc
  subst e1
  have e2:=nr_self fl_zero nd
  subst e2
  have e3:=nr_self fl_zero nh
  subst e3
  have e4:=nr_self fl_zero nl
  subst e4
  exact ⟨rfl,dv,fun _=>rfl,fun c=>absurd rfl c⟩
 ·obtain ⟨e,s⟩:=split_fl ha h0 nc nd nh nl
  exact ⟨by omega,dv,fun c=>absurd c h0,fun _=>s⟩
theorem spL_exact {p:Int} (hp:rng p) (h:pok (spL p)=true):pok p=true∧pok (spH p)=true∧Hlv (iV p) (iV (spH p)) (iV (spL p)):=by
 have rc:rng (cC p):=fprod_rng spl_rng hp
 have rd:=fsum_rng rc (neg_rng hp)
 have rH:rng (spH p):=fsum_rng rc (neg_rng rd)
 obtain ⟨pp,pH⟩:=fdiff_args hp rH h
 obtain ⟨pc,pd⟩:=fdiff_args rc rd pH
 exact ⟨pp,pH,hlv_of (fl_iV p) ((stp_split hp pp).nr pc) ((stp_diff rc hp pc pp).nr pd) ((stp_diff rc rd pc pd).nr pH) ((stp_diff hp rH pp pH).nr h)⟩
theorem dvd_split (n:Nat) (a b:Int):(2^n:Int) ∣ a*b->∃ i j:Nat,i+j=n∧(2^i:Int) ∣ a∧(2^j:Int) ∣ b:=by
 induction n with
 | zero=>intro _; exact ⟨0,0,rfl,⟨a,by simp⟩,⟨b,by simp⟩⟩
 | succ n ih=>
  intro h
  obtain ⟨i,j,e,⟨c,rfl⟩,⟨d,rfl⟩⟩:=ih (Int.dvd_trans (p2dvd (by omega)) h)
  obtain ⟨t,ht⟩:=h
  have e2:(2:Int)^i*c*(2^j*d)=2^n*(c*d):=by
   rw [<- e,Int.pow_add,Int.mul_assoc,Int.mul_assoc]; congr 1; rw [<- Int.mul_assoc,<- Int.mul_assoc,Int.mul_comm c]
  rw [e2,p2s,Int.mul_comm 2,Int.mul_assoc] at ht
  have e3:c*d=2*t:=Int.eq_of_mul_eq_mul_left (by have:=p2 n; omega) ht
  by_cases hc:c % 2=0
  ·obtain ⟨c',rfl⟩:∃ c',c=2*c':=⟨c/2,by omega⟩
   exact ⟨i+1,j,by omega,⟨c',by rw [p2s,<- Int.mul_assoc,Int.mul_comm (2^i) 2]⟩,⟨d,rfl⟩⟩
  ·have hd:d % 2=0:=by
    have h1:c % 2=1:=by omega
    have h2:(c*d) % 2=0:=by omega
    rw [Int.mul_emod,h1,Int.one_mul] at h2
    omega
   obtain ⟨d',rfl⟩:∃ d',d=2*d':=⟨d/2,by omega⟩
   exact ⟨i,j+1,by omega,⟨c,rfl⟩,⟨d',by rw [p2s,<- Int.mul_assoc,Int.mul_comm (2^j) 2]⟩⟩
theorem sc_prod {x y i:Nat} {T p r:Int} (h:2^i*T=p*r):(2:Int)^(x+y+i)*T=(2^x*p)*(2^y*r):=by
 rw [Int.pow_add,Int.mul_assoc,h,Int.pow_add,Int.mul_assoc,Int.mul_assoc]
 congr 1
 rw [<- Int.mul_assoc,<- Int.mul_assoc,Int.mul_comm (2^y) p]
theorem dekker_any {n:Nat} {a b P Q R S H T t1 t2 t3 l Tpr Tqr Tps Tqs xpr xqr xps xqs:Int} (ha:Hlv a P Q) (hb:Hlv b R S) (eT:2^n*T=a*b) (e1:2^n*Tpr=P*R) (e2:2^n*Tqr=Q*R) (e3:2^n*Tps=P*S) (e4:2^n*Tqs=Q*S)
  (nH:Nr T H) (n1:Nr Tpr xpr) (m1:Nr (H-xpr) t1) (n2:Nr Tqr xqr) (m2:Nr (t1-xqr) t2) (n3:Nr Tps xps) (m3:Nr (t2-xps) t3) (n4:Nr Tqs xqs) (m4:Nr (xqs-t3) l):l=T-H:=by
 have hn:=p2 n
 by_cases h0:a=0∨b=0
 ·have z0:T=0∧Tpr=0∧Tqr=0∧Tps=0∧Tqs=0:=by
   have s1:=ha.sum
   have s2:=hb.sum
   have cancel:∀ {t:Int},2^n*t=0->t=0:=fun {t} h=>by
    rcases Int.mul_eq_zero.1 h with g | g
    ·omega
    ·exact g
   rcases h0 with c | c
   ·have c1:=ha.zero c
    have c2:Q=0:=by omega
    subst c1 c2 c
    simp only [Int.zero_mul] at eT e1 e2 e3 e4
    exact ⟨cancel eT,cancel e1,cancel e2,cancel e3,cancel e4⟩
   ·have c1:=hb.zero c
    have c2:S=0:=by omega
    subst c1 c2 c
    simp only [Int.mul_zero] at eT e1 e2 e3 e4
    exact ⟨cancel eT,cancel e1,cancel e2,cancel e3,cancel e4⟩
  obtain ⟨rfl,rfl,rfl,rfl,rfl⟩:=z0
  have g1:=nr_self fl_zero nH
  have g2:=nr_self fl_zero n1
  have g3:=nr_self fl_zero n2
  have g4:=nr_self fl_zero n3
  have g5:=nr_self fl_zero n4
  subst g1 g2 g3 g4 g5
  have g6:=nr_self fl_zero m1
  subst g6
  have g7:=nr_self fl_zero m2
  subst g7
  have g8:=nr_self fl_zero m3
  subst g8
  exact nr_self fl_zero m4
 ·obtain ⟨x,i,sa,a0,a1⟩:=ha.spl (fun c=>h0 (.inl c))
  obtain ⟨y,j,sb,b0,b1⟩:=hb.spl (fun c=>h0 (.inr c))
  have eQ:Q=a-P:=by have:=ha.sum; omega
  have eS:S=b-R:=by have:=hb.sum; omega
  subst eQ eS
  have k0:=nr_scale nH (x+y+n)
  have k1:=nr_scale n1 (x+y+n)
  have k2:=nr_scale m1 (x+y+n)
  have k3:=nr_scale n2 (x+y+n)
  have k4:=nr_scale m2 (x+y+n)
  have k5:=nr_scale n3 (x+y+n)
  have k6:=nr_scale m3 (x+y+n)
  have k7:=nr_scale n4 (x+y+n)
  have k8:=nr_scale m4 (x+y+n)
  rw [sc_prod eT] at k0
  rw [sc_prod e1] at k1
  rw [sc_prod e2] at k3
  rw [sc_prod e3] at k5
  rw [sc_prod e4] at k7
  rw [Int.mul_sub] at k2 k4 k6 k8
  rw [Int.mul_sub (2^x) a P] at k3 k7
  rw [Int.mul_sub (2^y) b R] at k5 k7
  have e:=dekker sa sb a0 a1 b0 b1 k0 k1 k2 k3 k4 k5 k6 k7 k8
  rw [<- sc_prod eT,<- Int.mul_sub] at e
  exact Int.eq_of_mul_eq_mul_left (by have:=p2 (x+y+n); omega) e
theorem dvd_prod {n i j:Nat} {a b:Int} (h:i+j=n) (ha:(2^i:Int) ∣ a) (hb:(2^j:Int) ∣ b):∃ T,2^n*T=a*b:=by
 obtain ⟨c,rfl⟩:=ha
 obtain ⟨d,rfl⟩:=hb
 refine ⟨c*d,?_⟩
 rw [<- h,Int.pow_add,Int.mul_assoc,Int.mul_assoc]; congr 1; rw [<- Int.mul_assoc,<- Int.mul_assoc,Int.mul_comm c]
theorem prL_args {p q:Int} (hp:rng p) (hq:rng q) (h:pok (prL p q)=true):(pok (spL p)=true∧pok (spL q)=true)∧pok (fprod p q)=true∧(pok (fprod (spH p) (spH q))=true∧pok (pT1 p q)=true)∧(pok (fprod (spL p) (spH q))=true∧pok (pT2 p q)=true)∧(pok (fprod (spH p) (spL q))=true∧pok (pT3 p q)=true)∧pok (fprod (spL p) (spL q))=true∧(rng (spH p)∧rng (spL p)∧rng (spH q)∧rng (spL q)∧rng (pT1 p q)∧rng (pT2 p q)∧rng (pT3 p q)):=by
 have rsp:∀ {p:Int},rng p->rng (spH p)∧rng (spL p):=fun {p} hp=>by
  have rc:rng (cC p):=fprod_rng spl_rng hp
  have rd:=fsum_rng rc (neg_rng hp)
  have rH:rng (spH p):=fsum_rng rc (neg_rng rd)
  exact ⟨rH,fsum_rng hp (neg_rng rH)⟩
 obtain ⟨rP,rQ⟩:=rsp hp
 obtain ⟨rR,rS⟩:=rsp hq
 have rT1:rng (pT1 p q):=fsum_rng (fprod_rng hp hq) (neg_rng (fprod_rng rP rR))
 have rT2:rng (pT2 p q):=fsum_rng rT1 (neg_rng (fprod_rng rQ rR))
 have rT3:rng (pT3 p q):=fsum_rng rT2 (neg_rng (fprod_rng rP rS))
 obtain ⟨pqs,p3⟩:=fdiff_args (fprod_rng rQ rS) rT3 h
 obtain ⟨p2,pps⟩:=fdiff_args rT2 (fprod_rng rP rS) p3
 obtain ⟨p1,pqr⟩:=fdiff_args rT1 (fprod_rng rQ rR) p2
 obtain ⟨ph,ppr⟩:=fdiff_args (fprod_rng hp hq) (fprod_rng rP rR) p1
 exact ⟨fprod_args rQ rS pqs,ph,⟨ppr,p1⟩,⟨pqr,p2⟩,⟨pps,p3⟩,pqs,rP,rQ,rR,rS,rT1,rT2,rT3⟩
theorem prL_exact {p q T:Int} (hp:rng p) (hq:rng q) (h:pok (prL p q)=true) (hT:2^1074*T=iV p*iV q):(pok p=true∧pok q=true)∧pok (fprod p q)=true∧iV (fprod p q)+iV (prL p q)=T:=by
 obtain ⟨⟨pQ,pS⟩,ph,⟨ppr,p1⟩,⟨pqr,p2⟩,⟨pps,p3⟩,pqs,rP,rQ,rR,rS,rT1,rT2,rT3⟩:=prL_args hp hq h
 obtain ⟨pp,pP,ha⟩:=spL_exact hp pQ
 obtain ⟨pq,pR,hb⟩:=spL_exact hq pS
 have hd:(2^1074:Int) ∣ iV p*iV q:=⟨T,hT.symm⟩
 obtain ⟨i,j,eij,di,dj⟩:=dvd_split 1074 _ _ hd
 have dP:=ha.dvd i di
 have dR:=hb.dvd j dj
 have dQ:(2^i:Int) ∣ iV (spL p):=by have:=ha.sum; rw [show iV (spL p)=iV p-iV (spH p) by omega]; exact Int.dvd_sub di dP
 have dS:(2^j:Int) ∣ iV (spL q):=by have:=hb.sum; rw [show iV (spL q)=iV q-iV (spH q) by omega]; exact Int.dvd_sub dj dR
 obtain ⟨Tpr,e1⟩:=dvd_prod eij dP dR
 obtain ⟨Tqr,e2⟩:=dvd_prod eij dQ dR
 obtain ⟨Tps,e3⟩:=dvd_prod eij dP dS
 obtain ⟨Tqs,e4⟩:=dvd_prod eij dQ dS
 have e:=dekker_any ha hb hT e1 e2 e3 e4 ((stp_prod hp hq pp pq hT).nr ph) ((stp_prod rP rR pP pR e1).nr ppr) ((stp_diff (fprod_rng hp hq) (fprod_rng rP rR) ph ppr).nr p1) ((stp_prod rQ rR pQ pR e2).nr pqr) ((stp_diff rT1 (fprod_rng rQ rR) p1 pqr).nr p2) ((stp_prod rP rS pP pS e3).nr pps) ((stp_diff rT2 (fprod_rng rP rS) p2 pps).nr p3) ((stp_prod rQ rS pQ pS e4).nr pqs) ((stp_diff (fprod_rng rQ rS) rT3 pqs p3).nr h)
 exact ⟨⟨pp,pq⟩,ph,by unfold prL; omega⟩
end Go.Proofs.YtjjihmnbdeeedaaGreatDoor
/-
 Mathematics of whole numbers: a float's whole units,ints as floats,the order of floats in the model.
-/
namespace Go.Proofs.YtjjihmnbdeeedaaGreatDoor.M
open Go Ieee
theorem left_u {A q:Int} {u v:Nat} {l k:Int} (h:Left A u q l) (g:Left A v q k):¬ u<v:=fun c=>by
 have h1:=h.hi
 have h2:=g.lo
 have hq:0<q:=by have:=h.lo; omega
 have h3:((u:Int)+1)*q<=(v:Int)*q:=Int.mul_le_mul_of_nonneg_right (by omega) (by omega)
 rw [Int.add_mul,Int.one_mul] at h3
 omega
theorem Left.unique {A q:Int} {u v:Nat} {l k:Int} (h:Left A u q l) (g:Left A v q k):u=v∧l=k:=by
 have e:u=v:=by
  have h1:=left_u h g
  have h2:=left_u g h
  omega
 subst e
 refine ⟨rfl,?_⟩
 have lo:=h.lo
 have hi:=h.hi
 obtain ⟨T,hT⟩:∃ T,(u:Int)*q=T:=⟨_,rfl⟩
 rw [hT] at lo hi
 have a0:=h.l0
 have a1:=h.l1
 have a2:=h.l2
 have a3:=h.l3
 have b0:=g.l0
 have b1:=g.l1
 have b2:=g.l2
 have b3:=g.l3
 rw [hT] at a0 a1 a2 a3 b0 b1 b2 b3
 by_cases c0:A=T
 ·rw [a0.2 c0,b0.2 c0]
 ·by_cases c1:2*A<2*T+q
  ·rw [a1.2 ⟨by omega,c1⟩,b1.2 ⟨by omega,c1⟩]
  ·by_cases c2:2*A=2*T+q
   ·rw [a2.2 c2,b2.2 c2]
   ·rw [a3.2 (by omega),b3.2 (by omega)]
theorem cmp_mul {a b q:Int} (hq:0<q):compare (a*q) (b*q)=compare a b:=by
 have h1:a*q<b*q ↔ a<b:=⟨fun h=>Int.lt_of_mul_lt_mul_right h (by omega),fun h=>Int.mul_lt_mul_of_pos_right h hq⟩
 have h2:a*q=b*q ↔ a=b:=⟨fun h=>Int.eq_of_mul_eq_mul_right (by omega) h,fun h=>by rw [h]⟩
 show compareOfLessAndEq (a*q) (b*q)=compareOfLessAndEq a b
 unfold compareOfLessAndEq
 simp only [h1,h2]
theorem cmp_eq {a b:Int}:(some (compare a b) == some Ordering.eq)=decide (a=b):=by
 show (some (compareOfLessAndEq a b) == some Ordering.eq)=_
 unfold compareOfLessAndEq
 by_cases h1:a<b
 ·rw [if_pos h1,decide_eq_false (by omega)]; rfl
 ·rw [if_neg h1]
  by_cases h2:a=b
  ·rw [if_pos h2,decide_eq_true (by omega)]; rfl
  ·rw [if_neg h2,decide_eq_false (by omega)]; rfl
end Go.Proofs.YtjjihmnbdeeedaaGreatDoor.M
namespace Go.Proofs.YtjjihmnbdeeedaaGreatDoor
open Go Go.RowKit Go.Proofs.YtjjihmnbdeeedaaGreatDoor.M Ieee
theorem order_wd {p q:Int} (hp:rng p) (hq:rng q) (pp:pok p=true) (pq:pok q=true):Ieee.double.order (wd p) (wd q)=some (compare (patV p) (patV q)):=by
 obtain ⟨m,u,r1,v1⟩:=read_wd hp pp
 obtain ⟨n,v,r2,v2⟩:=read_wd hq pq
 unfold Ieee.Format.order
 rw [r1,r2]
 show some (compare (signed (decide (p<0)) m (-1074+(u:Int)-min (-1074+(u:Int)) (-1074+(v:Int))).toNat) (signed (decide (q<0)) n (-1074+(v:Int)-min (-1074+(u:Int)) (-1074+(v:Int))).toNat))=_
 have hb:-4194304<=min (-1074+(u:Int)) (-1074+(v:Int)):=by omega
 have s1:=signed_pw (decide (p<0)) m (-1074+(u:Int)-min (-1074+(u:Int)) (-1074+(v:Int))).toNat (i:=-1074+(u:Int)) (base:=min (-1074+(u:Int)) (-1074+(v:Int))) (by omega) hb
 have s2:=signed_pw (decide (q<0)) n (-1074+(v:Int)-min (-1074+(u:Int)) (-1074+(v:Int))).toNat (i:=-1074+(v:Int)) (base:=min (-1074+(u:Int)) (-1074+(v:Int))) (by omega) hb
 rw [v1,v2,<- s1,<- s2,cmp_mul (pw_pos _)]
end Go.Proofs.YtjjihmnbdeeedaaGreatDoor
namespace Go.Proofs.YtjjihmnbdeeedaaGreatDoor
open Go Go.RowKit Go.Proofs.YtjjihmnbdeeedaaGreatDoor.M Ieee
theorem FW.rng {p:Int} {x:Nat} (h:FW p x):M.rng p:=by
 rcases h with ⟨_,h,_⟩ | ⟨rfl,_⟩
 ·exact h
 ·exact nan_rng
theorem neg_sign {p:Int} (hp:M.rng p) (h4:¬ cls p=4):decide (M.neg p<0)=!decide (p<0)∧rg (M.neg p)=rg p∧¬ cls (M.neg p)=4:=by
 have h0:0<=rg p∧rg p<9223372036854775808:=by unfold rg; unfold M.rng at hp; split <;> omega
 have e:rg (M.neg p)=rg p∧decide (M.neg p<0)=!decide (p<0):=by
  unfold M.neg rg
  rw [if_neg h4]
  unfold M.rng at hp
  by_cases c:p<0
  ·rw [if_pos c,decide_eq_true c,if_neg (by omega)]
   exact ⟨by rw [if_pos c],decide_eq_false (by omega)⟩
  ·rw [if_neg c,decide_eq_false c,if_pos (by omega)]
   exact ⟨by rw [if_neg c]; omega,decide_eq_true (by omega)⟩
 refine ⟨e.2,e.1,fun c=>?_⟩
 have:=(cls_rg (neg_rng hp)).1.1 c
 rw [e.1] at this
 exact h4 ((cls_rg hp).1.2 this)
theorem self_pat {p:Int} (hp:M.rng p):fsum p (M.neg p)=if pok p then 0 else 9221120237041090561:=by
 by_cases c4:cls p=4
 ·have:pok p=false:=by
   cases h:pok p
   ·rfl
   ·exact absurd c4 (fin_cls hp h).1
  rw [this]
  unfold fsum
  rw [if_pos (.inl c4)]
  rfl
 ·obtain ⟨s1,s2,s3⟩:=neg_sign hp c4
  cases h:pok p
  ·have hi:rg p=9218868437227405312:=by
    by_cases c:rg p=9218868437227405312
    ·exact c
    ·rw [pok_of hp c4 c] at h; cases h
   unfold fsum
   rw [if_neg (fun c=>c.elim c4 s3),if_pos hi,if_pos ⟨by rw [s2]; exact hi,by rw [s1]; cases decide (p<0) <;> decide⟩]
   rfl
  ·obtain ⟨n1,n2,n3⟩:=neg_facts hp h
   unfold fsum
   rw [if_neg (fun c=>c.elim c4 s3),if_neg (fin_cls hp h).2,if_neg (by rw [s2]; exact (fin_cls hp h).2),patV_iV hp h,patV_iV n1 n2,n3,if_pos (by rw [<- Int.add_mul,Int.add_right_neg,Int.zero_mul]),s1]
   cases decide (p<0) <;> rfl
theorem order_zero:Ieee.double.order 0 0=some .eq:=by decide +kernel
theorem self_order {p:Int} {z:Nat} (hp:M.rng p) (hz:FW (fsum p (M.neg p)) z):(Ieee.double.order z 0 == some Ordering.eq)=pok p:=by
 rw [self_pat hp] at hz
 cases h:pok p
 ·rw [h] at hz
  obtain ⟨s,t,e⟩:=hz.read_nan nan_canon
  unfold Ieee.Format.order
  rw [e]
  rfl
 ·rw [h] at hz
  obtain ⟨_,e,_⟩:=hz.of (by decide)
  have:z=0:=by rw [e]; decide
  rw [this,order_zero]
  rfl
theorem etold_any {p q:Int} {x y:Nat} (hx:FW p x) (hy:FW q y) (w:World) :
  Calls Tryz.prog 238 #[.float .f64 x,.float .f64 y] w fun e w'=>e=.returned (.tuple #[.int .i64 p,.int .i64 q,.bool (pok q)])∧Below w.heap.size w w':=by
 have C1:=fun W=>of_FW hx W
 have C2:=fun W=>of_FW hy W
 obtain ⟨z1,w1,e1,f1,d1⟩:=run_fdiff (P:=Tryz.prog) 59 hy hy w
 have B1:Hid (Below w.heap.size w w1):=stay_b d1
 have HO:(Ieee.double.order z1 0 == some Ordering.eq)=pok q:=self_order hy.rng f1
 clear d1 f1 hx hy
 generalize pok q=R at HO ⊢
 go_enter Tryz.func238,Tryz.ntmps238
 go_wp2_with fail
 refine (C1 _).mono ?_
 rintro _ _ ⟨rfl,rfl⟩
 go_wp2_with fail
 refine (C2 _).mono ?_
 rintro _ _ ⟨rfl,rfl⟩
 have HO2:(FloatKind.f64.format.order z1 0 == some Ordering.eq)=R:=HO
 go_wp2
 refine bodyPost_ret (v:=.tuple #[.int .i64 p,.int .i64 q,.bool R]) (by simp [results,Tryz.results238,go_sem,HO2]) rfl ⟨rfl,B1.out⟩
theorem twoSum_any {a b:Int} (ha:M.rng a) (hb:M.rng b) (w:World) :
  Calls Tryz.prog 262 #[.int .i64 a,.int .i64 b] w fun e w'=>e=.returned (.tuple #[.int .i64 (fsum (told a) (told b)),.int .i64 (sL (told a) (told b)),.bool (pok (sL (told a) (told b)))])∧Below w.heap.size w w':=by
 have C1:=fun W=>bitsFloat a W
 have C2:=fun W=>bitsFloat b W
 have FA:Hid (FW (told a) (wd a)):=wd_told ha
 have FB:Hid (FW (told b) (wd b)):=wd_told hb
 generalize told a=p at *
 generalize told b=q at *
 generalize wd a=x at *
 generalize wd b=y at *
 go_enter Tryz.func262,Tryz.ntmps262
 go_wp2_with fail
 refine (C1 _).mono ?_
 rintro _ _ ⟨rfl,rfl⟩
 go_wp2_with fail
 refine (C2 _).mono ?_
 rintro _ _ ⟨rfl,rfl⟩
 go_wp2_with fail
 refine (esum_any FA.out FB.out _).mono ?_
 rintro _ w1 ⟨z,u,rfl,g1,g2,b1⟩
 have G1:Hid (FW (fsum p q) z):=g1
 have G2:Hid (FW (sL p q) u):=g2
 clear g1 g2
 go_wp2_with fail
 refine (etold_any G1.out G2.out _).mono ?_
 rintro _ w2 ⟨rfl,b2⟩
 go_wp2
 refine bodyPost_ret (v:=.tuple #[.int .i64 (fsum p q),.int .i64 (sL p q),.bool (pok (sL p q))]) (by simp [results,Tryz.results262,go_sem]) rfl ⟨rfl,bel_trans b1 b2⟩
theorem twoDiff_any {a b:Int} (ha:M.rng a) (hb:M.rng b) (w:World) (L:Lays w) :
  Calls Tryz.prog 210 #[.int .i64 a,.int .i64 b] w fun e w'=>e=.returned (.tuple #[.int .i64 (fsum (told a) (told (M.neg b))),.int .i64 (sL (told a) (told (M.neg b))),.bool (pok (sL (told a) (told (M.neg b))))])∧Below w.heap.size w w':=by
 have C1:=bitsNeg b w L hb
 have C2:=fun W=>twoSum_any ha (neg_rng hb) W
 generalize M.neg b=c at *
 generalize told a=p at *
 generalize told c=q at *
 go_enter Tryz.func210,Tryz.ntmps210
 go_wp2_with fail
 refine C1.mono ?_
 rintro _ w1 ⟨rfl,g1⟩
 have b1:=g1.be
 clear g1
 go_wp2_with fail
 refine (C2 _).mono ?_
 rintro _ w2 ⟨rfl,b2⟩
 go_wp2
 refine bodyPost_ret (v:=.tuple #[.int .i64 (fsum p q),.int .i64 (sL p q),.bool (pok (sL p q))]) (by simp [results,Tryz.results210,go_sem]) rfl ⟨rfl,bel_trans b1 b2⟩
end Go.Proofs.YtjjihmnbdeeedaaGreatDoor
/-
 Package eft: math.Abs,FastTwoSum,reachable,TwoProd,by their contracts.
-/
namespace Go.Proofs.YtjjihmnbdeeedaaGreatDoor
open Go Go.RowKit Go.Proofs.YtjjihmnbdeeedaaGreatDoor.M Ieee
theorem bits_andNotU (x y:Int):bits .andNot .u64 x y=IntKind.u64.wrap (((x % 18446744073709551616).toNat &&& (18446744073709551615-(y % 18446744073709551616).toNat):Nat):Int):=by
 show IntKind.u64.wrap (((BitVec.ofInt 64 x &&& ~~~ BitVec.ofInt 64 y).toNat:Nat):Int)=_
 rw [BitVec.toNat_and,BitVec.toNat_not,ofInt64_toNat,ofInt64_toNat]
theorem abs_word {p:Int} (hp:M.rng p):bits .andNot .u64 ((wd p:Nat):Int) 9223372036854775808=((wd (rg p):Nat):Int):=by
 rw [bits_andNotU,show (18446744073709551615-((9223372036854775808:Int) % 18446744073709551616).toNat)=2^63-1 from by decide,IntKind.wrap_u64,Nat.and_two_pow_sub_one_eq_mod]
 unfold wd rg M.rng at *
 have e:(2:Nat)^63=9223372036854775808:=by decide
 rw [e]
 split <;> omega
theorem mabs_any {p:Int} (hp:M.rng p) (w:World) :
  Calls Tryz.prog 34 #[.float .f64 (wd p)] w fun e w'=>e=.returned (.float .f64 (wd (rg p)))∧w'=w:=by
 have h1:=run_from64
 have h2:=run_bits64
 have h3:=abs_word hp
 generalize wd (rg p)=z at *
 generalize wd p=x at *
 go_enter Tryz.func34,Tryz.ntmps34
 go_wp2
 go_ret
 exact ⟨by simp,rfl⟩
theorem rg_facts {p:Int} (hp:M.rng p) (h:pok p=true):M.rng (rg p)∧pok (rg p)=true∧iV (rg p)=((iV p).natAbs:Int):=by
 have h1:=(pok_rg hp).1 h
 have h0:0<=rg p:=by unfold rg; unfold M.rng at hp; split <;> omega
 have e:rg p=patS false (rg p):=rfl
 obtain ⟨a,b,c⟩:=patS_parts (ng:=false) h0 (by omega)
 rw [<- e] at a
 refine ⟨a,?_,?_⟩
 ·rw [e,patS_fin h0 (by omega)]; exact decide_eq_true h1
 ·rw [iV_abs]
  have:=iV_patS (ng:=false) h0 (show rg p<=9218868437227405312 by omega)
  rw [<- e] at this
  rw [this]
  rfl
theorem cmp_iV {p q:Int} (hp:M.rng p) (hq:M.rng q) (pp:pok p=true) (pq:pok q=true):Ieee.double.order (wd p) (wd q)=some (compare (iV p) (iV q)):=by
 rw [order_wd hp hq pp pq,patV_iV hp pp,patV_iV hq pq,cmp_mul (pw_pos _)]
theorem cmp_lt {a b:Int}:(some (compare a b) == some Ordering.lt)=decide (a<b):=by
 show (some (compareOfLessAndEq a b) == some Ordering.lt)=_
 unfold compareOfLessAndEq
 by_cases h1:a<b
 ·rw [if_pos h1,decide_eq_true h1]; rfl
 ·rw [if_neg h1,decide_eq_false h1]
  split <;> rfl
theorem abs_order {p q:Int} (hp:M.rng p) (hq:M.rng q) (pp:pok p=true) (pq:pok q=true):(Ieee.double.order (wd (rg p)) (wd (rg q)) == some Ordering.lt)=decide ((iV p).natAbs<(iV q).natAbs):=by
 obtain ⟨a1,a2,a3⟩:=rg_facts hp pp
 obtain ⟨b1,b2,b3⟩:=rg_facts hq pq
 rw [cmp_iV a1 b1 a2 b2,cmp_lt,a3,b3]
 congr 1
 apply propext
 omega
theorem told_fin {a:Int} (h:pok (told a)=true):told a=a:=by
 unfold told at *
 by_cases c:cls a=4
 ·rw [if_pos c,nan_no] at h; cases h
 ·rw [if_neg c]
theorem FW.fin {p:Int} {x:Nat} (h:FW p x) (g:pok p=true):x=wd p:=by
 rcases h with ⟨_,_,h⟩ | ⟨rfl,_⟩
 ·exact h
 ·rw [nan_no] at g; cases g
theorem fastTwoSum_any {a b:Int} (ha:M.rng a) (hb:M.rng b) (w:World) :
  Calls Tryz.prog 269 #[.int .i64 a,.int .i64 b] w fun e w'=>e=.returned (.tuple #[.int .i64 (fsum (told a) (told b)),.int .i64 (fL (told a) (told b)),.bool (fX (told a) (told b))])∧Below w.heap.size w w':=by
 have C1:=fun W=>bitsFloat a W
 have C2:=fun W=>bitsFloat b W
 have FA:Hid (FW (told a) (wd a)):=wd_told ha
 have FB:Hid (FW (told b) (wd b)):=wd_told hb
 generalize told a=p at *
 generalize told b=q at *
 generalize wd a=x at *
 generalize wd b=y at *
 obtain ⟨X,hX0⟩:∃ X,fX p q=X:=⟨_,rfl⟩
 have HX:Hid (fX p q=X):=hX0
 rw [hX0]
 clear hX0
 go_enter Tryz.func269,Tryz.ntmps269
 go_wp2_with fail
 refine (C1 _).mono ?_
 rintro _ _ ⟨rfl,rfl⟩
 go_wp2_with fail
 refine (C2 _).mono ?_
 rintro _ _ ⟨rfl,rfl⟩
 go_wp2_with fail
 refine (efast_any FA.out FB.out _).mono ?_
 rintro _ w1 ⟨z,u,rfl,g1,g2,b1⟩
 have G1:Hid (FW (fsum p q) z):=g1
 have G2:Hid (FW (fL p q) u):=g2
 clear g1 g2 C1 C2
 go_wp2_with fail
 refine (etold_any G1.out G2.out _).mono ?_
 rintro _ w2 ⟨rfl,b2⟩
 have hb2:=bel_trans b1 b2
 have hp:=FA.out.rng
 have hq:=FB.out.rng
 cases hl:pok (fL p q)
 ·have hx:X=false:=by rw [<- HX.out]; unfold fX; rw [hl]; rfl
  subst hx
  clear HX
  clear G1 G2 FA FB hp hq
  go_wp2
  all_goals refine bodyPost_ret (v:=.tuple #[.int .i64 (fsum p q),.int .i64 (fL p q),.bool false]) (by simp [results,Tryz.results269,go_sem]) rfl ⟨rfl,hb2⟩
 ·obtain ⟨⟨pp,pq⟩,ph⟩:=fL_args hp hq hl
  have ex:=FA.out.fin pp
  have ey:=FB.out.fin pq
  have eu:=G2.out.fin hl
  subst ex ey eu
  have A1:=fun W=>mabs_any hp W
  have A2:=fun W=>mabs_any hq W
  have HO:(FloatKind.f64.format.order (wd (rg p)) (wd (rg q)) == some Ordering.lt)=decide ((iV p).natAbs<(iV q).natAbs):=abs_order hp hq pp pq
  by_cases c:(iV p).natAbs<(iV q).natAbs
  ·have hc:=fsum_comm hp hq pp pq
   obtain ⟨k1,k2⟩:=fL_fin hq hp pq pp (by rw [<- hc]; exact ph) (by omega)
   have hfl:M.rng (fL p q):=by unfold fL; exact fsum_rng hq (neg_rng (fsum_rng (fsum_rng hp hq) (neg_rng hp)))
   have hfl2:M.rng (fL q p):=by unfold fL; exact fsum_rng hp (neg_rng (fsum_rng (fsum_rng hq hp) (neg_rng hq)))
   have HE:(FloatKind.f64.format.order (wd (fL p q)) (wd (fL q p)) == some Ordering.eq)=decide (iV (fL p q)=iV (fL q p)):=by
    show (Ieee.double.order (wd (fL p q)) (wd (fL q p)) == some Ordering.eq)=_
    rw [cmp_iV hfl hfl2 hl k1,cmp_eq]
   have hx:X=decide (iV (fL p q)=iV (fL q p)):=by rw [<- HX.out]; unfold fX; rw [hl,decide_eq_true c]; rfl
   rw [<- hx] at HE
   clear HX hx
   rw [decide_eq_true c] at HO
   have K1:Hid (pok (fL q p)=true):=k1
   clear hc k2 G1 hfl hfl2
   generalize wd (rg p)=xa at *
   generalize wd (rg q)=ya at *
   go_wp2_with fail
   refine (A1 _).mono ?_
   rintro _ _ ⟨rfl,rfl⟩
   go_wp2_with fail
   refine (A2 _).mono ?_
   rintro _ _ ⟨rfl,rfl⟩
   go_wp2_with fail
   refine (efast_any FB.out FA.out _).mono ?_
   rintro _ w3 ⟨z3,u3,rfl,g3,g4,b3⟩
   have e4:=g4.fin K1.out
   subst e4
   have hb3:=bel_trans hb2 b3
   clear g3 g4
   go_wp2
   all_goals refine bodyPost_ret (v:=.tuple #[.int .i64 (fsum p q),.int .i64 (fL p q),.bool X]) (by simp [results,Tryz.results269,go_sem,HE]) rfl ⟨rfl,hb3⟩
  ·have hx:X=true:=by rw [<- HX.out]; unfold fX; rw [hl,decide_eq_false c]; rfl
   subst hx
   clear HX
   rw [decide_eq_false c] at HO
   clear G1
   generalize wd (rg p)=xa at *
   generalize wd (rg q)=ya at *
   go_wp2_with fail
   refine (A1 _).mono ?_
   rintro _ _ ⟨rfl,rfl⟩
   go_wp2_with fail
   refine (A2 _).mono ?_
   rintro _ _ ⟨rfl,rfl⟩
   go_wp2
   all_goals refine bodyPost_ret (v:=.tuple #[.int .i64 (fsum p q),.int .i64 (fL p q),.bool true]) (by simp [results,Tryz.results269,go_sem]) rfl ⟨rfl,hb2⟩
end Go.Proofs.YtjjihmnbdeeedaaGreatDoor
namespace Go.Proofs.YtjjihmnbdeeedaaGreatDoor
open Go Go.RowKit Go.Proofs.YtjjihmnbdeeedaaGreatDoor.M Ieee
theorem tzero_any (mag:Int) (h0:0<mag) (h:mag<9223372036854775808) (w:World) (hT:b_Tab w) :
  Calls Tryz.prog 244 #[.int .u64 mag] w fun e w'=>e=.returned (.int .i64 (jz mag))∧w'=w:=by
 go_enter Tryz.func244,Tryz.ntmps244
 go_wp2_with fail
 refine (trailingI mag h0 h _ hT).mono ?_
 rintro _ _ ⟨rfl,rfl⟩
 go_wp2
 go_ret
 exact ⟨rfl,rfl⟩
theorem zeros_any (x:Int) (h0:0<x) (h1:x<9223372036854775808) (w:World) (hT:b_Tab w) :
  Calls Tryz.prog 281 #[.int .i64 x] w fun e w'=>e=.returned (.int .i64 (jz x))∧w'=w:=by
 have u1:IntKind.u64.wrap x=x:=by rw [IntKind.wrap_u64]; omega
 have C:=fun W (T:b_Tab W)=>tzero_any x h0 h1 W T
 go_enter Tryz.func281,Tryz.ntmps281
 go_wp2_with fail
 refine (C _ hT).mono ?_
 rintro _ _ ⟨rfl,rfl⟩
 go_wp2
 go_ret
 exact ⟨rfl,rfl⟩
def reach (a b:Int):Bool:=decide (pmag a=0) || decide (pmag b=0) || decide (-1074<=pexp a+jz (pmag a)+pexp b+jz (pmag b))
end Go.Proofs.YtjjihmnbdeeedaaGreatDoor
namespace Go.Proofs.YtjjihmnbdeeedaaGreatDoor
open Go Go.RowKit Go.Proofs.YtjjihmnbdeeedaaGreatDoor.M Ieee
theorem reachable_any {a b:Int} (pa:pok a=true) (pb:pok b=true) (w:World) (H:Hold4 w) :
  Calls Tryz.prog 240 #[.int .i64 a,.int .i64 b] w fun e w'=>e=.returned (.bool (reach a b))∧Below w.heap.size w w':=by
 have C1:=bitsPartsA a w H.lay
 have C2:Hid (∀ W,Below w.heap.size w W->_):=fun W hb=>bitsPartsA b W (H.keeps hb).lay
 have HT:Hid (∀ W,Below w.heap.size w W->b_Tab W):=fun W hb=>(H.keeps hb).env.tab
 obtain ⟨a0,a1,a2,a3⟩:=pmag_in pa
 obtain ⟨b0,b1,b2,b3⟩:=pmag_in pb
 have Z1:Hid (pmag a≠0->∀ W,Below w.heap.size w W->Calls Tryz.prog 281 #[.int .i64 (pmag a)] W fun e w'=>e=.returned (.int .i64 (jz (pmag a)))∧w'=W):=fun h W hb=>zeros_any _ (by omega) (by omega) W (HT.out W hb)
 have Z2:Hid (pmag b≠0->∀ W,Below w.heap.size w W->Calls Tryz.prog 281 #[.int .i64 (pmag b)] W fun e w'=>e=.returned (.int .i64 (jz (pmag b)))∧w'=W):=fun h W hb=>zeros_any _ (by omega) (by omega) W (HT.out W hb)
 have z1:pmag a≠0->jz (pmag a)<63:=fun h=>by obtain ⟨_,_,g,_⟩:=jz_spec (mag:=pmag a) (by omega) (by omega); exact g
 have z2:pmag b≠0->jz (pmag b)<63:=fun h=>by obtain ⟨_,_,g,_⟩:=jz_spec (mag:=pmag b) (by omega) (by omega); exact g
 unfold reach
 clear HT H
 generalize jz (pmag a)=j at *
 generalize jz (pmag b)=k at *
 generalize pmag a=m at *
 generalize pmag b=n at *
 generalize pexp a=x at *
 generalize pexp b=y at *
 generalize pneg a=s at *
 generalize pneg b=t at *
 go_enter Tryz.func240,Tryz.ntmps240
 go_wp2_with fail
 refine C1.mono ?_
 rintro _ w1 ⟨rfl,g1⟩
 go_wp2_with fail
 refine (C2.out _ g1).mono ?_
 rintro _ w2 ⟨rfl,g2⟩
 have hb2:=bel_trans g1 g2
 clear C1 C2 g1 g2
 by_cases hm:m=0
 ·subst hm
  go_wp2
  all_goals go_ret
  all_goals exact ⟨by simp,hb2⟩
 ·by_cases hn:n=0
  ·subst hn
   go_wp2
   all_goals go_ret
   all_goals exact ⟨by simp,hb2⟩
  ·have Z1:=Z1.out hm w2 hb2
   have Z2:=Z2.out hn w2 hb2
   have j1:=z1 hm
   have k1:=z2 hn
   have u1:IntKind.i64.wrap (x+(j:Int))=x+j:=by rw [wrap_i64_eq]; omega
   have u2:IntKind.i64.wrap (x+(j:Int)+y)=x+j+y:=by rw [wrap_i64_eq]; omega
   have u3:IntKind.i64.wrap (x+(j:Int)+y+(k:Int))=x+j+y+k:=by rw [wrap_i64_eq]; omega
   by_cases hr:-1074<=x+(j:Int)+y+(k:Int)
   ·go_wp2_with (first | (go_at_call 281; first | (refine Z1.mono ?_; rintro _ _ ⟨rfl,rfl⟩) | (refine Z2.mono ?_; rintro _ _ ⟨rfl,rfl⟩)))
    all_goals go_ret
    all_goals exact ⟨by simp [hr],by first | exact hb2 | exact hb2.drew⟩
   ·go_wp2_with (first | (go_at_call 281; first | (refine Z1.mono ?_; rintro _ _ ⟨rfl,rfl⟩) | (refine Z2.mono ?_; rintro _ _ ⟨rfl,rfl⟩)))
    all_goals go_ret
    all_goals exact ⟨by simp [hm,hn,hr],by first | exact hb2 | exact hb2.drew⟩
def pX (p q:Int):Bool:=pok (prL p q) && reach p q
theorem twoProd_any {a b:Int} (ha:M.rng a) (hb:M.rng b) (w:World) (H:Hold4 w) :
  Calls Tryz.prog 182 #[.int .i64 a,.int .i64 b] w fun e w'=>e=.returned (.tuple #[.int .i64 (fprod (told a) (told b)),.int .i64 (prL (told a) (told b)),.bool (pX (told a) (told b))])∧Below w.heap.size w w':=by
 have C1:=fun W=>bitsFloat a W
 have C2:=fun W=>bitsFloat b W
 have FA:Hid (FW (told a) (wd a)):=wd_told ha
 have FB:Hid (FW (told b) (wd b)):=wd_told hb
 have HH:Hid (Hold4 w):=H
 have TA:Hid (pok (told a)=true->told a=a):=told_fin
 have TB:Hid (pok (told b)=true->told b=b):=told_fin
 clear H
 generalize told a=p at *
 generalize told b=q at *
 generalize wd a=x at *
 generalize wd b=y at *
 obtain ⟨X,hX0⟩:∃ X,pX p q=X:=⟨_,rfl⟩
 have HX:Hid (pX p q=X):=hX0
 rw [hX0]
 clear hX0
 go_enter Tryz.func182,Tryz.ntmps182
 go_wp2_with fail
 refine (C1 _).mono ?_
 rintro _ _ ⟨rfl,rfl⟩
 go_wp2_with fail
 refine (C2 _).mono ?_
 rintro _ _ ⟨rfl,rfl⟩
 go_wp2_with fail
 refine (eprod_any FA.out FB.out _).mono ?_
 rintro _ w1 ⟨z,u,rfl,g1,g2,b1⟩
 have G1:Hid (FW (fprod p q) z):=g1
 have G2:Hid (FW (prL p q) u):=g2
 clear g1 g2 C1 C2
 go_wp2_with fail
 refine (etold_any G1.out G2.out _).mono ?_
 rintro _ w2 ⟨rfl,b2⟩
 have hb2:=bel_trans b1 b2
 have hp:=FA.out.rng
 have hq:=FB.out.rng
 cases hl:pok (prL p q)
 ·have hx:X=false:=by rw [<- HX.out]; unfold pX; rw [hl]; rfl
  subst hx
  clear G1 G2 FA FB hp hq HX
  go_wp2
  all_goals refine bodyPost_ret (v:=.tuple #[.int .i64 (fprod p q),.int .i64 (prL p q),.bool false]) (by simp [results,Tryz.results182,go_sem]) rfl ⟨rfl,hb2⟩
 ·have hx:X=reach p q:=by rw [<- HX.out]; unfold pX; rw [hl]; rfl
  obtain ⟨⟨pQ,pS⟩,_⟩:=prL_args hp hq hl
  have pp:=(spL_exact hp pQ).1
  have pq:=(spL_exact hq pS).1
  have ea:=TA.out pp
  have eb:=TB.out pq
  have CR:=reachable_any (a:=p) (b:=q) pp pq w2 (HH.out.keeps hb2)
  rw [<- hx] at CR
  subst ea eb
  clear G1 G2 FA FB hp hq HX pQ pS pp pq hx TA TB
  go_wp2_with fail
  refine CR.mono ?_
  rintro _ w3 ⟨rfl,b3⟩
  go_wp2
  all_goals refine bodyPost_ret (v:=.tuple #[.int .i64 (fprod p q),.int .i64 (prL p q),.bool X]) (by simp [results,Tryz.results182,go_sem]) rfl ⟨rfl,bel_trans hb2 b3⟩
theorem dvd_odd {s n:Nat} {t:Int} (h:(2^n:Int) ∣ 2^s*(2*t+1)):n<=s:=by
 rcases Nat.lt_or_ge s n with c | c
 ·exfalso
  obtain ⟨d,rfl⟩:∃ d,n=s+1+d:=⟨n-s-1,by omega⟩
  obtain ⟨e,he⟩:=h
  rw [Int.pow_add,p2s,show (2:Int)*2^s*2^d*e=2^s*(2*(2^d*e)) by ac_rfl] at he
  have:=Int.eq_of_mul_eq_mul_left (by have:=p2 s; omega) he
  generalize (2:Int)^d*e=f at this
  omega
 ·exact c
theorem iV_form {p:Int} (hp:rng p) (h:pok p=true):((iV p).natAbs:Int)=pmag p*2^(pexp p+1074).toNat:=by
 have h0:=(pmag_in h).1
 rw [iV_abs,V_rg hp h,nat_two,Int.toNat_of_nonneg h0,Int.mul_comm]
theorem k_form {m:Nat} {mag:Int} {j e:Nat} (h:mag=2^j*(2*m+1)):mag*2^e=2^(j+e)*(2*(m:Int)+1):=by
 rw [h,Int.pow_add,Int.mul_assoc,Int.mul_assoc,Int.mul_comm (2*(m:Int)+1)]
theorem k_form2 (i j:Nat) (a b:Int):2^i*(2*a+1)*(2^j*(2*b+1))=2^(i+j)*(2*(2*a*b+a+b)+1):=by
 have e:(2*a+1)*(2*b+1)=2*(2*a*b+a+b)+1:=by
  rw [Int.add_mul,Int.mul_add,Int.one_mul,Int.mul_one,Int.mul_add,Int.mul_add]
  have:2*a*(2*b)=2*(2*a*b):=by ac_rfl
  omega
 rw [<- e,Int.pow_add]
 generalize 2*a+1=A
 generalize 2*b+1=B
 ac_rfl
theorem reach_iff {a b:Int} (ha:rng a) (hb:rng b) (pa:pok a=true) (pb:pok b=true):reach a b=true ↔ ∃ T,2^1074*T=iV a*iV b:=by
 have fa:=iV_form ha pa
 have fb:=iV_form hb pb
 obtain ⟨a0,a1,a2,a3⟩:=pmag_in pa
 obtain ⟨b0,b1,b2,b3⟩:=pmag_in pb
 unfold reach
 by_cases hm:pmag a=0
 ·rw [hm] at fa ⊢
  have:iV a=0:=by rw [Int.zero_mul] at fa; omega
  rw [this]
  exact ⟨fun _=>⟨0,by rw [Int.mul_zero,Int.zero_mul]⟩,fun _=>rfl⟩
 by_cases hn:pmag b=0
 ·rw [hn] at fb ⊢
  have:iV b=0:=by rw [Int.zero_mul] at fb; omega
  rw [this]
  exact ⟨fun _=>⟨0,by rw [Int.mul_zero,Int.mul_zero]⟩,fun _=>by simp⟩
 obtain ⟨m,m1,m2,_⟩:=jz_spec (mag:=pmag a) (by omega) (by omega)
 obtain ⟨n,n1,n2,_⟩:=jz_spec (mag:=pmag b) (by omega) (by omega)
 rw [decide_eq_false hm,decide_eq_false hn,Bool.false_or,Bool.false_or,decide_eq_true_iff]
 rw [k_form m1] at fa
 rw [k_form n1] at fb
 have hd:(∃ T,2^1074*T=iV a*iV b) ↔ (2^1074:Int) ∣ ((iV a).natAbs:Int)*((iV b).natAbs:Int):=by
  rw [<- Int.natCast_mul,<- Int.natAbs_mul,Int.dvd_natAbs]
  exact ⟨fun ⟨T,h⟩=>⟨T,h.symm⟩,fun ⟨T,h⟩=>⟨T,h.symm⟩⟩
 rw [hd,fa,fb,k_form2]
 constructor
 ·intro h
  exact Int.dvd_trans (p2dvd (by omega)) ⟨_,rfl⟩
 ·intro h
  have:=dvd_odd h
  omega
end Go.Proofs.YtjjihmnbdeeedaaGreatDoor
namespace Go.Proofs.YtjjihmnbdeeedaaGreatDoor
open Go Go.RowKit Go.Proofs.YtjjihmnbdeeedaaGreatDoor.M
end Go.Proofs.YtjjihmnbdeeedaaGreatDoor
namespace Go.Proofs.YtjjihmnbdeeedaaGreatDoor
open Go Go.RowKit Go.Proofs.YtjjihmnbdeeedaaGreatDoor.M Ieee
theorem hold6_of {W : World} (h : laidMetH Tryz.prog [("math/bits.deBruijn32tab", Rows.laid_math_bits_deBruijn32tab), ("math/bits.deBruijn64tab", Rows.laid_math_bits_deBruijn64tab), ("plumb/bits.binary64", Rows.laid_plumb_bits_binary64)] W) : Hold4 W := by
 have k:=hold_of h
 exact ⟨k.lay,k.tab,⟨⟨k.lay.a0,k.lay.a1,k.lay.a2,trivial,trivial,trivial⟩,k.tab⟩⟩
theorem told_ok {a:Int} (h:pok a=true) (ha:M.rng a):told a=a:=by
 unfold told; rw [if_neg (fin_cls ha h).1]
theorem sL_rng {p q:Int} (hp:M.rng p) (hq:M.rng q):M.rng (sL p q):=by
 have rh:=fsum_rng hp hq
 have rv:M.rng (sV p q):=fsum_rng rh (neg_rng hp)
 exact fsum_rng (fsum_rng hp (neg_rng (fsum_rng rh (neg_rng rv)))) (fsum_rng hq (neg_rng rv))
theorem fL_rng {p q:Int} (hp:M.rng p) (hq:M.rng q):M.rng (fL p q):=fsum_rng hq (neg_rng (fsum_rng (fsum_rng hp hq) (neg_rng hp)))
theorem sp_rng {p:Int} (hp:M.rng p):M.rng (spH p)∧M.rng (spL p):=by
 have rc:M.rng (cC p):=fprod_rng spl_rng hp
 have rd:=fsum_rng rc (neg_rng hp)
 have rH:M.rng (spH p):=fsum_rng rc (neg_rng rd)
 exact ⟨rH,fsum_rng hp (neg_rng rH)⟩
theorem prL_rng {p q:Int} (hp:M.rng p) (hq:M.rng q):M.rng (prL p q):=by
 obtain ⟨rP,rQ⟩:=sp_rng hp
 obtain ⟨rR,rS⟩:=sp_rng hq
 have rT1:M.rng (pT1 p q):=fsum_rng (fprod_rng hp hq) (neg_rng (fprod_rng rP rR))
 have rT2:M.rng (pT2 p q):=fsum_rng rT1 (neg_rng (fprod_rng rQ rR))
 have rT3:M.rng (pT3 p q):=fsum_rng rT2 (neg_rng (fprod_rng rP rS))
 exact fsum_rng (fprod_rng rQ rS) (neg_rng rT3)
end Go.Proofs.YtjjihmnbdeeedaaGreatDoor
namespace Go.Proofs.YtjjihmnbdeeedaaGreatDoor.M
open Go Ieee
theorem q_rg {b:Int} (h:rng b):rng (rg b)∧0<=rg b:=by unfold rng rg at *; split <;> omega
theorem q_cls {b:Int} (h:rng b):cls (rg b)=cls b:=by
 unfold rng at h; unfold cls rg fld frc
 by_cases h0:b<0
 ·rw [if_pos h0,show (b+9223372036854775808)/4503599627370496 % 2048=b/4503599627370496 % 2048 from by omega,show (b+9223372036854775808) % 4503599627370496=b % 4503599627370496 from by omega]
 ·rw [if_neg h0]
theorem q_wd {b:Int} (h:rng b):wd b % 9223372036854775808=wd (rg b):=by unfold rng rg wd at *; split <;> omega
theorem q_key {b:Int} (h:0<=b):key b=b:=by unfold key; rw [if_neg (by omega)]
theorem q_wdlt (b:Int):wd b<18446744073709551616:=by unfold wd; omega
theorem q_abs {b:Int} (h:rng b):(bits .andNot .u64 (wd b) 9223372036854775808).toNat=wd (rg b):=by
 have e:=q_wd h
 have l:=q_wdlt b
 rw [<- e]
 show (IntKind.u64.wrap (((BitVec.ofInt 64 (wd b:Int) &&& ~~~ BitVec.ofInt 64 9223372036854775808).toNat:Nat):Int)).toNat=_
 rw [BitVec.toNat_and,BitVec.toNat_not,ofInt64_toNat,ofInt64_toNat,show (2^64-1-((9223372036854775808:Int) % 18446744073709551616).toNat)=2^63-1 from by decide,Nat.and_two_pow_sub_one_eq_mod,IntKind.wrap_u64]
 omega
theorem q_fin {b:Int} (h:pok b=true):¬ cls b=4:=by
 have:=pparts h
 unfold cls; rw [if_neg this]; split
 ·split <;> omega
 ·omega
theorem q_lt {a b:Int} (ha:rng a) (hb:rng b) (h1:¬ cls a=4) (h2:¬ cls b=4) (h:key a<key b):FloatKind.f64.format.order (wd a) (wd b)=some .lt:=by rw [order64 ha hb h1 h2,compare_lt h]
theorem q_gt {a b:Int} (ha:rng a) (hb:rng b) (h1:¬ cls a=4) (h2:¬ cls b=4) (h:key b<key a):FloatKind.f64.format.order (wd a) (wd b)=some .gt:=by rw [order64 ha hb h1 h2,compare_gt h]
theorem q_eq {a b:Int} (ha:rng a) (hb:rng b) (h1:¬ cls a=4) (h2:¬ cls b=4) (h:key a=key b):FloatKind.f64.format.order (wd a) (wd b)=some .eq:=by rw [order64 ha hb h1 h2,compare_eq h]
def tame (b:Int):Bool:=decide (rg b=0) || (decide (3931642474694443008<=rg b) && decide (rg b<5282722362905591808))
theorem tame_fld {b:Int} (h:rng b):tame b=(decide (rg b=0) || (decide (873<=fld b) && decide (fld b<1173))):=by
 obtain ⟨h0,h1⟩:=rg_parts h
 have h2:0<=frc b∧frc b<4503599627370496:=by unfold frc; omega
 unfold tame
 congr 1
 congr 1
 ·apply decide_eq_decide.2; omega
 ·apply decide_eq_decide.2; omega
theorem pok_rg' {b:Int} (h:rng b):pok b=decide (rg b<=9218868437227405311):=by
 obtain ⟨h0,h1⟩:=rg_parts h
 have h2:0<=frc b∧frc b<4503599627370496:=by unfold frc; omega
 have h3:0<=fld b∧fld b<2048:=by unfold fld; omega
 unfold pok
 by_cases e:fld b=2047
 ·simp [e]; omega
 ·simp [e]; omega
end Go.Proofs.YtjjihmnbdeeedaaGreatDoor.M
namespace Go.Proofs.YtjjihmnbdeeedaaGreatDoor
open Go Go.RowKit Go.Proofs.YtjjihmnbdeeedaaGreatDoor.M
structure Ls where
 n:Nat
 d:Nat->Int
def Ls.add (s:Ls) (b:Int):Ls:=if rg b=0 then s else ⟨s.n+1,upd s.d s.n b⟩
theorem Ls.add_le (s:Ls) (b:Int):s.n<=(s.add b).n∧(s.add b).n<=s.n+1:=by
 unfold Ls.add
 split
 ·exact ⟨Nat.le_refl _,Nat.le_succ _⟩
 ·exact ⟨Nat.le_succ _,Nat.le_refl _⟩
def Ls.same (s t:Ls):Prop:=s.n=t.n∧∀ i,i<s.n->s.d i=t.d i
theorem Ls.same.add {s t:Ls} (h:s.same t) (b:Int):(s.add b).same (t.add b):=by
 unfold Ls.add
 split
 ·exact h
 ·refine ⟨by show s.n+1=t.n+1; rw [h.1],fun i hi=>?_⟩
  show upd s.d s.n b i=upd t.d t.n b i
  by_cases e:i=s.n
  ·subst e; rw [upd_same,h.1,upd_same]
  ·rw [upd_other _ _ e,upd_other _ _ (by rw [<- h.1]; exact e)]
   exact h.2 i (by have:i<s.n+1:=hi; omega)
def gq (d:Nat->Int) (q:Int):Nat->Int
 | 0=>q
 | k+1=>fsum (gq d q k) (d k)
def gl (d:Nat->Int) (q:Int) (k:Nat):Int:=sL (gq d q k) (d k)
def gs (d:Nat->Int) (q:Int):Nat->Ls
 | 0=>⟨0,d⟩
 | k+1=>(gs d q k).add (gl d q k)
def gx (d:Nat->Int) (q:Int):Nat->Bool
 | 0=>true
 | k+1=>gx d q k && pok (gl d q k)
def grw (n:Nat) (d:Nat->Int) (q:Int):Ls:=(gs d q n).add (gq d q n)
theorem gs_le (d:Nat->Int) (q:Int):∀ k,(gs d q k).n<=k
 | 0=>Nat.le_refl _
 | k+1=>by
  have h1:=gs_le d q k
  have h2:=((gs d q k).add_le (gl d q k)).2
  show ((gs d q k).add _).n<=k+1
  omega
theorem gs_tail (d:Nat->Int) (q:Int):∀ k i,k<=i->(gs d q k).d i=d i
 | 0,i,_=>rfl
 | k+1,i,h=>by
  have h1:=gs_le d q k
  show ((gs d q k).add _).d i=d i
  unfold Ls.add
  split
  ·exact gs_tail d q k i (by omega)
  ·show upd _ _ _ i=d i
   rw [upd_other _ _ (by omega)]
   exact gs_tail d q k i (by omega)
theorem gx_mono {d:Nat->Int} {q:Int}:∀ {k j},j<=k->gx d q k=true->gx d q j=true
 | 0,j,h,hx=>by
  obtain rfl:j=0:=by omega
  rfl
 | k+1,j,h,hx=>by
  by_cases e:j=k+1
  ·subst e; exact hx
  ·have:(gx d q k && pok (gl d q k))=true:=hx
   rw [Bool.and_eq_true] at this
   exact gx_mono (by omega) this.1
theorem gq_fin {d:Nat->Int} {q:Int} {n:Nat} (hd:∀ i,i<n->rng (d i)∧pok (d i)=true) (hq:rng q) (pq:pok q=true):∀ k,k<=n->gx d q k=true->rng (gq d q k)∧pok (gq d q k)=true
 | 0,_,_=>⟨hq,pq⟩
 | k+1,hk,hx=>by
  have hx':(gx d q k && pok (gl d q k))=true:=hx
  rw [Bool.and_eq_true] at hx'
  obtain ⟨r1,r2⟩:=gq_fin hd hq pq k (by omega) hx'.1
  obtain ⟨d1,d2⟩:=hd k (by omega)
  exact ⟨fsum_rng r1 d1,(sL_exact r1 d1 hx'.2).2.1⟩
theorem nought_order {b:Int} (hb:rng b):(FloatKind.f64.format.order (wd b) 0 == some .eq)=decide (rg b=0):=by
 have h:=same_order hb (show rng 0 by unfold rng; omega)
 rw [show wd 0=0 by decide] at h
 rw [h]
 unfold same
 have hk:key 0=0:=by decide
 have c0:¬ cls 0=4:=by decide
 by_cases h4:cls b=4
 ·have:rg b≠0:=fun e=>by
   have:=q_cls hb
   rw [e] at this
   rw [<- this] at h4
   exact c0 h4
  simp [h4,this]
 ·have e:(key b=key 0) ↔ rg b=0:=by
   rw [hk]
   unfold rng at hb
   unfold key rg
   split <;> omega
  by_cases hz:rg b=0
  ·simp [h4,c0,hz,e.2 hz]
  ·have:¬ key b=key 0:=fun q=>hz (e.1 q)
   simp [h4,c0,hz,this]
theorem mathAbs {b:Int} (hb:rng b) (w:World) :
  Calls Tryz.prog 34 #[.float .f64 (wd b)] w fun e w'=>e=.returned (.float .f64 (wd (rg b)))∧w'=w:=by
 have h1:=run_bits64
 have h2:=run_from64
 go_enter Tryz.func34,Tryz.ntmps34
 go_wp2
 go_ret
 exact ⟨ret_float (q_abs hb),rfl⟩
theorem q_finite {b:Int} (hb:rng b) (w:World) :
  Calls Tryz.prog 186 #[.float .f64 (wd b)] w fun e w'=>e=.returned (.bool (pok b))∧w'=w:=by
 have n0:=no64 hb
 obtain ⟨r1,r2⟩:=q_rg hb
 by_cases h4:cls b=4
 ·have n1:(FloatKind.f64.format.order (wd b) (wd b) != some .eq)=true:=by rw [n0]; simp [h4]
  have hp:pok b=false:=by
   cases h:pok b
   ·rfl
   ·exact absurd h4 (q_fin h)
  clear n0
  go_enter Tryz.func186,Tryz.ntmps186
  go_wp2
  go_ret
  exact ⟨b_ret_bool hp.symm,rfl⟩
 ·have n1:(FloatKind.f64.format.order (wd b) (wd b) != some .eq)=false:=by rw [n0]; simp [h4]
  have c1:¬ cls (rg b)=4:=by rw [q_cls hb]; exact h4
  have c2:¬ cls 9218868437227405311=4:=by decide
  have r3:rng 9218868437227405311:=by unfold rng; omega
  have k1:=q_key r2
  have k2:key 9218868437227405311=9218868437227405311:=by decide
  have e2:wd 9218868437227405311=9218868437227405311:=by decide
  have hp:=pok_rg' hb
  clear n0
  rcases Int.lt_trichotomy (rg b) 9218868437227405311 with h | h | h
  ·have o:=q_lt r1 r3 c1 c2 (by rw [k1,k2]; exact h)
   rw [e2] at o
   have hp':pok b=true:=by rw [hp]; simp; omega
   clear hp
   go_enter Tryz.func186,Tryz.ntmps186
   go_wp2_with (go_at_call 34; refine (mathAbs hb _).mono ?_; rintro _ _ ⟨rfl,rfl⟩)
   go_ret
   exact ⟨b_ret_bool hp'.symm,rfl⟩
  ·have o:=q_eq r1 r3 c1 c2 (by rw [k1,k2]; exact h)
   rw [e2] at o
   have hp':pok b=true:=by rw [hp]; simp; omega
   clear hp
   go_enter Tryz.func186,Tryz.ntmps186
   go_wp2_with (go_at_call 34; refine (mathAbs hb _).mono ?_; rintro _ _ ⟨rfl,rfl⟩)
   go_ret
   exact ⟨b_ret_bool hp'.symm,rfl⟩
  ·have o:=q_gt r1 r3 c1 c2 (by rw [k1,k2]; exact h)
   rw [e2] at o
   have hp':pok b=false:=by rw [hp]; simp; omega
   clear hp
   go_enter Tryz.func186,Tryz.ntmps186
   go_wp2_with (go_at_call 34; refine (mathAbs hb _).mono ?_; rintro _ _ ⟨rfl,rfl⟩)
   go_ret
   exact ⟨b_ret_bool hp'.symm,rfl⟩
theorem pointTame {b:Int} (hb:rng b) (w:World) :
    Calls Tryz.prog 57 #[.int .i64 b] w fun e w'=>e=.returned (.bool (tame b))∧w'=w:=by
  obtain ⟨r1,r2⟩:=q_rg hb
  have k1:=q_key r2
  have z1:wd 0=0:=by decide
  have z2:wd 3931642474694443008=3931642474694443008:=by decide
  have z3:wd 5282722362905591808=5282722362905591808:=by decide
  have s1:=same_order r1 (show rng 0 by unfold rng; omega)
  have s2:=less_order r1 (show rng 5282722362905591808 by unfold rng; omega)
  have o0:=@order64_nan
  by_cases h4:cls (rg b)=4
  · have o1:=order64_nan r1 (show rng 0 by unfold rng; omega) (.inl h4)
    have o2:=order64_nan (show rng 3931642474694443008 by unfold rng; omega) r1 (.inr h4)
    rw [z1] at o1
    rw [z2] at o2
    have ht:tame b=false:=by
      have h5:cls b=4:=by rw [<- q_cls hb]; exact h4
      have h6:fld b=2047:=by
        unfold cls at h5; split at h5
        · assumption
        · split at h5
          · split at h5 <;> omega
          · omega
      have:=rg_parts hb
      have h7:0<=frc b∧frc b<4503599627370496:=by unfold frc; omega
      rw [tame_fld hb,h6]
      simp
      omega
    clear s1 s2 o0
    go_enter Tryz.func57,Tryz.ntmps57
    go_wp2_with (first
      | (go_at_call 58; refine (bitsFloat _ _).mono ?_; rintro _ _ ⟨rfl,rfl⟩)
      | (go_at_call 34; refine (mathAbs hb _).mono ?_; rintro _ _ ⟨rfl,rfl⟩))
    go_ret
    exact ⟨b_ret_bool ht.symm,rfl⟩
  · have c0:¬ cls 0=4:=by decide
    have c2:¬ cls 3931642474694443008=4:=by decide
    have c3:¬ cls 5282722362905591808=4:=by decide
    have y0:rng 0:=by unfold rng; omega
    have y2:rng 3931642474694443008:=by unfold rng; omega
    have y3:rng 5282722362905591808:=by unfold rng; omega
    have m0:key 0=0:=by decide
    have m2:key 3931642474694443008=3931642474694443008:=by decide
    have m3:key 5282722362905591808=5282722362905591808:=by decide
    clear s1 s2 o0
    by_cases e0:rg b=0
    · have o1:=q_eq r1 y0 h4 c0 (by rw [k1,m0]; exact e0)
      rw [z1] at o1
      have ht:tame b=true:=by unfold tame; simp [e0]
      go_enter Tryz.func57,Tryz.ntmps57
      go_wp2_with (first
        | (go_at_call 58; refine (bitsFloat _ _).mono ?_; rintro _ _ ⟨rfl,rfl⟩)
        | (go_at_call 34; refine (mathAbs hb _).mono ?_; rintro _ _ ⟨rfl,rfl⟩))
      go_ret
      exact ⟨b_ret_bool ht.symm,rfl⟩
    have o1:=q_gt r1 y0 h4 c0 (by rw [k1,m0]; omega)
    rw [z1] at o1
    by_cases e1:rg b<3931642474694443008
    · have o2:=q_gt y2 r1 c2 h4 (by rw [k1,m2]; exact e1)
      rw [z2] at o2
      have ht:tame b=false:=by unfold tame; simp [e0]; omega
      go_enter Tryz.func57,Tryz.ntmps57
      go_wp2_with (first
        | (go_at_call 58; refine (bitsFloat _ _).mono ?_; rintro _ _ ⟨rfl,rfl⟩)
        | (go_at_call 34; refine (mathAbs hb _).mono ?_; rintro _ _ ⟨rfl,rfl⟩))
      go_ret
      exact ⟨b_ret_bool ht.symm,rfl⟩
    by_cases e2:rg b=3931642474694443008
    · have o2:=q_eq y2 r1 c2 h4 (by rw [k1,m2]; exact e2.symm)
      have o3:=q_lt r1 y3 h4 c3 (by rw [k1,m3]; omega)
      rw [z2] at o2
      rw [z3] at o3
      have ht:tame b=true:=by unfold tame; simp [e2]
      go_enter Tryz.func57,Tryz.ntmps57
      go_wp2_with (first
        | (go_at_call 58; refine (bitsFloat _ _).mono ?_; rintro _ _ ⟨rfl,rfl⟩)
        | (go_at_call 34; refine (mathAbs hb _).mono ?_; rintro _ _ ⟨rfl,rfl⟩))
      go_ret
      exact ⟨b_ret_bool ht.symm,rfl⟩
    have o2:=q_lt y2 r1 c2 h4 (by rw [k1,m2]; omega)
    rw [z2] at o2
    rcases Int.lt_trichotomy (rg b) 5282722362905591808 with h | h | h
    · have o3:=q_lt r1 y3 h4 c3 (by rw [k1,m3]; omega)
      rw [z3] at o3
      have ht:tame b=true:=by unfold tame; simp [e0]; omega
      go_enter Tryz.func57,Tryz.ntmps57
      go_wp2_with (first
        | (go_at_call 58; refine (bitsFloat _ _).mono ?_; rintro _ _ ⟨rfl,rfl⟩)
        | (go_at_call 34; refine (mathAbs hb _).mono ?_; rintro _ _ ⟨rfl,rfl⟩))
      go_ret
      exact ⟨b_ret_bool ht.symm,rfl⟩
    · have o3:=q_eq r1 y3 h4 c3 (by rw [k1,m3]; omega)
      rw [z3] at o3
      have ht:tame b=false:=by unfold tame; simp [e0]; omega
      go_enter Tryz.func57,Tryz.ntmps57
      go_wp2_with (first
        | (go_at_call 58; refine (bitsFloat _ _).mono ?_; rintro _ _ ⟨rfl,rfl⟩)
        | (go_at_call 34; refine (mathAbs hb _).mono ?_; rintro _ _ ⟨rfl,rfl⟩))
      go_ret
      exact ⟨b_ret_bool ht.symm,rfl⟩
    · have o3:=q_gt r1 y3 h4 c3 (by rw [k1,m3]; omega)
      rw [z3] at o3
      have ht:tame b=false:=by unfold tame; simp [e0]; omega
      go_enter Tryz.func57,Tryz.ntmps57
      go_wp2_with (first
        | (go_at_call 58; refine (bitsFloat _ _).mono ?_; rintro _ _ ⟨rfl,rfl⟩)
        | (go_at_call 34; refine (mathAbs hb _).mono ?_; rintro _ _ ⟨rfl,rfl⟩))
      go_ret
      exact ⟨b_ret_bool ht.symm,rfl⟩
theorem q_two_set {p B g o:Nat} {v x0 x1:Value} {W:World} (hg:B<=g) (h:p<B∧B<=W.heap.size∧W.cell? ⟨p,0,none⟩=some x0∧W.cell? ⟨p,1,none⟩=some x1) :
  p<B∧B<=(W.setCell ⟨g,o,none⟩ v).heap.size∧(W.setCell ⟨g,o,none⟩ v).cell? ⟨p,0,none⟩=some x0∧(W.setCell ⟨g,o,none⟩ v).cell? ⟨p,1,none⟩=some x1:=by
 have hw:Wr g W (W.setCell ⟨g,o,none⟩ v):=(Wr.refl g W).setCell o v
 obtain ⟨h1,h2,a0,a1⟩:=h
 have hp:p<W.heap.size:=by omega
 have hne:p≠g:=by omega
 exact ⟨h1,Nat.le_trans h2 hw.size,(hw.cell hp hne).trans a0,(hw.cell hp hne).trans a1⟩
theorem q_heap_set {w:World} {g:Nat} {xs:Array Value} {t:TypeId} (h:w.heap[g]?=some (.cells xs t (0,0))) (i:Nat) (v:Value):(w.setCell ⟨g,i,none⟩ v).heap[g]?=some (.cells (xs.setIfInBounds i v) t (0,0)):=by
 simp [World.setCell,Array.getElem?_modify,h]
def errF (b:Bool):Int:=if b then 0 else 10
def allFin (d:Nat->Int) (n:Nat):Bool:=decide (∀ i,i<n->pok (d i)=true)
theorem q_checked (ao:Option Addr) (n cap:Nat) (d:Nat->Int) (w:World) (h:Row w ao n cap d) (hd:∀ i,i<n->rng (d i)) :
    Calls Tryz.prog 128 #[.slice ao n cap] w fun e w'=>e=.returned (.int .i64 (errF (allFin d n)))∧w'=w:=by
  have hl:=h.le
  have hm:=h.max
  go_enter Tryz.func128,Tryz.ntmps128
  go_wp2_with fail
  go_loop [7] (fun i=>∃ k:Nat,k<=n∧i=.int .i64 k∧Hid (∀ j,j<k->pok (d j)=true)) (fun i=>n-(intOf i).toNat)
  case atStart=>exact ⟨0,Nat.zero_le _,rfl,fun j hj=>by omega⟩
  case round=>
    obtain ⟨k,hk,rfl,HO⟩:=hrel
    by_cases hlt:k<n
    · obtain ⟨b,off,rfl,hb,hc⟩:=h.spot (by omega)
      have c0:=hc k hlt
      have hr:=hd k hlt
      by_cases hok:pok (d k)=true
      · go_wp2_with (first
          | (go_at_call 58; refine (bitsFloat _ _).mono ?_; rintro _ _ ⟨rfl,rfl⟩)
          | (go_at_call 186; refine (q_finite hr _).mono ?_; rintro _ _ ⟨rfl,rfl⟩))
        go_round
        case rel=>exact ⟨k+1,by omega,by go_num,fun j hj=>by
            by_cases e:j=k
            · subst e; exact hok
            · exact HO.out j (by omega)⟩
        case measure=>simp [intOf]; omega
      · have hok':pok (d k)=false:=by simpa using hok
        go_wp2_with (first
          | (go_at_call 58; refine (bitsFloat _ _).mono ?_; rintro _ _ ⟨rfl,rfl⟩)
          | (go_at_call 186; refine (q_finite hr _).mono ?_; rintro _ _ ⟨rfl,rfl⟩))
        go_ret
        exact ⟨b_ret_int (by
          unfold errF
          rw [if_neg]
          intro hx
          exact hok (of_decide_eq_true hx k hlt)),rfl⟩
    · obtain rfl:k=n:=by omega
      go_wp2
      go_ret
      exact ⟨b_ret_int (by unfold errF; rw [if_pos (show allFin d k=true from decide_eq_true HO.out)]),rfl⟩
theorem allFin2 (x y:Int):allFin (fun i=>if i=0 then x else y) 2=(pok x && pok y):=by
 unfold allFin
 rw [Bool.eq_iff_iff]
 simp
 constructor
 ·intro h
  exact ⟨by simpa using h 0 (by omega),by simpa using h 1 (by omega)⟩
 ·rintro ⟨h1,h2⟩ i hi
  split
  ·exact h1
  ·exact h2
theorem q_row2 (w:World) (o:Obj) (x y:Int) (t:TypeId):Row ((w.alloc o).alloc (.cells #[.int .i64 x,.int .i64 y] t)) (some ⟨w.heap.size+1,0,none⟩) 2 2 (fun i=>if i=0 then x else y) :=
  ⟨by omega,by omega,(fun h=>by cases h),fun _=>⟨_,_,rfl,by simp,fun i hi=>by
    have e:((w.alloc o).alloc (.cells #[.int .i64 x,.int .i64 y] t)).heap[w.heap.size+1]?=some (.cells #[.int .i64 x,.int .i64 y] t):=heap_b2 w o _
    unfold World.cell?
    rw [show ((⟨w.heap.size+1,0+i,none⟩:Addr)).block=w.heap.size+1 from rfl,e]
    match i,hi with
    | 0,_=>rfl
    | 1,_=>rfl⟩⟩
theorem pointCheck {x y:Int} (hx:rng x) (hy:rng y) (w:World) :
  Calls Tryz.prog 65 #[.agg #[.int .i64 x,.int .i64 y]] w fun e w'=>e=.returned (.int .i64 (errF (pok x && pok y)))∧Below w.heap.size w w':=by
 have hr:=q_row2 w (.cells #[.int .i64 x,.int .i64 y] 33) x y 3
 have e2:=allFin2 x y
 go_enter Tryz.func65,Tryz.ntmps65
 go_wp2_with fail
 refine (q_checked _ _ _ _ _ hr (fun i _=>by show rng (if i=0 then x else y); split <;> assumption)).mono ?_
 rintro _ _ ⟨rfl,rfl⟩
 go_wp2
 go_ret
 exact ⟨b_ret_int (by rw [<- e2]),bel_alloc2 _ _ _⟩
def gaveX:Ending:=.panicked [{ v:=.iface 29 (.int .i64 14),recovered:=false }]
theorem xnought {b:Int} (hb:rng b) (w:World) :
  Calls Tryz.prog 266 #[.int .i64 b] w fun e w'=>e=.returned (.bool (decide (rg b=0)))∧w'=w:=by
 have ho:=nought_order hb
 generalize decide (rg b=0)=Z at *
 go_enter Tryz.func266,Tryz.ntmps266
 go_wp2_with (go_at_call 58; refine (bitsFloat _ _).mono ?_; rintro _ _ ⟨rfl,rfl⟩)
 go_ret
 exact ⟨b_ret_bool (by first | rfl | simp [ho]),rfl⟩
theorem xsure_yes (h l:Int) (w:World) :
  Calls Tryz.prog 267 #[.int .i64 h,.int .i64 l,.bool true] w fun e w'=>e=.returned (.tuple #[.int .i64 h,.int .i64 l])∧w'=w:=by
 go_enter Tryz.func267,Tryz.ntmps267
 go_wp2
 refine bodyPost_ret (v:=.tuple #[.int .i64 h,.int .i64 l]) (by simp [results,Tryz.results267,go_sem]) rfl ⟨rfl,rfl⟩
theorem xsure_no (h l:Int) (w:World) :
  Calls Tryz.prog 267 #[.int .i64 h,.int .i64 l,.bool false] w fun e w'=>e=gaveX∧w'=w:=by
 go_enter Tryz.func267,Tryz.ntmps267
 go_wp2
 exact ⟨rfl,rfl,rfl⟩
structure Own (B:Nat) (w:World) (v:Value) (w':World) (v':Value) (s:Ls):Prop where
 out:Out B w' v' s.n s.d
 gr:w.grownBy w' v.ownBlock
 at':v'.ownBlock=v.ownBlock∨∀ k,v'.ownBlock=some k->w.heap.size<=k
theorem Own.refl {B:Nat} {w:World} {v:Value} {s:Ls} (h:Out B w v s.n s.d):Own B w v w v s:=⟨h,World.grownBy.refl _ _,.inl rfl⟩
theorem Own.below {B:Nat} {w w':World} {v v':Value} {s:Ls} (h:Own B w v w' v' s) (hO:∀ k,v.ownBlock=some k->B<=k) (hB:B<=w.heap.size):Below B w w' :=
 (Below.refl B w).grown h.gr hB hO
theorem grown_past {w w1:World} {o:Obj} {k:Option Nat} (h:(w.alloc o).grownBy w1 k):w.grownBy w1 k:=by
 have ha:=bel_alloc w o
 exact ⟨h.os.trans ha.os,h.tape.trans ha.tape,h.output.trans ha.output,Nat.le_trans ha.size h.size,fun k hk hne=>(h.block k (Nat.lt_of_lt_of_le hk ha.size) hne).trans (ha.block k hk)⟩
theorem xadd_any {B:Nat} {v:Value} {s:Ls} {b:Int} (w:World) (h:Out B w v s.n s.d) (hb:rng b) (hn:s.n<=900000) (hB:B<=w.heap.size) :
    Calls Tryz.prog 268 #[v,.int .i64 b] w fun e w'=>∃ v',e=.returned v'∧Out B w' v' (s.add b).n (s.add b).d∧w.grownBy w' v.ownBlock:=by
  have hz:=fun W=>xnought hb W
  by_cases h0:rg b=0
  · have e:s.add b=s:=by unfold Ls.add; rw [if_pos h0]
    rw [decide_eq_true h0] at hz
    rw [e]
    go_enter Tryz.func268,Tryz.ntmps268
    go_wp2_with (go_at_call 266; refine (hz _).mono ?_; rintro _ _ ⟨rfl,rfl⟩)
    go_ret
    exact ⟨v,rfl,h,World.grownBy.refl _ _⟩
  · have e:s.add b=⟨s.n+1,upd s.d s.n b⟩:=by unfold Ls.add; rw [if_neg h0]
    rw [decide_eq_false h0] at hz
    rw [e]
    go_enter Tryz.func268,Tryz.ntmps268
    go_wp2_with (first
      | (go_at_call 266; refine (hz _).mono ?_; rintro _ _ ⟨rfl,rfl⟩)
      | (at_builtin; refine wpList_app rfl _ _ rfl B _ s.n s.d rfl (h.stays (bel_alloc _ _)) _ 1 1 (fun _=>b) rfl (row1 _ _ rfl) (by omega) (by simp; omega) ?_; intro v' w1 hO1 hg1))
    go_ret
    refine ⟨v',rfl,hO1.congr fun i hi=>?_,?_⟩
    · by_cases e:i<s.n
      · simp [cat,e,upd_other s.d _ (show i≠s.n by omega)]
      · obtain rfl:i=s.n:=by omega
        simp [cat,upd_same]
    · exact grown_past hg1
def InB (w:World) (g cap N:Nat) (s:Ls):Prop:=∃ cur,w.heap[g]?=some (.cells cur 3 (0,0))∧cur.size=cap∧∀ i,i<N->cur[i]?=some (.int .i64 (s.d i))
theorem InB.keeps {w w':World} {g cap N:Nat} {s:Ls} (h:InB w g cap N s) (hb:Below w.heap.size w w'):InB w' g cap N s:=by
 obtain ⟨cur,h1,h2⟩:=h
 exact ⟨cur,(hb.block _ (Array.getElem?_eq_some_iff.1 h1).1).trans h1,h2⟩
theorem InB.out {w:World} {B g cap N:Nat} {s:Ls} (h:InB w g cap N s) (hn:s.n<=N) (hN:N<=cap) (hB:B<=g) (hm:cap<=9223372036854775807):Out B w (.slice (some ⟨g,0,none⟩) s.n cap) s.n s.d:=by
 obtain ⟨cur,h1,h2,h3⟩:=h
 refine ⟨by rw [vals_length]; omega,.inr ⟨g,cap,cur,rfl,hB,h1,by omega,by unfold maxLen; omega,by omega,?_⟩⟩
 apply vals_ext (by simp; omega)
 intro i hi
 rw [List.getElem?_take,if_pos (by omega),Array.getElem?_toList]
 exact h3 i (by omega)
theorem Out.inB {B:Nat} {w:World} {g n cap:Nat} {d:Nat->Int} (h:Out B w (.slice (some ⟨g,0,none⟩) n cap) n d):InB w g cap n ⟨0,d⟩∧n<=cap∧cap<=9223372036854775807∧B<=g:=by
 rcases h.2 with ⟨e,_⟩ | ⟨g',cap',cur,e,hb,hg,hn,hm,hs,ht⟩
 ·simp at e
 ·simp only [Value.slice.injEq,Option.some.injEq,Addr.mk.injEq,and_true,true_and] at e
  obtain ⟨rfl,rfl⟩:=e
  refine ⟨⟨cur,hg,by omega,fun i hi=>?_⟩,hn,by unfold maxLen at hm; exact hm,hb⟩
  have e:(cur.toList.take (n*1))[i]?=(vals d n)[i]?:=by rw [ht]
  rw [List.getElem?_take,if_pos (by omega),vals_get d hi,Array.getElem?_toList] at e
  exact e
theorem wpList_appIn {w:World} {ops:Array Oper} {rest:List Oper} {o:Oper} {a:Act} {Q:Exit->Act->World->Prop} (hgd:o.guard=none) (s x:Operand)
    (ho:o.op=.call { callee:=.builtin .append,args:=#[s,x],argTypes:=#[38,38] }) (g m cap N:Nat) (r:Ls) (hs:a.eval s=.slice (some ⟨g,0,none⟩) m cap) (hI:InB w g cap N r) (hm:m<cap)
    (ad:Addr) (b:Int) (hx:a.eval x=.slice (some ad) 1 1) (hc:w.cell? ad=some (.int .i64 b))
    (h:∀ w',InB w' g cap N ⟨m+1,upd r.d m b⟩->w.grownBy w' (some g)->wpList Tryz.prog ops Q rest (a.put o.dst (.slice (some ⟨g,0,none⟩) (m+1) cap)) w'):wpList Tryz.prog ops Q (o :: rest) a w:=by
  obtain ⟨i0,hi,hz0,hz1,hz2⟩:=info_parts info_int
  obtain ⟨cur,hg,hs2,hr⟩:=hI
  refine wpList_plain hgd fun K hK'=>?_
  have hr2:=run_append_room (P:=Tryz.prog) w 38 o.type 3 i0 Tryz.underlying38 hi g m cap cur hg ad 1 1 [.int .i64 b] (by rw [hz1]; rfl) (by
    intro j u hu
    match j,hu with
    | 0,hu=>
      simp at hu
      subst hu
      rw [show ad.add 0=ad by unfold Addr.add; split <;> simp_all]
      exact hc) (by simp [Value.oneCell']) (by omega) (by rw [hz1]; simp; omega)
  unfold Oper.wp
  simp [execOp,ho,resolve,invoke,builtin,hs,hx,hr2,Result.andThen]
  refine hK' _ _ (h _ ?_ ?_)
  · refine ⟨_,setRow_heap w g cur _ _ _ hg,?_,fun i hi=>?_⟩
    · simp [hz1]; omega
    · rw [hz1]
      show (cur.toList.take (m*1) ++ Value.int .i64 b :: cur.toList.drop (m*1+1)).toArray[i]?=some (.int .i64 (upd r.d m b i))
      rw [Nat.mul_one]
      have hl:(cur.toList.take m).length=m:=by simp; omega
      rw [List.getElem?_toArray]
      by_cases e:i=m
      · subst e
        rw [upd_same,List.getElem?_append_right (by omega),hl]
        simp
      · rw [upd_other _ _ e,<- hr i hi]
        by_cases e2:i<m
        · rw [List.getElem?_append_left (by omega),List.getElem?_take,if_pos e2,Array.getElem?_toList]
        · rw [List.getElem?_append_right (by omega),hl]
          obtain ⟨j,hj⟩:∃ j,i-m=j+1:=⟨i-m-1,by omega⟩
          rw [hj,List.getElem?_cons_succ,List.getElem?_drop,Array.getElem?_toList]
          rw [show m+1+j=i by omega]
  · exact ⟨rfl,rfl,rfl,by simp,fun k _ hk=>setRow_other w g k _ (fun e=>hk (by simp [e]))⟩
theorem xadd_in {g cap N:Nat} {s:Ls} {b:Int} (w:World) (h:InB w g cap N s) (hb:rng b) (hn:s.n<cap) :
    Calls Tryz.prog 268 #[.slice (some ⟨g,0,none⟩) s.n cap,.int .i64 b] w fun e w'=>e=.returned (.slice (some ⟨g,0,none⟩) (s.add b).n cap)∧InB w' g cap N (s.add b)∧w.grownBy w' (some g):=by
  have hz:=fun W=>xnought hb W
  by_cases h0:rg b=0
  · have e:s.add b=s:=by unfold Ls.add; rw [if_pos h0]
    rw [decide_eq_true h0] at hz
    rw [e]
    go_enter Tryz.func268,Tryz.ntmps268
    go_wp2_with (go_at_call 266; refine (hz _).mono ?_; rintro _ _ ⟨rfl,rfl⟩)
    go_ret
    exact ⟨rfl,h,World.grownBy.refl _ _⟩
  · have e:s.add b=⟨s.n+1,upd s.d s.n b⟩:=by unfold Ls.add; rw [if_neg h0]
    rw [decide_eq_false h0] at hz
    rw [e]
    have hr:=fun W:World=>row1 W b rfl
    go_enter Tryz.func268,Tryz.ntmps268
    go_wp2_with (first
      | (go_at_call 266; refine (hz _).mono ?_; rintro _ _ ⟨rfl,rfl⟩)
      | (at_builtin; refine wpList_appIn rfl _ _ rfl g s.n cap N s rfl (h.keeps (bel_alloc _ _)) hn _ b rfl (by obtain ⟨bb,off,e1,_,hc⟩:=(hr _).spot (by omega); simp only [Option.some.injEq] at e1; have:=hc 0 (by omega); rw [Nat.add_zero] at this; rw [<- e1] at this; exact this) ?_; intro w1 hI1 hg1))
    go_ret
    refine ⟨rfl,hI1,?_⟩
    exact grown_past hg1
theorem xtwoSum {p q:Int} (hp:rng p) (hq:rng q) (pp:pok p=true) (pq:pok q=true) (w:World) :
  Calls Tryz.prog 262 #[.int .i64 p,.int .i64 q] w fun e w'=>e=.returned (.tuple #[.int .i64 (fsum p q),.int .i64 (sL p q),.bool (pok (sL p q))])∧Below w.heap.size w w':=by
 have:=twoSum_any hp hq w
 rw [told_ok pp hp,told_ok pq hq] at this
 exact this
theorem grown_bel {B:Nat} {w w':World} {g:Nat} (h:w.grownBy w' (some g)) (hB:B<=g) (hw:B<=w.heap.size):Below B w w' :=
 (Below.refl B w).grown h hw (fun k hk=>by simp at hk; omega)
theorem grown_bel2 {w w1 w2:World} {o:Option Nat} (h:w.grownBy w1 o) (k:Below w1.heap.size w1 w2):w.grownBy w2 o :=
 ⟨k.os.trans h.os,k.tape.trans h.tape,k.output.trans h.output,Nat.le_trans h.size k.size,fun j hj hne=>(k.block j (Nat.lt_of_lt_of_le hj h.size)).trans (h.block j hj hne)⟩
theorem xgr_trans {w w1 w2:World} {o:Option Nat} (h:w.grownBy w1 o) (k:w1.grownBy w2 o):w.grownBy w2 o :=
 ⟨k.os.trans h.os,k.tape.trans h.tape,k.output.trans h.output,Nat.le_trans h.size k.size,fun j hj hne=>(k.block j (Nat.lt_of_lt_of_le hj h.size) hne).trans (h.block j hj hne)⟩
theorem xgrow_some {B g n cap:Nat} {d:Nat->Int} {q:Int} (w:World) (h:Out B w (.slice (some ⟨g,0,none⟩) n cap) n d) (hd:∀ i,i<n->rng (d i)∧pok (d i)=true) (hq:rng q) (pq:pok q=true) (hn:n<=800000) (hB:B<=w.heap.size) :
  Calls Tryz.prog 264 #[.slice (some ⟨g,0,none⟩) n cap,.int .i64 q] w fun e w'=>(gx d q n=true∧∃ v',e=.returned v'∧Out B w' v' (grw n d q).n (grw n d q).d∧w.grownBy w' (some g))∨(gx d q n=false∧e=gaveX∧w.grownBy w' (some g)):=by
 obtain ⟨hI,hnc,hcm,hBg⟩:=h.inB
 have HQ:Hid (∀ k,k<=n->gx d q k=true->rng (gq d q k)∧pok (gq d q k)=true):=gq_fin hd hq pq
 have HDD:Hid (∀ i,i<n->rng (d i)∧pok (d i)=true):=hd
 have hgl:g<w.heap.size:=by obtain ⟨cur,h1,_⟩:=hI; exact (Array.getElem?_eq_some_iff.1 h1).1
 clear hd h hq pq
 go_enter Tryz.func264,Tryz.ntmps264
 go_wp2_with fail
 go_loopw [1,5,13] (fun qv gv iv wr=>∃ k:Nat,k<=n∧iv=.int .i64 k∧qv=.int .i64 (gq d q k)∧gv=.slice (some ⟨g,0,none⟩) (gs d q k).n cap∧Hid (gx d q k=true)∧Hid (InB wr g cap n (gs d q k))∧Hid (w.grownBy wr (some g))) (fun _ _ iv _=>n-(intOf iv).toNat)
 case atStart=>exact ⟨0,Nat.zero_le _,rfl,rfl,rfl,rfl,hI,World.grownBy.refl _ _⟩
 case round=>
  obtain ⟨k,hk,rfl,rfl,rfl,HX,HI,HG⟩:=hrel
  clear hI
  have hsn:=gs_le d q k
  by_cases hlt:k<n
  ·obtain ⟨r1,r2⟩:=HQ.out k hk HX.out
   obtain ⟨d1,d2⟩:=HDD.out k hlt
   have c0:wr.cell? ⟨g,k,none⟩=some (.int .i64 (d k)):=by
    obtain ⟨cur,h1,h2,h3⟩:=HI.out
    rw [cell_of_row wr g k cur _ _ h1,h3 k hlt,gs_tail d q k k (Nat.le_refl _)]
   have CT:Hid (∀ W,Calls Tryz.prog 262 #[.int .i64 (gq d q k),.int .i64 (d k)] W fun e w'=>e=.returned (.tuple #[.int .i64 (gq d q (k+1)),.int .i64 (gl d q k),.bool (pok (gl d q k))])∧Below W.heap.size W w'):=fun W=>xtwoSum r1 d1 r2 d2 W
   have rl:rng (gl d q k):=sL_rng r1 d1
   have i0:(0:Int)<=(k:Int):=by omega
   have i1:(k:Int)<(n:Int):=by omega
   have HS:Hid (gs d q (k+1)=(gs d q k).add (gl d q k)):=rfl
   have HXS:Hid (gx d q (k+1)=(gx d q k && pok (gl d q k))):=rfl
   have HNO:Hid (pok (gl d q k)=false->gx d q n=false):=fun hno=>by
    cases hx:gx d q n
    ·rfl
    ·have:=gx_mono (show k+1<=n by omega) hx
     rw [HXS.out,hno,Bool.and_false] at this
     cases this
   obtain ⟨q',hq'⟩:∃ q',gq d q (k+1)=q':=⟨_,rfl⟩
   rw [hq'] at CT
   have HQ':Hid (gq d q (k+1)=q'):=hq'
   clear hq'
   generalize gl d q k=l at *
   generalize gq d q k=q0 at *
   generalize hd0:d k=dk at *
   have HD0:Hid (d k=dk):=hd0
   clear hd0 r1 r2 d1 d2
   have CA:=fun W h=>xadd_in (g:=g) (cap:=cap) (N:=n) (s:=gs d q k) (b:=l) W h rl (by omega)
   generalize hs0:gs d q k=s0 at *
   have HS0:Hid (gs d q k=s0):=hs0
   clear hs0
   cases hl:pok l
   ·rw [hl] at CT
    go_wp2_with fail
    refine (CT.out _).mono ?_
    rintro _ w1 ⟨rfl,hb1⟩
    go_wp2_with fail
    refine (xsure_no _ _ _).mono ?_
    rintro _ _ ⟨rfl,rfl⟩
    unfold gaveX
    go_wp2
    exact ⟨rfl,.inr ⟨HNO.out hl,rfl,grown_bel2 HG.out hb1⟩⟩
   ·rw [hl] at CT
    go_wp2_with fail
    refine (CT.out _).mono ?_
    rintro _ w1 ⟨rfl,hb1⟩
    go_wp2_with fail
    refine (xsure_yes _ _ _).mono ?_
    rintro _ _ ⟨rfl,rfl⟩
    rename_i w1
    go_wp2_with fail
    refine (CA _ (HI.out.keeps hb1)).mono ?_
    rintro _ w2 ⟨rfl,hI2,hg2⟩
    go_wp2
    go_roundw
    case rel=>exact ⟨k+1,by omega,by go_num,by rw [HQ'.out],by rw [HS.out],by show _=_; rw [HXS.out,HX.out,hl]; rfl,by show InB _ _ _ _ _; rw [HS.out]; exact hI2,xgr_trans (grown_bel2 HG.out hb1) hg2⟩
    case measure=>simp [intOf]; omega
  ·obtain rfl:k=n:=by omega
   have hO:=HI.out.out (B:=B) hsn hnc hBg hcm
   have hwr:B<=wr.heap.size:=Nat.le_trans hB HG.out.size
   have HQ2:Hid (rng (gq d q k)∧pok (gq d q k)=true):=HQ.out k hk HX.out
   have CA:Hid (∀ W,W=wr->Calls Tryz.prog 268 #[.slice (some ⟨g,0,none⟩) (gs d q k).n cap,.int .i64 (gq d q k)] W fun e w'=>∃ v',e=.returned v'∧Out B w' v' (grw k d q).n (grw k d q).d∧W.grownBy w' (some g)):=fun W hW=>by
    subst hW
    exact xadd_any W hO HQ2.out.1 (by omega) hwr
   generalize gq d q k=q0 at *
   generalize gs d q k=s0 at *
   clear hO
   go_wp2_with fail
   refine (CA.out _ rfl).mono ?_
   rintro _ w2 ⟨v',rfl,hO2,hg2⟩
   go_wp2
   go_ret
   exact .inl ⟨HX.out,v',rfl,hO2,xgr_trans HG.out hg2⟩
theorem xgrow_any {B n:Nat} {v:Value} {d:Nat->Int} {q:Int} (w:World) (h:Out B w v n d) (hd:∀ i,i<n->rng (d i)∧pok (d i)=true) (hq:rng q) (pq:pok q=true) (hn:n<=800000) (hB:B<=w.heap.size) :
  Calls Tryz.prog 264 #[v,.int .i64 q] w fun e w'=>(gx d q n=true∧∃ v',e=.returned v'∧Out B w' v' (grw n d q).n (grw n d q).d∧w.grownBy w' v.ownBlock)∨(gx d q n=false∧e=gaveX∧w.grownBy w' v.ownBlock):=by
 rcases id h.2 with ⟨rfl,rfl⟩ | ⟨g,cap,cur,rfl,_⟩
 ·have CA:Hid (∀ W,W=w->Calls Tryz.prog 268 #[.slice none 0 0,.int .i64 q] W fun e w'=>∃ v',e=.returned v'∧Out B w' v' (grw 0 d q).n (grw 0 d q).d∧W.grownBy w' none):=fun W hW=>by
   subst hW
   exact xadd_any (s:=⟨0,d⟩) W h hq (Nat.zero_le _) hB
  clear h hd hq pq
  go_enter Tryz.func264,Tryz.ntmps264
  go_wp2_with fail
  go_loopw [1,5,13] (fun qv gv iv wr=>iv=.int .i64 0∧qv=.int .i64 q∧gv=.slice none 0 0∧wr=w) (fun _ _ iv _=>0)
  case atStart=>exact ⟨rfl,rfl,rfl,rfl⟩
  case round=>
   obtain ⟨rfl,rfl,rfl,rfl⟩:=hrel
   go_wp2_with fail
   refine (CA.out _ rfl).mono ?_
   rintro _ w2 ⟨v',rfl,hO2,hg2⟩
   go_wp2
   go_ret
   exact .inl ⟨rfl,v',rfl,hO2,hg2⟩
 ·exact xgrow_some w h hd hq pq hn hB
end Go.Proofs.YtjjihmnbdeeedaaGreatDoor
