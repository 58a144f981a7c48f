/- Parts of the proof. -/
import Derived.Test.YteglfnnbpilheaaGreatDoorPart7
set_option linter.unusedVariables false
set_option linter.unusedSimpArgs false
namespace Go.Proofs.YteglfnnbpilheaaGreatDoor
open Go Go.RowKit Go.Proofs.YteglfnnbpilheaaGreatDoor.M Ieee
def iV (p:Int):Int:=sg (decide (p < 0)) (V Ieee.double (rg p).toNat:Int)
theorem patV_iV {p:Int} (hp:rng p) (h:pok p=true):patV p=iV p * pw (-1074):=by
  rw [patV_dec hp h]; unfold iV vS; rw [sg_prod]
theorem nat_two (n k:Nat):((n * 2 ^ k:Nat):Int)=2 ^ k * (n:Int):=by rw [Int.natCast_mul,Int.mul_comm]; simp
theorem k_ne {S q:Int} (hq:0 < q) (h:S ≠ 0):S * q ≠ 0:=fun c=>by
  rcases Int.mul_eq_zero.1 c with d | d <;> omega
theorem k_neg {S q:Int} (hq:0 < q):decide (S * q < 0)=decide (S < 0):=by
  congr 1
  exact propext (lt_zero_iff hq).symm
theorem k_abs {S q A:Int} (hq:0 < q) (h:S * q=sg (decide (S < 0)) A):A=(S.natAbs:Int) * q:=by
  have:=natAbs_sg (t:=S) hq
  rw [this] at h
  exact (sg_inj h).symm
theorem k_back {S h:Int} (n:Nr (S.natAbs:Int) h):Nr S (sg (decide (S < 0)) h):=by
  by_cases c:S < 0
  . rw [decide_eq_true c]
    have n2:=n.neg
    have e:-(S.natAbs:Int)=S:=by omega
    rw [e] at n2
    exact n2
  . rw [decide_eq_false c]
    have e:(S.natAbs:Int)=S:=by omega
    rw [e] at n
    exact n
theorem fl_V (r:Nat):Fl (V Ieee.double r:Int):=by
  unfold V
  rw [dBin]
  by_cases h:r < 4503599627370496
  . rw [if_pos h]
    exact ⟨0,⟨r,by simp⟩,by simp; omega⟩
  . rw [if_neg h]
    have hm:=Nat.mod_lt r (show 0 < 4503599627370496 by decide)
    obtain ⟨n,hn⟩:∃ n,4503599627370496 + r % 4503599627370496=n:=⟨_,rfl⟩
    rw [hn]
    refine ⟨r / 4503599627370496 - 1,⟨n,nat_two _ _⟩,?_⟩
    rw [Int.natAbs_natCast,nat_two,Int.mul_comm]
    exact Int.mul_lt_mul_of_pos_right (by omega) (p2 _)
theorem V_fl {f:Int} (h:Fl f):∃ r:Nat,(f.natAbs:Int)=(V Ieee.double r:Int):=by
  obtain ⟨k,b,c⟩:=binade (f.natAbs:Int) (by omega)
  rcases Nat.eq_zero_or_pos k with g | g
  . subst g
    have:=V_parts Ieee.double 0 f.natAbs (.inl ⟨rfl,by rw [dBin]; simp at b; omega⟩)
    exact ⟨_,by rw [this]; simp⟩
  . have c2:4503599627370496 * 2 ^ k <= (f.natAbs:Int):=by
      rcases c with c | c
      . omega
      . exact c
    obtain ⟨t,ht⟩:=fl_units h c2
    have e:(f.natAbs:Int)=2 ^ k * (t.natAbs:Int):=by rw [ht,natAbs_p2]
    rw [e] at b c2
    have hk:=p2 k
    have b2:(t.natAbs:Int) < 9007199254740992:=Int.lt_of_mul_lt_mul_left (by rw [Int.mul_comm (2 ^ k) 9007199254740992]; exact b) (Int.le_of_lt hk)
    have c3:4503599627370496 <= (t.natAbs:Int):=Int.le_of_mul_le_mul_left (by rw [Int.mul_comm (2 ^ k) 4503599627370496]; exact c2) hk
    have:=V_parts Ieee.double k t.natAbs (.inr ⟨by rw [dBin]; omega,by rw [dBin]; omega⟩)
    exact ⟨_,by rw [this,e]; push_cast; rw [Int.mul_comm]⟩
theorem V_le {r s:Nat} (h:r <= s):(V Ieee.double r:Int) <= V Ieee.double s:=by
  rcases Nat.lt_or_eq_of_le h with g | g
  . have:=V_lt Ieee.double g; omega
  . rw [g]; omega
theorem nr_V {S:Int} {ng:Bool} {r0:Nat} {left:Int} (h0:0 <= S) (hR:Rung (S * pw (-1074)) r0 left) (hf:rTo 0 ng r0 left < 9218868437227405312):Nr S (V Ieee.double (rTo 0 ng r0 left).toNat:Int):=by
  obtain ⟨lo,hi,l0,l1,l2,l3⟩:=hR
  have hq:=pw_pos (-1074)
  unfold vS at *
  generalize pw (-1074)=q at *
  have g1:(V Ieee.double r0:Int) <= S:=Int.le_of_mul_le_mul_right lo hq
  have g2:S < (V Ieee.double (r0 + 1):Int):=Int.lt_of_mul_lt_mul_right hi (Int.le_of_lt hq)
  have g3:left=2->2 * S=(V Ieee.double r0:Int) + V Ieee.double (r0 + 1):=fun c=>by
    have:=l2.1 c
    rw [<- Int.add_mul,<- Int.mul_assoc] at this
    exact Int.eq_of_mul_eq_mul_right (by omega) this
  have g4:left=3->(V Ieee.double r0:Int) + V Ieee.double (r0 + 1) < 2 * S:=fun c=>by
    have:=l3.1 c
    rw [<- Int.add_mul,<- Int.mul_assoc] at this
    exact Int.lt_of_mul_lt_mul_right this (Int.le_of_lt hq)
  have g5:left ≠ 3->2 * S <= (V Ieee.double r0:Int) + V Ieee.double (r0 + 1):=fun c=>by
    rcases Int.lt_or_le ((V Ieee.double r0:Int) + V Ieee.double (r0 + 1)) (2 * S) with d | d
    . have:=Int.mul_lt_mul_of_pos_right d hq
      rw [Int.add_mul,Int.mul_assoc] at this
      exact absurd (l3.2 this) c
    . exact d
  clear l0 l1 l2 l3 lo hi
  have far:∀ f:Int,Fl f->f <= V Ieee.double r0∨V Ieee.double (r0 + 1) <= f:=by
    intro f hf
    obtain ⟨s,hs⟩:=V_fl hf
    rcases Nat.lt_or_ge r0 s with c | c
    . have:=V_le (show r0 + 1 <= s from c)
      have:=V_le (show 0 <= r0 by omega)
      omega
    . have:=V_le c
      omega
  unfold rTo at hf ⊢
  by_cases hr:(r0:Int) < 9218868437227405312
  . rw [if_pos hr] at hf ⊢
    cases hu:rUp 0 ng (decide (r0 % 2=1)) left
    . rw [if_neg (by decide)]
      have e:((r0:Int) + 0).toNat=r0:=by omega
      rw [e]
      have hl:left ≠ 3:=fun c=>by
        subst c
        unfold rUp at hu
        simp at hu
      refine ⟨fl_V r0,fun f hf=>?_⟩
      have:=far f hf
      have:=g5 hl
      omega
    . rw [if_pos rfl]
      have e:((r0:Int) + 1).toNat=r0 + 1:=by omega
      rw [e]
      have hl:left=3∨left=2:=by
        unfold rUp at hu
        simp at hu
        rcases hu with c | c
        . exact .inl c
        . exact .inr c.1
      refine ⟨fl_V (r0 + 1),fun f hf=>?_⟩
      have:=far f hf
      rcases hl with c | c
      . have:=g4 c; omega
      . have:=g3 c; omega
  . rw [if_neg hr] at hf
    unfold bRung rUp at hf
    simp at hf
def maxV:Int:=(V Ieee.double 9218868437227405311:Int)
theorem fin_V {S:Int} {ng:Bool} {r0:Nat} {left:Int} (h0:S <= maxV) (hR:Rung (S * pw (-1074)) r0 left):rTo 0 ng r0 left < 9218868437227405312:=by
  obtain ⟨lo,hi,l0,l1,l2,l3⟩:=hR
  have hq:=pw_pos (-1074)
  unfold vS at *
  generalize pw (-1074)=q at *
  have g1:(V Ieee.double r0:Int) <= S:=Int.le_of_mul_le_mul_right lo hq
  have hr:r0 <= 9218868437227405311:=by
    rcases Nat.lt_or_ge 9218868437227405311 r0 with c | c
    . have:=V_lt Ieee.double c
      unfold maxV at h0
      omega
    . exact c
  unfold rTo
  rw [if_pos (by omega)]
  by_cases c:r0=9218868437227405311
  . have e:S=(V Ieee.double r0:Int):=by rw [c] at g1 ⊢; unfold maxV at h0; omega
    have:left=0:=l0.2 (by rw [e])
    subst this
    rw [if_neg (fun c=>rUp_left c)]
    omega
  . split <;> omega
theorem patS_parts {ng:Bool} {r:Int} (h0:0 <= r) (h1:r <= 9218868437227405312):rng (patS ng r)∧rg (patS ng r)=r∧decide (patS ng r < 0)=ng:=by
  unfold patS rng rg
  cases ng
  . simp only [Bool.false_eq_true,if_false]
    rw [if_neg (by omega)]
    exact ⟨by omega,rfl,decide_eq_false (by omega)⟩
  . simp only [if_true]
    rw [if_pos (by omega)]
    exact ⟨by omega,by omega,decide_eq_true (by omega)⟩
theorem patS_fin {ng:Bool} {r:Int} (h0:0 <= r) (h1:r <= 9218868437227405312):pok (patS ng r)=decide (r < 9218868437227405312):=by
  obtain ⟨a,b,_⟩:=patS_parts (ng:=ng) h0 h1
  have:=pok_rg a
  rw [b] at this
  cases h:pok (patS ng r)
  . refine (decide_eq_false fun c=>?_).symm
    rw [this.2 c] at h; cases h
  . exact (decide_eq_true (this.1 h)).symm
theorem iV_patS {ng:Bool} {r:Int} (h0:0 <= r) (h1:r <= 9218868437227405312):iV (patS ng r)=sg ng (V Ieee.double r.toNat:Int):=by
  obtain ⟨_,b,c⟩:=patS_parts (ng:=ng) h0 h1
  unfold iV
  rw [b,c]
theorem nr_zero:Nr 0 0:=⟨fl_zero,fun f _=>by omega⟩
theorem near_iV {S:Int} (h:S ≠ 0):rng (nearP (S * pw (-1074)))∧(pok (nearP (S * pw (-1074)))=true->Nr S (iV (nearP (S * pw (-1074)))))∧((S.natAbs:Int) <= maxV->pok (nearP (S * pw (-1074)))=true):=by
  have hq:=pw_pos (-1074)
  obtain ⟨A,r0,left,e1,hR,e2⟩:=nearP_rung (k_ne hq h)
  rw [k_neg hq] at e1 e2
  have hA:=k_abs hq e1
  rw [hA] at hR
  have hrr:=rTo_range 0 (decide (S < 0)) r0 left
  rw [e2]
  refine ⟨(patS_parts hrr.1 hrr.2).1,fun hp=>?_,fun hb=>?_⟩
  . rw [patS_fin hrr.1 hrr.2] at hp
    have n:=nr_V (ng:=decide (S < 0)) (Int.natCast_nonneg _) hR (of_decide_eq_true hp)
    rw [iV_patS hrr.1 hrr.2]
    exact k_back n
  . rw [patS_fin hrr.1 hrr.2]
    exact decide_eq_true (fin_V hb hR)
theorem nan_rng:rng 9221120237041090561:=by unfold rng; decide
theorem nan_no:pok 9221120237041090561=false:=by decide
theorem pok_of {p:Int} (hp:rng p) (h4:¬ cls p=4) (hi:¬ rg p=9218868437227405312):pok p=true:=by
  have:=(cls_rg hp).1
  rw [pok_rg hp]
  have:¬ 9218868437227405312 < rg p:=fun c=>h4 (this.2 c)
  omega
theorem inf_no {p:Int} (hp:rng p) (hi:rg p=9218868437227405312):¬ pok p=true:=fun h=>by
  have:=(pok_rg hp).1 h
  omega
theorem fin_cls {p:Int} (hp:rng p) (h:pok p=true):¬ cls p=4∧¬ rg p=9218868437227405312:=by
  have h1:=(pok_rg hp).1 h
  exact ⟨fun c=>by have:=(cls_rg hp).1.1 c; omega,by omega⟩
theorem fsum_args {p q:Int} (hp:rng p) (hq:rng q) (h:pok (fsum p q)=true):pok p=true∧pok q=true:=by
  unfold fsum at h
  by_cases c4:cls p=4∨cls q=4
  . rw [if_pos c4,nan_no] at h; cases h
  rw [if_neg c4] at h
  by_cases ci:rg p=9218868437227405312
  . rw [if_pos ci] at h
    by_cases cj:rg q=9218868437227405312∧decide (p < 0) ≠ decide (q < 0)
    . rw [if_pos cj,nan_no] at h; cases h
    . rw [if_neg cj] at h; exact absurd h (inf_no hp ci)
  rw [if_neg ci] at h
  by_cases cj:rg q=9218868437227405312
  . rw [if_pos cj] at h; exact absurd h (inf_no hq cj)
  exact ⟨pok_of hp (fun c=>c4 (.inl c)) ci,pok_of hq (fun c=>c4 (.inr c)) cj⟩
theorem zero_facts (g:Bool):rng (patS g 0)∧pok (patS g 0)=true∧iV (patS g 0)=0:=by
  refine ⟨(patS_parts (by decide) (by decide)).1,?_,?_⟩
  . rw [patS_fin (by decide) (by decide)]; decide
  . rw [iV_patS (by decide) (by decide)]
    show sg g (V Ieee.double 0:Int)=0
    rw [V_zero]
    exact sg_zero g
structure EStp (S p:Int):Prop where
  rn:rng p
  nr:pok p=true->Nr S (iV p)
  fin:(S.natAbs:Int) <= maxV->pok p=true
theorem stp_zero (g:Bool):EStp 0 (patS g 0):=by
  obtain ⟨a,b,c⟩:=zero_facts g
  exact ⟨a,fun _=>by rw [c]; exact nr_zero,fun _=>b⟩
theorem stp_near {S:Int} (h:S ≠ 0):EStp S (nearP (S * pw (-1074))):=by
  obtain ⟨a,b,c⟩:=near_iV h
  exact ⟨a,b,c⟩
theorem k_zero0 {T w:Int} (hw:0 < w) (d:T * w=0):T=0:=by
  rcases Int.mul_eq_zero.1 d with g | g <;> omega
theorem stp_sum {p q:Int} (hp:rng p) (hq:rng q) (pp:pok p=true) (pq:pok q=true):EStp (iV p + iV q) (fsum p q):=by
  obtain ⟨a1,a2⟩:=fin_cls hp pp
  obtain ⟨b1,b2⟩:=fin_cls hq pq
  have e:fsum p q=if iV p + iV q=0 then patS (decide (p < 0) && decide (q < 0)) 0 else nearP ((iV p + iV q) * pw (-1074)):=by
    unfold fsum
    rw [if_neg (fun c=>c.elim a1 b1),if_neg a2,if_neg b2,patV_iV hp pp,patV_iV hq pq,<- Int.add_mul]
    have hq:=pw_pos (-1074)
    by_cases c:iV p + iV q=0
    . rw [if_pos c,if_pos (by rw [c,Int.zero_mul])]
    . rw [if_neg c,if_neg (fun d=>c (k_zero0 hq d))]
  rw [e]
  by_cases c:iV p + iV q=0
  . rw [if_pos c,c]; exact stp_zero _
  . rw [if_neg c]; exact stp_near c
theorem neg_facts {q:Int} (hq:rng q) (h:pok q=true):rng (neg q)∧pok (neg q)=true∧iV (neg q)=-iV q:=by
  obtain ⟨b1,b2⟩:=fin_cls hq h
  have h1:=(pok_rg hq).1 h
  have e:neg q=patS (!decide (q < 0)) (rg q):=by
    unfold neg patS rg
    rw [if_neg b1]
    by_cases c:q < 0
    . rw [if_pos c,if_pos c,decide_eq_true c]; rfl
    . rw [if_neg c,if_neg c,decide_eq_false c]; rfl
  have h0:0 <= rg q:=by unfold rg; unfold rng at hq; split <;> omega
  obtain ⟨c1,c2,c3⟩:=patS_parts (ng:=!decide (q < 0)) h0 (by omega)
  refine ⟨by rw [e]; exact c1,by rw [e,patS_fin h0 (by omega)]; exact decide_eq_true h1,?_⟩
  rw [e,iV_patS h0 (by omega)]
  unfold iV
  rw [sg_not]
theorem neg_arg {q:Int} (hq:rng q) (h:pok (neg q)=true):pok q=true:=by
  unfold neg at h
  by_cases c:cls q=4
  . rw [if_pos c,nan_no] at h; cases h
  . by_cases ci:rg q=9218868437227405312
    . exfalso
      rw [if_neg c] at h
      have hr:rng (if q < 0 then q + 9223372036854775808 else q - 9223372036854775808):=by unfold rng at *; split <;> omega
      have:=(pok_rg hr).1 h
      unfold rg at this ci
      split at this <;> split at ci <;> split at this <;> omega
    . exact pok_of hq c ci
theorem neg_rng {q:Int} (hq:rng q):rng (neg q):=by
  unfold neg rng at *
  split
  . omega
  . split <;> omega
theorem stp_diff {p q:Int} (hp:rng p) (hq:rng q) (pp:pok p=true) (pq:pok q=true):EStp (iV p - iV q) (fsum p (neg q)):=by
  obtain ⟨a,b,c⟩:=neg_facts hq pq
  have:=stp_sum hp a pp b
  rw [c] at this
  exact this
theorem fdiff_args {p q:Int} (hp:rng p) (hq:rng q) (h:pok (fsum p (neg q))=true):pok p=true∧pok q=true:=by
  obtain ⟨a,b⟩:=fsum_args hp (neg_rng hq) h
  exact ⟨a,neg_arg hq b⟩
theorem fsum_rng {p q:Int} (hp:rng p) (hq:rng q):rng (fsum p q):=by
  by_cases h:pok p=true∧pok q=true
  . exact (stp_sum hp hq h.1 h.2).rn
  . unfold fsum
    by_cases c4:cls p=4∨cls q=4
    . rw [if_pos c4]; exact nan_rng
    rw [if_neg c4]
    by_cases ci:rg p=9218868437227405312
    . rw [if_pos ci]; split
      . exact nan_rng
      . exact hp
    rw [if_neg ci]
    by_cases cj:rg q=9218868437227405312
    . rw [if_pos cj]; exact hq
    exact absurd ⟨pok_of hp (fun c=>c4 (.inl c)) ci,pok_of hq (fun c=>c4 (.inr c)) cj⟩ h
def sV (p q:Int):Int:=fsum (fsum p q) (neg p)
def sL (p q:Int):Int:=fsum (fsum p (neg (fsum (fsum p q) (neg (sV p q))))) (fsum q (neg (sV p q)))
def fL (p q:Int):Int:=fsum q (neg (fsum (fsum p q) (neg p)))
def cC (p:Int):Int:=fprod 4728779608772575232 p
def spH (p:Int):Int:=fsum (cC p) (neg (fsum (cC p) (neg p)))
def spL (p:Int):Int:=fsum p (neg (spH p))
def pT1 (a b:Int):Int:=fsum (fprod a b) (neg (fprod (spH a) (spH b)))
def pT2 (a b:Int):Int:=fsum (pT1 a b) (neg (fprod (spL a) (spH b)))
def pT3 (a b:Int):Int:=fsum (pT2 a b) (neg (fprod (spH a) (spL b)))
def prL (a b:Int):Int:=fsum (fprod (spL a) (spL b)) (neg (pT3 a b))
end Go.Proofs.YteglfnnbpilheaaGreatDoor
/-
  Mathematics of whole numbers: a float's whole units,ints as floats,the order of floats in the model.
-/
namespace Go.Proofs.YteglfnnbpilheaaGreatDoor.M
open Go Ieee
theorem left_u {A q:Int} {u v:Nat} {l k:Int} (h:Left A u q l) (g:Left A v q k):¬ u < v:=fun c=>by
  have h1:=h.hi
  have h2:=g.lo
  have hq:0 < q:=by have:=h.lo; omega
  have h3:((u:Int) + 1) * q <= (v:Int) * q:=Int.mul_le_mul_of_nonneg_right (by omega) (by omega)
  rw [Int.add_mul,Int.one_mul] at h3
  omega
theorem Left.unique {A q:Int} {u v:Nat} {l k:Int} (h:Left A u q l) (g:Left A v q k):u=v∧l=k:=by
  have e:u=v:=by
    have h1:=left_u h g
    have h2:=left_u g h
    omega
  subst e
  refine ⟨rfl,?_⟩
  have lo:=h.lo
  have hi:=h.hi
  obtain ⟨T,hT⟩:∃ T,(u:Int) * q=T:=⟨_,rfl⟩
  rw [hT] at lo hi
  have a0:=h.l0
  have a1:=h.l1
  have a2:=h.l2
  have a3:=h.l3
  have b0:=g.l0
  have b1:=g.l1
  have b2:=g.l2
  have b3:=g.l3
  rw [hT] at a0 a1 a2 a3 b0 b1 b2 b3
  by_cases c0:A=T
  . rw [a0.2 c0,b0.2 c0]
  . by_cases c1:2 * A < 2 * T + q
    . rw [a1.2 ⟨by omega,c1⟩,b1.2 ⟨by omega,c1⟩]
    . by_cases c2:2 * A=2 * T + q
      . rw [a2.2 c2,b2.2 c2]
      . rw [a3.2 (by omega),b3.2 (by omega)]
end Go.Proofs.YteglfnnbpilheaaGreatDoor.M
namespace Go.Proofs.YteglfnnbpilheaaGreatDoor
open Go Go.RowKit Go.Proofs.YteglfnnbpilheaaGreatDoor.M Ieee
end Go.Proofs.YteglfnnbpilheaaGreatDoor
namespace Go.Proofs.YteglfnnbpilheaaGreatDoor
open Go Go.RowKit Go.Proofs.YteglfnnbpilheaaGreatDoor.M Ieee
theorem FW.rng {p:Int} {x:Nat} (h:FW p x):M.rng p:=by
  rcases h with ⟨_,h,_⟩ | ⟨rfl,_⟩
  . exact h
  . exact nan_rng
theorem fl_iV (p:Int):Fl (iV p):=by
  unfold iV
  cases decide (p < 0)
  . exact fl_V _
  . exact (fl_V _).neg
theorem iV_abs (p:Int):((iV p).natAbs:Int)=(V Ieee.double (rg p).toNat:Int):=by
  unfold iV sg
  cases decide (p < 0)
  . simp
  . simp
theorem sL_exact {p q:Int} (hp:rng p) (hq:rng q) (h:pok (sL p q)=true):(pok p=true∧pok q=true)∧pok (fsum p q)=true∧iV (fsum p q) + iV (sL p q)=iV p + iV q:=by
  have rh:=fsum_rng hp hq
  have rv:rng (sV p q):=fsum_rng rh (neg_rng hp)
  have rU:=fsum_rng rh (neg_rng rv)
  have rX:=fsum_rng hp (neg_rng rU)
  have rY:=fsum_rng hq (neg_rng rv)
  obtain ⟨pX,pY⟩:=fsum_args rX rY h
  obtain ⟨pp,pU⟩:=fdiff_args hp rU pX
  obtain ⟨pq,pv⟩:=fdiff_args hq rv pY
  obtain ⟨ph,_⟩:=fdiff_args rh hp pv
  have e:=two_sum (fl_iV p) (fl_iV q) ((stp_sum hp hq pp pq).nr ph) ((stp_diff rh hp ph pp).nr pv) ((stp_diff rh rv ph pv).nr pU) ((stp_diff hp rU pp pU).nr pX) ((stp_diff hq rv pq pv).nr pY) ((stp_sum rX rY pX pY).nr h)
  exact ⟨⟨pp,pq⟩,ph,by unfold sL; omega⟩
def fX (p q:Int):Bool:=pok (fL p q) && (!decide ((iV p).natAbs < (iV q).natAbs) || decide (iV (fL p q)=iV (fL q p)))
end Go.Proofs.YteglfnnbpilheaaGreatDoor
/-
  Package eft: math.Abs,FastTwoSum,reachable,TwoProd,by their contracts.
-/
namespace Go.Proofs.YteglfnnbpilheaaGreatDoor
open Go Go.RowKit Go.Proofs.YteglfnnbpilheaaGreatDoor.M Ieee
theorem FW.fin {p:Int} {x:Nat} (h:FW p x) (g:pok p=true):x=wd p:=by
  rcases h with ⟨_,_,h⟩ | ⟨rfl,_⟩
  . exact h
  . rw [nan_no] at g; cases g
end Go.Proofs.YteglfnnbpilheaaGreatDoor
namespace Go.Proofs.YteglfnnbpilheaaGreatDoor
open Go Go.RowKit Go.Proofs.YteglfnnbpilheaaGreatDoor.M Ieee
def reach (a b:Int):Bool:=decide (pmag a=0) || decide (pmag b=0) || decide (-1074 <= pexp a + jz (pmag a) + pexp b + jz (pmag b))
end Go.Proofs.YteglfnnbpilheaaGreatDoor
namespace Go.Proofs.YteglfnnbpilheaaGreatDoor
open Go Go.RowKit Go.Proofs.YteglfnnbpilheaaGreatDoor.M Ieee
def pX (p q:Int):Bool:=pok (prL p q) && reach p q
theorem iV_form {p:Int} (hp:rng p) (h:pok p=true):((iV p).natAbs:Int)=pmag p * 2 ^ (pexp p + 1074).toNat:=by
  have h0:=(pmag_in h).1
  rw [iV_abs,V_rg hp h,nat_two,Int.toNat_of_nonneg h0,Int.mul_comm]
end Go.Proofs.YteglfnnbpilheaaGreatDoor
namespace Go.Proofs.YteglfnnbpilheaaGreatDoor
open Go Go.RowKit Go.Proofs.YteglfnnbpilheaaGreatDoor.M
end Go.Proofs.YteglfnnbpilheaaGreatDoor
namespace Go.Proofs.YteglfnnbpilheaaGreatDoor
open Go Go.RowKit Go.Proofs.YteglfnnbpilheaaGreatDoor.M Ieee
end Go.Proofs.YteglfnnbpilheaaGreatDoor
namespace Go.Proofs.YteglfnnbpilheaaGreatDoor
open Go Go.RowKit Go.Proofs.YteglfnnbpilheaaGreatDoor.M
end Go.Proofs.YteglfnnbpilheaaGreatDoor
namespace Go.Proofs.YteglfnnbpilheaaGreatDoor.M
open Go Ieee
theorem q_rg {b:Int} (h:rng b):rng (rg b)∧0 <= rg b:=by unfold rng rg at *; split <;> omega
theorem q_cls {b:Int} (h:rng b):cls (rg b)=cls b:=by
  unfold rng at h; unfold cls rg fld frc
  by_cases h0:b < 0
  . rw [if_pos h0,show (b + 9223372036854775808) / 4503599627370496 % 2048=b / 4503599627370496 % 2048 from by omega,show (b + 9223372036854775808) % 4503599627370496=b % 4503599627370496 from by omega]
  . rw [if_neg h0]
theorem q_wd {b:Int} (h:rng b):wd b % 9223372036854775808=wd (rg b):=by unfold rng rg wd at *; split <;> omega
theorem q_wdlt (b:Int):wd b < 18446744073709551616:=by unfold wd; omega
theorem q_abs {b:Int} (h:rng b):(bits .andNot .u64 (wd b) 9223372036854775808).toNat=wd (rg b):=by
  have e:=q_wd h
  have l:=q_wdlt b
  rw [<- e]
  show (IntKind.u64.wrap (((BitVec.ofInt 64 (wd b:Int) &&& ~~~ BitVec.ofInt 64 9223372036854775808).toNat:Nat):Int)).toNat=_
  rw [BitVec.toNat_and,BitVec.toNat_not,ofInt64_toNat,ofInt64_toNat,show (2 ^ 64 - 1 - ((9223372036854775808:Int) % 18446744073709551616).toNat)=2 ^ 63 - 1 from by decide,Nat.and_two_pow_sub_one_eq_mod,IntKind.wrap_u64]
  omega
theorem q_fin {b:Int} (h:pok b=true):¬ cls b=4:=by
  have:=pparts h
  unfold cls; rw [if_neg this]; split
  . split <;> omega
  . omega
theorem q_lt {a b:Int} (ha:rng a) (hb:rng b) (h1:¬ cls a=4) (h2:¬ cls b=4) (h:key a < key b):FloatKind.f64.format.order (wd a) (wd b)=some .lt:=by rw [order64 ha hb h1 h2,compare_lt h]
theorem q_gt {a b:Int} (ha:rng a) (hb:rng b) (h1:¬ cls a=4) (h2:¬ cls b=4) (h:key b < key a):FloatKind.f64.format.order (wd a) (wd b)=some .gt:=by rw [order64 ha hb h1 h2,compare_gt h]
theorem q_eq {a b:Int} (ha:rng a) (hb:rng b) (h1:¬ cls a=4) (h2:¬ cls b=4) (h:key a=key b):FloatKind.f64.format.order (wd a) (wd b)=some .eq:=by rw [order64 ha hb h1 h2,compare_eq h]
def tame (b:Int):Bool:=decide (rg b=0) || (decide (3931642474694443008 <= rg b) && decide (rg b < 5282722362905591808))
theorem pok_rg' {b:Int} (h:rng b):pok b=decide (rg b <= 9218868437227405311):=by
  obtain ⟨h0,h1⟩:=rg_parts h
  have h2:0 <= frc b∧frc b < 4503599627370496:=by unfold frc; omega
  have h3:0 <= fld b∧fld b < 2048:=by unfold fld; omega
  unfold pok
  by_cases e:fld b=2047
  . simp [e]; omega
  . simp [e]; omega
end Go.Proofs.YteglfnnbpilheaaGreatDoor.M
namespace Go.Proofs.YteglfnnbpilheaaGreatDoor
open Go Go.RowKit Go.Proofs.YteglfnnbpilheaaGreatDoor.M
theorem mathAbs {b:Int} (hb:rng b) (w:World) :
    Calls Tryz.prog 37 #[.float .f64 (wd b)] w fun e w'=>e=.returned (.float .f64 (wd (rg b)))∧w'=w:=by
  have h1:=run_bits64
  have h2:=run_from64
  go_enter Tryz.func37,Tryz.ntmps37
  go_wp2
  go_ret
  exact ⟨ret_float (q_abs hb),rfl⟩
def q0 (b:Int):Int:=if b=-9223372036854775808 then 0 else b
theorem q_cell {w w':World} {p:Addr} {v:Value} (h:w.cell? p=some v) (hb:Below w.heap.size w w'):w'.cell? p=some v :=
  (hb.cell (World.block_lt_of_cell? w _ h)).trans h
theorem Q4.keeps {a b:Nat} {x0 x1 x2 x3:Value} {W W':World} (h:W.cell? ⟨a,0,none⟩=some x0∧W.cell? ⟨a,1,none⟩=some x1∧W.cell? ⟨b,0,none⟩=some x2∧W.cell? ⟨b,1,none⟩=some x3) (hb:Below W.heap.size W W') :
    W'.cell? ⟨a,0,none⟩=some x0∧W'.cell? ⟨a,1,none⟩=some x1∧W'.cell? ⟨b,0,none⟩=some x2∧W'.cell? ⟨b,1,none⟩=some x3 :=
  ⟨q_cell h.1 hb,q_cell h.2.1 hb,q_cell h.2.2.1 hb,q_cell h.2.2.2 hb⟩
theorem RSum.shape {w w':World} {A B:Int} {x y:NumR} {v:Value} (h:RSum w w' A B x.v y.v v):∃ ng so sn sc e,v=.agg #[.bool ng,.slice so sn sc,.int .i64 e]:=by
  rcases h.2 with ⟨ng,s,m,e,rfl,_,hA⟩ | ⟨_,rfl⟩ | ⟨_,rfl⟩
  . obtain ⟨so,sn,sc,rfl⟩:=hA.num.shape
    exact ⟨_,_,_,_,_,rfl⟩
  . exact ⟨_,_,_,_,_,rfl⟩
  . exact ⟨_,_,_,_,_,rfl⟩
def Src (B:Nat) (w:World) (n:Nat) (r:Nat->NumR) (V:Int) (v:Value):Prop:=DAn B w V v∨∃ i,i < n∧v=(r i).v∧V=(r i).V
theorem Src.keeps {B:Nat} {w w':World} {n:Nat} {r:Nat->NumR} {V:Int} {v:Value} (h:Src B w n r V v) (hb:Below w.heap.size w w'):Src B w' n r V v:=by
  rcases h with h | h
  . exact .inl (h.keeps hb)
  . exact .inr h
theorem ints_set3 {w:World} {g o0 o1 o2:Nat} {xs:Array Value} {z:Nat × Nat} (hg:w.heap[g]?=some (.cells xs 79 z)) (x y u:Value):∀ (g':Nat) (cur:Array Value) z',w.heap[g']?=some (.cells cur 3 z')->(((w.setCell ⟨g,o0,none⟩ x).setCell ⟨g,o1,none⟩ y).setCell ⟨g,o2,none⟩ u).heap[g']?=w.heap[g']?:=fun g' cur z' hc=>by
  refine (wr3 w g o0 o1 o2 x y u).block g' (Array.getElem?_eq_some_iff.1 hc).1 fun e=>?_
  subst e
  rw [hg] at hc
  simp at hc
theorem blk_on {W y:World} (hb:Below W.heap.size W y) {g:Nat} {X:Obj} (h:W.heap[g]?=some X):y.heap[g]?=some X:=(hb.block _ (Array.getElem?_eq_some_iff.1 h).1).trans h
theorem dan_res3 {B:Nat} {w3:World} {V:Int} {v:Value} (hv:DAn B w3 V v) {g:Nat} {xs:Array Value} {z:Nat × Nat} (hg:w3.heap[g]?=some (.cells xs 79 z)) (a b c:Value) :
    DAn B (((w3.setCell ⟨g,0,none⟩ a).setCell ⟨g,1,none⟩ b).setCell ⟨g,2,none⟩ c) V v:=hv.of_blocks (ints_set3 hg a b c)
def Det (a1 a2 b1 b2 V:Int):Prop:=∃ C D,C * 2 ^ 4194304=a1 * b2∧D * 2 ^ 4194304=a2 * b1∧V=C - D
theorem Det.unique {a1 a2 b1 b2 V V':Int} (h:Det a1 a2 b1 b2 V) (k:Det a1 a2 b1 b2 V'):V=V':=by
  obtain ⟨C,D,h1,h2,rfl⟩:=h
  obtain ⟨C',D',k1,k2,rfl⟩:=k
  rw [scale_inj (h1.trans k1.symm),scale_inj (h2.trans k2.symm)]
theorem num_half {x:NumR} {V:Int} (ok:okR x=true) (hV:x.V=V) (hb:Bd 4000 V):Half x:=by
  have hy:=(okR_dy ok).1
  unfold Half
  rcases hy.form with ⟨_,_,h0⟩ | ⟨h0,_⟩
  . omega
  . rw [hV] at hy
    have:=bd_form hb hy (by omega) h0
    omega
theorem cell_set3 {W:World} {p:Addr} {v:Value} (h:W.cell? p=some v) {g o0 o1 o2:Nat} (x y z:Value) (hg:p.block ≠ g):(((W.setCell ⟨g,o0,none⟩ x).setCell ⟨g,o1,none⟩ y).setCell ⟨g,o2,none⟩ z).cell? p=some v :=
  ((wr3 W g o0 o1 o2 x y z).cell (World.block_lt_of_cell? W _ h) hg).trans h
set_option maxRecDepth 100000 in
set_option maxHeartbeats 2000000 in
theorem numbersF {FT:Nat} (ao:Option Addr) (n ca:Nat) (d:Nat->Int) (w:World) (hR:Row w ao n ca d) (hn:n <= 100000) (ok:∀ i,i < n->pok (d i)=true) (H:Hold4 w) :
    Calls Tryz.prog 79 #[.agg #[.func (.func 29) #[] #[],.func (.func 28) #[] #[],.func (.func 43) #[] #[],.func (.func FT) #[] #[]],.slice ao n ca] w fun x w'=>∃ g q,x=.returned (.slice (some ⟨g,0,none⟩) n n)∧Nums w' (some ⟨g,0,none⟩) n n q∧Below w.heap.size w w'∧∀ i,i < n->okR (q i)=true∧(q i).V=patV (d i)∧Half (q i):=by
  have hst:∀ p F c m w,(store p (.func (.func F) #[] c) m).run Tryz.prog w=stored Tryz.prog w p (.func (.func F) #[] c) m:=fun p F c m w=>run_store _ w p _ m rfl
  have hE:∀ (cap:Array Value) (w:World),(callFunc 43 cap).run Tryz.prog w=.ok (.enter 43 cap) w:=by intro cap w; simp [go_sem]
  have hla:=hR.le
  have hma:=hR.max
  have hmake:=make_nums n hn
  have hbA:=bel_alloc w (.cells #[.func (.func 29) #[] #[],.func (.func 28) #[] #[],.func (.func 43) #[] #[],.func (.func FT) #[] #[]] 50)
  have gA:=heap_a1 w (.cells #[.func (.func 29) #[] #[],.func (.func 28) #[] #[],.func (.func 43) #[] #[],.func (.func FT) #[] #[]] 50)
  have fA:=blkC gA 2 rfl
  go_enter Tryz.func79,Tryz.ntmps79
  go_wp2_with fail
  clear fA
  have HSA:Hid ((w.alloc (.cells #[.func (.func 29) #[] #[],.func (.func 28) #[] #[],.func (.func 43) #[] #[],.func (.func FT) #[] #[]] 50)).heap.size=w.heap.size + 1):=size_alloc _ _
  generalize w.alloc (.cells #[.func (.func 29) #[] #[],.func (.func 28) #[] #[],.func (.func 43) #[] #[],.func (.func FT) #[] #[]] 50)=wa at hbA gA HSA ⊢
  have hb0:=bel_alloc wa (.cells (madeCells #[.bool false,.slice none 0 0,.int .i64 0] (n * 3)) 79)
  have g0:=heap_a1 wa (.cells (madeCells #[.bool false,.slice none 0 0,.int .i64 0] (n * 3)) 79)
  have HB0:Hid (BlkN (wa.alloc (.cells (madeCells #[.bool false,.slice none 0 0,.int .i64 0] (n * 3)) 79)) wa.heap.size n 0 (fun _=>default)):=⟨_,g0,by rw [size_madeCells],fun i hi=>by omega⟩
  clear g0 hmake
  generalize wa.alloc (.cells (madeCells #[.bool false,.slice none 0 0,.int .i64 0] (n * 3)) 79)=wx at hb0 HB0 ⊢
  rw [HSA.out] at HB0
  go_loopw [12] (fun iv wr=>∃ (k:Nat) (q:Nat->NumR),k <= n∧iv=.int .i64 k∧Hid (BlkN wr (w.heap.size + 1) n k q)∧Hid (∀ i,i < k->okR (q i)=true∧(q i).V=patV (d i)∧Half (q i))∧Hid (∀ i b' off,i < k->(q i).ao=some ⟨b',off,none⟩->0 < (q i).n->(w.heap.size + 1) < b')∧Below wa.heap.size wa wr) (fun iv _=>n - (intOf iv).toNat)
  case atStart=>exact ⟨0,fun _=>default,Nat.zero_le _,(by first | rfl | simp),HB0,fun i hi=>by omega,fun i b' off hi=>by omega,hb0⟩
  case round=>
    obtain ⟨k,q,hk,rfl,HQ,HF,HG,hbw⟩:=hrel
    clear HB0 hb0
    by_cases hlt:k < n
    . obtain ⟨ba,oa,rfl,hba,hca⟩:=hR.spot (by omega)
      have c0:=q_cell (hca k hlt) (bel_trans hbA hbw)
      have c1:=q_cell (blkC gA 2 rfl) hbw
      have HW:=H.keeps (bel_trans hbA hbw)
      have CP:Hid (∀ W,Below wr.heap.size wr W->Calls Tryz.prog 43 #[.int .i64 (d k)] W fun r w'=>∃ v,r=.returned (.tuple #[v,.int .i64 0])∧DAns W w' (patV (d k)) v):=fun W h=>of_ok (ok k hlt) (HW.keeps h)
      obtain ⟨cur,hcur,hsz,hcells⟩:=HQ.out
      have e0:k * 3 < cur.size:=by omega
      have e1:k * 3 + 1 < cur.size:=by omega
      have e2:k * 3 + 2 < cur.size:=by omega
      obtain ⟨v0,hv0⟩:∃ v,cur[k * 3]?=some v:=⟨_,Array.getElem?_eq_getElem e0⟩
      obtain ⟨v1,hv1⟩:∃ v,cur[k * 3 + 1]?=some v:=⟨_,Array.getElem?_eq_getElem e1⟩
      obtain ⟨v2,hv2⟩:∃ v,cur[k * 3 + 2]?=some v:=⟨_,Array.getElem?_eq_getElem e2⟩
      have HV:Hid (cur[k * 3]?=some v0∧cur[k * 3 + 1]?=some v1∧cur[k * 3 + 2]?=some v2):=⟨hv0,hv1,hv2⟩
      have HCUR:Hid (wr.heap[(w.heap.size + 1)]?=some (.cells cur 79 (0,0))):=hcur
      have hgs:(w.heap.size + 1) < wr.heap.size:=(Array.getElem?_eq_some_iff.1 hcur).1
      have HBA:Hid (ba < w.heap.size):=hba
      clear hcells hv0 hv1 hv2 hcur hsz e0 e1 e2 hca hba
      have i0:(0:Int) <= (k:Int):=by omega
      have i1:(k:Int) < (n:Int):=by omega
      have hbp:Hid (Bd 4000 (patV (d k))):=patV_bd (ok k hlt)
      generalize hdk:d k=dk at c0 CP hbp
      generalize hpv:patV dk=pv at CP hbp
      have HPV:Hid (patV (d k)=pv):=by rw [hdk]; exact hpv
      clear hdk hpv
      have kc0:wr.drew.cell? ⟨ba,oa + k,none⟩=some (.int .i64 dk)∧wr.drew.cell? ⟨w.heap.size,2,none⟩=some (.func (.func 43) #[] #[]):=⟨c0,c1⟩
      have hb1:=bel_refl wr
      go_wp2_with fail
      go_region_held3 (fun W=>W.cell? ⟨ba,oa + k,none⟩=some (.int .i64 dk)∧W.cell? ⟨w.heap.size,2,none⟩=some (.func (.func 43) #[] #[]))
        (first | assumption | exact ⟨cell_set3 kc1.1 _ _ _ (show ba ≠ (w.heap.size + 1) by have:=HBA.out; omega),cell_set3 kc1.2 _ _ _ (show w.heap.size ≠ (w.heap.size + 1) by omega)⟩ | fail)
        ((go_at_call 43; refine (CP.out _ hb1.drew).mono ?_; rintro y w3 ⟨s,rfl,hA⟩; have hbv1:=hA.below; have kc1:=And.intro (q_cell kc0.1 hbv1) (q_cell kc0.2 hbv1); obtain ⟨sg0,so,sn,sc,se,rfl⟩:=dans_shape hA; have q0:=(hbv1.block (w.heap.size + 1) hgs).trans HCUR.out; have x0:=blkC q0 (k * 3) HV.out.1; have x1:=blkC q0 (k * 3 + 1) HV.out.2.1; have x2:=blkC q0 (k * 3 + 2) HV.out.2.2; have z0:=blkF q0 (k * 3); have z1:=blkF q0 (k * 3 + 1); have z2:=blkF q0 (k * 3 + 2)))
      all_goals go_wp2
      all_goals
        go_roundw
        case rel=>
          have hfr:∀ b' off,so=some ⟨b',off,none⟩->0 < sn->w.heap.size + 1 < b':=fun b' off he _=>by
            obtain ⟨ng,s,m,e,heq,_,hAn⟩:=hA
            simp only [Value.agg.injEq,Array.mk.injEq,List.cons.injEq,Value.bool.injEq,Value.int.injEq,true_and,and_true] at heq
            obtain ⟨_,rfl,_⟩:=heq
            obtain ⟨_,_,_,_,hgd⟩:=hAn.open
            have h9:=hgd b' off he
            have h8:w.heap.size + 1 < wr.drew.heap.size:=hgs
            omega
          obtain ⟨x,hxv,hxr,hxo,hxV⟩:=hA.num.open (hbp.out.ok (by omega))
          have hxe:x.ng=sg0∧x.ao=so∧x.n=sn∧x.cap=sc∧x.e=se:=by
            unfold NumR.v at hxv
            simp only [Value.agg.injEq,Array.mk.injEq,List.cons.injEq,Value.bool.injEq,Value.int.injEq,Value.slice.injEq,true_and,and_true] at hxv
            obtain ⟨e1,⟨e2,e3,e4⟩,e5⟩:=hxv
            exact ⟨e1.symm,e2.symm,e3.symm,e4.symm,e5.symm⟩
          obtain ⟨rfl,rfl,rfl,rfl,rfl⟩:=hxe
          refine ⟨k + 1,updN q k x,by omega,by go_num,BlkN.step (x:=x) HQ.out (bel_trans hb1.drew hbv1) hxr hlt HG.out hfr,fun i hi=>?_,fun i b' off hi he hn'=>?_,bel_set3' (bel_trans hbw (bel_trans hb1.drew hbv1)) (by have:=HSA.out; omega) _ _ _⟩
          . by_cases e:i=k
            . subst e
              rw [updN_same]
              exact ⟨hxo,hxV.trans HPV.out.symm,num_half hxo hxV hbp.out⟩
            . rw [updN_other _ _ e]
              exact HF.out i (by omega)
          . by_cases e:i=k
            . subst e
              rw [updN_same] at he hn'
              exact hfr b' off he hn'
            . rw [updN_other _ _ e] at he hn'
              exact HG.out i b' off (by omega) he hn'
        case measure=>simp [intOf]; omega
    . obtain rfl:k=n:=by omega
      go_wp2
      go_ret
      exact ⟨_,q,rfl,HQ.out.nums hn,bel_trans hbA hbw,HF.out⟩
end Go.Proofs.YteglfnnbpilheaaGreatDoor
namespace Go.Proofs.YteglfnnbpilheaaGreatDoor
open Go Go.RowKit Go.Proofs.YteglfnnbpilheaaGreatDoor.M Ieee
def RdP (way V p:Int):Prop:=∃ (A:Int) (r0:Nat) (left:Int),V=sg (decide (V < 0)) A∧Rung A r0 left∧p=patS (decide (V < 0)) (rTo way (decide (V < 0)) r0 left)
theorem RdP.unique {way V p q:Int} (h:RdP way V p) (k:RdP way V q):p=q:=by
  obtain ⟨A,r0,l,h1,h2,h3⟩:=h
  obtain ⟨B,s0,m,k1,k2,k3⟩:=k
  have hAB:=sg_inj (h1.symm.trans k1)
  subst hAB
  obtain ⟨e1,e2⟩:=h2.unique k2
  subst e1 e2
  rw [h3,k3]
theorem r64_num {way:Int} {ng sd:Bool} {M e:Int} (hv:0 < M) (he:-4194304 <= e) :
    ∃ (r0:Nat) (left:Int),Rung (M * pw e) r0 left∧r64 way ng sd (M / 2 ^ vK M).toNat (e + vK M) (decide (M % 2 ^ vK M ≠ 0))=(patS (ng && (decide (0 < rTo way ng r0 left) || sd)) (rTo way ng r0 left),decide (left ≠ 0) || decide (9218868437227405312 <= (r0:Int))):=by
  have hsm:=vK_small (Int.le_of_lt hv)
  have hb:=blen_pos hv
  have hp:=two_pos (vK M)
  have hge:2 ^ (blen M - 1 - vK M) <= M / 2 ^ vK M:=by
    rw [Int.le_ediv_iff_mul_le hp,<- Int.pow_add]
    by_cases hk:vK M <= blen M - 1
    . rw [show blen M - 1 - vK M + vK M=blen M - 1 by omega]
      exact hb.2
    . exfalso; unfold vK at hk; omega
  have hpos:=two_pos (blen M - 1 - vK M)
  have e64:(2:Nat) ^ 64=18446744073709551616:=by decide
  have e60:(2:Nat) ^ 60=1152921504606846976:=by decide
  refine r64_spec (held_cut (Int.le_of_lt hv) (by omega) _) (by omega) (by omega) (by omega) (fun hc=>?_)
  have hk0:0 < vK M:=by
    rcases Nat.eq_zero_or_pos (vK M) with h | h
    . rw [h,Int.pow_zero,Int.emod_one] at hc; simp at hc
    . exact h
  have h61:blen M - 1 - vK M=61:=by unfold vK at hk0 ⊢; omega
  rw [h61] at hge
  have e61:(2:Int) ^ 61=2305843009213693952:=by decide
  rw [e61] at hge
  omega
theorem sg_lt {ng:Bool} {A:Int} (h:0 < A):decide (sg ng A < 0)=ng:=by
  cases ng
  . exact decide_eq_false (by show ¬ A < 0; omega)
  . exact decide_eq_true (by show -A < 0; omega)
theorem rd_of {way V:Int} {ng:Bool} {M e:Int} (hV:V=sg ng (M * pw e)) (hv:0 < M) (he:-4194304 <= e) :
    RdP way V (r64 way ng true (M / 2 ^ vK M).toNat (e + vK M) (decide (M % 2 ^ vK M ≠ 0))).1:=by
  obtain ⟨r0,left,h1,h2⟩:=r64_num (way:=way) (ng:=ng) (sd:=true) hv he
  have hA:0 < M * pw e:=Int.mul_pos hv (pw_pos e)
  have hn:decide (V < 0)=ng:=by rw [hV]; exact sg_lt hA
  refine ⟨M * pw e,r0,left,by rw [hn]; exact hV,h1,?_⟩
  rw [h2,hn]
  simp
def rdP (way V:Int):Int:=(r64 way (decide (V < 0)) true ((V.natAbs:Int) / 2 ^ vK (V.natAbs:Int)).toNat (-4194304 + vK (V.natAbs:Int)) (decide ((V.natAbs:Int) % 2 ^ vK (V.natAbs:Int) ≠ 0))).1
theorem rdP_is (way:Int) {V:Int} (h:V ≠ 0):RdP way V (rdP way V):=by
  refine rd_of ?_ (by omega) (Int.le_refl _)
  rw [pw_least,Int.mul_one]
  by_cases hn:V < 0
  . rw [decide_eq_true hn]; show V=-(V.natAbs:Int); omega
  . rw [decide_eq_false hn]; show V=(V.natAbs:Int); omega
theorem rdP_eq {way V p:Int} (h0:V ≠ 0) (h:RdP way V p):rdP way V=p:=(rdP_is way h0).unique h
theorem r64_dy {way V:Int} {ng:Bool} {m e:Int} (hy:Dy V ng m e) (h0:V ≠ 0) (he:-4194304 <= e) :
    (r64 way ng true (m / 2 ^ vK m).toNat (e + vK m) (decide (m % 2 ^ vK m ≠ 0))).1=rdP way V:=by
  have hm:0 < m:=by
    rcases hy.form with ⟨f1,_⟩ | ⟨f1,_⟩
    . exact absurd (hy.eq_zero.2 f1) h0
    . exact f1
  refine (rdP_eq h0 (rd_of ?_ hm he)).symm
  rw [hy.val]
  cases ng
  . rfl
  . show -m * pw e=-(m * pw e); rw [Int.neg_mul]
end Go.Proofs.YteglfnnbpilheaaGreatDoor
namespace Go.Proofs.YteglfnnbpilheaaGreatDoor.M
open Go Ieee
end Go.Proofs.YteglfnnbpilheaaGreatDoor.M
namespace Go.Proofs.YteglfnnbpilheaaGreatDoor
open Go Go.RowKit Go.Proofs.YteglfnnbpilheaaGreatDoor.M
def addP (way a b:Int):Int:=if way=0∨(pok a && pok b)=false then fsum (told a) (told b) else if patV a + patV b ≠ 0 then rdP way (patV a + patV b) else if way=1∧¬ (a=0∧b=0) then -9223372036854775808 else fsum (told a) (told b)
theorem run_sumN {P:Program} (t:TypeId) {p q:Int} {x y:Nat} (hx:FW p x) (hy:FW q y) (h:cls (fsum p q) ≠ 4) (w:World) :
    (binOp .add t (.float .f64 x) (.float .f64 y)).run P w=.ok (.float .f64 (wd (fsum p q))) w:=by
  obtain ⟨z,w',hr,hz⟩:=run_farith (P:=P) .add (.inl rfl) t x y w
  have hf:floatBits .add .f64 x y=Ieee.double.add x y:=rfl
  rw [hf] at hz
  rcases add_FW hx hy with ⟨z',e1,e2⟩ | ⟨e1,e2⟩
  . rcases hz with ⟨h1,h2⟩ | ⟨h1,_⟩
    . rw [e1] at h1; cases h1
      rw [hr,h2,(e2.of h).2.1]
    . rw [e1] at h1; cases h1
  . exact absurd (by rw [e2]; exact nan_canon) h
theorem run_diffN {P:Program} (t:TypeId) {p q:Int} {x y:Nat} (hx:FW p x) (hy:FW q y) (h:cls (fsum p (neg q)) ≠ 4) (w:World) :
    (binOp .sub t (.float .f64 x) (.float .f64 y)).run P w=.ok (.float .f64 (wd (fsum p (neg q)))) w:=by
  obtain ⟨z,w',hr,hz⟩:=run_farith (P:=P) .sub (.inr (.inl rfl)) t x y w
  have hf:floatBits .sub .f64 x y=Ieee.double.sub x y:=rfl
  rw [hf] at hz
  rcases sub_FW hx hy with ⟨z',e1,e2⟩ | ⟨e1,e2⟩
  . rcases hz with ⟨h1,h2⟩ | ⟨h1,_⟩
    . rw [e1] at h1; cases h1
      rw [hr,h2,(e2.of h).2.1]
    . rw [e1] at h1; cases h1
  . exact absurd (by rw [e2]; exact nan_canon) h
theorem V_zero_iff {r:Nat}:(V Ieee.double r:Int)=0 ↔ r=0:=by
  constructor
  . intro h
    by_cases h0:r=0
    . exact h0
    . have:=V_lt Ieee.double (show 0 < r by omega)
      rw [V_zero] at this
      omega
  . rintro rfl
    rw [V_zero]
    rfl
theorem iV_key {p:Int} (hp:rng p):(iV p < 0 ↔ key p < 0)∧(0 < iV p ↔ 0 < key p):=by
  have hz:=@V_zero_iff (rg p).toNat
  have hr:=q_rg hp
  unfold rng at hp
  have hv:(0:Int) <= (V Ieee.double (rg p).toNat:Int):=by omega
  by_cases h:p < 0
  . have e1:iV p=-(V Ieee.double (rg p).toNat:Int):=by unfold iV sg; simp [h]
    have e2:key p=-(rg p):=by unfold key rg; rw [if_pos h,if_pos h]
    rw [e1,e2]
    constructor <;> constructor <;> intro g <;> omega
  . have e1:iV p=(V Ieee.double (rg p).toNat:Int):=by unfold iV sg; simp [h]
    have e2:key p=rg p:=by unfold key rg; rw [if_neg h,if_neg h]
    rw [e1,e2]
    constructor <;> constructor <;> intro g <;> omega
end Go.Proofs.YteglfnnbpilheaaGreatDoor
namespace Go.Proofs.YteglfnnbpilheaaGreatDoor
open Go Go.RowKit Go.Proofs.YteglfnnbpilheaaGreatDoor.M Ieee
end Go.Proofs.YteglfnnbpilheaaGreatDoor
namespace Go.Proofs.YteglfnnbpilheaaGreatDoor
open Go Go.RowKit Go.Proofs.YteglfnnbpilheaaGreatDoor.M
set_option maxRecDepth 100000 in
set_option maxHeartbeats 2000000 in
theorem values_ok (F G:Nat) (oo:Option Addr) (n cap:Nat) (d V:Nat->Int) (w:World) (hR:Row w oo n cap d) (hn:n <= 100000)
    (hEF:∀ (cap:Array Value) (w:World),(callFunc F cap).run Tryz.prog w=.ok (.enter F cap) w)
    (C:∀ i,i < n->∀ W,Below w.heap.size w W->Calls Tryz.prog F #[.int .i64 (d i)] W fun r w'=>∃ v,r=.returned (.tuple #[v,.int .i64 0])∧DAns W w' (V i) v) :
    Calls Tryz.prog 72 #[.agg #[.func (.func F) #[] #[],.func (.func G) #[] #[]],.slice oo n cap] w fun x w'=>∃ g q,x=.returned (.tuple #[.slice (some ⟨g,0,none⟩) n n,.bool true])∧w.heap.size <= g∧Nums w' (some ⟨g,0,none⟩) n n q∧Below w.heap.size w w'∧∀ i,i < n->Nrm (q i).d (q i).n∧Dy (V i) (q i).ng (val (q i).d (q i).n) (q i).e:=by
  have hle:=hR.le
  have hma:=hR.max
  have hmake:=make_nums n hn
  have hst:∀ (p:Addr) (F:Nat) (m:Mode) (w:World),(store p (.func (.func F) #[] #[]) m).run Tryz.prog w=stored Tryz.prog w p (.func (.func F) #[] #[]) m:=fun p F m w=>run_store _ w p _ m rfl
  have ha1:=bel_alloc w (.cells #[.func (.func F) #[] #[],.func (.func G) #[] #[]] 41)
  have q1:=heap_alloc_new w (.cells #[.func (.func F) #[] #[],.func (.func G) #[] #[]] 41)
  have k0:=blkC q1 0 rfl
  have k1:=blkC q1 1 rfl
  go_enter Tryz.func72,Tryz.ntmps72
  go_wp2_with fail
  have hb0:=bel_alloc2 w (.cells #[.func (.func F) #[] #[],.func (.func G) #[] #[]] 41) (.cells (madeCells #[.bool false,.slice none 0 0,.int .i64 0] (n * 3)) 79)
  have g1:=heap_b2 w (.cells #[.func (.func F) #[] #[],.func (.func G) #[] #[]] 41) (.cells (madeCells #[.bool false,.slice none 0 0,.int .i64 0] (n * 3)) 79)
  have g0:=heap_a2 w (.cells #[.func (.func F) #[] #[],.func (.func G) #[] #[]] 41) (.cells (madeCells #[.bool false,.slice none 0 0,.int .i64 0] (n * 3)) 79)
  have HB0:Hid (BlkN ((w.alloc (.cells #[.func (.func F) #[] #[],.func (.func G) #[] #[]] 41)).alloc (.cells (madeCells #[.bool false,.slice none 0 0,.int .i64 0] (n * 3)) 79)) (w.heap.size + 1) n 0 (fun _=>⟨false,none,0,0,fun _=>0,0⟩)):=⟨_,g1,by rw [size_madeCells],fun i hi=>by omega⟩
  clear g1 hmake q1 k0 k1 ha1
  generalize (w.alloc (.cells #[.func (.func F) #[] #[],.func (.func G) #[] #[]] 41)).alloc (.cells (madeCells #[.bool false,.slice none 0 0,.int .i64 0] (n * 3)) 79)=wx at hb0 HB0 g0 ⊢
  go_loopw [16] (fun iv wr=>∃ (k:Nat) (q:Nat->NumR),k <= n∧iv=.int .i64 k∧Hid (BlkN wr (w.heap.size + 1) n k q)∧Hid (∀ i,i < k->Nrm (q i).d (q i).n∧Dy (V i) (q i).ng (val (q i).d (q i).n) (q i).e)∧Hid (∀ i b' off,i < k->(q i).ao=some ⟨b',off,none⟩->0 < (q i).n->w.heap.size + 1 < b')∧Hid (wr.heap[w.heap.size]?=some (.cells #[.func (.func F) #[] #[],.func (.func G) #[] #[]] 41 (0,0)))∧Below w.heap.size w wr) (fun iv _=>n - (intOf iv).toNat)
  case atStart=>exact ⟨0,_,Nat.zero_le _,rfl,HB0,fun i hi=>by omega,fun i b' off hi=>by omega,g0,hb0⟩
  case round=>
    obtain ⟨k,q,hk,rfl,HQ,HF,HG,HK,hbw⟩:=hrel
    clear HB0 hb0 g0
    by_cases hlt:k < n
    . obtain ⟨ba,oa,rfl,hba,hca⟩:=hR.spot (by omega)
      have c0:=(hbw.cell (p:=⟨ba,oa + k,none⟩) hba).trans (hca k hlt)
      have CF:=C k hlt
      have kf:=blkC HK.out 0 rfl
      obtain ⟨cur,hcur,hsz,hcells⟩:=HQ.out
      have e0:k * 3 < cur.size:=by omega
      have e1:k * 3 + 1 < cur.size:=by omega
      have e2:k * 3 + 2 < cur.size:=by omega
      obtain ⟨v0,hv0⟩:∃ v,cur[k * 3]?=some v:=⟨_,Array.getElem?_eq_getElem e0⟩
      obtain ⟨v1,hv1⟩:∃ v,cur[k * 3 + 1]?=some v:=⟨_,Array.getElem?_eq_getElem e1⟩
      obtain ⟨v2,hv2⟩:∃ v,cur[k * 3 + 2]?=some v:=⟨_,Array.getElem?_eq_getElem e2⟩
      have HV:Hid (cur[k * 3]?=some v0∧cur[k * 3 + 1]?=some v1∧cur[k * 3 + 2]?=some v2):=⟨hv0,hv1,hv2⟩
      have HCUR:Hid (wr.heap[w.heap.size + 1]?=some (.cells cur 79 (0,0))):=hcur
      have hgs:w.heap.size + 1 < wr.heap.size:=(Array.getElem?_eq_some_iff.1 hcur).1
      clear hcells hv0 hv1 hv2 hcur hsz e0 e1 e2 hca C
      have i0:(0:Int) <= (k:Int):=by omega
      have i1:(k:Int) < (n:Int):=by omega
      generalize d k=x at *
      go_wp2_with fail
      refine (CF _ hbw).mono ?_
      rintro _ w3 ⟨v,rfl,hD⟩
      have hb3:=hD.below
      have HD:Hid (DAns wr w3 (V k) v):=hD
      obtain ⟨g,s0,m0,e,rfl,_,hA0⟩:=id hD
      obtain ⟨so,sn,sc,rfl⟩:=hA0.num.shape
      clear hD CF hA0
      have hb4:=bel_trans hb3 (bel_alloc w3 (.cells #[.bool g,.slice so sn sc,.int .i64 e] 79))
      have q0:=(hb4.block (w.heap.size + 1) hgs).trans HCUR.out
      have HK4:Hid ((w3.alloc (.cells #[.bool g,.slice so sn sc,.int .i64 e] 79)).heap[w.heap.size]?=some (.cells #[.func (.func F) #[] #[],.func (.func G) #[] #[]] 41 (0,0))):=(hb4.block _ (Array.getElem?_eq_some_iff.1 HK.out).1).trans HK.out
      have qx:=heap_a1 w3 (.cells #[.bool g,.slice so sn sc,.int .i64 e] 79)
      have t0:=blkC qx 0 rfl
      have t1:=blkC qx 1 rfl
      have t2:=blkC qx 2 rfl
      have x0:=blkC q0 (k * 3) HV.out.1
      have x1:=blkC q0 (k * 3 + 1) HV.out.2.1
      have x2:=blkC q0 (k * 3 + 2) HV.out.2.2
      have f0:=blkF q0 (k * 3)
      have f1:=blkF q0 (k * 3 + 1)
      have f2:=blkF q0 (k * 3 + 2)
      have hn1:w.heap.size + 1 ≠ w.heap.size:=by omega
      clear q0 qx kf
      go_wp2
      all_goals
        go_roundw
        case rel=>
          obtain ⟨ng,s,m,e',h1,hyy,hA⟩:=HD.out
          simp only [Value.agg.injEq,Array.mk.injEq,List.cons.injEq,Value.bool.injEq,Value.int.injEq,true_and,and_true] at h1
          obtain ⟨rfl,rfl,rfl⟩:=h1
          obtain ⟨dd,hRd,hNd,hVd,hgd⟩:=hA.open
          have hgs2:∀ b' off,so=some ⟨b',off,none⟩->0 < sn->w.heap.size + 1 < b':=fun b' off he _=>by
            have h9:=hgd b' off he
            omega
          refine ⟨k + 1,updN q k ⟨g,so,sn,sc,dd,e⟩,by omega,by go_num,BlkN.step (x:=⟨g,so,sn,sc,dd,e⟩) HQ.out hb4 (hRd.keeps (bel_alloc _ _)) hlt HG.out hgs2,fun i hi=>?_,fun i b' off hi he hn'=>?_,?_,bel_set3' (bel_trans hbw hb4) (by omega) _ _ _⟩
          . by_cases ei:i=k
            . subst ei
              rw [updN_same]
              exact ⟨hNd,by rw [hVd]; exact hyy⟩
            . rw [updN_other _ _ ei]
              exact HF.out i (by omega)
          . by_cases ei:i=k
            . subst ei
              rw [updN_same] at he hn'
              exact hgs2 b' off he hn'
            . rw [updN_other _ _ ei] at he hn'
              exact HG.out i b' off (by omega) he hn'
          . show _=_
            rw [heap_setCell_other _ ⟨w.heap.size + 1,_,none⟩ w.heap.size _ (Ne.symm hn1),heap_setCell_other _ ⟨w.heap.size + 1,_,none⟩ w.heap.size _ (Ne.symm hn1),heap_setCell_other _ ⟨w.heap.size + 1,_,none⟩ w.heap.size _ (Ne.symm hn1)]
            exact HK4.out
        case measure=>simp [intOf]; omega
    . obtain rfl:k=n:=by omega
      go_wp2
      all_goals refine bodyPost_ret (v:=.tuple #[.slice (some ⟨w.heap.size + 1,0,none⟩) k k,.bool true]) (by simp [results,Tryz.results72,go_sem]) rfl ⟨_,q,rfl,by omega,HQ.out.nums hn,hbw,HF.out⟩
set_option maxRecDepth 100000 in
set_option maxHeartbeats 2000000 in
theorem values_no (F G:Nat) (oo:Option Addr) (n cap:Nat) (d V:Nat->Int) (w:World) (hR:Row w oo n cap d) (hn:n <= 100000) (K:Nat) (hK:K < n)
    (hEF:∀ (cap:Array Value) (w:World),(callFunc F cap).run Tryz.prog w=.ok (.enter F cap) w)
    (C:∀ i,i < K->∀ W,Below w.heap.size w W->Calls Tryz.prog F #[.int .i64 (d i)] W fun r w'=>∃ v,r=.returned (.tuple #[v,.int .i64 0])∧DAns W w' (V i) v)
    (CN:∀ W,Below w.heap.size w W->Calls Tryz.prog F #[.int .i64 (d K)] W fun r w'=>r=.returned (.tuple #[.agg #[.bool false,.slice none 0 0,.int .i64 0],.int .i64 10])∧Below W.heap.size W w') :
    Calls Tryz.prog 72 #[.agg #[.func (.func F) #[] #[],.func (.func G) #[] #[]],.slice oo n cap] w fun x w'=>x=.returned (.tuple #[.slice none 0 0,.bool false])∧Below w.heap.size w w':=by
  have hle:=hR.le
  have hma:=hR.max
  have hmake:=make_nums n hn
  have hst:∀ (p:Addr) (F:Nat) (m:Mode) (w:World),(store p (.func (.func F) #[] #[]) m).run Tryz.prog w=stored Tryz.prog w p (.func (.func F) #[] #[]) m:=fun p F m w=>run_store _ w p _ m rfl
  have ha1:=bel_alloc w (.cells #[.func (.func F) #[] #[],.func (.func G) #[] #[]] 41)
  have q1:=heap_alloc_new w (.cells #[.func (.func F) #[] #[],.func (.func G) #[] #[]] 41)
  have k0:=blkC q1 0 rfl
  have k1:=blkC q1 1 rfl
  go_enter Tryz.func72,Tryz.ntmps72
  go_wp2_with fail
  have hb0:=bel_alloc2 w (.cells #[.func (.func F) #[] #[],.func (.func G) #[] #[]] 41) (.cells (madeCells #[.bool false,.slice none 0 0,.int .i64 0] (n * 3)) 79)
  have g1:=heap_b2 w (.cells #[.func (.func F) #[] #[],.func (.func G) #[] #[]] 41) (.cells (madeCells #[.bool false,.slice none 0 0,.int .i64 0] (n * 3)) 79)
  have g0:=heap_a2 w (.cells #[.func (.func F) #[] #[],.func (.func G) #[] #[]] 41) (.cells (madeCells #[.bool false,.slice none 0 0,.int .i64 0] (n * 3)) 79)
  have HB0:Hid (BlkN ((w.alloc (.cells #[.func (.func F) #[] #[],.func (.func G) #[] #[]] 41)).alloc (.cells (madeCells #[.bool false,.slice none 0 0,.int .i64 0] (n * 3)) 79)) (w.heap.size + 1) n 0 (fun _=>⟨false,none,0,0,fun _=>0,0⟩)):=⟨_,g1,by rw [size_madeCells],fun i hi=>by omega⟩
  clear g1 hmake q1 k0 k1 ha1
  generalize (w.alloc (.cells #[.func (.func F) #[] #[],.func (.func G) #[] #[]] 41)).alloc (.cells (madeCells #[.bool false,.slice none 0 0,.int .i64 0] (n * 3)) 79)=wx at hb0 HB0 g0 ⊢
  go_loopw [16] (fun iv wr=>∃ (k:Nat) (q:Nat->NumR),k <= K∧iv=.int .i64 k∧Hid (BlkN wr (w.heap.size + 1) n k q)∧Hid (∀ i,i < k->Nrm (q i).d (q i).n∧Dy (V i) (q i).ng (val (q i).d (q i).n) (q i).e)∧Hid (∀ i b' off,i < k->(q i).ao=some ⟨b',off,none⟩->0 < (q i).n->w.heap.size + 1 < b')∧Hid (wr.heap[w.heap.size]?=some (.cells #[.func (.func F) #[] #[],.func (.func G) #[] #[]] 41 (0,0)))∧Below w.heap.size w wr) (fun iv _=>n - (intOf iv).toNat)
  case atStart=>exact ⟨0,_,Nat.zero_le _,rfl,HB0,fun i hi=>by omega,fun i b' off hi=>by omega,g0,hb0⟩
  case round=>
    obtain ⟨k,q,hk,rfl,HQ,HF,HG,HK,hbw⟩:=hrel
    clear HB0 hb0 g0
    have hlt:k < n:=by omega
    by_cases hltK:k < K
    . obtain ⟨ba,oa,rfl,hba,hca⟩:=hR.spot (by omega)
      have c0:=(hbw.cell (p:=⟨ba,oa + k,none⟩) hba).trans (hca k hlt)
      have CF:=C k hltK
      have kf:=blkC HK.out 0 rfl
      obtain ⟨cur,hcur,hsz,hcells⟩:=HQ.out
      have e0:k * 3 < cur.size:=by omega
      have e1:k * 3 + 1 < cur.size:=by omega
      have e2:k * 3 + 2 < cur.size:=by omega
      obtain ⟨v0,hv0⟩:∃ v,cur[k * 3]?=some v:=⟨_,Array.getElem?_eq_getElem e0⟩
      obtain ⟨v1,hv1⟩:∃ v,cur[k * 3 + 1]?=some v:=⟨_,Array.getElem?_eq_getElem e1⟩
      obtain ⟨v2,hv2⟩:∃ v,cur[k * 3 + 2]?=some v:=⟨_,Array.getElem?_eq_getElem e2⟩
      have HV:Hid (cur[k * 3]?=some v0∧cur[k * 3 + 1]?=some v1∧cur[k * 3 + 2]?=some v2):=⟨hv0,hv1,hv2⟩
      have HCUR:Hid (wr.heap[w.heap.size + 1]?=some (.cells cur 79 (0,0))):=hcur
      have hgs:w.heap.size + 1 < wr.heap.size:=(Array.getElem?_eq_some_iff.1 hcur).1
      clear hcells hv0 hv1 hv2 hcur hsz e0 e1 e2 hca C
      have i0:(0:Int) <= (k:Int):=by omega
      have i1:(k:Int) < (n:Int):=by omega
      generalize d k=x at *
      go_wp2_with fail
      refine (CF _ hbw).mono ?_
      rintro _ w3 ⟨v,rfl,hD⟩
      have hb3:=hD.below
      have HD:Hid (DAns wr w3 (V k) v):=hD
      obtain ⟨g,s0,m0,e,rfl,_,hA0⟩:=id hD
      obtain ⟨so,sn,sc,rfl⟩:=hA0.num.shape
      clear hD CF hA0
      have hb4:=bel_trans hb3 (bel_alloc w3 (.cells #[.bool g,.slice so sn sc,.int .i64 e] 79))
      have q0:=(hb4.block (w.heap.size + 1) hgs).trans HCUR.out
      have HK4:Hid ((w3.alloc (.cells #[.bool g,.slice so sn sc,.int .i64 e] 79)).heap[w.heap.size]?=some (.cells #[.func (.func F) #[] #[],.func (.func G) #[] #[]] 41 (0,0))):=(hb4.block _ (Array.getElem?_eq_some_iff.1 HK.out).1).trans HK.out
      have qx:=heap_a1 w3 (.cells #[.bool g,.slice so sn sc,.int .i64 e] 79)
      have t0:=blkC qx 0 rfl
      have t1:=blkC qx 1 rfl
      have t2:=blkC qx 2 rfl
      have x0:=blkC q0 (k * 3) HV.out.1
      have x1:=blkC q0 (k * 3 + 1) HV.out.2.1
      have x2:=blkC q0 (k * 3 + 2) HV.out.2.2
      have f0:=blkF q0 (k * 3)
      have f1:=blkF q0 (k * 3 + 1)
      have f2:=blkF q0 (k * 3 + 2)
      have hn1:w.heap.size + 1 ≠ w.heap.size:=by omega
      clear q0 qx kf
      go_wp2
      all_goals
        go_roundw
        case rel=>
          obtain ⟨ng,s,m,e',h1,hyy,hA⟩:=HD.out
          simp only [Value.agg.injEq,Array.mk.injEq,List.cons.injEq,Value.bool.injEq,Value.int.injEq,true_and,and_true] at h1
          obtain ⟨rfl,rfl,rfl⟩:=h1
          obtain ⟨dd,hRd,hNd,hVd,hgd⟩:=hA.open
          have hgs2:∀ b' off,so=some ⟨b',off,none⟩->0 < sn->w.heap.size + 1 < b':=fun b' off he _=>by
            have h9:=hgd b' off he
            omega
          refine ⟨k + 1,updN q k ⟨g,so,sn,sc,dd,e⟩,by omega,by go_num,BlkN.step (x:=⟨g,so,sn,sc,dd,e⟩) HQ.out hb4 (hRd.keeps (bel_alloc _ _)) hlt HG.out hgs2,fun i hi=>?_,fun i b' off hi he hn'=>?_,?_,bel_set3' (bel_trans hbw hb4) (by omega) _ _ _⟩
          . by_cases ei:i=k
            . subst ei
              rw [updN_same]
              exact ⟨hNd,by rw [hVd]; exact hyy⟩
            . rw [updN_other _ _ ei]
              exact HF.out i (by omega)
          . by_cases ei:i=k
            . subst ei
              rw [updN_same] at he hn'
              exact hgs2 b' off he hn'
            . rw [updN_other _ _ ei] at he hn'
              exact HG.out i b' off (by omega) he hn'
          . show _=_
            rw [heap_setCell_other _ ⟨w.heap.size + 1,_,none⟩ w.heap.size _ (Ne.symm hn1),heap_setCell_other _ ⟨w.heap.size + 1,_,none⟩ w.heap.size _ (Ne.symm hn1),heap_setCell_other _ ⟨w.heap.size + 1,_,none⟩ w.heap.size _ (Ne.symm hn1)]
            exact HK4.out
        case measure=>simp [intOf]; omega
    . obtain rfl:k=K:=by omega
      obtain ⟨ba,oa,rfl,hba,hca⟩:=hR.spot (by omega)
      have c0:=(hbw.cell (p:=⟨ba,oa + k,none⟩) hba).trans (hca k hlt)
      have kf:=blkC HK.out 0 rfl
      clear hca C
      have i0:(0:Int) <= (k:Int):=by omega
      have i1:(k:Int) < (n:Int):=by omega
      generalize d k=x at *
      go_wp2_with fail
      refine (CN _ hbw).mono ?_
      rintro _ w3 ⟨rfl,hb3⟩
      go_wp2
      all_goals refine bodyPost_ret (v:=.tuple #[.slice none 0 0,.bool false]) (by simp [results,Tryz.results72,go_sem]) rfl ⟨rfl,bel_trans hbw (bel_trans hb3 (bel_alloc _ _))⟩
def vlV (ng:Bool) (m e:Int) (sd:Bool):Value:=valV ng (m / 2 ^ vK m).toNat (e + vK m) (decide (m % 2 ^ vK m ≠ 0)) sd
theorem valueOf_D {w:World} {v:Value} {V:Int} {ng:Bool} {m e:Int} (hx:DNum w v V) (ok:Dok V) (hy:Dy V ng m e) (hT:Tab w) :
    Calls Tryz.prog 77 #[v] w fun r w'=>r=.returned (vlV ng m e false)∧Below w.heap.size w w':=by
  obtain ⟨x,rfl,hR,hok,rfl⟩:=hx.open ok
  obtain ⟨na,hn,he0,he1⟩:=okR_sane hok
  obtain ⟨rfl,rfl,rfl⟩:=(okR_dy hok).1.unique hy
  exact valueOf_any _ _ _ _ _ _ _ hR na hn ⟨he0,he1⟩ hT
def opT (er:Int) (mag:Nat) (sd:Bool) (b near:Int):Int:=if er ≠ 0∨(mag=0∧sd=false) then near else b
set_option maxRecDepth 100000 in
set_option maxHeartbeats 1000000 in
theorem operate_go (way:Int) (hw:1 <= way∧way <= 3) (near:Int) (F G Rf:Nat) (rc:Array Value) (oo:Option Addr) (n cap:Nat) (w:World) (V:Nat->Int) (ng:Bool) (mag:Nat) (exp:Int) (cut sd:Bool) (er b:Int) (o:Bool)
    (hEG:∀ (cap:Array Value) (w:World),(callFunc G cap).run Tryz.prog w=.ok (.enter G cap) w)
    (hER:∀ (cap:Array Value) (w:World),(callFunc Rf cap).run Tryz.prog w=.ok (.enter Rf cap) w)
    (CV:∀ W,Below w.heap.size w W->Calls Tryz.prog 72 #[.agg #[.func (.func F) #[] #[],.func (.func G) #[] #[]],.slice oo n cap] W fun x w'=>∃ g q,x=.returned (.tuple #[.slice (some ⟨g,0,none⟩) n n,.bool true])∧W.heap.size <= g∧Nums w' (some ⟨g,0,none⟩) n n q∧Below W.heap.size W w'∧∀ i,i < n->Nrm (q i).d (q i).n∧Dy (V i) (q i).ng (val (q i).d (q i).n) (q i).e)
    (CR:∀ W g q,Below w.heap.size w W->Nums W (some ⟨g,0,none⟩) n n q->(∀ i,i < n->Nrm (q i).d (q i).n∧Dy (V i) (q i).ng (val (q i).d (q i).n) (q i).e)->Calls Tryz.prog Rf (#[.slice (some ⟨g,0,none⟩) n n] ++ rc) W fun e w'=>e=.returned (.tuple #[valV ng mag exp cut sd,.int .i64 er])∧Below W.heap.size W w')
    (CT:∀ W,Below w.heap.size w W->Calls Tryz.prog G #[valV ng mag exp cut true,wayV way] W fun e w'=>e=.returned (.tuple #[.int .i64 b,.bool o])∧Below W.heap.size W w') :
    Calls Tryz.prog 44 #[.agg #[.func (.func F) #[] #[],.func (.func G) #[] #[]],.int .i64 near,.int .i64 way,.func (.func Rf) #[] rc,.slice oo n cap] w fun e w'=>e=.returned (.tuple #[.int .i64 (opT er mag sd b near),.int .i64 0])∧Below w.heap.size w w':=by
  have hst:∀ (p:Addr) (F:Nat) (m:Mode) (w:World),(store p (.func (.func F) #[] #[]) m).run Tryz.prog w=stored Tryz.prog w p (.func (.func F) #[] #[]) m:=fun p F m w=>run_store _ w p _ m rfl
  have hw0:0 <= way∧way <= 3:=by omega
  have hne:way ≠ 0:=by omega
  unfold valV wayV at *
  have CW:=fun W=>wayOf_any way W
  rw [if_pos hw0,decide_eq_true hw0] at CW
  unfold wayV at CW
  generalize wayF way=K at *
  have HV:Hid _:=CV
  have HR:Hid _:=CR
  have HT:Hid _:=CT
  clear CV CR CT
  have hb1:=bel_alloc w (.cells #[.func (.func F) #[] #[],.func (.func G) #[] #[]] 41)
  have q1:=heap_alloc_new w (.cells #[.func (.func F) #[] #[],.func (.func G) #[] #[]] 41)
  go_enter Tryz.func44,Tryz.ntmps44
  go_wp2_with fail
  generalize w.alloc (.cells #[.func (.func F) #[] #[],.func (.func G) #[] #[]] 41)=x0 at hb1 q1 ⊢
  refine (CW _).mono ?_
  rintro _ w2 ⟨rfl,hb2⟩
  have q2:=heap_alloc_new w2 (.cells #[.nilFunc] 59)
  have y0:=blkC q2 0 rfl
  have y1:=blkF q2 0
  have p1:=(hb2.block _ (Array.getElem?_eq_some_iff.1 q1).1).trans q1
  have hb3:=bel_alloc w2 (.cells #[.func (.func K) #[] #[]] 59)
  have p2:=(hb3.block _ (Array.getElem?_eq_some_iff.1 p1).1).trans p1
  have q3:=heap_alloc_new w2 (.cells #[.func (.func K) #[] #[]] 59)
  have c0:=blkC p2 0 rfl
  have c1:=blkC p2 1 rfl
  have hbx:=bel_trans (bel_trans hb1 hb2) hb3
  clear CW q1 p1
  go_wp2_with fail
  generalize w2.alloc (.cells #[.func (.func K) #[] #[]] 59)=x3 at hb3 p2 q3 c0 c1 hbx ⊢
  refine (HV.out _ hbx).mono ?_
  rintro _ w4 ⟨g,q,rfl,hg,hN,hb4,hf⟩
  have hb5:=bel_trans hbx hb4
  have p2:=(hb4.block _ (Array.getElem?_eq_some_iff.1 p2).1).trans p2
  have q3:=(hb4.block _ (Array.getElem?_eq_some_iff.1 q3).1).trans q3
  clear c0 c1 y0 y1 q2
  go_wp2_with fail
  refine (HR.out _ g q hb5 hN hf).mono ?_
  rintro _ w6 ⟨rfl,hb6⟩
  have hb7:=bel_trans hb5 hb6
  have p2:=(hb6.block _ (Array.getElem?_eq_some_iff.1 p2).1).trans p2
  have q3:=(hb6.block _ (Array.getElem?_eq_some_iff.1 q3).1).trans q3
  clear HV HR hN hf
  have hb8:=bel_alloc w6 (.cells #[.bool ng,.int .u64 mag,.int .i64 exp,.bool cut,.bool sd] 65)
  have q8:=heap_alloc_new w6 (.cells #[.bool ng,.int .u64 mag,.int .i64 exp,.bool cut,.bool sd] 65)
  have x1':=blkC q8 1 rfl
  have x4':=blkC q8 4 rfl
  have z4':=blkF q8 4
  have hb9:=bel_trans hb7 hb8
  have hbX:=bel_alloc w6 (.cells #[.bool ng,.int .u64 mag,.int .i64 exp,.bool cut,.bool true] 65)
  have qX:=heap_alloc_new w6 (.cells #[.bool ng,.int .u64 mag,.int .i64 exp,.bool cut,.bool true] 65)
  have pX:=(hbX.block _ (Array.getElem?_eq_some_iff.1 p2).1).trans p2
  have rX:=(hbX.block _ (Array.getElem?_eq_some_iff.1 q3).1).trans q3
  have u1:=blkC pX 1 rfl
  have u2:=blkC rX 0 rfl
  have v0:=blkC qX 0 rfl
  have v1:=blkC qX 1 rfl
  have v2:=blkC qX 2 rfl
  have v3:=blkC qX 3 rfl
  have v4:=blkC qX 4 rfl
  have hbY:=bel_trans hb7 hbX
  clear q8 qX pX rX p2 q3 hb8 hbX
  by_cases he:er=0
  . subst he
    by_cases hm:mag=0
    . subst hm
      cases sd
      . go_wp2
        all_goals refine bodyPost_ret (v:=.tuple #[.int .i64 near,.int .i64 0]) (by simp [results,Tryz.results44,go_sem]) rfl ⟨by simp [opT],hb9⟩
      . have e0:((0:Nat):Int)=0:=rfl
        have HT:=HT.out
        simp only [e0] at HT hbY u1 u2 v0 v1 v2 v3 v4
        go_wp2_with fail
        refine (HT _ hbY).mono ?_
        rintro _ w10 ⟨rfl,hb10⟩
        go_wp2
        all_goals refine bodyPost_ret (v:=.tuple #[.int .i64 b,.int .i64 0]) (by simp [results,Tryz.results44,go_sem]) rfl ⟨by simp [opT],bel_trans hbY hb10⟩
    . have hm':¬ ((mag:Int)=0):=by omega
      go_wp2_with fail
      refine (HT.out _ hbY).mono ?_
      rintro _ w10 ⟨rfl,hb10⟩
      go_wp2
      all_goals refine bodyPost_ret (v:=.tuple #[.int .i64 b,.int .i64 0]) (by simp [results,Tryz.results44,go_sem]) rfl ⟨by simp [opT,hm],bel_trans hbY hb10⟩
  . go_wp2
    all_goals refine bodyPost_ret (v:=.tuple #[.int .i64 near,.int .i64 0]) (by simp [results,Tryz.results44,go_sem]) rfl ⟨by simp [opT,he],hb9⟩
set_option maxRecDepth 100000 in
set_option maxHeartbeats 1000000 in
theorem operate_not (way:Int) (hw:1 <= way∧way <= 3) (near:Int) (F G Rf:Nat) (rc:Array Value) (oo:Option Addr) (n cap:Nat) (w:World)
    (CV:∀ W,Below w.heap.size w W->Calls Tryz.prog 72 #[.agg #[.func (.func F) #[] #[],.func (.func G) #[] #[]],.slice oo n cap] W fun x w'=>x=.returned (.tuple #[.slice none 0 0,.bool false])∧Below W.heap.size W w') :
    Calls Tryz.prog 44 #[.agg #[.func (.func F) #[] #[],.func (.func G) #[] #[]],.int .i64 near,.int .i64 way,.func (.func Rf) #[] rc,.slice oo n cap] w fun e w'=>e=.returned (.tuple #[.int .i64 near,.int .i64 0])∧Below w.heap.size w w':=by
  have hst:∀ (p:Addr) (F:Nat) (m:Mode) (w:World),(store p (.func (.func F) #[] #[]) m).run Tryz.prog w=stored Tryz.prog w p (.func (.func F) #[] #[]) m:=fun p F m w=>run_store _ w p _ m rfl
  have hw0:0 <= way∧way <= 3:=by omega
  have hne:way ≠ 0:=by omega
  have CW:=fun W=>wayOf_any way W
  rw [if_pos hw0,decide_eq_true hw0] at CW
  unfold wayV at CW
  generalize wayF way=K at *
  have HV:Hid _:=CV
  clear CV
  have hb1:=bel_alloc w (.cells #[.func (.func F) #[] #[],.func (.func G) #[] #[]] 41)
  have q1:=heap_alloc_new w (.cells #[.func (.func F) #[] #[],.func (.func G) #[] #[]] 41)
  go_enter Tryz.func44,Tryz.ntmps44
  go_wp2_with fail
  generalize w.alloc (.cells #[.func (.func F) #[] #[],.func (.func G) #[] #[]] 41)=x0 at hb1 q1 ⊢
  refine (CW _).mono ?_
  rintro _ w2 ⟨rfl,hb2⟩
  have q2:=heap_alloc_new w2 (.cells #[.nilFunc] 59)
  have y0:=blkC q2 0 rfl
  have y1:=blkF q2 0
  have p1:=(hb2.block _ (Array.getElem?_eq_some_iff.1 q1).1).trans q1
  have hb3:=bel_alloc w2 (.cells #[.func (.func K) #[] #[]] 59)
  have p2:=(hb3.block _ (Array.getElem?_eq_some_iff.1 p1).1).trans p1
  have c0:=blkC p2 0 rfl
  have c1:=blkC p2 1 rfl
  have hbx:=bel_trans (bel_trans hb1 hb2) hb3
  clear CW q1 p1
  go_wp2_with fail
  refine (HV.out _ hbx).mono ?_
  rintro _ w4 ⟨rfl,hb4⟩
  go_wp2
  all_goals refine bodyPost_ret (v:=.tuple #[.int .i64 near,.int .i64 0]) (by simp [results,Tryz.results44,go_sem]) rfl ⟨rfl,bel_trans hbx hb4⟩
theorem Nums.at {w:World} {g n:Nat} {q:Nat->NumR} (h:Nums w (some ⟨g,0,none⟩) n n q) (i:Nat) (hi:i < n):At3 w g (i * 3) (q i):=by
  obtain ⟨b,off,he,hlt,hc⟩:=h.spot (by omega)
  cases he
  have:=hc i hi
  rwa [Nat.zero_add] at this
theorem nums_D {w:World} {g n:Nat} {q:Nat->NumR} {V:Nat->Int} (h:Nums w (some ⟨g,0,none⟩) n n q) (hf:∀ i,i < n->Nrm (q i).d (q i).n∧Dy (V i) (q i).ng (val (q i).d (q i).n) (q i).e) (i:Nat) (hi:i < n):DNum w (q i).v (V i) :=
  ⟨_,_,_,_,rfl,(hf i hi).2,_,_,_,_,rfl,(h.at i hi).row,(hf i hi).1,rfl⟩
theorem keep6B {W w':World} {g:Nat} {a b c d e f:Value} (h:W.cell? ⟨g,0,none⟩=some a∧W.cell? ⟨g,1,none⟩=some b∧W.cell? ⟨g,2,none⟩=some c∧W.cell? ⟨g,3,none⟩=some d∧W.cell? ⟨g,4,none⟩=some e∧W.cell? ⟨g,5,none⟩=some f) (hb:Below W.heap.size W w') :
    w'.cell? ⟨g,0,none⟩=some a∧w'.cell? ⟨g,1,none⟩=some b∧w'.cell? ⟨g,2,none⟩=some c∧w'.cell? ⟨g,3,none⟩=some d∧w'.cell? ⟨g,4,none⟩=some e∧w'.cell? ⟨g,5,none⟩=some f :=
  ⟨cell_keeps h.1 hb,cell_keeps h.2.1 hb,cell_keeps h.2.2.1 hb,cell_keeps h.2.2.2.1 hb,cell_keeps h.2.2.2.2.1 hb,cell_keeps h.2.2.2.2.2 hb⟩
theorem okR_nil {x:NumR} (ok:okR x=true):x.V=0 ↔ x.n=0:=by
  have hd:=(okR_dy ok).1
  rw [hd.eq_zero]
  constructor
  . intro h
    rcases Nat.eq_zero_or_pos x.n with h0 | h0
    . exact h0
    . have:=val_pos (okR_sane ok).1 h0
      omega
  . intro h
    rw [h]; rfl
set_option maxRecDepth 100000 in
set_option maxHeartbeats 1000000 in
theorem total_val {w:World} {v:Value} {V way:Int} {nt ng:Bool} {m e:Int} (hx:DNum w v V) (ok:Dok V) (hy:Dy V ng m e) (hT:Tab w) (h:¬ (V=0∧way=1∧nt=false)) :
    Calls Tryz.prog 47 #[v,.int .i64 way,.bool nt] w fun r w'=>r=.returned (vlV ng m e false)∧Below w.heap.size w w':=by
  have CV:Hid (∀ W,Below w.heap.size w W->Calls Tryz.prog 77 #[v] W fun r w'=>r=.returned (vlV ng m e false)∧Below W.heap.size W w'):=fun W hb=>valueOf_D (hx.keeps hb) ok hy (hT.keeps hb)
  obtain ⟨x,rfl,hR,hok,rfl⟩:=hx.open ok
  have hnil:=okR_nil hok
  have hle:=hR.le
  have hma:=hR.max
  unfold vlV valV NumR.v at *
  generalize (m / 2 ^ vK m).toNat=Q at CV ⊢
  generalize e + vK m=E at CV ⊢
  generalize decide (m % 2 ^ vK m ≠ 0)=R at CV ⊢
  rw [hnil] at h
  clear hnil hok hx ok hy
  obtain ⟨x_g,x_o,x_n,x_c,x_d,x_e⟩:=x
  simp only at *
  have hb2:=bel_alloc2 w (.cells #[.bool x_g,.slice x_o x_n x_c,.int .i64 x_e] 79) (.cells #[.bool false,.int .u64 0,.int .i64 0,.bool false,.bool false] 65)
  have q1:=heap_b2 w (.cells #[.bool x_g,.slice x_o x_n x_c,.int .i64 x_e] 79) (.cells #[.bool false,.int .u64 0,.int .i64 0,.bool false,.bool false] 65)
  go_enter Tryz.func47,Tryz.ntmps47
  by_cases h1:x_n=0
  . by_cases h2:way=1
    . obtain rfl:nt=true:=by
        cases nt
        . exact absurd ⟨h1,h2,rfl⟩ h
        . rfl
      subst h1 h2
      go_wp2_with fail
      refine (CV.out _ hb2).mono ?_
      rintro _ w3 ⟨rfl,hb3⟩
      have p1:=(hb3.block _ (Array.getElem?_eq_some_iff.1 q1).1).trans q1
      have hbw:=bel_trans hb2 hb3
      have x0:=blkC p1 0 rfl
      have x1:=blkC p1 1 rfl
      have x2:=blkC p1 2 rfl
      have x3:=blkC p1 3 rfl
      have x4:=blkC p1 4 rfl
      have z0:=blkF p1 0
      have z1:=blkF p1 1
      have z2:=blkF p1 2
      have z3:=blkF p1 3
      have z4:=blkF p1 4
      go_wp2
      all_goals refine bodyPost_ret (v:=.agg #[.bool ng,.int .u64 Q,.int .i64 E,.bool R,.bool false]) (by simp [results,Tryz.results47,go_sem,x0,x1,x2,x3,x4]) rfl ⟨rfl,?_⟩
      all_goals exact (wr5 w3 (w.heap.size + 1) _ _ _ _ _).below hbw hbw.size (by omega)
    . subst h1
      go_wp2_with fail
      refine (CV.out _ hb2).mono ?_
      rintro _ w3 ⟨rfl,hb3⟩
      have p1:=(hb3.block _ (Array.getElem?_eq_some_iff.1 q1).1).trans q1
      have hbw:=bel_trans hb2 hb3
      have x0:=blkC p1 0 rfl
      have x1:=blkC p1 1 rfl
      have x2:=blkC p1 2 rfl
      have x3:=blkC p1 3 rfl
      have x4:=blkC p1 4 rfl
      have z0:=blkF p1 0
      have z1:=blkF p1 1
      have z2:=blkF p1 2
      have z3:=blkF p1 3
      have z4:=blkF p1 4
      go_wp2
      all_goals refine bodyPost_ret (v:=.agg #[.bool ng,.int .u64 Q,.int .i64 E,.bool R,.bool false]) (by simp [results,Tryz.results47,go_sem,x0,x1,x2,x3,x4]) rfl ⟨rfl,?_⟩
      all_goals exact (wr5 w3 (w.heap.size + 1) _ _ _ _ _).below hbw hbw.size (by omega)
  . have h1':¬ ((x_n:Int)=0):=by omega
    go_wp2_with fail
    refine (CV.out _ hb2).mono ?_
    rintro _ w3 ⟨rfl,hb3⟩
    have p1:=(hb3.block _ (Array.getElem?_eq_some_iff.1 q1).1).trans q1
    have hbw:=bel_trans hb2 hb3
    have x0:=blkC p1 0 rfl
    have x1:=blkC p1 1 rfl
    have x2:=blkC p1 2 rfl
    have x3:=blkC p1 3 rfl
    have x4:=blkC p1 4 rfl
    have z0:=blkF p1 0
    have z1:=blkF p1 1
    have z2:=blkF p1 2
    have z3:=blkF p1 3
    have z4:=blkF p1 4
    go_wp2
    all_goals refine bodyPost_ret (v:=.agg #[.bool ng,.int .u64 Q,.int .i64 E,.bool R,.bool false]) (by simp [results,Tryz.results47,go_sem,x0,x1,x2,x3,x4]) rfl ⟨rfl,?_⟩
    all_goals exact (wr5 w3 (w.heap.size + 1) _ _ _ _ _).below hbw hbw.size (by omega)
set_option maxRecDepth 100000 in
set_option maxHeartbeats 1000000 in
theorem total_neg {w:World} {v:Value} (hx:DNum w v 0) :
    Calls Tryz.prog 47 #[v,.int .i64 1,.bool false] w fun r w'=>r=.returned (valV true 0 0 false true)∧Below w.heap.size w w':=by
  obtain ⟨x,rfl,hR,hok,hV⟩:=hx.open dok_zero
  have hn:=(okR_nil hok).1 hV
  unfold valV NumR.v at *
  clear hok hx hV hR
  obtain ⟨x_g,x_o,x_n,x_c,x_d,x_e⟩:=x
  simp only at *
  subst hn
  go_enter Tryz.func47,Tryz.ntmps47
  go_wp2_with fail
  all_goals refine bodyPost_ret (v:=.agg #[.bool true,.int .u64 0,.int .i64 0,.bool false,.bool true]) (by simp [results,Tryz.results47,go_sem]) rfl ⟨rfl,bel_alloc2 _ _ _⟩
theorem operate_fin (way:Int) (hw:1 <= way∧way <= 3) (near:Int) (Rf:Nat) (rc:Array Value) (g n:Nat) (hn:n <= 100) (d:Nat->Int) (w:World) (hR:Row w (some ⟨g,0,none⟩) n n d) (hp:∀ i,i < n->pok (d i)=true) (H:Hold4 w) (ng:Bool) (mag:Nat) (exp:Int) (cut sd:Bool) (hm:mag < 18446744073709551616) (he:-4500000 <= exp∧exp <= 4500000)
    (hER:∀ (cap:Array Value) (w:World),(callFunc Rf cap).run Tryz.prog w=.ok (.enter Rf cap) w)
    (CR:∀ W g q,Below w.heap.size w W->Nums W (some ⟨g,0,none⟩) n n q->(∀ i,i < n->Nrm (q i).d (q i).n∧Dy (patV (d i)) (q i).ng (val (q i).d (q i).n) (q i).e)->Calls Tryz.prog Rf (#[.slice (some ⟨g,0,none⟩) n n] ++ rc) W fun e w'=>e=.returned (.tuple #[valV ng mag exp cut sd,.int .i64 0])∧Below W.heap.size W w') :
    Calls Tryz.prog 44 #[.agg #[.func (.func 43) #[] #[],.func (.func 39) #[] #[]],.int .i64 near,.int .i64 way,.func (.func Rf) #[] rc,.slice (some ⟨g,0,none⟩) n n] w fun e w'=>e=.returned (.tuple #[.int .i64 (opT 0 mag sd (r64 way ng true mag exp cut).1 near),.int .i64 0])∧Below w.heap.size w w':=by
  have hEF:∀ (cap:Array Value) (w:World),(callFunc 43 cap).run Tryz.prog w=.ok (.enter 43 cap) w:=by
    intro cap w
    simp [go_sem]
  have hEG:∀ (cap:Array Value) (w:World),(callFunc 39 cap).run Tryz.prog w=.ok (.enter 39 cap) w:=by
    intro cap w
    simp [go_sem]
  exact operate_go way hw near _ _ Rf rc _ n n w (fun i=>patV (d i)) ng mag exp cut sd 0 _ _ hEG hER
    (fun W hb=>(values_ok _ _ _ n n d _ W (hR.keeps hb) (by omega) hEF (fun i hi W' hb'=>of_ok (hp i hi) ((H.keeps hb).keeps hb'))).mono fun r w' h=>by
      obtain ⟨g,q,e1,e2,e3,e4,e5⟩:=h
      exact ⟨g,q,e1,e2,e3,e4,e5⟩)
    CR (fun W hb=>binary64_any way (by omega) ng true mag exp cut W (H.keeps hb).env hm he)
theorem operate_inf (way:Int) (hw:1 <= way∧way <= 3) (near:Int) (Rf:Nat) (rc:Array Value) (g n:Nat) (hn:n <= 100) (d:Nat->Int) (w:World) (hR:Row w (some ⟨g,0,none⟩) n n d) (K:Nat) (hK:K < n) (hp:∀ i,i < K->pok (d i)=true) (hq:pok (d K)=false) (H:Hold4 w) :
    Calls Tryz.prog 44 #[.agg #[.func (.func 43) #[] #[],.func (.func 39) #[] #[]],.int .i64 near,.int .i64 way,.func (.func Rf) #[] rc,.slice (some ⟨g,0,none⟩) n n] w fun e w'=>e=.returned (.tuple #[.int .i64 near,.int .i64 0])∧Below w.heap.size w w':=by
  have hEF:∀ (cap:Array Value) (w:World),(callFunc 43 cap).run Tryz.prog w=.ok (.enter 43 cap) w:=by
    intro cap w
    simp [go_sem]
  exact operate_not way hw near _ _ Rf rc _ n n w (fun W hb=>values_no _ _ _ n n d (fun i=>patV (d i)) W (hR.keeps hb) (by omega) K hK hEF (fun i hi W' hb'=>of_ok (hp i hi) ((H.keeps hb).keeps hb')) (fun W' hb'=>of_no hq ((H.keeps hb).keeps hb')))
end Go.Proofs.YteglfnnbpilheaaGreatDoor
