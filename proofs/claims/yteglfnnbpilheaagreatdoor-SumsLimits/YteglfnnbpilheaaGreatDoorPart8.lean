/- Parts of the proof. -/
import Derived.Test.YteglfnnbpilheaaGreatDoorPart7
import Derived.ArgAppend
import Derived.Lib.AppendZerosOnto
set_option linter.unusedVariables false
set_option linter.unusedSimpArgs false
namespace Go.Proofs.YteglfnnbpilheaaGreatDoor
open Go Go.RowKit Go.Proofs.YteglfnnbpilheaaGreatDoor.M Ieee
def iV (p:Int):Int:=sg (decide (p < 0)) (V Ieee.double (rg p).toNat:Int)
theorem patV_iV {p:Int} (hp:rng p) (h:pok p=true):patV p=iV p * pw (-1074):=by
  rw [patV_dec hp h]; unfold iV vS; rw [sg_prod]
theorem nat_two (n k:Nat):((n * 2 ^ k:Nat):Int)=2 ^ k * (n:Int):=by rw [Int.natCast_mul,Int.mul_comm]; simp
theorem k_ne {S q:Int} (hq:0 < q) (h:S ≠ 0):S * q ≠ 0:=fun c=>by
  rcases Int.mul_eq_zero.1 c with d | d <;> omega
theorem k_neg {S q:Int} (hq:0 < q):decide (S * q < 0)=decide (S < 0):=by
  congr 1
  exact propext (lt_zero_iff hq).symm
theorem k_abs {S q A:Int} (hq:0 < q) (h:S * q=sg (decide (S < 0)) A):A=(S.natAbs:Int) * q:=by
  have:=natAbs_sg (t:=S) hq
  rw [this] at h
  exact (sg_inj h).symm
theorem k_back {S h:Int} (n:Nr (S.natAbs:Int) h):Nr S (sg (decide (S < 0)) h):=by
  by_cases c:S < 0
  . rw [decide_eq_true c]
    have n2:=n.neg
    have e:-(S.natAbs:Int)=S:=by omega
    rw [e] at n2
    exact n2
  . rw [decide_eq_false c]
    have e:(S.natAbs:Int)=S:=by omega
    rw [e] at n
    exact n
theorem fl_V (r:Nat):Fl (V Ieee.double r:Int):=by
  unfold V
  rw [dBin]
  by_cases h:r < 4503599627370496
  . rw [if_pos h]
    exact ⟨0,⟨r,by simp⟩,by simp; omega⟩
  . rw [if_neg h]
    have hm:=Nat.mod_lt r (show 0 < 4503599627370496 by decide)
    obtain ⟨n,hn⟩:∃ n,4503599627370496 + r % 4503599627370496=n:=⟨_,rfl⟩
    rw [hn]
    refine ⟨r / 4503599627370496 - 1,⟨n,nat_two _ _⟩,?_⟩
    rw [Int.natAbs_natCast,nat_two,Int.mul_comm]
    exact Int.mul_lt_mul_of_pos_right (by omega) (p2 _)
theorem V_fl {f:Int} (h:Fl f):∃ r:Nat,(f.natAbs:Int)=(V Ieee.double r:Int):=by
  obtain ⟨k,b,c⟩:=binade (f.natAbs:Int) (by omega)
  rcases Nat.eq_zero_or_pos k with g | g
  . subst g
    have:=V_parts Ieee.double 0 f.natAbs (.inl ⟨rfl,by rw [dBin]; simp at b; omega⟩)
    exact ⟨_,by rw [this]; simp⟩
  . have c2:4503599627370496 * 2 ^ k <= (f.natAbs:Int):=by
      rcases c with c | c
      . omega
      . exact c
    obtain ⟨t,ht⟩:=fl_units h c2
    have e:(f.natAbs:Int)=2 ^ k * (t.natAbs:Int):=by rw [ht,natAbs_p2]
    rw [e] at b c2
    have hk:=p2 k
    have b2:(t.natAbs:Int) < 9007199254740992:=Int.lt_of_mul_lt_mul_left (by rw [Int.mul_comm (2 ^ k) 9007199254740992]; exact b) (Int.le_of_lt hk)
    have c3:4503599627370496 <= (t.natAbs:Int):=Int.le_of_mul_le_mul_left (by rw [Int.mul_comm (2 ^ k) 4503599627370496]; exact c2) hk
    have:=V_parts Ieee.double k t.natAbs (.inr ⟨by rw [dBin]; omega,by rw [dBin]; omega⟩)
    exact ⟨_,by rw [this,e]; push_cast; rw [Int.mul_comm]⟩
theorem V_le {r s:Nat} (h:r <= s):(V Ieee.double r:Int) <= V Ieee.double s:=by
  rcases Nat.lt_or_eq_of_le h with g | g
  . have:=V_lt Ieee.double g; omega
  . rw [g]; omega
theorem nr_V {S:Int} {ng:Bool} {r0:Nat} {left:Int} (h0:0 <= S) (hR:Rung (S * pw (-1074)) r0 left) (hf:rTo 0 ng r0 left < 9218868437227405312):Nr S (V Ieee.double (rTo 0 ng r0 left).toNat:Int):=by
  obtain ⟨lo,hi,l0,l1,l2,l3⟩:=hR
  have hq:=pw_pos (-1074)
  unfold vS at *
  generalize pw (-1074)=q at *
  have g1:(V Ieee.double r0:Int) <= S:=Int.le_of_mul_le_mul_right lo hq
  have g2:S < (V Ieee.double (r0 + 1):Int):=Int.lt_of_mul_lt_mul_right hi (Int.le_of_lt hq)
  have g3:left=2->2 * S=(V Ieee.double r0:Int) + V Ieee.double (r0 + 1):=fun c=>by
    have:=l2.1 c
    rw [<- Int.add_mul,<- Int.mul_assoc] at this
    exact Int.eq_of_mul_eq_mul_right (by omega) this
  have g4:left=3->(V Ieee.double r0:Int) + V Ieee.double (r0 + 1) < 2 * S:=fun c=>by
    have:=l3.1 c
    rw [<- Int.add_mul,<- Int.mul_assoc] at this
    exact Int.lt_of_mul_lt_mul_right this (Int.le_of_lt hq)
  have g5:left ≠ 3->2 * S <= (V Ieee.double r0:Int) + V Ieee.double (r0 + 1):=fun c=>by
    rcases Int.lt_or_le ((V Ieee.double r0:Int) + V Ieee.double (r0 + 1)) (2 * S) with d | d
    . have:=Int.mul_lt_mul_of_pos_right d hq
      rw [Int.add_mul,Int.mul_assoc] at this
      exact absurd (l3.2 this) c
    . exact d
  clear l0 l1 l2 l3 lo hi
  have far:∀ f:Int,Fl f->f <= V Ieee.double r0∨V Ieee.double (r0 + 1) <= f:=by
    intro f hf
    obtain ⟨s,hs⟩:=V_fl hf
    rcases Nat.lt_or_ge r0 s with c | c
    . have:=V_le (show r0 + 1 <= s from c)
      have:=V_le (show 0 <= r0 by omega)
      omega
    . have:=V_le c
      omega
  unfold rTo at hf ⊢
  by_cases hr:(r0:Int) < 9218868437227405312
  . rw [if_pos hr] at hf ⊢
    cases hu:rUp 0 ng (decide (r0 % 2=1)) left
    . rw [if_neg (by decide)]
      have e:((r0:Int) + 0).toNat=r0:=by omega
      rw [e]
      have hl:left ≠ 3:=fun c=>by
        subst c
        unfold rUp at hu
        simp at hu
      refine ⟨fl_V r0,fun f hf=>?_⟩
      have:=far f hf
      have:=g5 hl
      omega
    . rw [if_pos rfl]
      have e:((r0:Int) + 1).toNat=r0 + 1:=by omega
      rw [e]
      have hl:left=3∨left=2:=by
        unfold rUp at hu
        simp at hu
        rcases hu with c | c
        . exact .inl c
        . exact .inr c.1
      refine ⟨fl_V (r0 + 1),fun f hf=>?_⟩
      have:=far f hf
      rcases hl with c | c
      . have:=g4 c; omega
      . have:=g3 c; omega
  . rw [if_neg hr] at hf
    unfold bRung rUp at hf
    simp at hf
def maxV:Int:=(V Ieee.double 9218868437227405311:Int)
theorem fin_V {S:Int} {ng:Bool} {r0:Nat} {left:Int} (h0:S <= maxV) (hR:Rung (S * pw (-1074)) r0 left):rTo 0 ng r0 left < 9218868437227405312:=by
  obtain ⟨lo,hi,l0,l1,l2,l3⟩:=hR
  have hq:=pw_pos (-1074)
  unfold vS at *
  generalize pw (-1074)=q at *
  have g1:(V Ieee.double r0:Int) <= S:=Int.le_of_mul_le_mul_right lo hq
  have hr:r0 <= 9218868437227405311:=by
    rcases Nat.lt_or_ge 9218868437227405311 r0 with c | c
    . have:=V_lt Ieee.double c
      unfold maxV at h0
      omega
    . exact c
  unfold rTo
  rw [if_pos (by omega)]
  by_cases c:r0=9218868437227405311
  . have e:S=(V Ieee.double r0:Int):=by rw [c] at g1 ⊢; unfold maxV at h0; omega
    have:left=0:=l0.2 (by rw [e])
    subst this
    rw [if_neg (fun c=>rUp_left c)]
    omega
  . split <;> omega
theorem patS_parts {ng:Bool} {r:Int} (h0:0 <= r) (h1:r <= 9218868437227405312):rng (patS ng r)∧rg (patS ng r)=r∧decide (patS ng r < 0)=ng:=by
  unfold patS rng rg
  cases ng
  . simp only [Bool.false_eq_true,if_false]
    rw [if_neg (by omega)]
    exact ⟨by omega,rfl,decide_eq_false (by omega)⟩
  . simp only [if_true]
    rw [if_pos (by omega)]
    exact ⟨by omega,by omega,decide_eq_true (by omega)⟩
theorem patS_fin {ng:Bool} {r:Int} (h0:0 <= r) (h1:r <= 9218868437227405312):pok (patS ng r)=decide (r < 9218868437227405312):=by
  obtain ⟨a,b,_⟩:=patS_parts (ng:=ng) h0 h1
  have:=pok_rg a
  rw [b] at this
  cases h:pok (patS ng r)
  . refine (decide_eq_false fun c=>?_).symm
    rw [this.2 c] at h; cases h
  . exact (decide_eq_true (this.1 h)).symm
theorem iV_patS {ng:Bool} {r:Int} (h0:0 <= r) (h1:r <= 9218868437227405312):iV (patS ng r)=sg ng (V Ieee.double r.toNat:Int):=by
  obtain ⟨_,b,c⟩:=patS_parts (ng:=ng) h0 h1
  unfold iV
  rw [b,c]
theorem nr_zero:Nr 0 0:=⟨fl_zero,fun f _=>by omega⟩
theorem near_iV {S:Int} (h:S ≠ 0):rng (nearP (S * pw (-1074)))∧(pok (nearP (S * pw (-1074)))=true->Nr S (iV (nearP (S * pw (-1074)))))∧((S.natAbs:Int) <= maxV->pok (nearP (S * pw (-1074)))=true):=by
  have hq:=pw_pos (-1074)
  obtain ⟨A,r0,left,e1,hR,e2⟩:=nearP_rung (k_ne hq h)
  rw [k_neg hq] at e1 e2
  have hA:=k_abs hq e1
  rw [hA] at hR
  have hrr:=rTo_range 0 (decide (S < 0)) r0 left
  rw [e2]
  refine ⟨(patS_parts hrr.1 hrr.2).1,fun hp=>?_,fun hb=>?_⟩
  . rw [patS_fin hrr.1 hrr.2] at hp
    have n:=nr_V (ng:=decide (S < 0)) (Int.natCast_nonneg _) hR (of_decide_eq_true hp)
    rw [iV_patS hrr.1 hrr.2]
    exact k_back n
  . rw [patS_fin hrr.1 hrr.2]
    exact decide_eq_true (fin_V hb hR)
theorem nan_rng:rng 9221120237041090561:=by unfold rng; decide
theorem nan_no:pok 9221120237041090561=false:=by decide
theorem pok_of {p:Int} (hp:rng p) (h4:¬ cls p=4) (hi:¬ rg p=9218868437227405312):pok p=true:=by
  have:=(cls_rg hp).1
  rw [pok_rg hp]
  have:¬ 9218868437227405312 < rg p:=fun c=>h4 (this.2 c)
  omega
theorem inf_no {p:Int} (hp:rng p) (hi:rg p=9218868437227405312):¬ pok p=true:=fun h=>by
  have:=(pok_rg hp).1 h
  omega
theorem fin_cls {p:Int} (hp:rng p) (h:pok p=true):¬ cls p=4∧¬ rg p=9218868437227405312:=by
  have h1:=(pok_rg hp).1 h
  exact ⟨fun c=>by have:=(cls_rg hp).1.1 c; omega,by omega⟩
theorem fsum_args {p q:Int} (hp:rng p) (hq:rng q) (h:pok (fsum p q)=true):pok p=true∧pok q=true:=by
  unfold fsum at h
  by_cases c4:cls p=4∨cls q=4
  . rw [if_pos c4,nan_no] at h; cases h
  rw [if_neg c4] at h
  by_cases ci:rg p=9218868437227405312
  . rw [if_pos ci] at h
    by_cases cj:rg q=9218868437227405312∧decide (p < 0) ≠ decide (q < 0)
    . rw [if_pos cj,nan_no] at h; cases h
    . rw [if_neg cj] at h; exact absurd h (inf_no hp ci)
  rw [if_neg ci] at h
  by_cases cj:rg q=9218868437227405312
  . rw [if_pos cj] at h; exact absurd h (inf_no hq cj)
  exact ⟨pok_of hp (fun c=>c4 (.inl c)) ci,pok_of hq (fun c=>c4 (.inr c)) cj⟩
theorem zero_facts (g:Bool):rng (patS g 0)∧pok (patS g 0)=true∧iV (patS g 0)=0:=by
  refine ⟨(patS_parts (by decide) (by decide)).1,?_,?_⟩
  . rw [patS_fin (by decide) (by decide)]; decide
  . rw [iV_patS (by decide) (by decide)]
    show sg g (V Ieee.double 0:Int)=0
    rw [V_zero]
    exact sg_zero g
structure EStp (S p:Int):Prop where
  rn:rng p
  nr:pok p=true->Nr S (iV p)
  fin:(S.natAbs:Int) <= maxV->pok p=true
theorem stp_zero (g:Bool):EStp 0 (patS g 0):=by
  obtain ⟨a,b,c⟩:=zero_facts g
  exact ⟨a,fun _=>by rw [c]; exact nr_zero,fun _=>b⟩
theorem stp_near {S:Int} (h:S ≠ 0):EStp S (nearP (S * pw (-1074))):=by
  obtain ⟨a,b,c⟩:=near_iV h
  exact ⟨a,b,c⟩
theorem k_zero0 {T w:Int} (hw:0 < w) (d:T * w=0):T=0:=by
  rcases Int.mul_eq_zero.1 d with g | g <;> omega
theorem stp_sum {p q:Int} (hp:rng p) (hq:rng q) (pp:pok p=true) (pq:pok q=true):EStp (iV p + iV q) (fsum p q):=by
  obtain ⟨a1,a2⟩:=fin_cls hp pp
  obtain ⟨b1,b2⟩:=fin_cls hq pq
  have e:fsum p q=if iV p + iV q=0 then patS (decide (p < 0) && decide (q < 0)) 0 else nearP ((iV p + iV q) * pw (-1074)):=by
    unfold fsum
    rw [if_neg (fun c=>c.elim a1 b1),if_neg a2,if_neg b2,patV_iV hp pp,patV_iV hq pq,<- Int.add_mul]
    have hq:=pw_pos (-1074)
    by_cases c:iV p + iV q=0
    . rw [if_pos c,if_pos (by rw [c,Int.zero_mul])]
    . rw [if_neg c,if_neg (fun d=>c (k_zero0 hq d))]
  rw [e]
  by_cases c:iV p + iV q=0
  . rw [if_pos c,c]; exact stp_zero _
  . rw [if_neg c]; exact stp_near c
theorem neg_facts {q:Int} (hq:rng q) (h:pok q=true):rng (neg q)∧pok (neg q)=true∧iV (neg q)=-iV q:=by
  obtain ⟨b1,b2⟩:=fin_cls hq h
  have h1:=(pok_rg hq).1 h
  have e:neg q=patS (!decide (q < 0)) (rg q):=by
    unfold neg patS rg
    rw [if_neg b1]
    by_cases c:q < 0
    . rw [if_pos c,if_pos c,decide_eq_true c]; rfl
    . rw [if_neg c,if_neg c,decide_eq_false c]; rfl
  have h0:0 <= rg q:=by unfold rg; unfold rng at hq; split <;> omega
  obtain ⟨c1,c2,c3⟩:=patS_parts (ng:=!decide (q < 0)) h0 (by omega)
  refine ⟨by rw [e]; exact c1,by rw [e,patS_fin h0 (by omega)]; exact decide_eq_true h1,?_⟩
  rw [e,iV_patS h0 (by omega)]
  unfold iV
  rw [sg_not]
theorem neg_arg {q:Int} (hq:rng q) (h:pok (neg q)=true):pok q=true:=by
  unfold neg at h
  by_cases c:cls q=4
  . rw [if_pos c,nan_no] at h; cases h
  . by_cases ci:rg q=9218868437227405312
    . exfalso
      rw [if_neg c] at h
      have hr:rng (if q < 0 then q + 9223372036854775808 else q - 9223372036854775808):=by unfold rng at *; split <;> omega
      have:=(pok_rg hr).1 h
      unfold rg at this ci
      split at this <;> split at ci <;> split at this <;> omega
    . exact pok_of hq c ci
theorem neg_rng {q:Int} (hq:rng q):rng (neg q):=by
  unfold neg rng at *
  split
  . omega
  . split <;> omega
theorem stp_diff {p q:Int} (hp:rng p) (hq:rng q) (pp:pok p=true) (pq:pok q=true):EStp (iV p - iV q) (fsum p (neg q)):=by
  obtain ⟨a,b,c⟩:=neg_facts hq pq
  have:=stp_sum hp a pp b
  rw [c] at this
  exact this
theorem fdiff_args {p q:Int} (hp:rng p) (hq:rng q) (h:pok (fsum p (neg q))=true):pok p=true∧pok q=true:=by
  obtain ⟨a,b⟩:=fsum_args hp (neg_rng hq) h
  exact ⟨a,neg_arg hq b⟩
theorem fsum_rng {p q:Int} (hp:rng p) (hq:rng q):rng (fsum p q):=by
  by_cases h:pok p=true∧pok q=true
  . exact (stp_sum hp hq h.1 h.2).rn
  . unfold fsum
    by_cases c4:cls p=4∨cls q=4
    . rw [if_pos c4]; exact nan_rng
    rw [if_neg c4]
    by_cases ci:rg p=9218868437227405312
    . rw [if_pos ci]; split
      . exact nan_rng
      . exact hp
    rw [if_neg ci]
    by_cases cj:rg q=9218868437227405312
    . rw [if_pos cj]; exact hq
    exact absurd ⟨pok_of hp (fun c=>c4 (.inl c)) ci,pok_of hq (fun c=>c4 (.inr c)) cj⟩ h
def sV (p q:Int):Int:=fsum (fsum p q) (neg p)
def sL (p q:Int):Int:=fsum (fsum p (neg (fsum (fsum p q) (neg (sV p q))))) (fsum q (neg (sV p q)))
def fL (p q:Int):Int:=fsum q (neg (fsum (fsum p q) (neg p)))
def cC (p:Int):Int:=fprod 4728779608772575232 p
def spH (p:Int):Int:=fsum (cC p) (neg (fsum (cC p) (neg p)))
def spL (p:Int):Int:=fsum p (neg (spH p))
def pT1 (a b:Int):Int:=fsum (fprod a b) (neg (fprod (spH a) (spH b)))
def pT2 (a b:Int):Int:=fsum (pT1 a b) (neg (fprod (spL a) (spH b)))
def pT3 (a b:Int):Int:=fsum (pT2 a b) (neg (fprod (spH a) (spL b)))
def prL (a b:Int):Int:=fsum (fprod (spL a) (spL b)) (neg (pT3 a b))
end Go.Proofs.YteglfnnbpilheaaGreatDoor
/-
  Mathematics of whole numbers: a float's whole units,ints as floats,the order of floats in the model.
-/
namespace Go.Proofs.YteglfnnbpilheaaGreatDoor.M
open Go Ieee
theorem left_u {A q:Int} {u v:Nat} {l k:Int} (h:Left A u q l) (g:Left A v q k):¬ u < v:=fun c=>by
  have h1:=h.hi
  have h2:=g.lo
  have hq:0 < q:=by have:=h.lo; omega
  have h3:((u:Int) + 1) * q <= (v:Int) * q:=Int.mul_le_mul_of_nonneg_right (by omega) (by omega)
  rw [Int.add_mul,Int.one_mul] at h3
  omega
theorem Left.unique {A q:Int} {u v:Nat} {l k:Int} (h:Left A u q l) (g:Left A v q k):u=v∧l=k:=by
  have e:u=v:=by
    have h1:=left_u h g
    have h2:=left_u g h
    omega
  subst e
  refine ⟨rfl,?_⟩
  have lo:=h.lo
  have hi:=h.hi
  obtain ⟨T,hT⟩:∃ T,(u:Int) * q=T:=⟨_,rfl⟩
  rw [hT] at lo hi
  have a0:=h.l0
  have a1:=h.l1
  have a2:=h.l2
  have a3:=h.l3
  have b0:=g.l0
  have b1:=g.l1
  have b2:=g.l2
  have b3:=g.l3
  rw [hT] at a0 a1 a2 a3 b0 b1 b2 b3
  by_cases c0:A=T
  . rw [a0.2 c0,b0.2 c0]
  . by_cases c1:2 * A < 2 * T + q
    . rw [a1.2 ⟨by omega,c1⟩,b1.2 ⟨by omega,c1⟩]
    . by_cases c2:2 * A=2 * T + q
      . rw [a2.2 c2,b2.2 c2]
      . rw [a3.2 (by omega),b3.2 (by omega)]
end Go.Proofs.YteglfnnbpilheaaGreatDoor.M
namespace Go.Proofs.YteglfnnbpilheaaGreatDoor
open Go Go.RowKit Go.Proofs.YteglfnnbpilheaaGreatDoor.M Ieee
theorem k_mulS (m k:Nat) (q:Int):((m * 2 ^ k:Nat):Int) * q=(m:Int) * (2 ^ k * q):=by
  rw [Int.natCast_mul,Int.mul_assoc]
  congr 2
theorem small_rung {m:Nat} (h:m < 9007199254740992):∃ r:Nat,(m:Int) * pw 0=vS r∧(r:Int) < 9218868437227405312:=by
  by_cases h0:m=0
  . exact ⟨0,by rw [h0,vS_zero]; simp,by decide⟩
  obtain ⟨b1,b2,b3,b4⟩:=M.bitLen_spec m (Nat.lt_trans h (by decide)) h0
  have e53:(2:Nat) ^ 53=9007199254740992:=by decide
  have e52:(2:Nat) ^ 52=4503599627370496:=by decide
  have hb:Lib.bitLen m <= 53:=by
    have:=(Nat.pow_lt_pow_iff_right (by decide:1 < 2)).1 (Nat.lt_of_le_of_lt b1 (show m < 2 ^ 53 by omega))
    omega
  obtain ⟨L,hL⟩:∃ L,Lib.bitLen m=L:=⟨_,rfl⟩
  rw [hL] at b1 b2 b3 hb
  obtain ⟨d,hd⟩:∃ d,53=L + d:=⟨53 - L,by omega⟩
  have n1:4503599627370496 <= m * 2 ^ d:=by
    have:=Nat.mul_le_mul_right (2 ^ d) b1
    rw [<- Nat.pow_add,show L - 1 + d=52 by omega,e52] at this
    exact this
  have n2:m * 2 ^ d < 9007199254740992:=by
    have:=Nat.mul_lt_mul_of_pos_right b2 (Nat.two_pow_pos d)
    rw [<- Nat.pow_add,<- hd,e53] at this
    exact this
  have hV:=V_parts Ieee.double (1074 - d) (m * 2 ^ d) (.inr ⟨by rw [dBin]; exact n1,by rw [dBin]; omega⟩)
  rw [dBin] at hV
  have e:m * 2 ^ d * 2 ^ (1074 - d)=m * 2 ^ 1074:=by
    rw [Nat.mul_assoc,<- Nat.pow_add,show d + (1074 - d)=1074 by omega]
  rw [e] at hV
  refine ⟨(1074 - d) * 4503599627370496 + m * 2 ^ d,?_,by omega⟩
  unfold vS
  rw [hV]
  have hp:pw 0=2 ^ (0 - (-1074):Int).toNat * pw (-1074):=pw_sub (by decide) (by decide)
  rw [hp,show (0 - (-1074):Int).toNat=1074 by decide]
  exact (k_mulS _ _ _).symm
end Go.Proofs.YteglfnnbpilheaaGreatDoor
namespace Go.Proofs.YteglfnnbpilheaaGreatDoor
open Go Go.RowKit Go.Proofs.YteglfnnbpilheaaGreatDoor.M Ieee
theorem FW.rng {p:Int} {x:Nat} (h:FW p x):M.rng p:=by
  rcases h with ⟨_,h,_⟩ | ⟨rfl,_⟩
  . exact h
  . exact nan_rng
theorem fl_iV (p:Int):Fl (iV p):=by
  unfold iV
  cases decide (p < 0)
  . exact fl_V _
  . exact (fl_V _).neg
theorem iV_abs (p:Int):((iV p).natAbs:Int)=(V Ieee.double (rg p).toNat:Int):=by
  unfold iV sg
  cases decide (p < 0)
  . simp
  . simp
theorem sL_exact {p q:Int} (hp:rng p) (hq:rng q) (h:pok (sL p q)=true):(pok p=true∧pok q=true)∧pok (fsum p q)=true∧iV (fsum p q) + iV (sL p q)=iV p + iV q:=by
  have rh:=fsum_rng hp hq
  have rv:rng (sV p q):=fsum_rng rh (neg_rng hp)
  have rU:=fsum_rng rh (neg_rng rv)
  have rX:=fsum_rng hp (neg_rng rU)
  have rY:=fsum_rng hq (neg_rng rv)
  obtain ⟨pX,pY⟩:=fsum_args rX rY h
  obtain ⟨pp,pU⟩:=fdiff_args hp rU pX
  obtain ⟨pq,pv⟩:=fdiff_args hq rv pY
  obtain ⟨ph,_⟩:=fdiff_args rh hp pv
  have e:=two_sum (fl_iV p) (fl_iV q) ((stp_sum hp hq pp pq).nr ph) ((stp_diff rh hp ph pp).nr pv) ((stp_diff rh rv ph pv).nr pU) ((stp_diff hp rU pp pU).nr pX) ((stp_diff hq rv pq pv).nr pY) ((stp_sum rX rY pX pY).nr h)
  exact ⟨⟨pp,pq⟩,ph,by unfold sL; omega⟩
def fX (p q:Int):Bool:=pok (fL p q) && (!decide ((iV p).natAbs < (iV q).natAbs) || decide (iV (fL p q)=iV (fL q p)))
end Go.Proofs.YteglfnnbpilheaaGreatDoor
/-
  Package eft: math.Abs,FastTwoSum,reachable,TwoProd,by their contracts.
-/
namespace Go.Proofs.YteglfnnbpilheaaGreatDoor
open Go Go.RowKit Go.Proofs.YteglfnnbpilheaaGreatDoor.M Ieee
theorem FW.fin {p:Int} {x:Nat} (h:FW p x) (g:pok p=true):x=wd p:=by
  rcases h with ⟨_,_,h⟩ | ⟨rfl,_⟩
  . exact h
  . rw [nan_no] at g; cases g
end Go.Proofs.YteglfnnbpilheaaGreatDoor
namespace Go.Proofs.YteglfnnbpilheaaGreatDoor
open Go Go.RowKit Go.Proofs.YteglfnnbpilheaaGreatDoor.M Ieee
def reach (a b:Int):Bool:=decide (pmag a=0) || decide (pmag b=0) || decide (-1074 <= pexp a + jz (pmag a) + pexp b + jz (pmag b))
end Go.Proofs.YteglfnnbpilheaaGreatDoor
namespace Go.Proofs.YteglfnnbpilheaaGreatDoor
open Go Go.RowKit Go.Proofs.YteglfnnbpilheaaGreatDoor.M Ieee
def pX (p q:Int):Bool:=pok (prL p q) && reach p q
theorem iV_form {p:Int} (hp:rng p) (h:pok p=true):((iV p).natAbs:Int)=pmag p * 2 ^ (pexp p + 1074).toNat:=by
  have h0:=(pmag_in h).1
  rw [iV_abs,V_rg hp h,nat_two,Int.toNat_of_nonneg h0,Int.mul_comm]
end Go.Proofs.YteglfnnbpilheaaGreatDoor
namespace Go.Proofs.YteglfnnbpilheaaGreatDoor
open Go Go.RowKit Go.Proofs.YteglfnnbpilheaaGreatDoor.M
end Go.Proofs.YteglfnnbpilheaaGreatDoor
namespace Go.Proofs.YteglfnnbpilheaaGreatDoor
open Go Go.RowKit Go.Proofs.YteglfnnbpilheaaGreatDoor.M Ieee
end Go.Proofs.YteglfnnbpilheaaGreatDoor
namespace Go.Proofs.YteglfnnbpilheaaGreatDoor
open Go Go.RowKit Go.Proofs.YteglfnnbpilheaaGreatDoor.M
end Go.Proofs.YteglfnnbpilheaaGreatDoor
namespace Go.Proofs.YteglfnnbpilheaaGreatDoor.M
open Go Ieee
theorem q_rg {b:Int} (h:rng b):rng (rg b)∧0 <= rg b:=by unfold rng rg at *; split <;> omega
theorem q_cls {b:Int} (h:rng b):cls (rg b)=cls b:=by
  unfold rng at h; unfold cls rg fld frc
  by_cases h0:b < 0
  . rw [if_pos h0,show (b + 9223372036854775808) / 4503599627370496 % 2048=b / 4503599627370496 % 2048 from by omega,show (b + 9223372036854775808) % 4503599627370496=b % 4503599627370496 from by omega]
  . rw [if_neg h0]
theorem q_fin {b:Int} (h:pok b=true):¬ cls b=4:=by
  have:=pparts h
  unfold cls; rw [if_neg this]; split
  . split <;> omega
  . omega
theorem q_lt {a b:Int} (ha:rng a) (hb:rng b) (h1:¬ cls a=4) (h2:¬ cls b=4) (h:key a < key b):FloatKind.f64.format.order (wd a) (wd b)=some .lt:=by rw [order64 ha hb h1 h2,compare_lt h]
theorem q_gt {a b:Int} (ha:rng a) (hb:rng b) (h1:¬ cls a=4) (h2:¬ cls b=4) (h:key b < key a):FloatKind.f64.format.order (wd a) (wd b)=some .gt:=by rw [order64 ha hb h1 h2,compare_gt h]
theorem q_eq {a b:Int} (ha:rng a) (hb:rng b) (h1:¬ cls a=4) (h2:¬ cls b=4) (h:key a=key b):FloatKind.f64.format.order (wd a) (wd b)=some .eq:=by rw [order64 ha hb h1 h2,compare_eq h]
def tame (b:Int):Bool:=decide (rg b=0) || (decide (3931642474694443008 <= rg b) && decide (rg b < 5282722362905591808))
theorem pok_rg' {b:Int} (h:rng b):pok b=decide (rg b <= 9218868437227405311):=by
  obtain ⟨h0,h1⟩:=rg_parts h
  have h2:0 <= frc b∧frc b < 4503599627370496:=by unfold frc; omega
  have h3:0 <= fld b∧fld b < 2048:=by unfold fld; omega
  unfold pok
  by_cases e:fld b=2047
  . simp [e]; omega
  . simp [e]; omega
end Go.Proofs.YteglfnnbpilheaaGreatDoor.M
namespace Go.Proofs.YteglfnnbpilheaaGreatDoor
open Go Go.RowKit Go.Proofs.YteglfnnbpilheaaGreatDoor.M
def q0 (b:Int):Int:=if b=-9223372036854775808 then 0 else b
theorem q_cell {w w':World} {p:Addr} {v:Value} (h:w.cell? p=some v) (hb:Below w.heap.size w w'):w'.cell? p=some v :=
  (hb.cell (World.block_lt_of_cell? w _ h)).trans h
theorem Q4.keeps {a b:Nat} {x0 x1 x2 x3:Value} {W W':World} (h:W.cell? ⟨a,0,none⟩=some x0∧W.cell? ⟨a,1,none⟩=some x1∧W.cell? ⟨b,0,none⟩=some x2∧W.cell? ⟨b,1,none⟩=some x3) (hb:Below W.heap.size W W') :
    W'.cell? ⟨a,0,none⟩=some x0∧W'.cell? ⟨a,1,none⟩=some x1∧W'.cell? ⟨b,0,none⟩=some x2∧W'.cell? ⟨b,1,none⟩=some x3 :=
  ⟨q_cell h.1 hb,q_cell h.2.1 hb,q_cell h.2.2.1 hb,q_cell h.2.2.2 hb⟩
theorem RSum.shape {w w':World} {A B:Int} {x y:NumR} {v:Value} (h:RSum w w' A B x.v y.v v):∃ ng so sn sc e,v=.agg #[.bool ng,.slice so sn sc,.int .i64 e]:=by
  rcases h.2 with ⟨ng,s,m,e,rfl,_,hA⟩ | ⟨_,rfl⟩ | ⟨_,rfl⟩
  . obtain ⟨so,sn,sc,rfl⟩:=hA.num.shape
    exact ⟨_,_,_,_,_,rfl⟩
  . exact ⟨_,_,_,_,_,rfl⟩
  . exact ⟨_,_,_,_,_,rfl⟩
def Src (B:Nat) (w:World) (n:Nat) (r:Nat->NumR) (V:Int) (v:Value):Prop:=DAn B w V v∨∃ i,i < n∧v=(r i).v∧V=(r i).V
theorem Src.keeps {B:Nat} {w w':World} {n:Nat} {r:Nat->NumR} {V:Int} {v:Value} (h:Src B w n r V v) (hb:Below w.heap.size w w'):Src B w' n r V v:=by
  rcases h with h | h
  . exact .inl (h.keeps hb)
  . exact .inr h
theorem ints_set3 {w:World} {g o0 o1 o2:Nat} {xs:Array Value} {z:Nat × Nat} (hg:w.heap[g]?=some (.cells xs 79 z)) (x y u:Value):∀ (g':Nat) (cur:Array Value) z',w.heap[g']?=some (.cells cur 3 z')->(((w.setCell ⟨g,o0,none⟩ x).setCell ⟨g,o1,none⟩ y).setCell ⟨g,o2,none⟩ u).heap[g']?=w.heap[g']?:=fun g' cur z' hc=>by
  refine (wr3 w g o0 o1 o2 x y u).block g' (Array.getElem?_eq_some_iff.1 hc).1 fun e=>?_
  subst e
  rw [hg] at hc
  simp at hc
theorem blk_on {W y:World} (hb:Below W.heap.size W y) {g:Nat} {X:Obj} (h:W.heap[g]?=some X):y.heap[g]?=some X:=(hb.block _ (Array.getElem?_eq_some_iff.1 h).1).trans h
theorem dan_res3 {B:Nat} {w3:World} {V:Int} {v:Value} (hv:DAn B w3 V v) {g:Nat} {xs:Array Value} {z:Nat × Nat} (hg:w3.heap[g]?=some (.cells xs 79 z)) (a b c:Value) :
    DAn B (((w3.setCell ⟨g,0,none⟩ a).setCell ⟨g,1,none⟩ b).setCell ⟨g,2,none⟩ c) V v:=hv.of_blocks (ints_set3 hg a b c)
def Det (a1 a2 b1 b2 V:Int):Prop:=∃ C D,C * 2 ^ 4194304=a1 * b2∧D * 2 ^ 4194304=a2 * b1∧V=C - D
theorem Det.unique {a1 a2 b1 b2 V V':Int} (h:Det a1 a2 b1 b2 V) (k:Det a1 a2 b1 b2 V'):V=V':=by
  obtain ⟨C,D,h1,h2,rfl⟩:=h
  obtain ⟨C',D',k1,k2,rfl⟩:=k
  rw [scale_inj (h1.trans k1.symm),scale_inj (h2.trans k2.symm)]
theorem num_half {x:NumR} {V:Int} (ok:okR x=true) (hV:x.V=V) (hb:Bd 4000 V):Half x:=by
  have hy:=(okR_dy ok).1
  unfold Half
  rcases hy.form with ⟨_,_,h0⟩ | ⟨h0,_⟩
  . omega
  . rw [hV] at hy
    have:=bd_form hb hy (by omega) h0
    omega
theorem cell_set3 {W:World} {p:Addr} {v:Value} (h:W.cell? p=some v) {g o0 o1 o2:Nat} (x y z:Value) (hg:p.block ≠ g):(((W.setCell ⟨g,o0,none⟩ x).setCell ⟨g,o1,none⟩ y).setCell ⟨g,o2,none⟩ z).cell? p=some v :=
  ((wr3 W g o0 o1 o2 x y z).cell (World.block_lt_of_cell? W _ h) hg).trans h
set_option maxRecDepth 100000 in
set_option maxHeartbeats 2000000 in
theorem numbersF {FT:Nat} (ao:Option Addr) (n ca:Nat) (d:Nat->Int) (w:World) (hR:Row w ao n ca d) (hn:n <= 100000) (ok:∀ i,i < n->pok (d i)=true) (H:Hold4 w) :
    Calls Tryz.prog 79 #[.agg #[.func (.func 29) #[] #[],.func (.func 28) #[] #[],.func (.func 43) #[] #[],.func (.func FT) #[] #[]],.slice ao n ca] w fun x w'=>∃ g q,x=.returned (.slice (some ⟨g,0,none⟩) n n)∧Nums w' (some ⟨g,0,none⟩) n n q∧Below w.heap.size w w'∧∀ i,i < n->okR (q i)=true∧(q i).V=patV (d i)∧Half (q i):=by
  have hst:∀ p F c m w,(store p (.func (.func F) #[] c) m).run Tryz.prog w=stored Tryz.prog w p (.func (.func F) #[] c) m:=fun p F c m w=>run_store _ w p _ m rfl
  have hE:∀ (cap:Array Value) (w:World),(callFunc 43 cap).run Tryz.prog w=.ok (.enter 43 cap) w:=by intro cap w; simp [go_sem]
  have hla:=hR.le
  have hma:=hR.max
  have hmake:=make_nums n hn
  have hbA:=bel_alloc w (.cells #[.func (.func 29) #[] #[],.func (.func 28) #[] #[],.func (.func 43) #[] #[],.func (.func FT) #[] #[]] 50)
  have gA:=heap_a1 w (.cells #[.func (.func 29) #[] #[],.func (.func 28) #[] #[],.func (.func 43) #[] #[],.func (.func FT) #[] #[]] 50)
  have fA:=blkC gA 2 rfl
  go_enter Tryz.func79,Tryz.ntmps79
  go_wp2_with fail
  clear fA
  have HSA:Hid ((w.alloc (.cells #[.func (.func 29) #[] #[],.func (.func 28) #[] #[],.func (.func 43) #[] #[],.func (.func FT) #[] #[]] 50)).heap.size=w.heap.size + 1):=size_alloc _ _
  generalize w.alloc (.cells #[.func (.func 29) #[] #[],.func (.func 28) #[] #[],.func (.func 43) #[] #[],.func (.func FT) #[] #[]] 50)=wa at hbA gA HSA ⊢
  have hb0:=bel_alloc wa (.cells (madeCells #[.bool false,.slice none 0 0,.int .i64 0] (n * 3)) 79)
  have g0:=heap_a1 wa (.cells (madeCells #[.bool false,.slice none 0 0,.int .i64 0] (n * 3)) 79)
  have HB0:Hid (BlkN (wa.alloc (.cells (madeCells #[.bool false,.slice none 0 0,.int .i64 0] (n * 3)) 79)) wa.heap.size n 0 (fun _=>default)):=⟨_,g0,by rw [size_madeCells],fun i hi=>by omega⟩
  clear g0 hmake
  generalize wa.alloc (.cells (madeCells #[.bool false,.slice none 0 0,.int .i64 0] (n * 3)) 79)=wx at hb0 HB0 ⊢
  rw [HSA.out] at HB0
  go_loopw [12] (fun iv wr=>∃ (k:Nat) (q:Nat->NumR),k <= n∧iv=.int .i64 k∧Hid (BlkN wr (w.heap.size + 1) n k q)∧Hid (∀ i,i < k->okR (q i)=true∧(q i).V=patV (d i)∧Half (q i))∧Hid (∀ i b' off,i < k->(q i).ao=some ⟨b',off,none⟩->0 < (q i).n->(w.heap.size + 1) < b')∧Below wa.heap.size wa wr) (fun iv _=>n - (intOf iv).toNat)
  case atStart=>exact ⟨0,fun _=>default,Nat.zero_le _,(by first | rfl | simp),HB0,fun i hi=>by omega,fun i b' off hi=>by omega,hb0⟩
  case round=>
    obtain ⟨k,q,hk,rfl,HQ,HF,HG,hbw⟩:=hrel
    clear HB0 hb0
    by_cases hlt:k < n
    . obtain ⟨ba,oa,rfl,hba,hca⟩:=hR.spot (by omega)
      have c0:=q_cell (hca k hlt) (bel_trans hbA hbw)
      have c1:=q_cell (blkC gA 2 rfl) hbw
      have HW:=H.keeps (bel_trans hbA hbw)
      have CP:Hid (∀ W,Below wr.heap.size wr W->Calls Tryz.prog 43 #[.int .i64 (d k)] W fun r w'=>∃ v,r=.returned (.tuple #[v,.int .i64 0])∧DAns W w' (patV (d k)) v):=fun W h=>of_ok (ok k hlt) (HW.keeps h)
      obtain ⟨cur,hcur,hsz,hcells⟩:=HQ.out
      have e0:k * 3 < cur.size:=by omega
      have e1:k * 3 + 1 < cur.size:=by omega
      have e2:k * 3 + 2 < cur.size:=by omega
      obtain ⟨v0,hv0⟩:∃ v,cur[k * 3]?=some v:=⟨_,Array.getElem?_eq_getElem e0⟩
      obtain ⟨v1,hv1⟩:∃ v,cur[k * 3 + 1]?=some v:=⟨_,Array.getElem?_eq_getElem e1⟩
      obtain ⟨v2,hv2⟩:∃ v,cur[k * 3 + 2]?=some v:=⟨_,Array.getElem?_eq_getElem e2⟩
      have HV:Hid (cur[k * 3]?=some v0∧cur[k * 3 + 1]?=some v1∧cur[k * 3 + 2]?=some v2):=⟨hv0,hv1,hv2⟩
      have HCUR:Hid (wr.heap[(w.heap.size + 1)]?=some (.cells cur 79 (0,0))):=hcur
      have hgs:(w.heap.size + 1) < wr.heap.size:=(Array.getElem?_eq_some_iff.1 hcur).1
      have HBA:Hid (ba < w.heap.size):=hba
      clear hcells hv0 hv1 hv2 hcur hsz e0 e1 e2 hca hba
      have i0:(0:Int) <= (k:Int):=by omega
      have i1:(k:Int) < (n:Int):=by omega
      have hbp:Hid (Bd 4000 (patV (d k))):=patV_bd (ok k hlt)
      generalize hdk:d k=dk at c0 CP hbp
      generalize hpv:patV dk=pv at CP hbp
      have HPV:Hid (patV (d k)=pv):=by rw [hdk]; exact hpv
      clear hdk hpv
      have kc0:wr.drew.cell? ⟨ba,oa + k,none⟩=some (.int .i64 dk)∧wr.drew.cell? ⟨w.heap.size,2,none⟩=some (.func (.func 43) #[] #[]):=⟨c0,c1⟩
      have hb1:=bel_refl wr
      go_wp2_with fail
      go_region_held3 (fun W=>W.cell? ⟨ba,oa + k,none⟩=some (.int .i64 dk)∧W.cell? ⟨w.heap.size,2,none⟩=some (.func (.func 43) #[] #[]))
        (first | assumption | exact ⟨cell_set3 kc1.1 _ _ _ (show ba ≠ (w.heap.size + 1) by have:=HBA.out; omega),cell_set3 kc1.2 _ _ _ (show w.heap.size ≠ (w.heap.size + 1) by omega)⟩ | fail)
        ((go_at_call 43; refine (CP.out _ hb1.drew).mono ?_; rintro y w3 ⟨s,rfl,hA⟩; have hbv1:=hA.below; have kc1:=And.intro (q_cell kc0.1 hbv1) (q_cell kc0.2 hbv1); obtain ⟨sg0,so,sn,sc,se,rfl⟩:=dans_shape hA; have q0:=(hbv1.block (w.heap.size + 1) hgs).trans HCUR.out; have x0:=blkC q0 (k * 3) HV.out.1; have x1:=blkC q0 (k * 3 + 1) HV.out.2.1; have x2:=blkC q0 (k * 3 + 2) HV.out.2.2; have z0:=blkF q0 (k * 3); have z1:=blkF q0 (k * 3 + 1); have z2:=blkF q0 (k * 3 + 2)))
      all_goals go_wp2
      all_goals
        go_roundw
        case rel=>
          have hfr:∀ b' off,so=some ⟨b',off,none⟩->0 < sn->w.heap.size + 1 < b':=fun b' off he _=>by
            obtain ⟨ng,s,m,e,heq,_,hAn⟩:=hA
            simp only [Value.agg.injEq,Array.mk.injEq,List.cons.injEq,Value.bool.injEq,Value.int.injEq,true_and,and_true] at heq
            obtain ⟨_,rfl,_⟩:=heq
            obtain ⟨_,_,_,_,hgd⟩:=hAn.open
            have h9:=hgd b' off he
            have h8:w.heap.size + 1 < wr.drew.heap.size:=hgs
            omega
          obtain ⟨x,hxv,hxr,hxo,hxV⟩:=hA.num.open (hbp.out.ok (by omega))
          have hxe:x.ng=sg0∧x.ao=so∧x.n=sn∧x.cap=sc∧x.e=se:=by
            unfold NumR.v at hxv
            simp only [Value.agg.injEq,Array.mk.injEq,List.cons.injEq,Value.bool.injEq,Value.int.injEq,Value.slice.injEq,true_and,and_true] at hxv
            obtain ⟨e1,⟨e2,e3,e4⟩,e5⟩:=hxv
            exact ⟨e1.symm,e2.symm,e3.symm,e4.symm,e5.symm⟩
          obtain ⟨rfl,rfl,rfl,rfl,rfl⟩:=hxe
          refine ⟨k + 1,updN q k x,by omega,by go_num,BlkN.step (x:=x) HQ.out (bel_trans hb1.drew hbv1) hxr hlt HG.out hfr,fun i hi=>?_,fun i b' off hi he hn'=>?_,bel_set3' (bel_trans hbw (bel_trans hb1.drew hbv1)) (by have:=HSA.out; omega) _ _ _⟩
          . by_cases e:i=k
            . subst e
              rw [updN_same]
              exact ⟨hxo,hxV.trans HPV.out.symm,num_half hxo hxV hbp.out⟩
            . rw [updN_other _ _ e]
              exact HF.out i (by omega)
          . by_cases e:i=k
            . subst e
              rw [updN_same] at he hn'
              exact hfr b' off he hn'
            . rw [updN_other _ _ e] at he hn'
              exact HG.out i b' off (by omega) he hn'
        case measure=>simp [intOf]; omega
    . obtain rfl:k=n:=by omega
      go_wp2
      go_ret
      exact ⟨_,q,rfl,HQ.out.nums hn,bel_trans hbA hbw,HF.out⟩
end Go.Proofs.YteglfnnbpilheaaGreatDoor
namespace Go.Proofs.YteglfnnbpilheaaGreatDoor
open Go Go.RowKit Go.Proofs.YteglfnnbpilheaaGreatDoor.M Ieee
def RdP (way V p:Int):Prop:=∃ (A:Int) (r0:Nat) (left:Int),V=sg (decide (V < 0)) A∧Rung A r0 left∧p=patS (decide (V < 0)) (rTo way (decide (V < 0)) r0 left)
theorem RdP.unique {way V p q:Int} (h:RdP way V p) (k:RdP way V q):p=q:=by
  obtain ⟨A,r0,l,h1,h2,h3⟩:=h
  obtain ⟨B,s0,m,k1,k2,k3⟩:=k
  have hAB:=sg_inj (h1.symm.trans k1)
  subst hAB
  obtain ⟨e1,e2⟩:=h2.unique k2
  subst e1 e2
  rw [h3,k3]
end Go.Proofs.YteglfnnbpilheaaGreatDoor
namespace Go.Proofs.YteglfnnbpilheaaGreatDoor.M
open Go Ieee
end Go.Proofs.YteglfnnbpilheaaGreatDoor.M
namespace Go.Proofs.YteglfnnbpilheaaGreatDoor
open Go Go.RowKit Go.Proofs.YteglfnnbpilheaaGreatDoor.M
theorem run_sumN {P:Program} (t:TypeId) {p q:Int} {x y:Nat} (hx:FW p x) (hy:FW q y) (h:cls (fsum p q) ≠ 4) (w:World) :
    (binOp .add t (.float .f64 x) (.float .f64 y)).run P w=.ok (.float .f64 (wd (fsum p q))) w:=by
  obtain ⟨z,w',hr,hz⟩:=run_farith (P:=P) .add (.inl rfl) t x y w
  have hf:floatBits .add .f64 x y=Ieee.double.add x y:=rfl
  rw [hf] at hz
  rcases add_FW hx hy with ⟨z',e1,e2⟩ | ⟨e1,e2⟩
  . rcases hz with ⟨h1,h2⟩ | ⟨h1,_⟩
    . rw [e1] at h1; cases h1
      rw [hr,h2,(e2.of h).2.1]
    . rw [e1] at h1; cases h1
  . exact absurd (by rw [e2]; exact nan_canon) h
theorem run_diffN {P:Program} (t:TypeId) {p q:Int} {x y:Nat} (hx:FW p x) (hy:FW q y) (h:cls (fsum p (neg q)) ≠ 4) (w:World) :
    (binOp .sub t (.float .f64 x) (.float .f64 y)).run P w=.ok (.float .f64 (wd (fsum p (neg q)))) w:=by
  obtain ⟨z,w',hr,hz⟩:=run_farith (P:=P) .sub (.inr (.inl rfl)) t x y w
  have hf:floatBits .sub .f64 x y=Ieee.double.sub x y:=rfl
  rw [hf] at hz
  rcases sub_FW hx hy with ⟨z',e1,e2⟩ | ⟨e1,e2⟩
  . rcases hz with ⟨h1,h2⟩ | ⟨h1,_⟩
    . rw [e1] at h1; cases h1
      rw [hr,h2,(e2.of h).2.1]
    . rw [e1] at h1; cases h1
  . exact absurd (by rw [e2]; exact nan_canon) h
theorem V_zero_iff {r:Nat}:(V Ieee.double r:Int)=0 ↔ r=0:=by
  constructor
  . intro h
    by_cases h0:r=0
    . exact h0
    . have:=V_lt Ieee.double (show 0 < r by omega)
      rw [V_zero] at this
      omega
  . rintro rfl
    rw [V_zero]
    rfl
theorem iV_key {p:Int} (hp:rng p):(iV p < 0 ↔ key p < 0)∧(0 < iV p ↔ 0 < key p):=by
  have hz:=@V_zero_iff (rg p).toNat
  have hr:=q_rg hp
  unfold rng at hp
  have hv:(0:Int) <= (V Ieee.double (rg p).toNat:Int):=by omega
  by_cases h:p < 0
  . have e1:iV p=-(V Ieee.double (rg p).toNat:Int):=by unfold iV sg; simp [h]
    have e2:key p=-(rg p):=by unfold key rg; rw [if_pos h,if_pos h]
    rw [e1,e2]
    constructor <;> constructor <;> intro g <;> omega
  . have e1:iV p=(V Ieee.double (rg p).toNat:Int):=by unfold iV sg; simp [h]
    have e2:key p=rg p:=by unfold key rg; rw [if_neg h,if_neg h]
    rw [e1,e2]
    constructor <;> constructor <;> intro g <;> omega
end Go.Proofs.YteglfnnbpilheaaGreatDoor
namespace Go.Proofs.YteglfnnbpilheaaGreatDoor
open Go Go.RowKit Go.Proofs.YteglfnnbpilheaaGreatDoor.M Ieee
end Go.Proofs.YteglfnnbpilheaaGreatDoor
namespace Go.Proofs.YteglfnnbpilheaaGreatDoor
open Go Go.RowKit Go.Proofs.YteglfnnbpilheaaGreatDoor.M
theorem Nums.at {w:World} {g n:Nat} {q:Nat->NumR} (h:Nums w (some ⟨g,0,none⟩) n n q) (i:Nat) (hi:i < n):At3 w g (i * 3) (q i):=by
  obtain ⟨b,off,he,hlt,hc⟩:=h.spot (by omega)
  cases he
  have:=hc i hi
  rwa [Nat.zero_add] at this
structure Pts (w:World) (ao:Option Addr) (n cap:Nat) (px py:Nat->Int):Prop where
  le:n <= cap
  max:cap <= 9223372036854775807
  spot:0 < n->∃ b off,ao=some ⟨b,off,none⟩∧b < w.heap.size∧∀ i,i < n->w.cell? ⟨b,off + i * 2,none⟩=some (.int .i64 (px i))∧w.cell? ⟨b,off + i * 2 + 1,none⟩=some (.int .i64 (py i))
theorem Pts.keeps {w w':World} {ao:Option Addr} {n cap:Nat} {px py:Nat->Int} (h:Pts w ao n cap px py) (hb:Below w.heap.size w w'):Pts w' ao n cap px py :=
  ⟨h.le,h.max,fun hn=>by
    obtain ⟨b,off,rfl,hlt,hc⟩:=h.spot hn
    exact ⟨b,off,rfl,Nat.lt_of_lt_of_le hlt hb.size,fun i hi=>⟨(hb.cell (p:=⟨b,off + i * 2,none⟩) hlt).trans (hc i hi).1,(hb.cell (p:=⟨b,off + i * 2 + 1,none⟩) hlt).trans (hc i hi).2⟩⟩⟩
def l2 (a b:Int) (i:Nat):Int:=if i=0 then a else b
def l3 (a b c:Int) (i:Nat):Int:=if i=0 then a else if i=1 then b else c
end Go.Proofs.YteglfnnbpilheaaGreatDoor
namespace Go.Proofs.YteglfnnbpilheaaGreatDoor
open Go Go.RowKit Go.Proofs.YteglfnnbpilheaaGreatDoor.M Ieee
end Go.Proofs.YteglfnnbpilheaaGreatDoor
namespace Go.Proofs.YteglfnnbpilheaaGreatDoor
open Go Go.RowKit Go.Proofs.YteglfnnbpilheaaGreatDoor.M
structure Ls where
  n:Nat
  d:Nat->Int
def Ls.add (s:Ls) (b:Int):Ls:=if rg b=0 then s else ⟨s.n + 1,upd s.d s.n b⟩
def Ls.same (s t:Ls):Prop:=s.n=t.n∧∀ i,i < s.n->s.d i=t.d i
theorem Ls.same.add {s t:Ls} (h:s.same t) (b:Int):(s.add b).same (t.add b):=by
  unfold Ls.add
  split
  . exact h
  . refine ⟨by show s.n + 1=t.n + 1; rw [h.1],fun i hi=>?_⟩
    show upd s.d s.n b i=upd t.d t.n b i
    by_cases e:i=s.n
    . subst e; rw [upd_same,h.1,upd_same]
    . rw [upd_other _ _ e,upd_other _ _ (by rw [<- h.1]; exact e)]
      exact h.2 i (by have:i < s.n + 1:=hi; omega)
def gq (d:Nat->Int) (q:Int):Nat->Int
  | 0=>q
  | k + 1=>fsum (gq d q k) (d k)
def gl (d:Nat->Int) (q:Int) (k:Nat):Int:=sL (gq d q k) (d k)
def gs (d:Nat->Int) (q:Int):Nat->Ls
  | 0=>⟨0,d⟩
  | k + 1=>(gs d q k).add (gl d q k)
def gaveX:Ending:=.panicked [{ v:=.iface 25 (.int .i64 14),recovered:=false }]
structure Own (B:Nat) (w:World) (v:Value) (w':World) (v':Value) (s:Ls):Prop where
  out:Out B w' v' s.n s.d
  gr:w.grownBy w' v.ownBlock
  at':v'.ownBlock=v.ownBlock∨∀ k,v'.ownBlock=some k->w.heap.size <= k
theorem Own.refl {B:Nat} {w:World} {v:Value} {s:Ls} (h:Out B w v s.n s.d):Own B w v w v s:=⟨h,World.grownBy.refl _ _,.inl rfl⟩
theorem Own.below {B:Nat} {w w':World} {v v':Value} {s:Ls} (h:Own B w v w' v' s) (hO:∀ k,v.ownBlock=some k->B <= k) (hB:B <= w.heap.size):Below B w w' :=
  (Below.refl B w).grown h.gr hB hO
def InB (w:World) (g cap N:Nat) (s:Ls):Prop:=∃ cur,w.heap[g]?=some (.cells cur 3 (0,0))∧cur.size=cap∧∀ i,i < N->cur[i]?=some (.int .i64 (s.d i))
theorem InB.keeps {w w':World} {g cap N:Nat} {s:Ls} (h:InB w g cap N s) (hb:Below w.heap.size w w'):InB w' g cap N s:=by
  obtain ⟨cur,h1,h2⟩:=h
  exact ⟨cur,(hb.block _ (Array.getElem?_eq_some_iff.1 h1).1).trans h1,h2⟩
theorem InB.out {w:World} {B g cap N:Nat} {s:Ls} (h:InB w g cap N s) (hn:s.n <= N) (hN:N <= cap) (hB:B <= g) (hm:cap <= 9223372036854775807):Out B w (.slice (some ⟨g,0,none⟩) s.n cap) s.n s.d:=by
  obtain ⟨cur,h1,h2,h3⟩:=h
  refine ⟨by rw [vals_length]; omega,.inr ⟨g,cap,cur,rfl,hB,h1,by omega,by unfold maxLen; omega,by omega,?_⟩⟩
  apply vals_ext (by simp; omega)
  intro i hi
  rw [List.getElem?_take,if_pos (by omega),Array.getElem?_toList]
  exact h3 i (by omega)
theorem grown_bel {B:Nat} {w w':World} {g:Nat} (h:w.grownBy w' (some g)) (hB:B <= g) (hw:B <= w.heap.size):Below B w w' :=
  (Below.refl B w).grown h hw (fun k hk=>by simp at hk; omega)
def LsO (B:Nat) (w:World) (v:Value) (s:Ls):Prop:=Out B w v s.n s.d∨(s.n=0∧∃ ad,v=.slice (some ad) 0 0)
def XGr (B:Nat) (w:World) (v:Value) (w':World):Prop:=w.grownBy w' none∨∃ k,v.ownBlock=some k∧B <= k∧w.grownBy w' (some k)
theorem XGr.below {B:Nat} {w w':World} {v:Value} (h:XGr B w v w') (hB:B <= w.heap.size):Below B w w':=by
  rcases h with h | ⟨k,_,hk,h⟩
  . exact (Below.refl B w).grown h hB (fun k hk=>by cases hk)
  . exact grown_bel h hk hB
theorem XGr.size {B:Nat} {w w':World} {v:Value} (h:XGr B w v w'):w.heap.size <= w'.heap.size:=by
  rcases h with h | ⟨k,_,_,h⟩ <;> exact h.size
theorem LsO.lower {B B':Nat} {w:World} {v:Value} {s:Ls} (h:LsO B w v s) (hB:B' <= B):LsO B' w v s:=by
  rcases h with h | h
  . exact .inl (h.lower hB)
  . exact .inr h
def Ls.fin (s:Ls):Prop:=∀ i,i < s.n->rng (s.d i)∧pok (s.d i)=true
theorem Ls.fin.add {s:Ls} (h:s.fin) {b:Int} (hb:rng b) (pb:pok b=true):(s.add b).fin:=by
  unfold Ls.add
  split
  . exact h
  . intro i hi
    show rng (upd s.d s.n b i)∧pok (upd s.d s.n b i)=true
    by_cases e:i=s.n
    . subst e; rw [upd_same]; exact ⟨hb,pb⟩
    . rw [upd_other _ _ e]
      exact h i (by have:i < s.n + 1:=hi; omega)
theorem LsO.shape {B:Nat} {w:World} {v:Value} {s:Ls} (h:LsO B w v s):∃ ao cap,v=.slice ao s.n cap:=by
  rcases h with h | ⟨h0,ad,rfl⟩
  . obtain ⟨ao,cap,e,_⟩:=h.row
    exact ⟨ao,cap,e⟩
  . exact ⟨some ad,0,by rw [h0]⟩
def sq (d:Nat->Int) (b:Int):Nat->Int
  | 0=>fprod (d 0) b
  | k + 1=>fsum (fprod (d (k + 1)) b) (fsum (sq d b k) (prL (d (k + 1)) b))
def sx (d:Nat->Int) (b:Int):Nat->Bool
  | 0=>pX (d 0) b
  | k + 1=>sx d b k && (pX (d (k + 1)) b && (pok (sL (sq d b k) (prL (d (k + 1)) b)) && fX (fprod (d (k + 1)) b) (fsum (sq d b k) (prL (d (k + 1)) b))))
def XR (w:World) (ok:Bool) (s:Ls) (r:Ending) (w':World):Prop:=((ok=true∧∃ v,r=.returned v∧LsO w.heap.size w' v s)∨(ok=false∧r=gaveX))∧Below w.heap.size w w'
def XA (w:World) (ok:Bool) (s:Ls) (r:Ending) (w':World):Prop:=((ok=true∧∃ v,r=.returned (.tuple #[v,.int .i64 0])∧LsO w.heap.size w' v s)∨(ok=false∧r=.returned (.tuple #[.slice none 0 0,.int .i64 14])))∧Below w.heap.size w w'
end Go.Proofs.YteglfnnbpilheaaGreatDoor
namespace Go.Proofs.YteglfnnbpilheaaGreatDoor
open Go Go.RowKit Go.Proofs.YteglfnnbpilheaaGreatDoor.M Ieee
end Go.Proofs.YteglfnnbpilheaaGreatDoor
namespace Go.Proofs.YteglfnnbpilheaaGreatDoor
open Go Go.RowKit Go.Proofs.YteglfnnbpilheaaGreatDoor.M
theorem LsO.row {B:Nat} {w:World} {v:Value} {s:Ls} (h:LsO B w v s):∃ ao cap,v=.slice ao s.n cap∧Row w ao s.n cap s.d:=by
  rcases h with h | ⟨h0,ad,rfl⟩
  . exact h.row
  . rw [h0]
    exact ⟨some ad,0,rfl,Nat.le_refl _,by decide,(fun q=>by cases q),fun q=>by omega⟩
theorem XA.yes {w w':World} {ok:Bool} {s:Ls} {r:Ending} (h:XA w ok s r w') (ho:ok=true):∃ ao cap,r=.returned (.tuple #[.slice ao s.n cap,.int .i64 0])∧Row w' ao s.n cap s.d∧Below w.heap.size w w':=by
  obtain ⟨(⟨_,v,h1,h2⟩ | ⟨h1,_⟩),hb⟩:=h
  . obtain ⟨ao,cap,rfl,hR⟩:=h2.row
    exact ⟨ao,cap,h1,hR,hb⟩
  . rw [ho] at h1; cases h1
theorem XA.no {w w':World} {ok:Bool} {s:Ls} {r:Ending} (h:XA w ok s r w') (ho:ok=false):r=.returned (.tuple #[.slice none 0 0,.int .i64 14])∧Below w.heap.size w w':=by
  obtain ⟨(⟨h1,_⟩ | ⟨_,h1⟩),hb⟩:=h
  . rw [ho] at h1; cases h1
  . exact ⟨h1,hb⟩
end Go.Proofs.YteglfnnbpilheaaGreatDoor
namespace Go.Proofs.YteglfnnbpilheaaGreatDoor
open Go Go.RowKit Go.Proofs.YteglfnnbpilheaaGreatDoor.M Ieee
theorem pr_1 {a b h M:Int} (h1:((a.natAbs:Int) + b.natAbs) <= M):((a + b).natAbs:Int) <= M:=by omega
theorem pr_2 {a b h M:Int} (ha:2 * (a.natAbs:Int) <= M) (hb:2 * (b.natAbs:Int) <= M) (e1:(h - (a + b)).natAbs <= (a - (a + b)).natAbs):((h - a).natAbs:Int) <= M:=by omega
theorem pr_3 {a b h v M:Int} (ha:2 * (a.natAbs:Int) <= M) (e2:(h - (a + b)).natAbs <= (b - (a + b)).natAbs) (e3:(v - (h - a)).natAbs <= (b - (h - a)).natAbs):((h - v).natAbs:Int) <= M:=by omega
theorem pr_4 {a b h v u M:Int} (ha:2 * (a.natAbs:Int) <= M) (e2:(h - (a + b)).natAbs <= (b - (a + b)).natAbs) (e3:(v - (h - a)).natAbs <= (b - (h - a)).natAbs) (e4:(u - (h - v)).natAbs <= (a - (h - v)).natAbs):((a - u).natAbs:Int) <= M∧(a - u).natAbs <= 2 * (h - (a + b)).natAbs:=by omega
theorem pr_5 {a b h v M:Int} (hb:2 * (b.natAbs:Int) <= M) (e1:(h - (a + b)).natAbs <= (a - (a + b)).natAbs) (e3:(v - (h - a)).natAbs <= (b - (h - a)).natAbs):((b - v).natAbs:Int) <= M∧(b - v).natAbs <= 2 * (h - (a + b)).natAbs:=by omega
theorem pr_6 {S h x y p q M:Int} (hM:(S.natAbs:Int) <= M) (r:1000 * (h - S).natAbs <= S.natAbs) (g1:x.natAbs <= 2 * (h - S).natAbs) (g2:y.natAbs <= 2 * (h - S).natAbs) (n1:(p - x).natAbs <= (0 - x).natAbs) (n2:(q - y).natAbs <= (0 - y).natAbs):((p + q).natAbs:Int) <= M:=by omega
theorem sum_fin {p q:Int} (hp:M.rng p) (hq:M.rng q) (pp:pok p=true) (pq:pok q=true) (h1:2 * ((iV p).natAbs:Int) <= maxV) (h2:2 * ((iV q).natAbs:Int) <= maxV):pok (fsum p q)=true∧pok (sL p q)=true:=by
  have rh:=fsum_rng hp hq
  have rv:M.rng (sV p q):=fsum_rng rh (neg_rng hp)
  have rU:=fsum_rng rh (neg_rng rv)
  have rX:=fsum_rng hp (neg_rng rU)
  have rY:=fsum_rng hq (neg_rng rv)
  have Sh:=stp_sum hp hq pp pq
  have hM:=pr_1 (h:=0) (a:=iV p) (b:=iV q) (M:=maxV) (by omega)
  have ph:=Sh.fin hM
  have nh:=Sh.nr ph
  have e1:=nh.2 _ (fl_iV p)
  have e2:=nh.2 _ (fl_iV q)
  have Sv:=stp_diff rh hp ph pp
  have pv:=Sv.fin (pr_2 h1 h2 e1)
  have nv:=Sv.nr pv
  have e3:=nv.2 _ (fl_iV q)
  have SU:=stp_diff rh rv ph pv
  have pU:=SU.fin (pr_3 h1 e2 e3)
  have e4:=(SU.nr pU).2 _ (fl_iV p)
  have SX:=stp_diff hp rU pp pU
  obtain ⟨g1,g2⟩:=pr_4 h1 e2 e3 e4
  have pX:=SX.fin g1
  have SY:=stp_diff hq rv pq pv
  obtain ⟨g3,g4⟩:=pr_5 h2 e1 e3
  have pY:=SY.fin g3
  exact ⟨ph,(stp_sum rX rY pX pY).fin (pr_6 hM (nr_rel nh) g2 g4 ((SX.nr pX).2 _ fl_zero) ((SY.nr pY).2 _ fl_zero))⟩
end Go.Proofs.YteglfnnbpilheaaGreatDoor
namespace Go.Proofs.YteglfnnbpilheaaGreatDoor
open Go Go.RowKit Go.Proofs.YteglfnnbpilheaaGreatDoor.M
theorem cls_nought {b:Int} (hb:rng b):cls b=0 ↔ rg b=0:=by
  have h1:=q_cls hb
  rw [<- h1]
  constructor
  . intro h
    have hr:=(q_rg hb).1
    have h0:0 <= rg b:=(q_rg hb).2
    generalize rg b=r at *
    unfold rng at hr
    unfold cls fld frc at h
    split at h
    . split at h <;> omega
    . split at h
      . split at h
        . omega
        . omega
      . omega
  . intro h; rw [h]; decide
theorem Ls.same.refl (s:Ls):s.same s:=⟨rfl,fun _ _=>rfl⟩
theorem Ls.same.symm {s t:Ls} (h:s.same t):t.same s:=⟨h.1.symm,fun i hi=>(h.2 i (by rw [h.1]; exact hi)).symm⟩
theorem Ls.same.trans {s t u:Ls} (h:s.same t) (k:t.same u):s.same u:=⟨h.1.trans k.1,fun i hi=>(h.2 i hi).trans (k.2 i (by rw [<- h.1]; exact hi))⟩
def Lo (x y:Int):Prop:=∃ s:Nat,(x.natAbs:Int) < 2 ^ s∧(2 ^ s:Int) ∣ y
theorem dvd_abs_le {x y:Int} (h:x ∣ y) (h0:y ≠ 0) (hx:0 < x):x <= (y.natAbs:Int):=by
  have h1:x ∣ (y.natAbs:Int):=Int.dvd_natAbs.2 h
  exact Int.le_of_dvd (by omega) h1
theorem Lo.trans {x y z:Int} (h:Lo x y) (hy:y ≠ 0) (k:Lo y z):Lo x z:=by
  obtain ⟨s,h1,h2⟩:=h
  obtain ⟨t,k1,k2⟩:=k
  have h3:=dvd_abs_le h2 hy (p2 s)
  have h4:s < t:=p2lt (Int.lt_of_le_of_lt h3 k1)
  exact ⟨s,h1,Int.dvd_trans (p2dvd (by omega)) k2⟩
theorem iV_some {b:Int} (hb:rng b) (pb:pok b=true) (h:rg b ≠ 0):iV b ≠ 0∧pmag b ≠ 0:=by
  have e:=iV_form hb pb
  have hm:pmag b ≠ 0:=by
    intro q
    have hc:cls b=0:=by
      have hf:fld b ≠ 2047:=by simpa [pok] using pb
      have:=frc_le b
      unfold pmag at q
      rw [if_neg hf] at q
      unfold cls
      rw [if_neg hf]
      by_cases h0:fld b=0
      . rw [if_pos h0] at q ⊢
        rw [if_pos q]
      . rw [if_neg h0] at q
        omega
    exact h ((cls_nought hb).1 hc)
  refine ⟨fun q=>?_,hm⟩
  obtain ⟨i0,_⟩:=pmag_in pb
  have p1:=two_pos (pexp b + 1074).toNat
  have:0 < pmag b * 2 ^ (pexp b + 1074).toNat:=Int.mul_pos (by omega) p1
  rw [q] at e
  omega
structure XV (d:Nat->Int) (n:Nat):Prop where
  fin:∀ i,i < n->rng (d i)∧pok (d i)=true∧rg (d i) ≠ 0
  lo:∀ i,i + 1 < n->Lo (iV (d i)) (iV (d (i + 1)))
theorem XV.ne {d:Nat->Int} {n:Nat} (h:XV d n) {i:Nat} (hi:i < n):iV (d i) ≠ 0:=(iV_some (h.fin i hi).1 (h.fin i hi).2.1 (h.fin i hi).2.2).1
theorem XV.far {d:Nat->Int} {n:Nat} (h:XV d n) {i:Nat}:∀ {j},i < j->j < n->Lo (iV (d i)) (iV (d j))
  | 0,hij,_=>absurd hij (Nat.not_lt_zero _)
  | j + 1,hij,hj=>by
    by_cases e:i=j
    . subst e; exact h.lo i hj
    . exact (h.far (show i < j by omega) (by omega)).trans (h.ne (by omega)) (h.lo j hj)
theorem XV.add {s:Ls} (h:XV s.d s.n) {b:Int} (hb:rng b) (pb:pok b=true) (hlo:∀ i,i < s.n->Lo (iV (s.d i)) (iV b)):XV (s.add b).d (s.add b).n:=by
  unfold Ls.add
  split
  . exact h
  . rename_i hz
    refine ⟨fun i hi=>?_,fun i hi=>?_⟩
    . show rng (upd s.d s.n b i)∧pok (upd s.d s.n b i)=true∧rg (upd s.d s.n b i) ≠ 0
      by_cases e:i=s.n
      . subst e; rw [upd_same]; exact ⟨hb,pb,hz⟩
      . rw [upd_other _ _ e]; exact h.fin i (by have:i < s.n + 1:=hi; omega)
    . have hi':i + 1 < s.n + 1:=hi
      show Lo (iV (upd s.d s.n b i)) (iV (upd s.d s.n b (i + 1)))
      rw [upd_other _ _ (show i ≠ s.n by omega)]
      by_cases e:i + 1=s.n
      . rw [e,upd_same]; exact hlo i (by omega)
      . rw [upd_other _ _ e]; exact h.lo i (by omega)
theorem fsum_nr {p q:Int} (hp:rng p) (hq:rng q) (h:pok (sL p q)=true):Nr (iV p + iV q) (iV (fsum p q)):=by
  obtain ⟨⟨pp,pq⟩,ps,e⟩:=sL_exact hp hq h
  exact (stp_sum hp hq pp pq).nr ps
theorem maxV_ge:(2:Int) ^ 2097 <= maxV:=by
  have h:(2:Int) ^ 2097 <= (V Ieee.double 9218868437227405311:Int):=by decide +kernel
  exact h
theorem p2_up {b c:Nat} {x:Int} (h:(x.natAbs:Int) <= 2 ^ b) (hbc:b <= c):(x.natAbs:Int) <= 2 ^ c:=Int.le_trans h (p2le hbc)
def LB (s:Ls) (b:Nat):Prop:=∀ i,i < s.n->((iV (s.d i)).natAbs:Int) <= 2 ^ b
theorem LB.add {s:Ls} {b:Nat} (h:LB s b) {x:Int} (hx:((iV x).natAbs:Int) <= 2 ^ b):LB (s.add x) b:=by
  unfold Ls.add
  split
  . exact h
  . intro i hi
    show ((iV (upd s.d s.n x i)).natAbs:Int) <= _
    by_cases e:i=s.n
    . subst e; rw [upd_same]; exact hx
    . rw [upd_other _ _ e]; exact h i (by have:i < s.n + 1:=hi; omega)
theorem XV.fn {s:Ls} (h:XV s.d s.n):s.fin:=fun i hi=>⟨(h.fin i hi).1,(h.fin i hi).2.1⟩
def PB (P:Nat->Prop) (w:World):Prop:=∀ k,P k->k < w.heap.size
structure BelP (P:Nat->Prop) (w w':World):Prop where
  os:w'.os=w.os
  tape:w'.tape=w.tape
  output:w'.output=w.output
  size:w.heap.size <= w'.heap.size
  block:∀ k,P k->w'.heap[k]?=w.heap[k]?
theorem BelP.refl (P:Nat->Prop) (w:World):BelP P w w:=⟨rfl,rfl,rfl,Nat.le_refl _,fun _ _=>rfl⟩
theorem BelP.trans {P:Nat->Prop} {a b c:World} (h:BelP P a b) (k:BelP P b c):BelP P a c :=
  ⟨k.os.trans h.os,k.tape.trans h.tape,k.output.trans h.output,Nat.le_trans h.size k.size,fun i hi=>(k.block i hi).trans (h.block i hi)⟩
theorem BelP.of {P:Nat->Prop} {w w':World} (h:Below w.heap.size w w') (hP:PB P w):BelP P w w':=⟨h.os,h.tape,h.output,h.size,fun k hk=>h.block k (hP k hk)⟩
theorem PB.le {P:Nat->Prop} {w w':World} (h:PB P w) (hs:w.heap.size <= w'.heap.size):PB P w':=fun k hk=>Nat.lt_of_lt_of_le (h k hk) hs
def OutP (P:Nat->Prop) (w:World) (v:Value) (s:Ls):Prop:=Out 0 w v s.n s.d∧∀ k,v.ownBlock=some k->¬ P k
theorem OutP.shape {P:Nat->Prop} {w:World} {v:Value} {s:Ls} (h:OutP P w v s):∃ ao cap,v=.slice ao s.n cap:=by
  obtain ⟨ao,cap,e,_⟩:=h.1.row
  exact ⟨ao,cap,e⟩
theorem OutP.stays {P:Nat->Prop} {w w':World} {v:Value} {s:Ls} (h:OutP P w v s) (hb:Below w.heap.size w w'):OutP P w' v s:=⟨h.1.stays hb,h.2⟩
theorem OutP.gr {P:Nat->Prop} {w w':World} {v:Value} {s:Ls} (h:OutP P w v s) (hP:PB P w) (g:w.grownBy w' v.ownBlock):BelP P w w' :=
  ⟨g.os,g.tape,g.output,g.size,fun k hk=>g.block k (hP k hk) fun e=>h.2 k e.symm hk⟩
theorem Ls.same.fin {s t:Ls} (h:s.same t) (ht:t.fin):s.fin:=fun i hi=>by
  rw [h.2 i hi]
  exact ht i (by rw [<- h.1]; exact hi)
theorem BelP.below {P:Nat->Prop} {N:Nat} {w w':World} (h:BelP P w w') (hP:∀ k,k < N->P k):Below N w w':=⟨h.os,h.tape,h.output,h.size,fun k hk=>h.block k (hP k hk)⟩
theorem OutP.raise {P:Nat->Prop} {N:Nat} {w:World} {v:Value} {s:Ls} (h:OutP P w v s) (hP:∀ k,k < N->P k):Out N w v s.n s.d:=by
  have h1:=h.1
  rcases h1.2 with q | ⟨g,cap,cur,q1,_,q3⟩
  . exact ⟨h1.1,.inl q⟩
  . refine ⟨h1.1,.inr ⟨g,cap,cur,q1,?_,q3⟩⟩
    have h2:=h.2 g (by rw [q1]; rfl)
    exact Nat.le_of_not_lt fun e=>h2 (hP g e)
end Go.Proofs.YteglfnnbpilheaaGreatDoor
namespace Go.Proofs.YteglfnnbpilheaaGreatDoor
open Go Go.RowKit Go.Proofs.YteglfnnbpilheaaGreatDoor.M Ieee
end Go.Proofs.YteglfnnbpilheaaGreatDoor
namespace Go.Proofs.YteglfnnbpilheaaGreatDoor
open Go Go.RowKit Go.Proofs.YteglfnnbpilheaaGreatDoor.M
def Un (S h:Int):Prop:=9007199254740992 * ((h - S).natAbs:Int) <= (S.natAbs:Int)∧9007199254740992 * ((h - S).natAbs:Int) <= (h.natAbs:Int)
theorem nr_Un_pos {S h:Int} (n:Nr S h) (h0:0 <= S):Un S h:=by
  obtain ⟨k,h1,h2⟩:=binade S h0
  rcases h2 with h2 | h2
  . subst h2
    have e:=nr_self ⟨0,⟨S,by rw [Int.pow_zero]; omega⟩,by omega⟩ n
    subst e
    rw [Un,Int.sub_self]
    simp
  . have c:=nr_err n (i:=k) (by omega)
    have g:=nr_ge n (fl_p2 k (m:=4503599627370496) (by decide)) h2
    have p0:=p2 k
    generalize (2:Int) ^ k=q at *
    have g':4503599627370496 * q <= h:=g
    constructor <;> omega
theorem nr_Un {S h:Int} (n:Nr S h):Un S h:=by
  by_cases h0:0 <= S
  . exact nr_Un_pos n h0
  . have:=nr_Un_pos n.neg (by omega)
    unfold Un at *
    omega
theorem Un.scale {S h:Int} (u:Un S h) {c:Int} (hc:0 <= c):Un (c * S) (c * h):=by
  have e:∀ x:Int,((c * x).natAbs:Int)=c * (x.natAbs:Int):=fun x=>by
    rw [Int.natAbs_mul,Int.natCast_mul]
    congr 1
    omega
  rw [Un,<- Int.mul_sub,e,e,e,<- Int.mul_assoc,Int.mul_comm 9007199254740992 c,Int.mul_assoc]
  exact ⟨Int.mul_le_mul_of_nonneg_left u.1 hc,Int.mul_le_mul_of_nonneg_left u.2 hc⟩
structure Fx (a b:Nat) (x:Int):Prop where
  r:rng x
  p:pok x=true
  d:(2 ^ a:Int) ∣ iV x
  b:((iV x).natAbs:Int) <= 2 ^ b
theorem Fx.up {a b b':Nat} {x:Int} (h:Fx a b x) (c:b <= b'):Fx a b' x:=⟨h.r,h.p,h.d,p2_up h.b c⟩
theorem Fx.neg {a b:Nat} {x:Int} (h:Fx a b x):Fx a b (neg x)∧iV (neg x)=-iV x:=by
  obtain ⟨n1,n2,n3⟩:=neg_facts h.r h.p
  refine ⟨⟨n1,n2,?_,?_⟩,n3⟩
  . rw [n3]; exact Int.dvd_neg.2 h.d
  . rw [n3,Int.natAbs_neg]; exact h.b
theorem h_dbl {S x:Int} (h:Un S x):(x.natAbs:Int) <= 2 * (S.natAbs:Int):=by
  have:=h.1
  omega
theorem h_fin {a b m:Int} {k:Nat} (h1:a <= 2 ^ k) (hk:k + 1 <= 2097) (hm:(2:Int) ^ 2097 <= m):2 * a <= m:=by
  have e:=p2s k
  have f:(2:Int) ^ (k + 1) <= 2 ^ 2097:=p2le hk
  omega
theorem Fx.sum {a b:Nat} {x y:Int} (hx:Fx a b x) (hy:Fx a b y) (hb:b + 1 <= 2097):Fx a (b + 2) (fsum x y)∧Un (iV x + iV y) (iV (fsum x y)):=by
  obtain ⟨f1,f2⟩:=sum_fin hx.r hy.r hx.p hy.p (h_fin (b:=0) hx.b hb maxV_ge) (h_fin (b:=0) hy.b hb maxV_ge)
  have nr:=fsum_nr hx.r hy.r f2
  have u:=nr_Un nr
  refine ⟨⟨fsum_rng hx.r hy.r,f1,nr_dvd nr (Int.dvd_add hx.d hy.d),?_⟩,u⟩
  have h2:=h_dbl u
  have e1:=hx.b
  have e2:=hy.b
  rw [show b + 2=b + 1 + 1 by omega,p2s,p2s]
  omega
theorem rg_rg {x:Int} (h:rng x):rg (rg x)=rg x:=by unfold rng rg at *; split <;> (try split) <;> omega
theorem Fx.abs {a b:Nat} {x:Int} (h:Fx a b x):Fx a b (rg x)∧iV (rg x)=((iV x).natAbs:Int):=by
  obtain ⟨q1,q2⟩:=q_rg h.r
  have e:iV (rg x)=((iV x).natAbs:Int):=by
    rw [iV_abs,iV,decide_eq_false (by omega),rg_rg h.r]
    rfl
  refine ⟨⟨q1,?_,?_,?_⟩,e⟩
  . rw [pok_rg' q1,rg_rg h.r,<- pok_rg' h.r]; exact h.p
  . rw [e]; exact Int.dvd_natAbs.2 h.d
  . rw [e,Int.natAbs_natCast]; exact h.b
theorem wd_nil:wd 0=0:=by decide
theorem XR.from {w0 w w':World} {ok:Bool} {s:Ls} {r:Ending} (h:XR w ok s r w') (hb:Below w0.heap.size w0 w):XR w0 ok s r w':=by
  obtain ⟨h1,h2⟩:=h
  refine ⟨?_,bel_trans hb h2⟩
  rcases h1 with ⟨a,v,b,c⟩ | h
  . exact .inl ⟨a,v,b,c.lower hb.size⟩
  . exact .inr h
theorem nil_order {f:Int} (hf:rng f) (pf:pok f=true):(rg f=0->FloatKind.f64.format.order (wd f) 0=some .eq)∧(¬ rg f=0->FloatKind.f64.format.order (wd f) 0=some .lt∨FloatKind.f64.format.order (wd f) 0=some .gt):=by
  have r0:rng 0:=by unfold rng; decide
  have p0:pok 0=true:=by decide
  have k0:key 0=0:=by decide
  have kz:key f=0 ↔ rg f=0:=by
    unfold key rg
    unfold rng at hf
    split <;> omega
  refine ⟨fun h=>?_,fun h=>?_⟩
  . have:=q_eq hf r0 (q_fin pf) (q_fin p0) (by rw [k0]; exact kz.2 h)
    rw [wd_nil] at this
    exact this
  . rcases Int.lt_trichotomy (key f) 0 with g | g | g
    . have:=q_lt hf r0 (q_fin pf) (q_fin p0) (by rw [k0]; exact g)
      rw [wd_nil] at this
      exact .inl this
    . exact absurd (kz.1 g) h
    . have:=q_gt hf r0 (q_fin pf) (q_fin p0) (by rw [k0]; exact g)
      rw [wd_nil] at this
      exact .inr this
def XLs (w:World) (v:Value) (s:Ls):Prop:=∃ ao cap,v=.slice ao s.n cap∧Row w ao s.n cap s.d
theorem XLs.keeps {w w':World} {v:Value} {s:Ls} (h:XLs w v s) (hb:Below w.heap.size w w'):XLs w' v s:=by
  obtain ⟨ao,cap,e,hR⟩:=h
  exact ⟨ao,cap,e,hR.keeps hb⟩
end Go.Proofs.YteglfnnbpilheaaGreatDoor
