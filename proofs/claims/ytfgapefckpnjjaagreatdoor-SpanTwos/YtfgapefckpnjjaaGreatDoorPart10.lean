/- Parts of the proof. -/
import Derived.Test.YtfgapefckpnjjaaGreatDoorPart9
import Derived.Test.YtfgapefckpnjjaaGreatDoorPart1
import Derived.Test.YtfgapefckpnjjaaGreatDoorPart2
import Derived.Test.YtfgapefckpnjjaaGreatDoorPart8
import Derived.Test.YtfgapefckpnjjaaGreatDoorPart7
import Derived.Test.YtfgapefckpnjjaaGreatDoorPart4
import Derived.Deep.RegionHeld3
set_option linter.unusedVariables false
set_option linter.unusedSimpArgs false
namespace Go.Proofs.YtfgapefckpnjjaaGreatDoor
open Go Go.RowKit Go.Proofs.YtfgapefckpnjjaaGreatDoor.M Ieee
theorem nearest_nearP {S t base:Int} (hb:-4194304 <= base) (hS:t * pw base=S) (h0:S ≠ 0):Ieee.double.nearest (decide (t < 0)) t.natAbs base=wd (nearP S):=by
  obtain ⟨A,r0,left,a1,a2,a3⟩:=write_near hb hS h0
  obtain ⟨B,s0,k,b1,b2,b3⟩:=nearP_rung h0
  have hAB:=sg_inj (a1.symm.trans b1)
  subst hAB
  obtain ⟨h2,h3⟩:=a2.unique b2
  subst h2 h3
  rw [a3,b3]
def fmaS (p q r:Int):Int:=sg (xsg p q) (fsize p q) + patV r
theorem ffma_fin {p q r:Int} (hp:rng p) (hq:rng q) (hr:rng r) (pp:pok p=true) (pq:pok q=true) (pr:pok r=true) :
    Ieee.double.fma (wd p) (wd q) (wd r)=some (wd (if fmaS p q r=0 then patS (xsg p q && decide (r < 0)) 0 else nearP (fmaS p q r))):=by
  obtain ⟨m,u,h1,v1⟩:=read_wd hp pp
  obtain ⟨n,v,h2,v2⟩:=read_wd hq pq
  obtain ⟨l,x,h3,v3⟩:=read_wd hr pr
  obtain ⟨i,hi⟩:∃ i:Int,-1074 + (u:Int) + (-1074 + (v:Int))=i:=⟨_,rfl⟩
  obtain ⟨j,hj⟩:∃ j:Int,-1074 + (x:Int)=j:=⟨_,rfl⟩
  have hpm:=pw_mul (a:=-1074 + (u:Int)) (b:=-1074 + (v:Int)) (by omega) (by omega)
  have hC:=fmul_core (g:=decide (p < 0)) (h:=decide (q < 0)) (x:=(m:Int)) (y:=(n:Int)) hpm
  rw [<- v1,<- v2,hi] at hC
  have hcast:((m * n:Nat):Int)=(m:Int) * (n:Int):=by push_cast; rfl
  have hf:fsize p q=((m * n:Nat):Int) * pw i:=by rw [hcast]; exact fsize_of (two_pos 4194304) hC
  obtain ⟨base,hbase⟩:∃ base,min i j=base:=⟨_,rfl⟩
  have hB:-4194304 <= base:=by omega
  obtain ⟨t,ht⟩:∃ t,signed (xsg p q) (m * n) (i - base).toNat + signed (decide (r < 0)) l (j - base).toNat=t:=⟨_,rfl⟩
  have hfma:Ieee.double.fma (wd p) (wd q) (wd r)=some (Ieee.double.nearest (if t=0 then xsg p q && decide (r < 0) else decide (t < 0)) t.natAbs base):=by
    unfold Format.fma
    rw [h1,h2,h3]
    unfold Datum.product
    dsimp only
    rw [hi,hj,xor_ne]
    show Option.map Ieee.double.write (Datum.sum (.number (xsg p q) (m * n) i) (.number (decide (r < 0)) l j))=_
    unfold Datum.sum
    dsimp only
    rw [hbase,ht]
    rfl
  have s1:=signed_pw (xsg p q) (m * n) (i - base).toNat (i:=i) (base:=base) (by omega) hB
  have s2:=signed_pw (decide (r < 0)) l (j - base).toNat (i:=j) (base:=base) (by omega) hB
  rw [hj] at v3
  rw [<- hf] at s1
  rw [<- v3] at s2
  have hS:t * pw base=fmaS p q r:=by
    unfold fmaS
    rw [<- ht,Int.add_mul,s1,s2]
  rw [hfma]
  by_cases h:fmaS p q r=0
  . have ht0:t=0:=(eq_zero_iff (pw_pos base)).2 (hS.trans h)
    rw [if_pos h,ht0,if_pos rfl]
    unfold Format.nearest
    rw [if_pos (show Int.natAbs 0=0 from rfl)]
    have:=wd_word (ng:=xsg p q && decide (r < 0)) (r:=0) (by decide) (by decide)
    rw [<- this]
    rfl
  . have ht0:t ≠ 0:=fun e=>h (by rw [<- hS,e,Int.zero_mul])
    rw [if_neg h,if_neg ht0,nearest_nearP hB hS h]
def RdP (way V p:Int):Prop:=∃ (A:Int) (r0:Nat) (left:Int),V=sg (decide (V < 0)) A∧Rung A r0 left∧p=patS (decide (V < 0)) (rTo way (decide (V < 0)) r0 left)
theorem RdP.unique {way V p q:Int} (h:RdP way V p) (k:RdP way V q):p=q:=by
  obtain ⟨A,r0,l,h1,h2,h3⟩:=h
  obtain ⟨B,s0,m,k1,k2,k3⟩:=k
  have hAB:=sg_inj (h1.symm.trans k1)
  subst hAB
  obtain ⟨e1,e2⟩:=h2.unique k2
  subst e1 e2
  rw [h3,k3]
theorem r64_num {way:Int} {ng sd:Bool} {M e:Int} (hv:0 < M) (he:-4194304 <= e) :
    ∃ (r0:Nat) (left:Int),Rung (M * pw e) r0 left∧r64 way ng sd (M / 2 ^ vK M).toNat (e + vK M) (decide (M % 2 ^ vK M ≠ 0))=(patS (ng && (decide (0 < rTo way ng r0 left) || sd)) (rTo way ng r0 left),decide (left ≠ 0) || decide (9218868437227405312 <= (r0:Int))):=by
  have hsm:=vK_small (Int.le_of_lt hv)
  have hb:=blen_pos hv
  have hp:=two_pos (vK M)
  have hge:2 ^ (blen M - 1 - vK M) <= M / 2 ^ vK M:=by
    rw [Int.le_ediv_iff_mul_le hp,<- Int.pow_add]
    by_cases hk:vK M <= blen M - 1
    . rw [show blen M - 1 - vK M + vK M=blen M - 1 by omega]
      exact hb.2
    . exfalso; unfold vK at hk; omega
  have hpos:=two_pos (blen M - 1 - vK M)
  have e64:(2:Nat) ^ 64=18446744073709551616:=by decide
  have e60:(2:Nat) ^ 60=1152921504606846976:=by decide
  refine r64_spec (held_cut (Int.le_of_lt hv) (by omega) _) (by omega) (by omega) (by omega) (fun hc=>?_)
  have hk0:0 < vK M:=by
    rcases Nat.eq_zero_or_pos (vK M) with h | h
    . rw [h,Int.pow_zero,Int.emod_one] at hc; simp at hc
    . exact h
  have h61:blen M - 1 - vK M=61:=by unfold vK at hk0 ⊢; omega
  rw [h61] at hge
  have e61:(2:Int) ^ 61=2305843009213693952:=by decide
  rw [e61] at hge
  omega
theorem sg_lt {ng:Bool} {A:Int} (h:0 < A):decide (sg ng A < 0)=ng:=by
  cases ng
  . exact decide_eq_false (by show ¬ A < 0; omega)
  . exact decide_eq_true (by show -A < 0; omega)
theorem rd_of {way V:Int} {ng:Bool} {M e:Int} (hV:V=sg ng (M * pw e)) (hv:0 < M) (he:-4194304 <= e) :
    RdP way V (r64 way ng true (M / 2 ^ vK M).toNat (e + vK M) (decide (M % 2 ^ vK M ≠ 0))).1:=by
  obtain ⟨r0,left,h1,h2⟩:=r64_num (way:=way) (ng:=ng) (sd:=true) hv he
  have hA:0 < M * pw e:=Int.mul_pos hv (pw_pos e)
  have hn:decide (V < 0)=ng:=by rw [hV]; exact sg_lt hA
  refine ⟨M * pw e,r0,left,by rw [hn]; exact hV,h1,?_⟩
  rw [h2,hn]
  simp
def rdP (way V:Int):Int:=(r64 way (decide (V < 0)) true ((V.natAbs:Int) / 2 ^ vK (V.natAbs:Int)).toNat (-4194304 + vK (V.natAbs:Int)) (decide ((V.natAbs:Int) % 2 ^ vK (V.natAbs:Int) ≠ 0))).1
theorem rdP_is (way:Int) {V:Int} (h:V ≠ 0):RdP way V (rdP way V):=by
  refine rd_of ?_ (by omega) (Int.le_refl _)
  rw [pw_least,Int.mul_one]
  by_cases hn:V < 0
  . rw [decide_eq_true hn]; show V=-(V.natAbs:Int); omega
  . rw [decide_eq_false hn]; show V=(V.natAbs:Int); omega
theorem rdP_eq {way V p:Int} (h0:V ≠ 0) (h:RdP way V p):rdP way V=p:=(rdP_is way h0).unique h
theorem rdP_near {V:Int} (h:V ≠ 0):rdP 0 V=nearP V:=by
  obtain ⟨A,r0,left,h1,h2,h3⟩:=nearP_rung h
  exact rdP_eq h ⟨A,r0,left,h1,h2,h3⟩
theorem r64_dy {way V:Int} {ng:Bool} {m e:Int} (hy:Dy V ng m e) (h0:V ≠ 0) (he:-4194304 <= e) :
    (r64 way ng true (m / 2 ^ vK m).toNat (e + vK m) (decide (m % 2 ^ vK m ≠ 0))).1=rdP way V:=by
  have hm:0 < m:=by
    rcases hy.form with ⟨f1,_⟩ | ⟨f1,_⟩
    . exact absurd (hy.eq_zero.2 f1) h0
    . exact f1
  refine (rdP_eq h0 (rd_of ?_ hm he)).symm
  rw [hy.val]
  cases ng
  . rfl
  . show -m * pw e=-(m * pw e); rw [Int.neg_mul]
theorem rdP_pat (way:Int) {V:Int} (h:V ≠ 0):rng (rdP way V)∧cls (rdP way V) ≠ 4:=by
  obtain ⟨A,r0,left,_,_,h3⟩:=rdP_is way h
  rw [h3]
  have:=rTo_range way (decide (V < 0)) r0 left
  exact patS_rng this.1 this.2
theorem prod_infD {p q:Int} (rp:rng p) (rq:rng q) (p0:0 <= rg p) (p1:rg p <= 9218868437227405312) (q0:0 <= rg q) (q1:rg q <= 9218868437227405312) (h:rg p=9218868437227405312∨rg q=9218868437227405312) :
    Datum.product (Ieee.double.read (wd p)) (Ieee.double.read (wd q))=if rg p=0∨rg q=0 then none else some (.infinity (xsg p q)):=by
  have hX:(decide (p < 0) ^^ decide (q < 0))=xsg p q:=xor_ne _ _
  have hX2:(decide (q < 0) ^^ decide (p < 0))=xsg p q:=by rw [<- hX]; cases decide (p < 0) <;> cases decide (q < 0) <;> rfl
  by_cases ip:rg p=9218868437227405312
  . have ep:=read_inf64 rp ip
    by_cases iq:rg q=9218868437227405312
    . rw [if_neg (by omega),ep,read_inf64 rq iq,<- hX]
      rfl
    . have pq:=(pok_rg rq).2 (by omega)
      obtain ⟨m,u,eq,vq⟩:=read_wd rq pq
      have hz:=mag_zero rq pq vq
      rw [ep,eq]
      unfold Datum.product
      dsimp only
      by_cases hm:m=0
      . rw [if_pos hm,if_pos (.inr (hz.1 hm))]
      . rw [if_neg hm,if_neg (fun h=>by rcases h with h | h; omega; exact hm (hz.2 h)),hX]
  . have iq:rg q=9218868437227405312:=by omega
    have pp:=(pok_rg rp).2 (by omega)
    obtain ⟨m,u,ep,vp⟩:=read_wd rp pp
    have hz:=mag_zero rp pp vp
    have eq:=read_inf64 rq iq
    rw [ep,eq]
    unfold Datum.product
    dsimp only
    by_cases hm:m=0
    . rw [if_pos hm,if_pos (.inl (hz.1 hm))]
    . rw [if_neg hm,if_neg (fun h=>by rcases h with h | h; exact hm (hz.2 h); omega),hX2]
def ffma (p q r:Int):Int :=
  if cls p=4∨cls q=4∨cls r=4 then 9221120237041090561
  else if rg p=9218868437227405312∨rg q=9218868437227405312 then
    if rg p=0∨rg q=0 then 9221120237041090561
    else if rg r=9218868437227405312∧¬ xsg p q=decide (r < 0) then 9221120237041090561 else patS (xsg p q) 9218868437227405312
  else if rg r=9218868437227405312 then r
  else if fmaS p q r=0 then patS (xsg p q && decide (r < 0)) 0 else nearP (fmaS p q r)
theorem fma_FW {p q r:Int} {x y z:Nat} (hx:FW p x) (hy:FW q y) (hz:FW r z):(∃ t,Ieee.double.fma x y z=some t∧FW (ffma p q r) t)∨(Ieee.double.fma x y z=none∧ffma p q r=9221120237041090561):=by
  by_cases h4:cls p=4∨cls q=4∨cls r=4
  . right
    refine ⟨?_,by unfold ffma; rw [if_pos h4]⟩
    unfold Format.fma
    rcases h4 with h | h | h
    . obtain ⟨s,t,e⟩:=hx.read_nan h
      rw [e]
      rfl
    . obtain ⟨s,t,e⟩:=hy.read_nan h
      rw [e]
      cases Ieee.double.read x <;> rfl
    . obtain ⟨s,t,e⟩:=hz.read_nan h
      rw [e]
      cases Datum.product (Ieee.double.read x) (Ieee.double.read y) with
      | none=>rfl
      | some d=>cases d <;> rfl
  . have h4p:cls p ≠ 4:=fun h=>h4 (.inl h)
    have h4q:cls q ≠ 4:=fun h=>h4 (.inr (.inl h))
    have h4r:cls r ≠ 4:=fun h=>h4 (.inr (.inr h))
    obtain ⟨rp,rfl,p0,p1⟩:=hx.of h4p
    obtain ⟨rq,rfl,q0,q1⟩:=hy.of h4q
    obtain ⟨rr,rfl,r0,r1⟩:=hz.of h4r
    have hI:=patS_rng (ng:=xsg p q) (r:=9218868437227405312) (by decide) (by decide)
    unfold ffma
    rw [if_neg h4]
    by_cases hi:rg p=9218868437227405312∨rg q=9218868437227405312
    . rw [if_pos hi]
      have hP:=prod_infD rp rq p0 p1 q0 q1 hi
      by_cases h0:rg p=0∨rg q=0
      . right
        rw [if_pos h0] at hP ⊢
        refine ⟨?_,rfl⟩
        unfold Format.fma
        rw [hP]
        rfl
      . rw [if_neg h0] at hP ⊢
        by_cases ir:rg r=9218868437227405312
        . have er:=read_inf64 rr ir
          by_cases hs:xsg p q=decide (r < 0)
          . left
            rw [if_neg (fun h=>h.2 hs)]
            refine ⟨_,?_,FW.pat hI.2 hI.1⟩
            unfold Format.fma
            rw [hP,er]
            show Option.map Ieee.double.write (Datum.sum (.infinity (xsg p q)) (.infinity (decide (r < 0))))=_
            unfold Datum.sum
            dsimp only
            rw [if_pos hs]
            show some (Ieee.double.write (.infinity (xsg p q)))=_
            rw [write_infS]
          . right
            rw [if_pos ⟨ir,hs⟩]
            refine ⟨?_,rfl⟩
            unfold Format.fma
            rw [hP,er]
            show Option.map Ieee.double.write (Datum.sum (.infinity (xsg p q)) (.infinity (decide (r < 0))))=_
            unfold Datum.sum
            dsimp only
            rw [if_neg hs]
            rfl
        . left
          obtain ⟨l,v,er,_⟩:=read_wd rr ((pok_rg rr).2 (by omega))
          rw [if_neg (fun h=>ir h.1)]
          refine ⟨_,?_,FW.pat hI.2 hI.1⟩
          unfold Format.fma
          rw [hP,er]
          show some (Ieee.double.write (.infinity (xsg p q)))=_
          rw [write_infS]
    . rw [if_neg hi]
      have pp:=(pok_rg rp).2 (by omega)
      have pq:=(pok_rg rq).2 (by omega)
      by_cases ir:rg r=9218868437227405312
      . left
        rw [if_pos ir]
        obtain ⟨m,u,ep,_⟩:=read_wd rp pp
        obtain ⟨n,v,eq,_⟩:=read_wd rq pq
        refine ⟨wd r,?_,FW.pat h4r rr⟩
        unfold Format.fma
        rw [ep,eq,read_inf64 rr ir]
        show some (Ieee.double.write (.infinity (decide (r < 0))))=_
        rw [write_inf64 rr ir]
      . left
        rw [if_neg ir]
        refine ⟨_,ffma_fin rp rq rr pp pq ((pok_rg rr).2 (by omega)),?_⟩
        by_cases hS:fmaS p q r=0
        . rw [if_pos hS]
          obtain ⟨g1,g2⟩:=patS_rng (ng:=xsg p q && decide (r < 0)) (r:=0) (by decide) (by decide)
          exact FW.pat g2 g1
        . rw [if_neg hS]
          exact FW.pat (nearP_pat hS).2 (nearP_pat hS).1
end Go.Proofs.YtfgapefckpnjjaaGreatDoor
namespace Go.Proofs.YtfgapefckpnjjaaGreatDoor.M
def Fl (n:Int):Prop:=∃ k:Nat,(2 ^ k:Int) ∣ n∧(n.natAbs:Int) < 9007199254740992 * 2 ^ k
def Nr (S h:Int):Prop:=Fl h∧∀ f,Fl f->(h - S).natAbs <= (f - S).natAbs
theorem p2 (k:Nat):(0:Int) < 2 ^ k:=Int.pow_pos (by decide)
theorem p2s (k:Nat):(2:Int) ^ (k + 1)=2 * 2 ^ k:=by rw [Int.pow_succ,Int.mul_comm]
theorem p2dvd {j k:Nat} (h:j <= k):(2 ^ j:Int) ∣ 2 ^ k:=⟨2 ^ (k - j),by rw [<- Int.pow_add,Nat.add_sub_cancel' h]⟩
theorem p2le {j k:Nat} (h:j <= k):(2:Int) ^ j <= 2 ^ k:=Int.le_of_dvd (p2 k) (p2dvd h)
theorem p2lt {j k:Nat} (h:(2:Int) ^ j < 2 ^ k):j < k:=by
  rcases Nat.lt_or_ge j k with c | c
  . exact c
  . have:=p2le c; omega
theorem Fl.neg {n:Int} (h:Fl n):Fl (-n):=by
  obtain ⟨k,d,b⟩:=h
  exact ⟨k,(Int.dvd_neg).2 d,by rw [Int.natAbs_neg]; exact b⟩
theorem fl_zero:Fl 0:=⟨0,⟨0,by simp⟩,by simp⟩
theorem fl_of {n:Int} {k:Nat} (d:(2 ^ k:Int) ∣ n) (b:(n.natAbs:Int) <= 9007199254740992 * 2 ^ k):Fl n:=by
  by_cases c:(n.natAbs:Int) < 9007199254740992 * 2 ^ k
  . exact ⟨k,d,c⟩
  . have e:(n.natAbs:Int)=9007199254740992 * 2 ^ k:=by omega
    refine ⟨k + 1,?_,?_⟩
    . rw [<- Int.dvd_natAbs,e,p2s]
      exact ⟨4503599627370496,by omega⟩
    . rw [p2s]; have:=p2 k; omega
theorem Fl.dbl {n:Int} (h:Fl n):Fl (2 * n):=by
  obtain ⟨k,⟨c,rfl⟩,b⟩:=h
  refine ⟨k + 1,⟨c,by rw [p2s,Int.mul_assoc]⟩,?_⟩
  rw [p2s]
  omega
theorem Nr.neg {S h:Int} (n:Nr S h):Nr (-S) (-h):=by
  refine ⟨n.1.neg,fun f hf=>?_⟩
  have:=n.2 (-f) hf.neg
  omega
theorem nr_self {S h:Int} (hS:Fl S) (n:Nr S h):h=S:=by
  have:=n.2 S hS
  omega
theorem fl_sub {x y:Int} (hx:Fl x) (hy:Fl y) (h1:(x - y).natAbs <= x.natAbs) (h2:(x - y).natAbs <= y.natAbs):Fl (x - y):=by
  obtain ⟨j,dx,bx⟩:=hx
  obtain ⟨k,dy,by1⟩:=hy
  rcases Nat.le_total j k with c | c
  . exact ⟨j,Int.dvd_sub dx (Int.dvd_trans (p2dvd c) dy),by omega⟩
  . exact ⟨k,Int.dvd_sub (Int.dvd_trans (p2dvd c) dx) dy,by omega⟩
theorem fl_add {x y:Int} (hx:Fl x) (hy:Fl y) (h1:(x + y).natAbs <= x.natAbs) (h2:(x + y).natAbs <= y.natAbs):Fl (x + y):=by
  have e:x + y=x - -y:=by omega
  rw [e]
  exact fl_sub hx hy.neg (by omega) (by omega)
theorem nr_dvd_pos {S h:Int} {k:Nat} (n:Nr S h) (d:(2 ^ k:Int) ∣ S) (h0:0 <= S):(2 ^ k:Int) ∣ h:=by
  by_cases c:(S.natAbs:Int) <= 9007199254740992 * 2 ^ k
  . rw [nr_self (fl_of d c) n]; exact d
  . have hT:Fl (9007199254740992 * 2 ^ k):=fl_of ⟨9007199254740992,by rw [Int.mul_comm]⟩ (by have:=p2 k; omega)
    have h1:=n.2 _ hT
    obtain ⟨j,dj,bj⟩:=n.1
    have hk:=p2 k
    have hj:=p2 j
    have:(2:Int) ^ k < 2 ^ j:=by omega
    exact Int.dvd_trans (p2dvd (Nat.le_of_lt (p2lt this))) dj
theorem nr_dvd {S h:Int} {k:Nat} (n:Nr S h) (d:(2 ^ k:Int) ∣ S):(2 ^ k:Int) ∣ h:=by
  rcases Int.le_total 0 S with c | c
  . exact nr_dvd_pos n d c
  . have:=nr_dvd_pos n.neg ((Int.dvd_neg).2 d) (by omega)
    exact (Int.dvd_neg).1 this
theorem err_sum {a b h:Int} (ha:Fl a) (hb:Fl b) (n:Nr (a + b) h):Fl (a + b - h):=by
  have e1:=n.2 a ha
  have e2:=n.2 b hb
  obtain ⟨j,da,ba⟩:=ha
  obtain ⟨k,db,bb⟩:=hb
  rcases Nat.le_total j k with c | c
  . have d:=Int.dvd_add da (Int.dvd_trans (p2dvd c) db)
    exact ⟨j,Int.dvd_sub d (nr_dvd n d),by omega⟩
  . have d:=Int.dvd_add (Int.dvd_trans (p2dvd c) da) db
    exact ⟨k,Int.dvd_sub d (nr_dvd n d),by omega⟩
theorem back_pos {a b h:Int} (ha:Fl a) (hb:Fl b) (h0:0 <= a) (hab:b.natAbs <= a.natAbs) (n:Nr (a + b) h):Fl (h - a):=by
  have ea:=n.2 a ha
  have e2:=n.2 (2 * a) ha.dbl
  have ez:=n.2 0 fl_zero
  by_cases hs:a <= 2 * h
  . exact fl_sub n.1 ha (by omega) (by omega)
  . have hS:Fl (a + b):=by
      obtain ⟨k,⟨c,hc⟩,ba⟩:=ha
      cases k with
      | zero=>exact ⟨0,⟨a + b,by simp⟩,by simp at ba ⊢; omega⟩
      | succ k=>
        have hf:Fl (2 ^ k * c):=⟨k,⟨c,rfl⟩,by rw [p2s] at ba hc; rw [Int.mul_assoc] at hc; omega⟩
        have e3:=n.2 _ hf
        rw [p2s,Int.mul_assoc] at hc
        exact fl_add ⟨k + 1,⟨c,by rw [p2s,Int.mul_assoc]; exact hc⟩,ba⟩ hb (by omega) (by omega)
    rw [nr_self hS n,show a + b - a=b by omega]
    exact hb
theorem back {a b h:Int} (ha:Fl a) (hb:Fl b) (hab:b.natAbs <= a.natAbs) (n:Nr (a + b) h):Fl (h - a):=by
  rcases Int.le_total 0 a with c | c
  . exact back_pos ha hb c hab n
  . have n2:=n.neg
    rw [show -(a + b)=-a + -b by omega] at n2
    have:=(back_pos ha.neg hb.neg (by omega) (by omega) n2).neg
    rwa [show -(-h - -a)=h - a by omega] at this
theorem binade (S:Int) (h0:0 <= S):∃ k:Nat,S < 9007199254740992 * 2 ^ k∧(k=0∨4503599627370496 * 2 ^ k <= S):=by
  have ex:∀ n:Nat,S < 9007199254740992 * 2 ^ n->∃ k:Nat,S < 9007199254740992 * 2 ^ k∧(k=0∨4503599627370496 * 2 ^ k <= S):=by
    intro n
    induction n with
    | zero=>intro h; exact ⟨0,h,.inl rfl⟩
    | succ n ih=>
      intro h
      by_cases c:S < 9007199254740992 * 2 ^ n
      . exact ih c
      . exact ⟨n + 1,h,.inr (by rw [p2s]; omega)⟩
  refine ex S.natAbs ?_
  have h1:S.natAbs < 2 ^ S.natAbs:=Nat.lt_two_pow_self
  have h2:((2 ^ S.natAbs:Nat):Int)=2 ^ S.natAbs:=by simp
  have h3:=p2 S.natAbs
  omega
theorem fast_sum {a b h v l:Int} (ha:Fl a) (hb:Fl b) (hab:b.natAbs <= a.natAbs) (nh:Nr (a + b) h) (nv:Nr (h - a) v) (nl:Nr (b - v) l):l=a + b - h:=by
  have hd:=err_sum ha hb nh
  have e1:=nr_self (back ha hb hab nh) nv
  subst e1
  rw [show b - (h - a)=a + b - h by omega] at nl
  exact nr_self hd nl
theorem fl_units {h:Int} {i:Nat} (f:Fl h) (c:4503599627370496 * 2 ^ i <= (h.natAbs:Int)):(2 ^ i:Int) ∣ h:=by
  obtain ⟨j,d,b⟩:=f
  have hi:=p2 i
  have hj:=p2 j
  cases i with
  | zero=>exact ⟨h,by simp⟩
  | succ i=>
    rw [p2s] at c
    have:(2:Int) ^ i < 2 ^ j:=by omega
    exact Int.dvd_trans (p2dvd (p2lt this)) d
structure Spl (a h:Int) (j:Nat):Prop where
  up:(134217728 * 2 ^ j:Int) ∣ h
  lo:(2 ^ j:Int) ∣ a - h
  top:(h.natAbs:Int) <= 9007199254740992 * 2 ^ j
  low:((a - h).natAbs:Int) <= 67108864 * 2 ^ j
theorem Spl.neg {a h:Int} {j:Nat} (s:Spl a h j):Spl (-a) (-h) j :=
  ⟨(Int.dvd_neg).2 s.up,by rw [show -a - -h=-(a - h) by omega]; exact (Int.dvd_neg).2 s.lo,by rw [Int.natAbs_neg]; exact s.top,by rw [show -a - -h=-(a - h) by omega,Int.natAbs_neg]; exact s.low⟩
theorem natAbs_p2 (i:Nat) (t:Int):((2 ^ i * t).natAbs:Int)=2 ^ i * (t.natAbs:Int):=by
  have hi:=p2 i
  rw [Int.natAbs_mul,Int.natCast_mul,show ((2 ^ i:Int).natAbs:Int)=2 ^ i by omega]
theorem Fl.down {i:Nat} {t:Int} (h:Fl (2 ^ i * t)):Fl t:=by
  obtain ⟨k,d,b⟩:=h
  rw [natAbs_p2] at b
  rcases Nat.le_total i k with c | c
  . obtain ⟨e,rfl⟩:∃ e,k=i + e:=⟨k - i,by omega⟩
    rw [Int.pow_add] at d b
    refine ⟨e,Int.dvd_of_mul_dvd_mul_left (by have:=p2 i; omega) d,?_⟩
    have e2:(9007199254740992:Int) * (2 ^ i * 2 ^ e)=2 ^ i * (9007199254740992 * 2 ^ e):=by rw [<- Int.mul_assoc,<- Int.mul_assoc,Int.mul_comm _ (2 ^ i)]
    rw [e2] at b
    exact Int.lt_of_mul_lt_mul_left b (Int.le_of_lt (p2 i))
  . refine ⟨0,⟨t,by simp⟩,?_⟩
    have h1:(9007199254740992:Int) * 2 ^ k <= 2 ^ i * 9007199254740992:=by rw [Int.mul_comm]; exact Int.mul_le_mul_of_nonneg_right (p2le c) (by decide)
    have h2:=Int.lt_of_mul_lt_mul_left (Int.lt_of_lt_of_le b h1) (Int.le_of_lt (p2 i))
    simpa using h2
theorem Fl.up {t:Int} (h:Fl t) (i:Nat):Fl (2 ^ i * t):=by
  obtain ⟨k,⟨c,rfl⟩,b⟩:=h
  refine ⟨i + k,⟨c,by rw [Int.pow_add,Int.mul_assoc]⟩,?_⟩
  rw [natAbs_p2,Int.pow_add]
  have e2:(9007199254740992:Int) * (2 ^ i * 2 ^ k)=2 ^ i * (9007199254740992 * 2 ^ k):=by rw [<- Int.mul_assoc,<- Int.mul_assoc,Int.mul_comm _ (2 ^ i)]
  rw [e2]
  exact Int.mul_lt_mul_of_pos_left b (p2 i)
end Go.Proofs.YtfgapefckpnjjaaGreatDoor.M
namespace Go.Proofs.YtfgapefckpnjjaaGreatDoor
open Go Go.RowKit Go.Proofs.YtfgapefckpnjjaaGreatDoor.M Ieee
def iV (p:Int):Int:=sg (decide (p < 0)) (V Ieee.double (rg p).toNat:Int)
theorem patV_iV {p:Int} (hp:rng p) (h:pok p=true):patV p=iV p * pw (-1074):=by
  rw [patV_dec hp h]; unfold iV vS; rw [sg_prod]
theorem nat_two (n k:Nat):((n * 2 ^ k:Nat):Int)=2 ^ k * (n:Int):=by rw [Int.natCast_mul,Int.mul_comm]; simp
theorem k_ne {S q:Int} (hq:0 < q) (h:S ≠ 0):S * q ≠ 0:=fun c=>by
  rcases Int.mul_eq_zero.1 c with d | d <;> omega
theorem k_neg {S q:Int} (hq:0 < q):decide (S * q < 0)=decide (S < 0):=by
  congr 1
  exact propext (lt_zero_iff hq).symm
theorem k_abs {S q A:Int} (hq:0 < q) (h:S * q=sg (decide (S < 0)) A):A=(S.natAbs:Int) * q:=by
  have:=natAbs_sg (t:=S) hq
  rw [this] at h
  exact (sg_inj h).symm
theorem k_back {S h:Int} (n:Nr (S.natAbs:Int) h):Nr S (sg (decide (S < 0)) h):=by
  by_cases c:S < 0
  . rw [decide_eq_true c]
    have n2:=n.neg
    have e:-(S.natAbs:Int)=S:=by omega
    rw [e] at n2
    exact n2
  . rw [decide_eq_false c]
    have e:(S.natAbs:Int)=S:=by omega
    rw [e] at n
    exact n
theorem fl_V (r:Nat):Fl (V Ieee.double r:Int):=by
  unfold V
  rw [dBin]
  by_cases h:r < 4503599627370496
  . rw [if_pos h]
    exact ⟨0,⟨r,by simp⟩,by simp; omega⟩
  . rw [if_neg h]
    have hm:=Nat.mod_lt r (show 0 < 4503599627370496 by decide)
    obtain ⟨n,hn⟩:∃ n,4503599627370496 + r % 4503599627370496=n:=⟨_,rfl⟩
    rw [hn]
    refine ⟨r / 4503599627370496 - 1,⟨n,nat_two _ _⟩,?_⟩
    rw [Int.natAbs_natCast,nat_two,Int.mul_comm]
    exact Int.mul_lt_mul_of_pos_right (by omega) (p2 _)
theorem V_fl {f:Int} (h:Fl f):∃ r:Nat,(f.natAbs:Int)=(V Ieee.double r:Int):=by
  obtain ⟨k,b,c⟩:=binade (f.natAbs:Int) (by omega)
  rcases Nat.eq_zero_or_pos k with g | g
  . subst g
    have:=V_parts Ieee.double 0 f.natAbs (.inl ⟨rfl,by rw [dBin]; simp at b; omega⟩)
    exact ⟨_,by rw [this]; simp⟩
  . have c2:4503599627370496 * 2 ^ k <= (f.natAbs:Int):=by
      rcases c with c | c
      . omega
      . exact c
    obtain ⟨t,ht⟩:=fl_units h c2
    have e:(f.natAbs:Int)=2 ^ k * (t.natAbs:Int):=by rw [ht,natAbs_p2]
    rw [e] at b c2
    have hk:=p2 k
    have b2:(t.natAbs:Int) < 9007199254740992:=Int.lt_of_mul_lt_mul_left (by rw [Int.mul_comm (2 ^ k) 9007199254740992]; exact b) (Int.le_of_lt hk)
    have c3:4503599627370496 <= (t.natAbs:Int):=Int.le_of_mul_le_mul_left (by rw [Int.mul_comm (2 ^ k) 4503599627370496]; exact c2) hk
    have:=V_parts Ieee.double k t.natAbs (.inr ⟨by rw [dBin]; omega,by rw [dBin]; omega⟩)
    exact ⟨_,by rw [this,e]; push_cast; rw [Int.mul_comm]⟩
theorem V_le {r s:Nat} (h:r <= s):(V Ieee.double r:Int) <= V Ieee.double s:=by
  rcases Nat.lt_or_eq_of_le h with g | g
  . have:=V_lt Ieee.double g; omega
  . rw [g]; omega
theorem nr_V {S:Int} {ng:Bool} {r0:Nat} {left:Int} (h0:0 <= S) (hR:Rung (S * pw (-1074)) r0 left) (hf:rTo 0 ng r0 left < 9218868437227405312):Nr S (V Ieee.double (rTo 0 ng r0 left).toNat:Int):=by
  obtain ⟨lo,hi,l0,l1,l2,l3⟩:=hR
  have hq:=pw_pos (-1074)
  unfold vS at *
  generalize pw (-1074)=q at *
  have g1:(V Ieee.double r0:Int) <= S:=Int.le_of_mul_le_mul_right lo hq
  have g2:S < (V Ieee.double (r0 + 1):Int):=Int.lt_of_mul_lt_mul_right hi (Int.le_of_lt hq)
  have g3:left=2->2 * S=(V Ieee.double r0:Int) + V Ieee.double (r0 + 1):=fun c=>by
    have:=l2.1 c
    rw [<- Int.add_mul,<- Int.mul_assoc] at this
    exact Int.eq_of_mul_eq_mul_right (by omega) this
  have g4:left=3->(V Ieee.double r0:Int) + V Ieee.double (r0 + 1) < 2 * S:=fun c=>by
    have:=l3.1 c
    rw [<- Int.add_mul,<- Int.mul_assoc] at this
    exact Int.lt_of_mul_lt_mul_right this (Int.le_of_lt hq)
  have g5:left ≠ 3->2 * S <= (V Ieee.double r0:Int) + V Ieee.double (r0 + 1):=fun c=>by
    rcases Int.lt_or_le ((V Ieee.double r0:Int) + V Ieee.double (r0 + 1)) (2 * S) with d | d
    . have:=Int.mul_lt_mul_of_pos_right d hq
      rw [Int.add_mul,Int.mul_assoc] at this
      exact absurd (l3.2 this) c
    . exact d
  clear l0 l1 l2 l3 lo hi
  have far:∀ f:Int,Fl f->f <= V Ieee.double r0∨V Ieee.double (r0 + 1) <= f:=by
    intro f hf
    obtain ⟨s,hs⟩:=V_fl hf
    rcases Nat.lt_or_ge r0 s with c | c
    . have:=V_le (show r0 + 1 <= s from c)
      have:=V_le (show 0 <= r0 by omega)
      omega
    . have:=V_le c
      omega
  unfold rTo at hf ⊢
  by_cases hr:(r0:Int) < 9218868437227405312
  . rw [if_pos hr] at hf ⊢
    cases hu:rUp 0 ng (decide (r0 % 2=1)) left
    . rw [if_neg (by decide)]
      have e:((r0:Int) + 0).toNat=r0:=by omega
      rw [e]
      have hl:left ≠ 3:=fun c=>by
        subst c
        unfold rUp at hu
        simp at hu
      refine ⟨fl_V r0,fun f hf=>?_⟩
      have:=far f hf
      have:=g5 hl
      omega
    . rw [if_pos rfl]
      have e:((r0:Int) + 1).toNat=r0 + 1:=by omega
      rw [e]
      have hl:left=3∨left=2:=by
        unfold rUp at hu
        simp at hu
        rcases hu with c | c
        . exact .inl c
        . exact .inr c.1
      refine ⟨fl_V (r0 + 1),fun f hf=>?_⟩
      have:=far f hf
      rcases hl with c | c
      . have:=g4 c; omega
      . have:=g3 c; omega
  . rw [if_neg hr] at hf
    unfold bRung rUp at hf
    simp at hf
def maxV:Int:=(V Ieee.double 9218868437227405311:Int)
theorem fin_V {S:Int} {ng:Bool} {r0:Nat} {left:Int} (h0:S <= maxV) (hR:Rung (S * pw (-1074)) r0 left):rTo 0 ng r0 left < 9218868437227405312:=by
  obtain ⟨lo,hi,l0,l1,l2,l3⟩:=hR
  have hq:=pw_pos (-1074)
  unfold vS at *
  generalize pw (-1074)=q at *
  have g1:(V Ieee.double r0:Int) <= S:=Int.le_of_mul_le_mul_right lo hq
  have hr:r0 <= 9218868437227405311:=by
    rcases Nat.lt_or_ge 9218868437227405311 r0 with c | c
    . have:=V_lt Ieee.double c
      unfold maxV at h0
      omega
    . exact c
  unfold rTo
  rw [if_pos (by omega)]
  by_cases c:r0=9218868437227405311
  . have e:S=(V Ieee.double r0:Int):=by rw [c] at g1 ⊢; unfold maxV at h0; omega
    have:left=0:=l0.2 (by rw [e])
    subst this
    rw [if_neg (fun c=>rUp_left c)]
    omega
  . split <;> omega
theorem patS_parts {ng:Bool} {r:Int} (h0:0 <= r) (h1:r <= 9218868437227405312):rng (patS ng r)∧rg (patS ng r)=r∧decide (patS ng r < 0)=ng:=by
  unfold patS rng rg
  cases ng
  . simp only [Bool.false_eq_true,if_false]
    rw [if_neg (by omega)]
    exact ⟨by omega,rfl,decide_eq_false (by omega)⟩
  . simp only [if_true]
    rw [if_pos (by omega)]
    exact ⟨by omega,by omega,decide_eq_true (by omega)⟩
theorem patS_fin {ng:Bool} {r:Int} (h0:0 <= r) (h1:r <= 9218868437227405312):pok (patS ng r)=decide (r < 9218868437227405312):=by
  obtain ⟨a,b,_⟩:=patS_parts (ng:=ng) h0 h1
  have:=pok_rg a
  rw [b] at this
  cases h:pok (patS ng r)
  . refine (decide_eq_false fun c=>?_).symm
    rw [this.2 c] at h; cases h
  . exact (decide_eq_true (this.1 h)).symm
theorem iV_patS {ng:Bool} {r:Int} (h0:0 <= r) (h1:r <= 9218868437227405312):iV (patS ng r)=sg ng (V Ieee.double r.toNat:Int):=by
  obtain ⟨_,b,c⟩:=patS_parts (ng:=ng) h0 h1
  unfold iV
  rw [b,c]
theorem nr_zero:Nr 0 0:=⟨fl_zero,fun f _=>by omega⟩
theorem near_iV {S:Int} (h:S ≠ 0):rng (nearP (S * pw (-1074)))∧(pok (nearP (S * pw (-1074)))=true->Nr S (iV (nearP (S * pw (-1074)))))∧((S.natAbs:Int) <= maxV->pok (nearP (S * pw (-1074)))=true):=by
  have hq:=pw_pos (-1074)
  obtain ⟨A,r0,left,e1,hR,e2⟩:=nearP_rung (k_ne hq h)
  rw [k_neg hq] at e1 e2
  have hA:=k_abs hq e1
  rw [hA] at hR
  have hrr:=rTo_range 0 (decide (S < 0)) r0 left
  rw [e2]
  refine ⟨(patS_parts hrr.1 hrr.2).1,fun hp=>?_,fun hb=>?_⟩
  . rw [patS_fin hrr.1 hrr.2] at hp
    have n:=nr_V (ng:=decide (S < 0)) (Int.natCast_nonneg _) hR (of_decide_eq_true hp)
    rw [iV_patS hrr.1 hrr.2]
    exact k_back n
  . rw [patS_fin hrr.1 hrr.2]
    exact decide_eq_true (fin_V hb hR)
end Go.Proofs.YtfgapefckpnjjaaGreatDoor
namespace Go.Proofs.YtfgapefckpnjjaaGreatDoor.M
open Go Ieee
theorem q_rg {b:Int} (h:rng b):rng (rg b)∧0 <= rg b:=by unfold rng rg at *; split <;> omega
theorem q_cls {b:Int} (h:rng b):cls (rg b)=cls b:=by
  unfold rng at h; unfold cls rg fld frc
  by_cases h0:b < 0
  . rw [if_pos h0,show (b + 9223372036854775808) / 4503599627370496 % 2048=b / 4503599627370496 % 2048 from by omega,show (b + 9223372036854775808) % 4503599627370496=b % 4503599627370496 from by omega]
  . rw [if_neg h0]
theorem q_wd {b:Int} (h:rng b):wd b % 9223372036854775808=wd (rg b):=by unfold rng rg wd at *; split <;> omega
theorem q_key {b:Int} (h:0 <= b):key b=b:=by unfold key; rw [if_neg (by omega)]
theorem q_wdlt (b:Int):wd b < 18446744073709551616:=by unfold wd; omega
theorem q_abs {b:Int} (h:rng b):(bits .andNot .u64 (wd b) 9223372036854775808).toNat=wd (rg b):=by
  have e:=q_wd h
  have l:=q_wdlt b
  rw [<- e]
  show (IntKind.u64.wrap (((BitVec.ofInt 64 (wd b:Int) &&& ~~~ BitVec.ofInt 64 9223372036854775808).toNat:Nat):Int)).toNat=_
  rw [BitVec.toNat_and,BitVec.toNat_not,ofInt64_toNat,ofInt64_toNat,show (2 ^ 64 - 1 - ((9223372036854775808:Int) % 18446744073709551616).toNat)=2 ^ 63 - 1 from by decide,Nat.and_two_pow_sub_one_eq_mod,IntKind.wrap_u64]
  omega
theorem q_fin {b:Int} (h:pok b=true):¬ cls b=4:=by
  have:=pparts h
  unfold cls; rw [if_neg this]; split
  . split <;> omega
  . omega
theorem q_lt {a b:Int} (ha:rng a) (hb:rng b) (h1:¬ cls a=4) (h2:¬ cls b=4) (h:key a < key b):FloatKind.f64.format.order (wd a) (wd b)=some .lt:=by rw [order64 ha hb h1 h2,compare_lt h]
theorem q_gt {a b:Int} (ha:rng a) (hb:rng b) (h1:¬ cls a=4) (h2:¬ cls b=4) (h:key b < key a):FloatKind.f64.format.order (wd a) (wd b)=some .gt:=by rw [order64 ha hb h1 h2,compare_gt h]
theorem q_eq {a b:Int} (ha:rng a) (hb:rng b) (h1:¬ cls a=4) (h2:¬ cls b=4) (h:key a=key b):FloatKind.f64.format.order (wd a) (wd b)=some .eq:=by rw [order64 ha hb h1 h2,compare_eq h]
def tame (b:Int):Bool:=decide (rg b=0) || (decide (3931642474694443008 <= rg b) && decide (rg b < 5282722362905591808))
def nn (p:Int):Prop:=rng p∧¬ cls p=4
def minP (a b:Int):Int:=if key a < key b then a else if key b < key a then b else if a=b then a else -9223372036854775808
def maxP (a b:Int):Int:=if key a < key b then b else if key b < key a then a else if a=b then a else 0
theorem key_zeros {a b:Int} (ha:rng a) (hb:rng b) (h:key a=key b) (hn:¬ a=b):(a=0∧b=-9223372036854775808)∨(a=-9223372036854775808∧b=0):=by
  unfold key rng at *
  split at h <;> split at h <;> omega
theorem nn0:nn 0∧nn (-9223372036854775808):=by refine ⟨⟨?_,by decide⟩,⟨?_,by decide⟩⟩ <;> (unfold rng; omega)
theorem minP_nn {a b:Int} (ha:nn a) (hb:nn b):nn (minP a b)∧key (minP a b) <= key a∧key (minP a b) <= key b∧(key (minP a b)=key a∨key (minP a b)=key b):=by
  unfold minP
  split
  . exact ⟨ha,by omega,by omega,.inl rfl⟩
  . split
    . exact ⟨hb,by omega,by omega,.inr rfl⟩
    . split
      . exact ⟨ha,by omega,by omega,.inl rfl⟩
      . have e:key a=key b:=by omega
        have e0:key (-9223372036854775808)=0:=by decide
        have e1:key 0=0:=by decide
        rcases key_zeros ha.1 hb.1 e (by assumption) with ⟨rfl,rfl⟩ | ⟨rfl,rfl⟩
        . exact ⟨nn0.2,by omega,by omega,.inr rfl⟩
        . exact ⟨nn0.2,by omega,by omega,.inl rfl⟩
theorem maxP_nn {a b:Int} (ha:nn a) (hb:nn b):nn (maxP a b)∧key a <= key (maxP a b)∧key b <= key (maxP a b)∧(key (maxP a b)=key a∨key (maxP a b)=key b):=by
  unfold maxP
  split
  . exact ⟨hb,by omega,by omega,.inr rfl⟩
  . split
    . exact ⟨ha,by omega,by omega,.inl rfl⟩
    . split
      . exact ⟨ha,by omega,by omega,.inl rfl⟩
      . have e:key a=key b:=by omega
        have e0:key (-9223372036854775808)=0:=by decide
        have e1:key 0=0:=by decide
        rcases key_zeros ha.1 hb.1 e (by assumption) with ⟨rfl,rfl⟩ | ⟨rfl,rfl⟩
        . exact ⟨nn0.1,by omega,by omega,.inl rfl⟩
        . exact ⟨nn0.1,by omega,by omega,.inr rfl⟩
def vld (lo hi:Int):Bool:=decide (¬ cls lo=4∧¬ cls hi=4∧key lo <= key hi∧key lo < 9218868437227405312∧-9218868437227405312 < key hi)
theorem vld_iff {lo hi:Int}:vld lo hi=true ↔ ¬ cls lo=4∧¬ cls hi=4∧key lo <= key hi∧key lo < 9218868437227405312∧-9218868437227405312 < key hi:=by unfold vld; exact decide_eq_true_iff
theorem key_canon {p:Int} (h:nn p):key (canon p)=key p∧nn (canon p):=by
  have h0:=cls0 h.1
  unfold canon
  rw [if_neg h.2]
  split
  . rename_i hz
    rcases h0.1 hz with rfl | rfl
    . exact ⟨rfl,nn0.1⟩
    . exact ⟨by decide,nn0.1⟩
  . exact ⟨rfl,h⟩
end Go.Proofs.YtfgapefckpnjjaaGreatDoor.M
namespace Go.Proofs.YtfgapefckpnjjaaGreatDoor
open Go Go.RowKit Go.Proofs.YtfgapefckpnjjaaGreatDoor.M
theorem mathAbs {b:Int} (hb:rng b) (w:World) :
    Calls Tryz.prog 78 #[.float .f64 (wd b)] w fun e w'=>e=.returned (.float .f64 (wd (rg b)))∧w'=w:=by
  have h1:=run_bits64
  have h2:=run_from64
  go_enter Tryz.func78,Tryz.ntmps78
  go_wp2
  go_ret
  exact ⟨ret_float (q_abs hb),rfl⟩
theorem q_two_set {p B g o:Nat} {v x0 x1:Value} {W:World} (hg:B <= g) (h:p < B∧B <= W.heap.size∧W.cell? ⟨p,0,none⟩=some x0∧W.cell? ⟨p,1,none⟩=some x1) :
    p < B∧B <= (W.setCell ⟨g,o,none⟩ v).heap.size∧(W.setCell ⟨g,o,none⟩ v).cell? ⟨p,0,none⟩=some x0∧(W.setCell ⟨g,o,none⟩ v).cell? ⟨p,1,none⟩=some x1:=by
  have hw:Wr g W (W.setCell ⟨g,o,none⟩ v):=(Wr.refl g W).setCell o v
  obtain ⟨h1,h2,a0,a1⟩:=h
  have hp:p < W.heap.size:=by omega
  have hne:p ≠ g:=by omega
  exact ⟨h1,Nat.le_trans h2 hw.size,(hw.cell hp hne).trans a0,(hw.cell hp hne).trans a1⟩
theorem q_heap_set {w:World} {g:Nat} {xs:Array Value} {t:TypeId} (h:w.heap[g]?=some (.cells xs t (0,0))) (i:Nat) (v:Value):(w.setCell ⟨g,i,none⟩ v).heap[g]?=some (.cells (xs.setIfInBounds i v) t (0,0)):=by
  simp [World.setCell,Array.getElem?_modify,h]
def q0 (b:Int):Int:=if b=-9223372036854775808 then 0 else b
theorem q_cell {w w':World} {p:Addr} {v:Value} (h:w.cell? p=some v) (hb:Below w.heap.size w w'):w'.cell? p=some v :=
  (hb.cell (World.block_lt_of_cell? w _ h)).trans h
theorem Q4.keeps {a b:Nat} {x0 x1 x2 x3:Value} {W W':World} (h:W.cell? ⟨a,0,none⟩=some x0∧W.cell? ⟨a,1,none⟩=some x1∧W.cell? ⟨b,0,none⟩=some x2∧W.cell? ⟨b,1,none⟩=some x3) (hb:Below W.heap.size W W') :
    W'.cell? ⟨a,0,none⟩=some x0∧W'.cell? ⟨a,1,none⟩=some x1∧W'.cell? ⟨b,0,none⟩=some x2∧W'.cell? ⟨b,1,none⟩=some x3 :=
  ⟨q_cell h.1 hb,q_cell h.2.1 hb,q_cell h.2.2.1 hb,q_cell h.2.2.2 hb⟩
def ivl (lo hi:Int):Value:=.agg #[.float .f64 (wd lo),.float .f64 (wd hi)]
def spn (lo hi:Int):Value:=.agg #[.int .i64 lo,.int .i64 hi]
set_option maxRecDepth 100000 in
theorem spanReadX (x y:Int) (w:World) :
    Calls Tryz.prog 38 #[spn x y] w fun e w'=>e=.returned (ivl x y)∧w'=((w.alloc (.cells #[.int .i64 x,.int .i64 y] 23)).alloc (.cells #[.float .f64 (wd x),.float .f64 (wd y)] 64)).drew:=by
  unfold spn ivl
  have hx:Hid ((((w.alloc (.cells #[.int .i64 x,.int .i64 y] 23)).alloc (.cells #[.float .f64 0,.float .f64 0] 64)).setCell ⟨w.heap.size + 1,0,none⟩ (.float .f64 (wd x))).setCell ⟨w.heap.size + 1,1,none⟩ (.float .f64 (wd y))=(w.alloc (.cells #[.int .i64 x,.int .i64 y] 23)).alloc (.cells #[.float .f64 (wd x),.float .f64 (wd y)] 64)):=by
    unfold Hid
    rw [World.setCell_alloc_at _ _ _ _ _ (by simp),World.setCell_alloc_at _ _ _ _ _ (by simp)]
    rfl
  have hb2:=bel_alloc2 w (.cells #[.int .i64 x,.int .i64 y] 23) (.cells #[.float .f64 0,.float .f64 0] 64)
  have q0:=heap_a2 w (.cells #[.int .i64 x,.int .i64 y] 23) (.cells #[.float .f64 0,.float .f64 0] 64)
  have q1:=heap_b2 w (.cells #[.int .i64 x,.int .i64 y] 23) (.cells #[.float .f64 0,.float .f64 0] 64)
  have hs:=size2 w (.cells #[.int .i64 x,.int .i64 y] 23) (.cells #[.float .f64 0,.float .f64 0] 64)
  have k0:=blkC q0 0 rfl
  have k1:=blkC q0 1 rfl
  go_enter Tryz.func38,Tryz.ntmps38
  go_wp2_with fail
  generalize hwx:(w.alloc (.cells #[.int .i64 x,.int .i64 y] 23)).alloc (.cells #[.float .f64 0,.float .f64 0] 64)=wx at hb2 q0 q1 hs k0 k1 hx ⊢
  clear hwx
  have hc:w.heap.size < w.heap.size + 1∧w.heap.size + 1 <= wx.drew.heap.size∧wx.drew.cell? ⟨w.heap.size,0,none⟩=some (.int .i64 x)∧wx.drew.cell? ⟨w.heap.size,1,none⟩=some (.int .i64 y):=⟨by omega,by show _ <= wx.heap.size; omega,k0,k1⟩
  have d1:wx.drew.heap[w.heap.size + 1]?=some (.cells #[.float .f64 0,.float .f64 0] 64 (0,0)):=q1
  have d2:((wx.setCell ⟨w.heap.size + 1,0,none⟩ (.float .f64 (wd x))).drew).heap[w.heap.size + 1]?=some (.cells #[.float .f64 (wd x),.float .f64 0] 64 (0,0)):=q_heap_set d1 0 (.float .f64 (wd x))
  have d3:(((wx.setCell ⟨w.heap.size + 1,0,none⟩ (.float .f64 (wd x))).setCell ⟨w.heap.size + 1,1,none⟩ (.float .f64 (wd y))).drew).heap[w.heap.size + 1]?=some (.cells #[.float .f64 (wd x),.float .f64 (wd y)] 64 (0,0)):=q_heap_set d2 1 (.float .f64 (wd y))
  have f0:=blkC d1 0 rfl
  have z0:=blkF d1 0
  have f1:=blkC d2 1 rfl
  have z1:=blkF d2 1
  have s0:(store ⟨w.heap.size + 1,0,none⟩ (.float .f64 (wd x))).run Tryz.prog wx.drew=.ok () ((wx.setCell ⟨w.heap.size + 1,0,none⟩ (.float .f64 (wd x))).drew):=by rw [run_store _ _ _ _ _ rfl,f0]; simp only [z0]; rfl
  have s1:(store ⟨w.heap.size + 1,1,none⟩ (.float .f64 (wd y))).run Tryz.prog ((wx.setCell ⟨w.heap.size + 1,0,none⟩ (.float .f64 (wd x))).drew)=.ok () (((wx.setCell ⟨w.heap.size + 1,0,none⟩ (.float .f64 (wd x))).setCell ⟨w.heap.size + 1,1,none⟩ (.float .f64 (wd y))).drew):=by rw [run_store _ _ _ _ _ rfl,f1]; simp only [z1]; rfl
  go_region_held3 (fun W=>w.heap.size < w.heap.size + 1∧w.heap.size + 1 <= W.heap.size∧W.cell? ⟨w.heap.size,0,none⟩=some (.int .i64 x)∧W.cell? ⟨w.heap.size,1,none⟩=some (.int .i64 y))
    (first | assumption | (repeat (first | exact hc | refine q_two_set (by omega) ?_)))
    ((go_at_call 47; refine (bitsFloat _ _).mono ?_; rintro _ _ ⟨rfl,rfl⟩))
  have e0:=blkC d3 0 rfl
  have e1:=blkC d3 1 rfl
  clear s0 s1 f0 f1 z0 z1 d1 d2 d3
  generalize (wx.setCell ⟨w.heap.size + 1,0,none⟩ (.float .f64 (wd x))).setCell ⟨w.heap.size + 1,1,none⟩ (.float .f64 (wd y))=wy at *
  go_wp2
  refine bodyPost_ret (v:=.agg #[.float .f64 (wd x),.float .f64 (wd y)]) (by simp [results,Tryz.results38,go_sem,e0,e1]) rfl ⟨rfl,by rw [hx.out]⟩
theorem spanRead (x y:Int) (w:World) :
    Calls Tryz.prog 38 #[spn x y] w fun e w'=>e=.returned (ivl x y)∧Below w.heap.size w w' :=
  (spanReadX x y w).mono fun _ _ ⟨h1,h2⟩=>⟨h1,by rw [h2]; exact (bel_alloc2 w _ _).drew⟩
theorem isInf_up {p:Int} (h:nn p) (w:World) :
    Calls Tryz.prog 60 #[.float .f64 (wd p),.int .i64 1] w fun e w'=>e=.returned (.bool (decide (9218868437227405312 <= key p)))∧w'=w:=by
  have r:rng 9218868437227405311:=by unfold rng; omega
  have c:¬ cls 9218868437227405311=4:=by decide
  have k:key 9218868437227405311=9218868437227405311:=by decide
  have e:wd 9218868437227405311=9218868437227405311:=by decide
  rcases Int.lt_trichotomy (key p) 9218868437227405311 with g | g | g
  . have o:=q_lt h.1 r h.2 c (by rw [k]; exact g)
    rw [e] at o
    rw [decide_eq_false (by omega)]
    go_enter Tryz.func60,Tryz.ntmps60
    go_wp2
    go_ret
    exact ⟨rfl,rfl⟩
  . have o:=q_eq h.1 r h.2 c (by rw [k]; exact g)
    rw [e] at o
    rw [decide_eq_false (by omega)]
    go_enter Tryz.func60,Tryz.ntmps60
    go_wp2
    go_ret
    exact ⟨rfl,rfl⟩
  . have o:=q_gt h.1 r h.2 c (by rw [k]; exact g)
    rw [e] at o
    rw [decide_eq_true (by omega)]
    go_enter Tryz.func60,Tryz.ntmps60
    go_wp2
    go_ret
    exact ⟨rfl,rfl⟩
theorem neg_wd {p:Int} (h:nn p):Op.negFloat .f64 (wd p)=wd (neg p):=by
  have hr:=h.1
  unfold Op.negFloat
  show wd p ^^^ 2 ^ 63=_
  unfold neg
  rw [if_neg h.2]
  unfold rng at hr
  by_cases h0:p < 0
  . rw [if_pos h0]
    have e:wd p=2 ^ 63 + wd (p + 9223372036854775808):=by unfold wd; omega
    rw [e,xor_top' 63 _ (by unfold wd; omega)]
  . rw [if_neg h0,Nat.xor_comm,xor_top 63 _ (by unfold wd; omega)]
    unfold wd; omega
theorem run_negF {P:Program} {p:Int} (h:nn p) (w:World):(Op.unary UnOp.neg (.float .f64 (wd p))).run P w=.ok (.float .f64 (wd (neg p))) w:=by
  show (pure (Value.float .f64 (Op.negFloat .f64 (wd p))):Sem Value).run P w=_
  rw [neg_wd h]
  rfl
theorem nn_neg {p:Int} (h:nn p):nn (neg p)∧key (neg p)=- key p:=by
  obtain ⟨a,b⟩:=key_neg h.1 h.2
  exact ⟨⟨rng_neg h.1,b⟩,a⟩
theorem isInf_down {p:Int} (h:nn p) (w:World) :
    Calls Tryz.prog 60 #[.float .f64 (wd p),.int .i64 (-1)] w fun e w'=>e=.returned (.bool (decide (key p <= -9218868437227405312)))∧w'=w:=by
  have r:rng 9218868437227405311:=by unfold rng; omega
  have c:¬ cls 9218868437227405311=4:=by decide
  have k:key 9218868437227405311=9218868437227405311:=by decide
  have e:wd 9218868437227405311=9218868437227405311:=by decide
  have hN:=fun W=>run_negF (P:=Tryz.prog) h W
  obtain ⟨g0,g1⟩:=nn_neg h
  rcases Int.lt_trichotomy (key (neg p)) 9218868437227405311 with g | g | g
  . have o:=q_lt g0.1 r g0.2 c (by rw [k]; exact g)
    rw [e] at o
    rw [decide_eq_false (by omega)]
    clear g1 g
    go_enter Tryz.func60,Tryz.ntmps60
    go_wp2
    go_ret
    exact ⟨rfl,rfl⟩
  . have o:=q_eq g0.1 r g0.2 c (by rw [k]; exact g)
    rw [e] at o
    rw [decide_eq_false (by omega)]
    clear g1 g
    go_enter Tryz.func60,Tryz.ntmps60
    go_wp2
    go_ret
    exact ⟨rfl,rfl⟩
  . have o:=q_gt g0.1 r g0.2 c (by rw [k]; exact g)
    rw [e] at o
    rw [decide_eq_true (by omega)]
    clear g1 g
    go_enter Tryz.func60,Tryz.ntmps60
    go_wp2
    go_ret
    exact ⟨rfl,rfl⟩
set_option maxRecDepth 100000 in
theorem ivlValid {lo hi:Int} (hl:rng lo) (hh:rng hi) (w:World) :
    Calls Tryz.prog 39 #[ivl lo hi] w fun e w'=>e=.returned (.bool (vld lo hi))∧Below w.heap.size w w':=by
  unfold ivl
  by_cases h4:cls lo=4∨cls hi=4
  . have o:=order64_nan hl hh h4
    rw [show vld lo hi=false from decide_eq_false (fun h=>by rcases h4 with g | g; exact h.1 g; exact h.2.1 g)]
    go_enter Tryz.func39,Tryz.ntmps39
    go_wp2
    go_ret
    exact ⟨rfl,bel_alloc _ _⟩
  have h1:¬ cls lo=4:=fun h=>h4 (.inl h)
  have h2:¬ cls hi=4:=fun h=>h4 (.inr h)
  have CU:Hid (∀ W,Calls Tryz.prog 60 #[.float .f64 (wd lo),.int .i64 1] W fun e w'=>e=.returned (.bool (decide (9218868437227405312 <= key lo)))∧w'=W):=fun W=>isInf_up ⟨hl,h1⟩ W
  have CD:Hid (∀ W,Calls Tryz.prog 60 #[.float .f64 (wd hi),.int .i64 (-1)] W fun e w'=>e=.returned (.bool (decide (key hi <= -9218868437227405312)))∧w'=W):=fun W=>isInf_down ⟨hh,h2⟩ W
  have q0:(w.alloc (.cells #[.float .f64 (wd lo),.float .f64 (wd hi)] 64)).heap[w.heap.size]?=some (.cells #[.float .f64 (wd lo),.float .f64 (wd hi)] 64 (0,0)):=by show (w.heap.push _)[w.heap.size]?=_; simp
  have k0:=blkC q0 0 rfl
  have k1:=blkC q0 1 rfl
  have hb:=bel_alloc w (.cells #[.float .f64 (wd lo),.float .f64 (wd hi)] 64)
  by_cases g:key hi < key lo
  . have o:=q_gt hl hh h1 h2 g
    rw [show vld lo hi=false from decide_eq_false (fun h=>by omega)]
    clear CU CD
    go_enter Tryz.func39,Tryz.ntmps39
    go_wp2
    go_ret
    exact ⟨rfl,bel_alloc _ _⟩
  have o:FloatKind.f64.format.order (wd lo) (wd hi)=some .lt∨FloatKind.f64.format.order (wd lo) (wd hi)=some .eq:=by
    by_cases e:key lo=key hi
    . exact .inr (q_eq hl hh h1 h2 e)
    . exact .inl (q_lt hl hh h1 h2 (by omega))
  by_cases a:9218868437227405312 <= key lo
  . rw [show vld lo hi=false from decide_eq_false (fun h=>by omega)]
    rw [decide_eq_true a] at CU
    clear h4 g a CD q0 k0 k1
    rcases o with o | o
    all_goals
      go_enter Tryz.func39,Tryz.ntmps39
      go_wp2_with (go_at_call 60; refine (CU.out _).mono ?_; rintro _ _ ⟨rfl,rfl⟩)
      go_ret
      exact ⟨rfl,hb⟩
  rw [decide_eq_false a] at CU
  by_cases b:key hi <= -9218868437227405312
  . rw [show vld lo hi=false from decide_eq_false (fun h=>by omega)]
    rw [decide_eq_true b] at CD
    clear h4 g a b q0 k0 k1
    rcases o with o | o
    all_goals
      go_enter Tryz.func39,Tryz.ntmps39
      go_wp2_with fail
      refine (CU.out _).mono ?_
      rintro _ _ ⟨rfl,rfl⟩
      go_wp2_with fail
      refine (CD.out _).mono ?_
      rintro _ _ ⟨rfl,rfl⟩
      go_wp2
      go_ret
      exact ⟨rfl,hb⟩
  . rw [show vld lo hi=true from decide_eq_true ⟨h1,h2,by omega,by omega,by omega⟩]
    rw [decide_eq_false b] at CD
    clear h4 g a b q0 k0 k1
    rcases o with o | o
    all_goals
      go_enter Tryz.func39,Tryz.ntmps39
      go_wp2_with fail
      refine (CU.out _).mono ?_
      rintro _ _ ⟨rfl,rfl⟩
      go_wp2_with fail
      refine (CD.out _).mono ?_
      rintro _ _ ⟨rfl,rfl⟩
      go_wp2
      go_ret
      exact ⟨rfl,hb⟩
end Go.Proofs.YtfgapefckpnjjaaGreatDoor
