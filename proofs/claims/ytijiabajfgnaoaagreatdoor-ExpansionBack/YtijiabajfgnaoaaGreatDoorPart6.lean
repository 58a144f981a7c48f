/- Parts of the proof. -/
import Derived.Test.YtijiabajfgnaoaaGreatDoorPart5
set_option linter.unusedVariables false
set_option linter.unusedSimpArgs false
namespace Go.Proofs.YtijiabajfgnaoaaGreatDoor
open Go Go.RowKit Go.Proofs.YtijiabajfgnaoaaGreatDoor.M Ieee
theorem read_same {x y:Nat} (h1:x % Ieee.double.signWeight=y % Ieee.double.signWeight) (h2:(x / Ieee.double.signWeight % 2 == 1)=!(y / Ieee.double.signWeight % 2 == 1)):Ieee.double.read x=(Ieee.double.read y).opposite:=by
  unfold Format.read
  dsimp only
  rw [h1,h2]
  split
  . rfl
  . split
    . rfl
    . split
      . rfl
      . rfl
theorem read_neg {q:Int} (hq:rng q) (h4:cls q ≠ 4):Ieee.double.read (wd (neg q))=(Ieee.double.read (wd q)).opposite:=by
  have hn:neg q=if q < 0 then q + 9223372036854775808 else q - 9223372036854775808:=by unfold neg; rw [if_neg h4]
  refine read_same ?_ ?_
  . rw [dSign,hn]
    unfold rng at hq
    unfold wd
    split <;> omega
  . rw [dSign,wd_neg (rng_neg hq),wd_neg hq,hn]
    unfold rng at hq
    by_cases h:q < 0
    . rw [if_pos h,decide_eq_false (p:=q + 9223372036854775808 < 0) (by omega),decide_eq_true h]; rfl
    . rw [if_neg h,decide_eq_true (p:=q - 9223372036854775808 < 0) (by omega),decide_eq_false h]; rfl
theorem neg_nan {q:Int} (h:cls q=4):neg q=9221120237041090561:=by unfold neg; rw [if_pos h]
theorem sub_FW {p q:Int} {x y:Nat} (hx:FW p x) (hy:FW q y):(∃ z,Ieee.double.sub x y=some z∧FW (fsum p (neg q)) z)∨(Ieee.double.sub x y=none∧fsum p (neg q)=9221120237041090561):=by
  by_cases h4:cls q=4
  . right
    refine ⟨?_,by unfold fsum; rw [neg_nan h4,if_pos (.inr nan_canon)]⟩
    obtain ⟨s,t,e⟩:=hy.read_nan h4
    unfold Format.sub
    rw [e]
    cases Ieee.double.read x <;> rfl
  . obtain ⟨rq,rfl,_,_⟩:=hy.of h4
    have hs:Ieee.double.sub x (wd q)=Ieee.double.add x (wd (neg q)):=by
      unfold Format.sub Format.add
      rw [read_neg rq h4]
    rw [hs]
    exact add_FW hx (FW.pat (cls_neg rq h4) (rng_neg rq))
theorem run_fdiff {P:Program} (t:TypeId) {p q:Int} {x y:Nat} (hx:FW p x) (hy:FW q y) (w:World) :
    ∃ z w',(binOp .sub t (.float .f64 x) (.float .f64 y)).run P w=.ok (.float .f64 z) w'∧FW (fsum p (neg q)) z∧(w'=w∨w'=w.drew):=by
  obtain ⟨z,w',h,hz⟩:=run_farith (P:=P) .sub (.inr (.inl rfl)) t x y w
  refine ⟨z,w',h,?_⟩
  have hf:floatBits .sub .f64 x y=Ieee.double.sub x y:=rfl
  rw [hf] at hz
  rcases sub_FW hx hy with ⟨z',e1,e2⟩ | ⟨e1,e2⟩
  . rcases hz with ⟨h1,h2⟩ | ⟨h1,_⟩
    . rw [e1] at h1; cases h1; exact ⟨e2,.inl h2⟩
    . rw [e1] at h1; cases h1
  . rcases hz with ⟨h1,_⟩ | ⟨_,h2,h3⟩
    . rw [e1] at h1; cases h1
    . rw [e2]; exact ⟨FW.nan h2,.inr h3⟩
def xsg (p q:Int):Bool:=decide (p < 0) != decide (q < 0)
def fsize (p q:Int):Int:=sg (xsg p q) (patV p * patV q / 2 ^ 4194304)
def fprod (p q:Int):Int :=
  if cls p=4∨cls q=4 then 9221120237041090561
  else if rg p=9218868437227405312∨rg q=9218868437227405312 then (if rg p=0∨rg q=0 then 9221120237041090561 else patS (xsg p q) 9218868437227405312)
  else if fsize p q=0 then patS (xsg p q) 0 else nearP (sg (xsg p q) (fsize p q))
theorem fsize_of {g:Bool} {D Z C:Int} (hZ:0 < Z) (h:sg g D * Z=C):sg g (C / Z)=D:=by
  rw [<- h,Int.mul_ediv_cancel _ (Int.ne_of_gt hZ)]
  cases g
  . rfl
  . exact Int.neg_neg D
theorem nearP_sg {g:Bool} {D:Int} {r0:Nat} {left:Int} (h0:0 < D) (hR:Rung D r0 left):nearP (sg g D)=patS g (rTo 0 g r0 left):=by
  have hd:decide (sg g D < 0)=g:=by
    cases g
    . exact decide_eq_false (by show ¬ D < 0; omega)
    . exact decide_eq_true (by show -D < 0; omega)
  have hn:sg g D ≠ 0:=by
    cases g
    . show D ≠ 0; omega
    . show -D ≠ 0; omega
  obtain ⟨A,s0,k,e1,e2,e3⟩:=nearP_rung hn
  rw [hd] at e1 e3
  have:=sg_inj e1
  subst this
  obtain ⟨h1,h2⟩:=hR.unique e2
  subst h1 h2
  exact e3
theorem fmul_fin {p q:Int} (hp:rng p) (hq:rng q) (pp:pok p=true) (pq:pok q=true):Ieee.double.mul (wd p) (wd q)=some (wd (if fsize p q=0 then patS (xsg p q) 0 else nearP (sg (xsg p q) (fsize p q)))):=by
  obtain ⟨D,d0,d1,d2,d3⟩:=fmul hp hq pp pq
  have hf:fsize p q=D:=fsize_of (two_pos 4194304) d1
  rw [hf]
  by_cases h:D=0
  . rw [if_pos h]; exact d2 h
  . rw [if_neg h]
    obtain ⟨r0,left,hR,hE⟩:=d3 h
    rw [hE,nearP_sg (by omega) hR]
    rfl
theorem write_infS (g:Bool):Ieee.double.write (.infinity g)=wd (patS g 9218868437227405312):=by
  unfold Format.write
  dsimp only
  rw [dInf]
  exact wd_word (ng:=g) (r:=9218868437227405312) (by decide) (by decide)
theorem mag_zero {q:Int} {m u:Nat} (hq:rng q) (pq:pok q=true) (h:patV q=sg (decide (q < 0)) ((m:Int) * pw (-1074 + (u:Int)))):m=0 ↔ rg q=0:=by
  have e:=patV_dec hq pq
  rw [h] at e
  have e2:=sg_inj e
  obtain ⟨r0,r1⟩:=rg_lt hq pq
  constructor
  . intro hm
    rw [hm] at e2
    have e3:vS (rg q).toNat=0:=by rw [<- e2]; simp
    rcases Nat.eq_zero_or_pos (rg q).toNat with g | g
    . omega
    . have:=vS_lt g
      rw [vS_zero,e3] at this
      exact absurd this (Int.lt_irrefl _)
  . intro hr
    rw [hr] at e2
    have e3:(m:Int) * pw (-1074 + (u:Int))=0:=by rw [e2]; exact vS_zero
    have:=(eq_zero_iff (pw_pos (-1074 + (u:Int)))).2 e3
    omega
theorem mul_FW {p q:Int} {x y:Nat} (hx:FW p x) (hy:FW q y):(∃ z,Ieee.double.mul x y=some z∧FW (fprod p q) z)∨(Ieee.double.mul x y=none∧fprod p q=9221120237041090561):=by
  by_cases h4:cls p=4∨cls q=4
  . right
    refine ⟨?_,by unfold fprod; rw [if_pos h4]⟩
    unfold Format.mul
    rcases h4 with h | h
    . obtain ⟨s,t,e⟩:=hx.read_nan h
      rw [e]
      rfl
    . obtain ⟨s,t,e⟩:=hy.read_nan h
      rw [e]
      cases Ieee.double.read x <;> rfl
  . have h4p:cls p ≠ 4:=fun h=>h4 (.inl h)
    have h4q:cls q ≠ 4:=fun h=>h4 (.inr h)
    obtain ⟨rp,rfl,p0,p1⟩:=hx.of h4p
    obtain ⟨rq,rfl,q0,q1⟩:=hy.of h4q
    have hI:=patS_rng (ng:=xsg p q) (r:=9218868437227405312) (by decide) (by decide)
    have hX:(decide (p < 0) ^^ decide (q < 0))=xsg p q:=xor_ne _ _
    have hX2:(decide (q < 0) ^^ decide (p < 0))=xsg p q:=by rw [<- hX]; cases decide (p < 0) <;> cases decide (q < 0) <;> rfl
    unfold fprod
    rw [if_neg h4]
    by_cases ip:rg p=9218868437227405312
    . rw [if_pos (.inl ip)]
      have ep:=read_inf64 rp ip
      by_cases iq:rg q=9218868437227405312
      . left
        rw [if_neg (by omega)]
        refine ⟨_,?_,FW.pat hI.2 hI.1⟩
        unfold Format.mul
        rw [ep,read_inf64 rq iq]
        show some (Ieee.double.write (.infinity (decide (p < 0) ^^ decide (q < 0))))=_
        rw [write_infS,hX]
      . have pq:=(pok_rg rq).2 (by omega)
        obtain ⟨m,u,eq,vq⟩:=read_wd rq pq
        have hz:=mag_zero rq pq vq
        by_cases hm:m=0
        . right
          refine ⟨?_,by rw [if_pos (.inr (hz.1 hm))]⟩
          unfold Format.mul
          rw [ep,eq,hm]
          rfl
        . left
          rw [if_neg (fun h=>by rcases h with h | h; omega; exact hm (hz.2 h))]
          refine ⟨_,?_,FW.pat hI.2 hI.1⟩
          unfold Format.mul
          rw [ep,eq]
          unfold Datum.product
          dsimp only
          rw [if_neg hm]
          show some (Ieee.double.write (.infinity (decide (p < 0) ^^ decide (q < 0))))=_
          rw [write_infS,hX]
    . have pp:=(pok_rg rp).2 (by omega)
      by_cases iq:rg q=9218868437227405312
      . rw [if_pos (.inr iq)]
        obtain ⟨m,u,ep,vp⟩:=read_wd rp pp
        have hz:=mag_zero rp pp vp
        have eq:=read_inf64 rq iq
        by_cases hm:m=0
        . right
          refine ⟨?_,by rw [if_pos (.inl (hz.1 hm))]⟩
          unfold Format.mul
          rw [ep,eq,hm]
          rfl
        . left
          rw [if_neg (fun h=>by rcases h with h | h; exact hm (hz.2 h); omega)]
          refine ⟨_,?_,FW.pat hI.2 hI.1⟩
          unfold Format.mul
          rw [ep,eq]
          unfold Datum.product
          dsimp only
          rw [if_neg hm]
          show some (Ieee.double.write (.infinity (decide (q < 0) ^^ decide (p < 0))))=_
          rw [write_infS,hX2]
      . left
        rw [if_neg (by omega)]
        refine ⟨_,fmul_fin rp rq pp ((pok_rg rq).2 (by omega)),?_⟩
        by_cases hS:fsize p q=0
        . rw [if_pos hS]
          obtain ⟨g1,g2⟩:=patS_rng (ng:=xsg p q) (r:=0) (by decide) (by decide)
          exact FW.pat g2 g1
        . rw [if_neg hS]
          have hn:sg (xsg p q) (fsize p q) ≠ 0:=by
            generalize fsize p q=D at *
            cases xsg p q
            . exact hS
            . show -D ≠ 0; omega
          exact FW.pat (nearP_pat hn).2 (nearP_pat hn).1
theorem run_fprod {P:Program} (t:TypeId) {p q:Int} {x y:Nat} (hx:FW p x) (hy:FW q y) (w:World) :
    ∃ z w',(binOp .mul t (.float .f64 x) (.float .f64 y)).run P w=.ok (.float .f64 z) w'∧FW (fprod p q) z∧(w'=w∨w'=w.drew):=by
  obtain ⟨z,w',h,hz⟩:=run_farith (P:=P) .mul (.inr (.inr (.inl rfl))) t x y w
  refine ⟨z,w',h,?_⟩
  have hf:floatBits .mul .f64 x y=Ieee.double.mul x y:=rfl
  rw [hf] at hz
  rcases mul_FW hx hy with ⟨z',e1,e2⟩ | ⟨e1,e2⟩
  . rcases hz with ⟨h1,h2⟩ | ⟨h1,_⟩
    . rw [e1] at h1; cases h1; exact ⟨e2,.inl h2⟩
    . rw [e1] at h1; cases h1
  . rcases hz with ⟨h1,_⟩ | ⟨_,h2,h3⟩
    . rw [e1] at h1; cases h1
    . rw [e2]; exact ⟨FW.nan h2,.inr h3⟩
theorem wd_told {a:Int} (ha:rng a):FW (told a) (wd a):=by
  unfold told
  by_cases h:cls a=4
  . rw [if_pos h]
    refine FW.nan ⟨?_,?_⟩
    . unfold wd; omega
    . exact (cls4_rung ha).1 h
  . rw [if_neg h]
    exact FW.pat h ha
theorem patW_rng {x:Nat} (h:x < 18446744073709551616):rng (patW x)∧wd (patW x)=x:=by
  unfold patW rng wd
  split
  . exact ⟨by omega,by omega⟩
  . exact ⟨by omega,by omega⟩
theorem of_FW {p:Int} {x:Nat} (h:FW p x) (w:World):Calls Tryz.prog 98 #[.float .f64 x] w fun e w'=>e=.returned (.int .i64 p)∧w'=w:=by
  rcases h with ⟨h4,hp,rfl⟩ | ⟨rfl,hN⟩
  . have:=bitsOf p w hp
    have e:told p=p:=by unfold told; rw [if_neg h4]
    rwa [e] at this
  . obtain ⟨h1,h2⟩:=patW_rng hN.1
    have:=bitsOf (patW x) w h1
    rw [h2] at this
    have e:told (patW x)=9221120237041090561:=by
      unfold told
      rw [if_pos ((cls4_rung h1).2 (by rw [h2]; exact hN.2))]
    rwa [e] at this
end Go.Proofs.YtijiabajfgnaoaaGreatDoor
namespace Go.Proofs.YtijiabajfgnaoaaGreatDoor.M
def Fl (n:Int):Prop:=∃ k:Nat,(2 ^ k:Int) ∣ n∧(n.natAbs:Int) < 9007199254740992 * 2 ^ k
def Nr (S h:Int):Prop:=Fl h∧∀ f,Fl f->(h - S).natAbs <= (f - S).natAbs
theorem p2 (k:Nat):(0:Int) < 2 ^ k:=Int.pow_pos (by decide)
theorem p2s (k:Nat):(2:Int) ^ (k + 1)=2 * 2 ^ k:=by rw [Int.pow_succ,Int.mul_comm]
theorem p2dvd {j k:Nat} (h:j <= k):(2 ^ j:Int) ∣ 2 ^ k:=⟨2 ^ (k - j),by rw [<- Int.pow_add,Nat.add_sub_cancel' h]⟩
theorem p2le {j k:Nat} (h:j <= k):(2:Int) ^ j <= 2 ^ k:=Int.le_of_dvd (p2 k) (p2dvd h)
theorem p2lt {j k:Nat} (h:(2:Int) ^ j < 2 ^ k):j < k:=by
  rcases Nat.lt_or_ge j k with c | c
  . exact c
  . have:=p2le c; omega
theorem Fl.neg {n:Int} (h:Fl n):Fl (-n):=by
  obtain ⟨k,d,b⟩:=h
  exact ⟨k,(Int.dvd_neg).2 d,by rw [Int.natAbs_neg]; exact b⟩
theorem fl_zero:Fl 0:=⟨0,⟨0,by simp⟩,by simp⟩
theorem fl_of {n:Int} {k:Nat} (d:(2 ^ k:Int) ∣ n) (b:(n.natAbs:Int) <= 9007199254740992 * 2 ^ k):Fl n:=by
  by_cases c:(n.natAbs:Int) < 9007199254740992 * 2 ^ k
  . exact ⟨k,d,c⟩
  . have e:(n.natAbs:Int)=9007199254740992 * 2 ^ k:=by omega
    refine ⟨k + 1,?_,?_⟩
    . rw [<- Int.dvd_natAbs,e,p2s]
      exact ⟨4503599627370496,by omega⟩
    . rw [p2s]; have:=p2 k; omega
theorem Fl.dbl {n:Int} (h:Fl n):Fl (2 * n):=by
  obtain ⟨k,⟨c,rfl⟩,b⟩:=h
  refine ⟨k + 1,⟨c,by rw [p2s,Int.mul_assoc]⟩,?_⟩
  rw [p2s]
  omega
theorem Nr.neg {S h:Int} (n:Nr S h):Nr (-S) (-h):=by
  refine ⟨n.1.neg,fun f hf=>?_⟩
  have:=n.2 (-f) hf.neg
  omega
theorem nr_self {S h:Int} (hS:Fl S) (n:Nr S h):h=S:=by
  have:=n.2 S hS
  omega
theorem fl_sub {x y:Int} (hx:Fl x) (hy:Fl y) (h1:(x - y).natAbs <= x.natAbs) (h2:(x - y).natAbs <= y.natAbs):Fl (x - y):=by
  obtain ⟨j,dx,bx⟩:=hx
  obtain ⟨k,dy,by1⟩:=hy
  rcases Nat.le_total j k with c | c
  . exact ⟨j,Int.dvd_sub dx (Int.dvd_trans (p2dvd c) dy),by omega⟩
  . exact ⟨k,Int.dvd_sub (Int.dvd_trans (p2dvd c) dx) dy,by omega⟩
theorem fl_add {x y:Int} (hx:Fl x) (hy:Fl y) (h1:(x + y).natAbs <= x.natAbs) (h2:(x + y).natAbs <= y.natAbs):Fl (x + y):=by
  have e:x + y=x - -y:=by omega
  rw [e]
  exact fl_sub hx hy.neg (by omega) (by omega)
theorem nr_dvd_pos {S h:Int} {k:Nat} (n:Nr S h) (d:(2 ^ k:Int) ∣ S) (h0:0 <= S):(2 ^ k:Int) ∣ h:=by
  by_cases c:(S.natAbs:Int) <= 9007199254740992 * 2 ^ k
  . rw [nr_self (fl_of d c) n]; exact d
  . have hT:Fl (9007199254740992 * 2 ^ k):=fl_of ⟨9007199254740992,by rw [Int.mul_comm]⟩ (by have:=p2 k; omega)
    have h1:=n.2 _ hT
    obtain ⟨j,dj,bj⟩:=n.1
    have hk:=p2 k
    have hj:=p2 j
    have:(2:Int) ^ k < 2 ^ j:=by omega
    exact Int.dvd_trans (p2dvd (Nat.le_of_lt (p2lt this))) dj
theorem nr_dvd {S h:Int} {k:Nat} (n:Nr S h) (d:(2 ^ k:Int) ∣ S):(2 ^ k:Int) ∣ h:=by
  rcases Int.le_total 0 S with c | c
  . exact nr_dvd_pos n d c
  . have:=nr_dvd_pos n.neg ((Int.dvd_neg).2 d) (by omega)
    exact (Int.dvd_neg).1 this
theorem err_sum {a b h:Int} (ha:Fl a) (hb:Fl b) (n:Nr (a + b) h):Fl (a + b - h):=by
  have e1:=n.2 a ha
  have e2:=n.2 b hb
  obtain ⟨j,da,ba⟩:=ha
  obtain ⟨k,db,bb⟩:=hb
  rcases Nat.le_total j k with c | c
  . have d:=Int.dvd_add da (Int.dvd_trans (p2dvd c) db)
    exact ⟨j,Int.dvd_sub d (nr_dvd n d),by omega⟩
  . have d:=Int.dvd_add (Int.dvd_trans (p2dvd c) da) db
    exact ⟨k,Int.dvd_sub d (nr_dvd n d),by omega⟩
theorem back_pos {a b h:Int} (ha:Fl a) (hb:Fl b) (h0:0 <= a) (hab:b.natAbs <= a.natAbs) (n:Nr (a + b) h):Fl (h - a):=by
  have ea:=n.2 a ha
  have e2:=n.2 (2 * a) ha.dbl
  have ez:=n.2 0 fl_zero
  by_cases hs:a <= 2 * h
  . exact fl_sub n.1 ha (by omega) (by omega)
  . have hS:Fl (a + b):=by
      obtain ⟨k,⟨c,hc⟩,ba⟩:=ha
      cases k with
      | zero=>exact ⟨0,⟨a + b,by simp⟩,by simp at ba ⊢; omega⟩
      | succ k=>
        have hf:Fl (2 ^ k * c):=⟨k,⟨c,rfl⟩,by rw [p2s] at ba hc; rw [Int.mul_assoc] at hc; omega⟩
        have e3:=n.2 _ hf
        rw [p2s,Int.mul_assoc] at hc
        exact fl_add ⟨k + 1,⟨c,by rw [p2s,Int.mul_assoc]; exact hc⟩,ba⟩ hb (by omega) (by omega)
    rw [nr_self hS n,show a + b - a=b by omega]
    exact hb
theorem back {a b h:Int} (ha:Fl a) (hb:Fl b) (hab:b.natAbs <= a.natAbs) (n:Nr (a + b) h):Fl (h - a):=by
  rcases Int.le_total 0 a with c | c
  . exact back_pos ha hb c hab n
  . have n2:=n.neg
    rw [show -(a + b)=-a + -b by omega] at n2
    have:=(back_pos ha.neg hb.neg (by omega) (by omega) n2).neg
    rwa [show -(-h - -a)=h - a by omega] at this
theorem binade (S:Int) (h0:0 <= S):∃ k:Nat,S < 9007199254740992 * 2 ^ k∧(k=0∨4503599627370496 * 2 ^ k <= S):=by
  have ex:∀ n:Nat,S < 9007199254740992 * 2 ^ n->∃ k:Nat,S < 9007199254740992 * 2 ^ k∧(k=0∨4503599627370496 * 2 ^ k <= S):=by
    intro n
    induction n with
    | zero=>intro h; exact ⟨0,h,.inl rfl⟩
    | succ n ih=>
      intro h
      by_cases c:S < 9007199254740992 * 2 ^ n
      . exact ih c
      . exact ⟨n + 1,h,.inr (by rw [p2s]; omega)⟩
  refine ex S.natAbs ?_
  have h1:S.natAbs < 2 ^ S.natAbs:=Nat.lt_two_pow_self
  have h2:((2 ^ S.natAbs:Nat):Int)=2 ^ S.natAbs:=by simp
  have h3:=p2 S.natAbs
  omega
theorem nr_rel_pos {S h:Int} (n:Nr S h) (h0:0 <= S):1000 * (h - S).natAbs <= S.natAbs:=by
  obtain ⟨k,b,c⟩:=binade S h0
  have hk:=p2 k
  have hm:=Int.emod_nonneg S (show (2:Int) ^ k ≠ 0 by omega)
  have hl:=Int.emod_lt_of_pos S hk
  have hf:Fl (S - S % 2 ^ k):=by
    refine fl_of (k:=k) ⟨S / 2 ^ k,by have:=Int.emod_add_mul_ediv S (2 ^ k); omega⟩ ?_
    have:0 <= S - S % 2 ^ k:=by
      have:=Int.emod_add_mul_ediv S (2 ^ k)
      have h2:0 <= 2 ^ k * (S / 2 ^ k):=Int.mul_nonneg (by omega) (Int.ediv_nonneg h0 (by omega))
      omega
    omega
  have e:=n.2 _ hf
  rcases c with c | c
  . subst c
    have:S % 2 ^ 0=0:=by simp
    omega
  . omega
theorem nr_rel {S h:Int} (n:Nr S h):1000 * (h - S).natAbs <= S.natAbs:=by
  rcases Int.le_total 0 S with c | c
  . exact nr_rel_pos n c
  . have:=nr_rel_pos n.neg (by omega)
    omega
theorem two_sum {a b h v u p q l:Int} (ha:Fl a) (hb:Fl b) (nh:Nr (a + b) h) (nv:Nr (h - a) v) (nu:Nr (h - v) u) (np:Nr (a - u) p) (nq:Nr (b - v) q) (nl:Nr (p + q) l):l=a + b - h:=by
  have hd:=err_sum ha hb nh
  -- the step back,where it is exact
  have A:Fl (h - a)->l=a + b - h:=by
    intro hx
    have e1:=nr_self hx nv
    subst e1
    rw [show h - (h - a)=a by omega] at nu
    have e2:=nr_self ha nu
    subst e2
    rw [show u - u=0 by omega] at np
    have e3:=nr_self fl_zero np
    subst e3
    rw [show b - (h - u)=u + b - h by omega] at nq
    have e4:=nr_self hd nq
    subst e4
    rw [show 0 + (u + b - h)=u + b - h by omega] at nl
    exact nr_self hd nl
  by_cases hab:b.natAbs <= a.natAbs
  . exact A (back ha hb hab nh)
  by_cases hha:a.natAbs <= h.natAbs
  . -- h - v is exact
    have n1:Nr (h + -a) v:=by rw [show h + -a=h - a by omega]; exact nv
    have hx:=(back nh.1 ha.neg (by omega) n1).neg
    rw [show -(v - h)=h - v by omega] at hx
    have e1:=nr_self hx nu
    subst e1
    have hy:=(err_sum nh.1 ha.neg n1).neg
    rw [show -(h + -a - v)=a - (h - v) by omega] at hy
    have e2:=nr_self hy np
    subst e2
    have r1:=nr_rel nh
    have r2:=nv.2 b hb
    have hz:Fl (b - v):=fl_sub hb nv.1 (by omega) (by omega)
    have e3:=nr_self hz nq
    subst e3
    rw [show a - (h - v) + (b - v)=a + b - h by omega] at nl
    exact nr_self hd nl
  . -- then the sum is exact
    have e1:=nh.2 a ha
    have e2:=nh.2 (-a) ha.neg
    have hS:Fl (a + b):=fl_add ha hb (by omega) (by omega)
    have e3:=nr_self hS nh
    exact A (by rw [e3,show a + b - a=b by omega]; exact hb)
theorem fast_sum {a b h v l:Int} (ha:Fl a) (hb:Fl b) (hab:b.natAbs <= a.natAbs) (nh:Nr (a + b) h) (nv:Nr (h - a) v) (nl:Nr (b - v) l):l=a + b - h:=by
  have hd:=err_sum ha hb nh
  have e1:=nr_self (back ha hb hab nh) nv
  subst e1
  rw [show b - (h - a)=a + b - h by omega] at nl
  exact nr_self hd nl
theorem nr_ge {S h T:Int} (n:Nr S h) (hT:Fl T) (c:T <= S):T <= h:=by
  have:=n.2 T hT
  omega
theorem nr_le {S h T:Int} (n:Nr S h) (hT:Fl T) (c:S <= T):h <= T:=by
  have:=n.2 T hT
  omega
theorem fl_p2 (i:Nat) {m:Nat} (hm:(m:Int) <= 9007199254740992):Fl ((m:Int) * 2 ^ i):=by
  refine fl_of (k:=i) ⟨m,by rw [Int.mul_comm]⟩ ?_
  have h1:0 <= (m:Int) * 2 ^ i:=Int.mul_nonneg (by omega) (Int.le_of_lt (p2 i))
  have h2:(m:Int) * 2 ^ i <= 9007199254740992 * 2 ^ i:=Int.mul_le_mul_of_nonneg_right hm (Int.le_of_lt (p2 i))
  omega
theorem fl_units {h:Int} {i:Nat} (f:Fl h) (c:4503599627370496 * 2 ^ i <= (h.natAbs:Int)):(2 ^ i:Int) ∣ h:=by
  obtain ⟨j,d,b⟩:=f
  have hi:=p2 i
  have hj:=p2 j
  cases i with
  | zero=>exact ⟨h,by simp⟩
  | succ i=>
    rw [p2s] at c
    have:(2:Int) ^ i < 2 ^ j:=by omega
    exact Int.dvd_trans (p2dvd (p2lt this)) d
theorem near_mult (S:Int) (i:Nat):∃ T:Int,(2 ^ i:Int) ∣ T∧2 * (T - S).natAbs <= (2 ^ i:Int):=by
  have hi:=p2 i
  have hm:=Int.emod_nonneg S (show (2:Int) ^ i ≠ 0 by omega)
  have hl:=Int.emod_lt_of_pos S hi
  have e:=Int.emod_add_mul_ediv S (2 ^ i)
  generalize S % 2 ^ i=t at *
  by_cases c:2 * t <= 2 ^ i
  . exact ⟨S - t,⟨S / 2 ^ i,by omega⟩,by omega⟩
  . exact ⟨S - t + 2 ^ i,⟨S / 2 ^ i + 1,by rw [Int.mul_add,Int.mul_one]; omega⟩,by omega⟩
theorem nr_err {S h:Int} {i:Nat} (n:Nr S h) (c:(S.natAbs:Int) <= 9007199254740992 * 2 ^ i):2 * ((h - S).natAbs:Int) <= 2 ^ i:=by
  obtain ⟨T,d,e⟩:=near_mult S i
  have hi:=p2 i
  have hT:Fl T:=by
    by_cases c2:(T.natAbs:Int) <= 9007199254740992 * 2 ^ i
    . exact fl_of d c2
    . exfalso
      obtain ⟨t,rfl⟩:=d
      have h1:(9007199254740992:Int) < t.natAbs:=by
        rw [Int.natAbs_mul] at c2
        have e2:((2 ^ i:Int).natAbs:Int)=2 ^ i:=by omega
        push_cast at c2
        rcases Int.lt_or_le 9007199254740992 (t.natAbs:Int) with g | g
        . exact g
        . exfalso
          have:=Int.mul_le_mul_of_nonneg_left g (Int.le_of_lt hi)
          rw [e2] at c2
          omega
      have h2:(2 ^ i:Int) * 9007199254740993 <= ((2 ^ i * t).natAbs:Int):=by
        rw [Int.natAbs_mul]
        have e2:((2 ^ i:Int).natAbs:Int)=2 ^ i:=by omega
        rw [Int.natCast_mul,e2]
        exact Int.mul_le_mul_of_nonneg_left (by omega) (Int.le_of_lt hi)
      generalize 2 ^ i * t=T at *
      omega
  have:=n.2 T hT
  omega
structure Spl (a h:Int) (j:Nat):Prop where
  up:(134217728 * 2 ^ j:Int) ∣ h
  lo:(2 ^ j:Int) ∣ a - h
  top:(h.natAbs:Int) <= 9007199254740992 * 2 ^ j
  low:((a - h).natAbs:Int) <= 67108864 * 2 ^ j
theorem mult_le {a q:Int} {m:Int} (hq:0 < q) (d:q ∣ a) (h:a < m * q):a <= m * q - q:=by
  obtain ⟨c,rfl⟩:=d
  rw [Int.mul_comm q c] at h ⊢
  have h1:c < m:=Int.lt_of_mul_lt_mul_right h (by omega)
  have h2:(c + 1) * q <= m * q:=Int.mul_le_mul_of_nonneg_right (by omega) (by omega)
  rw [Int.add_mul,Int.one_mul] at h2
  omega
theorem split_pos {a c d h l:Int} {j:Nat} (da:(2 ^ j:Int) ∣ a) (a0:4503599627370496 * 2 ^ j <= a) (a1:a < 9007199254740992 * 2 ^ j)
    (nc:Nr (134217729 * a) c) (nd:Nr (c - a) d) (nh:Nr (c - d) h) (nl:Nr (a - h) l):h=c - d∧l=a - h∧Spl a h j:=by
  have hj:=p2 j
  have a2:a <= 9007199254740992 * 2 ^ j - 2 ^ j:=mult_le hj da a1
  have a3:a=4503599627370496 * 2 ^ j∨4503599627370496 * 2 ^ j + 2 ^ j <= a:=by
    by_cases c0:a=4503599627370496 * 2 ^ j
    . exact .inl c0
    . right
      have d2:(2 ^ j:Int) ∣ -a:=(Int.dvd_neg).2 da
      have:=mult_le hj d2 (show -a < -4503599627370496 * 2 ^ j by omega)
      omega
  have e27:(2:Int) ^ (j + 27)=134217728 * 2 ^ j:=by rw [Int.pow_add,Int.mul_comm]; rfl
  have e28:(2:Int) ^ (j + 28)=268435456 * 2 ^ j:=by rw [Int.pow_add,Int.mul_comm]; rfl
  have L79:Fl (604462909807314587353088 * 2 ^ j):=by
    have:=fl_p2 (j + 27) (m:=4503599627370496) (by decide)
    rw [e27] at this
    rwa [show ((4503599627370496:Nat):Int) * (134217728 * 2 ^ j)=604462909807314587353088 * 2 ^ j by rw [<- Int.mul_assoc]; rfl] at this
  -- the product
  have c1:=nr_ge nc L79 (by omega)
  have ec:=nr_err (i:=j + 28) nc (by rw [e28]; omega)
  rw [e28] at ec
  have dc:(134217728 * 2 ^ j:Int) ∣ c:=by rw [<- e27]; exact fl_units nc.1 (by rw [e27]; omega)
  -- where a is a power of 2 nothing is lost
  have cz:a=4503599627370496 * 2 ^ j->c=134217729 * a:=by
    intro h0
    refine nr_self ?_ nc
    subst h0
    have:=fl_p2 (j + 52) (m:=134217729) (by decide)
    rw [show (2:Int) ^ (j + 52)=4503599627370496 * 2 ^ j by rw [Int.pow_add,Int.mul_comm]; rfl] at this
    exact this
  have c2:604462909807314587353088 * 2 ^ j <= c - a:=by
    rcases a3 with g | g
    . have:=cz g; omega
    . omega
  have d1:=nr_ge nd L79 c2
  have ed:=nr_err (i:=j + 27) nd (by rw [e27]; omega)
  rw [e27] at ed
  have dd:(134217728 * 2 ^ j:Int) ∣ d:=by rw [<- e27]; exact fl_units nd.1 (by rw [e27]; omega)
  have dcd:=Int.dvd_sub dc dd
  have hx:Fl (c - d):=by
    refine fl_of (k:=j + 27) (by rw [e27]; exact dcd) ?_
    rw [e27]; omega
  have eh:=nr_self hx nh
  have top:((c - d).natAbs:Int) <= 9007199254740992 * 2 ^ j:=by
    -- a multiple of 2^27 units within 2^26 of what is below 2^53
    by_cases g:c - d <= 9007199254740992 * 2 ^ j
    . omega
    . exfalso
      have d2:(134217728 * 2 ^ j:Int) ∣ -(c - d):=(Int.dvd_neg).2 dcd
      have:=mult_le (q:=134217728 * 2 ^ j) (m:=-67108864) (by omega) d2 (by omega)
      omega
  have dal:(2 ^ j:Int) ∣ a - (c - d):=Int.dvd_sub da (Int.dvd_trans ⟨134217728,by rw [Int.mul_comm]⟩ dcd)
  have hl:Fl (a - (c - d)):=fl_of (k:=j) dal (by omega)
  rw [eh] at nl ⊢
  have el:=nr_self hl nl
  exact ⟨rfl,el,dcd,dal,top,by omega⟩
theorem Spl.neg {a h:Int} {j:Nat} (s:Spl a h j):Spl (-a) (-h) j :=
  ⟨(Int.dvd_neg).2 s.up,by rw [show -a - -h=-(a - h) by omega]; exact (Int.dvd_neg).2 s.lo,by rw [Int.natAbs_neg]; exact s.top,by rw [show -a - -h=-(a - h) by omega,Int.natAbs_neg]; exact s.low⟩
theorem split_norm {a c d h l:Int} {j:Nat} (da:(2 ^ j:Int) ∣ a) (a0:4503599627370496 * 2 ^ j <= (a.natAbs:Int)) (a1:(a.natAbs:Int) < 9007199254740992 * 2 ^ j)
    (nc:Nr (134217729 * a) c) (nd:Nr (c - a) d) (nh:Nr (c - d) h) (nl:Nr (a - h) l):h=c - d∧l=a - h∧Spl a h j:=by
  rcases Int.le_total 0 a with g | g
  . exact split_pos da (by omega) (by omega) nc nd nh nl
  . have n1:=nc.neg
    rw [show -(134217729 * a)=134217729 * -a by omega] at n1
    have n2:=nd.neg
    rw [show -(c - a)=-c - -a by omega] at n2
    have n3:=nh.neg
    rw [show -(c - d)=-c - -d by omega] at n3
    have n4:=nl.neg
    rw [show -(a - h)=-a - -h by omega] at n4
    obtain ⟨e1,e2,s⟩:=split_pos ((Int.dvd_neg).2 da) (by omega) (by omega) n1 n2 n3 n4
    have:=s.neg
    rw [Int.neg_neg,Int.neg_neg] at this
    exact ⟨by omega,by omega,this⟩
theorem natAbs_p2 (i:Nat) (t:Int):((2 ^ i * t).natAbs:Int)=2 ^ i * (t.natAbs:Int):=by
  have hi:=p2 i
  rw [Int.natAbs_mul,Int.natCast_mul,show ((2 ^ i:Int).natAbs:Int)=2 ^ i by omega]
theorem Fl.down {i:Nat} {t:Int} (h:Fl (2 ^ i * t)):Fl t:=by
  obtain ⟨k,d,b⟩:=h
  rw [natAbs_p2] at b
  rcases Nat.le_total i k with c | c
  . obtain ⟨e,rfl⟩:∃ e,k=i + e:=⟨k - i,by omega⟩
    rw [Int.pow_add] at d b
    refine ⟨e,Int.dvd_of_mul_dvd_mul_left (by have:=p2 i; omega) d,?_⟩
    have e2:(9007199254740992:Int) * (2 ^ i * 2 ^ e)=2 ^ i * (9007199254740992 * 2 ^ e):=by rw [<- Int.mul_assoc,<- Int.mul_assoc,Int.mul_comm _ (2 ^ i)]
    rw [e2] at b
    exact Int.lt_of_mul_lt_mul_left b (Int.le_of_lt (p2 i))
  . refine ⟨0,⟨t,by simp⟩,?_⟩
    have h1:(9007199254740992:Int) * 2 ^ k <= 2 ^ i * 9007199254740992:=by rw [Int.mul_comm]; exact Int.mul_le_mul_of_nonneg_right (p2le c) (by decide)
    have h2:=Int.lt_of_mul_lt_mul_left (Int.lt_of_lt_of_le b h1) (Int.le_of_lt (p2 i))
    simpa using h2
theorem Fl.up {t:Int} (h:Fl t) (i:Nat):Fl (2 ^ i * t):=by
  obtain ⟨k,⟨c,rfl⟩,b⟩:=h
  refine ⟨i + k,⟨c,by rw [Int.pow_add,Int.mul_assoc]⟩,?_⟩
  rw [natAbs_p2,Int.pow_add]
  have e2:(9007199254740992:Int) * (2 ^ i * 2 ^ k)=2 ^ i * (9007199254740992 * 2 ^ k):=by rw [<- Int.mul_assoc,<- Int.mul_assoc,Int.mul_comm _ (2 ^ i)]
  rw [e2]
  exact Int.mul_lt_mul_of_pos_left b (p2 i)
theorem nr_scale {S h:Int} (n:Nr S h) (i:Nat):Nr (2 ^ i * S) (2 ^ i * h):=by
  have hi:=p2 i
  have key:∀ g:Int,Fl g->((2 ^ i * h - 2 ^ i * S).natAbs:Int) <= ((2 ^ i * g - 2 ^ i * S).natAbs:Int):=by
    intro g hg
    rw [<- Int.mul_sub,<- Int.mul_sub,natAbs_p2,natAbs_p2]
    exact Int.mul_le_mul_of_nonneg_left (by have:=n.2 g hg; omega) (Int.le_of_lt hi)
  refine ⟨n.1.up i,fun f hf=>?_⟩
  by_cases d:(2 ^ i:Int) ∣ f
  . obtain ⟨g,rfl⟩:=d
    have:=key g hf.down
    omega
  . -- f is small: the next whole number of units on S's side is a float,and nearer
    obtain ⟨j,dj,bj⟩:=hf
    have hji:j < i:=by
      rcases Nat.lt_or_ge j i with c | c
      . exact c
      . exact absurd (Int.dvd_trans (p2dvd c) dj) d
    have hfb:(f.natAbs:Int) < 4503599627370496 * 2 ^ i:=by
      have:=p2le (show j + 1 <= i by omega)
      rw [p2s] at this
      omega
    have em:=Int.emod_add_mul_ediv f (2 ^ i)
    have m0:=Int.emod_nonneg f (show (2:Int) ^ i ≠ 0 by omega)
    have m1:=Int.emod_lt_of_pos f hi
    obtain ⟨e,he⟩:∃ e,f / 2 ^ i=e:=⟨_,rfl⟩
    rw [he] at em
    have small:∀ g:Int,((2 ^ i * g).natAbs:Int) <= 4503599627370496 * 2 ^ i + 2 ^ i->Fl g:=by
      intro g hg
      rw [natAbs_p2] at hg
      refine fl_of (k:=0) ⟨g,by simp⟩ ?_
      have:(2:Int) ^ i * (g.natAbs:Int) <= 2 ^ i * 4503599627370497:=by omega
      have:=Int.le_of_mul_le_mul_left this hi
      simp
      omega
    rcases Int.lt_or_le e S with c | c
    . have h1:=key (e + 1) (small (e + 1) (by rw [Int.mul_add,Int.mul_one]; omega))
      have h2:(2:Int) ^ i * (e + 1) <= 2 ^ i * S:=Int.mul_le_mul_of_nonneg_left (by omega) (Int.le_of_lt hi)
      rw [Int.mul_add,Int.mul_one] at h1 h2
      omega
    . have h1:=key e (small e (by omega))
      have h2:(2:Int) ^ i * S <= 2 ^ i * e:=Int.mul_le_mul_of_nonneg_left (by omega) (Int.le_of_lt hi)
      omega
theorem norm_steps (j:Nat):∀ (n:Nat) (a:Int),((a.natAbs:Int) < 9007199254740992 * 2 ^ j)->(4503599627370496 * 2 ^ j <= 2 ^ n * (a.natAbs:Int))->∃ x:Nat,4503599627370496 * 2 ^ j <= ((2 ^ x * a).natAbs:Int)∧((2 ^ x * a).natAbs:Int) < 9007199254740992 * 2 ^ j:=by
  intro n
  induction n with
  | zero=>
    intro a h1 h2
    rw [Int.pow_zero,Int.one_mul] at h2
    exact ⟨0,by rw [Int.pow_zero,Int.one_mul]; exact ⟨h2,h1⟩⟩
  | succ n ih=>
    intro a h1 h2
    by_cases c:4503599627370496 * 2 ^ j <= (a.natAbs:Int)
    . exact ⟨0,by rw [Int.pow_zero,Int.one_mul]; exact ⟨c,h1⟩⟩
    . have e:((2 * a).natAbs:Int)=2 * (a.natAbs:Int):=by omega
      obtain ⟨x,g⟩:=ih (2 * a) (by omega) (by rw [e,<- Int.mul_assoc,Int.mul_comm (2 ^ n) 2,<- p2s]; exact h2)
      rw [<- Int.mul_assoc,Int.mul_comm (2 ^ x) 2,<- p2s] at g
      exact ⟨x + 1,g⟩
theorem fl_norm {a:Int} (h:Fl a) (h0:a ≠ 0):∃ x j:Nat,(2 ^ j:Int) ∣ 2 ^ x * a∧4503599627370496 * 2 ^ j <= ((2 ^ x * a).natAbs:Int)∧((2 ^ x * a).natAbs:Int) < 9007199254740992 * 2 ^ j:=by
  obtain ⟨j,d,b⟩:=h
  have hj:=p2 j
  have h1:(2 ^ j:Int) <= (a.natAbs:Int):=Int.le_of_dvd (by omega) (Int.dvd_natAbs.2 d)
  obtain ⟨x,g⟩:=norm_steps j 52 a b (by rw [show (2:Int) ^ 52=4503599627370496 by decide]; omega)
  exact ⟨x,j,Int.dvd_mul_of_dvd_right d,g⟩
theorem split_fl {a c d h l:Int} (ha:Fl a) (h0:a ≠ 0) (nc:Nr (134217729 * a) c) (nd:Nr (c - a) d) (nh:Nr (c - d) h) (nl:Nr (a - h) l) :
    l=a - h∧∃ x j:Nat,Spl (2 ^ x * a) (2 ^ x * h) j∧4503599627370496 * 2 ^ j <= ((2 ^ x * a).natAbs:Int)∧((2 ^ x * a).natAbs:Int) < 9007199254740992 * 2 ^ j:=by
  obtain ⟨x,j,g1,g2,g3⟩:=fl_norm ha h0
  have n1:=nr_scale nc x
  rw [show (2:Int) ^ x * (134217729 * a)=134217729 * (2 ^ x * a) by rw [<- Int.mul_assoc,Int.mul_comm (2 ^ x),Int.mul_assoc]] at n1
  have n2:=nr_scale nd x
  rw [Int.mul_sub] at n2
  have n3:=nr_scale nh x
  rw [Int.mul_sub] at n3
  have n4:=nr_scale nl x
  rw [Int.mul_sub] at n4
  obtain ⟨e1,e2,s⟩:=split_norm g1 g2 g3 n1 n2 n3 n4
  rw [<- Int.mul_sub] at e2
  exact ⟨Int.eq_of_mul_eq_mul_left (by have:=p2 x; omega) e2,x,j,s,g2,g3⟩
theorem dk5 {H AB G:Int} (n:Nr AB H) (f:Fl G) (h:G <= (AB.natAbs:Int)):G <= (H.natAbs:Int):=by
  rcases Int.le_total 0 AB with c | c
  . have:=nr_ge n f (by omega); omega
  . have:=nr_le n f.neg (by omega); omega
end Go.Proofs.YtijiabajfgnaoaaGreatDoor.M
namespace Go.Proofs.YtijiabajfgnaoaaGreatDoor
open Go Go.RowKit Go.Proofs.YtijiabajfgnaoaaGreatDoor.M Ieee
def iV (p:Int):Int:=sg (decide (p < 0)) (V Ieee.double (rg p).toNat:Int)
theorem patV_iV {p:Int} (hp:rng p) (h:pok p=true):patV p=iV p * pw (-1074):=by
  rw [patV_dec hp h]; unfold iV vS; rw [sg_prod]
theorem nat_two (n k:Nat):((n * 2 ^ k:Nat):Int)=2 ^ k * (n:Int):=by rw [Int.natCast_mul,Int.mul_comm]; simp
theorem k_ne {S q:Int} (hq:0 < q) (h:S ≠ 0):S * q ≠ 0:=fun c=>by
  rcases Int.mul_eq_zero.1 c with d | d <;> omega
theorem k_neg {S q:Int} (hq:0 < q):decide (S * q < 0)=decide (S < 0):=by
  congr 1
  exact propext (lt_zero_iff hq).symm
theorem k_abs {S q A:Int} (hq:0 < q) (h:S * q=sg (decide (S < 0)) A):A=(S.natAbs:Int) * q:=by
  have:=natAbs_sg (t:=S) hq
  rw [this] at h
  exact (sg_inj h).symm
theorem k_back {S h:Int} (n:Nr (S.natAbs:Int) h):Nr S (sg (decide (S < 0)) h):=by
  by_cases c:S < 0
  . rw [decide_eq_true c]
    have n2:=n.neg
    have e:-(S.natAbs:Int)=S:=by omega
    rw [e] at n2
    exact n2
  . rw [decide_eq_false c]
    have e:(S.natAbs:Int)=S:=by omega
    rw [e] at n
    exact n
theorem fl_V (r:Nat):Fl (V Ieee.double r:Int):=by
  unfold V
  rw [dBin]
  by_cases h:r < 4503599627370496
  . rw [if_pos h]
    exact ⟨0,⟨r,by simp⟩,by simp; omega⟩
  . rw [if_neg h]
    have hm:=Nat.mod_lt r (show 0 < 4503599627370496 by decide)
    obtain ⟨n,hn⟩:∃ n,4503599627370496 + r % 4503599627370496=n:=⟨_,rfl⟩
    rw [hn]
    refine ⟨r / 4503599627370496 - 1,⟨n,nat_two _ _⟩,?_⟩
    rw [Int.natAbs_natCast,nat_two,Int.mul_comm]
    exact Int.mul_lt_mul_of_pos_right (by omega) (p2 _)
theorem V_fl {f:Int} (h:Fl f):∃ r:Nat,(f.natAbs:Int)=(V Ieee.double r:Int):=by
  obtain ⟨k,b,c⟩:=binade (f.natAbs:Int) (by omega)
  rcases Nat.eq_zero_or_pos k with g | g
  . subst g
    have:=V_parts Ieee.double 0 f.natAbs (.inl ⟨rfl,by rw [dBin]; simp at b; omega⟩)
    exact ⟨_,by rw [this]; simp⟩
  . have c2:4503599627370496 * 2 ^ k <= (f.natAbs:Int):=by
      rcases c with c | c
      . omega
      . exact c
    obtain ⟨t,ht⟩:=fl_units h c2
    have e:(f.natAbs:Int)=2 ^ k * (t.natAbs:Int):=by rw [ht,natAbs_p2]
    rw [e] at b c2
    have hk:=p2 k
    have b2:(t.natAbs:Int) < 9007199254740992:=Int.lt_of_mul_lt_mul_left (by rw [Int.mul_comm (2 ^ k) 9007199254740992]; exact b) (Int.le_of_lt hk)
    have c3:4503599627370496 <= (t.natAbs:Int):=Int.le_of_mul_le_mul_left (by rw [Int.mul_comm (2 ^ k) 4503599627370496]; exact c2) hk
    have:=V_parts Ieee.double k t.natAbs (.inr ⟨by rw [dBin]; omega,by rw [dBin]; omega⟩)
    exact ⟨_,by rw [this,e]; push_cast; rw [Int.mul_comm]⟩
theorem V_le {r s:Nat} (h:r <= s):(V Ieee.double r:Int) <= V Ieee.double s:=by
  rcases Nat.lt_or_eq_of_le h with g | g
  . have:=V_lt Ieee.double g; omega
  . rw [g]; omega
theorem nr_V {S:Int} {ng:Bool} {r0:Nat} {left:Int} (h0:0 <= S) (hR:Rung (S * pw (-1074)) r0 left) (hf:rTo 0 ng r0 left < 9218868437227405312):Nr S (V Ieee.double (rTo 0 ng r0 left).toNat:Int):=by
  obtain ⟨lo,hi,l0,l1,l2,l3⟩:=hR
  have hq:=pw_pos (-1074)
  unfold vS at *
  generalize pw (-1074)=q at *
  have g1:(V Ieee.double r0:Int) <= S:=Int.le_of_mul_le_mul_right lo hq
  have g2:S < (V Ieee.double (r0 + 1):Int):=Int.lt_of_mul_lt_mul_right hi (Int.le_of_lt hq)
  have g3:left=2->2 * S=(V Ieee.double r0:Int) + V Ieee.double (r0 + 1):=fun c=>by
    have:=l2.1 c
    rw [<- Int.add_mul,<- Int.mul_assoc] at this
    exact Int.eq_of_mul_eq_mul_right (by omega) this
  have g4:left=3->(V Ieee.double r0:Int) + V Ieee.double (r0 + 1) < 2 * S:=fun c=>by
    have:=l3.1 c
    rw [<- Int.add_mul,<- Int.mul_assoc] at this
    exact Int.lt_of_mul_lt_mul_right this (Int.le_of_lt hq)
  have g5:left ≠ 3->2 * S <= (V Ieee.double r0:Int) + V Ieee.double (r0 + 1):=fun c=>by
    rcases Int.lt_or_le ((V Ieee.double r0:Int) + V Ieee.double (r0 + 1)) (2 * S) with d | d
    . have:=Int.mul_lt_mul_of_pos_right d hq
      rw [Int.add_mul,Int.mul_assoc] at this
      exact absurd (l3.2 this) c
    . exact d
  clear l0 l1 l2 l3 lo hi
  have far:∀ f:Int,Fl f->f <= V Ieee.double r0∨V Ieee.double (r0 + 1) <= f:=by
    intro f hf
    obtain ⟨s,hs⟩:=V_fl hf
    rcases Nat.lt_or_ge r0 s with c | c
    . have:=V_le (show r0 + 1 <= s from c)
      have:=V_le (show 0 <= r0 by omega)
      omega
    . have:=V_le c
      omega
  unfold rTo at hf ⊢
  by_cases hr:(r0:Int) < 9218868437227405312
  . rw [if_pos hr] at hf ⊢
    cases hu:rUp 0 ng (decide (r0 % 2=1)) left
    . rw [if_neg (by decide)]
      have e:((r0:Int) + 0).toNat=r0:=by omega
      rw [e]
      have hl:left ≠ 3:=fun c=>by
        subst c
        unfold rUp at hu
        simp at hu
      refine ⟨fl_V r0,fun f hf=>?_⟩
      have:=far f hf
      have:=g5 hl
      omega
    . rw [if_pos rfl]
      have e:((r0:Int) + 1).toNat=r0 + 1:=by omega
      rw [e]
      have hl:left=3∨left=2:=by
        unfold rUp at hu
        simp at hu
        rcases hu with c | c
        . exact .inl c
        . exact .inr c.1
      refine ⟨fl_V (r0 + 1),fun f hf=>?_⟩
      have:=far f hf
      rcases hl with c | c
      . have:=g4 c; omega
      . have:=g3 c; omega
  . rw [if_neg hr] at hf
    unfold bRung rUp at hf
    simp at hf
def maxV:Int:=(V Ieee.double 9218868437227405311:Int)
theorem fin_V {S:Int} {ng:Bool} {r0:Nat} {left:Int} (h0:S <= maxV) (hR:Rung (S * pw (-1074)) r0 left):rTo 0 ng r0 left < 9218868437227405312:=by
  obtain ⟨lo,hi,l0,l1,l2,l3⟩:=hR
  have hq:=pw_pos (-1074)
  unfold vS at *
  generalize pw (-1074)=q at *
  have g1:(V Ieee.double r0:Int) <= S:=Int.le_of_mul_le_mul_right lo hq
  have hr:r0 <= 9218868437227405311:=by
    rcases Nat.lt_or_ge 9218868437227405311 r0 with c | c
    . have:=V_lt Ieee.double c
      unfold maxV at h0
      omega
    . exact c
  unfold rTo
  rw [if_pos (by omega)]
  by_cases c:r0=9218868437227405311
  . have e:S=(V Ieee.double r0:Int):=by rw [c] at g1 ⊢; unfold maxV at h0; omega
    have:left=0:=l0.2 (by rw [e])
    subst this
    rw [if_neg (fun c=>rUp_left c)]
    omega
  . split <;> omega
theorem patS_parts {ng:Bool} {r:Int} (h0:0 <= r) (h1:r <= 9218868437227405312):rng (patS ng r)∧rg (patS ng r)=r∧decide (patS ng r < 0)=ng:=by
  unfold patS rng rg
  cases ng
  . simp only [Bool.false_eq_true,if_false]
    rw [if_neg (by omega)]
    exact ⟨by omega,rfl,decide_eq_false (by omega)⟩
  . simp only [if_true]
    rw [if_pos (by omega)]
    exact ⟨by omega,by omega,decide_eq_true (by omega)⟩
theorem patS_fin {ng:Bool} {r:Int} (h0:0 <= r) (h1:r <= 9218868437227405312):pok (patS ng r)=decide (r < 9218868437227405312):=by
  obtain ⟨a,b,_⟩:=patS_parts (ng:=ng) h0 h1
  have:=pok_rg a
  rw [b] at this
  cases h:pok (patS ng r)
  . refine (decide_eq_false fun c=>?_).symm
    rw [this.2 c] at h; cases h
  . exact (decide_eq_true (this.1 h)).symm
theorem iV_patS {ng:Bool} {r:Int} (h0:0 <= r) (h1:r <= 9218868437227405312):iV (patS ng r)=sg ng (V Ieee.double r.toNat:Int):=by
  obtain ⟨_,b,c⟩:=patS_parts (ng:=ng) h0 h1
  unfold iV
  rw [b,c]
theorem nr_zero:Nr 0 0:=⟨fl_zero,fun f _=>by omega⟩
theorem near_iV {S:Int} (h:S ≠ 0):rng (nearP (S * pw (-1074)))∧(pok (nearP (S * pw (-1074)))=true->Nr S (iV (nearP (S * pw (-1074)))))∧((S.natAbs:Int) <= maxV->pok (nearP (S * pw (-1074)))=true):=by
  have hq:=pw_pos (-1074)
  obtain ⟨A,r0,left,e1,hR,e2⟩:=nearP_rung (k_ne hq h)
  rw [k_neg hq] at e1 e2
  have hA:=k_abs hq e1
  rw [hA] at hR
  have hrr:=rTo_range 0 (decide (S < 0)) r0 left
  rw [e2]
  refine ⟨(patS_parts hrr.1 hrr.2).1,fun hp=>?_,fun hb=>?_⟩
  . rw [patS_fin hrr.1 hrr.2] at hp
    have n:=nr_V (ng:=decide (S < 0)) (Int.natCast_nonneg _) hR (of_decide_eq_true hp)
    rw [iV_patS hrr.1 hrr.2]
    exact k_back n
  . rw [patS_fin hrr.1 hrr.2]
    exact decide_eq_true (fin_V hb hR)
theorem nan_rng:rng 9221120237041090561:=by unfold rng; decide
theorem nan_no:pok 9221120237041090561=false:=by decide
theorem pok_of {p:Int} (hp:rng p) (h4:¬ cls p=4) (hi:¬ rg p=9218868437227405312):pok p=true:=by
  have:=(cls_rg hp).1
  rw [pok_rg hp]
  have:¬ 9218868437227405312 < rg p:=fun c=>h4 (this.2 c)
  omega
theorem inf_no {p:Int} (hp:rng p) (hi:rg p=9218868437227405312):¬ pok p=true:=fun h=>by
  have:=(pok_rg hp).1 h
  omega
theorem fin_cls {p:Int} (hp:rng p) (h:pok p=true):¬ cls p=4∧¬ rg p=9218868437227405312:=by
  have h1:=(pok_rg hp).1 h
  exact ⟨fun c=>by have:=(cls_rg hp).1.1 c; omega,by omega⟩
theorem fsum_args {p q:Int} (hp:rng p) (hq:rng q) (h:pok (fsum p q)=true):pok p=true∧pok q=true:=by
  unfold fsum at h
  by_cases c4:cls p=4∨cls q=4
  . rw [if_pos c4,nan_no] at h; cases h
  rw [if_neg c4] at h
  by_cases ci:rg p=9218868437227405312
  . rw [if_pos ci] at h
    by_cases cj:rg q=9218868437227405312∧decide (p < 0) ≠ decide (q < 0)
    . rw [if_pos cj,nan_no] at h; cases h
    . rw [if_neg cj] at h; exact absurd h (inf_no hp ci)
  rw [if_neg ci] at h
  by_cases cj:rg q=9218868437227405312
  . rw [if_pos cj] at h; exact absurd h (inf_no hq cj)
  exact ⟨pok_of hp (fun c=>c4 (.inl c)) ci,pok_of hq (fun c=>c4 (.inr c)) cj⟩
theorem fprod_args {p q:Int} (hp:rng p) (hq:rng q) (h:pok (fprod p q)=true):pok p=true∧pok q=true:=by
  unfold fprod at h
  by_cases c4:cls p=4∨cls q=4
  . rw [if_pos c4,nan_no] at h; cases h
  rw [if_neg c4] at h
  by_cases ci:rg p=9218868437227405312∨rg q=9218868437227405312
  . rw [if_pos ci] at h
    by_cases cj:rg p=0∨rg q=0
    . rw [if_pos cj,nan_no] at h; cases h
    . rw [if_neg cj,patS_fin (by decide) (by decide)] at h
      simp at h
  exact ⟨pok_of hp (fun c=>c4 (.inl c)) (fun c=>ci (.inl c)),pok_of hq (fun c=>c4 (.inr c)) (fun c=>ci (.inr c))⟩
theorem zero_facts (g:Bool):rng (patS g 0)∧pok (patS g 0)=true∧iV (patS g 0)=0:=by
  refine ⟨(patS_parts (by decide) (by decide)).1,?_,?_⟩
  . rw [patS_fin (by decide) (by decide)]; decide
  . rw [iV_patS (by decide) (by decide)]
    show sg g (V Ieee.double 0:Int)=0
    rw [V_zero]
    exact sg_zero g
structure EStp (S p:Int):Prop where
  rn:rng p
  nr:pok p=true->Nr S (iV p)
  fin:(S.natAbs:Int) <= maxV->pok p=true
theorem stp_zero (g:Bool):EStp 0 (patS g 0):=by
  obtain ⟨a,b,c⟩:=zero_facts g
  exact ⟨a,fun _=>by rw [c]; exact nr_zero,fun _=>b⟩
theorem stp_near {S:Int} (h:S ≠ 0):EStp S (nearP (S * pw (-1074))):=by
  obtain ⟨a,b,c⟩:=near_iV h
  exact ⟨a,b,c⟩
theorem k_fs {a b T u Z k w:Int} (hz:0 < Z) (e2:w * w=u * Z) (e3:w=u * k) (hT:k * T=a * b):a * w * (b * w) / Z=T * w:=by
  have e1:a * w * (b * w)=a * b * (w * w):=by
    rw [Int.mul_assoc,Int.mul_assoc]; congr 1; rw [<- Int.mul_assoc,<- Int.mul_assoc,Int.mul_comm w b]
  rw [e1,e2,<- hT]
  have:k * T * (u * Z)=T * w * Z:=by
    rw [e3,Int.mul_comm k T,Int.mul_assoc,Int.mul_assoc,<- Int.mul_assoc k u Z,Int.mul_comm k u]
  rw [this]
  exact Int.mul_ediv_cancel _ (by omega)
theorem k_zero {T w:Int} (g:Bool) (hw:0 < w) (d:sg g (T * w)=0):T=0:=by
  have:=sg_eq_zero d
  rcases Int.mul_eq_zero.1 this with g | g <;> omega
theorem k_zero0 {T w:Int} (hw:0 < w) (d:T * w=0):T=0:=by
  rcases Int.mul_eq_zero.1 d with g | g <;> omega
theorem k_sgz {T w:Int} (g:Bool) (h:T=0):sg g (T * w)=0:=by rw [h,Int.zero_mul]; exact sg_zero g
theorem k_sgsg (g:Bool) (A:Int):sg g (sg g A)=A:=by cases g <;> simp [sg]
theorem stp_sum {p q:Int} (hp:rng p) (hq:rng q) (pp:pok p=true) (pq:pok q=true):EStp (iV p + iV q) (fsum p q):=by
  obtain ⟨a1,a2⟩:=fin_cls hp pp
  obtain ⟨b1,b2⟩:=fin_cls hq pq
  have e:fsum p q=if iV p + iV q=0 then patS (decide (p < 0) && decide (q < 0)) 0 else nearP ((iV p + iV q) * pw (-1074)):=by
    unfold fsum
    rw [if_neg (fun c=>c.elim a1 b1),if_neg a2,if_neg b2,patV_iV hp pp,patV_iV hq pq,<- Int.add_mul]
    have hq:=pw_pos (-1074)
    by_cases c:iV p + iV q=0
    . rw [if_pos c,if_pos (by rw [c,Int.zero_mul])]
    . rw [if_neg c,if_neg (fun d=>c (k_zero0 hq d))]
  rw [e]
  by_cases c:iV p + iV q=0
  . rw [if_pos c,c]; exact stp_zero _
  . rw [if_neg c]; exact stp_near c
theorem stp_prod {p q T:Int} (hp:rng p) (hq:rng q) (pp:pok p=true) (pq:pok q=true) (hT:2 ^ 1074 * T=iV p * iV q):EStp T (fprod p q):=by
  obtain ⟨a1,a2⟩:=fin_cls hp pp
  obtain ⟨b1,b2⟩:=fin_cls hq pq
  have hw:=pw_pos (-1074)
  have hs:patV p * patV q / 2 ^ 4194304=T * pw (-1074):=by
    rw [patV_iV hp pp,patV_iV hq pq]
    have e2:=pw_mul (a:=-1074) (b:=-1074) (by decide) (by decide)
    rw [show (-1074 + -1074:Int)=-2148 by decide] at e2
    have e3:=pw_add (e:=-2148) (by decide) 1074
    rw [show (-2148 + ((1074:Nat):Int))=-1074 by decide] at e3
    exact k_fs (two_pos 4194304) e2 e3 hT
  have e:fprod p q=if T=0 then patS (xsg p q) 0 else nearP (T * pw (-1074)):=by
    unfold fprod fsize
    rw [if_neg (fun c=>c.elim a1 b1),if_neg (fun c=>c.elim a2 b2),hs]
    by_cases c:T=0
    . rw [if_pos c,if_pos (k_sgz _ c)]
    . rw [if_neg c,if_neg (fun d=>c (k_zero _ hw d)),k_sgsg]
  rw [e]
  by_cases c:T=0
  . rw [if_pos c,c]; exact stp_zero _
  . rw [if_neg c]; exact stp_near c
theorem neg_facts {q:Int} (hq:rng q) (h:pok q=true):rng (neg q)∧pok (neg q)=true∧iV (neg q)=-iV q:=by
  obtain ⟨b1,b2⟩:=fin_cls hq h
  have h1:=(pok_rg hq).1 h
  have e:neg q=patS (!decide (q < 0)) (rg q):=by
    unfold neg patS rg
    rw [if_neg b1]
    by_cases c:q < 0
    . rw [if_pos c,if_pos c,decide_eq_true c]; rfl
    . rw [if_neg c,if_neg c,decide_eq_false c]; rfl
  have h0:0 <= rg q:=by unfold rg; unfold rng at hq; split <;> omega
  obtain ⟨c1,c2,c3⟩:=patS_parts (ng:=!decide (q < 0)) h0 (by omega)
  refine ⟨by rw [e]; exact c1,by rw [e,patS_fin h0 (by omega)]; exact decide_eq_true h1,?_⟩
  rw [e,iV_patS h0 (by omega)]
  unfold iV
  rw [sg_not]
theorem neg_arg {q:Int} (hq:rng q) (h:pok (neg q)=true):pok q=true:=by
  unfold neg at h
  by_cases c:cls q=4
  . rw [if_pos c,nan_no] at h; cases h
  . by_cases ci:rg q=9218868437227405312
    . exfalso
      rw [if_neg c] at h
      have hr:rng (if q < 0 then q + 9223372036854775808 else q - 9223372036854775808):=by unfold rng at *; split <;> omega
      have:=(pok_rg hr).1 h
      unfold rg at this ci
      split at this <;> split at ci <;> split at this <;> omega
    . exact pok_of hq c ci
theorem neg_rng {q:Int} (hq:rng q):rng (neg q):=by
  unfold neg rng at *
  split
  . omega
  . split <;> omega
theorem stp_diff {p q:Int} (hp:rng p) (hq:rng q) (pp:pok p=true) (pq:pok q=true):EStp (iV p - iV q) (fsum p (neg q)):=by
  obtain ⟨a,b,c⟩:=neg_facts hq pq
  have:=stp_sum hp a pp b
  rw [c] at this
  exact this
theorem fdiff_args {p q:Int} (hp:rng p) (hq:rng q) (h:pok (fsum p (neg q))=true):pok p=true∧pok q=true:=by
  obtain ⟨a,b⟩:=fsum_args hp (neg_rng hq) h
  exact ⟨a,neg_arg hq b⟩
theorem fsum_rng {p q:Int} (hp:rng p) (hq:rng q):rng (fsum p q):=by
  by_cases h:pok p=true∧pok q=true
  . exact (stp_sum hp hq h.1 h.2).rn
  . unfold fsum
    by_cases c4:cls p=4∨cls q=4
    . rw [if_pos c4]; exact nan_rng
    rw [if_neg c4]
    by_cases ci:rg p=9218868437227405312
    . rw [if_pos ci]; split
      . exact nan_rng
      . exact hp
    rw [if_neg ci]
    by_cases cj:rg q=9218868437227405312
    . rw [if_pos cj]; exact hq
    exact absurd ⟨pok_of hp (fun c=>c4 (.inl c)) ci,pok_of hq (fun c=>c4 (.inr c)) cj⟩ h
theorem fprod_rng {p q:Int} (hp:rng p) (hq:rng q):rng (fprod p q):=by
  unfold fprod
  split
  . exact nan_rng
  . split
    . split
      . exact nan_rng
      . exact (patS_parts (by decide) (by decide)).1
    . split
      . exact (patS_parts (by decide) (by decide)).1
      . rename_i h
        exact (nearP_pat (fun c=>h (sg_eq_zero c))).1
def sV (p q:Int):Int:=fsum (fsum p q) (neg p)
def sL (p q:Int):Int:=fsum (fsum p (neg (fsum (fsum p q) (neg (sV p q))))) (fsum q (neg (sV p q)))
def fL (p q:Int):Int:=fsum q (neg (fsum (fsum p q) (neg p)))
def cC (p:Int):Int:=fprod 4728779608772575232 p
def spH (p:Int):Int:=fsum (cC p) (neg (fsum (cC p) (neg p)))
def spL (p:Int):Int:=fsum p (neg (spH p))
def pT1 (a b:Int):Int:=fsum (fprod a b) (neg (fprod (spH a) (spH b)))
def pT2 (a b:Int):Int:=fsum (pT1 a b) (neg (fprod (spL a) (spH b)))
def pT3 (a b:Int):Int:=fsum (pT2 a b) (neg (fprod (spH a) (spL b)))
def prL (a b:Int):Int:=fsum (fprod (spL a) (spL b)) (neg (pT3 a b))
theorem stay_b {w w':World} (h:w'=w∨w'=w.drew):Below w.heap.size w w':=by
  rcases h with rfl | rfl
  . exact bel_refl _
  . exact (bel_refl _).drew
theorem cv64 (x:Nat) (w:World):(convert 81 81 (.float .f64 x)).run Tryz.prog w=.ok (.float .f64 x) w:=run_convert_float_float w _ _ _ _ _ _ (by rw [Tryz.underlying81]; rfl) Tryz.underlying81 rfl
set_option maxRecDepth 100000 in
set_option maxHeartbeats 1000000 in
theorem esum_any {p q:Int} {x y:Nat} (hx:FW p x) (hy:FW q y) (w:World) :
    Calls Tryz.prog 79 #[.float .f64 x,.float .f64 y] w fun e w'=>∃ z u,e=.returned (.tuple #[.float .f64 z,.float .f64 u])∧FW (fsum p q) z∧FW (sL p q) u∧Below w.heap.size w w':=by
  obtain ⟨z1,w1,e1,f1,d1⟩:=run_fsum (P:=Tryz.prog) 81 hx hy w
  obtain ⟨z2,w2,e2,f2,d2⟩:=run_fdiff (P:=Tryz.prog) 81 f1 hx w1
  obtain ⟨z3,w3,e3,f3,d3⟩:=run_fdiff (P:=Tryz.prog) 81 f1 f2 w2
  obtain ⟨z4,w4,e4,f4,d4⟩:=run_fdiff (P:=Tryz.prog) 81 hx f3 w3
  obtain ⟨z5,w5,e5,f5,d5⟩:=run_fdiff (P:=Tryz.prog) 81 hy f2 w4
  obtain ⟨z6,w6,e6,f6,d6⟩:=run_fsum (P:=Tryz.prog) 81 f4 f5 w5
  have hb:Hid (Below w.heap.size w w6):=bel_trans (bel_trans (bel_trans (bel_trans (bel_trans (stay_b d1) (stay_b d2)) (stay_b d3)) (stay_b d4)) (stay_b d5)) (stay_b d6)
  have H1:Hid (FW (fsum p q) z1):=f1
  have H6:Hid (FW (sL p q) z6):=f6
  clear d1 d2 d3 d4 d5 d6 f1 f2 f3 f4 f5 f6 hx hy
  go_enter Tryz.func79,Tryz.ntmps79
  go_wp2
  refine bodyPost_ret (v:=.tuple #[.float .f64 z1,.float .f64 z6]) (by simp [results,Tryz.results79,go_sem]) rfl ⟨z1,z6,rfl,H1.out,H6.out,hb.out⟩
set_option maxRecDepth 100000 in
set_option maxHeartbeats 1000000 in
theorem efast_any {p q:Int} {x y:Nat} (hx:FW p x) (hy:FW q y) (w:World) :
    Calls Tryz.prog 82 #[.float .f64 x,.float .f64 y] w fun e w'=>∃ z u,e=.returned (.tuple #[.float .f64 z,.float .f64 u])∧FW (fsum p q) z∧FW (fL p q) u∧Below w.heap.size w w':=by
  obtain ⟨z1,w1,e1,f1,d1⟩:=run_fsum (P:=Tryz.prog) 81 hx hy w
  obtain ⟨z2,w2,e2,f2,d2⟩:=run_fdiff (P:=Tryz.prog) 81 f1 hx w1
  obtain ⟨z3,w3,e3,f3,d3⟩:=run_fdiff (P:=Tryz.prog) 81 hy f2 w2
  have hb:Hid (Below w.heap.size w w3):=bel_trans (bel_trans (stay_b d1) (stay_b d2)) (stay_b d3)
  have H1:Hid (FW (fsum p q) z1):=f1
  have H6:Hid (FW (fL p q) z3):=f3
  clear d1 d2 d3 f1 f2 f3 hx hy
  go_enter Tryz.func82,Tryz.ntmps82
  go_wp2
  refine bodyPost_ret (v:=.tuple #[.float .f64 z1,.float .f64 z3]) (by simp [results,Tryz.results82,go_sem]) rfl ⟨z1,z3,rfl,H1.out,H6.out,hb.out⟩
theorem spl_rng:rng 4728779608772575232:=by unfold rng; decide
theorem fw_split:FW 4728779608772575232 4728779608772575232:=.inl ⟨by decide,spl_rng,by decide⟩
set_option maxRecDepth 100000 in
set_option maxHeartbeats 1000000 in
theorem esplit_any {p:Int} {x:Nat} (hx:FW p x) (w:World) :
    Calls Tryz.prog 99 #[.float .f64 x] w fun e w'=>∃ z u,e=.returned (.tuple #[.float .f64 z,.float .f64 u])∧FW (spH p) z∧FW (spL p) u∧Below w.heap.size w w':=by
  obtain ⟨z1,w1,e1,f1,d1⟩:=run_fprod (P:=Tryz.prog) 81 fw_split hx w
  obtain ⟨z2,w2,e2,f2,d2⟩:=run_fdiff (P:=Tryz.prog) 81 f1 hx w1
  obtain ⟨z3,w3,e3,f3,d3⟩:=run_fdiff (P:=Tryz.prog) 81 f1 f2 w2
  obtain ⟨z4,w4,e4,f4,d4⟩:=run_fdiff (P:=Tryz.prog) 81 hx f3 w3
  have hcv:=cv64
  have hb:Hid (Below w.heap.size w w4):=bel_trans (bel_trans (bel_trans (stay_b d1) (stay_b d2)) (stay_b d3)) (stay_b d4)
  have H1:Hid (FW (spH p) z3):=f3
  have H6:Hid (FW (spL p) z4):=f4
  clear d1 d2 d3 d4 f1 f2 f3 f4 hx
  go_enter Tryz.func99,Tryz.ntmps99
  go_wp2
  refine bodyPost_ret (v:=.tuple #[.float .f64 z3,.float .f64 z4]) (by simp [results,Tryz.results99,go_sem]) rfl ⟨z3,z4,rfl,H1.out,H6.out,hb.out⟩
set_option maxRecDepth 100000 in
set_option maxHeartbeats 2000000 in
theorem eprod_any {p q:Int} {x y:Nat} (hx:FW p x) (hy:FW q y) (w:World) :
    Calls Tryz.prog 80 #[.float .f64 x,.float .f64 y] w fun e w'=>∃ z u,e=.returned (.tuple #[.float .f64 z,.float .f64 u])∧FW (fprod p q) z∧FW (prL p q) u∧Below w.heap.size w w':=by
  obtain ⟨z1,w1,e1,f1,d1⟩:=run_fprod (P:=Tryz.prog) 81 hx hy w
  have hcv:=cv64
  have Hx:Hid (FW p x):=hx
  have Hy:Hid (FW q y):=hy
  have F1:Hid (FW (fprod p q) z1):=f1
  have B1:Hid (Below w.heap.size w w1):=stay_b d1
  clear hx hy f1 d1
  go_enter Tryz.func80,Tryz.ntmps80
  go_wp2_with fail
  refine (esplit_any Hx.out _).mono ?_
  rintro _ w2 ⟨P,Q,rfl,gP,gQ,b2⟩
  have GP:Hid (FW (spH p) P):=gP
  have GQ:Hid (FW (spL p) Q):=gQ
  have B2:Hid (Below w.heap.size w w2):=bel_trans B1.out b2
  clear gP gQ b2 B1 e1
  go_wp2_with fail
  refine (esplit_any Hy.out _).mono ?_
  rintro _ w3 ⟨R,S,rfl,gR,gS,b3⟩
  have hb3:=bel_trans B2.out b3
  obtain ⟨z2,w4,e2,f2,d2⟩:=run_fprod (P:=Tryz.prog) 81 GQ.out gS w3
  obtain ⟨z3,w5,e3,f3,d3⟩:=run_fprod (P:=Tryz.prog) 81 GP.out gR w4
  obtain ⟨z4,w6,e4,f4,d4⟩:=run_fdiff (P:=Tryz.prog) 81 F1.out f3 w5
  obtain ⟨z5,w7,e5,f5,d5⟩:=run_fprod (P:=Tryz.prog) 81 GQ.out gR w6
  obtain ⟨z6,w8,e6,f6,d6⟩:=run_fdiff (P:=Tryz.prog) 81 f4 f5 w7
  obtain ⟨z7,w9,e7,f7,d7⟩:=run_fprod (P:=Tryz.prog) 81 GP.out gS w8
  obtain ⟨z8,wa,e8,f8,d8⟩:=run_fdiff (P:=Tryz.prog) 81 f6 f7 w9
  obtain ⟨z9,wb,e9,f9,d9⟩:=run_fdiff (P:=Tryz.prog) 81 f2 f8 wa
  have hb:Hid (Below w.heap.size w wb):=bel_trans (bel_trans (bel_trans (bel_trans (bel_trans (bel_trans (bel_trans (bel_trans hb3 (stay_b d2)) (stay_b d3)) (stay_b d4)) (stay_b d5)) (stay_b d6)) (stay_b d7)) (stay_b d8)) (stay_b d9)
  have H9:Hid (FW (prL p q) z9):=f9
  clear d2 d3 d4 d5 d6 d7 d8 d9 f2 f3 f4 f5 f6 f7 f8 f9 gR gS b3 hb3 B2 Hx Hy GP GQ
  go_wp2
  refine bodyPost_ret (v:=.tuple #[.float .f64 z1,.float .f64 z9]) (by simp [results,Tryz.results80,go_sem]) rfl ⟨z1,z9,rfl,F1.out,H9.out,hb.out⟩
theorem fl_iV (p:Int):Fl (iV p):=by
  unfold iV
  cases decide (p < 0)
  . exact fl_V _
  . exact (fl_V _).neg
theorem iV_abs (p:Int):((iV p).natAbs:Int)=(V Ieee.double (rg p).toNat:Int):=by
  unfold iV sg
  cases decide (p < 0)
  . simp
  . simp
theorem iV_max {p:Int} (hp:rng p) (h:pok p=true):((iV p).natAbs:Int) <= maxV:=by
  rw [iV_abs]
  have:=(pok_rg hp).1 h
  exact V_le (by omega)
theorem sL_exact {p q:Int} (hp:rng p) (hq:rng q) (h:pok (sL p q)=true):(pok p=true∧pok q=true)∧pok (fsum p q)=true∧iV (fsum p q) + iV (sL p q)=iV p + iV q:=by
  have rh:=fsum_rng hp hq
  have rv:rng (sV p q):=fsum_rng rh (neg_rng hp)
  have rU:=fsum_rng rh (neg_rng rv)
  have rX:=fsum_rng hp (neg_rng rU)
  have rY:=fsum_rng hq (neg_rng rv)
  obtain ⟨pX,pY⟩:=fsum_args rX rY h
  obtain ⟨pp,pU⟩:=fdiff_args hp rU pX
  obtain ⟨pq,pv⟩:=fdiff_args hq rv pY
  obtain ⟨ph,_⟩:=fdiff_args rh hp pv
  have e:=two_sum (fl_iV p) (fl_iV q) ((stp_sum hp hq pp pq).nr ph) ((stp_diff rh hp ph pp).nr pv) ((stp_diff rh rv ph pv).nr pU) ((stp_diff hp rU pp pU).nr pX) ((stp_diff hq rv pq pv).nr pY) ((stp_sum rX rY pX pY).nr h)
  exact ⟨⟨pp,pq⟩,ph,by unfold sL; omega⟩
theorem fL_args {p q:Int} (hp:rng p) (hq:rng q) (h:pok (fL p q)=true):(pok p=true∧pok q=true)∧pok (fsum p q)=true:=by
  have rh:=fsum_rng hp hq
  have rv:rng (fsum (fsum p q) (neg p)):=fsum_rng rh (neg_rng hp)
  obtain ⟨pq,pv⟩:=fdiff_args hq rv h
  obtain ⟨ph,pp⟩:=fdiff_args rh hp pv
  exact ⟨⟨pp,pq⟩,ph⟩
theorem back_le {a b h:Int} (ha:Fl a) (hab:b.natAbs <= a.natAbs) (n:Nr (a + b) h):(h - a).natAbs <= a.natAbs:=by
  have e1:=n.2 _ ha
  have e2:=n.2 _ ha.dbl
  have e3:=n.2 _ fl_zero
  omega
theorem fL_fin {p q:Int} (hp:rng p) (hq:rng q) (pp:pok p=true) (pq:pok q=true) (ph:pok (fsum p q)=true) (hab:(iV q).natAbs <= (iV p).natAbs):pok (fL p q)=true∧iV (fsum p q) + iV (fL p q)=iV p + iV q:=by
  have rh:=fsum_rng hp hq
  have rv:rng (fsum (fsum p q) (neg p)):=fsum_rng rh (neg_rng hp)
  have nh:=(stp_sum hp hq pp pq).nr ph
  have sv:=stp_diff rh hp ph pp
  have b1:=back_le (fl_iV p) hab nh
  have pv:=sv.fin (by have:=iV_max hp pp; omega)
  have ev:=nr_self (back (fl_iV p) (fl_iV q) hab nh) (sv.nr pv)
  have sl:=stp_diff hq rv pq pv
  have e3:=nh.2 _ (fl_iV p)
  have pl:=sl.fin (by rw [ev]; have:=iV_max hq pq; omega)
  have nl:=sl.nr pl
  have e4:=fast_sum (fl_iV p) (fl_iV q) hab nh (sv.nr pv) nl
  exact ⟨pl,by unfold fL; omega⟩
theorem fsum_eqn {p q:Int} (hp:rng p) (hq:rng q) (pp:pok p=true) (pq:pok q=true):fsum p q=if patV p + patV q=0 then patS (decide (p < 0) && decide (q < 0)) 0 else nearP (patV p + patV q):=by
  obtain ⟨a1,a2⟩:=fin_cls hp pp
  obtain ⟨b1,b2⟩:=fin_cls hq pq
  unfold fsum
  rw [if_neg (fun c=>c.elim a1 b1),if_neg a2,if_neg b2]
theorem fsum_comm {p q:Int} (hp:rng p) (hq:rng q) (pp:pok p=true) (pq:pok q=true):fsum p q=fsum q p:=by
  rw [fsum_eqn hp hq pp pq,fsum_eqn hq hp pq pp,Int.add_comm (patV q),Bool.and_comm (decide (q < 0))]
def fX (p q:Int):Bool:=pok (fL p q) && (!decide ((iV p).natAbs < (iV q).natAbs) || decide (iV (fL p q)=iV (fL q p)))
theorem k_pow (k:Nat):((2 ^ k:Nat):Int)=2 ^ k:=by simp
theorem k_spl {K:Nat} {A B:Int} (h:(K:Int)=A) (g:B=33554432 * A):(((4503599627370496 + 33554432) * K:Nat):Int)=134217729 * B:=by omega
theorem k_split2 (i j:Nat):(2:Int) ^ (i + j)=2 ^ i * 2 ^ j:=Int.pow_add _ _ _
theorem V_splitter {k:Nat} (hk:k=1049):V Ieee.double 4728779608772575232=(4503599627370496 + 33554432) * 2 ^ k:=by
  unfold V
  rw [dBin,if_neg (by decide),show (4728779608772575232 % 4503599627370496:Nat)=33554432 by decide,show (4728779608772575232 / 4503599627370496 - 1:Nat)=k by omega]
theorem iV_splitter:iV 4728779608772575232=134217729 * 2 ^ 1074:=by
  obtain ⟨k,hk⟩:∃ k:Nat,k=1049:=⟨_,rfl⟩
  rw [show (1074:Nat)=25 + k by omega]
  have e3:iV 4728779608772575232=(V Ieee.double 4728779608772575232:Int):=by
    unfold iV
    rw [show (rg 4728779608772575232).toNat=4728779608772575232 by decide,show decide ((4728779608772575232:Int) < 0)=false by decide]
    exact sgF _
  have e2:=k_split2 25 k
  rw [show (2:Int) ^ 25=33554432 by decide] at e2
  rw [e3,V_splitter hk]
  exact k_spl (k_pow k) e2
structure Hlv (a h l:Int):Prop where
  sum:h + l=a
  dvd:∀ k:Nat,(2 ^ k:Int) ∣ a->(2 ^ k:Int) ∣ h
  zero:a=0->h=0
  spl:a ≠ 0->∃ x j:Nat,Spl (2 ^ x * a) (2 ^ x * h) j∧4503599627370496 * 2 ^ j <= ((2 ^ x * a).natAbs:Int)∧((2 ^ x * a).natAbs:Int) < 9007199254740992 * 2 ^ j
theorem stp_split {p:Int} (hp:rng p) (pp:pok p=true):EStp (134217729 * iV p) (cC p):=by
  refine stp_prod spl_rng hp (by decide) pp ?_
  rw [iV_splitter]
  generalize (2:Int) ^ 1074=k
  rw [<- Int.mul_assoc,Int.mul_comm k]
theorem hlv_of {a c d h l:Int} (ha:Fl a) (nc:Nr (134217729 * a) c) (nd:Nr (c - a) d) (nh:Nr (c - d) h) (nl:Nr (a - h) l):Hlv a h l:=by
  have dv:∀ k:Nat,(2 ^ k:Int) ∣ a->(2 ^ k:Int) ∣ h:=fun k g=>by
    have g1:=nr_dvd nc (Int.dvd_mul_of_dvd_right g)
    have g2:=nr_dvd nd (Int.dvd_sub g1 g)
    exact nr_dvd nh (Int.dvd_sub g1 g2)
  by_cases h0:a=0
  . subst h0
    have e1:=nr_self fl_zero nc
    subst e1
    have e2:=nr_self fl_zero nd
    subst e2
    have e3:=nr_self fl_zero nh
    subst e3
    have e4:=nr_self fl_zero nl
    subst e4
    exact ⟨rfl,dv,fun _=>rfl,fun c=>absurd rfl c⟩
  . obtain ⟨e,s⟩:=split_fl ha h0 nc nd nh nl
    exact ⟨by omega,dv,fun c=>absurd c h0,fun _=>s⟩
theorem spL_exact {p:Int} (hp:rng p) (h:pok (spL p)=true):pok p=true∧pok (spH p)=true∧Hlv (iV p) (iV (spH p)) (iV (spL p)):=by
  have rc:rng (cC p):=fprod_rng spl_rng hp
  have rd:=fsum_rng rc (neg_rng hp)
  have rH:rng (spH p):=fsum_rng rc (neg_rng rd)
  obtain ⟨pp,pH⟩:=fdiff_args hp rH h
  obtain ⟨pc,pd⟩:=fdiff_args rc rd pH
  exact ⟨pp,pH,hlv_of (fl_iV p) ((stp_split hp pp).nr pc) ((stp_diff rc hp pc pp).nr pd) ((stp_diff rc rd pc pd).nr pH) ((stp_diff hp rH pp pH).nr h)⟩
theorem prL_args {p q:Int} (hp:rng p) (hq:rng q) (h:pok (prL p q)=true):(pok (spL p)=true∧pok (spL q)=true)∧pok (fprod p q)=true∧(pok (fprod (spH p) (spH q))=true∧pok (pT1 p q)=true)∧(pok (fprod (spL p) (spH q))=true∧pok (pT2 p q)=true)∧(pok (fprod (spH p) (spL q))=true∧pok (pT3 p q)=true)∧pok (fprod (spL p) (spL q))=true∧(rng (spH p)∧rng (spL p)∧rng (spH q)∧rng (spL q)∧rng (pT1 p q)∧rng (pT2 p q)∧rng (pT3 p q)):=by
  have rsp:∀ {p:Int},rng p->rng (spH p)∧rng (spL p):=fun {p} hp=>by
    have rc:rng (cC p):=fprod_rng spl_rng hp
    have rd:=fsum_rng rc (neg_rng hp)
    have rH:rng (spH p):=fsum_rng rc (neg_rng rd)
    exact ⟨rH,fsum_rng hp (neg_rng rH)⟩
  obtain ⟨rP,rQ⟩:=rsp hp
  obtain ⟨rR,rS⟩:=rsp hq
  have rT1:rng (pT1 p q):=fsum_rng (fprod_rng hp hq) (neg_rng (fprod_rng rP rR))
  have rT2:rng (pT2 p q):=fsum_rng rT1 (neg_rng (fprod_rng rQ rR))
  have rT3:rng (pT3 p q):=fsum_rng rT2 (neg_rng (fprod_rng rP rS))
  obtain ⟨pqs,p3⟩:=fdiff_args (fprod_rng rQ rS) rT3 h
  obtain ⟨p2,pps⟩:=fdiff_args rT2 (fprod_rng rP rS) p3
  obtain ⟨p1,pqr⟩:=fdiff_args rT1 (fprod_rng rQ rR) p2
  obtain ⟨ph,ppr⟩:=fdiff_args (fprod_rng hp hq) (fprod_rng rP rR) p1
  exact ⟨fprod_args rQ rS pqs,ph,⟨ppr,p1⟩,⟨pqr,p2⟩,⟨pps,p3⟩,pqs,rP,rQ,rR,rS,rT1,rT2,rT3⟩
end Go.Proofs.YtijiabajfgnaoaaGreatDoor
/-
  Mathematics of whole numbers: a float's whole units,ints as floats,the order of floats in the model.
-/
namespace Go.Proofs.YtijiabajfgnaoaaGreatDoor.M
open Go Ieee
theorem left_u {A q:Int} {u v:Nat} {l k:Int} (h:Left A u q l) (g:Left A v q k):¬ u < v:=fun c=>by
  have h1:=h.hi
  have h2:=g.lo
  have hq:0 < q:=by have:=h.lo; omega
  have h3:((u:Int) + 1) * q <= (v:Int) * q:=Int.mul_le_mul_of_nonneg_right (by omega) (by omega)
  rw [Int.add_mul,Int.one_mul] at h3
  omega
theorem Left.unique {A q:Int} {u v:Nat} {l k:Int} (h:Left A u q l) (g:Left A v q k):u=v∧l=k:=by
  have e:u=v:=by
    have h1:=left_u h g
    have h2:=left_u g h
    omega
  subst e
  refine ⟨rfl,?_⟩
  have lo:=h.lo
  have hi:=h.hi
  obtain ⟨T,hT⟩:∃ T,(u:Int) * q=T:=⟨_,rfl⟩
  rw [hT] at lo hi
  have a0:=h.l0
  have a1:=h.l1
  have a2:=h.l2
  have a3:=h.l3
  have b0:=g.l0
  have b1:=g.l1
  have b2:=g.l2
  have b3:=g.l3
  rw [hT] at a0 a1 a2 a3 b0 b1 b2 b3
  by_cases c0:A=T
  . rw [a0.2 c0,b0.2 c0]
  . by_cases c1:2 * A < 2 * T + q
    . rw [a1.2 ⟨by omega,c1⟩,b1.2 ⟨by omega,c1⟩]
    . by_cases c2:2 * A=2 * T + q
      . rw [a2.2 c2,b2.2 c2]
      . rw [a3.2 (by omega),b3.2 (by omega)]
theorem cmp_mul {a b q:Int} (hq:0 < q):compare (a * q) (b * q)=compare a b:=by
  have h1:a * q < b * q ↔ a < b:=⟨fun h=>Int.lt_of_mul_lt_mul_right h (by omega),fun h=>Int.mul_lt_mul_of_pos_right h hq⟩
  have h2:a * q=b * q ↔ a=b:=⟨fun h=>Int.eq_of_mul_eq_mul_right (by omega) h,fun h=>by rw [h]⟩
  show compareOfLessAndEq (a * q) (b * q)=compareOfLessAndEq a b
  unfold compareOfLessAndEq
  simp only [h1,h2]
theorem cmp_eq {a b:Int}:(some (compare a b) == some Ordering.eq)=decide (a=b):=by
  show (some (compareOfLessAndEq a b) == some Ordering.eq)=_
  unfold compareOfLessAndEq
  by_cases h1:a < b
  . rw [if_pos h1,decide_eq_false (by omega)]; rfl
  . rw [if_neg h1]
    by_cases h2:a=b
    . rw [if_pos h2,decide_eq_true (by omega)]; rfl
    . rw [if_neg h2,decide_eq_false (by omega)]; rfl
end Go.Proofs.YtijiabajfgnaoaaGreatDoor.M
namespace Go.Proofs.YtijiabajfgnaoaaGreatDoor
open Go Go.RowKit Go.Proofs.YtijiabajfgnaoaaGreatDoor.M Ieee
theorem order_wd {p q:Int} (hp:rng p) (hq:rng q) (pp:pok p=true) (pq:pok q=true):Ieee.double.order (wd p) (wd q)=some (compare (patV p) (patV q)):=by
  obtain ⟨m,u,r1,v1⟩:=read_wd hp pp
  obtain ⟨n,v,r2,v2⟩:=read_wd hq pq
  unfold Ieee.Format.order
  rw [r1,r2]
  show some (compare (signed (decide (p < 0)) m (-1074 + (u:Int) - min (-1074 + (u:Int)) (-1074 + (v:Int))).toNat) (signed (decide (q < 0)) n (-1074 + (v:Int) - min (-1074 + (u:Int)) (-1074 + (v:Int))).toNat))=_
  have hb:-4194304 <= min (-1074 + (u:Int)) (-1074 + (v:Int)):=by omega
  have s1:=signed_pw (decide (p < 0)) m (-1074 + (u:Int) - min (-1074 + (u:Int)) (-1074 + (v:Int))).toNat (i:=-1074 + (u:Int)) (base:=min (-1074 + (u:Int)) (-1074 + (v:Int))) (by omega) hb
  have s2:=signed_pw (decide (q < 0)) n (-1074 + (v:Int) - min (-1074 + (u:Int)) (-1074 + (v:Int))).toNat (i:=-1074 + (v:Int)) (base:=min (-1074 + (u:Int)) (-1074 + (v:Int))) (by omega) hb
  rw [v1,v2,<- s1,<- s2,cmp_mul (pw_pos _)]
end Go.Proofs.YtijiabajfgnaoaaGreatDoor
namespace Go.Proofs.YtijiabajfgnaoaaGreatDoor
open Go Go.RowKit Go.Proofs.YtijiabajfgnaoaaGreatDoor.M Ieee
theorem FW.rng {p:Int} {x:Nat} (h:FW p x):M.rng p:=by
  rcases h with ⟨_,h,_⟩ | ⟨rfl,_⟩
  . exact h
  . exact nan_rng
theorem neg_sign {p:Int} (hp:M.rng p) (h4:¬ cls p=4):decide (M.neg p < 0)=!decide (p < 0)∧rg (M.neg p)=rg p∧¬ cls (M.neg p)=4:=by
  have h0:0 <= rg p∧rg p < 9223372036854775808:=by unfold rg; unfold M.rng at hp; split <;> omega
  have e:rg (M.neg p)=rg p∧decide (M.neg p < 0)=!decide (p < 0):=by
    unfold M.neg rg
    rw [if_neg h4]
    unfold M.rng at hp
    by_cases c:p < 0
    . rw [if_pos c,decide_eq_true c,if_neg (by omega)]
      exact ⟨by rw [if_pos c],decide_eq_false (by omega)⟩
    . rw [if_neg c,decide_eq_false c,if_pos (by omega)]
      exact ⟨by rw [if_neg c]; omega,decide_eq_true (by omega)⟩
  refine ⟨e.2,e.1,fun c=>?_⟩
  have:=(cls_rg (neg_rng hp)).1.1 c
  rw [e.1] at this
  exact h4 ((cls_rg hp).1.2 this)
theorem self_pat {p:Int} (hp:M.rng p):fsum p (M.neg p)=if pok p then 0 else 9221120237041090561:=by
  by_cases c4:cls p=4
  . have:pok p=false:=by
      cases h:pok p
      . rfl
      . exact absurd c4 (fin_cls hp h).1
    rw [this]
    unfold fsum
    rw [if_pos (.inl c4)]
    rfl
  . obtain ⟨s1,s2,s3⟩:=neg_sign hp c4
    cases h:pok p
    . have hi:rg p=9218868437227405312:=by
        by_cases c:rg p=9218868437227405312
        . exact c
        . rw [pok_of hp c4 c] at h; cases h
      unfold fsum
      rw [if_neg (fun c=>c.elim c4 s3),if_pos hi,if_pos ⟨by rw [s2]; exact hi,by rw [s1]; cases decide (p < 0) <;> decide⟩]
      rfl
    . obtain ⟨n1,n2,n3⟩:=neg_facts hp h
      unfold fsum
      rw [if_neg (fun c=>c.elim c4 s3),if_neg (fin_cls hp h).2,if_neg (by rw [s2]; exact (fin_cls hp h).2),patV_iV hp h,patV_iV n1 n2,n3,if_pos (by rw [<- Int.add_mul,Int.add_right_neg,Int.zero_mul]),s1]
      cases decide (p < 0) <;> rfl
theorem order_zero:Ieee.double.order 0 0=some .eq:=by decide +kernel
theorem self_order {p:Int} {z:Nat} (hp:M.rng p) (hz:FW (fsum p (M.neg p)) z):(Ieee.double.order z 0 == some Ordering.eq)=pok p:=by
  rw [self_pat hp] at hz
  cases h:pok p
  . rw [h] at hz
    obtain ⟨s,t,e⟩:=hz.read_nan nan_canon
    unfold Ieee.Format.order
    rw [e]
    rfl
  . rw [h] at hz
    obtain ⟨_,e,_⟩:=hz.of (by decide)
    have:z=0:=by rw [e]; decide
    rw [this,order_zero]
    rfl
set_option maxRecDepth 100000 in
set_option maxHeartbeats 1000000 in
theorem etold_any {p q:Int} {x y:Nat} (hx:FW p x) (hy:FW q y) (w:World) :
    Calls Tryz.prog 78 #[.float .f64 x,.float .f64 y] w fun e w'=>e=.returned (.tuple #[.int .i64 p,.int .i64 q,.bool (pok q)])∧Below w.heap.size w w':=by
  have C1:=fun W=>of_FW hx W
  have C2:=fun W=>of_FW hy W
  obtain ⟨z1,w1,e1,f1,d1⟩:=run_fdiff (P:=Tryz.prog) 81 hy hy w
  have B1:Hid (Below w.heap.size w w1):=stay_b d1
  have HO:(Ieee.double.order z1 0 == some Ordering.eq)=pok q:=self_order hy.rng f1
  clear d1 f1 hx hy
  generalize pok q=R at HO ⊢
  go_enter Tryz.func78,Tryz.ntmps78
  go_wp2_with fail
  refine (C1 _).mono ?_
  rintro _ _ ⟨rfl,rfl⟩
  go_wp2_with fail
  refine (C2 _).mono ?_
  rintro _ _ ⟨rfl,rfl⟩
  have HO2:(FloatKind.f64.format.order z1 0 == some Ordering.eq)=R:=HO
  go_wp2
  refine bodyPost_ret (v:=.tuple #[.int .i64 p,.int .i64 q,.bool R]) (by simp [results,Tryz.results78,go_sem,HO2]) rfl ⟨rfl,B1.out⟩
set_option maxRecDepth 100000 in
set_option maxHeartbeats 1000000 in
theorem twoSum_any {a b:Int} (ha:M.rng a) (hb:M.rng b) (w:World) :
    Calls Tryz.prog 57 #[.int .i64 a,.int .i64 b] w fun e w'=>e=.returned (.tuple #[.int .i64 (fsum (told a) (told b)),.int .i64 (sL (told a) (told b)),.bool (pok (sL (told a) (told b)))])∧Below w.heap.size w w':=by
  have C1:=fun W=>bitsFloat a W
  have C2:=fun W=>bitsFloat b W
  have FA:Hid (FW (told a) (wd a)):=wd_told ha
  have FB:Hid (FW (told b) (wd b)):=wd_told hb
  generalize told a=p at *
  generalize told b=q at *
  generalize wd a=x at *
  generalize wd b=y at *
  go_enter Tryz.func57,Tryz.ntmps57
  go_wp2_with fail
  refine (C1 _).mono ?_
  rintro _ _ ⟨rfl,rfl⟩
  go_wp2_with fail
  refine (C2 _).mono ?_
  rintro _ _ ⟨rfl,rfl⟩
  go_wp2_with fail
  refine (esum_any FA.out FB.out _).mono ?_
  rintro _ w1 ⟨z,u,rfl,g1,g2,b1⟩
  have G1:Hid (FW (fsum p q) z):=g1
  have G2:Hid (FW (sL p q) u):=g2
  clear g1 g2
  go_wp2_with fail
  refine (etold_any G1.out G2.out _).mono ?_
  rintro _ w2 ⟨rfl,b2⟩
  go_wp2
  refine bodyPost_ret (v:=.tuple #[.int .i64 (fsum p q),.int .i64 (sL p q),.bool (pok (sL p q))]) (by simp [results,Tryz.results57,go_sem]) rfl ⟨rfl,bel_trans b1 b2⟩
end Go.Proofs.YtijiabajfgnaoaaGreatDoor
/-
  Package eft: math.Abs,FastTwoSum,reachable,TwoProd,by their contracts.
-/
namespace Go.Proofs.YtijiabajfgnaoaaGreatDoor
open Go Go.RowKit Go.Proofs.YtijiabajfgnaoaaGreatDoor.M Ieee
theorem bits_andNotU (x y:Int):bits .andNot .u64 x y=IntKind.u64.wrap (((x % 18446744073709551616).toNat &&& (18446744073709551615 - (y % 18446744073709551616).toNat):Nat):Int):=by
  show IntKind.u64.wrap (((BitVec.ofInt 64 x &&& ~~~ BitVec.ofInt 64 y).toNat:Nat):Int)=_
  rw [BitVec.toNat_and,BitVec.toNat_not,ofInt64_toNat,ofInt64_toNat]
theorem abs_word {p:Int} (hp:M.rng p):bits .andNot .u64 ((wd p:Nat):Int) 9223372036854775808=((wd (rg p):Nat):Int):=by
  rw [bits_andNotU,show (18446744073709551615 - ((9223372036854775808:Int) % 18446744073709551616).toNat)=2 ^ 63 - 1 from by decide,IntKind.wrap_u64,Nat.and_two_pow_sub_one_eq_mod]
  unfold wd rg M.rng at *
  have e:(2:Nat) ^ 63=9223372036854775808:=by decide
  rw [e]
  split <;> omega
set_option maxRecDepth 100000 in
theorem mabs_any {p:Int} (hp:M.rng p) (w:World) :
    Calls Tryz.prog 83 #[.float .f64 (wd p)] w fun e w'=>e=.returned (.float .f64 (wd (rg p)))∧w'=w:=by
  have h1:=run_from64
  have h2:=run_bits64
  have h3:=abs_word hp
  generalize wd (rg p)=z at *
  generalize wd p=x at *
  go_enter Tryz.func83,Tryz.ntmps83
  go_wp2
  go_ret
  exact ⟨by simp,rfl⟩
theorem rg_facts {p:Int} (hp:M.rng p) (h:pok p=true):M.rng (rg p)∧pok (rg p)=true∧iV (rg p)=((iV p).natAbs:Int):=by
  have h1:=(pok_rg hp).1 h
  have h0:0 <= rg p:=by unfold rg; unfold M.rng at hp; split <;> omega
  have e:rg p=patS false (rg p):=rfl
  obtain ⟨a,b,c⟩:=patS_parts (ng:=false) h0 (by omega)
  rw [<- e] at a
  refine ⟨a,?_,?_⟩
  . rw [e,patS_fin h0 (by omega)]; exact decide_eq_true h1
  . rw [iV_abs]
    have:=iV_patS (ng:=false) h0 (show rg p <= 9218868437227405312 by omega)
    rw [<- e] at this
    rw [this]
    rfl
theorem cmp_iV {p q:Int} (hp:M.rng p) (hq:M.rng q) (pp:pok p=true) (pq:pok q=true):Ieee.double.order (wd p) (wd q)=some (compare (iV p) (iV q)):=by
  rw [order_wd hp hq pp pq,patV_iV hp pp,patV_iV hq pq,cmp_mul (pw_pos _)]
theorem cmp_lt {a b:Int}:(some (compare a b) == some Ordering.lt)=decide (a < b):=by
  show (some (compareOfLessAndEq a b) == some Ordering.lt)=_
  unfold compareOfLessAndEq
  by_cases h1:a < b
  . rw [if_pos h1,decide_eq_true h1]; rfl
  . rw [if_neg h1,decide_eq_false h1]
    split <;> rfl
theorem abs_order {p q:Int} (hp:M.rng p) (hq:M.rng q) (pp:pok p=true) (pq:pok q=true):(Ieee.double.order (wd (rg p)) (wd (rg q)) == some Ordering.lt)=decide ((iV p).natAbs < (iV q).natAbs):=by
  obtain ⟨a1,a2,a3⟩:=rg_facts hp pp
  obtain ⟨b1,b2,b3⟩:=rg_facts hq pq
  rw [cmp_iV a1 b1 a2 b2,cmp_lt,a3,b3]
  congr 1
  apply propext
  omega
theorem told_fin {a:Int} (h:pok (told a)=true):told a=a:=by
  unfold told at *
  by_cases c:cls a=4
  . rw [if_pos c,nan_no] at h; cases h
  . rw [if_neg c]
theorem FW.fin {p:Int} {x:Nat} (h:FW p x) (g:pok p=true):x=wd p:=by
  rcases h with ⟨_,_,h⟩ | ⟨rfl,_⟩
  . exact h
  . rw [nan_no] at g; cases g
set_option maxRecDepth 100000 in
set_option maxHeartbeats 2000000 in
theorem fastTwoSum_any {a b:Int} (ha:M.rng a) (hb:M.rng b) (w:World) :
    Calls Tryz.prog 60 #[.int .i64 a,.int .i64 b] w fun e w'=>e=.returned (.tuple #[.int .i64 (fsum (told a) (told b)),.int .i64 (fL (told a) (told b)),.bool (fX (told a) (told b))])∧Below w.heap.size w w':=by
  have C1:=fun W=>bitsFloat a W
  have C2:=fun W=>bitsFloat b W
  have FA:Hid (FW (told a) (wd a)):=wd_told ha
  have FB:Hid (FW (told b) (wd b)):=wd_told hb
  generalize told a=p at *
  generalize told b=q at *
  generalize wd a=x at *
  generalize wd b=y at *
  obtain ⟨X,hX0⟩:∃ X,fX p q=X:=⟨_,rfl⟩
  have HX:Hid (fX p q=X):=hX0
  rw [hX0]
  clear hX0
  go_enter Tryz.func60,Tryz.ntmps60
  go_wp2_with fail
  refine (C1 _).mono ?_
  rintro _ _ ⟨rfl,rfl⟩
  go_wp2_with fail
  refine (C2 _).mono ?_
  rintro _ _ ⟨rfl,rfl⟩
  go_wp2_with fail
  refine (efast_any FA.out FB.out _).mono ?_
  rintro _ w1 ⟨z,u,rfl,g1,g2,b1⟩
  have G1:Hid (FW (fsum p q) z):=g1
  have G2:Hid (FW (fL p q) u):=g2
  clear g1 g2 C1 C2
  go_wp2_with fail
  refine (etold_any G1.out G2.out _).mono ?_
  rintro _ w2 ⟨rfl,b2⟩
  have hb2:=bel_trans b1 b2
  have hp:=FA.out.rng
  have hq:=FB.out.rng
  cases hl:pok (fL p q)
  . have hx:X=false:=by rw [<- HX.out]; unfold fX; rw [hl]; rfl
    subst hx
    clear HX
    clear G1 G2 FA FB hp hq
    go_wp2
    all_goals refine bodyPost_ret (v:=.tuple #[.int .i64 (fsum p q),.int .i64 (fL p q),.bool false]) (by simp [results,Tryz.results60,go_sem]) rfl ⟨rfl,hb2⟩
  . obtain ⟨⟨pp,pq⟩,ph⟩:=fL_args hp hq hl
    have ex:=FA.out.fin pp
    have ey:=FB.out.fin pq
    have eu:=G2.out.fin hl
    subst ex ey eu
    have A1:=fun W=>mabs_any hp W
    have A2:=fun W=>mabs_any hq W
    have HO:(FloatKind.f64.format.order (wd (rg p)) (wd (rg q)) == some Ordering.lt)=decide ((iV p).natAbs < (iV q).natAbs):=abs_order hp hq pp pq
    by_cases c:(iV p).natAbs < (iV q).natAbs
    . have hc:=fsum_comm hp hq pp pq
      obtain ⟨k1,k2⟩:=fL_fin hq hp pq pp (by rw [<- hc]; exact ph) (by omega)
      have hfl:M.rng (fL p q):=by unfold fL; exact fsum_rng hq (neg_rng (fsum_rng (fsum_rng hp hq) (neg_rng hp)))
      have hfl2:M.rng (fL q p):=by unfold fL; exact fsum_rng hp (neg_rng (fsum_rng (fsum_rng hq hp) (neg_rng hq)))
      have HE:(FloatKind.f64.format.order (wd (fL p q)) (wd (fL q p)) == some Ordering.eq)=decide (iV (fL p q)=iV (fL q p)):=by
        show (Ieee.double.order (wd (fL p q)) (wd (fL q p)) == some Ordering.eq)=_
        rw [cmp_iV hfl hfl2 hl k1,cmp_eq]
      have hx:X=decide (iV (fL p q)=iV (fL q p)):=by rw [<- HX.out]; unfold fX; rw [hl,decide_eq_true c]; rfl
      rw [<- hx] at HE
      clear HX hx
      rw [decide_eq_true c] at HO
      have K1:Hid (pok (fL q p)=true):=k1
      clear hc k2 G1 hfl hfl2
      generalize wd (rg p)=xa at *
      generalize wd (rg q)=ya at *
      go_wp2_with fail
      refine (A1 _).mono ?_
      rintro _ _ ⟨rfl,rfl⟩
      go_wp2_with fail
      refine (A2 _).mono ?_
      rintro _ _ ⟨rfl,rfl⟩
      go_wp2_with fail
      refine (efast_any FB.out FA.out _).mono ?_
      rintro _ w3 ⟨z3,u3,rfl,g3,g4,b3⟩
      have e4:=g4.fin K1.out
      subst e4
      have hb3:=bel_trans hb2 b3
      clear g3 g4
      go_wp2
      all_goals refine bodyPost_ret (v:=.tuple #[.int .i64 (fsum p q),.int .i64 (fL p q),.bool X]) (by simp [results,Tryz.results60,go_sem,HE]) rfl ⟨rfl,hb3⟩
    . have hx:X=true:=by rw [<- HX.out]; unfold fX; rw [hl,decide_eq_false c]; rfl
      subst hx
      clear HX
      rw [decide_eq_false c] at HO
      clear G1
      generalize wd (rg p)=xa at *
      generalize wd (rg q)=ya at *
      go_wp2_with fail
      refine (A1 _).mono ?_
      rintro _ _ ⟨rfl,rfl⟩
      go_wp2_with fail
      refine (A2 _).mono ?_
      rintro _ _ ⟨rfl,rfl⟩
      go_wp2
      all_goals refine bodyPost_ret (v:=.tuple #[.int .i64 (fsum p q),.int .i64 (fL p q),.bool true]) (by simp [results,Tryz.results60,go_sem]) rfl ⟨rfl,hb2⟩
end Go.Proofs.YtijiabajfgnaoaaGreatDoor
namespace Go.Proofs.YtijiabajfgnaoaaGreatDoor
open Go Go.RowKit Go.Proofs.YtijiabajfgnaoaaGreatDoor.M Ieee
set_option maxRecDepth 100000 in
theorem tzero_any (mag:Int) (h0:0 < mag) (h:mag < 9223372036854775808) (w:World) (hT:b_Tab w) :
    Calls Tryz.prog 23 #[.int .u64 mag] w fun e w'=>e=.returned (.int .i64 (jz mag))∧w'=w:=by
  go_enter Tryz.func23,Tryz.ntmps23
  go_wp2_with fail
  refine (trailingI mag h0 h _ hT).mono ?_
  rintro _ _ ⟨rfl,rfl⟩
  go_wp2
  go_ret
  exact ⟨rfl,rfl⟩
set_option maxRecDepth 100000 in
theorem zeros_any (x:Int) (h0:0 < x) (h1:x < 9223372036854775808) (w:World) (hT:b_Tab w) :
    Calls Tryz.prog 100 #[.int .i64 x] w fun e w'=>e=.returned (.int .i64 (jz x))∧w'=w:=by
  have u1:IntKind.u64.wrap x=x:=by rw [IntKind.wrap_u64]; omega
  have C:=fun W (T:b_Tab W)=>tzero_any x h0 h1 W T
  go_enter Tryz.func100,Tryz.ntmps100
  go_wp2_with fail
  refine (C _ hT).mono ?_
  rintro _ _ ⟨rfl,rfl⟩
  go_wp2
  go_ret
  exact ⟨rfl,rfl⟩
def reach (a b:Int):Bool:=decide (pmag a=0) || decide (pmag b=0) || decide (-1074 <= pexp a + jz (pmag a) + pexp b + jz (pmag b))
end Go.Proofs.YtijiabajfgnaoaaGreatDoor
namespace Go.Proofs.YtijiabajfgnaoaaGreatDoor
open Go Go.RowKit Go.Proofs.YtijiabajfgnaoaaGreatDoor.M Ieee
set_option maxRecDepth 100000 in
set_option maxHeartbeats 2000000 in
theorem reachable_any {a b:Int} (pa:pok a=true) (pb:pok b=true) (w:World) (H:Hold4 w) :
    Calls Tryz.prog 81 #[.int .i64 a,.int .i64 b] w fun e w'=>e=.returned (.bool (reach a b))∧Below w.heap.size w w':=by
  have C1:=bitsPartsA a w H.lay
  have C2:Hid (∀ W,Below w.heap.size w W->_):=fun W hb=>bitsPartsA b W (H.keeps hb).lay
  have HT:Hid (∀ W,Below w.heap.size w W->b_Tab W):=fun W hb=>(H.keeps hb).env.tab
  obtain ⟨a0,a1,a2,a3⟩:=pmag_in pa
  obtain ⟨b0,b1,b2,b3⟩:=pmag_in pb
  have Z1:Hid (pmag a ≠ 0->∀ W,Below w.heap.size w W->Calls Tryz.prog 100 #[.int .i64 (pmag a)] W fun e w'=>e=.returned (.int .i64 (jz (pmag a)))∧w'=W):=fun h W hb=>zeros_any _ (by omega) (by omega) W (HT.out W hb)
  have Z2:Hid (pmag b ≠ 0->∀ W,Below w.heap.size w W->Calls Tryz.prog 100 #[.int .i64 (pmag b)] W fun e w'=>e=.returned (.int .i64 (jz (pmag b)))∧w'=W):=fun h W hb=>zeros_any _ (by omega) (by omega) W (HT.out W hb)
  have z1:pmag a ≠ 0->jz (pmag a) < 63:=fun h=>by obtain ⟨_,_,g,_⟩:=jz_spec (mag:=pmag a) (by omega) (by omega); exact g
  have z2:pmag b ≠ 0->jz (pmag b) < 63:=fun h=>by obtain ⟨_,_,g,_⟩:=jz_spec (mag:=pmag b) (by omega) (by omega); exact g
  unfold reach
  clear HT H
  generalize jz (pmag a)=j at *
  generalize jz (pmag b)=k at *
  generalize pmag a=m at *
  generalize pmag b=n at *
  generalize pexp a=x at *
  generalize pexp b=y at *
  generalize pneg a=s at *
  generalize pneg b=t at *
  go_enter Tryz.func81,Tryz.ntmps81
  go_wp2_with fail
  refine C1.mono ?_
  rintro _ w1 ⟨rfl,g1⟩
  go_wp2_with fail
  refine (C2.out _ g1).mono ?_
  rintro _ w2 ⟨rfl,g2⟩
  have hb2:=bel_trans g1 g2
  clear C1 C2 g1 g2
  by_cases hm:m=0
  . subst hm
    go_wp2
    all_goals go_ret
    all_goals exact ⟨by simp,hb2⟩
  . by_cases hn:n=0
    . subst hn
      go_wp2
      all_goals go_ret
      all_goals exact ⟨by simp,hb2⟩
    . have Z1:=Z1.out hm w2 hb2
      have Z2:=Z2.out hn w2 hb2
      have j1:=z1 hm
      have k1:=z2 hn
      have u1:IntKind.i64.wrap (x + (j:Int))=x + j:=by rw [wrap_i64_eq]; omega
      have u2:IntKind.i64.wrap (x + (j:Int) + y)=x + j + y:=by rw [wrap_i64_eq]; omega
      have u3:IntKind.i64.wrap (x + (j:Int) + y + (k:Int))=x + j + y + k:=by rw [wrap_i64_eq]; omega
      by_cases hr:-1074 <= x + (j:Int) + y + (k:Int)
      . go_wp2_with (first | (go_at_call 100; first | (refine Z1.mono ?_; rintro _ _ ⟨rfl,rfl⟩) | (refine Z2.mono ?_; rintro _ _ ⟨rfl,rfl⟩)))
        all_goals go_ret
        all_goals exact ⟨by simp [hr],by first | exact hb2 | exact hb2.drew⟩
      . go_wp2_with (first | (go_at_call 100; first | (refine Z1.mono ?_; rintro _ _ ⟨rfl,rfl⟩) | (refine Z2.mono ?_; rintro _ _ ⟨rfl,rfl⟩)))
        all_goals go_ret
        all_goals exact ⟨by simp [hm,hn,hr],by first | exact hb2 | exact hb2.drew⟩
def pX (p q:Int):Bool:=pok (prL p q) && reach p q
set_option maxRecDepth 100000 in
set_option maxHeartbeats 2000000 in
theorem twoProd_any {a b:Int} (ha:M.rng a) (hb:M.rng b) (w:World) (H:Hold4 w) :
    Calls Tryz.prog 59 #[.int .i64 a,.int .i64 b] w fun e w'=>e=.returned (.tuple #[.int .i64 (fprod (told a) (told b)),.int .i64 (prL (told a) (told b)),.bool (pX (told a) (told b))])∧Below w.heap.size w w':=by
  have C1:=fun W=>bitsFloat a W
  have C2:=fun W=>bitsFloat b W
  have FA:Hid (FW (told a) (wd a)):=wd_told ha
  have FB:Hid (FW (told b) (wd b)):=wd_told hb
  have HH:Hid (Hold4 w):=H
  have TA:Hid (pok (told a)=true->told a=a):=told_fin
  have TB:Hid (pok (told b)=true->told b=b):=told_fin
  clear H
  generalize told a=p at *
  generalize told b=q at *
  generalize wd a=x at *
  generalize wd b=y at *
  obtain ⟨X,hX0⟩:∃ X,pX p q=X:=⟨_,rfl⟩
  have HX:Hid (pX p q=X):=hX0
  rw [hX0]
  clear hX0
  go_enter Tryz.func59,Tryz.ntmps59
  go_wp2_with fail
  refine (C1 _).mono ?_
  rintro _ _ ⟨rfl,rfl⟩
  go_wp2_with fail
  refine (C2 _).mono ?_
  rintro _ _ ⟨rfl,rfl⟩
  go_wp2_with fail
  refine (eprod_any FA.out FB.out _).mono ?_
  rintro _ w1 ⟨z,u,rfl,g1,g2,b1⟩
  have G1:Hid (FW (fprod p q) z):=g1
  have G2:Hid (FW (prL p q) u):=g2
  clear g1 g2 C1 C2
  go_wp2_with fail
  refine (etold_any G1.out G2.out _).mono ?_
  rintro _ w2 ⟨rfl,b2⟩
  have hb2:=bel_trans b1 b2
  have hp:=FA.out.rng
  have hq:=FB.out.rng
  cases hl:pok (prL p q)
  . have hx:X=false:=by rw [<- HX.out]; unfold pX; rw [hl]; rfl
    subst hx
    clear G1 G2 FA FB hp hq HX
    go_wp2
    all_goals refine bodyPost_ret (v:=.tuple #[.int .i64 (fprod p q),.int .i64 (prL p q),.bool false]) (by simp [results,Tryz.results59,go_sem]) rfl ⟨rfl,hb2⟩
  . have hx:X=reach p q:=by rw [<- HX.out]; unfold pX; rw [hl]; rfl
    obtain ⟨⟨pQ,pS⟩,_⟩:=prL_args hp hq hl
    have pp:=(spL_exact hp pQ).1
    have pq:=(spL_exact hq pS).1
    have ea:=TA.out pp
    have eb:=TB.out pq
    have CR:=reachable_any (a:=p) (b:=q) pp pq w2 (HH.out.keeps hb2)
    rw [<- hx] at CR
    subst ea eb
    clear G1 G2 FA FB hp hq HX pQ pS pp pq hx TA TB
    go_wp2_with fail
    refine CR.mono ?_
    rintro _ w3 ⟨rfl,b3⟩
    go_wp2
    all_goals refine bodyPost_ret (v:=.tuple #[.int .i64 (fprod p q),.int .i64 (prL p q),.bool X]) (by simp [results,Tryz.results59,go_sem]) rfl ⟨rfl,bel_trans hb2 b3⟩
theorem iV_form {p:Int} (hp:rng p) (h:pok p=true):((iV p).natAbs:Int)=pmag p * 2 ^ (pexp p + 1074).toNat:=by
  have h0:=(pmag_in h).1
  rw [iV_abs,V_rg hp h,nat_two,Int.toNat_of_nonneg h0,Int.mul_comm]
end Go.Proofs.YtijiabajfgnaoaaGreatDoor
namespace Go.Proofs.YtijiabajfgnaoaaGreatDoor
open Go Go.RowKit Go.Proofs.YtijiabajfgnaoaaGreatDoor.M
end Go.Proofs.YtijiabajfgnaoaaGreatDoor
namespace Go.Proofs.YtijiabajfgnaoaaGreatDoor
open Go Go.RowKit Go.Proofs.YtijiabajfgnaoaaGreatDoor.M Ieee
theorem hold6_of {W : World} (h : laidMetH Tryz.prog [("math/bits.deBruijn32tab", Rows.laid_math_bits_deBruijn32tab), ("math/bits.deBruijn64tab", Rows.laid_math_bits_deBruijn64tab), ("plumb/bits.binary64", Rows.laid_plumb_bits_binary64)] W) : Hold4 W := by
  have k:=hold_of h
  exact ⟨k.lay,k.tab,⟨⟨k.lay.a0,k.lay.a1,k.lay.a2,trivial,trivial,trivial⟩,k.tab⟩⟩
theorem told_ok {a:Int} (h:pok a=true) (ha:M.rng a):told a=a:=by
  unfold told; rw [if_neg (fin_cls ha h).1]
theorem sL_rng {p q:Int} (hp:M.rng p) (hq:M.rng q):M.rng (sL p q):=by
  have rh:=fsum_rng hp hq
  have rv:M.rng (sV p q):=fsum_rng rh (neg_rng hp)
  exact fsum_rng (fsum_rng hp (neg_rng (fsum_rng rh (neg_rng rv)))) (fsum_rng hq (neg_rng rv))
theorem fL_rng {p q:Int} (hp:M.rng p) (hq:M.rng q):M.rng (fL p q):=fsum_rng hq (neg_rng (fsum_rng (fsum_rng hp hq) (neg_rng hp)))
theorem sp_rng {p:Int} (hp:M.rng p):M.rng (spH p)∧M.rng (spL p):=by
  have rc:M.rng (cC p):=fprod_rng spl_rng hp
  have rd:=fsum_rng rc (neg_rng hp)
  have rH:M.rng (spH p):=fsum_rng rc (neg_rng rd)
  exact ⟨rH,fsum_rng hp (neg_rng rH)⟩
theorem prL_rng {p q:Int} (hp:M.rng p) (hq:M.rng q):M.rng (prL p q):=by
  obtain ⟨rP,rQ⟩:=sp_rng hp
  obtain ⟨rR,rS⟩:=sp_rng hq
  have rT1:M.rng (pT1 p q):=fsum_rng (fprod_rng hp hq) (neg_rng (fprod_rng rP rR))
  have rT2:M.rng (pT2 p q):=fsum_rng rT1 (neg_rng (fprod_rng rQ rR))
  have rT3:M.rng (pT3 p q):=fsum_rng rT2 (neg_rng (fprod_rng rP rS))
  exact fsum_rng (fprod_rng rQ rS) (neg_rng rT3)
end Go.Proofs.YtijiabajfgnaoaaGreatDoor
namespace Go.Proofs.YtijiabajfgnaoaaGreatDoor.M
open Go Ieee
theorem q_rg {b:Int} (h:rng b):rng (rg b)∧0 <= rg b:=by unfold rng rg at *; split <;> omega
theorem q_cls {b:Int} (h:rng b):cls (rg b)=cls b:=by
  unfold rng at h; unfold cls rg fld frc
  by_cases h0:b < 0
  . rw [if_pos h0,show (b + 9223372036854775808) / 4503599627370496 % 2048=b / 4503599627370496 % 2048 from by omega,show (b + 9223372036854775808) % 4503599627370496=b % 4503599627370496 from by omega]
  . rw [if_neg h0]
def tame (b:Int):Bool:=decide (rg b=0) || (decide (3931642474694443008 <= rg b) && decide (rg b < 5282722362905591808))
end Go.Proofs.YtijiabajfgnaoaaGreatDoor.M
