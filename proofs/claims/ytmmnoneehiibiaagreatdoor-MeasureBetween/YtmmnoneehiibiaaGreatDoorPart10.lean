/- Parts of the proof. -/
import Derived.Test.YtmmnoneehiibiaaGreatDoorPart9
import Derived.Laws.MakeOwn
set_option linter.unusedVariables false
set_option linter.unusedSimpArgs false
namespace Go.Proofs.YtmmnoneehiibiaaGreatDoor
open Go Go.RowKit Go.Proofs.YtmmnoneehiibiaaGreatDoor.M
theorem rg_iV {p q:Int} (h:rg p<=rg q) (hp:0<=rg p):(iV p).natAbs<=(iV q).natAbs:=by
  have a:=iV_abs p
  have b:=iV_abs q
  have c:=V_le (show (rg p).toNat<=(rg q).toNat by omega)
  omega
theorem su_exact {p q:Int} (hp:rng p) (hq:rng q) (pp:pok p=true) (pq:pok q=true) (hf:pok (suN p q)=true):pok (suL p q)=true∧iV (suN p q)+iV (suL p q)=iV p+iV q:=by
  by_cases h:rg p<rg q
  . have ex:hiM p q=q:=if_pos h
    have ey:loM p q=p:=if_pos h
    unfold suL suN at *
    rw [ex,ey] at hf ⊢
    obtain ⟨a,b⟩:=fL_fin hq hp pq pp hf (rg_iV (by omega) (q_rg hp).2)
    exact ⟨a,by unfold fL at b; omega⟩
  . have ex:hiM p q=p:=if_neg h
    have ey:loM p q=q:=if_neg h
    unfold suL suN at *
    rw [ex,ey] at hf ⊢
    obtain ⟨a,b⟩:=fL_fin hp hq pp pq hf (rg_iV (by omega) (q_rg hq).2)
    exact ⟨a,by unfold fL at b; omega⟩
theorem V_zero_iff {r:Nat}:(V Ieee.double r:Int)=0 ↔ r=0:=by
  constructor
  . intro h
    by_cases h0:r=0
    . exact h0
    . have:=V_lt Ieee.double (show 0<r by omega)
      rw [V_zero] at this
      omega
  . rintro rfl
    rw [V_zero]
    rfl
theorem iV_key {p:Int} (hp:rng p):(iV p<0 ↔ key p<0)∧(0<iV p ↔ 0<key p):=by
  have hz:=@V_zero_iff (rg p).toNat
  have hr:=q_rg hp
  unfold rng at hp
  have hv:(0:Int)<=(V Ieee.double (rg p).toNat:Int):=by omega
  by_cases h:p<0
  . have e1:iV p=-(V Ieee.double (rg p).toNat:Int):=by unfold iV sg; simp [h]
    have e2:key p=-(rg p):=by unfold key rg; rw [if_pos h,if_pos h]
    rw [e1,e2]
    constructor <;> constructor <;> intro g <;> omega
  . have e1:iV p=(V Ieee.double (rg p).toNat:Int):=by unfold iV sg; simp [h]
    have e2:key p=rg p:=by unfold key rg; rw [if_neg h,if_neg h]
    rw [e1,e2]
    constructor <;> constructor <;> intro g <;> omega
theorem iV_mono {p q:Int} (hp:rng p) (hq:rng q) (h:key p<key q):iV p<iV q:=by
  have rp:=q_rg hp
  have rq:=q_rg hq
  have ep:iV p=if p<0 then -(V Ieee.double (rg p).toNat:Int) else (V Ieee.double (rg p).toNat:Int):=by unfold iV sg; by_cases g:p<0 <;> simp [g]
  have eq':iV q=if q<0 then -(V Ieee.double (rg q).toNat:Int) else (V Ieee.double (rg q).toNat:Int):=by unfold iV sg; by_cases g:q<0 <;> simp [g]
  have kp:key p=if p<0 then -(rg p) else rg p:=by unfold key rg; by_cases g:p<0 <;> simp [g]
  have kq:key q=if q<0 then -(rg q) else rg q:=by unfold key rg; by_cases g:q<0 <;> simp [g]
  have zp:=@V_zero_iff (rg p).toNat
  have zq:=@V_zero_iff (rg q).toNat
  have m1:rg p<rg q->(V Ieee.double (rg p).toNat:Int)<V Ieee.double (rg q).toNat:=fun g=>by
    have:=V_lt Ieee.double (show (rg p).toNat<(rg q).toNat by omega)
    omega
  have m2:rg q<rg p->(V Ieee.double (rg q).toNat:Int)<V Ieee.double (rg p).toNat:=fun g=>by
    have:=V_lt Ieee.double (show (rg q).toNat<(rg p).toNat by omega)
    omega
  rw [kp,kq] at h
  rw [ep,eq']
  have hA0:(0:Int)<=(V Ieee.double (rg p).toNat:Int):=by omega
  have hB0:(0:Int)<=(V Ieee.double (rg q).toNat:Int):=by omega
  clear ep eq' kp kq
  generalize (V Ieee.double (rg p).toNat:Int)=A at *
  generalize (V Ieee.double (rg q).toNat:Int)=B at *
  by_cases a:p<0 <;> by_cases b:q<0 <;> simp only [a,b,if_true,if_false] at h ⊢ <;> omega
theorem nr_prev {n S:Int} (hn:nn n) (hi:¬ n=-4503599627370496) (hp:rng (prev n)) (h:Nr S (iV n)) (g:S<iV n):iV (prev n)<=S:=by
  obtain ⟨k1,_⟩:=key_prev hn.1 hn.2 hi
  have m:=iV_mono hp hn.1 (by omega)
  have:=h.2 (iV (prev n)) (fl_iV _)
  omega
theorem nr_next {n S:Int} (hn:nn n) (hi:¬ n=9218868437227405312) (hp:rng (next n)) (h:Nr S (iV n)) (g:iV n<S):S<=iV (next n):=by
  obtain ⟨k1,_,_,_⟩:=key_next hn.1 hn.2 hi
  have m:=iV_mono hn.1 hp (by omega)
  have:=h.2 (iV (next n)) (fl_iV _)
  omega
theorem rng_prev' {p:Int} (h:rng p):rng (prev p):=by unfold prev; exact rng_neg (rng_next (rng_neg h))
theorem su_btw {p q:Int} (hp:rng p) (hq:rng q) (pp:pok p=true) (pq:pok q=true) (hf:pok (suN p q)=true) (hn:nn (suN p q)) :
    iV (beLo (suN p q) (suL p q))<=iV p+iV q∧iV p+iV q<=iV (beHi (suN p q) (suL p q))∧((iV (suN p q)=iV p+iV q∧beLo (suN p q) (suL p q)=suN p q∧beHi (suN p q) (suL p q)=suN p q)∨(iV p+iV q<iV (suN p q)∧beLo (suN p q) (suL p q)=prev (suN p q)∧beHi (suN p q) (suL p q)=suN p q)∨(iV (suN p q)<iV p+iV q∧beLo (suN p q) (suL p q)=suN p q∧beHi (suN p q) (suL p q)=next (suN p q))):=by
  obtain ⟨pl,he⟩:=su_exact hp hq pp pq hf
  have hNr:Nr (iV p+iV q) (iV (suN p q)):=by
    by_cases h:rg p<rg q
    . have ex:hiM p q=q:=if_pos h
      have ey:loM p q=p:=if_pos h
      unfold suN at hf ⊢
      rw [ex,ey] at hf ⊢
      have:=(stp_sum hq hp pq pp).nr hf
      rwa [Int.add_comm] at this
    . have ex:hiM p q=p:=if_neg h
      have ey:loM p q=q:=if_neg h
      unfold suN at hf ⊢
      rw [ex,ey] at hf ⊢
      exact (stp_sum hp hq pp pq).nr hf
  have i1:¬ suN p q=-4503599627370496:=fun e=>by rw [e] at hf; revert hf; decide
  have i2:¬ suN p q=9218868437227405312:=fun e=>by rw [e] at hf; revert hf; decide
  have rl:rng (suL p q):=by
    unfold suL
    have a1:rng (hiM p q):=by unfold hiM; split <;> assumption
    have a2:rng (loM p q):=by unfold loM; split <;> assumption
    exact fsum_rng a2 (rng_neg (fsum_rng hn.1 (rng_neg a1)))
  obtain ⟨kl1,kl2⟩:=iV_key rl
  have c0:¬ cls 0=4:=by decide
  have k0:key 0=0:=by decide
  have cl:=q_fin pl
  have l1:less (suL p q) 0=decide (key (suL p q)<0):=by unfold less; simp [cl,c0,k0]
  have l2:less 0 (suL p q)=decide (0<key (suL p q)):=by unfold less; simp [cl,c0,k0]
  unfold beLo beHi
  rw [l1,l2]
  generalize suN p q=n at *
  generalize suL p q=l at *
  by_cases a:key l<0
  . have al:iV l<0:=kl1.2 a
    simp only [a,decide_true,if_true]
    exact ⟨nr_prev hn i1 (rng_prev' hn.1) hNr (by omega),by omega,.inr (.inl ⟨by omega,by trivial,by trivial⟩)⟩
  . by_cases b:0<key l
    . have bl:0<iV l:=kl2.2 b
      simp only [a,b,decide_true,decide_false,if_true,if_false,Bool.false_eq_true]
      exact ⟨by omega,nr_next hn i2 (rng_next hn.1) hNr (by omega),.inr (.inr ⟨by omega,by trivial,by trivial⟩)⟩
    . have z1:¬ iV l<0:=fun h=>a (kl1.1 h)
      have z2:¬ 0<iV l:=fun h=>b (kl2.1 h)
      simp only [a,b,decide_false,if_false,Bool.false_eq_true]
      exact ⟨by omega,by omega,.inl ⟨by omega,by trivial,by trivial⟩⟩
structure Pts (w:World) (ao:Option Addr) (n cap:Nat) (px py:Nat->Int):Prop where
  le:n<=cap
  max:cap<=9223372036854775807
  spot:0<n->∃ b off,ao=some ⟨b,off,none⟩∧b<w.heap.size∧∀ i,i<n->w.cell? ⟨b,off+i*2,none⟩=some (.int .i64 (px i))∧w.cell? ⟨b,off+i*2+1,none⟩=some (.int .i64 (py i))
def allB (f:Nat->Bool) (n:Nat):Bool:=decide (∀ i,i<n->f i=true)
theorem allB_succ (f:Nat->Bool) (n:Nat):allB f (n+1)=(allB f n && f n):=by
  unfold allB
  by_cases h:f n=true
  . rw [h,Bool.and_true]
    congr 1
    exact propext ⟨fun k i hi=>k i (by omega),fun k i hi=>by by_cases e:i=n; (· subst e; exact h); (· exact k i (by omega))⟩
  . have h':f n=false:=by simpa using h
    rw [h',Bool.and_false]
    exact decide_eq_false fun k=>h (k n (by omega))
theorem allB_zero (f:Nat->Bool):allB f 0=true:=decide_eq_true fun i hi=>absurd hi (Nat.not_lt_zero _)
def l2 (a b:Int) (i:Nat):Int:=if i=0 then a else b
def l3 (a b c:Int) (i:Nat):Int:=if i=0 then a else if i=1 then b else c
theorem pts3 (w:World) {g:Nat} {t:TypeId} {ax ay bx by' cx cy:Int} (h:w.heap[g]?=some (.cells #[.int .i64 ax,.int .i64 ay,.int .i64 bx,.int .i64 by',.int .i64 cx,.int .i64 cy] t (0,0))):Pts w (some ⟨g,0,none⟩) 3 3 (l3 ax bx cx) (l3 ay by' cy) :=
  ⟨by omega,by omega,fun _=>⟨g,0,rfl,(Array.getElem?_eq_some_iff.1 h).1,fun i hi=>by
    match i,hi with
    | 0,_=>exact ⟨blkC h 0 rfl,blkC h 1 rfl⟩
    | 1,_=>exact ⟨blkC h 2 rfl,blkC h 3 rfl⟩
    | 2,_=>exact ⟨blkC h 4 rfl,blkC h 5 rfl⟩⟩⟩
theorem allB3 (P:Int->Int->Bool) (ax ay bx by' cx cy:Int):allB (fun i=>P (l3 ax bx cx i) (l3 ay by' cy i)) 3=(P ax ay && P bx by' && P cx cy):=by
  rw [allB_succ,allB_succ,allB_succ,allB_zero,Bool.true_and]; rfl
theorem rng3 {a b c:Int} (ha:rng a) (hb:rng b) (hc:rng c) (i:Nat):rng (l3 a b c i):=by unfold l3; split; assumption; split <;> assumption
def ptok (x y:Int):Bool:=pok x && pok y
set_option maxRecDepth 100000 in
set_option maxHeartbeats 1000000 in
theorem mgood_any (ao:Option Addr) (n cap:Nat) (px py:Nat->Int) (w:World) (h:Pts w ao n cap px py) (hx:∀ i,rng (px i)) (hy:∀ i,rng (py i)) :
    Calls Tryz.prog 11 #[.slice ao n cap] w fun x w'=>x=.returned (.bool (allB (fun i=>ptok (px i) (py i)) n))∧Below w.heap.size w w':=by
  have hl:=h.le
  have hm:=h.max
  have e0:errF true=0:=rfl
  have e1:errF false=10:=rfl
  have CC:Hid (∀ i W,Calls Tryz.prog 18 #[.agg #[.int .i64 (px i),.int .i64 (py i)]] W fun e w'=>e=.returned (.int .i64 (errF (ptok (px i) (py i))))∧Below W.heap.size W w'):=fun i W=>pointCheck (hx i) (hy i) W
  clear hx hy
  go_enter Tryz.func11,Tryz.ntmps11
  go_wp2_with fail
  go_loopw [7] (fun i wr=>∃ k:Nat,k<=n∧i=.int .i64 k∧Hid (∀ j,j<k->ptok (px j) (py j)=true)∧Below w.heap.size w wr) (fun i _=>n-(intOf i).toNat)
  case atStart=>exact ⟨0,Nat.zero_le _,rfl,fun j hj=>by omega,bel_refl _⟩
  case round=>
    obtain ⟨k,hk,rfl,HO,hbw⟩:=hrel
    by_cases hlt:k<n
    . obtain ⟨b,off,rfl,hb,hc⟩:=h.spot (by omega)
      have c0:=(hbw.cell (p:=⟨b,off+k*2,none⟩) hb).trans (hc k hlt).1
      have c1:=(hbw.cell (p:=⟨b,off+k*2+1,none⟩) hb).trans (hc k hlt).2
      have CK:Hid (∀ W,Calls Tryz.prog 18 #[.agg #[.int .i64 (px k),.int .i64 (py k)]] W fun e w'=>e=.returned (.int .i64 (errF (ptok (px k) (py k))))∧Below W.heap.size W w'):=CC.out k
      have HK:Hid (∀ q:ptok (px k) (py k)=false,false=allB (fun i=>ptok (px i) (py i)) n):=fun q=>(decide_eq_false fun hx=>by have:=hx k hlt; simp only at this; rw [this] at q; cases q).symm
      have HY:Hid (ptok (px k) (py k)=true->∀ j,j<k+1->ptok (px j) (py j)=true):=fun q j hj=>by
        by_cases e:j=k
        . subst e; exact q
        . exact HO.out j (by omega)
      clear hc
      by_cases hok:ptok (px k) (py k)=true
      . rw [hok,e0] at CK
        replace HY:Hid (∀ j,j<k+1->ptok (px j) (py j)=true):=HY.out hok
        clear hok
        go_wp2_with (go_at_call 18; refine (CK.out _).mono ?_; rintro x w1 ⟨rfl,hb1⟩)
        go_roundw
        case rel=>exact ⟨k+1,by omega,by go_num,HY,hbw.trans ((bel_trans (bel_alloc _ _) hb1).mono hbw.size)⟩
        case measure=>simp [intOf]; omega
      . have hok':ptok (px k) (py k)=false:=by simpa using hok
        rw [hok',e1] at CK
        replace HK:Hid (false=allB (fun i=>ptok (px i) (py i)) n):=HK.out hok'
        clear hok hok' HY
        go_wp2_with (go_at_call 18; refine (CK.out _).mono ?_; rintro x w1 ⟨rfl,hb1⟩)
        go_ret
        exact ⟨ret_bool HK.out,hbw.trans ((bel_trans (bel_alloc _ _) hb1).mono hbw.size)⟩
    . obtain rfl:k=n:=by omega
      have HD:Hid (true=allB (fun i=>ptok (px i) (py i)) k):=(decide_eq_true HO.out).symm
      go_wp2
      go_ret
      exact ⟨ret_bool HD.out,hbw⟩
set_option maxRecDepth 100000 in
set_option maxHeartbeats 1000000 in
theorem lgood_any (ao:Option Addr) (n cap:Nat) (px py:Nat->Int) (w:World) (h:Pts w ao n cap px py) (hx:∀ i,rng (px i)) (hy:∀ i,rng (py i)) :
    Calls Tryz.prog 6 #[.slice ao n cap] w fun x w'=>x=.returned (.bool (allB (fun i=>ptok (px i) (py i)) n))∧Below w.heap.size w w':=by
  have hl:=h.le
  have hm:=h.max
  have CC:Hid (∀ i W,Calls Tryz.prog 14 #[.agg #[.int .i64 (px i),.int .i64 (py i)]] W fun e w'=>e=.returned (.bool (ptok (px i) (py i)))∧Below W.heap.size W w'):=fun i W=>q_refFinite (hx i) (hy i) W
  clear hx hy
  go_enter Tryz.func6,Tryz.ntmps6
  go_wp2_with fail
  go_loopw [3] (fun i wr=>∃ k:Nat,k<=n∧i=.int .i64 k∧Hid (∀ j,j<k->ptok (px j) (py j)=true)∧Below w.heap.size w wr) (fun i _=>n-(intOf i).toNat)
  case atStart=>exact ⟨0,Nat.zero_le _,rfl,fun j hj=>by omega,bel_refl _⟩
  case round=>
    obtain ⟨k,hk,rfl,HO,hbw⟩:=hrel
    by_cases hlt:k<n
    . obtain ⟨b,off,rfl,hb,hc⟩:=h.spot (by omega)
      have c0:=(hbw.cell (p:=⟨b,off+k*2,none⟩) hb).trans (hc k hlt).1
      have c1:=(hbw.cell (p:=⟨b,off+k*2+1,none⟩) hb).trans (hc k hlt).2
      have CK:Hid (∀ W,Calls Tryz.prog 14 #[.agg #[.int .i64 (px k),.int .i64 (py k)]] W fun e w'=>e=.returned (.bool (ptok (px k) (py k)))∧Below W.heap.size W w'):=CC.out k
      have HK:Hid (∀ q:ptok (px k) (py k)=false,false=allB (fun i=>ptok (px i) (py i)) n):=fun q=>(decide_eq_false fun hx=>by have:=hx k hlt; simp only at this; rw [this] at q; cases q).symm
      have HY:Hid (ptok (px k) (py k)=true->∀ j,j<k+1->ptok (px j) (py j)=true):=fun q j hj=>by
        by_cases e:j=k
        . subst e; exact q
        . exact HO.out j (by omega)
      clear hc
      by_cases hok:ptok (px k) (py k)=true
      . rw [hok] at CK
        replace HY:Hid (∀ j,j<k+1->ptok (px j) (py j)=true):=HY.out hok
        clear hok
        go_wp2_with (go_at_call 14; refine (CK.out _).mono ?_; rintro x w1 ⟨rfl,hb1⟩)
        go_roundw
        case rel=>exact ⟨k+1,by omega,by go_num,HY,hbw.trans (hb1.mono hbw.size)⟩
        case measure=>simp [intOf]; omega
      . have hok':ptok (px k) (py k)=false:=by simpa using hok
        rw [hok'] at CK
        replace HK:Hid (false=allB (fun i=>ptok (px i) (py i)) n):=HK.out hok'
        clear hok hok' HY
        go_wp2_with (go_at_call 14; refine (CK.out _).mono ?_; rintro x w1 ⟨rfl,hb1⟩)
        go_ret
        exact ⟨ret_bool HK.out,hbw.trans (hb1.mono hbw.size)⟩
    . obtain rfl:k=n:=by omega
      have HD:Hid (true=allB (fun i=>ptok (px i) (py i)) k):=(decide_eq_true HO.out).symm
      go_wp2
      go_ret
      exact ⟨ret_bool HD.out,hbw⟩
def pttame (x y:Int):Bool:=tame x && tame y
end Go.Proofs.YtmmnoneehiibiaaGreatDoor
namespace Go.Proofs.YtmmnoneehiibiaaGreatDoor
open Go Go.RowKit Go.Proofs.YtmmnoneehiibiaaGreatDoor.M Ieee
theorem log2_fin {b:Int} {m u:Nat} (hb:rng b) (hp:pok b=true) (h:Ieee.double.read (wd b)=.number (decide (b<0)) m (-1074+(u:Int))):m<9007199254740992∧u<=2046:=by
  obtain ⟨h0,h1⟩:=rg_lt hb hp
  have hw:((wd b % 9223372036854775808:Nat):Int)=rg b:=wd_rung hb
  unfold Format.read at h
  rw [dSign,dBin,dInf,dLeast] at h
  dsimp only at h
  split at h
  . rename_i h2
    simp only [Datum.number.injEq] at h
    obtain ⟨_,h3,h4⟩:=h
    exact ⟨by omega,by omega⟩
  . rw [if_pos (by omega)] at h
    have hm:=Nat.mod_lt (wd b % 9223372036854775808) (show 0<4503599627370496 by decide)
    have hd:wd b % 9223372036854775808/4503599627370496<=2047:=by omega
    simp only [Datum.number.injEq] at h
    obtain ⟨_,h3,h4⟩:=h
    exact ⟨by omega,by omega⟩
theorem nearest_nearP {S t base:Int} (hb:-4194304<=base) (hS:t*pw base=S) (h0:S≠0):Ieee.double.nearest (decide (t<0)) t.natAbs base=wd (nearP S):=by
  obtain ⟨A,r0,left,a1,a2,a3⟩:=write_near hb hS h0
  obtain ⟨B,s0,k,b1,b2,b3⟩:=nearP_rung h0
  have hAB:=sg_inj (a1.symm.trans b1)
  subst hAB
  obtain ⟨h2,h3⟩:=a2.unique b2
  subst h2 h3
  rw [a3,b3]
def fmaS (p q r:Int):Int:=sg (xsg p q) (fsize p q)+patV r
theorem ffma_fin {p q r:Int} (hp:rng p) (hq:rng q) (hr:rng r) (pp:pok p=true) (pq:pok q=true) (pr:pok r=true) :
    Ieee.double.fma (wd p) (wd q) (wd r)=some (wd (if fmaS p q r=0 then patS (xsg p q && decide (r<0)) 0 else nearP (fmaS p q r))):=by
  obtain ⟨m,u,h1,v1⟩:=read_wd hp pp
  obtain ⟨n,v,h2,v2⟩:=read_wd hq pq
  obtain ⟨l,x,h3,v3⟩:=read_wd hr pr
  obtain ⟨i,hi⟩:∃ i:Int,-1074+(u:Int)+(-1074+(v:Int))=i:=⟨_,rfl⟩
  obtain ⟨j,hj⟩:∃ j:Int,-1074+(x:Int)=j:=⟨_,rfl⟩
  have hpm:=pw_mul (a:=-1074+(u:Int)) (b:=-1074+(v:Int)) (by omega) (by omega)
  have hC:=fmul_core (g:=decide (p<0)) (h:=decide (q<0)) (x:=(m:Int)) (y:=(n:Int)) hpm
  rw [<- v1,<- v2,hi] at hC
  have hcast:((m*n:Nat):Int)=(m:Int)*(n:Int):=by push_cast; rfl
  have hf:fsize p q=((m*n:Nat):Int)*pw i:=by rw [hcast]; exact fsize_of (two_pos 4194304) hC
  obtain ⟨base,hbase⟩:∃ base,min i j=base:=⟨_,rfl⟩
  have hB:-4194304<=base:=by omega
  obtain ⟨t,ht⟩:∃ t,signed (xsg p q) (m*n) (i-base).toNat+signed (decide (r<0)) l (j-base).toNat=t:=⟨_,rfl⟩
  have hfma:Ieee.double.fma (wd p) (wd q) (wd r)=some (Ieee.double.nearest (if t=0 then xsg p q && decide (r<0) else decide (t<0)) t.natAbs base):=by
    unfold Format.fma
    rw [h1,h2,h3]
    unfold Datum.product
    dsimp only
    rw [hi,hj,xor_ne]
    show Option.map Ieee.double.write (Datum.sum (.number (xsg p q) (m*n) i) (.number (decide (r<0)) l j))=_
    unfold Datum.sum
    dsimp only
    rw [hbase,ht]
    rfl
  have s1:=signed_pw (xsg p q) (m*n) (i-base).toNat (i:=i) (base:=base) (by omega) hB
  have s2:=signed_pw (decide (r<0)) l (j-base).toNat (i:=j) (base:=base) (by omega) hB
  rw [hj] at v3
  rw [<- hf] at s1
  rw [<- v3] at s2
  have hS:t*pw base=fmaS p q r:=by
    unfold fmaS
    rw [<- ht,Int.add_mul,s1,s2]
  rw [hfma]
  by_cases h:fmaS p q r=0
  . have ht0:t=0:=(eq_zero_iff (pw_pos base)).2 (hS.trans h)
    rw [if_pos h,ht0,if_pos rfl]
    unfold Format.nearest
    rw [if_pos (show Int.natAbs 0=0 from rfl)]
    have:=wd_word (ng:=xsg p q && decide (r<0)) (r:=0) (by decide) (by decide)
    rw [<- this]
    rfl
  . have ht0:t≠0:=fun e=>h (by rw [<- hS,e,Int.zero_mul])
    rw [if_neg h,if_neg ht0,nearest_nearP hB hS h]
def RdP (way V p:Int):Prop:=∃ (A:Int) (r0:Nat) (left:Int),V=sg (decide (V<0)) A∧Rung A r0 left∧p=patS (decide (V<0)) (rTo way (decide (V<0)) r0 left)
theorem RdP.unique {way V p q:Int} (h:RdP way V p) (k:RdP way V q):p=q:=by
  obtain ⟨A,r0,l,h1,h2,h3⟩:=h
  obtain ⟨B,s0,m,k1,k2,k3⟩:=k
  have hAB:=sg_inj (h1.symm.trans k1)
  subst hAB
  obtain ⟨e1,e2⟩:=h2.unique k2
  subst e1 e2
  rw [h3,k3]
theorem r64_num {way:Int} {ng sd:Bool} {M e:Int} (hv:0<M) (he:-4194304<=e) :
    ∃ (r0:Nat) (left:Int),Rung (M*pw e) r0 left∧r64 way ng sd (M/2^vK M).toNat (e+vK M) (decide (M % 2^vK M≠0))=(patS (ng && (decide (0<rTo way ng r0 left) || sd)) (rTo way ng r0 left),decide (left≠0) || decide (9218868437227405312<=(r0:Int))):=by
  have hsm:=vK_small (Int.le_of_lt hv)
  have hb:=blen_pos hv
  have hp:=two_pos (vK M)
  have hge:2^(blen M-1-vK M)<=M/2^vK M:=by
    rw [Int.le_ediv_iff_mul_le hp,<- Int.pow_add]
    by_cases hk:vK M<=blen M-1
    . rw [show blen M-1-vK M+vK M=blen M-1 by omega]
      exact hb.2
    . exfalso; unfold vK at hk; omega
  have hpos:=two_pos (blen M-1-vK M)
  have e64:(2:Nat)^64=18446744073709551616:=by decide
  have e60:(2:Nat)^60=1152921504606846976:=by decide
  refine r64_spec (held_cut (Int.le_of_lt hv) (by omega) _) (by omega) (by omega) (by omega) (fun hc=>?_)
  have hk0:0<vK M:=by
    rcases Nat.eq_zero_or_pos (vK M) with h | h
    . rw [h,Int.pow_zero,Int.emod_one] at hc; simp at hc
    . exact h
  have h61:blen M-1-vK M=61:=by unfold vK at hk0 ⊢; omega
  rw [h61] at hge
  have e61:(2:Int)^61=2305843009213693952:=by decide
  rw [e61] at hge
  omega
theorem sg_lt {ng:Bool} {A:Int} (h:0<A):decide (sg ng A<0)=ng:=by
  cases ng
  . exact decide_eq_false (by show ¬ A<0; omega)
  . exact decide_eq_true (by show -A<0; omega)
theorem rd_of {way V:Int} {ng:Bool} {M e:Int} (hV:V=sg ng (M*pw e)) (hv:0<M) (he:-4194304<=e) :
    RdP way V (r64 way ng true (M/2^vK M).toNat (e+vK M) (decide (M % 2^vK M≠0))).1:=by
  obtain ⟨r0,left,h1,h2⟩:=r64_num (way:=way) (ng:=ng) (sd:=true) hv he
  have hA:0<M*pw e:=Int.mul_pos hv (pw_pos e)
  have hn:decide (V<0)=ng:=by rw [hV]; exact sg_lt hA
  refine ⟨M*pw e,r0,left,by rw [hn]; exact hV,h1,?_⟩
  rw [h2,hn]
  simp
def rdP (way V:Int):Int:=(r64 way (decide (V<0)) true ((V.natAbs:Int)/2^vK (V.natAbs:Int)).toNat (-4194304+vK (V.natAbs:Int)) (decide ((V.natAbs:Int) % 2^vK (V.natAbs:Int)≠0))).1
theorem rdP_is (way:Int) {V:Int} (h:V≠0):RdP way V (rdP way V):=by
  refine rd_of ?_ (by omega) (Int.le_refl _)
  rw [pw_least,Int.mul_one]
  by_cases hn:V<0
  . rw [decide_eq_true hn]; show V=-(V.natAbs:Int); omega
  . rw [decide_eq_false hn]; show V=(V.natAbs:Int); omega
theorem rdP_eq {way V p:Int} (h0:V≠0) (h:RdP way V p):rdP way V=p:=(rdP_is way h0).unique h
theorem rdP_near {V:Int} (h:V≠0):rdP 0 V=nearP V:=by
  obtain ⟨A,r0,left,h1,h2,h3⟩:=nearP_rung h
  exact rdP_eq h ⟨A,r0,left,h1,h2,h3⟩
theorem r64_dy {way V:Int} {ng:Bool} {m e:Int} (hy:Dy V ng m e) (h0:V≠0) (he:-4194304<=e) :
    (r64 way ng true (m/2^vK m).toNat (e+vK m) (decide (m % 2^vK m≠0))).1=rdP way V:=by
  have hm:0<m:=by
    rcases hy.form with ⟨f1,_⟩ | ⟨f1,_⟩
    . exact absurd (hy.eq_zero.2 f1) h0
    . exact f1
  refine (rdP_eq h0 (rd_of ?_ hm he)).symm
  rw [hy.val]
  cases ng
  . rfl
  . show -m*pw e=-(m*pw e); rw [Int.neg_mul]
theorem rdP_pat (way:Int) {V:Int} (h:V≠0):rng (rdP way V)∧cls (rdP way V)≠4:=by
  obtain ⟨A,r0,left,_,_,h3⟩:=rdP_is way h
  rw [h3]
  have:=rTo_range way (decide (V<0)) r0 left
  exact patS_rng this.1 this.2
theorem prod_infD {p q:Int} (rp:rng p) (rq:rng q) (p0:0<=rg p) (p1:rg p<=9218868437227405312) (q0:0<=rg q) (q1:rg q<=9218868437227405312) (h:rg p=9218868437227405312∨rg q=9218868437227405312) :
    Datum.product (Ieee.double.read (wd p)) (Ieee.double.read (wd q))=if rg p=0∨rg q=0 then none else some (.infinity (xsg p q)):=by
  have hX:(decide (p<0) ^^ decide (q<0))=xsg p q:=xor_ne _ _
  have hX2:(decide (q<0) ^^ decide (p<0))=xsg p q:=by rw [<- hX]; cases decide (p<0) <;> cases decide (q<0) <;> rfl
  by_cases ip:rg p=9218868437227405312
  . have ep:=read_inf64 rp ip
    by_cases iq:rg q=9218868437227405312
    . rw [if_neg (by omega),ep,read_inf64 rq iq,<- hX]
      rfl
    . have pq:=(pok_rg rq).2 (by omega)
      obtain ⟨m,u,eq,vq⟩:=read_wd rq pq
      have hz:=mag_zero rq pq vq
      rw [ep,eq]
      unfold Datum.product
      dsimp only
      by_cases hm:m=0
      . rw [if_pos hm,if_pos (.inr (hz.1 hm))]
      . rw [if_neg hm,if_neg (fun h=>by rcases h with h | h; omega; exact hm (hz.2 h)),hX]
  . have iq:rg q=9218868437227405312:=by omega
    have pp:=(pok_rg rp).2 (by omega)
    obtain ⟨m,u,ep,vp⟩:=read_wd rp pp
    have hz:=mag_zero rp pp vp
    have eq:=read_inf64 rq iq
    rw [ep,eq]
    unfold Datum.product
    dsimp only
    by_cases hm:m=0
    . rw [if_pos hm,if_pos (.inl (hz.1 hm))]
    . rw [if_neg hm,if_neg (fun h=>by rcases h with h | h; exact hm (hz.2 h); omega),hX2]
def ffma (p q r:Int):Int :=
  if cls p=4∨cls q=4∨cls r=4 then 9221120237041090561
  else if rg p=9218868437227405312∨rg q=9218868437227405312 then
    if rg p=0∨rg q=0 then 9221120237041090561
    else if rg r=9218868437227405312∧¬ xsg p q=decide (r<0) then 9221120237041090561 else patS (xsg p q) 9218868437227405312
  else if rg r=9218868437227405312 then r
  else if fmaS p q r=0 then patS (xsg p q && decide (r<0)) 0 else nearP (fmaS p q r)
theorem fma_FW {p q r:Int} {x y z:Nat} (hx:FW p x) (hy:FW q y) (hz:FW r z):(∃ t,Ieee.double.fma x y z=some t∧FW (ffma p q r) t)∨(Ieee.double.fma x y z=none∧ffma p q r=9221120237041090561):=by
  by_cases h4:cls p=4∨cls q=4∨cls r=4
  . right
    refine ⟨?_,by unfold ffma; rw [if_pos h4]⟩
    unfold Format.fma
    rcases h4 with h | h | h
    . obtain ⟨s,t,e⟩:=hx.read_nan h
      rw [e]
      rfl
    . obtain ⟨s,t,e⟩:=hy.read_nan h
      rw [e]
      cases Ieee.double.read x <;> rfl
    . obtain ⟨s,t,e⟩:=hz.read_nan h
      rw [e]
      cases Datum.product (Ieee.double.read x) (Ieee.double.read y) with
      | none=>rfl
      | some d=>cases d <;> rfl
  . have h4p:cls p≠4:=fun h=>h4 (.inl h)
    have h4q:cls q≠4:=fun h=>h4 (.inr (.inl h))
    have h4r:cls r≠4:=fun h=>h4 (.inr (.inr h))
    obtain ⟨rp,rfl,p0,p1⟩:=hx.of h4p
    obtain ⟨rq,rfl,q0,q1⟩:=hy.of h4q
    obtain ⟨rr,rfl,r0,r1⟩:=hz.of h4r
    have hI:=patS_rng (ng:=xsg p q) (r:=9218868437227405312) (by decide) (by decide)
    unfold ffma
    rw [if_neg h4]
    by_cases hi:rg p=9218868437227405312∨rg q=9218868437227405312
    . rw [if_pos hi]
      have hP:=prod_infD rp rq p0 p1 q0 q1 hi
      by_cases h0:rg p=0∨rg q=0
      . right
        rw [if_pos h0] at hP ⊢
        refine ⟨?_,rfl⟩
        unfold Format.fma
        rw [hP]
        rfl
      . rw [if_neg h0] at hP ⊢
        by_cases ir:rg r=9218868437227405312
        . have er:=read_inf64 rr ir
          by_cases hs:xsg p q=decide (r<0)
          . left
            rw [if_neg (fun h=>h.2 hs)]
            refine ⟨_,?_,FW.pat hI.2 hI.1⟩
            unfold Format.fma
            rw [hP,er]
            show Option.map Ieee.double.write (Datum.sum (.infinity (xsg p q)) (.infinity (decide (r<0))))=_
            unfold Datum.sum
            dsimp only
            rw [if_pos hs]
            show some (Ieee.double.write (.infinity (xsg p q)))=_
            rw [write_infS]
          . right
            rw [if_pos ⟨ir,hs⟩]
            refine ⟨?_,rfl⟩
            unfold Format.fma
            rw [hP,er]
            show Option.map Ieee.double.write (Datum.sum (.infinity (xsg p q)) (.infinity (decide (r<0))))=_
            unfold Datum.sum
            dsimp only
            rw [if_neg hs]
            rfl
        . left
          obtain ⟨l,v,er,_⟩:=read_wd rr ((pok_rg rr).2 (by omega))
          rw [if_neg (fun h=>ir h.1)]
          refine ⟨_,?_,FW.pat hI.2 hI.1⟩
          unfold Format.fma
          rw [hP,er]
          show some (Ieee.double.write (.infinity (xsg p q)))=_
          rw [write_infS]
    . rw [if_neg hi]
      have pp:=(pok_rg rp).2 (by omega)
      have pq:=(pok_rg rq).2 (by omega)
      by_cases ir:rg r=9218868437227405312
      . left
        rw [if_pos ir]
        obtain ⟨m,u,ep,_⟩:=read_wd rp pp
        obtain ⟨n,v,eq,_⟩:=read_wd rq pq
        refine ⟨wd r,?_,FW.pat h4r rr⟩
        unfold Format.fma
        rw [ep,eq,read_inf64 rr ir]
        show some (Ieee.double.write (.infinity (decide (r<0))))=_
        rw [write_inf64 rr ir]
      . left
        rw [if_neg ir]
        refine ⟨_,ffma_fin rp rq rr pp pq ((pok_rg rr).2 (by omega)),?_⟩
        by_cases hS:fmaS p q r=0
        . rw [if_pos hS]
          obtain ⟨g1,g2⟩:=patS_rng (ng:=xsg p q && decide (r<0)) (r:=0) (by decide) (by decide)
          exact FW.pat g2 g1
        . rw [if_neg hS]
          exact FW.pat (nearP_pat hS).2 (nearP_pat hS).1
end Go.Proofs.YtmmnoneehiibiaaGreatDoor
namespace Go.Proofs.YtmmnoneehiibiaaGreatDoor
open Go Go.RowKit Go.Proofs.YtmmnoneehiibiaaGreatDoor.M
theorem sgTT (x:Int):sg true x=-x:=rfl
theorem sgFF (x:Int):sg false x=x:=rfl
theorem rTo_low {ng:Bool} {r0:Nat} {left:Int} (way:Int) (h:(r0:Int)<9218868437227405312):rTo way ng r0 left=(r0:Int)+(if rUp way ng (decide (r0 % 2=1)) left then 1 else 0):=by
  unfold rTo; rw [if_pos h]
theorem dir_cases {V:Int} (h0:V≠0):∃ (g:Bool) (A:Int) (r0:Nat) (left:Int),V=sg g A∧0<A∧Rung A r0 left∧nearP V=patS g (rTo 0 g r0 left)∧rdP 1 V=patS g (rTo 1 g r0 left)∧rdP 2 V=patS g (rTo 2 g r0 left):=by
  obtain ⟨A,r0,left,e1,hR,e2⟩:=nearP_rung h0
  have hA:0<A:=by
    by_cases hn:V<0
    . rw [decide_eq_true hn] at e1
      have:V=-A:=e1
      omega
    . rw [decide_eq_false hn] at e1
      have:V=A:=e1
      omega
  exact ⟨decide (V<0),A,r0,left,e1,hA,hR,e2,rdP_eq h0 ⟨A,r0,left,e1,hR,rfl⟩,rdP_eq h0 ⟨A,r0,left,e1,hR,rfl⟩⟩
theorem patS_nn {g:Bool} {r:Int} (h0:0<=r) (h1:r<=9218868437227405312):nn (patS g r):=by
  obtain ⟨a,b⟩:=patS_rng (ng:=g) h0 h1
  exact ⟨a,b⟩
theorem nextS_pos {r:Int} (h0:0<=r) (h1:r<9218868437227405312):next (patS false r)=patS false (r+1):=by
  have hn:=patS_nn (g:=false) h0 (by omega)
  unfold next
  rw [if_neg hn.2]
  show (if r=9218868437227405312 then r else if r=-9223372036854775808 then 1 else if r<0 then r-1 else r+1)=r+1
  rw [if_neg (by omega),if_neg (by omega),if_neg (by omega)]
theorem nextS_neg {r:Int} (h0:0<=r) (h1:r<9218868437227405312):next (patS true (r+1))=patS true r:=by
  have hn:=patS_nn (g:=true) (show 0<=r+1 by omega) (by omega)
  unfold next
  rw [if_neg hn.2]
  show (if r+1-9223372036854775808=9218868437227405312 then r+1-9223372036854775808 else if r+1-9223372036854775808=-9223372036854775808 then 1 else if r+1-9223372036854775808<0 then r+1-9223372036854775808-1 else r+1-9223372036854775808+1)=r-9223372036854775808
  rw [if_neg (by omega),if_neg (by omega),if_pos (by omega)]
  omega
theorem prevS_pos {r:Int} (h0:0<=r) (h1:r<9218868437227405312):prev (patS false (r+1))=patS false r:=by
  have hn:=patS_nn (g:=false) (show 0<=r+1 by omega) (by omega)
  rw [prev_down hn (show ¬ r+1=-4503599627370496 by omega)]
  show (if r+1=0∨r+1=-9223372036854775808 then (-9223372036854775807:Int) else if r+1<0 then r+1+1 else r+1-1)=r
  rw [if_neg (by omega),if_neg (by omega)]
  omega
theorem prevS_neg {r:Int} (h0:0<=r) (h1:r<9218868437227405312):prev (patS true r)=patS true (r+1):=by
  have hn:=patS_nn (g:=true) h0 (by omega)
  rw [prev_down hn (show ¬ r-9223372036854775808=-4503599627370496 by omega)]
  show (if r-9223372036854775808=0∨r-9223372036854775808=-9223372036854775808 then (-9223372036854775807:Int) else if r-9223372036854775808<0 then r-9223372036854775808+1 else r-9223372036854775808-1)=r+1-9223372036854775808
  by_cases hr:r=0
  . rw [if_pos (by omega)]; omega
  . rw [if_neg (by omega),if_pos (by omega)]; omega
theorem rUp_dn (odd:Bool) (left:Int):rUp 1 false odd left=false∧(left≠0->rUp 1 true odd left=true)∧rUp 2 true odd left=false∧(left≠0->rUp 2 false odd left=true)∧(∀ way g,left=0->rUp way g odd left=false):=by
  refine ⟨?_,fun h=>?_,?_,fun h=>?_,fun way g h=>?_⟩
  . unfold rUp; simp
  . unfold rUp; simp [h]
  . unfold rUp; simp
  . unfold rUp; simp [h]
  . cases hu:rUp way g odd left
    . rfl
    . rw [h] at hu; exact absurd hu (fun q=>rUp_left q)
theorem dir_fin {V:Int} (h0:V≠0) (hf:pok (nearP V)=true) :
    (V<patV (nearP V)->prev (nearP V)=rdP 1 V∧nearP V=rdP 2 V)∧(patV (nearP V)<V->nearP V=rdP 1 V∧next (nearP V)=rdP 2 V)∧(V=patV (nearP V)->nearP V=rdP 1 V∧nearP V=rdP 2 V):=by
  obtain ⟨g,A,r0,left,e,hA,hR,en,e1,e2⟩:=dir_cases h0
  have hrr:=rTo_range 0 g r0 left
  rw [en,patS_fin hrr.1 hrr.2] at hf
  have hf:=of_decide_eq_true hf
  have hr0:(r0:Int)<9218868437227405312:=by
    rcases Int.lt_or_le (r0:Int) 9218868437227405312 with q | q
    . exact q
    . exfalso
      unfold rTo at hf
      rw [if_neg (by omega)] at hf
      unfold bRung at hf
      rw [show rUp 0 g true 3=true by cases g <;> decide,if_pos rfl] at hf
      omega
  obtain ⟨lo,hi,l0,l1,l2,l3⟩:=hR
  obtain ⟨u1,u2,u3,u4,u5⟩:=rUp_dn (decide (r0 % 2=1)) left
  rw [en,e1,e2,rTo_low 1 hr0,rTo_low 2 hr0]
  rw [rTo_low 0 hr0] at hf ⊢
  have pv:∀ r:Nat,(r:Int)<9218868437227405312->patV (patS g (r:Int))=sg g (vS r):=fun r hr=>by
    cases g
    . exact patV_patS hr (fun q=>by cases q)
    . exact patV_neg hr
  have pv0:=pv r0 hr0
  have pv1:=pv (r0+1)
  clear pv l1 l2 l3
  generalize vS r0=a at *
  generalize vS (r0+1)=b at *
  by_cases hl:left=0
  . have ha:=l0.1 hl
    rw [u5 0 g hl,u5 1 g hl,u5 2 g hl]
    simp only [Bool.false_eq_true,if_false,Int.add_zero] at hf ⊢
    rw [pv0,e,ha]
    clear pv0 pv1 en e1 e2 e h0
    exact ⟨fun q=>absurd q (by omega),fun q=>absurd q (by omega),fun _=>⟨trivial,trivial⟩⟩
  . have hlt:a<A:=by
      have:A≠a:=fun q=>hl (l0.2 q)
      omega
    cases hu:rUp 0 g (decide (r0 % 2=1)) left
    . rw [hu] at hf
      simp only [Bool.false_eq_true,if_false,Int.add_zero] at hf ⊢
      rw [pv0,e]
      clear pv0 pv1 en e1 e2 e h0
      cases g
      . rw [u1,u4 hl]
        simp only [Bool.false_eq_true,if_false,if_true,Int.add_zero]
        refine ⟨fun q=>?_,fun _=>⟨trivial,nextS_pos (by omega) hr0⟩,fun q=>?_⟩
        . rw [sgFF,sgFF] at q
          omega
        . rw [sgFF,sgFF] at q
          omega
      . rw [u2 hl,u3]
        simp only [Bool.false_eq_true,if_false,if_true,Int.add_zero]
        refine ⟨fun _=>⟨prevS_neg (by omega) hr0,trivial⟩,fun q=>?_,fun q=>?_⟩
        . rw [sgTT,sgTT] at q
          omega
        . rw [sgTT,sgTT] at q
          omega
    . rw [hu] at hf
      simp only [if_true] at hf ⊢
      rw [show (r0:Int)+1=((r0+1:Nat):Int) by push_cast; rfl] at hf ⊢
      rw [pv1 hf,e]
      clear pv0 pv1 en e1 e2 e h0
      rw [show ((r0+1:Nat):Int)=(r0:Int)+1 by push_cast; rfl]
      cases g
      . rw [u1,u4 hl]
        simp only [Bool.false_eq_true,if_false,if_true,Int.add_zero]
        refine ⟨fun _=>⟨prevS_pos (by omega) hr0,trivial⟩,fun q=>?_,fun q=>?_⟩
        . rw [sgFF,sgFF] at q
          omega
        . rw [sgFF,sgFF] at q
          omega
      . rw [u2 hl,u3]
        simp only [Bool.false_eq_true,if_false,if_true,Int.add_zero]
        refine ⟨fun q=>?_,fun _=>⟨trivial,nextS_neg (by omega) hr0⟩,fun q=>?_⟩
        . rw [sgTT,sgTT] at q
          omega
        . rw [sgTT,sgTT] at q
          omega
theorem dir_inf {V:Int} (h0:V≠0) (hf:pok (nearP V)=false) :
    (0<V->nearP V=9218868437227405312∧rdP 1 V=9218868437227405311∧rdP 2 V=9218868437227405312)∧(V<0->nearP V=-4503599627370496∧rdP 1 V=-4503599627370496∧rdP 2 V=-4503599627370497):=by
  obtain ⟨g,A,r0,left,e,hA,hR,en,e1,e2⟩:=dir_cases h0
  have hrr:=rTo_range 0 g r0 left
  rw [en,patS_fin hrr.1 hrr.2] at hf
  have hf:=of_decide_eq_false hf
  obtain ⟨u1,u2,u3,u4,u5⟩:=rUp_dn (decide (r0 % 2=1)) left
  have hr:rTo 0 g r0 left=9218868437227405312:=by omega
  have key:(∀ g',g=g'->rTo 1 g r0 left=if g' then 9218868437227405312 else 9218868437227405311)∧(∀ g',g=g'->rTo 2 g r0 left=if g' then 9218868437227405311 else 9218868437227405312):=by
    by_cases hr0:(r0:Int)<9218868437227405312
    . rw [rTo_low 0 hr0] at hr
      have hl:left≠0:=fun q=>by
        rw [u5 0 g q] at hr
        simp at hr
        omega
      have hrv:(r0:Int)=9218868437227405311:=by
        split at hr <;> omega
      rw [rTo_low 1 hr0,rTo_low 2 hr0]
      cases g
      . rw [u1,u4 hl]
        constructor
        . intro g' hg; subst hg; simp; omega
        . intro g' hg; subst hg; simp; omega
      . rw [u2 hl,u3]
        constructor
        . intro g' hg; subst hg; simp; omega
        . intro g' hg; subst hg; simp; omega
    . unfold rTo bRung
      rw [if_neg hr0,if_neg hr0]
      cases g
      . constructor
        . intro g' hg; subst hg; decide
        . intro g' hg; subst hg; decide
      . constructor
        . intro g' hg; subst hg; decide
        . intro g' hg; subst hg; decide
  cases g
  . refine ⟨fun _=>⟨?_,?_,?_⟩,fun q=>?_⟩
    . rw [en,hr]; rfl
    . rw [e1,key.1 false rfl]; rfl
    . rw [e2,key.2 false rfl]; rfl
    . have:V=A:=e
      omega
  . refine ⟨fun q=>?_,fun _=>⟨?_,?_,?_⟩⟩
    . have:V=-A:=e
      omega
    . rw [en,hr]; rfl
    . rw [e1,key.1 true rfl]; rfl
    . rw [e2,key.2 true rfl]; rfl
def prV (a b:Int):Int:=sg (xsg a b) (fsize a b)
theorem prV_eq {a b:Int}:prV a b=patV a*patV b/2^4194304:=by
  unfold prV fsize
  cases xsg a b
  . rfl
  . show - -_=_; rw [Int.neg_neg]
theorem prV_parts {a b:Int} (ra:rng a) (rb:rng b) (pa:pok a=true) (pb:pok b=true) :
    ∃ N t:Nat,fsize a b=(N:Int)*pw (-2148+(t:Int))∧N<2^106∧prV a b*2^4194304=patV a*patV b:=by
  obtain ⟨m,u,h1,v1⟩:=read_wd ra pa
  obtain ⟨n,v,h2,v2⟩:=read_wd rb pb
  have b1:=log2_fin ra pa h1
  have b2:=log2_fin rb pb h2
  have hpm:=pw_mul (a:=-1074+(u:Int)) (b:=-1074+(v:Int)) (by omega) (by omega)
  have hC:=fmul_core (g:=decide (a<0)) (h:=decide (b<0)) (x:=(m:Int)) (y:=(n:Int)) hpm
  rw [<- v1,<- v2] at hC
  have hcast:((m*n:Nat):Int)=(m:Int)*(n:Int):=by push_cast; rfl
  have hf:fsize a b=((m*n:Nat):Int)*pw (-1074+(u:Int)+(-1074+(v:Int))):=by rw [hcast]; exact fsize_of (two_pos 4194304) hC
  refine ⟨m*n,u+v,?_,?_,?_⟩
  . rw [hf,show -1074+(u:Int)+(-1074+(v:Int))=-2148+((u+v:Nat):Int) by push_cast; omega]
  . have e:(2:Nat)^106=9007199254740992*9007199254740992:=by decide
    rw [e]
    exact Nat.lt_of_le_of_lt (Nat.mul_le_mul_left m (Nat.le_of_lt b2.1)) (Nat.mul_lt_mul_of_pos_right b1.1 (by decide))
  . rw [<- hC]
    unfold prV
    rw [hf,hcast]
    rfl
theorem fus_core {N U s t q Z E:Nat} (hE:E=1074) (hZ:Z=2^E) (hq:0<q) (hN:N<2^106) (hU:4503599627370496<=U) (lo:U*2^s*(q*Z)<=N*(q*2^t)):s+1021<=t:=by
  have e52:(2:Nat)^52=4503599627370496:=by decide
  have hB:=Nat.two_pow_pos s
  have hC:=Nat.two_pow_pos t
  have hZ0:0<Z:=by rw [hZ]; exact Nat.two_pow_pos _
  have l1:4503599627370496*(2^s*Z*q)<=U*2^s*(q*Z):=by
    rw [show U*2^s*(q*Z)=U*(2^s*Z*q) by generalize (2:Nat)^s=B; grind]
    exact Nat.mul_le_mul_right _ hU
  have l2:N*(q*2^t)<2^106*2^t*q:=by
    rw [show 2^106*2^t*q=2^106*(q*2^t) by generalize (2:Nat)^106=A; generalize (2:Nat)^t=B; grind]
    exact Nat.mul_lt_mul_of_pos_right hN (Nat.mul_pos hq hC)
  have l3:(4503599627370496*2^s*Z)*q<(2^106*2^t)*q:=by
    have:4503599627370496*2^s*Z*q=4503599627370496*(2^s*Z*q):=by generalize (2:Nat)^s=B; grind
    rw [this]
    exact Nat.lt_of_le_of_lt (Nat.le_trans l1 lo) l2
  have l4:=Nat.lt_of_mul_lt_mul_right l3
  rw [<- e52,hZ,<- Nat.pow_add,<- Nat.pow_add,<- Nat.pow_add] at l4
  have h3:=(Nat.pow_lt_pow_iff_right (by decide:1<2)).1 l4
  omega
theorem fus_fl {N U s k:Nat} {S:Int} (hk:s<=k+53) (h:S=(N:Int)*2^k-(U:Int)*2^s∨S=(N:Int)*2^k-((U:Int)+1)*2^s) (hS:(S.natAbs:Int)<2^s):Fl S:=by
  rcases Nat.lt_or_ge k s with g | g
  . refine fl_of (k:=k) ?_ ?_
    . obtain ⟨d,hd⟩:=p2dvd (Nat.le_of_lt g)
      rcases h with h | h
      . exact ⟨N-U*d,by rw [h,hd]; grind⟩
      . exact ⟨N-(U+1)*d,by rw [h,hd]; grind⟩
    . have h1:=p2le hk
      rw [Int.pow_add,show (2:Int)^53=9007199254740992 by decide,Int.mul_comm] at h1
      omega
  . obtain ⟨d,hd⟩:=p2dvd g
    have hdv:(2^s:Int) ∣ S:=by
      rcases h with h | h
      . exact ⟨N*d-U,by rw [h,hd]; grind⟩
      . exact ⟨N*d-(U+1),by rw [h,hd]; grind⟩
    have h0:S=0:=by
      obtain ⟨c,hc⟩:=hdv
      have hp:=p2 s
      rcases Int.lt_trichotomy c 0 with hn | hn | hn
      . have:2^s*c<=2^s*(-1):=Int.mul_le_mul_of_nonneg_left (by omega) (Int.le_of_lt hp)
        omega
      . rw [hc,hn,Int.mul_zero]
      . have:2^s*1<=2^s*c:=Int.mul_le_mul_of_nonneg_left (by omega) (Int.le_of_lt hp)
        omega
    rw [h0]; exact fl_zero
theorem nsn (a b:Int):-a - -b=-(a-b):=by omega
theorem fus_all {N U s t E:Nat} {z q pt W:Int} (hE:E=1074) (hz:0<z) (et:pt=z*2^t) (eq:q=z*2^E) (hN:N<2^106) (hU0:4503599627370496<=U) (hs0:60<=s) (Rlo:(U:Int)*2^s*q<=(N:Int)*pt) (Rhi:(N:Int)*pt<((U:Int)+1)*2^s*q)
    (hW:W=(U:Int)*2^s∨(W=((U:Int)+1)*2^s∧(N:Int)*pt≠(U:Int)*2^s*q)) (hmax:(U:Int)*2^s<=maxV):∃ S:Int,(N:Int)*pt-W*q=S*q∧Fl S∧(S.natAbs:Int)<=maxV:=by
  have hts:s+1021<=t:=by
    obtain ⟨Z,hZ⟩:∃ Z:Nat,Z=2^E:=⟨_,rfl⟩
    have hZi:(2:Int)^E=(Z:Int):=by rw [hZ]; push_cast; rfl
    obtain ⟨n,rfl⟩:∃ n:Nat,z=n:=⟨z.toNat,by omega⟩
    rw [et,eq,hZi] at Rlo
    refine fus_core (N:=N) (U:=U) (q:=n) hE hZ (by omega) hN hU0 ?_
    exact_mod_cast Rlo
  obtain ⟨k,rfl⟩:∃ k,t=E+k:=⟨t-E,by omega⟩
  have eA:pt=2^k*q:=by
    rw [et,eq,Nat.add_comm,Int.pow_add]
    generalize (2:Int)^E=X
    generalize (2:Int)^k=Y
    grind
  have hq:0<q:=by rw [eq]; exact Int.mul_pos hz (p2 E)
  clear et eq
  rw [eA,<- Int.mul_assoc] at Rlo Rhi hW
  rw [eA,<- Int.mul_assoc]
  have Rlo:=Int.le_of_mul_le_mul_right Rlo hq
  have Rhi:=Int.lt_of_mul_lt_mul_right Rhi (Int.le_of_lt hq)
  have hp:=p2 s
  have hU2:2^s<=(U:Int)*2^s:=by
    have:=Int.mul_le_mul_of_nonneg_right (show (1:Int)<=U by omega) (Int.le_of_lt hp)
    rwa [Int.one_mul] at this
  have hW2:W=(U:Int)*2^s∨(W=((U:Int)+1)*2^s∧(N:Int)*2^k≠(U:Int)*2^s):=by
    rcases hW with h | ⟨h,g⟩
    . exact .inl h
    . exact .inr ⟨h,fun e=>g (by rw [e])⟩
  clear hW
  have hS:(((N:Int)*2^k-W).natAbs:Int)<2^s:=by
    rw [Int.add_mul,Int.one_mul] at Rhi hW2
    clear hmax
    generalize (N:Int)*2^k=x at *
    generalize (2:Int)^s=y at *
    generalize (U:Int)*y=z' at *
    rcases hW2 with hW | ⟨hW,g⟩ <;> omega
  have hF:Fl ((N:Int)*2^k-W):=fus_fl (N:=N) (k:=k) (U:=U) (s:=s) (by omega) (by rcases hW2 with hW | ⟨hW,_⟩; exact .inl (by rw [hW]); exact .inr (by rw [hW])) hS
  refine ⟨(N:Int)*2^k-W,by rw [Int.sub_mul],hF,?_⟩
  exact Int.le_trans (Int.le_of_lt hS) (Int.le_trans hU2 hmax)
theorem eq1074:pw (-1074)=pw (-2148)*2^1074:=by
  obtain ⟨E,hE⟩:∃ E:Nat,E=1074:=⟨_,rfl⟩
  have:=pw_add (e:=-2148) (by decide) E
  rw [show (-2148:Int)+(E:Int)=-1074 by rw [hE]; decide] at this
  rw [<- hE]
  exact this
theorem fused_any {a b way:Int} (ra:rng a) (rb:rng b) (pa:pok a=true) (pb:pok b=true) (h:prV a b≠0) (lo:283726776524341248<=rg (rdP way (prV a b))) (hi:rg (rdP way (prV a b))<=9209861237972664320∨(way=0∧rg (rdP way (prV a b))<9218868437227405312)) :
    ∃ S:Int,prV a b-patV (rdP way (prV a b))=S*pw (-1074)∧Fl S∧(S.natAbs:Int)<=maxV:=by
  obtain ⟨N,t,hf,hN,hX⟩:=prV_parts ra rb pa pb
  clear hX
  obtain ⟨A,r0,left,e1,hR,e2⟩:=rdP_is way h
  generalize rdP way (prV a b)=p at *
  have hA:A=(N:Int)*pw (-2148+(t:Int))∧decide (prV a b<0)=xsg a b:=by
    have hp:0<fsize a b:=by
      have h0:0<=fsize a b:=by rw [hf]; exact Int.mul_nonneg (by omega) (Int.le_of_lt (pw_pos _))
      have h1:fsize a b≠0:=fun e=>h (by unfold prV; rw [e]; cases xsg a b <;> rfl)
      omega
    have hs:decide (prV a b<0)=xsg a b:=sg_lt hp
    rw [hs] at e1
    exact ⟨(sg_inj e1).symm.trans hf,hs⟩
  obtain ⟨hA,hs⟩:=hA
  rw [hs] at e1 e2
  have hrr:=rTo_range way (xsg a b) r0 left
  obtain ⟨rp,hrg,hng⟩:=patS_parts (ng:=xsg a b) hrr.1 hrr.2
  rw [<- e2] at rp hrg hng
  have hpp:pok p=true:=(pok_rg rp).2 (by omega)
  have hr0:(r0:Int)<9218868437227405312:=by
    rcases Int.lt_or_le (r0:Int) 9218868437227405312 with g | g
    . exact g
    . exfalso
      rw [hrg] at hi
      unfold rTo at hi
      rw [if_neg (by omega)] at hi
      unfold bRung at hi
      rcases hi with hi | ⟨hw,hi⟩
      . split at hi <;> omega
      . rw [hw,show rUp 0 (xsg a b) true 3=true by cases xsg a b <;> decide,if_pos rfl] at hi
        omega
  have hrt:rTo way (xsg a b) r0 left=(r0:Int)∨(rTo way (xsg a b) r0 left=(r0:Int)+1∧left≠0):=by
    unfold rTo
    rw [if_pos hr0]
    by_cases hu:rUp way (xsg a b) (decide (r0 % 2=1)) left=true
    . right
      rw [if_pos hu]
      exact ⟨rfl,fun e=>by rw [e] at hu; exact rUp_left hu⟩
    . left
      rw [if_neg hu]; omega
  obtain ⟨Rlo,Rhi,l0,_,_,_⟩:=hR
  obtain ⟨s,U,hsU,hU0,hU1,hs0,hs1⟩:∃ s U:Nat,r0=s*4503599627370496+U∧4503599627370496<=U∧U<9007199254740992∧60<=s∧s<=2045:=by
    refine ⟨r0/4503599627370496-1,r0-(r0/4503599627370496-1)*4503599627370496,?_,?_,?_,?_,?_⟩
    all_goals (rcases hrt with g | ⟨g,_⟩ <;> omega)
  obtain ⟨V0,V1⟩:=V_rung Ieee.double s U (by rw [dBin]; omega) (fun _=>by rw [dBin]; omega)
  rw [dBin,<- hsU] at V0 V1
  have hmax:(U:Int)*2^s<=maxV:=by
    have:=V_le (show r0<=9218868437227405311 by omega)
    rw [V0] at this
    push_cast at this
    exact this
  have hrt:∃ W:Int,(W=(U:Int)*2^s∨(W=((U:Int)+1)*2^s∧left≠0))∧(V Ieee.double (rTo way (xsg a b) r0 left).toNat:Int)=W:=by
    rcases hrt with g | ⟨g,g2⟩
    . refine ⟨_,.inl ?_,rfl⟩
      rw [g,Int.toNat_natCast,V0]; push_cast; rfl
    . refine ⟨_,.inr ⟨?_,g2⟩,rfl⟩
      rw [g,show ((r0:Int)+1).toNat=r0+1 by omega,V1]; push_cast; rfl
  obtain ⟨W,hW,hVW⟩:=hrt
  unfold vS at Rlo Rhi l0
  rw [V0] at Rlo l0
  rw [V1] at Rhi
  push_cast at Rlo Rhi l0
  rw [hA] at Rlo Rhi l0
  have hpv:patV p=sg (xsg a b) W*pw (-1074):=by
    rw [patV_iV rp hpp]
    unfold iV
    rw [hng,hrg,hVW]
  obtain ⟨S,h1,h2,h3⟩:=fus_all (E:=1074) rfl (pw_pos (-2148)) (pw_add (by decide) t) eq1074 hN hU0 hs0 Rlo Rhi (by rcases hW with h | ⟨h,g⟩; exact .inl h; exact .inr ⟨h,fun e=>g (l0.2 e)⟩) hmax
  refine ⟨sg (xsg a b) S,?_,?_,?_⟩
  . rw [e1,hpv,hA,sg_prod,sg_prod,<- h1]
    cases xsg a b
    . rfl
    . exact nsn _ _
  . cases xsg a b
    . exact h2
    . exact h2.neg
  . have hn:(sg (xsg a b) S).natAbs=S.natAbs:=by
      cases xsg a b
      . rfl
      . exact Int.natAbs_neg _
    rw [hn]
    exact h3
theorem fmaS_pr (p q r:Int):fmaS p q r=prV p q+patV r:=rfl
theorem pok_clsF {a:Int} (ra:rng a) (h:pok a=true):cls a≠4:=fun e=>by
  have hf:=pparts h
  unfold cls at e
  rw [if_neg hf] at e
  split at e
  . split at e <;> omega
  . omega
theorem near_exact {S:Int} (hF:Fl S) (h0:S≠0) (hb:(S.natAbs:Int)<=maxV):rng (nearP (S*pw (-1074)))∧pok (nearP (S*pw (-1074)))=true∧iV (nearP (S*pw (-1074)))=S:=by
  obtain ⟨h1,h2,h3⟩:=near_iV h0
  exact ⟨h1,h3 hb,nr_self hF (h2 (h3 hb))⟩
def mulP (way a b:Int):Int:=if way=0∨(pok a && pok b)=false then fprod (told a) (told b) else if prV a b≠0 then rdP way (prV a b) else fprod (told a) (told b)
theorem fma_zero {a b c:Int} (ra:rng a) (rb:rng b) (rc:rng c) (pa:pok a=true) (pb:pok b=true) (pc:pok c=true) (h:fmaS a b c=0):ffma a b c=patS (xsg a b && decide (c<0)) 0:=by
  have h1:=(pok_rg ra).1 pa
  have h2:=(pok_rg rb).1 pb
  have h3:=(pok_rg rc).1 pc
  unfold ffma
  have n4:¬ (cls a=4∨cls b=4∨cls c=4):=fun q=>by rcases q with q | q | q; exact pok_clsF ra pa q; exact pok_clsF rb pb q; exact pok_clsF rc pc q
  have i2:¬ (rg a=9218868437227405312∨rg b=9218868437227405312):=by omega
  have i3:¬ rg c=9218868437227405312:=by omega
  rw [if_neg n4,if_neg i2,if_neg i3,if_pos h]
theorem patV_opp {p:Int} (rp:rng p) (hp:pok p=true):patV (neg p)=-patV p:=by
  obtain ⟨n1,n2,n3⟩:=neg_facts rp hp
  rw [patV_iV n1 n2,patV_iV rp hp,n3,Int.neg_mul]
theorem su_neg {p:Int} (h:nn p):rg (neg p)=rg p∧(decide (neg p<0)≠decide (p<0)):=by
  have hr:=h.1
  unfold rng at hr
  unfold neg
  rw [if_neg h.2]
  unfold rg
  by_cases g:p<0
  . rw [if_pos g,if_neg (by omega)]
    refine ⟨by rw [if_pos g],?_⟩
    rw [decide_eq_false (by omega),decide_eq_true g]
    decide
  . rw [if_neg g,if_pos (by omega)]
    refine ⟨by rw [if_neg g]; omega,?_⟩
    rw [decide_eq_true (by omega),decide_eq_false g]
    decide
theorem fsum_nan (p:Int):fsum p 9221120237041090561=9221120237041090561:=by
  unfold fsum
  rw [if_pos (.inr nan_canon)]
theorem hl_nn {p q:Int} (hp:nn p) (hq:nn q):nn (hiM p q)∧nn (loM p q)∧(hiM p q=p∧loM p q=q∨hiM p q=q∧loM p q=p)∧rg (loM p q)<=rg (hiM p q):=by
  unfold hiM loM
  by_cases h:rg p<rg q
  . rw [if_pos h,if_pos h]; exact ⟨hq,hp,.inr ⟨rfl,rfl⟩,by omega⟩
  . rw [if_neg h,if_neg h]; exact ⟨hp,hq,.inl ⟨rfl,rfl⟩,by omega⟩
theorem su_infEnd {p q:Int} (hp:nn p) (hq:nn q) (h:rg (hiM p q)=9218868437227405312) (hno:¬ (rg p=9218868437227405312∧rg q=9218868437227405312∧decide (p<0)≠decide (q<0))) :
    suN p q=hiM p q∧beLo (suN p q) (suL p q)=hiM p q∧beHi (suN p q) (suL p q)=hiM p q:=by
  obtain ⟨nx,ny,hxy,_⟩:=hl_nn hp hq
  have hno':¬ (rg (loM p q)=9218868437227405312∧decide (hiM p q<0)≠decide (loM p q<0)):=by
    rintro ⟨a,b⟩
    rcases hxy with ⟨e1,e2⟩ | ⟨e1,e2⟩
    . rw [e1] at h b; rw [e2] at a b; exact hno ⟨h,a,b⟩
    . rw [e1] at h b; rw [e2] at a b; exact hno ⟨a,h,fun c=>b c.symm⟩
  have e1:suN p q=hiM p q:=by
    unfold suN fsum
    rw [if_neg (by rintro (c | c); exact nx.2 c; exact ny.2 c),if_pos h,if_neg hno']
  have e2:suL p q=9221120237041090561:=by
    unfold suL
    rw [e1]
    obtain ⟨g1,g2⟩:=su_neg nx
    obtain ⟨n1,_⟩:=nn_neg nx
    have:fsum (hiM p q) (neg (hiM p q))=9221120237041090561:=by
      unfold fsum
      rw [if_neg (by rintro (c | c); exact nx.2 c; exact n1.2 c),if_pos h,if_pos ⟨by rw [g1]; exact h,fun c=>g2 c.symm⟩]
    rw [this,neg_nan nan_canon]
    exact fsum_nan _
  have l1:less 9221120237041090561 0=false:=by decide
  have l2:less 0 9221120237041090561=false:=by decide
  rw [e1,e2]
  unfold beLo beHi
  rw [l1,l2]
  exact ⟨rfl,rfl,rfl⟩
theorem su_over {p q:Int} (hp:nn p) (hq:nn q) (pp:¬ rg p=9218868437227405312) (pq:¬ rg q=9218868437227405312) (hn:nn (suN p q)) (h:rg (suN p q)=9218868437227405312) :
    (0<key (suN p q)->beLo (suN p q) (suL p q)=prev (suN p q)∧beHi (suN p q) (suL p q)=suN p q)∧(key (suN p q)<0->beLo (suN p q) (suL p q)=suN p q∧beHi (suN p q) (suL p q)=next (suN p q)):=by
  obtain ⟨nx,ny,hxy,_⟩:=hl_nn hp hq
  have fx:¬ rg (hiM p q)=9218868437227405312:=by rcases hxy with ⟨e1,_⟩ | ⟨e1,_⟩ <;> rw [e1] <;> assumption
  have fy:¬ rg (loM p q)=9218868437227405312:=by rcases hxy with ⟨_,e1⟩ | ⟨_,e1⟩ <;> rw [e1] <;> assumption
  obtain ⟨n1,_⟩:=nn_neg nx
  obtain ⟨m1,k1⟩:=nn_neg hn
  have e1:fsum (suN p q) (neg (hiM p q))=suN p q:=by
    unfold fsum
    rw [if_neg (by rintro (c | c); exact hn.2 c; exact n1.2 c),if_pos h,if_neg (by rintro ⟨c,_⟩; rw [(su_neg nx).1] at c; exact fx c)]
  have e2:suL p q=neg (suN p q):=by
    unfold suL
    rw [e1]
    unfold fsum
    rw [if_neg (by rintro (c | c); exact ny.2 c; exact m1.2 c),if_neg fy,if_pos (by rw [(su_neg hn).1]; exact h)]
  have c0:¬ cls 0=4:=by decide
  have k0:key 0=0:=by decide
  have l1:less (suL p q) 0=decide (0<key (suN p q)):=by
    rw [e2]; unfold less
    simp only [m1.2,c0,k0,k1,decide_false,Bool.not_false,Bool.true_and]
    exact decide_eq_decide.2 (by omega)
  have l2:less 0 (suL p q)=decide (key (suN p q)<0):=by
    rw [e2]; unfold less
    simp only [m1.2,c0,k0,k1,decide_false,Bool.not_false,Bool.true_and]
    exact decide_eq_decide.2 (by omega)
  unfold beLo beHi
  rw [l1,l2]
  refine ⟨fun g=>?_,fun g=>?_⟩
  . rw [decide_eq_true g]; exact ⟨rfl,rfl⟩
  . rw [decide_eq_false (by omega),decide_eq_true g]; exact ⟨rfl,rfl⟩
def prLo (p q:Int):Int:=if rg p=0∨rg q=0 then 0 else if rg p=9218868437227405312∨rg q=9218868437227405312 then patS (xsg p q) 9218868437227405312 else rdP 1 (prV p q)
def prHi (p q:Int):Int:=if rg p=0∨rg q=0 then 0 else if rg p=9218868437227405312∨rg q=9218868437227405312 then patS (xsg p q) 9218868437227405312 else rdP 2 (prV p q)
theorem nn_rg {p:Int} (h:nn p):0<=rg p∧rg p<=9218868437227405312:=by
  have:=(FW.pat h.2 h.1).of h.2
  exact this.2.2
theorem rg_pat0 {p:Int} (h:nn p) (hf:rg p≠9218868437227405312):pok p=true:=(pok_rg h.1).2 (by have:=nn_rg h; omega)
theorem patV_nz {p:Int} (h:rng p) (hp:pok p=true) (h0:rg p≠0):patV p≠0:=fun e=>by
  have hv:=patV_iV h hp
  have hi:iV p=0:=by
    rcases Int.mul_eq_zero.1 (hv.symm.trans e) with q | q
    . exact q
    . have:=pw_pos (-1074); omega
  have h5:=(rg_parts h).1
  unfold iV at hi
  have hV:(V Ieee.double (rg p).toNat:Int)=0:=by
    cases hd:decide (p<0) <;> rw [hd] at hi
    . exact hi
    . have:-(V Ieee.double (rg p).toNat:Int)=0:=hi
      omega
  rcases Nat.eq_zero_or_pos (rg p).toNat with q | q
  . omega
  . have:=V_lt Ieee.double q
    omega
theorem prV_nz {p q:Int} (rp:rng p) (rq:rng q) (hp:pok p=true) (hq:pok q=true) (p0:rg p≠0) (q0:rg q≠0):prV p q≠0:=fun e=>by
  obtain ⟨_,_,_,_,hC⟩:=prV_parts rp rq hp hq
  rw [e,Int.zero_mul] at hC
  rcases Int.mul_eq_zero.1 hC.symm with h | h
  . exact patV_nz rp hp p0 h
  . exact patV_nz rq hq q0 h
theorem fprod_fin {p q:Int} (rp:rng p) (rq:rng q) (hp:pok p=true) (hq:pok q=true) (h:prV p q≠0):fprod p q=nearP (prV p q):=by
  have h1:=(pok_rg rp).1 hp
  have h2:=(pok_rg rq).1 hq
  have hz:fsize p q≠0:=fun e=>h (by unfold prV; rw [e]; cases xsg p q <;> rfl)
  have n4:¬ (cls p=4∨cls q=4):=fun k=>by rcases k with k | k; exact pok_clsF rp hp k; exact pok_clsF rq hq k
  have i2:¬ (rg p=9218868437227405312∨rg q=9218868437227405312):=by omega
  unfold fprod
  rw [if_neg n4,if_neg i2,if_neg hz]
  rfl
theorem less_key {l:Int} (h:cls l≠4):(less l 0=true ↔ key l<0)∧(less 0 l=true ↔ 0<key l):=by
  have c0:¬ cls 0=4:=by decide
  have k0:key 0=0:=by decide
  unfold less
  rw [k0]
  simp [h,c0]
theorem pr_fin {p q:Int} (rp:rng p) (rq:rng q) (hp:pok p=true) (hq:pok q=true) (p0:rg p≠0) (q0:rg q≠0) (hd:283726776524341248<=rg (fprod p q)) :
    beLo (fprod p q) (ffma p q (neg (fprod p q)))=rdP 1 (prV p q)∧beHi (fprod p q) (ffma p q (neg (fprod p q)))=rdP 2 (prV p q):=by
  have hV:=prV_nz rp rq hp hq p0 q0
  have hN:=fprod_fin rp rq hp hq hV
  rw [hN] at hd ⊢
  obtain ⟨rn,cn⟩:=nearP_pat hV
  cases hf:pok (nearP (prV p q))
  . have hi:=dir_inf hV hf
    have hm:∀ r,rng r->rg r=9218868437227405312->cls r≠4->ffma p q r=r:=fun r hr h1 h4=>by
      have h5:=(pok_rg rp).1 hp
      have h6:=(pok_rg rq).1 hq
      have n4:¬ (cls p=4∨cls q=4∨cls r=4):=fun k=>by rcases k with k | k | k; exact pok_clsF rp hp k; exact pok_clsF rq hq k; exact h4 k
      have i2:¬ (rg p=9218868437227405312∨rg q=9218868437227405312):=by omega
      unfold ffma
      rw [if_neg n4,if_neg i2,if_pos h1]
    rcases Int.lt_or_gt_of_ne hV with hn | hn
    . obtain ⟨e0,e1,e2⟩:=hi.2 hn
      rw [e0,e1,e2,show neg (-4503599627370496)=9218868437227405312 by decide,hm _ (by unfold rng; omega) (by decide) (by decide)]
      exact ⟨by decide,by decide⟩
    . obtain ⟨e0,e1,e2⟩:=hi.1 hn
      rw [e0,e1,e2,show neg 9218868437227405312=-4503599627370496 by decide,hm _ (by unfold rng; omega) (by decide) (by decide)]
      exact ⟨by decide,by decide⟩
  . obtain ⟨d1,d2,d3⟩:=dir_fin hV hf
    have e0:=rdP_near hV
    have hr:=(pok_rg rn).1 hf
    obtain ⟨S,hS,hF,hb⟩:=fused_any (way:=0) rp rq hp hq hV (by rw [e0]; exact hd) (.inr ⟨rfl,by rw [e0]; exact hr⟩)
    rw [e0] at hS
    generalize nearP (prV p q)=n at *
    obtain ⟨rm,pm,im⟩:=neg_facts rn hf
    have hfS:fmaS p q (neg n)=prV p q-patV n:=by
      rw [fmaS_pr,patV_opp rn hf]
      omega
    by_cases h0:prV p q-patV n=0
    . have hl:ffma p q (neg n)=patS (xsg p q && decide (neg n<0)) 0:=fma_zero rp rq rm hp hq pm (hfS.trans h0)
      have h1:less (ffma p q (neg n)) 0=false:=by rw [hl]; cases (xsg p q && decide (neg n<0)) <;> decide
      have h2:less 0 (ffma p q (neg n))=false:=by rw [hl]; cases (xsg p q && decide (neg n<0)) <;> decide
      unfold beLo beHi
      rw [h1,h2]
      have:=d3 (by omega)
      exact ⟨this.1,this.2⟩
    . have hS0:S≠0:=fun e=>h0 (by rw [hS,e,Int.zero_mul])
      obtain ⟨g1,g2,g3⟩:=near_exact hF hS0 hb
      have hl:ffma p q (neg n)=nearP (S*pw (-1074)):=by
        have h5:=(pok_rg rp).1 hp
        have h6:=(pok_rg rq).1 hq
        have h7:=(pok_rg rm).1 pm
        have n4:¬ (cls p=4∨cls q=4∨cls (neg n)=4):=fun k=>by rcases k with k | k | k; exact pok_clsF rp hp k; exact pok_clsF rq hq k; exact pok_clsF rm pm k
        have i2:¬ (rg p=9218868437227405312∨rg q=9218868437227405312):=by omega
        have i3:¬ rg (neg n)=9218868437227405312:=by omega
        unfold ffma
        rw [if_neg n4,if_neg i2,if_neg i3,hfS,if_neg h0,hS]
      rw [hl]
      generalize nearP (S*pw (-1074))=l at *
      obtain ⟨k1,k2⟩:=iV_key g1
      rw [g3] at k1 k2
      obtain ⟨l1,l2⟩:=less_key (pok_clsF g1 g2)
      have hq2:=pw_pos (-1074)
      unfold beLo beHi
      rcases Int.lt_or_gt_of_ne hS0 with hn | hn
      . have hD:prV p q-patV n<0:=by rw [hS]; exact Int.mul_neg_of_neg_of_pos hn hq2
        rw [l1.2 (k1.1 hn)]
        clear hS hq2
        have:=d1 (by omega)
        exact ⟨this.1,this.2⟩
      . have hD:0<prV p q-patV n:=by rw [hS]; exact Int.mul_pos hn hq2
        have hno:less l 0=false:=by
          cases h:less l 0
          . rfl
          . have:=k1.2 (l1.1 h); omega
        rw [hno,l2.2 (k2.1 hn)]
        clear hS hq2
        have:=d2 (by omega)
        exact ⟨this.1,this.2⟩
theorem pr_infE {p q:Int} (hp:nn p) (hq:nn q) (p0:rg p≠0) (q0:rg q≠0) (hi:rg p=9218868437227405312∨rg q=9218868437227405312) :
    fprod p q=patS (xsg p q) 9218868437227405312∧ffma p q (neg (fprod p q))=9221120237041090561:=by
  have n4:¬ (cls p=4∨cls q=4):=fun k=>by rcases k with k | k; exact hp.2 k; exact hq.2 k
  have i2:¬ (rg p=0∨rg q=0):=by omega
  have e:fprod p q=patS (xsg p q) 9218868437227405312:=by
    unfold fprod
    rw [if_neg n4,if_pos hi,if_neg i2]
  refine ⟨e,?_⟩
  rw [e]
  have hneg:neg (patS (xsg p q) 9218868437227405312)=patS (!xsg p q) 9218868437227405312:=by cases xsg p q <;> decide
  rw [hneg]
  have c4:¬ cls (patS (!xsg p q) 9218868437227405312)=4:=by cases xsg p q <;> decide
  have r4:rg (patS (!xsg p q) 9218868437227405312)=9218868437227405312:=by cases xsg p q <;> decide
  have s4:decide (patS (!xsg p q) 9218868437227405312<0)=!xsg p q:=by cases xsg p q <;> decide
  have n5:¬ (cls p=4∨cls q=4∨cls (patS (!xsg p q) 9218868437227405312)=4):=fun k=>by rcases k with k | k | k; exact hp.2 k; exact hq.2 k; exact c4 k
  have n6:rg (patS (!xsg p q) 9218868437227405312)=9218868437227405312∧¬ xsg p q=decide (patS (!xsg p q) 9218868437227405312<0):=⟨r4,by rw [s4]; cases xsg p q <;> decide⟩
  unfold ffma
  rw [if_neg n5,if_pos hi,if_neg i2,if_pos n6]
end Go.Proofs.YtmmnoneehiibiaaGreatDoor
namespace Go.Proofs.YtmmnoneehiibiaaGreatDoor
open Go Go.RowKit Go.Proofs.YtmmnoneehiibiaaGreatDoor.M Ieee
theorem ext_fma (x y z:Nat):∃ a b,Extern.MathFMA.fma #[.float .f64 x,.float .f64 y,.float .f64 z]=Option.casesOn (motive:=fun _=>Sem Value) (FloatKind.f64.format.fma x y z) (do pure (.float .f64 (<- choose (.nanBits .f64 a b)))) (fun r=>pure (.float .f64 r)):=by
  cases h1:Extern.MathFMA.isNaN x with
  | true=>exact ⟨x,y,by
      have:Extern.MathFMA.fma #[.float .f64 x,.float .f64 y,.float .f64 z]=Option.casesOn (motive:=fun _=>Sem Value) (FloatKind.f64.format.fma x y z) (match (if Extern.MathFMA.isNaN x then (x,y) else if Extern.MathFMA.isNaN y then (y,z) else (z,z)) with | (a,b)=>do pure (.float .f64 (<- choose (.nanBits .f64 a b)))) (fun r=>pure (.float .f64 r)):=by kernel_rfl
      rw [this,h1]; rfl⟩
  | false=>
    cases h2:Extern.MathFMA.isNaN y with
    | true=>exact ⟨y,z,by
        have:Extern.MathFMA.fma #[.float .f64 x,.float .f64 y,.float .f64 z]=Option.casesOn (motive:=fun _=>Sem Value) (FloatKind.f64.format.fma x y z) (match (if Extern.MathFMA.isNaN x then (x,y) else if Extern.MathFMA.isNaN y then (y,z) else (z,z)) with | (a,b)=>do pure (.float .f64 (<- choose (.nanBits .f64 a b)))) (fun r=>pure (.float .f64 r)):=by kernel_rfl
        rw [this,h1,h2]; rfl⟩
    | false=>exact ⟨z,z,by
        have:Extern.MathFMA.fma #[.float .f64 x,.float .f64 y,.float .f64 z]=Option.casesOn (motive:=fun _=>Sem Value) (FloatKind.f64.format.fma x y z) (match (if Extern.MathFMA.isNaN x then (x,y) else if Extern.MathFMA.isNaN y then (y,z) else (z,z)) with | (a,b)=>do pure (.float .f64 (<- choose (.nanBits .f64 a b)))) (fun r=>pure (.float .f64 r)):=by kernel_rfl
        rw [this,h1,h2]; rfl⟩
theorem run_ffma {p q r:Int} {x y z:Nat} (hx:FW p x) (hy:FW q y) (hz:FW r z) (w:World) :
    ∃ t w',(callFunc 141 #[.float .f64 x,.float .f64 y,.float .f64 z]).run Tryz.prog w=.ok (.value (.float .f64 t)) w'∧FW (ffma p q r) t∧(w'=w∨w'=w.drew):=by
  rw [run_callFunc_extern Tryz.func141 (by kernel_rfl) (by kernel_rfl) (by kernel_rfl) (e:=Extern.MathFMA.fma) (by kernel_rfl)]
  obtain ⟨a,b,hab⟩:=ext_fma x y z
  rw [hab]
  rcases fma_FW hx hy hz with ⟨t,e1,e2⟩ | ⟨e1,e2⟩
  . refine ⟨t,w,?_,e2,.inl rfl⟩
    have e1':FloatKind.f64.format.fma x y z=some t:=e1
    rw [e1']
    simp
  . have e1':FloatKind.f64.format.fma x y z=none:=e1
    rw [e1']
    refine ⟨(Question.nanBits .f64 a b).cut (w.tape w.drawn (.nanBits .f64 a b)),w.drew,?_,?_,.inr rfl⟩
    . simp
      exact fun hf=>absurd (show false=true from hf) (by decide)
    . rw [e2]
      exact FW.nan (nan_cut a b (w.tape w.drawn (.nanBits .f64 a b)))
end Go.Proofs.YtmmnoneehiibiaaGreatDoor
namespace Go.Proofs.YtmmnoneehiibiaaGreatDoor
open Go Go.RowKit Go.Proofs.YtmmnoneehiibiaaGreatDoor.M
def BlkN (w:World) (g N k:Nat) (q:Nat->NumR):Prop :=
  ∃ cur:Array Value,w.heap[g]?=some (.cells cur 34 (0,0))∧cur.size=N*3∧∀ i,i<k->(cur[i*3]?=some (.bool (q i).ng)∧cur[i*3+1]?=some (.slice (q i).ao (q i).n (q i).cap)∧cur[i*3+2]?=some (.int .i64 (q i).e))∧Row w (q i).ao (q i).n (q i).cap (q i).d
theorem info_num:∃ i,Tryz.prog.info? 34=some i∧i.zero=some (.agg #[.bool false,.slice none 0 0,.int .i64 0])∧i.size=3∧i.bytes=40:=by
  have h:(Tryz.prog.info? 34).map (fun i=>(i.zero,i.size,i.bytes))=some (some (.agg #[.bool false,.slice none 0 0,.int .i64 0]),3,40):=by kernel_rfl
  obtain ⟨i,hi,hzz⟩:=Option.map_eq_some_iff.1 h
  simp only [Prod.mk.injEq] at hzz
  exact ⟨i,hi,hzz⟩
theorem make_nums (n:Nat) (hn:n<=100000) (w:World) :
    (Instr.makeSlice 137 (.int .i64 (n:Int)) (.int .i64 (n:Int))).run Tryz.prog w=.ok (.slice (some ⟨w.heap.size,0,none⟩) n n) (w.alloc (.cells (madeCells #[.bool false,.slice none 0 0,.int .i64 0] (n*3)) 34)):=by
  obtain ⟨i,hi,hz,hs,hb⟩:=info_num
  have:=run_make (P:=Tryz.prog) w 137 34 i _ Tryz.underlying137 hi hz .i64 .i64 n n (by omega) (Int.le_refl _) (by rw [hb]; omega) (by omega)
  simp only [Int.toNat_natCast,hs] at this
  exact this
def updN (q:Nat->NumR) (k:Nat) (x:NumR):Nat->NumR:=fun j=>if j=k then x else q j
theorem updN_same (q:Nat->NumR) (k:Nat) (x:NumR):updN q k x k=x:=by simp [updN]
theorem updN_other (q:Nat->NumR) {k j:Nat} (x:NumR) (h:j≠k):updN q k x j=q j:=by simp [updN,h]
theorem keep3W {W w':World} {b g o0 o1 o2:Nat} {x y z:Value} (h:W.cell? ⟨b,o0,none⟩=some x∧W.cell? ⟨b,o1,none⟩=some y∧W.cell? ⟨b,o2,none⟩=some z) (hw:Wr g W w') (hg:b≠g) :
    w'.cell? ⟨b,o0,none⟩=some x∧w'.cell? ⟨b,o1,none⟩=some y∧w'.cell? ⟨b,o2,none⟩=some z :=
  ⟨(hw.cell (World.block_lt_of_cell? W _ h.1) hg).trans h.1,(hw.cell (World.block_lt_of_cell? W _ h.2.1) hg).trans h.2.1,(hw.cell (World.block_lt_of_cell? W _ h.2.2) hg).trans h.2.2⟩
theorem keep3B {W w':World} {b o0 o1 o2:Nat} {x y z:Value} (h:W.cell? ⟨b,o0,none⟩=some x∧W.cell? ⟨b,o1,none⟩=some y∧W.cell? ⟨b,o2,none⟩=some z) (hb:Below W.heap.size W w') :
    w'.cell? ⟨b,o0,none⟩=some x∧w'.cell? ⟨b,o1,none⟩=some y∧w'.cell? ⟨b,o2,none⟩=some z:=⟨cell_keeps h.1 hb,cell_keeps h.2.1 hb,cell_keeps h.2.2 hb⟩
theorem wr3 (W:World) (g o0 o1 o2:Nat) (x y z:Value):Wr g W (((W.setCell ⟨g,o0,none⟩ x).setCell ⟨g,o1,none⟩ y).setCell ⟨g,o2,none⟩ z):=(((Wr.refl g W).setCell o0 x).setCell o1 y).setCell o2 z
theorem Row.wrN {w w':World} {g:Nat} {ao:Option Addr} {n cap:Nat} {d:Nat->Int} (h:Row w ao n cap d) (hw:Wr g w w') {cur:Array Value} {z:Nat × Nat} (hg:w.heap[g]?=some (.cells cur 34 z)) (ht:∀ b off,ao=some ⟨b,off,none⟩->0<n->b≠g):Row w' ao n cap d :=
  ⟨h.le,h.max,h.nl,fun hn=>by
    obtain ⟨b,off,rfl,hlt,hc⟩:=h.spot hn
    exact ⟨b,off,rfl,Nat.lt_of_lt_of_le hlt hw.size,fun i hi=>(hw.cell (p:=⟨b,off+i,none⟩) hlt (ht b off rfl hn)).trans (hc i hi)⟩⟩
theorem Ans.open {w w':World} {V:Int} {so:Option Addr} {sn sc:Nat} (h:Ans w w' V (.slice so sn sc)):∃ d,Row w' so sn sc d∧Nrm d sn∧val d sn=V∧∀ b off,so=some ⟨b,off,none⟩->w.heap.size<=b:=by
  obtain ⟨t,d,hO,hN,hV,_⟩:=h
  have hge:=own_ge hO
  obtain ⟨so',sc',e,hR⟩:=hO.row
  simp only [Value.slice.injEq] at e
  obtain ⟨rfl,rfl,rfl⟩:=e
  exact ⟨d,hR,hN,hV,fun b off hb=>hge b (by rw [hb]; rfl)⟩
theorem bel_set3' {w0 w:World} {g o0 o1 o2:Nat} (h:Below w0.heap.size w0 w) (hg:w0.heap.size<=g) (x y z:Value):Below w0.heap.size w0 (((w.setCell ⟨g,o0,none⟩ x).setCell ⟨g,o1,none⟩ y).setCell ⟨g,o2,none⟩ z):=((h.setCell (p:=⟨g,o0,none⟩) hg x).setCell (p:=⟨g,o1,none⟩) hg y).setCell (p:=⟨g,o2,none⟩) hg z
theorem set3_get {cur:Array Value} {k:Nat} {x y z:Value} (h:k*3+2<cur.size) (i:Nat) :
    let c:=((cur.setIfInBounds (k*3) x).setIfInBounds (k*3+1) y).setIfInBounds (k*3+2) z
    (i=k->c[i*3]?=some x∧c[i*3+1]?=some y∧c[i*3+2]?=some z)∧(i≠k->c[i*3]?=cur[i*3]?∧c[i*3+1]?=cur[i*3+1]?∧c[i*3+2]?=cur[i*3+2]?):=by
  intro c
  refine ⟨fun e=>?_,fun e=>?_⟩
  . subst e
    refine ⟨?_,?_,?_⟩
    . show (((cur.setIfInBounds (i*3) x).setIfInBounds (i*3+1) y).setIfInBounds (i*3+2) z)[i*3]?=some x
      rw [Array.getElem?_setIfInBounds_ne (by omega),Array.getElem?_setIfInBounds_ne (by omega),Array.getElem?_setIfInBounds_self_of_lt (by omega)]
    . show (((cur.setIfInBounds (i*3) x).setIfInBounds (i*3+1) y).setIfInBounds (i*3+2) z)[i*3+1]?=some y
      rw [Array.getElem?_setIfInBounds_ne (by omega),Array.getElem?_setIfInBounds_self_of_lt (by simp; omega)]
    . show (((cur.setIfInBounds (i*3) x).setIfInBounds (i*3+1) y).setIfInBounds (i*3+2) z)[i*3+2]?=some z
      rw [Array.getElem?_setIfInBounds_self_of_lt (by simp; omega)]
  . refine ⟨?_,?_,?_⟩
    all_goals
      show (((cur.setIfInBounds (k*3) x).setIfInBounds (k*3+1) y).setIfInBounds (k*3+2) z)[_]?=_
      rw [Array.getElem?_setIfInBounds_ne (by omega),Array.getElem?_setIfInBounds_ne (by omega),Array.getElem?_setIfInBounds_ne (by omega)]
theorem BlkN.step {wr w3:World} {g N k:Nat} {q:Nat->NumR} (h:BlkN wr g N k q) (hb:Below wr.heap.size wr w3) (x:NumR) (hx:Row w3 x.ao x.n x.cap x.d) (hk:k<N) (hg:∀ i b' off,i<k->(q i).ao=some ⟨b',off,none⟩->0<(q i).n->g<b') (hg2:∀ b' off,x.ao=some ⟨b',off,none⟩->0<x.n->g<b') :
    BlkN (((w3.setCell ⟨g,k*3,none⟩ (.bool x.ng)).setCell ⟨g,k*3+1,none⟩ (.slice x.ao x.n x.cap)).setCell ⟨g,k*3+2,none⟩ (.int .i64 x.e)) g N (k+1) (updN q k x):=by
  obtain ⟨cur,hcur,hsz,hc⟩:=h
  have q0:=(hb.block g (Array.getElem?_eq_some_iff.1 hcur).1).trans hcur
  have q1:=heap_set (heap_set (heap_set q0 (k*3) (.bool x.ng)) (k*3+1) (.slice x.ao x.n x.cap)) (k*3+2) (.int .i64 x.e)
  have hw:=wr3 w3 g (k*3) (k*3+1) (k*3+2) (.bool x.ng) (.slice x.ao x.n x.cap) (.int .i64 x.e)
  refine ⟨_,q1,by simp [hsz],fun i hi=>?_⟩
  have hs:=set3_get (cur:=cur) (k:=k) (x:=.bool x.ng) (y:=.slice x.ao x.n x.cap) (z:=.int .i64 x.e) (by omega) i
  by_cases e:i=k
  . subst e
    rw [updN_same]
    exact ⟨hs.1 rfl,hx.wrN hw q0 fun b' off he hn=>by have:=hg2 b' off he hn; omega⟩
  . rw [updN_other q x e]
    obtain ⟨s0,s1,s2⟩:=hs.2 e
    obtain ⟨⟨c0,c1,c2⟩,hR⟩:=hc i (by omega)
    refine ⟨⟨s0.trans c0,s1.trans c1,s2.trans c2⟩,(hR.keeps hb).wrN hw q0 fun b' off he hn=>?_⟩
    have:=hg i b' off (by omega) he hn
    omega
theorem BlkN.nums {w:World} {g N:Nat} {q:Nat->NumR} (h:BlkN w g N N q) (hN:N<=100000):Nums w (some ⟨g,0,none⟩) N N q:=by
  obtain ⟨cur,hcur,hsz,hc⟩:=h
  refine ⟨Nat.le_refl _,by omega,fun _=>⟨g,0,rfl,(Array.getElem?_eq_some_iff.1 hcur).1,fun i hi=>?_⟩⟩
  obtain ⟨⟨c0,c1,c2⟩,hR⟩:=hc i hi
  rw [Nat.zero_add]
  exact ⟨blkC hcur _ c0,blkC hcur _ c1,blkC hcur _ c2,hR⟩
set_option maxRecDepth 100000 in
set_option maxHeartbeats 2000000 in
theorem products_any (ao bo:Option Addr) (n ca cb:Nat) (a b:Nat->NumR) (w:World) (ha:Nums w ao n ca a) (hb:Nums w bo n cb b) (hn:n<=100000) (sa:∀ i,i<n->Sane (a i)) (sb:∀ i,i<n->Sane (b i)) :
    Calls Tryz.prog 186 #[.slice ao n ca,.slice bo n cb] w fun x w'=>∃ g q,x=.returned (.slice (some ⟨g,0,none⟩) n n)∧w.heap.size<=g∧Nums w' (some ⟨g,0,none⟩) n n q∧Below w.heap.size w w'∧∀ i,i<n->Nrm (q i).d (q i).n∧(q i).ng=((a i).ng != (b i).ng)∧val (q i).d (q i).n=val (a i).d (a i).n*val (b i).d (b i).n∧(q i).e=(a i).e+(b i).e:=by
  have hla:=ha.le
  have hma:=ha.max
  have hlb:=hb.le
  have hmb:=hb.max
  have hmake:=make_nums n hn
  go_enter Tryz.func186,Tryz.ntmps186
  go_wp2_with fail
  have hb0:=bel_alloc w (.cells (madeCells #[.bool false,.slice none 0 0,.int .i64 0] (n*3)) 34)
  have g0:=heap_a1 w (.cells (madeCells #[.bool false,.slice none 0 0,.int .i64 0] (n*3)) 34)
  have HB0:Hid (BlkN (w.alloc (.cells (madeCells #[.bool false,.slice none 0 0,.int .i64 0] (n*3)) 34)) w.heap.size n 0 a):=⟨_,g0,by rw [size_madeCells],fun i hi=>by omega⟩
  clear g0 hmake
  generalize w.alloc (.cells (madeCells #[.bool false,.slice none 0 0,.int .i64 0] (n*3)) 34)=wx at hb0 HB0 ⊢
  go_loopw [12] (fun iv wr=>∃ (k:Nat) (q:Nat->NumR),k<=n∧iv=.int .i64 k∧Hid (BlkN wr w.heap.size n k q)∧Hid (∀ i,i<k->Nrm (q i).d (q i).n∧(q i).ng=((a i).ng != (b i).ng)∧val (q i).d (q i).n=val (a i).d (a i).n*val (b i).d (b i).n∧(q i).e=(a i).e+(b i).e)∧Hid (∀ i b' off,i<k->(q i).ao=some ⟨b',off,none⟩->0<(q i).n->w.heap.size<b')∧Below w.heap.size w wr) (fun iv _=>n-(intOf iv).toNat)
  case atStart=>exact ⟨0,a,Nat.zero_le _,rfl,HB0,fun i hi=>by omega,fun i b' off hi=>by omega,hb0⟩
  case round=>
    obtain ⟨k,q,hk,rfl,HQ,HF,HG,hbw⟩:=hrel
    clear HB0 hb0
    by_cases hlt:k<n
    . obtain ⟨ba,oa,rfl,hba,hca⟩:=ha.spot (by omega)
      obtain ⟨bb,ob,rfl,hbb,hcb⟩:=hb.spot (by omega)
      obtain ⟨c0,c1,c2,ra⟩:=(hca k hlt).keeps hbw hba
      obtain ⟨d0,d1,d2,rb⟩:=(hcb k hlt).keeps hbw hbb
      have CP:=fun W (h:Below wr.heap.size wr W)=>dproduct_any (a k) (b k) W (ra.keeps h) (rb.keeps h) (sa k hlt) (sb k hlt)
      have hea:Hid (-1100000<=(a k).e∧(a k).e<=1100000):=(sa k hlt).2.2
      have heb:Hid (-1100000<=(b k).e∧(b k).e<=1100000):=(sb k hlt).2.2
      have HAK:Hid (∀ x,a k=x->a k=x):=fun _ h=>h
      clear hca hcb ra rb
      obtain ⟨xa,hxa⟩:∃ x,a k=x:=⟨_,rfl⟩
      obtain ⟨xb,hxb⟩:∃ x,b k=x:=⟨_,rfl⟩
      rw [hxa] at c0 c1 c2 CP hea
      rw [hxb] at d0 d1 d2 CP heb
      have HXA:Hid (a k=xa):=hxa
      have HXB:Hid (b k=xb):=hxb
      clear hxa hxb HAK
      unfold NumR.v at CP
      obtain ⟨ag,aao,an,aca,ad,ae⟩:=xa
      obtain ⟨bg,bao,bn,bca,bd,be⟩:=xb
      simp only at c0 c1 c2 d0 d1 d2 CP hea heb
      obtain ⟨cur,hcur,hsz,hcells⟩:=HQ.out
      have HCL:Hid _:=hcells
      have e0:k*3<cur.size:=by omega
      have e1:k*3+1<cur.size:=by omega
      have e2:k*3+2<cur.size:=by omega
      obtain ⟨v0,hv0⟩:∃ v,cur[k*3]?=some v:=⟨_,Array.getElem?_eq_getElem e0⟩
      obtain ⟨v1,hv1⟩:∃ v,cur[k*3+1]?=some v:=⟨_,Array.getElem?_eq_getElem e1⟩
      obtain ⟨v2,hv2⟩:∃ v,cur[k*3+2]?=some v:=⟨_,Array.getElem?_eq_getElem e2⟩
      have HV:Hid (cur[k*3]?=some v0∧cur[k*3+1]?=some v1∧cur[k*3+2]?=some v2):=⟨hv0,hv1,hv2⟩
      have HSZ:Hid (cur.size=n*3):=hsz
      have HCUR:Hid (wr.heap[w.heap.size]?=some (.cells cur 34 (0,0))):=hcur
      have hgs:w.heap.size<wr.heap.size:=(Array.getElem?_eq_some_iff.1 hcur).1
      clear hcells hv0 hv1 hv2 hcur hsz e0 e1 e2
      have i0:(0:Int)<=(k:Int):=by omega
      have i1:(k:Int)<(n:Int):=by omega
      have kc0:(wr.drew.cell? ⟨ba,oa+k*3,none⟩=some (.bool ag)∧wr.drew.cell? ⟨ba,oa+k*3+1,none⟩=some (.slice aao an aca)∧wr.drew.cell? ⟨ba,oa+k*3+2,none⟩=some (.int .i64 ae))∧wr.drew.cell? ⟨bb,ob+k*3,none⟩=some (.bool bg)∧wr.drew.cell? ⟨bb,ob+k*3+1,none⟩=some (.slice bao bn bca)∧wr.drew.cell? ⟨bb,ob+k*3+2,none⟩=some (.int .i64 be):=⟨⟨c0,c1,c2⟩,d0,d1,d2⟩
      have hb1:=bel_refl wr
      go_wp2_with fail
      go_region_held3 (fun W=>(W.cell? ⟨ba,oa+k*3,none⟩=some (.bool ag)∧W.cell? ⟨ba,oa+k*3+1,none⟩=some (.slice aao an aca)∧W.cell? ⟨ba,oa+k*3+2,none⟩=some (.int .i64 ae))∧W.cell? ⟨bb,ob+k*3,none⟩=some (.bool bg)∧W.cell? ⟨bb,ob+k*3+1,none⟩=some (.slice bao bn bca)∧W.cell? ⟨bb,ob+k*3+2,none⟩=some (.int .i64 be))
        (first | assumption | exact ⟨keep3W kc1.1 (wr3 _ _ _ _ _ _ _ _) (by omega),keep3W kc1.2 (wr3 _ _ _ _ _ _ _ _) (by omega)⟩)
        ((go_at_call 87; refine (CP _ hb1.drew).mono ?_; rintro y w3 ⟨s,rfl,hA⟩; have hbv1:=hA.below; have kc1:=And.intro (keep3B kc0.1 hbv1) (keep3B kc0.2 hbv1); obtain ⟨so,sn,sc,rfl⟩:=hA.num.shape; have q0:=(hbv1.block w.heap.size hgs).trans HCUR.out; have x0:=blkC q0 (k*3) HV.out.1; have x1:=blkC q0 (k*3+1) HV.out.2.1; have x2:=blkC q0 (k*3+2) HV.out.2.2; have z0:=blkF q0 (k*3); have z1:=blkF q0 (k*3+1); have z2:=blkF q0 (k*3+2)))
      all_goals go_wp2
      all_goals
        go_roundw
        case rel=>
          obtain ⟨dd,hRd,hNd,hVd,hgd⟩:=hA.open
          have hgs2:∀ b' off,so=some ⟨b',off,none⟩->0<sn->w.heap.size<b':=fun b' off he _=>by
            have h9:=hgd b' off he
            have h8:w.heap.size<wr.drew.heap.size:=hgs
            omega
          refine ⟨k+1,updN q k ⟨ag != bg,so,sn,sc,dd,ae+be⟩,by omega,by go_num,BlkN.step (x:=⟨ag != bg,so,sn,sc,dd,ae+be⟩) HQ.out (bel_trans hb1.drew hbv1) hRd hlt HG.out hgs2,fun i hi=>?_,fun i b' off hi he hn'=>?_,bel_set3' (bel_trans hbw (bel_trans hb1.drew hbv1)) (Nat.le_refl _) _ _ _⟩
          . by_cases e:i=k
            . subst e
              rw [updN_same,HXA.out,HXB.out]
              exact ⟨hNd,rfl,hVd,rfl⟩
            . rw [updN_other _ _ e]
              exact HF.out i (by omega)
          . by_cases e:i=k
            . subst e
              rw [updN_same] at he hn'
              exact hgs2 b' off he hn'
            . rw [updN_other _ _ e] at he hn'
              exact HG.out i b' off (by omega) he hn'
        case measure=>simp [intOf]; omega
    . obtain rfl:k=n:=by omega
      go_wp2
      go_ret
      exact ⟨_,q,rfl,Nat.le_refl _,HQ.out.nums hn,hbw,HF.out⟩
def dotV (a b:Nat->NumR):Nat->Int | 0=>0 | k+1=>dotV a b k+mulV (a k) (b k)
theorem sumV_dot {a b q:Nat->NumR}:∀ n,(∀ i,i<n->(q i).ng=((a i).ng != (b i).ng)∧val (q i).d (q i).n=val (a i).d (a i).n*val (b i).d (b i).n∧(q i).e=(a i).e+(b i).e)->sumV q n=dotV a b n
  | 0,_=>rfl
  | k+1,h=>by
    obtain ⟨h1,h2,h3⟩:=h k (by omega)
    show sumV q k+sg (q k).ng (val (q k).d (q k).n)*pw (q k).e=dotV a b k+sg ((a k).ng != (b k).ng) (val (a k).d (a k).n*val (b k).d (b k).n)*pw ((a k).e+(b k).e)
    rw [sumV_dot k fun i hi=>h i (by omega),h1,h2,h3]
def Half (x:NumR):Prop:=-500000<=x.e∧x.e<=500000
theorem prod_sane {x y q:NumR} (ox:okR x=true) (oy:okR y=true) (hx:Half x) (hy:Half y) (h0:Nrm q.d q.n) (h2:val q.d q.n=val x.d x.n*val y.d y.n) (h3:q.e=x.e+y.e):Sane q:=by
  refine ⟨h0,?_,?_,?_⟩
  . have a:=(okR_dy ox).2.1
    have b:=(okR_dy oy).2.1
    have a0:=val_nonneg (okR_sane ox).1.1
    have b0:=val_nonneg (okR_sane oy).1.1
    by_cases hq:q.n<=5000
    . exact hq
    . exfalso
      have c:=val_top h0.1 (by omega) h0.2
      have d:=P_le (show 4000<=q.n-1 by omega)
      have e:val x.d x.n*val y.d y.n<P 2000*P 2000:=by
        by_cases hz:val x.d x.n=0
        . rw [hz,Int.zero_mul]; exact Int.mul_pos (P_pos _) (P_pos _)
        . exact Int.lt_of_lt_of_le (Int.mul_lt_mul_of_pos_left b (by omega)) (Int.mul_le_mul_of_nonneg_right (by omega) (Int.le_of_lt (P_pos _)))
      have f:P 2000*P 2000=P 4000:=by rw [P_two 2000,P_two 4000,<- Int.pow_add,show 30*2000+30*2000=30*4000 from rfl]
      rw [f] at e
      rw [h2] at c
      generalize P 4000=Y at *
      omega
  . unfold Half at *; omega
  . unfold Half at *; omega
set_option maxRecDepth 100000 in
set_option maxHeartbeats 2000000 in
theorem dot1_any (ao bo:Option Addr) (n ca cb:Nat) (a b:Nat->NumR) (p p2:Addr) (w:World) (c:w.cell? p=some (.slice ao n ca)) (c2:w.cell? p2=some (.slice bo n cb)) (ha:Nums w ao n ca a) (hb:Nums w bo n cb b) (oa:∀ i,i<n->okR (a i)=true) (ob:∀ i,i<n->okR (b i)=true) (la:∀ i,i<n->Half (a i)) (lb:∀ i,i<n->Half (b i)) (hn:n<=100000) (hT:Tab w) :
    Calls Tryz.prog 185 #[.pointer (some p),.pointer (some p2)] w (DOut w (dotV a b n)):=by
  have hbe:=bel_alloc w (.cells #[.bool false,.slice none 0 0,.int .i64 0] 34)
  have k0:=cell_keeps c hbe
  have k1:=cell_keeps c2 hbe
  have g0:=heap_a1 w (.cells #[.bool false,.slice none 0 0,.int .i64 0] 34)
  have CP:=products_any ao bo n ca cb a b _ (ha.keeps hbe) (hb.keeps hbe) hn (fun i hi=>okR_sane (oa i hi)) (fun i hi=>okR_sane (ob i hi))
  have hTx:=hT.keeps hbe
  have HSUM:Hid (∀ W g q,Nums W (some ⟨g,0,none⟩) n n q->(∀ i,i<n->Nrm (q i).d (q i).n∧(q i).ng=((a i).ng != (b i).ng)∧val (q i).d (q i).n=val (a i).d (a i).n*val (b i).d (b i).n∧(q i).e=(a i).e+(b i).e)->Tab W->Calls Tryz.prog 83 #[.slice (some ⟨g,0,none⟩) n n] W (DOut W (dotV a b n))):=fun W g q hN hF hTW=>by
    have:=total_any (some ⟨g,0,none⟩) n n q W hN (fun i hi=>prod_sane (oa i hi) (ob i hi) (la i hi) (lb i hi) (hF i hi).1 (hF i hi).2.2.1 (hF i hi).2.2.2) hn hTW
    rwa [sumV_dot n fun i hi=>(hF i hi).2] at this
  generalize dotV a b n=V at HSUM ⊢
  clear oa ob la lb ha hb
  go_enter Tryz.func185,Tryz.ntmps185
  go_wp2_with fail
  generalize w.alloc (.cells #[.bool false,.slice none 0 0,.int .i64 0] 34)=wx at *
  refine CP.mono ?_
  rintro x w1 ⟨g,q,rfl,hg,hN,hb1,hF⟩
  have HF:Hid _:=hF
  clear hF
  go_wp2_with fail
  refine (HSUM.out _ _ _ hN HF.out (hTx.keeps hb1)).mono ?_
  rintro x w7 (⟨hok,v,rfl,hD⟩ | ⟨hno,rfl,hb7⟩)
  . have hb7:=hD.below
    obtain ⟨ng',s',m',e',rfl,hyy,hA2⟩:=id hD
    obtain ⟨so',sn',sc',rfl⟩:=hA2.num.shape
    have hlt:=(Array.getElem?_eq_some_iff.1 g0).1
    have q0:=((bel_trans hb1 hb7).block w.heap.size hlt).trans g0
    have x0:=blkC q0 0 rfl
    have x1:=blkC q0 1 rfl
    have x2:=blkC q0 2 rfl
    have z0:=blkF q0 0
    have z1:=blkF q0 1
    have z2:=blkF q0 2
    go_wp2
    refine bodyPost_ret (v:=.agg #[.bool ng',.slice so' sn' sc',.int .i64 e']) (by simp [results,Tryz.results185,go_sem,x0,x1,x2]) rfl ?_
    exact .inl ⟨hok,_,rfl,dans_res3 (g:=w.heap.size) hD (bel_trans hbe hb1) (Nat.le_refl _) (Nat.lt_of_lt_of_le hlt hb1.size) _ _ _⟩
  . exact ⟨rfl,.inr ⟨hno,rfl,bel_trans (bel_trans hbe hb1) hb7⟩⟩
set_option maxRecDepth 100000 in
set_option maxHeartbeats 2000000 in
theorem ddot_ok (ao bo:Option Addr) (n ca cb:Nat) (a b:Nat->NumR) (w:World) (ha:Nums w ao n ca a) (hb:Nums w bo n cb b) (oa:allOk a n=true) (ob:allOk b n=true) (la:∀ i,i<n->Half (a i)) (lb:∀ i,i<n->Half (b i)) (hn:n<=100000) (hT:Tab w) :
    Calls Tryz.prog 162 #[.slice ao n ca,.slice bo n cb] w fun x w'=>∃ v er,x=.returned (.tuple #[v,.int .i64 er])∧DFit w w' (dotV a b n) v er:=by
  have hmf:∀ (fn:Fn) (first cap:Array Value) (w:World),(Instr.makeFunc fn first cap).run Tryz.prog w=.ok (.func fn first cap) w:=fun _ _ _ _=>rfl
  have hE:∀ (cap:Array Value) (w:World),(callFunc 185 cap).run Tryz.prog w=.ok (.enter 185 cap) w:=by
    intro cap w
    simp [go_sem]
  have hla:=ha.le
  have hma:=ha.max
  have hlb:=hb.le
  have hmb:=hb.max
  have CA:=fun W (h:Below w.heap.size w W)=>dvalids_any ao n ca a W (ha.keeps h)
  have CB:=fun W (h:Below w.heap.size w W)=>dvalids_any bo n cb b W (hb.keeps h)
  have CD:Hid (∀ W p p2,Below w.heap.size w W->W.cell? p=some (.slice ao n ca)->W.cell? p2=some (.slice bo n cb)->Calls Tryz.prog 185 #[.pointer (some p),.pointer (some p2)] W (DOut W (dotV a b n))):=fun W p p2 h c1 c2=>dot1_any ao bo n ca cb a b p p2 W c1 c2 (ha.keeps h) (hb.keeps h) (allOk_out oa) (allOk_out ob) la lb hn (hT.keeps h)
  generalize dotV a b n=V at CD ⊢
  rw [oa] at CA
  rw [ob] at CB
  clear ha hb oa ob la lb hT
  have hb3:=bel_a3 w (.cells #[.slice ao n ca] 137) (.cells #[.slice bo n cb] 137) (.cells #[.bool false,.slice none 0 0,.int .i64 0] 34)
  have g0:=h3_0 w (.cells #[.slice ao n ca] 137) (.cells #[.slice bo n cb] 137) (.cells #[.bool false,.slice none 0 0,.int .i64 0] 34)
  have g1:=h3_1 w (.cells #[.slice ao n ca] 137) (.cells #[.slice bo n cb] 137) (.cells #[.bool false,.slice none 0 0,.int .i64 0] 34)
  have g2:=h3_2 w (.cells #[.slice ao n ca] 137) (.cells #[.slice bo n cb] 137) (.cells #[.bool false,.slice none 0 0,.int .i64 0] 34)
  go_enter Tryz.func162,Tryz.ntmps162
  go_wp2_with fail
  generalize ((w.alloc (.cells #[.slice ao n ca] 137)).alloc (.cells #[.slice bo n cb] 137)).alloc (.cells #[.bool false,.slice none 0 0,.int .i64 0] 34)=wx at hb3 g0 g1 g2 ⊢
  refine (CA _ hb3).mono ?_
  rintro x w1 ⟨rfl,hb1⟩
  have hbw:=bel_trans hb3 hb1
  replace g0:=(hb1.block _ (Array.getElem?_eq_some_iff.1 g0).1).trans g0
  replace g1:=(hb1.block _ (Array.getElem?_eq_some_iff.1 g1).1).trans g1
  replace g2:=(hb1.block _ (Array.getElem?_eq_some_iff.1 g2).1).trans g2
  have k1:=blkC g1 0 rfl
  go_wp2_with fail
  clear k1
  refine (CB _ hbw).mono ?_
  rintro x w2 ⟨rfl,hb2⟩
  have hbw2:=bel_trans hbw hb2
  replace g0:=(hb2.block _ (Array.getElem?_eq_some_iff.1 g0).1).trans g0
  replace g1:=(hb2.block _ (Array.getElem?_eq_some_iff.1 g1).1).trans g1
  replace g2:=(hb2.block _ (Array.getElem?_eq_some_iff.1 g2).1).trans g2
  have hs3:=(Array.getElem?_eq_some_iff.1 g2).1
  go_wp2_with fail
  refine (told_any (V:=V) (hE _) (fun W hW=>CD.out W _ _ (bel_trans hbw2 hW) (blkC ((hW.block _ (by omega)).trans g0) 0 rfl) (blkC ((hW.block _ (by omega)).trans g1) 0 rfl))).mono ?_
  rintro x w3 ⟨v,er,rfl,hF⟩
  obtain ⟨ng',so,sn,sc,e',rfl⟩:=hF.shape
  have q0:=(hF.1.block (w.heap.size+2) hs3).trans g2
  have x0:=blkC q0 0 rfl
  have x1:=blkC q0 1 rfl
  have x2:=blkC q0 2 rfl
  have z0:=blkF q0 0
  have z1:=blkF q0 1
  have z2:=blkF q0 2
  go_wp2
  refine bodyPost_ret (v:=.tuple #[.agg #[.bool ng',.slice so sn sc,.int .i64 e'],.int .i64 er]) (by simp [results,Tryz.results162,go_sem,x0,x1,x2]) rfl ⟨_,_,rfl,?_⟩
  exact dfit_res (g:=w.heap.size+2) hF hbw2 (by omega) (by omega) _ _ _
set_option maxRecDepth 100000 in
set_option maxHeartbeats 2000000 in
theorem values_ok (F G:Nat) (oo:Option Addr) (n cap:Nat) (d V:Nat->Int) (w:World) (hR:Row w oo n cap d) (hn:n<=100000)
    (hEF:∀ (cap:Array Value) (w:World),(callFunc F cap).run Tryz.prog w=.ok (.enter F cap) w)
    (C:∀ i,i<n->∀ W,Below w.heap.size w W->Calls Tryz.prog F #[.int .i64 (d i)] W fun r w'=>∃ v,r=.returned (.tuple #[v,.int .i64 0])∧DAns W w' (V i) v) :
    Calls Tryz.prog 208 #[.agg #[.func (.func F) #[] #[],.func (.func G) #[] #[]],.slice oo n cap] w fun x w'=>∃ g q,x=.returned (.tuple #[.slice (some ⟨g,0,none⟩) n n,.bool true])∧w.heap.size<=g∧Nums w' (some ⟨g,0,none⟩) n n q∧Below w.heap.size w w'∧∀ i,i<n->Nrm (q i).d (q i).n∧Dy (V i) (q i).ng (val (q i).d (q i).n) (q i).e:=by
  have hle:=hR.le
  have hma:=hR.max
  have hmake:=make_nums n hn
  have hst:∀ (p:Addr) (F:Nat) (m:Mode) (w:World),(store p (.func (.func F) #[] #[]) m).run Tryz.prog w=stored Tryz.prog w p (.func (.func F) #[] #[]) m:=fun p F m w=>run_store _ w p _ m rfl
  have ha1:=bel_alloc w (.cells #[.func (.func F) #[] #[],.func (.func G) #[] #[]] 197)
  have q1:=heap_alloc_new w (.cells #[.func (.func F) #[] #[],.func (.func G) #[] #[]] 197)
  have k0:=blkC q1 0 rfl
  have k1:=blkC q1 1 rfl
  go_enter Tryz.func208,Tryz.ntmps208
  go_wp2_with fail
  have hb0:=bel_alloc2 w (.cells #[.func (.func F) #[] #[],.func (.func G) #[] #[]] 197) (.cells (madeCells #[.bool false,.slice none 0 0,.int .i64 0] (n*3)) 34)
  have g1:=heap_b2 w (.cells #[.func (.func F) #[] #[],.func (.func G) #[] #[]] 197) (.cells (madeCells #[.bool false,.slice none 0 0,.int .i64 0] (n*3)) 34)
  have g0:=heap_a2 w (.cells #[.func (.func F) #[] #[],.func (.func G) #[] #[]] 197) (.cells (madeCells #[.bool false,.slice none 0 0,.int .i64 0] (n*3)) 34)
  have HB0:Hid (BlkN ((w.alloc (.cells #[.func (.func F) #[] #[],.func (.func G) #[] #[]] 197)).alloc (.cells (madeCells #[.bool false,.slice none 0 0,.int .i64 0] (n*3)) 34)) (w.heap.size+1) n 0 (fun _=>⟨false,none,0,0,fun _=>0,0⟩)):=⟨_,g1,by rw [size_madeCells],fun i hi=>by omega⟩
  clear g1 hmake q1 k0 k1 ha1
  generalize (w.alloc (.cells #[.func (.func F) #[] #[],.func (.func G) #[] #[]] 197)).alloc (.cells (madeCells #[.bool false,.slice none 0 0,.int .i64 0] (n*3)) 34)=wx at hb0 HB0 g0 ⊢
  go_loopw [16] (fun iv wr=>∃ (k:Nat) (q:Nat->NumR),k<=n∧iv=.int .i64 k∧Hid (BlkN wr (w.heap.size+1) n k q)∧Hid (∀ i,i<k->Nrm (q i).d (q i).n∧Dy (V i) (q i).ng (val (q i).d (q i).n) (q i).e)∧Hid (∀ i b' off,i<k->(q i).ao=some ⟨b',off,none⟩->0<(q i).n->w.heap.size+1<b')∧Hid (wr.heap[w.heap.size]?=some (.cells #[.func (.func F) #[] #[],.func (.func G) #[] #[]] 197 (0,0)))∧Below w.heap.size w wr) (fun iv _=>n-(intOf iv).toNat)
  case atStart=>exact ⟨0,_,Nat.zero_le _,rfl,HB0,fun i hi=>by omega,fun i b' off hi=>by omega,g0,hb0⟩
  case round=>
    obtain ⟨k,q,hk,rfl,HQ,HF,HG,HK,hbw⟩:=hrel
    clear HB0 hb0 g0
    by_cases hlt:k<n
    . obtain ⟨ba,oa,rfl,hba,hca⟩:=hR.spot (by omega)
      have c0:=(hbw.cell (p:=⟨ba,oa+k,none⟩) hba).trans (hca k hlt)
      have CF:=C k hlt
      have kf:=blkC HK.out 0 rfl
      obtain ⟨cur,hcur,hsz,hcells⟩:=HQ.out
      have e0:k*3<cur.size:=by omega
      have e1:k*3+1<cur.size:=by omega
      have e2:k*3+2<cur.size:=by omega
      obtain ⟨v0,hv0⟩:∃ v,cur[k*3]?=some v:=⟨_,Array.getElem?_eq_getElem e0⟩
      obtain ⟨v1,hv1⟩:∃ v,cur[k*3+1]?=some v:=⟨_,Array.getElem?_eq_getElem e1⟩
      obtain ⟨v2,hv2⟩:∃ v,cur[k*3+2]?=some v:=⟨_,Array.getElem?_eq_getElem e2⟩
      have HV:Hid (cur[k*3]?=some v0∧cur[k*3+1]?=some v1∧cur[k*3+2]?=some v2):=⟨hv0,hv1,hv2⟩
      have HCUR:Hid (wr.heap[w.heap.size+1]?=some (.cells cur 34 (0,0))):=hcur
      have hgs:w.heap.size+1<wr.heap.size:=(Array.getElem?_eq_some_iff.1 hcur).1
      clear hcells hv0 hv1 hv2 hcur hsz e0 e1 e2 hca C
      have i0:(0:Int)<=(k:Int):=by omega
      have i1:(k:Int)<(n:Int):=by omega
      generalize d k=x at *
      go_wp2_with fail
      refine (CF _ hbw).mono ?_
      rintro _ w3 ⟨v,rfl,hD⟩
      have hb3:=hD.below
      have HD:Hid (DAns wr w3 (V k) v):=hD
      obtain ⟨g,s0,m0,e,rfl,_,hA0⟩:=id hD
      obtain ⟨so,sn,sc,rfl⟩:=hA0.num.shape
      clear hD CF hA0
      have hb4:=bel_trans hb3 (bel_alloc w3 (.cells #[.bool g,.slice so sn sc,.int .i64 e] 34))
      have q0:=(hb4.block (w.heap.size+1) hgs).trans HCUR.out
      have HK4:Hid ((w3.alloc (.cells #[.bool g,.slice so sn sc,.int .i64 e] 34)).heap[w.heap.size]?=some (.cells #[.func (.func F) #[] #[],.func (.func G) #[] #[]] 197 (0,0))):=(hb4.block _ (Array.getElem?_eq_some_iff.1 HK.out).1).trans HK.out
      have qx:=heap_a1 w3 (.cells #[.bool g,.slice so sn sc,.int .i64 e] 34)
      have t0:=blkC qx 0 rfl
      have t1:=blkC qx 1 rfl
      have t2:=blkC qx 2 rfl
      have x0:=blkC q0 (k*3) HV.out.1
      have x1:=blkC q0 (k*3+1) HV.out.2.1
      have x2:=blkC q0 (k*3+2) HV.out.2.2
      have f0:=blkF q0 (k*3)
      have f1:=blkF q0 (k*3+1)
      have f2:=blkF q0 (k*3+2)
      have hn1:w.heap.size+1≠w.heap.size:=by omega
      clear q0 qx kf
      go_wp2
      all_goals
        go_roundw
        case rel=>
          obtain ⟨ng,s,m,e',h1,hyy,hA⟩:=HD.out
          simp only [Value.agg.injEq,Array.mk.injEq,List.cons.injEq,Value.bool.injEq,Value.int.injEq,true_and,and_true] at h1
          obtain ⟨rfl,rfl,rfl⟩:=h1
          obtain ⟨dd,hRd,hNd,hVd,hgd⟩:=hA.open
          have hgs2:∀ b' off,so=some ⟨b',off,none⟩->0<sn->w.heap.size+1<b':=fun b' off he _=>by
            have h9:=hgd b' off he
            omega
          refine ⟨k+1,updN q k ⟨g,so,sn,sc,dd,e⟩,by omega,by go_num,BlkN.step (x:=⟨g,so,sn,sc,dd,e⟩) HQ.out hb4 (hRd.keeps (bel_alloc _ _)) hlt HG.out hgs2,fun i hi=>?_,fun i b' off hi he hn'=>?_,?_,bel_set3' (bel_trans hbw hb4) (by omega) _ _ _⟩
          . by_cases ei:i=k
            . subst ei
              rw [updN_same]
              exact ⟨hNd,by rw [hVd]; exact hyy⟩
            . rw [updN_other _ _ ei]
              exact HF.out i (by omega)
          . by_cases ei:i=k
            . subst ei
              rw [updN_same] at he hn'
              exact hgs2 b' off he hn'
            . rw [updN_other _ _ ei] at he hn'
              exact HG.out i b' off (by omega) he hn'
          . show _=_
            rw [heap_setCell_other _ ⟨w.heap.size+1,_,none⟩ w.heap.size _ (Ne.symm hn1),heap_setCell_other _ ⟨w.heap.size+1,_,none⟩ w.heap.size _ (Ne.symm hn1),heap_setCell_other _ ⟨w.heap.size+1,_,none⟩ w.heap.size _ (Ne.symm hn1)]
            exact HK4.out
        case measure=>simp [intOf]; omega
    . obtain rfl:k=n:=by omega
      go_wp2
      all_goals refine bodyPost_ret (v:=.tuple #[.slice (some ⟨w.heap.size+1,0,none⟩) k k,.bool true]) (by simp [results,Tryz.results208,go_sem]) rfl ⟨_,q,rfl,by omega,HQ.out.nums hn,hbw,HF.out⟩
end Go.Proofs.YtmmnoneehiibiaaGreatDoor
