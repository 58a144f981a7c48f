/- Parts of the proof. -/
import Derived.Test.YteglfnnbpilheaaDoorPart8
set_option linter.unusedVariables false
set_option linter.unusedSimpArgs false
namespace Go.Proofs.YteglfnnbpilheaaDoor
open Go Go.RowKit Go.Proofs.YteglfnnbpilheaaDoor.M
def ipP (z:Int):Int:=if z=0 then 0 else nearP (z * pw 0)
def Sm (z:Int):Prop:=-9007199254740992 < z∧z < 9007199254740992
theorem rTo_0 (g:Bool) {r:Nat} (h:(r:Int) < 9218868437227405312):rTo 0 g r 0=r:=by
  unfold rTo
  rw [if_pos h]
  have e:rUp 0 g (decide (r % 2=1)) 0=false:=by unfold rUp; cases g <;> simp
  rw [e]
  simp
theorem k_sga {z q A:Int} (hq:0 < q) (h:z * q=sg (decide (z * q < 0)) A):A=(z.natAbs:Int) * q∧decide (z * q < 0)=decide (z < 0):=by
  have e:decide (z * q < 0)=decide (z < 0):=k_neg hq
  rw [e] at h ⊢
  exact ⟨k_abs hq h,rfl⟩
theorem ip_form {z:Int} (h:Sm z) (h0:z ≠ 0):∃ r:Nat,(z.natAbs:Int) * pw 0=vS r∧(r:Int) < 9218868437227405312∧0 < r∧ipP z=patS (decide (z < 0)) r:=by
  obtain ⟨r,e,hr⟩:=small_rung (m:=z.natAbs) (by unfold Sm at h; omega)
  have hq:=pw_pos 0
  have hne:z * pw 0 ≠ 0:=k_ne hq h0
  obtain ⟨A,r0,left,hA,hR,hn⟩:=nearP_rung hne
  obtain ⟨eA,eg⟩:=k_sga hq hA
  rw [eA,e] at hR
  obtain ⟨rfl,rfl⟩:=hR.unique (rung_self r)
  rw [eg,rTo_0 _ hr] at hn
  refine ⟨r0,e,hr,?_,?_⟩
  . rcases Nat.eq_zero_or_pos r0 with c | c
    . exfalso
      subst c
      rw [vS_zero] at e
      have h1:0 < (z.natAbs:Int):=by omega
      have:=Int.mul_pos h1 hq
      omega
    . exact c
  . unfold ipP
    rw [if_neg h0]
    exact hn
theorem sg_abs (z:Int) (q:Int):sg (decide (z < 0)) ((z.natAbs:Int) * q)=z * q:=by
  by_cases h:z < 0
  . rw [decide_eq_true h]
    show -((z.natAbs:Int) * q)=_
    rw [<- Int.neg_mul,show -(z.natAbs:Int)=z by omega]
  . rw [decide_eq_false h]
    show (z.natAbs:Int) * q=_
    rw [show (z.natAbs:Int)=z by omega]
theorem ip_facts {z:Int} (h:Sm z):rng (ipP z)∧pok (ipP z)=true∧patV (ipP z)=z * pw 0∧decide (ipP z < 0)=decide (z < 0):=by
  by_cases h0:z=0
  . subst h0
    refine ⟨by unfold ipP rng; simp,by unfold ipP; decide,?_,by unfold ipP; decide⟩
    rw [Int.zero_mul]
    show patV 0=0
    unfold patV
    rw [show pmag 0=0 by decide,sg_zero,Int.zero_mul]
  . obtain ⟨r,e,hr,r0,hp⟩:=ip_form h h0
    obtain ⟨a,b,c⟩:=patS_parts (ng:=decide (z < 0)) (r:=(r:Int)) (by omega) (by omega)
    have d:=patS_fin (ng:=decide (z < 0)) (r:=(r:Int)) (by omega) (by omega)
    rw [hp]
    refine ⟨a,by rw [d]; exact decide_eq_true hr,?_,c⟩
    rw [patV_patS hr (fun _=>r0),<- e,sg_abs]
theorem ip_cls {z:Int} (h:Sm z):cls (ipP z) ≠ 4:=q_fin (ip_facts h).2.1
theorem fsum_fin5 {p q:Int} (hp:rng p) (hq:rng q) (pp:pok p=true) (pq:pok q=true):fsum p q=if patV p + patV q=0 then patS (decide (p < 0) && decide (q < 0)) 0 else nearP (patV p + patV q):=by
  obtain ⟨a1,a2⟩:=fin_cls hp pp
  obtain ⟨b1,b2⟩:=fin_cls hq pq
  unfold fsum
  rw [if_neg (fun c=>c.elim a1 b1),if_neg a2,if_neg b2]
theorem ip_of {z p:Int} {g:Bool} (h:p=if z * pw 0=0 then patS g 0 else nearP (z * pw 0)) (hg:z=0->g=false):p=ipP z:=by
  have hq:=pw_pos 0
  unfold ipP
  by_cases h0:z=0
  . rw [h,if_pos h0,if_pos (by rw [h0,Int.zero_mul]),hg h0]
    rfl
  . rw [h,if_neg h0,if_neg (k_ne hq h0)]
theorem ip_sum {z y:Int} (hz:Sm z) (hy:Sm y):fsum (ipP z) (ipP y)=ipP (z + y):=by
  obtain ⟨a,b,c,d⟩:=ip_facts hz
  obtain ⟨a',b',c',d'⟩:=ip_facts hy
  have e:=fsum_fin5 a a' b b'
  rw [c,c',<- Int.add_mul,d,d'] at e
  refine ip_of e fun h=>?_
  by_cases q:z < 0
  . rw [decide_eq_false (show ¬ y < 0 by omega),Bool.and_false]
  . rw [decide_eq_false q,Bool.false_and]
theorem ip_diff {z y:Int} (hz:Sm z) (hy:Sm y):fsum (ipP z) (neg (ipP y))=ipP (z - y):=by
  obtain ⟨a,b,c,d⟩:=ip_facts hz
  obtain ⟨a',b',c',d'⟩:=ip_facts hy
  obtain ⟨v,n1,n2⟩:=opp5 a' b'
  have e:=fsum_fin5 a n1 b n2
  rw [v,c,c',<- Int.sub_eq_add_neg,<- Int.sub_mul,d,(neg_sign a' (q_fin b')).1,d'] at e
  refine ip_of e fun h=>?_
  have:z=y:=by omega
  subst this
  cases decide (z < 0) <;> rfl
theorem ip_from {n:Int} (h:Sm n):(r64 0 (decide (n < 0)) false n.natAbs 0 false).1=ipP n:=by
  by_cases h0:n=0
  . subst h0
    decide +kernel
  . obtain ⟨r,e,hr,r0,hp⟩:=ip_form h h0
    have hm:n.natAbs ≠ 0:=by omega
    have hq:=pw_pos 0
    have hA:Held ((n.natAbs:Int) * pw 0) n.natAbs 0 false:=⟨Int.le_refl _,by rw [Int.add_mul,Int.one_mul]; exact Int.lt_add_of_pos_right _ hq,by simp⟩
    obtain ⟨s0,left,hR,he⟩:=r64_spec (way:=0) (ng:=decide (n < 0)) (sd:=false) hA (by unfold Sm at h; omega) hm (by decide) (fun c=>by cases c)
    rw [e] at hR
    obtain ⟨rfl,rfl⟩:=hR.unique (rung_self r)
    rw [he,hp,rTo_0 _ hr]
    show patS (decide (n < 0) && (decide ((0:Int) < (s0:Int)) || false)) (s0:Int)=_
    rw [decide_eq_true (show (0:Int) < (s0:Int) by omega)]
    simp
theorem ip_rd {n p:Int} (h:Sm n) (k:Rd5 0 (n * pw 0) p):p=ipP n:=by
  obtain ⟨x,ok,hV,rfl⟩:=k
  by_cases h0:n=0
  . subst h0
    rw [Int.zero_mul] at hV
    have hn:x.n=0:=by
      rcases Nat.eq_zero_or_pos x.n with c | c
      . exact c
      . exfalso
        have h1:=val_posA ok c
        have h2:=(okR_dy ok).1.eq_zero.1 hV
        rw [h2,Int.zero_mul] at h1
        omega
    rw [to_zero ok hn]
    rfl
  . have hn:0 < x.n:=by
      rcases Nat.eq_zero_or_pos x.n with c | c
      . exfalso
        have h1:=(okR_dy ok).1
        rw [c] at h1
        exact k_ne (pw_pos 0) h0 (hV ▸ h1.eq_zero.2 rfl)
      . exact c
    obtain ⟨r,e,hr,r0,hp⟩:=ip_form h h0
    obtain ⟨s0,left,hR,hf⟩:=to_all ok hn
    have hy:=(okR_dy ok).1
    have hval:=hy.val
    rw [hV] at hval
    have hq:=pw_pos 0
    have hpe:=pw_pos x.e
    have hm:0 < val x.d x.n:=by
      rcases hy.form with c | c
      . exfalso; exact k_ne hq h0 (by rw [hval,c.1,sg_zero,Int.zero_mul])
      . exact c.1
    have ng:x.ng=decide (n < 0):=by
      have:=hy.neg_iff
      rw [hV] at this
      have e2:decide (n * pw 0 < 0)=decide (n < 0):=k_neg hq
      cases g:x.ng
      . rw [g] at this
        rw [<- e2]
        symm
        exact decide_eq_false fun c=>by have:=this.2 c; cases this
      . rw [g] at this
        rw [<- e2]
        symm
        exact decide_eq_true (this.1 rfl)
    have eA:val x.d x.n * pw x.e=(n.natAbs:Int) * pw 0:=by
      rw [ng] at hval
      have h2:=sg_abs n (pw 0)
      rw [<- h2] at hval
      have h3:sg (decide (n < 0)) ((n.natAbs:Int) * pw 0)=sg (decide (n < 0)) (val x.d x.n * pw x.e):=by
        rw [hval,sg_sgn,sg_sgn _ (val x.d x.n * pw x.e),Int.mul_assoc]
      exact (sg_inj h3).symm
    rw [eA,e] at hR
    obtain ⟨rfl,rfl⟩:=hR.unique (rung_self r)
    rw [hf 0,hp,ng,rTo_0 _ hr]
    show patS (decide (n < 0) && decide ((0:Int) < (s0:Int))) (s0:Int)=_
    rw [decide_eq_true (show (0:Int) < (s0:Int) by omega),Bool.and_true]
def Gd (p:Int):Prop:=rng p∧cls p ≠ 4
theorem Gd.fw {p:Int} (h:Gd p):FW p (wd p):=FW.pat h.2 h.1
theorem gd_sum {p q s:Int} (hp:Gd p) (hq:Gd q) (hs:Gd s) (h:fsum p q=s) (w:World):(binOp .add 41 (.float .f64 (wd p)) (.float .f64 (wd q))).run Tryd.prog w=.ok (.float .f64 (wd s)) w:=by
  subst h
  exact run_sumN _ hp.fw hq.fw hs.2 w
theorem gd_diff {p q s:Int} (hp:Gd p) (hq:Gd q) (hs:Gd s) (h:fsum p (neg q)=s) (w:World):(binOp .sub 41 (.float .f64 (wd p)) (.float .f64 (wd q))).run Tryd.prog w=.ok (.float .f64 (wd s)) w:=by
  subst h
  exact run_diffN _ hp.fw hq.fw hs.2 w
theorem gd_zero:Gd 0:=⟨by unfold rng; decide,by decide⟩
theorem wd_005:wd 0=0:=by decide
theorem gd_of {p:Int} (h:Gd p) (w:World):Calls Tryd.prog 33 #[.float .f64 (wd p)] w fun e w'=>e=.returned (.int .i64 p)∧w'=w:=of_FW h.fw w
set_option maxRecDepth 100000 in
set_option maxHeartbeats 4000000 in
theorem left_seq {ao:Option Addr} {n ca:Nat} {a S:Nat->Int} (w:World) (ha:Row w ao n ca a) (fa:∀ i,i < n->Gd (a i)) (s0:S 0=0) (gS:∀ k,k <= n->Gd (S k)) (hS:∀ k,k < n->fsum (S k) (a k)=S (k + 1)) :
    Calls Tryd.prog 31 #[.agg #[.func (.func 32) #[] #[],.func (.func 33) #[] #[],.func (.func 26) #[] #[],.func (.func 8) #[] #[]],.slice ao n ca] w fun r w'=>r=.returned (.int .i64 (S n))∧Below w.heap.size w w':=by
  have hst:∀ p F c m w,(store p (.func (.func F) #[] c) m).run Tryd.prog w=stored Tryd.prog w p (.func (.func F) #[] c) m:=fun p F c m w=>run_store _ w p _ m rfl
  have hE:∀ (cap:Array Value) (w:World),(callFunc 32 cap).run Tryd.prog w=.ok (.enter 32 cap) w:=by intro cap w; simp [go_sem]
  have hE2:∀ (cap:Array Value) (w:World),(callFunc 33 cap).run Tryd.prog w=.ok (.enter 33 cap) w:=by intro cap w; simp [go_sem]
  have hla:=ha.le
  have hma:=ha.max
  have hbA:=bel_alloc w (.cells #[.func (.func 32) #[] #[],.func (.func 33) #[] #[],.func (.func 26) #[] #[],.func (.func 8) #[] #[]] 46)
  have gA:=heap_a1 w (.cells #[.func (.func 32) #[] #[],.func (.func 33) #[] #[],.func (.func 26) #[] #[],.func (.func 8) #[] #[]] 46)
  go_enter Tryd.func31,Tryd.ntmps31
  go_wp2_with fail
  generalize w.alloc (.cells #[.func (.func 32) #[] #[],.func (.func 33) #[] #[],.func (.func 26) #[] #[],.func (.func 8) #[] #[]] 46)=wa at hbA gA ⊢
  go_loopw [5,9] (fun sv iv wr=>∃ k:Nat,k <= n∧iv=.int .i64 k∧sv=.float .f64 (wd (S k))∧Below wa.heap.size wa wr) (fun _ iv _=>n - (intOf iv).toNat)
  case atStart=>exact ⟨0,Nat.zero_le _,rfl,by rw [s0,wd_005],bel_refl _⟩
  case round=>
    obtain ⟨k,hk,rfl,rfl,hbw⟩:=hrel
    have hbq:=bel_trans hbA hbw
    have CF:=q_cell (blkC gA 0 rfl) hbw
    have CO:=q_cell (blkC gA 1 rfl) hbw
    by_cases hlt:k < n
    . have i0:(0:Int) <= (k:Int):=by omega
      have i1:(k:Int) < (n:Int):=by omega
      obtain ⟨ba,oa,rfl,hba,hca⟩:=ha.spot (by omega)
      have A0:=q_cell (hca k hlt) hbq
      have C1:Hid (∀ W,Calls Tryd.prog 32 #[.int .i64 (a k)] W fun e w'=>e=.returned (.float .f64 (wd (a k)))∧w'=W):=fun W=>bitsFloat _ W
      have hadd:=gd_sum (gS k hk) (fa k hlt) (gS (k + 1) hlt) (hS k hlt)
      generalize hz:wd (S (k + 1))=Z at hadd
      have HZ:=hideIt hz
      clear hz
      generalize wd (S k)=X at *
      generalize wd (a k)=Y at *
      generalize a k=y at *
      clear CO hca
      go_wp2_with fail
      go_quiet ((go_at_call 32; with_reducible exact Calls.quiet_of_same (C1.out _)))
      go_wp2
      go_roundw
      case rel=>exact ⟨k + 1,hlt,by go_num,by rw [HZ.out],bDrewN hbw nq⟩
      case measure=>simp [intOf]; omega
    . obtain rfl:k=n:=by omega
      have j0:¬ (k:Int) < (k:Int):=by omega
      have C2:=hideIt (gd_of (gS k hk))
      clear CF
      generalize wd (S k)=X at *
      go_wp2_with fail
      refine (C2.out _).mono ?_
      rintro _ _ ⟨rfl,rfl⟩
      go_wp2
      go_ret
      exact ⟨rfl,hbq⟩
set_option maxRecDepth 100000 in
theorem Left_seq {ao:Option Addr} {n ca:Nat} {a S:Nat->Int} (w:World) (ha:Row w ao n ca a) (fa:∀ i,i < n->Gd (a i)) (s0:S 0=0) (gS:∀ k,k <= n->Gd (S k)) (hS:∀ k,k < n->fsum (S k) (a k)=S (k + 1)) :
    Calls Tryd.prog 15 #[.slice ao n ca] w fun r w'=>r=.returned (.int .i64 (S n))∧Below w.heap.size w w':=by
  have C2:Hid (∀ W,Below w.heap.size w W->Calls Tryd.prog 31 #[.agg #[.func (.func 32) #[] #[],.func (.func 33) #[] #[],.func (.func 26) #[] #[],.func (.func 8) #[] #[]],.slice ao n ca] W fun r w'=>r=.returned (.int .i64 (S n))∧Below W.heap.size W w'):=fun W h=>left_seq W (ha.keeps h) fa s0 gS hS
  clear ha fa s0 gS hS
  generalize S n=y at *
  go_enter Tryd.func15,Tryd.ntmps15
  go_wp2_with fail
  refine (binary64F _).mono ?_
  rintro _ y1 ⟨rfl,hw1⟩
  go_wp2_with fail
  refine (C2.out _ hw1).mono ?_
  rintro _ y2 ⟨rfl,hw2⟩
  go_wp2
  go_ret
  exact ⟨rfl,bel_trans hw1 hw2⟩
set_option maxRecDepth 100000 in
set_option maxHeartbeats 4000000 in
theorem Right_seq {ao:Option Addr} {n ca:Nat} {a S:Nat->Int} (w:World) (ha:Row w ao n ca a) (fa:∀ i,i < n->Gd (a i)) (s0:S 0=0) (gS:∀ k,k <= n->Gd (S k)) (hS:∀ k,k < n->fsum (S k) (a (n - 1 - k))=S (k + 1)) :
    Calls Tryd.prog 16 #[.slice ao n ca] w fun r w'=>r=.returned (.int .i64 (S n))∧Below w.heap.size w w':=by
  have hla:=ha.le
  have hma:=ha.max
  go_enter Tryd.func16,Tryd.ntmps16
  go_wp2_with fail
  go_loopw [3,7] (fun sv iv wr=>∃ k:Nat,k <= n∧iv=.int .i64 k∧sv=.float .f64 (wd (S k))∧Below w.heap.size w wr) (fun _ iv _=>n - (intOf iv).toNat)
  case atStart=>exact ⟨0,Nat.zero_le _,rfl,by rw [s0,wd_005],bel_refl _⟩
  case round=>
    obtain ⟨k,hk,rfl,rfl,hbw⟩:=hrel
    by_cases hlt:k < n
    . obtain ⟨ba,oa,rfl,hba,hca⟩:=ha.spot (by omega)
      have A0:=q_cell (hca (n - 1 - k) (by omega)) hbw
      have C1:Hid (∀ W,Calls Tryd.prog 32 #[.int .i64 (a (n - 1 - k))] W fun e w'=>e=.returned (.float .f64 (wd (a (n - 1 - k))))∧w'=W):=fun W=>bitsFloat _ W
      have hadd:=gd_sum (gS k hk) (fa (n - 1 - k) (by omega)) (gS (k + 1) hlt) (hS k hlt)
      generalize hz:wd (S (k + 1))=Z at hadd
      have HZ:=hideIt hz
      clear hz hS
      generalize wd (S k)=X at *
      generalize wd (a (n - 1 - k))=Y at *
      generalize a (n - 1 - k)=y at *
      obtain ⟨i,hi⟩:∃ i:Nat,i=n - 1 - k:=⟨_,rfl⟩
      rw [<- hi] at A0
      have i0:(k:Int) < (n:Int):=by omega
      have i1:(i:Int) < (n:Int):=by omega
      have i2:(n:Int) - 1 - (k:Int)=(i:Int):=by omega
      have i3:(0:Int) <= (i:Int):=by omega
      clear hca hi
      go_wp2_with fail
      refine (C1.out _).mono ?_
      rintro _ _ ⟨rfl,rfl⟩
      clear i2
      go_wp2
      go_roundw
      case rel=>exact ⟨k + 1,hlt,by go_num,by rw [HZ.out],hbw⟩
      case measure=>simp [intOf]; omega
    . obtain rfl:k=n:=by omega
      have j0:¬ (k:Int) < (k:Int):=by omega
      have C2:=hideIt (gd_of (gS k hk))
      generalize wd (S k)=X at *
      go_wp2_with fail
      refine (C2.out _).mono ?_
      rintro _ _ ⟨rfl,rfl⟩
      go_wp2
      go_ret
      exact ⟨rfl,hbw⟩
set_option maxRecDepth 100000 in
set_option maxHeartbeats 4000000 in
theorem Kahan_seq {ao:Option Addr} {n ca:Nat} {a S C Y D:Nat->Int} (w:World) (ha:Row w ao n ca a) (fa:∀ i,i < n->Gd (a i)) (s0:S 0=0) (c0:C 0=0) (gS:∀ k,k <= n->Gd (S k)∧Gd (C k)) (gY:∀ k,k < n->Gd (Y k)∧Gd (D k))
    (hY:∀ k,k < n->fsum (a k) (neg (C k))=Y k∧fsum (S k) (Y k)=S (k + 1)∧fsum (S (k + 1)) (neg (S k))=D k∧fsum (D k) (neg (Y k))=C (k + 1)) :
    Calls Tryd.prog 18 #[.slice ao n ca] w fun r w'=>r=.returned (.int .i64 (S n))∧Below w.heap.size w w':=by
  have hla:=ha.le
  have hma:=ha.max
  go_enter Tryd.func18,Tryd.ntmps18
  go_wp2_with fail
  go_loopw [3,4,10] (fun sv cv iv wr=>∃ k:Nat,k <= n∧iv=.int .i64 k∧sv=.float .f64 (wd (S k))∧cv=.float .f64 (wd (C k))∧Below w.heap.size w wr) (fun _ _ iv _=>n - (intOf iv).toNat)
  case atStart=>exact ⟨0,Nat.zero_le _,rfl,by rw [s0,wd_005],by rw [c0,wd_005],bel_refl _⟩
  case round=>
    obtain ⟨k,hk,rfl,rfl,rfl,hbw⟩:=hrel
    by_cases hlt:k < n
    . have i0:(0:Int) <= (k:Int):=by omega
      have i1:(k:Int) < (n:Int):=by omega
      obtain ⟨ba,oa,rfl,hba,hca⟩:=ha.spot (by omega)
      have A0:=q_cell (hca k hlt) hbw
      have C1:Hid (∀ W,Calls Tryd.prog 32 #[.int .i64 (a k)] W fun e w'=>e=.returned (.float .f64 (wd (a k)))∧w'=W):=fun W=>bitsFloat _ W
      obtain ⟨e1,e2,e3,e4⟩:=hY k hlt
      have r1:=gd_diff (fa k hlt) (gS k hk).2 (gY k hlt).1 e1
      have r2:=gd_sum (gS k hk).1 (gY k hlt).1 (gS (k + 1) hlt).1 e2
      have r3:=gd_diff (gS (k + 1) hlt).1 (gS k hk).1 (gY k hlt).2 e3
      have r4:=gd_diff (gY k hlt).2 (gY k hlt).1 (gS (k + 1) hlt).2 e4
      clear e1 e2 e3 e4 hY
      generalize hz:wd (S (k + 1))=Z at r2 r3
      have HZ:=hideIt hz
      generalize hv:wd (C (k + 1))=V at r4
      have HV:=hideIt hv
      clear hz hv
      generalize wd (S k)=x1 at *
      generalize wd (C k)=x2 at *
      generalize wd (Y k)=x3 at *
      generalize wd (D k)=x4 at *
      generalize wd (a k)=x5 at *
      generalize a k=y at *
      clear hca
      go_wp2_with fail
      refine (C1.out _).mono ?_
      rintro _ _ ⟨rfl,rfl⟩
      go_wp2
      go_roundw
      case rel=>exact ⟨k + 1,hlt,by go_num,by rw [HZ.out],by rw [HV.out],hbw⟩
      case measure=>simp [intOf]; omega
    . obtain rfl:k=n:=by omega
      have j0:¬ (k:Int) < (k:Int):=by omega
      have C2:=hideIt (gd_of (gS k hk).1)
      generalize wd (S k)=X at *
      go_wp2_with fail
      refine (C2.out _).mono ?_
      rintro _ _ ⟨rfl,rfl⟩
      go_wp2
      go_ret
      exact ⟨rfl,hbw⟩
set_option maxRecDepth 100000 in
set_option maxHeartbeats 4000000 in
theorem Neumaier_seq {ao:Option Addr} {n ca:Nat} {a S C D E F G:Nat->Int} {R:Int} (w:World) (ha:Row w ao n ca a) (fa:∀ i,i < n->Gd (a i)) (s0:S 0=0) (c0:C 0=0) (gS:∀ k,k <= n->Gd (S k)∧Gd (C k)) (gY:∀ k,k < n->Gd (D k)∧Gd (E k)∧Gd (F k)∧Gd (G k)) (gR:Gd R) (hR:fsum (S n) (C n)=R)
    (hY:∀ k,k < n->fsum (S k) (a k)=S (k + 1)∧fsum (S k) (neg (S (k + 1)))=D k∧fsum (D k) (a k)=E k∧fsum (C k) (E k)=C (k + 1)∧fsum (a k) (neg (S (k + 1)))=F k∧fsum (F k) (S k)=G k∧fsum (C k) (G k)=C (k + 1)) :
    Calls Tryd.prog 19 #[.slice ao n ca] w fun r w'=>r=.returned (.int .i64 R)∧Below w.heap.size w w':=by
  have hla:=ha.le
  have hma:=ha.max
  go_enter Tryd.func19,Tryd.ntmps19
  go_wp2_with fail
  go_loopw [3,4,10] (fun sv cv iv wr=>∃ k:Nat,k <= n∧iv=.int .i64 k∧sv=.float .f64 (wd (S k))∧cv=.float .f64 (wd (C k))∧Below w.heap.size w wr) (fun _ _ iv _=>n - (intOf iv).toNat)
  case atStart=>exact ⟨0,Nat.zero_le _,rfl,by rw [s0,wd_005],by rw [c0,wd_005],bel_refl _⟩
  case round=>
    obtain ⟨k,hk,rfl,rfl,rfl,hbw⟩:=hrel
    by_cases hlt:k < n
    . have i0:(0:Int) <= (k:Int):=by omega
      have i1:(k:Int) < (n:Int):=by omega
      obtain ⟨ba,oa,rfl,hba,hca⟩:=ha.spot (by omega)
      have A0:=q_cell (hca k hlt) hbw
      have C1:Hid (∀ W,Calls Tryd.prog 32 #[.int .i64 (a k)] W fun e w'=>e=.returned (.float .f64 (wd (a k)))∧w'=W):=fun W=>bitsFloat _ W
      have C3:Hid (∀ W,Calls Tryd.prog 35 #[.float .f64 (wd (a k))] W fun e w'=>e=.returned (.float .f64 (wd (rg (a k))))∧w'=W):=fun W=>mathAbs (fa k hlt).1 W
      have C4:Hid (∀ W,Calls Tryd.prog 35 #[.float .f64 (wd (S k))] W fun e w'=>e=.returned (.float .f64 (wd (rg (S k))))∧w'=W):=fun W=>mathAbs (gS k hk).1.1 W
      obtain ⟨e1,e2,e3,e4,e5,e6,e7⟩:=hY k hlt
      obtain ⟨gD,gE,gF,gG⟩:=gY k hlt
      have r1:=gd_sum (gS k hk).1 (fa k hlt) (gS (k + 1) hlt).1 e1
      have r2:=gd_diff (gS k hk).1 (gS (k + 1) hlt).1 gD e2
      have r3:=gd_sum gD (fa k hlt) gE e3
      have r4:=gd_sum (gS k hk).2 gE (gS (k + 1) hlt).2 e4
      have r5:=gd_diff (fa k hlt) (gS (k + 1) hlt).1 gF e5
      have r6:=gd_sum gF (gS k hk).1 gG e6
      have r7:=gd_sum (gS k hk).2 gG (gS (k + 1) hlt).2 e7
      clear e1 e2 e3 e4 e5 e6 e7 hY gD gE gF gG
      generalize hz:wd (S (k + 1))=Z at r1 r2 r5
      have HZ:=hideIt hz
      generalize hv:wd (C (k + 1))=V at r4 r7
      have HV:=hideIt hv
      clear hz hv
      generalize wd (rg (S k))=x8 at *
      generalize wd (rg (a k))=x9 at *
      generalize wd (S k)=x1 at *
      generalize wd (C k)=x2 at *
      generalize wd (D k)=x3 at *
      generalize wd (E k)=x4 at *
      generalize wd (F k)=x6 at *
      generalize wd (G k)=x7 at *
      generalize wd (a k)=x5 at *
      generalize a k=y at *
      clear hca
      go_wp2_with fail
      refine (C1.out _).mono ?_
      rintro _ _ ⟨rfl,rfl⟩
      go_wp2_with fail
      refine (C3.out _).mono ?_
      rintro _ _ ⟨rfl,rfl⟩
      go_wp2_with fail
      refine (C4.out _).mono ?_
      rintro _ _ ⟨rfl,rfl⟩
      cases ho:FloatKind.f64.format.order x9 x8 with
      | none=>
        go_wp2
        go_roundw
        case rel=>exact ⟨k + 1,hlt,by go_num,by rw [HZ.out],by rw [HV.out],hbw⟩
        case measure=>simp [intOf]; omega
      | some c=>
        cases c
        all_goals go_wp2
        all_goals go_roundw
        all_goals first | exact ⟨k + 1,hlt,by go_num,by rw [HZ.out],by rw [HV.out],hbw⟩ | (simp [intOf]; omega)
    . obtain rfl:k=n:=by omega
      have j0:¬ (k:Int) < (k:Int):=by omega
      have C2:=hideIt (gd_of gR)
      have r1:=gd_sum (gS k hk).1 (gS k hk).2 gR hR
      generalize wd (S k)=x1 at *
      generalize wd (C k)=x2 at *
      generalize wd R=x3 at *
      go_wp2_with fail
      refine (C2.out _).mono ?_
      rintro _ _ ⟨rfl,rfl⟩
      go_wp2
      go_ret
      exact ⟨rfl,hbw⟩
theorem sumF_bd {z:Nat->Int} {M:Int}:∀ n:Nat,(∀ i,i < n->-M <= z i∧z i <= M)->-(n * M) <= sumF z n∧sumF z n <= n * M
  | 0,_=>by simp [sumF]
  | n + 1,h=>by
    have a:=sumF_bd n fun i hi=>h i (by omega)
    have b:=h n (by omega)
    show -(((n + 1:Nat):Int) * M) <= sumF z n + z n∧sumF z n + z n <= ((n + 1:Nat):Int) * M
    rw [show ((n + 1:Nat):Int) * M=(n:Int) * M + M by rw [Int.natCast_add,Int.add_mul]; simp]
    omega
theorem sumF_split (z:Nat->Int) (h:Nat):∀ m,sumF z (h + m)=sumF z h + sumF (fun i=>z (h + i)) m
  | 0=>by show sumF z h=_ + 0; rw [Int.add_zero]
  | m + 1=>by
    show sumF z (h + m) + z (h + m)=_ + (sumF (fun i=>z (h + i)) m + z (h + m))
    rw [sumF_split z h m]; omega
set_option maxRecDepth 100000 in
set_option maxHeartbeats 4000000 in
theorem halves_ip (M:Int) (hM0:0 <= M):∀ (n:Nat) (ao:Option Addr) (ca:Nat) (a z:Nat->Int) (w:World),Row w ao n ca a->(∀ i,i < n->a i=ipP (z i))->(∀ i,i < n->-M <= z i∧z i <= M)->(n:Int) * M < 9007199254740992->M < 9007199254740992 ->
    Calls Tryd.prog 34 #[.slice ao n ca] w fun r w'=>r=.returned (.float .f64 (wd (ipP (sumF z n))))∧∃ m,w'=w.drewN m:=by
  intro n
  induction n using Nat.strongRecOn with
  | ind n ih=>
    intro ao ca a z w R ha hz hn hM
    have hla:=R.le
    have hma:=R.max
    by_cases h0:n=0
    . subst h0
      have e:wd (ipP (sumF z 0))=0:=by show wd (ipP 0)=0; decide
      rw [e]
      go_enter Tryd.func34,Tryd.ntmps34
      go_wp2
      go_ret
      exact ⟨rfl,0,rfl⟩
    . by_cases h1:n=1
      . subst h1
        have e:sumF z 1=z 0:=by show 0 + z 0=z 0; omega
        have s0:Sm (z 0):=by have:=hz 0 (by omega); unfold Sm; omega
        have r1:=gd_sum (p:=ipP (z 0)) (q:=0) (s:=ipP (z 0)) ⟨(ip_facts s0).1,ip_cls s0⟩ gd_zero ⟨(ip_facts s0).1,ip_cls s0⟩ (by have:=ip_sum (z:=z 0) (y:=0) s0 (by unfold Sm; omega); rw [Int.add_zero] at this; exact this)
        rw [wd_005] at r1
        obtain ⟨ba,oa,rfl,hba,hca⟩:=R.spot (by omega)
        have A0:=hca 0 (by omega)
        rw [ha 0 (by omega),Nat.add_zero] at A0
        have C1:Hid (∀ W,Calls Tryd.prog 32 #[.int .i64 (ipP (z 0))] W fun e w'=>e=.returned (.float .f64 (wd (ipP (z 0))))∧w'=W):=fun W=>bitsFloat _ W
        rw [e]
        generalize wd (ipP (z 0))=X at *
        generalize ipP (z 0)=Y at *
        clear hca
        go_enter Tryd.func34,Tryd.ntmps34
        go_wp2_with fail
        refine (C1.out _).mono ?_
        rintro _ _ ⟨rfl,rfl⟩
        go_wp2
        go_ret
        exact ⟨rfl,0,rfl⟩
      . obtain ⟨h,hh⟩:∃ h:Nat,h=n / 2:=⟨_,rfl⟩
        obtain ⟨m,hm⟩:∃ m:Nat,m=n - h:=⟨_,rfl⟩
        obtain ⟨ba,oa,rfl,hba,hca⟩:=R.spot (by omega)
        have nM:∀ k:Nat,k <= n->(k:Int) * M < 9007199254740992:=fun k hk=>Int.lt_of_le_of_lt (Int.mul_le_mul_of_nonneg_right (by omega) hM0) hn
        have R1:Row w (some ⟨ba,oa,none⟩) h ca a:=⟨by omega,hma,(fun e=>by cases e),fun _=>⟨ba,oa,rfl,hba,fun i hi=>hca i (by omega)⟩⟩
        have R2:Row w (some ⟨ba,oa + h,none⟩) m (ca - h) (fun i=>a (h + i)):=⟨by omega,by omega,(fun e=>by cases e),fun _=>⟨ba,oa + h,rfl,hba,fun i hi=>by rw [Nat.add_assoc]; exact hca (h + i) (by omega)⟩⟩
        have C1:Hid (∀ nq,Calls Tryd.prog 34 #[.slice (some ⟨ba,oa,none⟩) h ca] (w.drewN nq) fun e w'=>e=.returned (.float .f64 (wd (ipP (sumF z h))))∧∃ k,w'=(w.drewN nq).drewN k):=fun nq=>ih h (by omega) _ _ a z _ (R1.keeps (bDrewN (bel_refl w) nq)) (fun i hi=>ha i (by omega)) (fun i hi=>hz i (by omega)) (nM h (by omega)) hM
        have C2:Hid (∀ nq,Calls Tryd.prog 34 #[.slice (some ⟨ba,oa + h,none⟩) m (ca - h)] (w.drewN nq) fun e w'=>e=.returned (.float .f64 (wd (ipP (sumF (fun i=>z (h + i)) m))))∧∃ k,w'=(w.drewN nq).drewN k):=fun nq=>ih m (by omega) _ _ (fun i=>a (h + i)) (fun i=>z (h + i)) _ (R2.keeps (bDrewN (bel_refl w) nq)) (fun i hi=>ha (h + i) (by omega)) (fun i hi=>hz (h + i) (by omega)) (nM m (by omega)) hM
        have b1:=sumF_bd h fun i hi=>hz i (by omega)
        have b2:=sumF_bd (z:=fun i=>z (h + i)) m fun i hi=>hz (h + i) (by omega)
        have b3:=nM h (by omega)
        have b4:=nM m (by omega)
        have s1:Sm (sumF z h):=by unfold Sm; omega
        have s2:Sm (sumF (fun i=>z (h + i)) m):=by unfold Sm; omega
        have e:sumF z n=sumF z h + sumF (fun i=>z (h + i)) m:=by rw [<- sumF_split z h m,hm,show h + (n - h)=n by omega]
        have b5:=sumF_bd n hz
        have s3:Sm (sumF z n):=by unfold Sm; omega
        have r1:=gd_sum ⟨(ip_facts s1).1,ip_cls s1⟩ ⟨(ip_facts s2).1,ip_cls s2⟩ ⟨(ip_facts s3).1,ip_cls s3⟩ (by rw [e]; exact ip_sum s1 s2)
        clear e s1 s2 s3 b1 b2 b3 b4 b5 nM R1 R2 hca ih ha hz hM0 hM R
        generalize wd (ipP (sumF z n))=X3 at *
        generalize wd (ipP (sumF z h))=X1 at *
        generalize wd (ipP (sumF (fun i=>z (h + i)) m))=X2 at *
        have i0:¬ (n:Int)=0:=by omega
        have i1:¬ (n:Int)=1:=by omega
        have i2:(n:Int) / 2=(h:Int):=by omega
        have i3:(n:Int).tdiv 2=(h:Int):=by rw [Int.tdiv_eq_ediv_of_nonneg (by omega)]; omega
        have i4:(0:Int) <= (h:Int):=by omega
        have i5:(h:Int) <= (n:Int):=by omega
        have i6:(h:Int) <= (ca:Int):=by omega
        have i7:n - h=m:=by omega
        clear hh hm h0 h1 hn
        go_enter Tryd.func34,Tryd.ntmps34
        go_wp2_with fail
        go_quiet (first | (go_at_call 34; with_reducible exact Calls.quiet_of (C1.out _)) | (go_at_call 34; with_reducible exact Calls.quiet_of (C2.out _)))
        go_wp2
        go_ret
        exact ⟨rfl,nq,rfl⟩
set_option maxRecDepth 100000 in
theorem Pairs_ip {n ca:Nat} {ao:Option Addr} {a z:Nat->Int} {M:Int} (hM0:0 <= M) (hM:M < 9007199254740992) (w:World) (R:Row w ao n ca a) (ha:∀ i,i < n->a i=ipP (z i)) (hz:∀ i,i < n->-M <= z i∧z i <= M) (hn:(n:Int) * M < 9007199254740992) :
    Calls Tryd.prog 17 #[.slice ao n ca] w fun r w'=>r=.returned (.int .i64 (ipP (sumF z n)))∧Below w.heap.size w w':=by
  have b:=sumF_bd n hz
  have s:Sm (sumF z n):=by unfold Sm; omega
  have C1:=hideIt (halves_ip M hM0 n ao ca a z w R ha hz hn hM)
  have C2:=hideIt (gd_of ⟨(ip_facts s).1,ip_cls s⟩)
  clear R ha hz hn b s
  generalize wd (ipP (sumF z n))=X at *
  generalize ipP (sumF z n)=Y at *
  go_enter Tryd.func17,Tryd.ntmps17
  go_wp2_with fail
  refine C1.out.mono ?_
  rintro _ _ ⟨rfl,m,rfl⟩
  go_wp2_with fail
  refine (C2.out _).mono ?_
  rintro _ _ ⟨rfl,rfl⟩
  go_wp2
  go_ret
  exact ⟨rfl,bDrewN (bel_refl _) m⟩
theorem ip_gd {z:Int} (h:Sm z):Gd (ipP z):=⟨(ip_facts h).1,ip_cls h⟩
theorem sm_sub {z:Nat->Int} {M:Int} {n:Nat} (hM0:0 <= M) (hz:∀ i,i < n->-M <= z i∧z i <= M) (hn:(n:Int) * M < 9007199254740992) {k:Nat} (hk:k <= n):Sm (sumF z k):=by
  have b:=sumF_bd k fun i hi=>hz i (by omega)
  have c:(k:Int) * M <= (n:Int) * M:=Int.mul_le_mul_of_nonneg_right (by omega) hM0
  unfold Sm
  omega
theorem ip_zero:ipP 0=0:=by unfold ipP; simp
structure IpL (w:World) (ao:Option Addr) (n ca:Nat) (z:Nat->Int) (M:Int):Prop where
  row:Row w ao n ca (fun i=>ipP (z i))
  m0:0 <= M
  mx:M < 9007199254740992
  bd:∀ i,i < n->-M <= z i∧z i <= M
  tot:(n:Int) * M < 9007199254740992
theorem IpL.sm {w:World} {ao:Option Addr} {n ca:Nat} {z:Nat->Int} {M:Int} (h:IpL w ao n ca z M) {k:Nat} (hk:k <= n):Sm (sumF z k):=sm_sub h.m0 h.bd h.tot hk
theorem IpL.one {w:World} {ao:Option Addr} {n ca:Nat} {z:Nat->Int} {M:Int} (h:IpL w ao n ca z M) {k:Nat} (hk:k < n):Sm (z k):=by
  have:=h.bd k hk
  have:=h.mx
  unfold Sm
  omega
theorem IpL.keeps {w w':World} {ao:Option Addr} {n ca:Nat} {z:Nat->Int} {M:Int} (h:IpL w ao n ca z M) (hb:Below w.heap.size w w'):IpL w' ao n ca z M:=⟨h.row.keeps hb,h.m0,h.mx,h.bd,h.tot⟩
theorem sm_zero:Sm 0:=by unfold Sm; omega
theorem Left_ip {w:World} {ao:Option Addr} {n ca:Nat} {z:Nat->Int} {M:Int} (h:IpL w ao n ca z M) :
    Calls Tryd.prog 15 #[.slice ao n ca] w fun r w'=>r=.returned (.int .i64 (ipP (sumF z n)))∧Below w.heap.size w w' :=
  Left_seq (S:=fun k=>ipP (sumF z k)) w h.row (fun i hi=>ip_gd (h.one hi)) ip_zero (fun k hk=>ip_gd (h.sm hk)) (fun k hk=>ip_sum (h.sm (by omega)) (h.one hk))
theorem Right_ip {w:World} {ao:Option Addr} {n ca:Nat} {z:Nat->Int} {M:Int} (h:IpL w ao n ca z M) :
    Calls Tryd.prog 16 #[.slice ao n ca] w fun r w'=>r=.returned (.int .i64 (ipP (sumF z n)))∧Below w.heap.size w w':=by
  have e:sumF (fun i=>z (n - 1 - i)) n=sumF z n:=sumF_rev n z
  have hs:∀ k,k <= n->Sm (sumF (fun i=>z (n - 1 - i)) k):=fun k hk=>sm_sub h.m0 (fun i hi=>h.bd (n - 1 - i) (by omega)) h.tot hk
  rw [<- e]
  exact Right_seq (S:=fun k=>ipP (sumF (fun i=>z (n - 1 - i)) k)) w h.row (fun i hi=>ip_gd (h.one hi)) ip_zero (fun k hk=>ip_gd (hs k hk)) (fun k hk=>ip_sum (hs k (by omega)) (h.one (by omega)))
theorem Kahan_ip {w:World} {ao:Option Addr} {n ca:Nat} {z:Nat->Int} {M:Int} (h:IpL w ao n ca z M) :
    Calls Tryd.prog 18 #[.slice ao n ca] w fun r w'=>r=.returned (.int .i64 (ipP (sumF z n)))∧Below w.heap.size w w':=by
  refine Kahan_seq (S:=fun k=>ipP (sumF z k)) (C:=fun _=>ipP 0) (Y:=fun k=>ipP (z k)) (D:=fun k=>ipP (z k)) w h.row (fun i hi=>ip_gd (h.one hi)) ip_zero ip_zero (fun k hk=>⟨ip_gd (h.sm hk),ip_gd sm_zero⟩) (fun k hk=>⟨ip_gd (h.one hk),ip_gd (h.one hk)⟩) (fun k hk=>⟨?_,?_,?_,?_⟩)
  . rw [ip_diff (h.one hk) sm_zero,show z k - 0=z k by omega]
  . exact ip_sum (h.sm (by omega)) (h.one hk)
  . rw [ip_diff (h.sm hk) (h.sm (by omega)),show sumF z (k + 1) - sumF z k=z k by show sumF z k + z k - sumF z k=z k; omega]
  . rw [ip_diff (h.one hk) (h.one hk),Int.sub_self]
theorem Neumaier_ip {w:World} {ao:Option Addr} {n ca:Nat} {z:Nat->Int} {M:Int} (h:IpL w ao n ca z M) :
    Calls Tryd.prog 19 #[.slice ao n ca] w fun r w'=>r=.returned (.int .i64 (ipP (sumF z n)))∧Below w.heap.size w w':=by
  have ng:∀ k,k < n->Sm (-(z k)):=fun k hk=>by have:=h.one hk; unfold Sm at *; omega
  have ng2:∀ k,k < n->Sm (-(sumF z k)):=fun k hk=>by have:=h.sm (show k <= n by omega); unfold Sm at *; omega
  have d1:∀ k,sumF z k - sumF z (k + 1)=-(z k):=fun k=>by show sumF z k - (sumF z k + z k)=_; omega
  have d2:∀ k,z k - sumF z (k + 1)=-(sumF z k):=fun k=>by show z k - (sumF z k + z k)=_; omega
  refine Neumaier_seq (S:=fun k=>ipP (sumF z k)) (C:=fun _=>ipP 0) (D:=fun k=>ipP (-(z k))) (E:=fun _=>ipP 0) (F:=fun k=>ipP (-(sumF z k))) (G:=fun _=>ipP 0) w h.row (fun i hi=>ip_gd (h.one hi)) ip_zero ip_zero (fun k hk=>⟨ip_gd (h.sm hk),ip_gd sm_zero⟩) (fun k hk=>⟨ip_gd (ng k hk),ip_gd sm_zero,ip_gd (ng2 k hk),ip_gd sm_zero⟩) (ip_gd (h.sm (Nat.le_refl _))) ?_ (fun k hk=>⟨?_,?_,?_,?_,?_,?_,?_⟩)
  . rw [ip_sum (h.sm (Nat.le_refl _)) sm_zero,Int.add_zero]
  . exact ip_sum (h.sm (by omega)) (h.one hk)
  . rw [ip_diff (h.sm (by omega)) (h.sm hk),d1]
  . rw [ip_sum (ng k hk) (h.one hk),Int.add_left_neg]
  . rw [ip_sum sm_zero sm_zero,Int.add_zero]
  . rw [ip_diff (h.one hk) (h.sm hk),d2]
  . rw [ip_sum (ng2 k hk) (h.sm (by omega)),Int.add_left_neg]
  . rw [ip_sum sm_zero sm_zero,Int.add_zero]
theorem sm5_ip (z:Nat->Int) (n:Nat) (h:∀ i,i < n->Sm (z i)):sm5 (fun i=>ipP (z i)) n=sumF z n * pw 0:=by
  unfold sm5
  rw [sumF_congr (W:=fun i=>z i * pw 0) n fun i hi=>(ip_facts (h i hi)).2.2.1]
  exact sumF_mul z (pw 0) n
theorem Sum_ip {w:World} {ao:Option Addr} {n ca:Nat} {z:Nat->Int} {M:Int} (h:IpL w ao n ca z M) (hn:n <= 1000) (H:Hold4 w) :
    Calls Tryd.prog 7 #[.slice ao n ca,.int .i64 0] w fun r w'=>r=.returned (.tuple #[.int .i64 (ipP (sumF z n)),.int .i64 0])∧Below w.heap.size w w':=by
  refine (Sum5 0 ⟨by omega,by omega⟩ w h.row (fun i hi=>⟨(ip_facts (h.one hi)).1,(ip_facts (h.one hi)).2.1⟩) hn H).mono ?_
  rintro _ w' ⟨p,rfl,hp,hb⟩
  rw [sm5_ip z n fun i hi=>h.one hi] at hp
  rw [ip_rd (h.sm (Nat.le_refl _)) hp]
  exact ⟨rfl,hb⟩
theorem From_ip {n:Int} (h:Sm n) (w:World) (H:Hold4 w) :
    Calls Tryd.prog 14 #[.int .i64 n,.int .i64 0] w fun r w'=>r=.returned (.tuple #[.int .i64 (ipP n),.int .i64 0])∧Below w.heap.size w w':=by
  have:=fromInt_ok n 0 (by unfold Sm at h; unfold rng; omega) ⟨by omega,by omega⟩ w H
  rw [ip_from h] at this
  exact this
end Go.Proofs.YteglfnnbpilheaaDoor
