/- Parts of the proof. -/
import Derived.Test.YteglfnnbpilheaaGreatDoorPart10
set_option linter.unusedVariables false
set_option linter.unusedSimpArgs false
namespace Go.Proofs.YteglfnnbpilheaaGreatDoor
open Go Go.RowKit Go.Proofs.YteglfnnbpilheaaGreatDoor.M
def Gd (p:Int):Prop:=rng p∧cls p ≠ 4
theorem Gd.fw {p:Int} (h:Gd p):FW p (wd p):=FW.pat h.2 h.1
theorem gd_sum {p q s:Int} (hp:Gd p) (hq:Gd q) (hs:Gd s) (h:fsum p q=s) (w:World):(binOp .add 45 (.float .f64 (wd p)) (.float .f64 (wd q))).run Tryz.prog w=.ok (.float .f64 (wd s)) w:=by
  subst h
  exact run_sumN _ hp.fw hq.fw hs.2 w
theorem gd_diff {p q s:Int} (hp:Gd p) (hq:Gd q) (hs:Gd s) (h:fsum p (neg q)=s) (w:World):(binOp .sub 45 (.float .f64 (wd p)) (.float .f64 (wd q))).run Tryz.prog w=.ok (.float .f64 (wd s)) w:=by
  subst h
  exact run_diffN _ hp.fw hq.fw hs.2 w
theorem gd_zero:Gd 0:=⟨by unfold rng; decide,by decide⟩
theorem wd_005:wd 0=0:=by decide
theorem gd_of {p:Int} (h:Gd p) (w:World):Calls Tryz.prog 28 #[.float .f64 (wd p)] w fun e w'=>e=.returned (.int .i64 p)∧w'=w:=of_FW h.fw w
set_option maxRecDepth 100000 in
set_option maxHeartbeats 4000000 in
theorem left_seq {ao:Option Addr} {n ca:Nat} {a S:Nat->Int} (w:World) (ha:Row w ao n ca a) (fa:∀ i,i < n->Gd (a i)) (s0:S 0=0) (gS:∀ k,k <= n->Gd (S k)) (hS:∀ k,k < n->fsum (S k) (a k)=S (k + 1)) :
    Calls Tryz.prog 35 #[.agg #[.func (.func 29) #[] #[],.func (.func 28) #[] #[],.func (.func 43) #[] #[],.func (.func 53) #[] #[]],.slice ao n ca] w fun r w'=>r=.returned (.int .i64 (S n))∧Below w.heap.size w w':=by
  have hst:∀ p F c m w,(store p (.func (.func F) #[] c) m).run Tryz.prog w=stored Tryz.prog w p (.func (.func F) #[] c) m:=fun p F c m w=>run_store _ w p _ m rfl
  have hE:∀ (cap:Array Value) (w:World),(callFunc 29 cap).run Tryz.prog w=.ok (.enter 29 cap) w:=by intro cap w; simp [go_sem]
  have hE2:∀ (cap:Array Value) (w:World),(callFunc 28 cap).run Tryz.prog w=.ok (.enter 28 cap) w:=by intro cap w; simp [go_sem]
  have hla:=ha.le
  have hma:=ha.max
  have hbA:=bel_alloc w (.cells #[.func (.func 29) #[] #[],.func (.func 28) #[] #[],.func (.func 43) #[] #[],.func (.func 53) #[] #[]] 50)
  have gA:=heap_a1 w (.cells #[.func (.func 29) #[] #[],.func (.func 28) #[] #[],.func (.func 43) #[] #[],.func (.func 53) #[] #[]] 50)
  go_enter Tryz.func35,Tryz.ntmps35
  go_wp2_with fail
  generalize w.alloc (.cells #[.func (.func 29) #[] #[],.func (.func 28) #[] #[],.func (.func 43) #[] #[],.func (.func 53) #[] #[]] 50)=wa at hbA gA ⊢
  go_loopw [5,9] (fun sv iv wr=>∃ k:Nat,k <= n∧iv=.int .i64 k∧sv=.float .f64 (wd (S k))∧Below wa.heap.size wa wr) (fun _ iv _=>n - (intOf iv).toNat)
  case atStart=>exact ⟨0,Nat.zero_le _,rfl,by rw [s0,wd_005],bel_refl _⟩
  case round=>
    obtain ⟨k,hk,rfl,rfl,hbw⟩:=hrel
    have hbq:=bel_trans hbA hbw
    have CF:=q_cell (blkC gA 0 rfl) hbw
    have CO:=q_cell (blkC gA 1 rfl) hbw
    by_cases hlt:k < n
    . have i0:(0:Int) <= (k:Int):=by omega
      have i1:(k:Int) < (n:Int):=by omega
      obtain ⟨ba,oa,rfl,hba,hca⟩:=ha.spot (by omega)
      have A0:=q_cell (hca k hlt) hbq
      have C1:Hid (∀ W,Calls Tryz.prog 29 #[.int .i64 (a k)] W fun e w'=>e=.returned (.float .f64 (wd (a k)))∧w'=W):=fun W=>bitsFloat _ W
      have hadd:=gd_sum (gS k hk) (fa k hlt) (gS (k + 1) hlt) (hS k hlt)
      generalize hz:wd (S (k + 1))=Z at hadd
      have HZ:=hideIt hz
      clear hz
      generalize wd (S k)=X at *
      generalize wd (a k)=Y at *
      generalize a k=y at *
      clear CO hca
      go_wp2_with fail
      go_quiet ((go_at_call 29; with_reducible exact Calls.quiet_of_same (C1.out _)))
      go_wp2
      go_roundw
      case rel=>exact ⟨k + 1,hlt,by go_num,by rw [HZ.out],bDrewN hbw nq⟩
      case measure=>simp [intOf]; omega
    . obtain rfl:k=n:=by omega
      have j0:¬ (k:Int) < (k:Int):=by omega
      have C2:=hideIt (gd_of (gS k hk))
      clear CF
      generalize wd (S k)=X at *
      go_wp2_with fail
      refine (C2.out _).mono ?_
      rintro _ _ ⟨rfl,rfl⟩
      go_wp2
      go_ret
      exact ⟨rfl,hbq⟩
set_option maxRecDepth 100000 in
theorem Left_seq {ao:Option Addr} {n ca:Nat} {a S:Nat->Int} (w:World) (ha:Row w ao n ca a) (fa:∀ i,i < n->Gd (a i)) (s0:S 0=0) (gS:∀ k,k <= n->Gd (S k)) (hS:∀ k,k < n->fsum (S k) (a k)=S (k + 1)) :
    Calls Tryz.prog 12 #[.slice ao n ca] w fun r w'=>r=.returned (.int .i64 (S n))∧Below w.heap.size w w':=by
  have C2:Hid (∀ W,Below w.heap.size w W->Calls Tryz.prog 35 #[.agg #[.func (.func 29) #[] #[],.func (.func 28) #[] #[],.func (.func 43) #[] #[],.func (.func 53) #[] #[]],.slice ao n ca] W fun r w'=>r=.returned (.int .i64 (S n))∧Below W.heap.size W w'):=fun W h=>left_seq W (ha.keeps h) fa s0 gS hS
  clear ha fa s0 gS hS
  generalize S n=y at *
  go_enter Tryz.func12,Tryz.ntmps12
  go_wp2_with fail
  refine (binary64F _).mono ?_
  rintro _ y1 ⟨rfl,hw1⟩
  go_wp2_with fail
  refine (C2.out _ hw1).mono ?_
  rintro _ y2 ⟨rfl,hw2⟩
  go_wp2
  go_ret
  exact ⟨rfl,bel_trans hw1 hw2⟩
set_option maxRecDepth 100000 in
set_option maxHeartbeats 4000000 in
theorem Right_seq {ao:Option Addr} {n ca:Nat} {a S:Nat->Int} (w:World) (ha:Row w ao n ca a) (fa:∀ i,i < n->Gd (a i)) (s0:S 0=0) (gS:∀ k,k <= n->Gd (S k)) (hS:∀ k,k < n->fsum (S k) (a (n - 1 - k))=S (k + 1)) :
    Calls Tryz.prog 13 #[.slice ao n ca] w fun r w'=>r=.returned (.int .i64 (S n))∧Below w.heap.size w w':=by
  have hla:=ha.le
  have hma:=ha.max
  go_enter Tryz.func13,Tryz.ntmps13
  go_wp2_with fail
  go_loopw [3,7] (fun sv iv wr=>∃ k:Nat,k <= n∧iv=.int .i64 k∧sv=.float .f64 (wd (S k))∧Below w.heap.size w wr) (fun _ iv _=>n - (intOf iv).toNat)
  case atStart=>exact ⟨0,Nat.zero_le _,rfl,by rw [s0,wd_005],bel_refl _⟩
  case round=>
    obtain ⟨k,hk,rfl,rfl,hbw⟩:=hrel
    by_cases hlt:k < n
    . obtain ⟨ba,oa,rfl,hba,hca⟩:=ha.spot (by omega)
      have A0:=q_cell (hca (n - 1 - k) (by omega)) hbw
      have C1:Hid (∀ W,Calls Tryz.prog 29 #[.int .i64 (a (n - 1 - k))] W fun e w'=>e=.returned (.float .f64 (wd (a (n - 1 - k))))∧w'=W):=fun W=>bitsFloat _ W
      have hadd:=gd_sum (gS k hk) (fa (n - 1 - k) (by omega)) (gS (k + 1) hlt) (hS k hlt)
      generalize hz:wd (S (k + 1))=Z at hadd
      have HZ:=hideIt hz
      clear hz hS
      generalize wd (S k)=X at *
      generalize wd (a (n - 1 - k))=Y at *
      generalize a (n - 1 - k)=y at *
      obtain ⟨i,hi⟩:∃ i:Nat,i=n - 1 - k:=⟨_,rfl⟩
      rw [<- hi] at A0
      have i0:(k:Int) < (n:Int):=by omega
      have i1:(i:Int) < (n:Int):=by omega
      have i2:(n:Int) - 1 - (k:Int)=(i:Int):=by omega
      have i3:(0:Int) <= (i:Int):=by omega
      clear hca hi
      go_wp2_with fail
      refine (C1.out _).mono ?_
      rintro _ _ ⟨rfl,rfl⟩
      clear i2
      go_wp2
      go_roundw
      case rel=>exact ⟨k + 1,hlt,by go_num,by rw [HZ.out],hbw⟩
      case measure=>simp [intOf]; omega
    . obtain rfl:k=n:=by omega
      have j0:¬ (k:Int) < (k:Int):=by omega
      have C2:=hideIt (gd_of (gS k hk))
      generalize wd (S k)=X at *
      go_wp2_with fail
      refine (C2.out _).mono ?_
      rintro _ _ ⟨rfl,rfl⟩
      go_wp2
      go_ret
      exact ⟨rfl,hbw⟩
set_option maxRecDepth 100000 in
set_option maxHeartbeats 4000000 in
theorem Kahan_seq {ao:Option Addr} {n ca:Nat} {a S C Y D:Nat->Int} (w:World) (ha:Row w ao n ca a) (fa:∀ i,i < n->Gd (a i)) (s0:S 0=0) (c0:C 0=0) (gS:∀ k,k <= n->Gd (S k)∧Gd (C k)) (gY:∀ k,k < n->Gd (Y k)∧Gd (D k))
    (hY:∀ k,k < n->fsum (a k) (neg (C k))=Y k∧fsum (S k) (Y k)=S (k + 1)∧fsum (S (k + 1)) (neg (S k))=D k∧fsum (D k) (neg (Y k))=C (k + 1)) :
    Calls Tryz.prog 15 #[.slice ao n ca] w fun r w'=>r=.returned (.int .i64 (S n))∧Below w.heap.size w w':=by
  have hla:=ha.le
  have hma:=ha.max
  go_enter Tryz.func15,Tryz.ntmps15
  go_wp2_with fail
  go_loopw [3,4,10] (fun sv cv iv wr=>∃ k:Nat,k <= n∧iv=.int .i64 k∧sv=.float .f64 (wd (S k))∧cv=.float .f64 (wd (C k))∧Below w.heap.size w wr) (fun _ _ iv _=>n - (intOf iv).toNat)
  case atStart=>exact ⟨0,Nat.zero_le _,rfl,by rw [s0,wd_005],by rw [c0,wd_005],bel_refl _⟩
  case round=>
    obtain ⟨k,hk,rfl,rfl,rfl,hbw⟩:=hrel
    by_cases hlt:k < n
    . have i0:(0:Int) <= (k:Int):=by omega
      have i1:(k:Int) < (n:Int):=by omega
      obtain ⟨ba,oa,rfl,hba,hca⟩:=ha.spot (by omega)
      have A0:=q_cell (hca k hlt) hbw
      have C1:Hid (∀ W,Calls Tryz.prog 29 #[.int .i64 (a k)] W fun e w'=>e=.returned (.float .f64 (wd (a k)))∧w'=W):=fun W=>bitsFloat _ W
      obtain ⟨e1,e2,e3,e4⟩:=hY k hlt
      have r1:=gd_diff (fa k hlt) (gS k hk).2 (gY k hlt).1 e1
      have r2:=gd_sum (gS k hk).1 (gY k hlt).1 (gS (k + 1) hlt).1 e2
      have r3:=gd_diff (gS (k + 1) hlt).1 (gS k hk).1 (gY k hlt).2 e3
      have r4:=gd_diff (gY k hlt).2 (gY k hlt).1 (gS (k + 1) hlt).2 e4
      clear e1 e2 e3 e4 hY
      generalize hz:wd (S (k + 1))=Z at r2 r3
      have HZ:=hideIt hz
      generalize hv:wd (C (k + 1))=V at r4
      have HV:=hideIt hv
      clear hz hv
      generalize wd (S k)=x1 at *
      generalize wd (C k)=x2 at *
      generalize wd (Y k)=x3 at *
      generalize wd (D k)=x4 at *
      generalize wd (a k)=x5 at *
      generalize a k=y at *
      clear hca
      go_wp2_with fail
      refine (C1.out _).mono ?_
      rintro _ _ ⟨rfl,rfl⟩
      go_wp2
      go_roundw
      case rel=>exact ⟨k + 1,hlt,by go_num,by rw [HZ.out],by rw [HV.out],hbw⟩
      case measure=>simp [intOf]; omega
    . obtain rfl:k=n:=by omega
      have j0:¬ (k:Int) < (k:Int):=by omega
      have C2:=hideIt (gd_of (gS k hk).1)
      generalize wd (S k)=X at *
      go_wp2_with fail
      refine (C2.out _).mono ?_
      rintro _ _ ⟨rfl,rfl⟩
      go_wp2
      go_ret
      exact ⟨rfl,hbw⟩
set_option maxRecDepth 100000 in
set_option maxHeartbeats 4000000 in
theorem Neumaier_seq {ao:Option Addr} {n ca:Nat} {a S C D E F G:Nat->Int} {R:Int} (w:World) (ha:Row w ao n ca a) (fa:∀ i,i < n->Gd (a i)) (s0:S 0=0) (c0:C 0=0) (gS:∀ k,k <= n->Gd (S k)∧Gd (C k)) (gY:∀ k,k < n->Gd (D k)∧Gd (E k)∧Gd (F k)∧Gd (G k)) (gR:Gd R) (hR:fsum (S n) (C n)=R)
    (hY:∀ k,k < n->fsum (S k) (a k)=S (k + 1)∧fsum (S k) (neg (S (k + 1)))=D k∧fsum (D k) (a k)=E k∧fsum (C k) (E k)=C (k + 1)∧fsum (a k) (neg (S (k + 1)))=F k∧fsum (F k) (S k)=G k∧fsum (C k) (G k)=C (k + 1)) :
    Calls Tryz.prog 16 #[.slice ao n ca] w fun r w'=>r=.returned (.int .i64 R)∧Below w.heap.size w w':=by
  have hla:=ha.le
  have hma:=ha.max
  go_enter Tryz.func16,Tryz.ntmps16
  go_wp2_with fail
  go_loopw [3,4,10] (fun sv cv iv wr=>∃ k:Nat,k <= n∧iv=.int .i64 k∧sv=.float .f64 (wd (S k))∧cv=.float .f64 (wd (C k))∧Below w.heap.size w wr) (fun _ _ iv _=>n - (intOf iv).toNat)
  case atStart=>exact ⟨0,Nat.zero_le _,rfl,by rw [s0,wd_005],by rw [c0,wd_005],bel_refl _⟩
  case round=>
    obtain ⟨k,hk,rfl,rfl,rfl,hbw⟩:=hrel
    by_cases hlt:k < n
    . have i0:(0:Int) <= (k:Int):=by omega
      have i1:(k:Int) < (n:Int):=by omega
      obtain ⟨ba,oa,rfl,hba,hca⟩:=ha.spot (by omega)
      have A0:=q_cell (hca k hlt) hbw
      have C1:Hid (∀ W,Calls Tryz.prog 29 #[.int .i64 (a k)] W fun e w'=>e=.returned (.float .f64 (wd (a k)))∧w'=W):=fun W=>bitsFloat _ W
      have C3:Hid (∀ W,Calls Tryz.prog 37 #[.float .f64 (wd (a k))] W fun e w'=>e=.returned (.float .f64 (wd (rg (a k))))∧w'=W):=fun W=>mathAbs (fa k hlt).1 W
      have C4:Hid (∀ W,Calls Tryz.prog 37 #[.float .f64 (wd (S k))] W fun e w'=>e=.returned (.float .f64 (wd (rg (S k))))∧w'=W):=fun W=>mathAbs (gS k hk).1.1 W
      obtain ⟨e1,e2,e3,e4,e5,e6,e7⟩:=hY k hlt
      obtain ⟨gD,gE,gF,gG⟩:=gY k hlt
      have r1:=gd_sum (gS k hk).1 (fa k hlt) (gS (k + 1) hlt).1 e1
      have r2:=gd_diff (gS k hk).1 (gS (k + 1) hlt).1 gD e2
      have r3:=gd_sum gD (fa k hlt) gE e3
      have r4:=gd_sum (gS k hk).2 gE (gS (k + 1) hlt).2 e4
      have r5:=gd_diff (fa k hlt) (gS (k + 1) hlt).1 gF e5
      have r6:=gd_sum gF (gS k hk).1 gG e6
      have r7:=gd_sum (gS k hk).2 gG (gS (k + 1) hlt).2 e7
      clear e1 e2 e3 e4 e5 e6 e7 hY gD gE gF gG
      generalize hz:wd (S (k + 1))=Z at r1 r2 r5
      have HZ:=hideIt hz
      generalize hv:wd (C (k + 1))=V at r4 r7
      have HV:=hideIt hv
      clear hz hv
      generalize wd (rg (S k))=x8 at *
      generalize wd (rg (a k))=x9 at *
      generalize wd (S k)=x1 at *
      generalize wd (C k)=x2 at *
      generalize wd (D k)=x3 at *
      generalize wd (E k)=x4 at *
      generalize wd (F k)=x6 at *
      generalize wd (G k)=x7 at *
      generalize wd (a k)=x5 at *
      generalize a k=y at *
      clear hca
      go_wp2_with fail
      refine (C1.out _).mono ?_
      rintro _ _ ⟨rfl,rfl⟩
      go_wp2_with fail
      refine (C3.out _).mono ?_
      rintro _ _ ⟨rfl,rfl⟩
      go_wp2_with fail
      refine (C4.out _).mono ?_
      rintro _ _ ⟨rfl,rfl⟩
      cases ho:FloatKind.f64.format.order x9 x8 with
      | none=>
        go_wp2
        go_roundw
        case rel=>exact ⟨k + 1,hlt,by go_num,by rw [HZ.out],by rw [HV.out],hbw⟩
        case measure=>simp [intOf]; omega
      | some c=>
        cases c
        all_goals go_wp2
        all_goals go_roundw
        all_goals first | exact ⟨k + 1,hlt,by go_num,by rw [HZ.out],by rw [HV.out],hbw⟩ | (simp [intOf]; omega)
    . obtain rfl:k=n:=by omega
      have j0:¬ (k:Int) < (k:Int):=by omega
      have C2:=hideIt (gd_of gR)
      have r1:=gd_sum (gS k hk).1 (gS k hk).2 gR hR
      generalize wd (S k)=x1 at *
      generalize wd (C k)=x2 at *
      generalize wd R=x3 at *
      go_wp2_with fail
      refine (C2.out _).mono ?_
      rintro _ _ ⟨rfl,rfl⟩
      go_wp2
      go_ret
      exact ⟨rfl,hbw⟩
structure IpL (w:World) (ao:Option Addr) (n ca:Nat) (z:Nat->Int) (M:Int):Prop where
  row:Row w ao n ca (fun i=>ipP (z i))
  m0:0 <= M
  mx:M < 9007199254740992
  bd:∀ i,i < n->-M <= z i∧z i <= M
  tot:(n:Int) * M < 9007199254740992
theorem IpL.one {w:World} {ao:Option Addr} {n ca:Nat} {z:Nat->Int} {M:Int} (h:IpL w ao n ca z M) {k:Nat} (hk:k < n):Sm (z k):=by
  have:=h.bd k hk
  have:=h.mx
  unfold Sm
  omega
theorem IpL.keeps {w w':World} {ao:Option Addr} {n ca:Nat} {z:Nat->Int} {M:Int} (h:IpL w ao n ca z M) (hb:Below w.heap.size w w'):IpL w' ao n ca z M:=⟨h.row.keeps hb,h.m0,h.mx,h.bd,h.tot⟩
theorem cls0_V {a:Int} (pa:pok a=true):cls a=0 ↔ patV a=0:=by
  have hf:¬ fld a=2047:=by unfold pok at pa; simpa using pa
  have hr:0 <= frc a:=by unfold frc; omega
  have hm:pmag a=if fld a=0 then frc a else 4503599627370496 + frc a:=by unfold pmag; rw [if_neg hf]
  have hv:patV a=0 ↔ pmag a=0:=by
    have hq:=pw_pos (pexp a)
    unfold patV
    constructor
    . intro h
      rcases Int.mul_eq_zero.1 h with c | c
      . exact sg_eq_zero c
      . omega
    . intro h
      rw [h,sg_zero,Int.zero_mul]
  rw [hv,hm]
  unfold cls
  rw [if_neg hf]
  by_cases h0:fld a=0
  . rw [if_pos h0,if_pos h0]
    by_cases h1:frc a=0
    . rw [if_pos h1]; simp [h1]
    . rw [if_neg h1]; simp; omega
  . rw [if_neg h0,if_neg h0]
    simp; omega
theorem canon_V {a:Int} (pa:pok a=true):canon a=if patV a=0 then 0 else a:=by
  unfold canon
  rw [if_neg (q_fin pa)]
  by_cases h:patV a=0
  . rw [if_pos h,if_pos ((cls0_V pa).2 h)]
  . rw [if_neg h,if_neg fun c=>h ((cls0_V pa).1 c)]
theorem pat_of5 {p:Int} (hp:rng p):p=patS (decide (p < 0)) (rg p):=by
  unfold rng at hp
  unfold patS rg
  by_cases h:p < 0
  . rw [decide_eq_true h]; simp [h]
  . rw [decide_eq_false h]; simp [h]
theorem k_sgpos {g:Bool} {A B:Int} (hB:0 < B) (h:sg g B=sg (decide (sg g B < 0)) A):decide (sg g B < 0)=g∧A=B:=by
  cases g
  . have h1:¬ sg false B < 0:=by unfold sg; simp; omega
    rw [decide_eq_false h1] at h ⊢
    exact ⟨rfl,h.symm⟩
  . have h1:sg true B < 0:=by unfold sg; simp; omega
    rw [decide_eq_true h1] at h ⊢
    exact ⟨rfl,(sg_inj h).symm⟩
theorem near_self5 {p:Int} (rp:rng p) (pp:pok p=true) (h:patV p ≠ 0):nearP (patV p)=p:=by
  have hlt:=(pok_rg rp).1 pp
  obtain ⟨q0,q1⟩:=q_rg rp
  obtain ⟨r,hr⟩:∃ r:Nat,(r:Int)=rg p:=⟨(rg p).toNat,by omega⟩
  have e:=pat_of5 rp
  rw [<- hr] at e hlt
  have r0:0 < r:=by
    rcases Nat.eq_zero_or_pos r with c | c
    . exfalso
      subst c
      apply h
      rw [e]
      cases decide (p < 0)
      . show patV 0=0
        unfold patV
        rw [show pmag 0=0 by decide,sg_zero,Int.zero_mul]
      . show patV (-9223372036854775808)=0
        unfold patV
        rw [show pmag (-9223372036854775808)=0 by decide,sg_zero,Int.zero_mul]
    . exact c
  have hv:patV p=sg (decide (p < 0)) (vS r):=by
    conv=>lhs; rw [e]
    exact patV_patS hlt fun _=>r0
  have hpos:0 < vS r:=by
    have:=vS_lt r0
    rw [vS_zero] at this
    exact this
  obtain ⟨A,s0,left,hA,hR,hn⟩:=nearP_rung h
  rw [hv] at hA hn ⊢
  obtain ⟨g1,g2⟩:=k_sgpos hpos hA
  rw [g2] at hR
  obtain ⟨rfl,rfl⟩:=hR.unique (rung_self r)
  rw [g1,rTo_0 _ hlt] at hn
  rw [hn]
  exact e.symm
theorem zero_V5:patV 0=0:=by
  unfold patV
  rw [show pmag 0=0 by decide,sg_zero,Int.zero_mul]
theorem mzero_V5:patV (neg 0)=0:=by
  unfold patV
  rw [show pmag (neg 0)=0 by decide,sg_zero,Int.zero_mul]
theorem fin_0:rng 0∧pok 0=true:=⟨by unfold rng; decide,by decide⟩
theorem fin_m0:rng (neg 0)∧pok (neg 0)=true:=⟨by unfold rng; decide,by decide⟩
theorem sum_0a {a:Int} (ra:rng a) (pa:pok a=true):fsum 0 a=canon a:=by
  rw [fsum_fin5 fin_0.1 ra fin_0.2 pa,zero_V5,Int.zero_add,canon_V pa]
  by_cases h:patV a=0
  . rw [if_pos h,if_pos h]; rfl
  . rw [if_neg h,if_neg h,near_self5 ra pa h]
theorem sum_a0 {a:Int} (ra:rng a) (pa:pok a=true):fsum a 0=canon a:=by
  rw [fsum_fin5 ra fin_0.1 pa fin_0.2,zero_V5,Int.add_zero,canon_V pa]
  by_cases h:patV a=0
  . rw [if_pos h,if_pos h]; simp; rfl
  . rw [if_neg h,if_neg h,near_self5 ra pa h]
theorem zero_pat {a:Int} (ra:rng a) (pa:pok a=true) (h:patV a=0):a=patS (decide (a < 0)) 0:=by
  have c:=(cls0_V pa).2 h
  have hf:¬ fld a=2047:=by unfold pok at pa; simpa using pa
  unfold cls at c
  rw [if_neg hf] at c
  have h1:fld a=0∧frc a=0:=by
    by_cases q:fld a=0
    . rw [if_pos q] at c
      refine ⟨q,?_⟩
      by_cases r:frc a=0
      . exact r
      . rw [if_neg r] at c; cases c
    . rw [if_neg q] at c; cases c
  unfold fld frc at h1
  unfold rng at ra
  unfold patS
  by_cases q:a < 0
  . rw [decide_eq_true q]; simp; omega
  . rw [decide_eq_false q]; simp; omega
theorem sum_am0 {a:Int} (ra:rng a) (pa:pok a=true):fsum a (neg 0)=a:=by
  rw [fsum_fin5 ra fin_m0.1 pa fin_m0.2,mzero_V5,Int.add_zero]
  by_cases h:patV a=0
  . rw [if_pos h,show decide (neg 0 < 0)=true by decide,Bool.and_true]
    exact (zero_pat ra pa h).symm
  . rw [if_neg h,near_self5 ra pa h]
theorem canon_pV {a:Int} (pa:pok a=true):patV (canon a)=patV a:=by
  rw [canon_V pa]
  by_cases h:patV a=0
  . rw [if_pos h,zero_V5,h]
  . rw [if_neg h]
theorem canon_lt {a:Int} (pa:pok a=true) (h:canon a < 0):patV a ≠ 0∧a < 0:=by
  rw [canon_V pa] at h
  by_cases c:patV a=0
  . rw [if_pos c] at h; omega
  . rw [if_neg c] at h; exact ⟨c,h⟩
theorem neg_V {a:Int} (ra:rng a) (pa:pok a=true) (h:a < 0):patV a <= 0:=by
  unfold patV
  have hn:pneg a=true:=by unfold pneg; rw [pa]; simp [h]
  have hm:=(pmag_in pa).1
  rw [hn]
  have hq:=pw_pos (pexp a)
  show -pmag a * pw (pexp a) <= 0
  rw [Int.neg_mul]
  have:=Int.mul_nonneg hm (Int.le_of_lt hq)
  omega
theorem sum_V {x b:Int} (rx:rng x) (rb:rng b) (px:pok x=true) (pb:pok b=true) (hx:x < 0->patV x ≠ 0):fsum x b=if patV x + patV b=0 then 0 else nearP (patV x + patV b):=by
  rw [fsum_fin5 rx rb px pb]
  by_cases h:patV x + patV b=0
  . rw [if_pos h,if_pos h]
    by_cases c:x < 0
    . have h1:=neg_V rx px c
      have h2:=hx c
      by_cases d:b < 0
      . have h3:=neg_V rb pb d
        omega
      . rw [decide_eq_false d,Bool.and_false]; rfl
    . rw [decide_eq_false c,Bool.false_and]; rfl
  . rw [if_neg h,if_neg h]
theorem vS_one5:vS 1=pw (-1074):=by
  unfold vS
  rw [show V Ieee.double 1=1 by decide]
  simp
theorem rTo_pos5 (g:Bool) {r:Nat} (l:Int) (h:0 < r):0 < rTo 0 g r l:=by
  unfold rTo
  split
  . split <;> omega
  . unfold bRung
    split <;> omega
theorem rd_near5 {V p:Int} (k:Rd5 0 V p) (hT:∃ T:Int,V=T * pw (-1074)):p=if V=0 then 0 else nearP V:=by
  obtain ⟨x,ok,hV,rfl⟩:=k
  by_cases h0:V=0
  . rw [if_pos h0]
    rw [h0] at hV
    have hn:x.n=0:=by
      rcases Nat.eq_zero_or_pos x.n with c | c
      . exact c
      . exfalso
        have h1:=val_posA ok c
        have h2:=(okR_dy ok).1.eq_zero.1 hV
        rw [h2,Int.zero_mul] at h1
        omega
    rw [to_zero ok hn]
  . rw [if_neg h0]
    have hn:0 < x.n:=by
      rcases Nat.eq_zero_or_pos x.n with c | c
      . exfalso
        have h1:=(okR_dy ok).1
        rw [c] at h1
        exact h0 (hV ▸ h1.eq_zero.2 rfl)
      . exact c
    obtain ⟨s0,left,hR,hf⟩:=to_all ok hn
    have hpos:=val_posA ok hn
    have hy:=(okR_dy ok).1
    have hval:=hy.val
    rw [hV] at hval
    have hval2:V=sg x.ng (val x.d x.n * pw x.e):=by rw [hval,sg_sgn,sg_sgn _ (val x.d x.n * pw x.e),Int.mul_assoc]
    obtain ⟨A,r0,l0,hA,hR0,hn0⟩:=nearP_rung h0
    generalize val x.d x.n * pw x.e=Bv at *
    rw [hval2] at hA hn0 ⊢
    obtain ⟨g1,g2⟩:=k_sgpos hpos hA
    rw [g2] at hR0
    obtain ⟨rfl,rfl⟩:=hR0.unique hR
    rw [hn0,hf 0,g1]
    show patS (x.ng && decide (0 < rTo 0 x.ng r0 l0)) (rTo 0 x.ng r0 l0)=patS x.ng (rTo 0 x.ng r0 l0)
    cases hg:x.ng
    . rfl
    . have hq:=pw_pos (-1074)
      have hr:0 < r0:=by
        rcases Nat.eq_zero_or_pos r0 with c | c
        . exfalso
          subst c
          obtain ⟨T,hT⟩:=hT
          have h1:=hR.hi
          have h2:Bv < pw (-1074):=by rw [<- vS_one5]; exact h1
          rw [hT,hg] at hval2
          have h3:T * pw (-1074)=-Bv:=hval2
          generalize pw (-1074)=q at h2 h3 hq
          have h4:T < 0:=by
            rcases Int.lt_or_le T 0 with d | d
            . exact d
            . have:=Int.mul_nonneg d (Int.le_of_lt hq)
              omega
          have h5:T * q <= -1 * q:=Int.mul_le_mul_of_nonneg_right (by omega) (Int.le_of_lt hq)
          omega
        . exact c
      rw [decide_eq_true (rTo_pos5 true l0 hr)]
      rfl
theorem sum_mult5 {a:Nat->Int}:∀ n,Fin5 a n->∃ T:Int,sm5 a n=T * pw (-1074)
  | 0,_=>⟨0,by rw [Int.zero_mul]; rfl⟩
  | n + 1,h=>by
    obtain ⟨T,e⟩:=sum_mult5 n fun i hi=>h i (by omega)
    have hn:=h n (by omega)
    refine ⟨T + iV (a n),?_⟩
    show sm5 a n + patV (a n)=_
    rw [e,patV_iV hn.1 hn.2,Int.add_mul]
structure Two5 (a b x s t:Int):Prop where
  rx:rng x
  px:pok x=true
  l1:fsum 0 a=x
  l2:fsum x b=s
  r1:∃ y,fsum 0 b=y∧canon b=y∧rng y∧pok y=true∧fsum y a=t∧fsum x y=s
  gs:Gd s
  gt:Gd t
theorem gd_fsum {p q:Int} (rp:rng p) (rq:rng q) (pp:pok p=true) (pq:pok q=true):Gd (fsum p q):=by
  rw [fsum_fin5 rp rq pp pq]
  by_cases h:patV p + patV q=0
  . rw [if_pos h]
    exact patS_rng (by omega) (by omega)
  . rw [if_neg h]
    exact nearP_pat h
theorem fin_gd {p:Int} (rp:rng p) (pp:pok p=true):Gd p:=⟨rp,q_fin pp⟩
theorem canon_neg0 {a:Int} (pa:pok a=true):canon a < 0->patV (canon a) ≠ 0:=fun h=>by
  rw [canon_pV pa]
  exact (canon_lt pa h).1
theorem two5 {a b:Int} (ra:rng a) (rb:rng b) (pa:pok a=true) (pb:pok b=true):Two5 a b (canon a) (fsum (canon a) b) (fsum (canon b) a):=by
  obtain ⟨c1,c2⟩:=canon_fin ra pa
  obtain ⟨d1,d2⟩:=canon_fin rb pb
  refine ⟨c1,c2,sum_0a ra pa,rfl,⟨canon b,sum_0a rb pb,rfl,d1,d2,rfl,?_⟩,gd_fsum c1 rb c2 pb,gd_fsum d1 ra d2 pa⟩
  rw [sum_V c1 d1 c2 d2 (canon_neg0 pa),sum_V c1 rb c2 pb (canon_neg0 pa),canon_pV pb]
theorem canon_abs5 {a:Int} (ra:rng a) (pa:pok a=true):canon (abs a)=abs (canon a):=by
  have h4:=q_fin pa
  by_cases h:patV a=0
  . rw [canon_V pa,if_pos h]
    have e:=zero_pat ra pa h
    rw [e]
    cases decide (a < 0) <;> decide
  . rw [canon_V pa,if_neg h]
    have hc:¬ cls a=0:=fun c=>h ((cls0_V pa).1 c)
    unfold canon
    have ea:cls (abs a)=cls a:=by
      unfold abs
      rw [if_neg h4]
      by_cases q:a < 0
      . rw [if_pos q]
        unfold rng at ra
        unfold cls fld frc
        rw [show (a + 9223372036854775808) / 4503599627370496 % 2048=a / 4503599627370496 % 2048 by omega,show (a + 9223372036854775808) % 4503599627370496=a % 4503599627370496 by omega]
      . rw [if_neg q]
    rw [ea,if_neg h4,if_neg hc]
set_option maxRecDepth 100000 in
set_option maxHeartbeats 2000000 in
theorem halves_1 {ao:Option Addr} {ca:Nat} {a:Nat->Int} {y:Int} (w:World) (R:Row w ao 1 ca a) (ha:a 0=y) (ry:rng y) (py:pok y=true) :
    Calls Tryz.prog 36 #[.slice ao 1 ca] w fun r w'=>r=.returned (.float .f64 (wd (canon y)))∧w'=w:=by
  have hla:=R.le
  have hma:=R.max
  obtain ⟨c1,c2⟩:=canon_fin ry py
  have r1:=gd_sum (fin_gd ry py) gd_zero (fin_gd c1 c2) (sum_a0 ry py)
  rw [wd_005] at r1
  obtain ⟨ba,oa,rfl,hba,hca⟩:=R.spot (by omega)
  have A0:=hca 0 (by omega)
  rw [ha,Nat.add_zero] at A0
  have C1:Hid (∀ W,Calls Tryz.prog 29 #[.int .i64 y] W fun e w'=>e=.returned (.float .f64 (wd y))∧w'=W):=fun W=>bitsFloat _ W
  generalize wd (canon y)=Z at *
  generalize wd y=X at *
  clear hca
  go_enter Tryz.func36,Tryz.ntmps36
  go_wp2_with fail
  refine (C1.out _).mono ?_
  rintro _ _ ⟨rfl,rfl⟩
  go_wp2
  go_ret
  exact ⟨rfl,rfl⟩
set_option maxRecDepth 100000 in
theorem Pairs_1 {ao:Option Addr} {ca:Nat} {a:Nat->Int} {y:Int} (w:World) (R:Row w ao 1 ca a) (ha:a 0=y) (ry:rng y) (py:pok y=true) :
    Calls Tryz.prog 14 #[.slice ao 1 ca] w fun r w'=>r=.returned (.int .i64 (canon y))∧Below w.heap.size w w':=by
  obtain ⟨c1,c2⟩:=canon_fin ry py
  have C1:=hideIt (halves_1 w R ha ry py)
  have C2:=hideIt (gd_of (fin_gd c1 c2))
  clear R
  generalize wd (canon y)=X at *
  generalize canon y=Y at *
  go_enter Tryz.func14,Tryz.ntmps14
  go_wp2_with fail
  refine C1.out.mono ?_
  rintro _ _ ⟨rfl,rfl⟩
  go_wp2_with fail
  refine (C2.out _).mono ?_
  rintro _ _ ⟨rfl,rfl⟩
  go_wp2
  go_ret
  exact ⟨rfl,bel_refl _⟩
set_option maxRecDepth 100000 in
set_option maxHeartbeats 2000000 in
theorem halves_2 {ba oa ca:Nat} {a:Nat->Int} {x y s:Int} (w:World) (R:Row w (some ⟨ba,oa,none⟩) 2 ca a) (h0:a 0=x) (h1:a 1=y) (rx:rng x) (px:pok x=true) (ry:rng y) (py:pok y=true) (gs:Gd s) (hs:fsum (canon x) (canon y)=s) :
    Calls Tryz.prog 36 #[.slice (some ⟨ba,oa,none⟩) 2 ca] w fun r w'=>r=.returned (.float .f64 (wd s))∧∃ m,w'=w.drewN m:=by
  have hla:=R.le
  have hma:=R.max
  obtain ⟨c1,c2⟩:=canon_fin rx px
  obtain ⟨d1,d2⟩:=canon_fin ry py
  have r1:=gd_sum (fin_gd c1 c2) (fin_gd d1 d2) gs hs
  obtain ⟨ba',oa',e,hba,hca⟩:=R.spot (by omega)
  simp only [Option.some.injEq,Addr.mk.injEq,and_true] at e
  obtain ⟨rfl,rfl⟩:=e
  have R1:Row w (some ⟨ba,oa,none⟩) 1 ca a:=⟨by omega,hma,(fun e=>by cases e),fun _=>⟨ba,oa,rfl,hba,fun i hi=>hca i (by omega)⟩⟩
  have R2:Row w (some ⟨ba,oa + 1,none⟩) 1 (ca - 1) (fun i=>a (1 + i)):=⟨by omega,by omega,(fun e=>by cases e),fun _=>⟨ba,oa + 1,rfl,hba,fun i hi=>by rw [Nat.add_assoc]; exact hca (1 + i) (by omega)⟩⟩
  have C1:Hid (∀ nq,Calls Tryz.prog 36 #[.slice (some ⟨ba,oa,none⟩) 1 ca] (w.drewN nq) fun e w'=>e=.returned (.float .f64 (wd (canon x)))∧w'=w.drewN nq):=fun nq=>halves_1 _ (R1.keeps (bDrewN (bel_refl w) nq)) h0 rx px
  have C2:Hid (∀ nq,Calls Tryz.prog 36 #[.slice (some ⟨ba,oa + 1,none⟩) 1 (ca - 1)] (w.drewN nq) fun e w'=>e=.returned (.float .f64 (wd (canon y)))∧w'=w.drewN nq):=fun nq=>halves_1 _ (R2.keeps (bDrewN (bel_refl w) nq)) h1 ry py
  clear R R1 R2 hca h0 h1
  generalize wd (canon x)=X1 at *
  generalize wd (canon y)=X2 at *
  generalize wd s=X3 at *
  have i6:(1:Int) <= (ca:Int):=by omega
  go_enter Tryz.func36,Tryz.ntmps36
  go_wp2_with fail
  go_quiet (first | (go_at_call 36; with_reducible exact Calls.quiet_of_same (C1.out _)) | (go_at_call 36; with_reducible exact Calls.quiet_of_same (C2.out _)))
  go_wp2
  go_ret
  exact ⟨rfl,nq,rfl⟩
set_option maxRecDepth 100000 in
theorem Pairs_2 {ba oa ca:Nat} {a:Nat->Int} {x y s:Int} (w:World) (R:Row w (some ⟨ba,oa,none⟩) 2 ca a) (h0:a 0=x) (h1:a 1=y) (rx:rng x) (px:pok x=true) (ry:rng y) (py:pok y=true) (gs:Gd s) (hs:fsum (canon x) (canon y)=s) :
    Calls Tryz.prog 14 #[.slice (some ⟨ba,oa,none⟩) 2 ca] w fun r w'=>r=.returned (.int .i64 s)∧Below w.heap.size w w':=by
  have C1:=hideIt (halves_2 w R h0 h1 rx px ry py gs hs)
  have C2:=hideIt (gd_of gs)
  clear R hs
  generalize wd s=X at *
  go_enter Tryz.func14,Tryz.ntmps14
  go_wp2_with fail
  refine C1.out.mono ?_
  rintro _ _ ⟨rfl,m,rfl⟩
  go_wp2_with fail
  refine (C2.out _).mono ?_
  rintro _ _ ⟨rfl,rfl⟩
  go_wp2
  go_ret
  exact ⟨rfl,bDrewN (bel_refl _) m⟩
theorem ones5a {ao:Option Addr} {ca:Nat} {a:Int} (w:World) (R:Row w ao 1 ca (fun _=>a)) (ra:rng a) (pa:pok a=true) :
    Calls Tryz.prog 12 #[.slice ao 1 ca] w (fun r w'=>r=.returned (.int .i64 (canon a))∧Below w.heap.size w w')∧Calls Tryz.prog 13 #[.slice ao 1 ca] w (fun r w'=>r=.returned (.int .i64 (canon a))∧Below w.heap.size w w'):=by
  obtain ⟨c1,c2⟩:=canon_fin ra pa
  have gg:∀ k,k <= 1->Gd ((fun k=>if k=0 then 0 else canon a:Nat->Int) k):=fun k hk=>by
    show Gd (if k=0 then 0 else canon a)
    split
    . exact gd_zero
    . exact fin_gd c1 c2
  have hh:∀ k,k < 1->fsum ((fun k=>if k=0 then 0 else canon a:Nat->Int) k) a=(fun k=>if k=0 then 0 else canon a:Nat->Int) (k + 1):=fun k hk=>by
    obtain rfl:k=0:=by omega
    exact sum_0a ra pa
  exact ⟨Left_seq (S:=fun k=>if k=0 then 0 else canon a) w R (fun _ _=>fin_gd ra pa) rfl gg hh,Right_seq (S:=fun k=>if k=0 then 0 else canon a) w R (fun _ _=>fin_gd ra pa) rfl gg hh⟩
theorem Kahan_1 {ao:Option Addr} {ca:Nat} {a:Int} (w:World) (R:Row w ao 1 ca (fun _=>a)) (ra:rng a) (pa:pok a=true) :
    Calls Tryz.prog 15 #[.slice ao 1 ca] w (fun r w'=>r=.returned (.int .i64 (canon a))∧Below w.heap.size w w'):=by
  obtain ⟨c1,c2⟩:=canon_fin ra pa
  obtain ⟨_,n1,n2⟩:=opp5 ra pa
  refine Kahan_seq (S:=fun k=>if k=0 then 0 else canon a) (C:=fun k=>if k=0 then 0 else fsum (canon a) (neg a)) (Y:=fun _=>a) (D:=fun _=>canon a) w R (fun _ _=>fin_gd ra pa) rfl rfl (fun k hk=>?_) (fun k hk=>⟨fin_gd ra pa,fin_gd c1 c2⟩) (fun k hk=>?_)
  . show Gd (if k=0 then 0 else canon a)∧Gd (if k=0 then 0 else fsum (canon a) (neg a))
    split
    . exact ⟨gd_zero,gd_zero⟩
    . exact ⟨fin_gd c1 c2,gd_fsum c1 n1 c2 n2⟩
  . obtain rfl:k=0:=by omega
    exact ⟨sum_am0 ra pa,sum_0a ra pa,sum_am0 c1 c2,rfl⟩
theorem Neumaier_1 {ao:Option Addr} {ca:Nat} {a:Int} (w:World) (R:Row w ao 1 ca (fun _=>a)) (ra:rng a) (pa:pok a=true) :
    Calls Tryz.prog 16 #[.slice ao 1 ca] w (fun r w'=>r=.returned (.int .i64 (canon a))∧Below w.heap.size w w'):=by
  obtain ⟨c1,c2⟩:=canon_fin ra pa
  obtain ⟨m0,m1,m2⟩:=opp5 c1 c2
  obtain ⟨k1,k2⟩:=canon_fin m1 m2
  have eD:fsum 0 (neg (canon a))=canon (neg (canon a)):=sum_0a m1 m2
  have eE:fsum (canon (neg (canon a))) a=0:=by
    rw [sum_V k1 ra k2 pa (canon_neg0 m2),canon_pV m2,m0,canon_pV pa,Int.add_left_neg,if_pos rfl]
  have gF:=gd_fsum ra m1 pa m2
  have pF:rng (fsum a (neg (canon a)))∧pok (fsum a (neg (canon a)))=true∧patV (fsum a (neg (canon a)))=0:=by
    rw [fsum_fin5 ra m1 pa m2,m0,canon_pV pa,Int.add_right_neg,if_pos rfl]
    cases (decide (a < 0) && decide (neg (canon a) < 0))
    . exact ⟨by unfold rng patS; decide,by decide,zero_V5⟩
    . exact ⟨by unfold rng patS; decide,by decide,mzero_V5⟩
  have eG:fsum (fsum a (neg (canon a))) 0=0:=by
    rw [sum_a0 pF.1 pF.2.1,canon_V pF.2.1,if_pos pF.2.2]
  have e0:fsum 0 0=0:=by rw [sum_a0 fin_0.1 fin_0.2]; decide
  refine Neumaier_seq (S:=fun k=>if k=0 then 0 else canon a) (C:=fun _=>0) (D:=fun _=>canon (neg (canon a))) (E:=fun _=>0) (F:=fun _=>fsum a (neg (canon a))) (G:=fun _=>0) w R (fun _ _=>fin_gd ra pa) rfl rfl (fun k hk=>?_) (fun k hk=>⟨fin_gd k1 k2,gd_zero,gF,gd_zero⟩) (fin_gd c1 c2) ?_ (fun k hk=>?_)
  . show Gd (if k=0 then 0 else canon a)∧Gd 0
    split
    . exact ⟨gd_zero,gd_zero⟩
    . exact ⟨fin_gd c1 c2,gd_zero⟩
  . show fsum (canon a) 0=canon a
    rw [sum_a0 c1 c2,canon_V c2,canon_pV pa]
    by_cases h:patV a=0
    . rw [if_pos h,canon_V pa,if_pos h]
    . rw [if_neg h]
  . obtain rfl:k=0:=by omega
    exact ⟨sum_0a ra pa,eD,eE,e0,rfl,eG,e0⟩
theorem Left_2 {ao:Option Addr} {ca:Nat} {d:Nat->Int} {a b x s:Int} (w:World) (R:Row w ao 2 ca d) (h0:d 0=a) (h1:d 1=b) (ga:Gd a) (gb:Gd b) (gx:Gd x) (gs:Gd s) (e1:fsum 0 a=x) (e2:fsum x b=s) :
    Calls Tryz.prog 12 #[.slice ao 2 ca] w (fun r w'=>r=.returned (.int .i64 s)∧Below w.heap.size w w'):=by
  refine Left_seq (S:=fun k=>if k=0 then 0 else if k=1 then x else s) w R (fun i hi=>?_) rfl (fun k hk=>?_) (fun k hk=>?_)
  . rcases (show i=0∨i=1 by omega) with rfl | rfl
    . rw [h0]; exact ga
    . rw [h1]; exact gb
  . rcases (show k=0∨k=1∨k=2 by omega) with rfl | rfl | rfl
    . exact gd_zero
    . exact gx
    . exact gs
  . rcases (show k=0∨k=1 by omega) with rfl | rfl
    . rw [h0]; exact e1
    . rw [h1]; exact e2
theorem Right_2 {ao:Option Addr} {ca:Nat} {d:Nat->Int} {a b x s:Int} (w:World) (R:Row w ao 2 ca d) (h0:d 1=a) (h1:d 0=b) (ga:Gd a) (gb:Gd b) (gx:Gd x) (gs:Gd s) (e1:fsum 0 a=x) (e2:fsum x b=s) :
    Calls Tryz.prog 13 #[.slice ao 2 ca] w (fun r w'=>r=.returned (.int .i64 s)∧Below w.heap.size w w'):=by
  refine Right_seq (S:=fun k=>if k=0 then 0 else if k=1 then x else s) w R (fun i hi=>?_) rfl (fun k hk=>?_) (fun k hk=>?_)
  . rcases (show i=0∨i=1 by omega) with rfl | rfl
    . rw [h1]; exact gb
    . rw [h0]; exact ga
  . rcases (show k=0∨k=1∨k=2 by omega) with rfl | rfl | rfl
    . exact gd_zero
    . exact gx
    . exact gs
  . rcases (show k=0∨k=1 by omega) with rfl | rfl
    . show fsum 0 (d 1)=x
      rw [h0]; exact e1
    . show fsum x (d 0)=s
      rw [h1]; exact e2
theorem bitsSame (a b:Int) (w:World) (ha:rng a) (hb:rng b) :
    Calls Tryz.prog 18 #[.int .i64 a,.int .i64 b] w fun e w'=>e=.returned (.bool (same a b))∧w'=w:=by
  have k:=same_order ha hb
  go_enter Tryz.func18,Tryz.ntmps18
  go_wp2_with (go_at_call 29; refine (bitsFloat _ _).mono ?_; rintro e w1 ⟨rfl,rfl⟩)
  go_ret
  exact ⟨rfl,rfl⟩
set_option maxRecDepth 100000 in
set_option maxHeartbeats 4000000 in
theorem rroot_any (p:Nat) (x:NumR) (w:World) (s:Int) (hg:w.heap[p]?=some (.cells #[.bool x.ng,.slice x.ao x.n x.cap,.int .i64 x.e] 79 (0,0))) (rx:Row w x.ao x.n x.cap x.d) (ok:okR x=true) (hng:x.ng=false) (hs:IsRoot (scV (val x.d x.n) (tK (val x.d x.n) x.e)) s) (hT:Tab w) :
    Calls Tryz.prog 55 #[.slice (some ⟨p,0,none⟩) 1 1] w fun r w'=>r=.returned (.tuple #[valV false s.toNat ((x.e - tK (val x.d x.n) x.e) / 2) (scC (val x.d x.n) (tK (val x.d x.n) x.e) || decide (scV (val x.d x.n) (tK (val x.d x.n) x.e) - s * s ≠ 0)) false,.int .i64 0])∧Below w.heap.size w w':=by
  obtain ⟨x_g,x_o,x_n,x_c,x_d,x_e⟩:=x
  obtain ⟨na,hn,ea0,ea1⟩:=okR_sane ok
  simp only at *
  subst hng
  have hA0:=val_nonneg na.1
  have hAl:=blen_nrm na
  obtain ⟨k1,k2,k3⟩:=tK_in (M:=val x_d x_n) (e:=x_e)
  have hhigh:=scV_high hA0 (n:=124) (k:=tK (val x_d x_n) x_e) (by omega)
  have hsm:=root_small hs hhigh.2
  have hs0:=hs.1
  have CBa:Hid (∀ W,Below w.heap.size w W->_):=fun W hb=>bitLength_any x_o x_n x_c x_d W (rx.keeps hb) na (by omega)
  obtain ⟨KQ,hK⟩:∃ K,tK (val x_d x_n) x_e=K:=⟨_,rfl⟩
  have hqk:tK (val x_d x_n) x_e=124 - (blen (val x_d x_n):Int) - (x_e - (124 - (blen (val x_d x_n):Int))) % 2:=rfl
  rw [hK] at hs hhigh k1 k2 k3 hqk ⊢
  have CSc:Hid (∀ W,Below w.heap.size w W->_):=fun W hb=>scaled_any x_o x_n x_c x_d KQ W (rx.keeps hb) na hn (by omega) (fun h=>by
    rcases Int.lt_or_eq_of_le hA0 with h1 | h1
    . exact h1
    . exfalso; rw [<- h1,blen_zero] at k1; omega) (hT.keeps hb)
  obtain ⟨cutb,hC0⟩:∃ c,scC (val x_d x_n) KQ=c:=⟨_,rfl⟩
  rw [hC0] at CSc ⊢
  obtain ⟨SV,hSV⟩:∃ S,scV (val x_d x_n) KQ=S:=⟨_,rfl⟩
  rw [hSV] at CSc hs hhigh ⊢
  have hSl:SV < P 2000:=Int.lt_of_lt_of_le hhigh.2 (by
    have e:(2:Int) ^ 124 <= P 5:=by unfold P; decide
    exact Int.le_trans e (P_le (by decide)))
  have CRt:Hid (∀ (W:World) so sn sc,Num W (.slice so sn sc) SV->Calls Tryz.prog 85 #[.slice so sn sc] W fun e w'=>∃ v1 v2,e=.returned (.tuple #[v1,v2,.int .i64 0])∧Ans2 W w' s v1 (SV - s * s) v2):=fun W so sn sc hN=>by
    refine (root_num hN hSl).mono ?_
    rintro _ w' ⟨v1,v2,rfl,t,ht,hA⟩
    obtain rfl:=isRoot_unique ht hs
    exact ⟨v1,v2,rfl,hA⟩
  obtain ⟨Q,hQ⟩:∃ Q:Nat,s=(Q:Int):=Int.eq_ofNat_of_zero_le hs0
  subst hQ
  rw [Int.toNat_natCast]
  have CM:Hid (∀ (W':World) so sn sc,Num W' (.slice so sn sc) (Q:Int)->Calls Tryz.prog 86 #[.slice so sn sc] W' fun e w'=>e=.returned (.int .i64 (Q:Int))∧w'=W'):=fun W' so sn sc hA=>by
    obtain ⟨ao',n',ca',d',hs,hR,hN,hV,hl⟩:=hA.parts (k:=3) (by rw [show P 3=1237940039285380274899124224 by decide]; omega)
    simp only [Value.slice.injEq] at hs
    obtain ⟨rfl,rfl,rfl⟩:=hs
    rw [<- hV]
    exact small_any _ _ _ _ _ hR hN.1 hl (by omega)
  obtain ⟨M,hM⟩:∃ M,SV - (Q:Int) * (Q:Int)=M:=⟨_,rfl⟩
  rw [hM] at CRt ⊢
  obtain ⟨BA,hBA⟩:∃ B:Int,(blen (val x_d x_n):Int)=B:=⟨_,rfl⟩
  rw [hBA] at CBa hqk k1 k2
  have hBl:0 <= BA∧BA <= 150000:=by omega
  have w1':IntKind.i64.wrap (124 - BA)=124 - BA:=by rw [wrap_i64_eq]; omega
  have w2':IntKind.i64.wrap (x_e - (124 - BA))=x_e - (124 - BA):=by rw [wrap_i64_eq]; omega
  have w3':bits .and .i64 (x_e - (124 - BA)) 1=(x_e - (124 - BA)) % 2:=and_one _
  have w4':IntKind.i64.wrap (124 - BA - (x_e - (124 - BA)) % 2)=KQ:=by rw [wrap_i64_eq]; omega
  have w5':IntKind.u64.wrap (Q:Int)=(Q:Int):=by rw [IntKind.wrap_u64]; omega
  have w6':IntKind.i64.wrap (x_e - KQ)=x_e - KQ:=by rw [wrap_i64_eq]; omega
  obtain ⟨E,hE⟩:∃ E,(x_e - KQ) / 2=E:=⟨_,rfl⟩
  have w7':(x_e - KQ).tdiv 2=E:=by
    obtain ⟨t,ht⟩:∃ t,x_e - KQ=2 * t:=⟨(x_e - KQ) / 2,by omega⟩
    rw [ht] at hE ⊢
    rw [Int.mul_tdiv_cancel_left _ (by decide)]
    omega
  have w8':IntKind.i64.wrap E=E:=by rw [wrap_i64_eq]; omega
  rw [hE]
  clear hqk hBA hM hSV hC0 hK hsm hSl hAl hA0 ok hT hhigh k1 k2 k3 hs hs0 hE hBl
  unfold valV
  have hb1:=bel_alloc w (.cells #[.bool false,.int .u64 0,.int .i64 0,.bool false,.bool false] 65)
  have l0:=cell_keeps (blkC hg 0 rfl) hb1
  have l1:=cell_keeps (blkC hg 1 rfl) hb1
  have l2:=cell_keeps (blkC hg 2 rfl) hb1
  have hb2:=bel_alloc2 w (.cells #[.bool false,.int .u64 0,.int .i64 0,.bool false,.bool false] 65) (.cells #[.bool false,.slice x_o x_n x_c,.int .i64 x_e] 79)
  have A_K:=heap_b2 w (.cells #[.bool false,.int .u64 0,.int .i64 0,.bool false,.bool false] 65) (.cells #[.bool false,.slice x_o x_n x_c,.int .i64 x_e] 79)
  have R_K:=heap_a2 w (.cells #[.bool false,.int .u64 0,.int .i64 0,.bool false,.bool false] 65) (.cells #[.bool false,.slice x_o x_n x_c,.int .i64 x_e] 79)
  have a0:=blkC A_K 0 rfl
  have a1:=blkC A_K 1 rfl
  go_enter Tryz.func55,Tryz.ntmps55
  go_wp2_with fail
  clear l0 l1 l2 a0 a1 hb1
  generalize (w.alloc (.cells #[.bool false,.int .u64 0,.int .i64 0,.bool false,.bool false] 65)).alloc (.cells #[.bool false,.slice x_o x_n x_c,.int .i64 x_e] 79)=w2 at hb2 A_K R_K ⊢
  refine (CBa.out _ hb2).mono ?_
  rintro _ _ ⟨rfl,rfl⟩
  have a1:=blkC A_K 1 rfl
  have a2:=blkC A_K 2 rfl
  go_wp2_with fail
  refine (CSc.out _ hb2).mono ?_
  rintro _ w3 ⟨v3,rfl,hA3⟩
  have hb3:=hA3.below
  have hbw3:=bel_trans hb2 hb3
  obtain ⟨so,sn,sc,rfl⟩:=hA3.num.shape
  have CR1:=CRt.out w3 so sn sc hA3.num
  have A_3:=(hb3.block _ (Array.getElem?_eq_some_iff.1 A_K).1).trans A_K
  have R_3:=(hb3.block _ (Array.getElem?_eq_some_iff.1 R_K).1).trans R_K
  clear hA3 CSc CRt A_K R_K a1 a2 hb3 CBa
  go_wp2_with fail
  refine CR1.mono ?_
  rintro _ w4 ⟨v1,v2,rfl,hA1,hA2,_⟩
  have hb4:=hA1.below
  have hbw4:=bel_trans hbw3 hb4
  obtain ⟨qo,qn,qc,rfl⟩:=hA1.num.shape
  obtain ⟨lo,ln,lc,rfl⟩:=hA2.num.shape
  have hln:=num_len0 hA2.num
  have CM1:Hid (Calls Tryz.prog 86 #[.slice qo qn qc] w4.drew fun e w'=>e=.returned (.int .i64 (Q:Int))∧w'=w4.drew):=CM.out w4.drew qo qn qc (hA1.num.keeps (bel_refl w4).drew)
  have A_4:=(hb4.block _ (Array.getElem?_eq_some_iff.1 A_3).1).trans A_3
  have R_4:=(hb4.block _ (Array.getElem?_eq_some_iff.1 R_3).1).trans R_3
  clear hA1 hA2 CR1 A_3 R_3 hb4 CM
  have a0:=blkC A_4 0 rfl
  have a2:=blkC A_4 2 rfl
  have x0:=blkC R_4 0 rfl
  have x1:=blkC R_4 1 rfl
  have x2:=blkC R_4 2 rfl
  have x3:=blkC R_4 3 rfl
  have x4:=blkC R_4 4 rfl
  have z0:=blkF R_4 0
  have z1:=blkF R_4 1
  have z2:=blkF R_4 2
  have z3:=blkF R_4 3
  have z4:=blkF R_4 4
  have s1:w.heap.size + 1 ≠ w.heap.size:=by omega
  go_wp2_with fail
  cases cutb
  . have kc0:w4.drew.cell? ⟨w.heap.size + 1,0,none⟩=some (.bool false)∧w4.drew.cell? ⟨w.heap.size + 1,2,none⟩=some (.int .i64 x_e)∧w4.drew.cell? ⟨w.heap.size + 1,0,none⟩=some (.bool false)∧w4.drew.cell? ⟨w.heap.size + 1,2,none⟩=some (.int .i64 x_e):=⟨a0,a2,a0,a2⟩
    refine wp_region_held_drew (S:=fun W=>W.cell? ⟨w.heap.size + 1,0,none⟩=some (.bool false)∧W.cell? ⟨w.heap.size + 1,2,none⟩=some (.int .i64 x_e)∧W.cell? ⟨w.heap.size + 1,0,none⟩=some (.bool false)∧W.cell? ⟨w.heap.size + 1,2,none⟩=some (.int .i64 x_e)) (by kernel_rfl) kc0 (fun hHeld0=>?_)
    refine wpAnyH_take (i:=0) (v:=?_) rfl (by kernel_rfl) (by kernel_rfl) (by kernel_rfl) (fun _ _ _ h=>h) (Or.inl ⟨by kernel_rfl,?_⟩) (by assumption) ?_
    rotate_left
    . intro w hSw; (try dsimp only at hSw); go_simp; first | done | with_reducible rfl
    simp only [Act.put,List.setIfInBounds_toArray,List.set_cons_zero,List.set_cons_succ,List.getElem_toArray,List.getElem_cons_zero,List.getElem_cons_succ]
    refine wpAnyH_take (i:=3) (v:=?_) rfl (by kernel_rfl) (by kernel_rfl) (by kernel_rfl) (fun _ _ _ h=>h) (Or.inl ⟨by kernel_rfl,?_⟩) (by assumption) ?_
    rotate_left
    . intro w hSw; (try dsimp only at hSw); go_simp; first | done | with_reducible rfl
    simp only [Act.put,List.setIfInBounds_toArray,List.set_cons_zero,List.set_cons_succ,List.getElem_toArray,List.getElem_cons_zero,List.getElem_cons_succ]
    refine wpAnyH_take (i:=4) (v:=?_) rfl (by kernel_rfl) (by kernel_rfl) (by kernel_rfl) (fun _ _ _ h=>h) (Or.inl ⟨by kernel_rfl,?_⟩) (by assumption) ?_
    rotate_left
    . intro w hSw; (try dsimp only at hSw); go_simp; first | done | with_reducible rfl
    simp only [Act.put,List.setIfInBounds_toArray,List.set_cons_zero,List.set_cons_succ,List.getElem_toArray,List.getElem_cons_zero,List.getElem_cons_succ]
    refine wpAnyH_take (i:=5) (v:=?_) rfl (by kernel_rfl) (by kernel_rfl) (by kernel_rfl) (fun _ _ _ h=>h) (Or.inl ⟨by kernel_rfl,?_⟩) (by assumption) ?_
    rotate_left
    . intro w hSw; (try dsimp only at hSw); go_simp; first | done | with_reducible rfl
    simp only [Act.put,List.setIfInBounds_toArray,List.set_cons_zero,List.set_cons_succ,List.getElem_toArray,List.getElem_cons_zero,List.getElem_cons_succ]
    refine wpAnyH_take (i:=6) (v:=?_) rfl (by kernel_rfl) (by kernel_rfl) (by kernel_rfl) (fun _ _ _ h=>h) (Or.inl ⟨by kernel_rfl,?_⟩) (by assumption) ?_
    rotate_left
    . intro w hSw; (try dsimp only at hSw); go_simp; first | done | with_reducible rfl
    simp only [Act.put,List.setIfInBounds_toArray,List.set_cons_zero,List.set_cons_succ,List.getElem_toArray,List.getElem_cons_zero,List.getElem_cons_succ]
    refine wpAnyH_take (i:=7) (v:=?_) rfl (by kernel_rfl) (by kernel_rfl) (by kernel_rfl) (fun _ _ _ h=>h) (Or.inl ⟨by kernel_rfl,?_⟩) (by assumption) ?_
    rotate_left
    . intro w hSw; (try dsimp only at hSw); go_simp; first | done | with_reducible rfl
    simp only [Act.put,List.setIfInBounds_toArray,List.set_cons_zero,List.set_cons_succ,List.getElem_toArray,List.getElem_cons_zero,List.getElem_cons_succ]
    refine wpAnyH_take (i:=8) (v:=?_) rfl (by kernel_rfl) (by kernel_rfl) (by kernel_rfl) (fun _ _ _ h=>h) (Or.inl ⟨by kernel_rfl,?_⟩) (by assumption) ?_
    rotate_left
    . intro w hSw; (try dsimp only at hSw); go_simp; first | done | with_reducible rfl
    simp only [Act.put,List.setIfInBounds_toArray,List.set_cons_zero,List.set_cons_succ,List.getElem_toArray,List.getElem_cons_zero,List.getElem_cons_succ]
    refine wpAnyH_ready (rs:=[1]) (by kernel_rfl) (by simp) ?_
    refine AllReadyH.cons rfl (fun K hK=>?_) AllReadyH.nil
    go_simp
    refine CM1.out.mono ?_
    rintro _ _ ⟨rfl,rfl⟩
    refine hK.out _ _ kc0 (fun hHeld1=>?_)
    clear hK K
    try simp only [Act.put,List.setIfInBounds_toArray,List.set_cons_zero,List.set_cons_succ,List.getElem_toArray,List.getElem_cons_zero,List.getElem_cons_succ]
    refine wpAnyH_take (i:=2) (v:=?_) rfl (by kernel_rfl) (by kernel_rfl) (by kernel_rfl) (fun _ _ _ h=>h) (Or.inl ⟨by kernel_rfl,?_⟩) (by assumption) ?_
    rotate_left
    . intro w hSw; (try dsimp only at hSw); go_simp; first | done | with_reducible rfl
    simp only [Act.put,List.setIfInBounds_toArray,List.set_cons_zero,List.set_cons_succ,List.getElem_toArray,List.getElem_cons_zero,List.getElem_cons_succ]
    refine wpAnyH_take (i:=9) (v:=?_) rfl (by kernel_rfl) (by kernel_rfl) (by kernel_rfl) (fun _ _ _ h=>h) (Or.inl ⟨by kernel_rfl,?_⟩) (by assumption) ?_
    rotate_left
    . intro w hSw; (try dsimp only at hSw); go_simp; first | done | with_reducible rfl
    simp only [Act.put,List.setIfInBounds_toArray,List.set_cons_zero,List.set_cons_succ,List.getElem_toArray,List.getElem_cons_zero,List.getElem_cons_succ]
    refine wpAnyH_take (i:=10) (v:=?_) rfl (by kernel_rfl) (by kernel_rfl) (by kernel_rfl) (fun _ _ _ h=>h) (Or.inl ⟨by kernel_rfl,?_⟩) (by assumption) ?_
    rotate_left
    . intro w hSw; (try dsimp only at hSw); go_simp; first | done | with_reducible rfl
    simp only [Act.put,List.setIfInBounds_toArray,List.set_cons_zero,List.set_cons_succ,List.getElem_toArray,List.getElem_cons_zero,List.getElem_cons_succ]
    refine wpAnyH_take (i:=11) (v:=?_) rfl (by kernel_rfl) (by kernel_rfl) (by kernel_rfl) (fun _ _ _ h=>h) (Or.inl ⟨by kernel_rfl,?_⟩) (by assumption) ?_
    rotate_left
    . intro w hSw; (try dsimp only at hSw); go_simp; first | done | with_reducible rfl
    simp only [Act.put,List.setIfInBounds_toArray,List.set_cons_zero,List.set_cons_succ,List.getElem_toArray,List.getElem_cons_zero,List.getElem_cons_succ]
    refine wpAnyH_take (i:=12) (v:=?_) rfl (by kernel_rfl) (by kernel_rfl) (by kernel_rfl) (fun _ _ _ h=>h) (Or.inl ⟨by kernel_rfl,?_⟩) (by assumption) ?_
    rotate_left
    . intro w hSw; (try dsimp only at hSw); go_simp; first | done | with_reducible rfl
    simp only [Act.put,List.setIfInBounds_toArray,List.set_cons_zero,List.set_cons_succ,List.getElem_toArray,List.getElem_cons_zero,List.getElem_cons_succ]
    refine wpAnyH_take (i:=13) (v:=?_) rfl (by kernel_rfl) (by kernel_rfl) (by kernel_rfl) (fun _ _ _ h=>h) (Or.inl ⟨by kernel_rfl,?_⟩) (by assumption) ?_
    rotate_left
    . intro w hSw; (try dsimp only at hSw); go_simp; first | done | with_reducible rfl
    simp only [Act.put,List.setIfInBounds_toArray,List.set_cons_zero,List.set_cons_succ,List.getElem_toArray,List.getElem_cons_zero,List.getElem_cons_succ]
    refine wpAnyH_take (i:=14) (v:=?_) rfl (by kernel_rfl) (by kernel_rfl) (by kernel_rfl) (fun _ _ _ h=>h) (Or.inl ⟨by kernel_rfl,?_⟩) (by assumption) ?_
    rotate_left
    . intro w hSw; (try dsimp only at hSw); go_simp; first | done | with_reducible rfl
    simp only [Act.put,List.setIfInBounds_toArray,List.set_cons_zero,List.set_cons_succ,List.getElem_toArray,List.getElem_cons_zero,List.getElem_cons_succ]
    refine wpAnyH_ready (rs:=[15]) (by kernel_rfl) (by simp) ?_
    refine AllReadyH.cons rfl (fun K hK=>?_) AllReadyH.nil
    go_simp
    refine hK.out _ _ ?_ (fun hHeld2=>?_)
    . exact cells4_drew (cells4_set s1 s1 (cells4_set s1 s1 (cells4_set s1 s1 (cells4_set s1 s1 (cells4_set s1 s1 ⟨a0,a2,a0,a2⟩)))))
    clear hK K hHeld0
    try simp only [Act.put,List.setIfInBounds_toArray,List.set_cons_zero,List.set_cons_succ,List.getElem_toArray,List.getElem_cons_zero,List.getElem_cons_succ]
    refine wpAnyH_take (i:=16) (v:=?_) rfl (by kernel_rfl) (by kernel_rfl) (by kernel_rfl) (fun _ _ _ h=>h) (Or.inl ⟨by kernel_rfl,?_⟩) (by assumption) ?_
    rotate_left
    . intro w hSw; (try dsimp only at hSw); go_simp; first | done | with_reducible rfl
    simp only [Act.put,List.setIfInBounds_toArray,List.set_cons_zero,List.set_cons_succ,List.getElem_toArray,List.getElem_cons_zero,List.getElem_cons_succ]
    refine wpAnyH_done (by kernel_rfl) ?_ _
    go_wp2
    refine bodyPost_ret (v:=.tuple #[.agg #[.bool false,.int .u64 Q,.int .i64 E,.bool (false || decide (M ≠ 0)),.bool false],.int .i64 0]) (by rw [hln]; simp [results,Tryz.results55,go_sem,x0,x1,x2,x3,x4]) rfl ⟨rfl,?_⟩
    exact ((wr5 w4 w.heap.size _ _ _ _ _).below hbw4 hbw4.size (Nat.le_refl _)).drew
  . have kc0:w4.drew.cell? ⟨w.heap.size + 1,0,none⟩=some (.bool false)∧w4.drew.cell? ⟨w.heap.size + 1,2,none⟩=some (.int .i64 x_e)∧w4.drew.cell? ⟨w.heap.size + 1,0,none⟩=some (.bool false)∧w4.drew.cell? ⟨w.heap.size + 1,2,none⟩=some (.int .i64 x_e):=⟨a0,a2,a0,a2⟩
    refine wp_region_held_drew (S:=fun W=>W.cell? ⟨w.heap.size + 1,0,none⟩=some (.bool false)∧W.cell? ⟨w.heap.size + 1,2,none⟩=some (.int .i64 x_e)∧W.cell? ⟨w.heap.size + 1,0,none⟩=some (.bool false)∧W.cell? ⟨w.heap.size + 1,2,none⟩=some (.int .i64 x_e)) (by kernel_rfl) kc0 (fun hHeld0=>?_)
    refine wpAnyH_take (i:=0) (v:=?_) rfl (by kernel_rfl) (by kernel_rfl) (by kernel_rfl) (fun _ _ _ h=>h) (Or.inl ⟨by kernel_rfl,?_⟩) (by assumption) ?_
    rotate_left
    . intro w hSw; (try dsimp only at hSw); go_simp; first | done | with_reducible rfl
    simp only [Act.put,List.setIfInBounds_toArray,List.set_cons_zero,List.set_cons_succ,List.getElem_toArray,List.getElem_cons_zero,List.getElem_cons_succ]
    refine wpAnyH_take (i:=3) (v:=?_) rfl (by kernel_rfl) (by kernel_rfl) (by kernel_rfl) (fun _ _ _ h=>h) (Or.inl ⟨by kernel_rfl,?_⟩) (by assumption) ?_
    rotate_left
    . intro w hSw; (try dsimp only at hSw); go_simp; first | done | with_reducible rfl
    simp only [Act.put,List.setIfInBounds_toArray,List.set_cons_zero,List.set_cons_succ,List.getElem_toArray,List.getElem_cons_zero,List.getElem_cons_succ]
    refine wpAnyH_take (i:=4) (v:=?_) rfl (by kernel_rfl) (by kernel_rfl) (by kernel_rfl) (fun _ _ _ h=>h) (Or.inl ⟨by kernel_rfl,?_⟩) (by assumption) ?_
    rotate_left
    . intro w hSw; (try dsimp only at hSw); go_simp; first | done | with_reducible rfl
    simp only [Act.put,List.setIfInBounds_toArray,List.set_cons_zero,List.set_cons_succ,List.getElem_toArray,List.getElem_cons_zero,List.getElem_cons_succ]
    refine wpAnyH_take (i:=5) (v:=?_) rfl (by kernel_rfl) (by kernel_rfl) (by kernel_rfl) (fun _ _ _ h=>h) (Or.inl ⟨by kernel_rfl,?_⟩) (by assumption) ?_
    rotate_left
    . intro w hSw; (try dsimp only at hSw); go_simp; first | done | with_reducible rfl
    simp only [Act.put,List.setIfInBounds_toArray,List.set_cons_zero,List.set_cons_succ,List.getElem_toArray,List.getElem_cons_zero,List.getElem_cons_succ]
    refine wpAnyH_take (i:=6) (v:=?_) rfl (by kernel_rfl) (by kernel_rfl) (by kernel_rfl) (fun _ _ _ h=>h) (Or.inl ⟨by kernel_rfl,?_⟩) (by assumption) ?_
    rotate_left
    . intro w hSw; (try dsimp only at hSw); go_simp; first | done | with_reducible rfl
    simp only [Act.put,List.setIfInBounds_toArray,List.set_cons_zero,List.set_cons_succ,List.getElem_toArray,List.getElem_cons_zero,List.getElem_cons_succ]
    refine wpAnyH_take (i:=7) (v:=?_) rfl (by kernel_rfl) (by kernel_rfl) (by kernel_rfl) (fun _ _ _ h=>h) (Or.inl ⟨by kernel_rfl,?_⟩) (by assumption) ?_
    rotate_left
    . intro w hSw; (try dsimp only at hSw); go_simp; first | done | with_reducible rfl
    simp only [Act.put,List.setIfInBounds_toArray,List.set_cons_zero,List.set_cons_succ,List.getElem_toArray,List.getElem_cons_zero,List.getElem_cons_succ]
    refine wpAnyH_take (i:=8) (v:=?_) rfl (by kernel_rfl) (by kernel_rfl) (by kernel_rfl) (fun _ _ _ h=>h) (Or.inl ⟨by kernel_rfl,?_⟩) (by assumption) ?_
    rotate_left
    . intro w hSw; (try dsimp only at hSw); go_simp; first | done | with_reducible rfl
    simp only [Act.put,List.setIfInBounds_toArray,List.set_cons_zero,List.set_cons_succ,List.getElem_toArray,List.getElem_cons_zero,List.getElem_cons_succ]
    refine wpAnyH_ready (rs:=[1]) (by kernel_rfl) (by simp) ?_
    refine AllReadyH.cons rfl (fun K hK=>?_) AllReadyH.nil
    go_simp
    refine CM1.out.mono ?_
    rintro _ _ ⟨rfl,rfl⟩
    refine hK.out _ _ kc0 (fun hHeld1=>?_)
    clear hK K
    try simp only [Act.put,List.setIfInBounds_toArray,List.set_cons_zero,List.set_cons_succ,List.getElem_toArray,List.getElem_cons_zero,List.getElem_cons_succ]
    refine wpAnyH_take (i:=2) (v:=?_) rfl (by kernel_rfl) (by kernel_rfl) (by kernel_rfl) (fun _ _ _ h=>h) (Or.inl ⟨by kernel_rfl,?_⟩) (by assumption) ?_
    rotate_left
    . intro w hSw; (try dsimp only at hSw); go_simp; first | done | with_reducible rfl
    simp only [Act.put,List.setIfInBounds_toArray,List.set_cons_zero,List.set_cons_succ,List.getElem_toArray,List.getElem_cons_zero,List.getElem_cons_succ]
    refine wpAnyH_take (i:=9) (v:=?_) rfl (by kernel_rfl) (by kernel_rfl) (by kernel_rfl) (fun _ _ _ h=>h) (Or.inl ⟨by kernel_rfl,?_⟩) (by assumption) ?_
    rotate_left
    . intro w hSw; (try dsimp only at hSw); go_simp; first | done | with_reducible rfl
    simp only [Act.put,List.setIfInBounds_toArray,List.set_cons_zero,List.set_cons_succ,List.getElem_toArray,List.getElem_cons_zero,List.getElem_cons_succ]
    refine wpAnyH_take (i:=10) (v:=undef) rfl (by kernel_rfl) (by kernel_rfl) (by kernel_rfl) (fun _ _ _ h=>h) (Or.inr ⟨by kernel_rfl,rfl⟩) (by assumption) ?_
    simp only [Act.put,List.setIfInBounds_toArray,List.set_cons_zero,List.set_cons_succ,List.getElem_toArray,List.getElem_cons_zero,List.getElem_cons_succ]
    refine wpAnyH_take (i:=11) (v:=undef) rfl (by kernel_rfl) (by kernel_rfl) (by kernel_rfl) (fun _ _ _ h=>h) (Or.inr ⟨by kernel_rfl,rfl⟩) (by assumption) ?_
    simp only [Act.put,List.setIfInBounds_toArray,List.set_cons_zero,List.set_cons_succ,List.getElem_toArray,List.getElem_cons_zero,List.getElem_cons_succ]
    refine wpAnyH_take (i:=12) (v:=undef) rfl (by kernel_rfl) (by kernel_rfl) (by kernel_rfl) (fun _ _ _ h=>h) (Or.inr ⟨by kernel_rfl,rfl⟩) (by assumption) ?_
    simp only [Act.put,List.setIfInBounds_toArray,List.set_cons_zero,List.set_cons_succ,List.getElem_toArray,List.getElem_cons_zero,List.getElem_cons_succ]
    refine wpAnyH_take (i:=13) (v:=?_) rfl (by kernel_rfl) (by kernel_rfl) (by kernel_rfl) (fun _ _ _ h=>h) (Or.inl ⟨by kernel_rfl,?_⟩) (by assumption) ?_
    rotate_left
    . intro w hSw; (try dsimp only at hSw); go_simp; first | done | with_reducible rfl
    simp only [Act.put,List.setIfInBounds_toArray,List.set_cons_zero,List.set_cons_succ,List.getElem_toArray,List.getElem_cons_zero,List.getElem_cons_succ]
    refine wpAnyH_take (i:=14) (v:=?_) rfl (by kernel_rfl) (by kernel_rfl) (by kernel_rfl) (fun _ _ _ h=>h) (Or.inl ⟨by kernel_rfl,?_⟩) (by assumption) ?_
    rotate_left
    . intro w hSw; (try dsimp only at hSw); go_simp; first | done | with_reducible rfl
    simp only [Act.put,List.setIfInBounds_toArray,List.set_cons_zero,List.set_cons_succ,List.getElem_toArray,List.getElem_cons_zero,List.getElem_cons_succ]
    refine wpAnyH_ready (rs:=[15]) (by kernel_rfl) (by simp) ?_
    refine AllReadyH.cons rfl (fun K hK=>?_) AllReadyH.nil
    go_simp
    refine hK.out _ _ ?_ (fun hHeld2=>?_)
    . exact cells4_drew (cells4_set s1 s1 (cells4_set s1 s1 (cells4_set s1 s1 (cells4_set s1 s1 (cells4_set s1 s1 ⟨a0,a2,a0,a2⟩)))))
    clear hK K hHeld0
    try simp only [Act.put,List.setIfInBounds_toArray,List.set_cons_zero,List.set_cons_succ,List.getElem_toArray,List.getElem_cons_zero,List.getElem_cons_succ]
    refine wpAnyH_take (i:=16) (v:=?_) rfl (by kernel_rfl) (by kernel_rfl) (by kernel_rfl) (fun _ _ _ h=>h) (Or.inl ⟨by kernel_rfl,?_⟩) (by assumption) ?_
    rotate_left
    . intro w hSw; (try dsimp only at hSw); go_simp; first | done | with_reducible rfl
    simp only [Act.put,List.setIfInBounds_toArray,List.set_cons_zero,List.set_cons_succ,List.getElem_toArray,List.getElem_cons_zero,List.getElem_cons_succ]
    refine wpAnyH_done (by kernel_rfl) ?_ _
    go_wp2
    refine bodyPost_ret (v:=.tuple #[.agg #[.bool false,.int .u64 Q,.int .i64 E,.bool (true || decide (M ≠ 0)),.bool false],.int .i64 0]) (by rw [hln]; simp [results,Tryz.results55,go_sem,x0,x1,x2,x3,x4]) rfl ⟨rfl,?_⟩
    exact ((wr5 w4 w.heap.size _ _ _ _ _).below hbw4 hbw4.size (Nat.le_refl _)).drew
set_option maxRecDepth 100000 in
set_option maxHeartbeats 1000000 in
theorem rootf_ok (way:Int) (hw:0 <= way∧way <= 3) (x:NumR) (s:Int) (w:World) (hx:Row w x.ao x.n x.cap x.d) (ok:okR x=true) (hng:x.ng=false) (hs:IsRoot (scV (val x.d x.n) (tK (val x.d x.n) x.e)) s) (Ev:Env w) (hT:Tab w) :
    Calls Tryz.prog 32 #[x.v,.int .i64 way] w fun e w'=>e=.returned (.tuple #[.int .i64 (tR64 way x s).1,.bool (tR64 way x s).2,.int .i64 0])∧Below w.heap.size w w':=by
  have hS:=okR_sane ok
  obtain ⟨na,hn,he0,he1⟩:=hS
  have hv0:=val_nonneg na.1
  have hbl:=blen_nrm na
  obtain ⟨k1,k2,k3⟩:=tK_in (M:=val x.d x.n) (e:=x.e)
  have hhigh:=scV_high hv0 (n:=124) (k:=tK (val x.d x.n) x.e) (by omega)
  have hsm:=root_small hs hhigh.2
  have hs0:=hs.1
  have hEF:∀ (cap:Array Value) (w:World),(callFunc 39 cap).run Tryz.prog w=.ok (.enter 39 cap) w:=by
    intro cap w
    simp [go_sem]
  have hEG:∀ (cap:Array Value) (w:World),(callFunc 55 cap).run Tryz.prog w=.ok (.enter 55 cap) w:=by
    intro cap w
    simp [go_sem]
  have hmf:∀ (fn:Fn) (first cap:Array Value) (w:World),(Instr.makeFunc fn first cap).run Tryz.prog w=.ok (.func fn first cap) w:=fun _ _ _ _=>rfl
  have CR:=fun W (hb:Below w.heap.size w W) (g:Nat) (hg:W.heap[g]?=some (.cells #[.bool x.ng,.slice x.ao x.n x.cap,.int .i64 x.e] 79 (0,0)))=>rounded_ok way hw 39 55 (some ⟨g,0,none⟩) 1 1 (fun _=>x) W
    ⟨Nat.le_refl _,by decide,fun _=>⟨g,0,rfl,(Array.getElem?_eq_some_iff.1 hg).1,fun i hi=>by
      obtain rfl:i=0:=by omega
      exact ⟨blkC hg 0 rfl,blkC hg 1 rfl,blkC hg 2 rfl,hx.keeps hb⟩⟩⟩ (fun _ _=>ok) false s.toNat ((x.e - tK (val x.d x.n) x.e) / 2) (scC (val x.d x.n) (tK (val x.d x.n) x.e) || decide (scV (val x.d x.n) (tK (val x.d x.n) x.e) - s * s ≠ 0)) false _ _ hEF hEG
    (fun W2 hb2=>rroot_any g x W2 s ((hb2.block _ (Array.getElem?_eq_some_iff.1 hg).1).trans hg) ((hx.keeps hb).keeps hb2) ok hng hs ((hT.keeps hb).keeps hb2))
    (fun W2 hb2=>binary64_any way hw false false _ _ _ W2 ((Ev.keeps hb).keeps hb2) (by omega) (by omega))
  have HQ:tR64 way x s=r64 way false false s.toNat ((x.e - tK (val x.d x.n) x.e) / 2) (scC (val x.d x.n) (tK (val x.d x.n) x.e) || decide (scV (val x.d x.n) (tK (val x.d x.n) x.e) - s * s ≠ 0)):=rfl
  rw [<- HQ] at CR
  generalize tR64 way x s=R at CR ⊢
  have HCR:Hid _:=CR
  unfold NumR.v
  clear HQ ok hsm hbl hv0 he0 he1 hn na hx hng hs k1 k2 k3 hhigh hs0
  obtain ⟨x_g,x_o,x_n,x_c,x_d,x_e⟩:=x
  simp only at *
  clear HCR
  have hb2:=bel_alloc2 w (.cells #[.bool x_g,.slice x_o x_n x_c,.int .i64 x_e] 79) (.cells #[.bool x_g,.slice x_o x_n x_c,.int .i64 x_e] 79)
  have q1:=heap_b2 w (.cells #[.bool x_g,.slice x_o x_n x_c,.int .i64 x_e] 79) (.cells #[.bool x_g,.slice x_o x_n x_c,.int .i64 x_e] 79)
  go_enter Tryz.func32,Tryz.ntmps32
  go_wp2_with fail
  refine (CR _ hb2 _ q1).mono ?_
  rintro _ w2 ⟨rfl,hb3⟩
  go_wp2
  all_goals refine bodyPost_ret (v:=.tuple #[.int .i64 R.1,.bool R.2,.int .i64 0]) (by simp [results,Tryz.results32,go_sem]) rfl ⟨rfl,bel_trans hb2 hb3⟩
theorem isRoot_exI {A:Int} (h:0 <= A):∃ s,IsRoot A s:=by
  obtain ⟨n,rfl⟩:=Int.eq_ofNat_of_zero_le h
  exact isRoot_ex n
theorem scV_nonneg {M k:Int} (hM:0 <= M):0 <= scV M k:=by
  unfold scV
  split
  . exact Int.mul_nonneg hM (Int.le_of_lt (two_pos _))
  . exact Int.ediv_nonneg hM (Int.le_of_lt (two_pos _))
theorem sq_nonneg' (a:Int):0 <= a * a:=by
  rcases Int.le_total 0 a with h | h
  . exact Int.mul_nonneg h h
  . exact Int.mul_nonneg_of_nonpos_of_nonpos h h
theorem root_D0 {w:World} {g:Bool} {o:Option Addr} {n c:Nat} {e B b:Int} (h:DNum w (.agg #[.bool g,.slice o n c,.int .i64 e]) B) (ok:Dok B) (hb:rng b) (hp:pok b=true) (hB:B * 2 ^ 4194304=patV b * patV b) (H:Hold4 w) :
    Calls Tryz.prog 32 #[.agg #[.bool g,.slice o n c,.int .i64 e],.int .i64 0] w fun r w'=>r=.returned (.tuple #[.int .i64 (canon (abs b)),.bool false,.int .i64 0])∧Below w.heap.size w w':=by
  obtain ⟨d,hR,hok,rfl⟩:=h.open2 ok
  have na:=(okR_sane hok).1
  have hg:g=false:=by
    cases g
    . rfl
    . exfalso
      have hn:0 < n:=by
        rcases of_decide_eq_true hok with ⟨_,h2,_⟩ | h1
        . cases h2
        . exact h1.1
      have h1:0 < val d n * pw e:=Int.mul_pos (val_pos na hn) (pw_pos _)
      have h2:(⟨true,o,n,c,d,e⟩:NumR).V=-(val d n * pw e):=Int.neg_mul _ _
      have h3:0 <= patV b * patV b:=sq_nonneg' _
      rw [<- hB,h2] at h3
      generalize val d n * pw e=t at *
      have h4:-t * 2 ^ 4194304 < 0:=Int.mul_neg_of_neg_of_pos (by omega) (two_pos _)
      exact absurd h4 (Int.not_lt.2 h3)
  subst hg
  obtain ⟨s,hs⟩:=isRoot_exI (scV_nonneg (val_nonneg na.1) (k:=tK (val d n) e))
  have e1:val d n * (pw e * pw 0)=patV b * patV b:=by
    rw [<- hB,<- Int.mul_assoc,pw_nil]
    rfl
  have hE:=root_back (x:=⟨false,o,n,c,d,e⟩) hok hs hb hp e1
  have hC:=rootf_ok 0 (by decide) ⟨false,o,n,c,d,e⟩ s w hR hok rfl hs H.env H.tab
  rw [hE] at hC
  exact hC
theorem abs_B {b:Int} {w:World} (hb:rng b) (H:Hold4 w):Calls Tryz.prog 17 #[.int .i64 b] w fun e w'=>e=.returned (.int .i64 (abs b))∧Below w.heap.size w w':=by
  refine (bitsAbs b w H.env.lays hb).mono ?_
  rintro e w' ⟨h,g⟩
  exact ⟨h,g.be⟩
theorem canon_B {b:Int} {w:World} (H:Hold4 w):Calls Tryz.prog 8 #[.int .i64 b] w fun e w'=>e=.returned (.int .i64 (canon b))∧Below w.heap.size w w':=by
  refine (bitsCanon b w H.env.lays).mono ?_
  rintro e w' ⟨h,g⟩
  exact ⟨h,g.be⟩
theorem infinite5 (b:Int) (w:World) (H:Hold4 w) :
    Calls Tryz.prog 34 #[.int .i64 b] w fun r w'=>r=.returned (.bool (decide (cls b=3)))∧Below w.heap.size w w':=by
  have CC:Hid (Calls Tryz.prog 6 #[.int .i64 b] w fun e w'=>e=.returned (.int .i64 (cls b))∧Below w.heap.size w w'):=(bitsClass _ w H.env.lays).mono fun e w' q=>⟨q.1,q.2.be⟩
  generalize cls b=c at *
  by_cases h:c=3
  all_goals
    go_enter Tryz.func34,Tryz.ntmps34
    go_wp2_with fail
    refine CC.out.mono ?_
    rintro _ y1 ⟨rfl,hw1⟩
    go_wp2
    go_ret
    exact ⟨by simp [h],hw1⟩
set_option maxRecDepth 100000 in
set_option maxHeartbeats 2000000 in
theorem index5 {ao:Option Addr} {n ca:Nat} {a:Nat->Int} (w:World) (R:Row w ao n ca a) (H:Hold4 w) :
    Calls Tryz.prog 56 #[.slice ao n ca,.func (.func 34) #[] #[]] w fun r w'=>∃ j:Int,r=.returned (.int .i64 j)∧(0 <= j ↔ ∃ i,i < n∧cls (a i)=3)∧Below w.heap.size w w':=by
  have hE:∀ (cap:Array Value) (w:World),(callFunc 34 cap).run Tryz.prog w=.ok (.enter 34 cap) w:=by intro cap w; simp [go_sem]
  have hla:=R.le
  have hma:=R.max
  go_enter Tryz.func56,Tryz.ntmps56
  go_wp2_with fail
  go_loopw [8] (fun iv wr=>∃ k:Nat,k <= n∧iv=.int .i64 k∧Hid (∀ i,i < k->cls (a i) ≠ 3)∧Below w.heap.size w wr) (fun iv _=>n - (intOf iv).toNat)
  case atStart=>exact ⟨0,Nat.zero_le _,rfl,fun i hi=>by omega,bel_refl _⟩
  case round=>
    obtain ⟨k,hk,rfl,HN,hbw⟩:=hrel
    by_cases hlt:k < n
    . have i0:(0:Int) <= (k:Int):=by omega
      have i1:(k:Int) < (n:Int):=by omega
      obtain ⟨ba,oa,rfl,hba,hca⟩:=R.spot (by omega)
      have A0:=q_cell (hca k hlt) hbw
      have C1:Hid (∀ W,Below wr.heap.size wr W->Calls Tryz.prog 34 #[.int .i64 (a k)] W fun r w'=>r=.returned (.bool (decide (cls (a k)=3)))∧Below W.heap.size W w'):=fun W h=>infinite5 _ W (H.keeps (bel_trans hbw h))
      clear hca
      by_cases h3:cls (a k)=3
      . have HE:Hid (∃ i,i < n∧cls (a i)=3):=⟨k,hlt,h3⟩
        rw [decide_eq_true h3] at C1
        generalize a k=y at *
        go_wp2_with fail
        refine (C1.out _ (bel_refl _)).mono ?_
        rintro _ y1 ⟨rfl,hw1⟩
        go_wp2
        go_ret
        exact ⟨_,rfl,⟨fun _=>HE.out,fun _=>by omega⟩,bel_trans hbw hw1⟩
      . have HE:Hid (cls (a k) ≠ 3):=h3
        rw [decide_eq_false h3] at C1
        generalize hy:a k=y at *
        have HY:=hideIt hy
        clear hy
        go_wp2_with fail
        refine (C1.out _ (bel_refl _)).mono ?_
        rintro _ y1 ⟨rfl,hw1⟩
        go_wp2
        go_roundw
        case rel=>
          refine ⟨k + 1,hlt,by go_num,fun i hi=>?_,bel_trans hbw hw1⟩
          by_cases e:i=k
          . subst e; rw [HY.out]; exact HE.out
          . exact HN.out i (by omega)
        case measure=>simp [intOf]; omega
    . obtain rfl:k=n:=by omega
      have j0:¬ (k:Int) < (k:Int):=by omega
      go_wp2
      go_ret
      exact ⟨_,rfl,⟨fun h=>by omega,fun ⟨i,hi,h⟩=>absurd h (HN.out i hi)⟩,hbw⟩
set_option maxRecDepth 100000 in
theorem contains5 {ao:Option Addr} {n ca:Nat} {a:Nat->Int} (B:Bool) (hB:B=true ↔ ∃ i,i < n∧cls (a i)=3) (w:World) (R:Row w ao n ca a) (H:Hold4 w) :
    Calls Tryz.prog 33 #[.slice ao n ca,.func (.func 34) #[] #[]] w fun r w'=>r=.returned (.bool B)∧Below w.heap.size w w':=by
  have C1:=hideIt (index5 w R H)
  clear R H
  go_enter Tryz.func33,Tryz.ntmps33
  go_wp2_with fail
  refine C1.out.mono ?_
  rintro _ y1 ⟨j,rfl,hj,hw1⟩
  rw [<- hB] at hj
  cases B
  . have h:¬ (0:Int) <= j:=fun h=>by have:=hj.1 h; cases this
    clear hj hB
    go_wp2
    go_ret
    exact ⟨by first | rfl | simp [h],hw1⟩
  . have h:(0:Int) <= j:=hj.2 rfl
    clear hj hB
    go_wp2
    go_ret
    exact ⟨by first | rfl | simp [h],hw1⟩
set_option maxRecDepth 100000 in
set_option maxHeartbeats 4000000 in
theorem sumR {ao:Option Addr} {n ca gl:Nat} {a:Nat->Int} {b:Int} (w:World) (l_k:w.heap[gl]?=some (.cells #[.slice ao n ca,.slice ao n ca] 24 (0,0))) (RA:Row w ao n ca a) (fa:∀ i,i < n->rng (a i)∧pok (a i)=true) (hn:n <= 4096) (H:Hold4 w) (rb:rng b) (pb:pok b=true) (hb:sumF (fun i=>patV (a i) * patV (a i)) n=patV b * patV b) :
    Calls Tryz.prog 30 #[.agg #[.func (.func 29) #[] #[],.func (.func 28) #[] #[],.func (.func 43) #[] #[],.func (.func 32) #[] #[]],.int .i64 0,.slice (some ⟨gl,0,none⟩) 2 2] w fun r w'=>r=.returned (.tuple #[.int .i64 (canon (abs b)),.int .i64 0])∧Below w.heap.size w w':=by
  have hst:∀ p F c m w,(store p (.func (.func F) #[] c) m).run Tryz.prog w=stored Tryz.prog w p (.func (.func F) #[] c) m:=fun p F c m w=>run_store _ w p _ m rfl
  have hE:∀ (cap:Array Value) (w:World),(callFunc 32 cap).run Tryz.prog w=.ok (.enter 32 cap) w:=by intro cap w; simp [go_sem]
  have C1:Hid (∀ W,Below w.heap.size w W->Calls Tryz.prog 50 #[.int .i64 0,.slice (some ⟨gl,0,none⟩) 2 2] W fun r w'=>r=.returned (.int .i64 0)∧Below W.heap.size W w'):=fun W h=>refusal2W 0 ⟨by omega,by omega⟩ W (blk_on h l_k) (by omega) (H.keeps h)
  have C2:Hid (∀ W,Below w.heap.size w W->Calls Tryz.prog 51 #[.agg #[.func (.func 29) #[] #[],.func (.func 28) #[] #[],.func (.func 43) #[] #[],.func (.func 32) #[] #[]],.slice (some ⟨gl,0,none⟩) 2 2] W fun r w'=>r=.returned (.float .f64 0)∧Below W.heap.size W w'):=fun W h=>strays2 W (blk_on h l_k) (RA.keeps h) (RA.keeps h) fa fa
  have C3:Hid (∀ W,Below w.heap.size w W->Calls Tryz.prog 52 #[.agg #[.func (.func 29) #[] #[],.func (.func 28) #[] #[],.func (.func 43) #[] #[],.func (.func 32) #[] #[]],.slice (some ⟨gl,0,none⟩) 2 2] W fun r w'=>∃ (x:NumR),r=.returned (.agg #[.bool x.ng,.slice x.ao x.n x.cap,.int .i64 x.e])∧(∀ W2,Below w'.heap.size w' W2->Calls Tryz.prog 32 #[.agg #[.bool x.ng,.slice x.ao x.n x.cap,.int .i64 x.e],.int .i64 0] W2 fun r2 w2=>r2=.returned (.tuple #[.int .i64 (canon (abs b)),.bool false,.int .i64 0])∧Below W2.heap.size W2 w2)∧Below W.heap.size W w'):=fun W h=>by
    refine (totalF W (blk_on h l_k) (RA.keeps h) (RA.keeps h) (fun i hi=>(fa i hi).2) (fun i hi=>(fa i hi).2) (by omega) (H.keeps h)).mono ?_
    rintro _ w' ⟨v,V,rfl,hD,hV,hB,hbb⟩
    rw [hb] at hV
    obtain ⟨x,rfl,hR,ok,e⟩:=hD.open (hB.ok (by omega))
    refine ⟨x,rfl,fun W2 h2=>?_,hbb⟩
    have H2:=H.keeps (bel_trans h (bel_trans hbb h2))
    exact root_D0 (hD.keeps h2) (hB.ok (by omega)) rb pb hV H2
  clear RA fa H hb
  generalize canon (abs b)=res at *
  have ho:FloatKind.f64.format.order 0 0=some .eq:=by decide +kernel
  have hb0:=bel_alloc w (.cells #[.func (.func 29) #[] #[],.func (.func 28) #[] #[],.func (.func 43) #[] #[],.func (.func 32) #[] #[]] 50)
  have b_k:=heap_a1 w (.cells #[.func (.func 29) #[] #[],.func (.func 28) #[] #[],.func (.func 43) #[] #[],.func (.func 32) #[] #[]] 50)
  go_enter Tryz.func30,Tryz.ntmps30
  go_wp2_with fail
  generalize w.alloc (.cells #[.func (.func 29) #[] #[],.func (.func 28) #[] #[],.func (.func 43) #[] #[],.func (.func 32) #[] #[]] 50)=x0 at hb0 b_k ⊢
  refine (C1.out _ hb0).mono ?_
  rintro _ y1 ⟨rfl,hw1⟩
  replace b_k:=blk_on hw1 b_k
  replace hb0:=bel_trans hb0 hw1
  have f0:=blkC b_k 0 rfl
  have f1:=blkC b_k 1 rfl
  have f2:=blkC b_k 2 rfl
  have f3:=blkC b_k 3 rfl
  go_wp2_with fail
  clear f0 f1 f2 f3
  refine (C2.out _ hb0).mono ?_
  rintro _ y2 ⟨rfl,hw2⟩
  replace b_k:=blk_on hw2 b_k
  replace hb0:=bel_trans hb0 hw2
  go_wp2_with fail
  have KK:∀ W,Below y2.heap.size y2 W->W.cell? ⟨w.heap.size,0,none⟩=some (.func (.func 29) #[] #[])∧W.cell? ⟨w.heap.size,1,none⟩=some (.func (.func 28) #[] #[])∧W.cell? ⟨w.heap.size,2,none⟩=some (.func (.func 43) #[] #[])∧W.cell? ⟨w.heap.size,3,none⟩=some (.func (.func 32) #[] #[]):=fun W hb=>⟨q_cell (blkC b_k 0 rfl) hb,q_cell (blkC b_k 1 rfl) hb,q_cell (blkC b_k 2 rfl) hb,q_cell (blkC b_k 3 rfl) hb⟩
  have hC0:=(bel_refl y2).drew
  go_region_held3 (fun W=>W.cell? ⟨w.heap.size,0,none⟩=some (.func (.func 29) #[] #[])∧W.cell? ⟨w.heap.size,1,none⟩=some (.func (.func 28) #[] #[])∧W.cell? ⟨w.heap.size,2,none⟩=some (.func (.func 43) #[] #[])∧W.cell? ⟨w.heap.size,3,none⟩=some (.func (.func 32) #[] #[]))
    (with_reducible first | assumption | exact KK _ hC0 | exact KK _ hC1 | exact KK _ hC2 | fail)
    (first
      | (go_at_call 32; refine (CT _ (bel_refl _)).mono ?_; rintro _ y4 ⟨rfl,hq2⟩; have hC2:=bel_trans hC1 hq2)
      | (go_at_call 52; refine (C3.out _ (bel_trans hb0 hC0)).mono ?_; rintro _ y3 ⟨x,rfl,CT,hq1⟩; have hC1:=bel_trans hC0 hq1))
  all_goals go_wp2
  all_goals exact bodyPost_ret (v:=.tuple #[.int .i64 res,.int .i64 0]) (by simp [results,Tryz.results30,go_sem]) rfl ⟨rfl,bel_trans hb0 hC2⟩
set_option maxRecDepth 100000 in
set_option maxHeartbeats 2000000 in
theorem norm_by {ao:Option Addr} {n ca:Nat} {a:Nat->Int} {way s er:Int} (B:Bool) (w:World) (RA:Row w ao n ca a) (H:Hold4 w) (hB:B=true ↔ ∃ i,i < n∧cls (a i)=3)
    (hS:∀ W gl,Below w.heap.size w W->W.heap[gl]?=some (.cells #[.slice ao n ca,.slice ao n ca] 24 (0,0))->Calls Tryz.prog 30 #[.agg #[.func (.func 29) #[] #[],.func (.func 28) #[] #[],.func (.func 43) #[] #[],.func (.func 32) #[] #[]],.int .i64 way,.slice (some ⟨gl,0,none⟩) 2 2] W fun r w'=>r=.returned (.tuple #[.int .i64 s,.int .i64 er])∧Below W.heap.size W w') :
    Calls Tryz.prog 11 #[.slice ao n ca,.int .i64 way] w fun r w'=>r=.returned (.tuple #[.int .i64 (if er=0∧B=true then 9218868437227405312 else s),.int .i64 (if er=0∧B=true then 0 else er)])∧Below w.heap.size w w':=by
  have hst:∀ p F m w,(store p (.func (.func F) #[] #[]) m).run Tryz.prog w=stored Tryz.prog w p (.func (.func F) #[] #[]) m:=fun p F m w=>run_store _ w p _ m rfl
  have C1:Hid (∀ W,Calls Tryz.prog 31 #[] W fun r w'=>r=.returned (.agg #[.func (.func 29) #[] #[],.func (.func 28) #[] #[],.func (.func 43) #[] #[],.func (.func 53) #[] #[]])∧Below W.heap.size W w'):=fun W=>binary64F W
  have C2:=hideIt hS
  have C3:Hid (∀ W,Below w.heap.size w W->Calls Tryz.prog 33 #[.slice ao n ca,.func (.func 34) #[] #[]] W fun r w'=>r=.returned (.bool B)∧Below W.heap.size W w'):=fun W h=>contains5 B hB W (RA.keeps h) (H.keeps h)
  clear RA H hS hB
  go_enter Tryz.func11,Tryz.ntmps11
  go_wp2_with fail
  refine (C1.out _).mono ?_
  rintro _ y1 ⟨rfl,hw1⟩
  have hbx:=bel_alloc y1 (.cells #[.func (.func 29) #[] #[],.func (.func 28) #[] #[],.func (.func 43) #[] #[],.func (.func 32) #[] #[]] 50)
  have x_k:=heap_a1 y1 (.cells #[.func (.func 29) #[] #[],.func (.func 28) #[] #[],.func (.func 43) #[] #[],.func (.func 32) #[] #[]] 50)
  have f0:=blkC x_k 0 rfl
  have f1:=blkC x_k 1 rfl
  have f2:=blkC x_k 2 rfl
  have f3:=blkC x_k 3 rfl
  go_wp2_with fail
  have hbz:=bel_trans hw1 (bel_trans hbx (bel_alloc (y1.alloc (.cells #[.func (.func 29) #[] #[],.func (.func 28) #[] #[],.func (.func 43) #[] #[],.func (.func 32) #[] #[]] 50)) (.cells #[.slice ao n ca,.slice ao n ca] 24)))
  refine (C2.out _ _ hbz (heap_b2 y1 (.cells #[.func (.func 29) #[] #[],.func (.func 28) #[] #[],.func (.func 43) #[] #[],.func (.func 32) #[] #[]] 50) (.cells #[.slice ao n ca,.slice ao n ca] 24))).mono ?_
  rintro _ y2 ⟨rfl,hw2⟩
  clear f0 f1 f2 f3 x_k
  have hb2:=bel_trans hbz hw2
  clear hbz hw2 hbx
  by_cases he:er=0
  . subst he
    go_wp2_with fail
    refine (C3.out _ hb2).mono ?_
    rintro _ y3 ⟨rfl,hw3⟩
    cases B
    all_goals go_wp2
    all_goals go_ret2
    all_goals exact ⟨by simp,bel_trans hb2 hw3⟩
  . go_wp2
    go_ret2
    exact ⟨by simp [he],hb2⟩
theorem row2d (w:World) (x y:Int) {g:Nat} (hg:g=w.heap.size):Row (w.alloc (.cells #[.int .i64 x,.int .i64 y] 3)) (some ⟨g,0,none⟩) 2 2 (fun i=>if i=0 then x else y):=by
  subst hg
  have q:=heap_a1 w (.cells #[.int .i64 x,.int .i64 y] 3)
  refine ⟨Nat.le_refl _,by decide,(fun e=>by cases e),fun _=>⟨_,0,rfl,(Array.getElem?_eq_some_iff.1 q).1,fun i hi=>?_⟩⟩
  rcases (show i=0∨i=1 by omega) with rfl | rfl
  . exact blkC q 0 rfl
  . exact blkC q 1 rfl
theorem SumOne {ao:Option Addr} {ca:Nat} {a:Int} (w:World) (R:Row w ao 1 ca (fun _=>a)) (ra:rng a) (pa:pok a=true) (H:Hold4 w) :
    Calls Tryz.prog 10 #[.slice ao 1 ca,.int .i64 0] w fun r w'=>r=.returned (.tuple #[.int .i64 (canon a),.int .i64 0])∧Below w.heap.size w w':=by
  have hF:=Fin5.one ra pa
  refine (Sum5 0 ⟨by omega,by omega⟩ w R hF (by omega) H).mono ?_
  rintro _ w' ⟨p,rfl,hp,hb⟩
  have e:=rd_near5 hp (sum_mult5 1 hF)
  rw [sm5_one] at e
  rw [e,canon_V pa]
  refine ⟨?_,hb⟩
  by_cases h:patV a=0
  . rw [if_pos h,if_pos h]
  . rw [if_neg h,if_neg h,near_self5 ra pa h]
theorem SumTwo {ao:Option Addr} {ca:Nat} {a b:Int} (w:World) (R:Row w ao 2 ca (fun i=>if i=0 then a else b)) (ra:rng a) (pa:pok a=true) (rb:rng b) (pb:pok b=true) (H:Hold4 w) :
    Calls Tryz.prog 10 #[.slice ao 2 ca,.int .i64 0] w fun r w'=>r=.returned (.tuple #[.int .i64 (fsum (canon a) b),.int .i64 0])∧Below w.heap.size w w':=by
  have hF:Fin5 (fun i=>if i=0 then a else b) 2:=fun i hi=>by
    rcases (show i=0∨i=1 by omega) with rfl | rfl
    . exact ⟨ra,pa⟩
    . exact ⟨rb,pb⟩
  refine (Sum5 0 ⟨by omega,by omega⟩ w R hF (by omega) H).mono ?_
  rintro _ w' ⟨p,rfl,hp,hb⟩
  have e:=rd_near5 hp (sum_mult5 2 hF)
  have e2:sm5 (fun i=>if i=0 then a else b) 2=patV a + patV b:=by
    show 0 + patV a + patV b=_
    rw [Int.zero_add]
  obtain ⟨c1,c2⟩:=canon_fin ra pa
  rw [e2] at e
  rw [e,sum_V c1 rb c2 pb (canon_neg0 pa),canon_pV pa]
  exact ⟨rfl,hb⟩
theorem NormOne {ao:Option Addr} {ca:Nat} {a:Int} (w:World) (R:Row w ao 1 ca (fun _=>a)) (ra:rng a) (pa:pok a=true) (H:Hold4 w) :
    Calls Tryz.prog 11 #[.slice ao 1 ca,.int .i64 0] w fun r w'=>r=.returned (.tuple #[.int .i64 (abs (canon a)),.int .i64 0])∧Below w.heap.size w w':=by
  have:=norm_by (way:=0) (s:=canon (abs a)) (er:=0) false w R H ⟨(fun h=>by cases h),(fun ⟨i,hi,h⟩=>by have:=cls_lt3 pa; omega)⟩ fun W gl h hl=>sumR W hl (R.keeps h) (fun i hi=>⟨ra,pa⟩) (by omega) (H.keeps h) ra pa (by show 0 + patV a * patV a=_; rw [Int.zero_add])
  rw [canon_abs5 ra pa] at this
  simpa using this
theorem AddTwo {x b:Int} (w:World) (rx:rng x) (px:pok x=true) (rb:rng b) (pb:pok b=true) (H:Hold4 w) :
    Calls Tryz.prog 9 #[.int .i64 x,.int .i64 b,.int .i64 0] w fun r w'=>r=.returned (.tuple #[.int .i64 (fsum x b),.int .i64 0])∧Below w.heap.size w w':=by
  have:=add_A (way:=0) rx rb ⟨by omega,by omega⟩ H
  unfold addP at this
  rw [if_pos (.inl rfl),show told x=x by unfold told; rw [if_neg (q_fin px)],show told b=b by unfold told; rw [if_neg (q_fin pb)]] at this
  exact this
end Go.Proofs.YteglfnnbpilheaaGreatDoor
