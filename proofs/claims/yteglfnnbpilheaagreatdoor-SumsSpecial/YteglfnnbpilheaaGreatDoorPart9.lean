/- Parts of the proof. -/
import Derived.Test.YteglfnnbpilheaaGreatDoorPart8
set_option linter.unusedVariables false
set_option linter.unusedSimpArgs false
namespace Go.Proofs.YteglfnnbpilheaaGreatDoor
open Go Go.RowKit Go.Proofs.YteglfnnbpilheaaGreatDoor.M
theorem infinite5 (b:Int) (w:World) (H:Hold4 w) :
    Calls Tryz.prog 34 #[.int .i64 b] w fun r w'=>r=.returned (.bool (decide (cls b=3)))∧Below w.heap.size w w':=by
  have CC:Hid (Calls Tryz.prog 6 #[.int .i64 b] w fun e w'=>e=.returned (.int .i64 (cls b))∧Below w.heap.size w w'):=(bitsClass _ w H.env.lays).mono fun e w' q=>⟨q.1,q.2.be⟩
  generalize cls b=c at *
  by_cases h:c=3
  all_goals
    go_enter Tryz.func34,Tryz.ntmps34
    go_wp2_with fail
    refine CC.out.mono ?_
    rintro _ y1 ⟨rfl,hw1⟩
    go_wp2
    go_ret
    exact ⟨by simp [h],hw1⟩
set_option maxRecDepth 100000 in
set_option maxHeartbeats 2000000 in
theorem index5 {ao:Option Addr} {n ca:Nat} {a:Nat->Int} (w:World) (R:Row w ao n ca a) (H:Hold4 w) :
    Calls Tryz.prog 56 #[.slice ao n ca,.func (.func 34) #[] #[]] w fun r w'=>∃ j:Int,r=.returned (.int .i64 j)∧(0 <= j ↔ ∃ i,i < n∧cls (a i)=3)∧Below w.heap.size w w':=by
  have hE:∀ (cap:Array Value) (w:World),(callFunc 34 cap).run Tryz.prog w=.ok (.enter 34 cap) w:=by intro cap w; simp [go_sem]
  have hla:=R.le
  have hma:=R.max
  go_enter Tryz.func56,Tryz.ntmps56
  go_wp2_with fail
  go_loopw [8] (fun iv wr=>∃ k:Nat,k <= n∧iv=.int .i64 k∧Hid (∀ i,i < k->cls (a i) ≠ 3)∧Below w.heap.size w wr) (fun iv _=>n - (intOf iv).toNat)
  case atStart=>exact ⟨0,Nat.zero_le _,rfl,fun i hi=>by omega,bel_refl _⟩
  case round=>
    obtain ⟨k,hk,rfl,HN,hbw⟩:=hrel
    by_cases hlt:k < n
    . have i0:(0:Int) <= (k:Int):=by omega
      have i1:(k:Int) < (n:Int):=by omega
      obtain ⟨ba,oa,rfl,hba,hca⟩:=R.spot (by omega)
      have A0:=q_cell (hca k hlt) hbw
      have C1:Hid (∀ W,Below wr.heap.size wr W->Calls Tryz.prog 34 #[.int .i64 (a k)] W fun r w'=>r=.returned (.bool (decide (cls (a k)=3)))∧Below W.heap.size W w'):=fun W h=>infinite5 _ W (H.keeps (bel_trans hbw h))
      clear hca
      by_cases h3:cls (a k)=3
      . have HE:Hid (∃ i,i < n∧cls (a i)=3):=⟨k,hlt,h3⟩
        rw [decide_eq_true h3] at C1
        generalize a k=y at *
        go_wp2_with fail
        refine (C1.out _ (bel_refl _)).mono ?_
        rintro _ y1 ⟨rfl,hw1⟩
        go_wp2
        go_ret
        exact ⟨_,rfl,⟨fun _=>HE.out,fun _=>by omega⟩,bel_trans hbw hw1⟩
      . have HE:Hid (cls (a k) ≠ 3):=h3
        rw [decide_eq_false h3] at C1
        generalize hy:a k=y at *
        have HY:=hideIt hy
        clear hy
        go_wp2_with fail
        refine (C1.out _ (bel_refl _)).mono ?_
        rintro _ y1 ⟨rfl,hw1⟩
        go_wp2
        go_roundw
        case rel=>
          refine ⟨k + 1,hlt,by go_num,fun i hi=>?_,bel_trans hbw hw1⟩
          by_cases e:i=k
          . subst e; rw [HY.out]; exact HE.out
          . exact HN.out i (by omega)
        case measure=>simp [intOf]; omega
    . obtain rfl:k=n:=by omega
      have j0:¬ (k:Int) < (k:Int):=by omega
      go_wp2
      go_ret
      exact ⟨_,rfl,⟨fun h=>by omega,fun ⟨i,hi,h⟩=>absurd h (HN.out i hi)⟩,hbw⟩
set_option maxRecDepth 100000 in
theorem contains5 {ao:Option Addr} {n ca:Nat} {a:Nat->Int} (B:Bool) (hB:B=true ↔ ∃ i,i < n∧cls (a i)=3) (w:World) (R:Row w ao n ca a) (H:Hold4 w) :
    Calls Tryz.prog 33 #[.slice ao n ca,.func (.func 34) #[] #[]] w fun r w'=>r=.returned (.bool B)∧Below w.heap.size w w':=by
  have C1:=hideIt (index5 w R H)
  clear R H
  go_enter Tryz.func33,Tryz.ntmps33
  go_wp2_with fail
  refine C1.out.mono ?_
  rintro _ y1 ⟨j,rfl,hj,hw1⟩
  rw [<- hB] at hj
  cases B
  . have h:¬ (0:Int) <= j:=fun h=>by have:=hj.1 h; cases this
    clear hj hB
    go_wp2
    go_ret
    exact ⟨by first | rfl | simp [h],hw1⟩
  . have h:(0:Int) <= j:=hj.2 rfl
    clear hj hB
    go_wp2
    go_ret
    exact ⟨by first | rfl | simp [h],hw1⟩
theorem sum_no {FT:Nat} {er way:Int} (he:er ≠ 0) {lo:Option Addr} {ln lc:Nat} (w:World) (hC:∀ W,Below w.heap.size w W->Calls Tryz.prog 50 #[.int .i64 way,.slice lo ln lc] W fun r w'=>r=.returned (.int .i64 er)∧Below W.heap.size W w') :
    Calls Tryz.prog 30 #[.agg #[.func (.func 29) #[] #[],.func (.func 28) #[] #[],.func (.func 43) #[] #[],.func (.func FT) #[] #[]],.int .i64 way,.slice lo ln lc] w fun r w'=>r=.returned (.tuple #[.int .i64 0,.int .i64 er])∧Below w.heap.size w w':=by
  have hst:∀ p F c m w,(store p (.func (.func F) #[] c) m).run Tryz.prog w=stored Tryz.prog w p (.func (.func F) #[] c) m:=fun p F c m w=>run_store _ w p _ m rfl
  have HC:=hideIt hC
  clear hC
  have hb0:=bel_alloc w (.cells #[.func (.func 29) #[] #[],.func (.func 28) #[] #[],.func (.func 43) #[] #[],.func (.func FT) #[] #[]] 50)
  go_enter Tryz.func30,Tryz.ntmps30
  go_wp2_with fail
  generalize w.alloc (.cells #[.func (.func 29) #[] #[],.func (.func 28) #[] #[],.func (.func 43) #[] #[],.func (.func FT) #[] #[]] 50)=x0 at hb0 ⊢
  refine (HC.out _ hb0).mono ?_
  rintro _ y1 ⟨rfl,hw1⟩
  go_wp2
  go_ret2
  exact ⟨rfl,bel_trans hb0 hw1⟩
set_option maxRecDepth 100000 in
set_option maxHeartbeats 2000000 in
theorem norm_by {ao:Option Addr} {n ca:Nat} {a:Nat->Int} {way s er:Int} (B:Bool) (w:World) (RA:Row w ao n ca a) (H:Hold4 w) (hB:B=true ↔ ∃ i,i < n∧cls (a i)=3)
    (hS:∀ W gl,Below w.heap.size w W->W.heap[gl]?=some (.cells #[.slice ao n ca,.slice ao n ca] 24 (0,0))->Calls Tryz.prog 30 #[.agg #[.func (.func 29) #[] #[],.func (.func 28) #[] #[],.func (.func 43) #[] #[],.func (.func 32) #[] #[]],.int .i64 way,.slice (some ⟨gl,0,none⟩) 2 2] W fun r w'=>r=.returned (.tuple #[.int .i64 s,.int .i64 er])∧Below W.heap.size W w') :
    Calls Tryz.prog 11 #[.slice ao n ca,.int .i64 way] w fun r w'=>r=.returned (.tuple #[.int .i64 (if er=0∧B=true then 9218868437227405312 else s),.int .i64 (if er=0∧B=true then 0 else er)])∧Below w.heap.size w w':=by
  have hst:∀ p F m w,(store p (.func (.func F) #[] #[]) m).run Tryz.prog w=stored Tryz.prog w p (.func (.func F) #[] #[]) m:=fun p F m w=>run_store _ w p _ m rfl
  have C1:Hid (∀ W,Calls Tryz.prog 31 #[] W fun r w'=>r=.returned (.agg #[.func (.func 29) #[] #[],.func (.func 28) #[] #[],.func (.func 43) #[] #[],.func (.func 53) #[] #[]])∧Below W.heap.size W w'):=fun W=>binary64F W
  have C2:=hideIt hS
  have C3:Hid (∀ W,Below w.heap.size w W->Calls Tryz.prog 33 #[.slice ao n ca,.func (.func 34) #[] #[]] W fun r w'=>r=.returned (.bool B)∧Below W.heap.size W w'):=fun W h=>contains5 B hB W (RA.keeps h) (H.keeps h)
  clear RA H hS hB
  go_enter Tryz.func11,Tryz.ntmps11
  go_wp2_with fail
  refine (C1.out _).mono ?_
  rintro _ y1 ⟨rfl,hw1⟩
  have hbx:=bel_alloc y1 (.cells #[.func (.func 29) #[] #[],.func (.func 28) #[] #[],.func (.func 43) #[] #[],.func (.func 32) #[] #[]] 50)
  have x_k:=heap_a1 y1 (.cells #[.func (.func 29) #[] #[],.func (.func 28) #[] #[],.func (.func 43) #[] #[],.func (.func 32) #[] #[]] 50)
  have f0:=blkC x_k 0 rfl
  have f1:=blkC x_k 1 rfl
  have f2:=blkC x_k 2 rfl
  have f3:=blkC x_k 3 rfl
  go_wp2_with fail
  have hbz:=bel_trans hw1 (bel_trans hbx (bel_alloc (y1.alloc (.cells #[.func (.func 29) #[] #[],.func (.func 28) #[] #[],.func (.func 43) #[] #[],.func (.func 32) #[] #[]] 50)) (.cells #[.slice ao n ca,.slice ao n ca] 24)))
  refine (C2.out _ _ hbz (heap_b2 y1 (.cells #[.func (.func 29) #[] #[],.func (.func 28) #[] #[],.func (.func 43) #[] #[],.func (.func 32) #[] #[]] 50) (.cells #[.slice ao n ca,.slice ao n ca] 24))).mono ?_
  rintro _ y2 ⟨rfl,hw2⟩
  clear f0 f1 f2 f3 x_k
  have hb2:=bel_trans hbz hw2
  clear hbz hw2 hbx
  by_cases he:er=0
  . subst he
    go_wp2_with fail
    refine (C3.out _ hb2).mono ?_
    rintro _ y3 ⟨rfl,hw3⟩
    cases B
    all_goals go_wp2
    all_goals go_ret2
    all_goals exact ⟨by simp,bel_trans hb2 hw3⟩
  . go_wp2
    go_ret2
    exact ⟨by simp [he],hb2⟩
theorem Sum_by {ao:Option Addr} {n ca:Nat} {way s er:Int} (w:World) (hS:∀ W gl,Below w.heap.size w W->W.heap[gl]?=some (.cells #[.slice ao n ca] 24 (0,0))->Calls Tryz.prog 30 #[.agg #[.func (.func 29) #[] #[],.func (.func 28) #[] #[],.func (.func 43) #[] #[],.func (.func 53) #[] #[]],.int .i64 way,.slice (some ⟨gl,0,none⟩) 1 1] W fun r w'=>r=.returned (.tuple #[.int .i64 s,.int .i64 er])∧Below W.heap.size W w') :
    Calls Tryz.prog 10 #[.slice ao n ca,.int .i64 way] w fun r w'=>r=.returned (.tuple #[.int .i64 s,.int .i64 er])∧Below w.heap.size w w':=by
  have C1:Hid (∀ W,Calls Tryz.prog 31 #[] W fun r w'=>r=.returned (.agg #[.func (.func 29) #[] #[],.func (.func 28) #[] #[],.func (.func 43) #[] #[],.func (.func 53) #[] #[]])∧Below W.heap.size W w'):=fun W=>binary64F W
  have C2:=hideIt hS
  clear hS
  go_enter Tryz.func10,Tryz.ntmps10
  go_wp2_with fail
  refine (C1.out _).mono ?_
  rintro _ y1 ⟨rfl,hw1⟩
  go_wp2_with fail
  refine (C2.out _ _ (bel_trans hw1 (bel_alloc y1 (.cells #[.slice ao n ca] 24))) (heap_a1 y1 (.cells #[.slice ao n ca] 24))).mono ?_
  rintro _ y2 ⟨rfl,hw2⟩
  go_wp2
  exact bodyPost_ret (v:=.tuple #[.int .i64 s,.int .i64 er]) (by simp [results,Tryz.results10,go_sem]) rfl ⟨rfl,bel_trans hw1 (bel_trans (bel_alloc y1 (.cells #[.slice ao n ca] 24)) hw2)⟩
theorem Dot_by {ao bo:Option Addr} {n m ca cb:Nat} {way s er:Int} (w:World) (hS:∀ W gl,Below w.heap.size w W->W.heap[gl]?=some (.cells #[.slice ao n ca,.slice bo m cb] 24 (0,0))->Calls Tryz.prog 30 #[.agg #[.func (.func 29) #[] #[],.func (.func 28) #[] #[],.func (.func 43) #[] #[],.func (.func 53) #[] #[]],.int .i64 way,.slice (some ⟨gl,0,none⟩) 2 2] W fun r w'=>r=.returned (.tuple #[.int .i64 s,.int .i64 er])∧Below W.heap.size W w') :
    Calls Tryz.prog 22 #[.slice ao n ca,.slice bo m cb,.int .i64 way] w fun r w'=>r=.returned (.tuple #[.int .i64 s,.int .i64 er])∧Below w.heap.size w w':=by
  have C1:Hid (∀ W,Calls Tryz.prog 31 #[] W fun r w'=>r=.returned (.agg #[.func (.func 29) #[] #[],.func (.func 28) #[] #[],.func (.func 43) #[] #[],.func (.func 53) #[] #[]])∧Below W.heap.size W w'):=fun W=>binary64F W
  have C2:=hideIt hS
  clear hS
  go_enter Tryz.func22,Tryz.ntmps22
  go_wp2_with fail
  refine (C1.out _).mono ?_
  rintro _ y1 ⟨rfl,hw1⟩
  go_wp2_with fail
  refine (C2.out _ _ (bel_trans hw1 (bel_alloc y1 (.cells #[.slice ao n ca,.slice bo m cb] 24))) (heap_a1 y1 (.cells #[.slice ao n ca,.slice bo m cb] 24))).mono ?_
  rintro _ y2 ⟨rfl,hw2⟩
  go_wp2
  exact bodyPost_ret (v:=.tuple #[.int .i64 s,.int .i64 er]) (by simp [results,Tryz.results22,go_sem]) rfl ⟨rfl,bel_trans hw1 (bel_trans (bel_alloc y1 (.cells #[.slice ao n ca,.slice bo m cb] 24)) hw2)⟩
theorem fw_el {a:Int} (ra:rng a):FW (told a) (wd a):=by
  unfold told
  by_cases h:cls a=4
  . rw [if_pos h]
    refine FW.nan ⟨?_,?_⟩
    . unfold wd; unfold rng at ra; omega
    . have:=cls4.1 h
      unfold fld frc at this
      unfold wd
      unfold rng at ra
      omega
  . rw [if_neg h]
    exact FW.pat h ra
theorem nanw_order {z:Nat} (h:FW 9221120237041090561 z) (y:Nat):FloatKind.f64.format.order z y=none:=by
  rcases h with ⟨h,_⟩ | ⟨_,h⟩
  . exact absurd (by decide) h
  . exact order_nan FloatKind.f64.format (by decide) z y (.inl h.2)
theorem self_nan {a:Int} (ra:rng a) (h:pok a=false):fsum (told a) (neg (told a))=9221120237041090561:=by
  unfold told
  by_cases c:cls a=4
  . rw [if_pos c]; decide
  . rw [if_neg c]
    have hr:rg a=9218868437227405312:=by
      have h1:¬ rg a < 9218868437227405312:=fun q=>by have:=(pok_rg ra).2 q; rw [this] at h; cases h
      have h2:¬ 9218868437227405312 < rg a:=fun q=>c ((cls_rg ra).1.2 q)
      omega
    obtain ⟨n1,n2,n3⟩:=neg_sign ra c
    unfold fsum
    rw [if_neg (fun q=>q.elim c n3),if_pos hr,if_pos ⟨n2.trans hr,by rw [n1]; cases decide (a < 0) <;> decide⟩]
set_option maxRecDepth 100000 in
set_option maxHeartbeats 4000000 in
theorem straysS1 {FT:Nat} {ao:Option Addr} {n ca g:Nat} {a S:Nat->Int} (w:World) (hg:w.heap[g]?=some (.cells #[.slice ao n ca] 24 (0,0))) (Ra:Row w ao n ca a) (ra:∀ i,i < n->rng (a i)) (S0:S 0=0) (hS:∀ k,k < n->S (k + 1)=if pok (a k)=true then S k else fsum (S k) (fprod 4607182418800017408 (told (a k)))) :
    Calls Tryz.prog 51 #[.agg #[.func (.func 29) #[] #[],.func (.func 28) #[] #[],.func (.func 43) #[] #[],.func (.func FT) #[] #[]],.slice (some ⟨g,0,none⟩) 1 1] w fun r w'=>∃ x,r=.returned (.float .f64 x)∧FW (S n) x∧Below w.heap.size w w':=by
  have hst:∀ p F c m w,(store p (.func (.func F) #[] c) m).run Tryz.prog w=stored Tryz.prog w p (.func (.func F) #[] c) m:=fun p F c m w=>run_store _ w p _ m rfl
  have hE:∀ (cap:Array Value) (w:World),(callFunc 29 cap).run Tryz.prog w=.ok (.enter 29 cap) w:=by intro cap w; simp [go_sem]
  have hcv:∀ w,(convert 3 45 (.int .i64 1)).run Tryz.prog w=.ok (.float .f64 4607182418800017408) w:=fun _=>by kernel_rfl
  have hla:=Ra.le
  have hma:=Ra.max
  have hbA:=bel_alloc w (.cells #[.func (.func 29) #[] #[],.func (.func 28) #[] #[],.func (.func 43) #[] #[],.func (.func FT) #[] #[]] 50)
  have gA:=heap_a1 w (.cells #[.func (.func 29) #[] #[],.func (.func 28) #[] #[],.func (.func 43) #[] #[],.func (.func FT) #[] #[]] 50)
  have fA:=blkC (heap_past (.cells #[.func (.func 29) #[] #[],.func (.func 28) #[] #[],.func (.func 43) #[] #[],.func (.func FT) #[] #[]] 50) hg) 0 rfl
  go_enter Tryz.func51,Tryz.ntmps51
  go_wp2_with fail
  clear fA
  generalize w.alloc (.cells #[.func (.func 29) #[] #[],.func (.func 28) #[] #[],.func (.func 43) #[] #[],.func (.func FT) #[] #[]] 50)=wa at hbA gA ⊢
  go_loopw [5,16] (fun sv iv wr=>∃ (k:Nat) (x:Nat),k <= n∧iv=.int .i64 k∧sv=.float .f64 x∧Hid (FW (S k) x)∧Below wa.heap.size wa wr) (fun _ iv _=>n - (intOf iv).toNat)
  case atStart=>exact ⟨0,0,Nat.zero_le _,rfl,rfl,by rw [S0]; exact FW.pat (p:=0) (by decide) (by unfold rng; decide),bel_refl _⟩
  case round=>
    obtain ⟨k,xs,hk,rfl,rfl,HS,hbw⟩:=hrel
    by_cases hlt:k < n
    . have i0:(0:Int) <= (k:Int):=by omega
      have i1:(k:Int) < (n:Int):=by omega
      obtain ⟨ba,oa,rfl,hba,hca⟩:=Ra.spot (by omega)
      have hbq:=bel_trans hbA hbw
      have CA:=q_cell (hca k hlt) hbq
      have CF:=q_cell (blkC gA 0 rfl) hbw
      have g':=blk_on hbq hg
      have HSk:=hideIt (hS k hlt)
      go_wp2_with fail
      go_loopw [7,8,22] (fun tv fv jv wr2=>∃ (j:Nat) (p:Int) (x:Nat) (f:Bool),jv=.int .i64 j∧fv=.bool f∧tv=.float .f64 x∧Hid (FW p x)∧((j=0∧p=4607182418800017408∧f=true)∨(j=1∧p=fprod 4607182418800017408 (told (a k))∧f=pok (a k)))∧Below wr.heap.size wr wr2) (fun _ _ jv _=>1 - (intOf jv).toNat)
      case atStart=>exact ⟨0,4607182418800017408,4607182418800017408,true,rfl,rfl,rfl,(FW.pat (p:=4607182418800017408) (by decide) (by unfold rng; decide)),.inl ⟨rfl,rfl,rfl⟩,bel_refl _⟩
      case round=>
        obtain ⟨j,p,x,f,rfl,rfl,rfl,HX,hd,hbw2⟩:=hrel
        have Aa:=q_cell CA hbw2
        have F0:=q_cell CF hbw2
        have g2:=blk_on hbw2 g'
        have c0:=blkC g2 0 rfl
        clear g2
        rcases hd with ⟨rfl,rfl,rfl⟩ | ⟨rfl,rfl,rfl⟩
        . cases ha:pok (a k)
          . have C1:Hid (∀ W,Calls Tryz.prog 29 #[.int .i64 (a k)] W fun e w'=>e=.returned (.float .f64 (wd (a k)))∧w'=W):=fun W=>bitsFloat _ W
            have hfx:=fw_el (ra k hlt)
            obtain ⟨fm,gm,hhm⟩:∃ (f:World->Nat) (h:World->World),∀ W,(binOp .mul 45 (.float .f64 x) (.float .f64 (wd (a k)))).run Tryz.prog W=.ok (.float .f64 (f W)) (h W)∧FW (fprod 4607182418800017408 (told (a k))) (f W)∧(h W=W∨h W=W.drew):=by
              have:=fun W=>run_fprod (P:=Tryz.prog) 45 HX.out hfx W
              obtain ⟨f,h1⟩:=Classical.skolem.1 this
              obtain ⟨h,h2⟩:=Classical.skolem.1 h1
              exact ⟨f,h,h2⟩
            have runm:=fun W=>(hhm W).1
            have HFm:Hid (∀ W,FW (fprod 4607182418800017408 (told (a k))) (fm W)):=fun W=>(hhm W).2.1
            have HGm:Hid (∀ {B:Nat} {A W:World},Below B A W->Below B A (gm W)):=fun {B A W} h=>by rcases (hhm W).2.2 with e | e <;> rw [e]; (· exact h); (· exact h.drew)
            clear hhm
            obtain ⟨fd,gd,hhd⟩:∃ (f:World->Nat) (h:World->World),∀ W,(binOp .sub 45 (.float .f64 (wd (a k))) (.float .f64 (wd (a k)))).run Tryz.prog W=.ok (.float .f64 (f W)) (h W)∧FW (fsum (told (a k)) (neg (told (a k)))) (f W)∧(h W=W∨h W=W.drew):=by
              have:=fun W=>run_fdiff (P:=Tryz.prog) 45 hfx hfx W
              obtain ⟨f,h1⟩:=Classical.skolem.1 this
              obtain ⟨h,h2⟩:=Classical.skolem.1 h1
              exact ⟨f,h,h2⟩
            have rund:=fun W=>(hhd W).1
            have HFd:Hid (∀ W,FW (fsum (told (a k)) (neg (told (a k)))) (fd W)):=fun W=>(hhd W).2.1
            have HGd:Hid (∀ {B:Nat} {A W:World},Below B A W->Below B A (gd W)):=fun {B A W} h=>by rcases (hhd W).2.2 with e | e <;> rw [e]; (· exact h); (· exact h.drew)
            clear hhd
            have ho:∀ W,FloatKind.f64.format.order (fd W) 0=none:=fun W=>nanw_order (self_nan (ra k hlt) ha ▸ HFd.out W) 0
            clear hfx
            generalize hX:wd (a k)=X at *
            clear hX
            generalize hY:a k=Y at Aa C1
            have HY:=hideIt hY
            clear hY
            go_wp2_with fail
            go_quiet ((go_at_call 29; with_reducible exact Calls.quiet_of_same (C1.out _)))
            go_wp2
            go_roundw
            case rel=>exact ⟨1,_,_,false,by go_num,rfl,rfl,HFm.out _,.inr ⟨rfl,(by first | rfl | rw [HY.out]),(by first | rfl | exact ha.symm)⟩,HGd.out (HGm.out (bDrewN hbw2 nq))⟩
            case measure=>simp [intOf]
          . have C1:Hid (∀ W,Calls Tryz.prog 29 #[.int .i64 (a k)] W fun e w'=>e=.returned (.float .f64 (wd (a k)))∧w'=W):=fun W=>bitsFloat _ W
            have hfx:=fw_el (ra k hlt)
            obtain ⟨fm,gm,hhm⟩:∃ (f:World->Nat) (h:World->World),∀ W,(binOp .mul 45 (.float .f64 x) (.float .f64 (wd (a k)))).run Tryz.prog W=.ok (.float .f64 (f W)) (h W)∧FW (fprod 4607182418800017408 (told (a k))) (f W)∧(h W=W∨h W=W.drew):=by
              have:=fun W=>run_fprod (P:=Tryz.prog) 45 HX.out hfx W
              obtain ⟨f,h1⟩:=Classical.skolem.1 this
              obtain ⟨h,h2⟩:=Classical.skolem.1 h1
              exact ⟨f,h,h2⟩
            have runm:=fun W=>(hhm W).1
            have HFm:Hid (∀ W,FW (fprod 4607182418800017408 (told (a k))) (fm W)):=fun W=>(hhm W).2.1
            have HGm:Hid (∀ {B:Nat} {A W:World},Below B A W->Below B A (gm W)):=fun {B A W} h=>by rcases (hhm W).2.2 with e | e <;> rw [e]; (· exact h); (· exact h.drew)
            clear hhm
            have hz:=self_nil (ra k hlt) ha
            have hd:=fun W=>run_diffN (P:=Tryz.prog) 45 (FW.pat (q_fin ha) (ra k hlt)) (FW.pat (q_fin ha) (ra k hlt)) hz.1 W
            have ho:=hz.2
            clear hz
            generalize wd (fsum (a k) (neg (a k)))=D at *
            clear hfx
            generalize hX:wd (a k)=X at *
            clear hX
            generalize hY:a k=Y at Aa C1
            have HY:=hideIt hY
            clear hY
            go_wp2_with fail
            go_quiet ((go_at_call 29; with_reducible exact Calls.quiet_of_same (C1.out _)))
            go_wp2
            go_roundw
            case rel=>exact ⟨1,_,_,true,by go_num,rfl,rfl,HFm.out _,.inr ⟨rfl,(by first | rfl | rw [HY.out]),(by first | rfl | exact ha.symm)⟩,HGm.out (bDrewN hbw2 nq)⟩
            case measure=>simp [intOf]
        . cases hf:pok (a k)
          . have HSf:Hid (S (k + 1)=fsum (S k) (fprod 4607182418800017408 (told (a k)))):=by have:=HSk.out; rw [if_neg (by rw [hf]; decide)] at this; exact this
            obtain ⟨fs,gs,hhs⟩:∃ (f:World->Nat) (h:World->World),∀ W,(binOp .add 45 (.float .f64 xs) (.float .f64 x)).run Tryz.prog W=.ok (.float .f64 (f W)) (h W)∧FW (fsum (S k) (fprod 4607182418800017408 (told (a k)))) (f W)∧(h W=W∨h W=W.drew):=by
              have:=fun W=>run_fsum (P:=Tryz.prog) 45 HS.out HX.out W
              obtain ⟨f,h1⟩:=Classical.skolem.1 this
              obtain ⟨h,h2⟩:=Classical.skolem.1 h1
              exact ⟨f,h,h2⟩
            have runs:=fun W=>(hhs W).1
            have HFs:Hid (∀ W,FW (fsum (S k) (fprod 4607182418800017408 (told (a k)))) (fs W)):=fun W=>(hhs W).2.1
            have HGs:Hid (∀ {B:Nat} {A W:World},Below B A W->Below B A (gs W)):=fun {B A W} h=>by rcases (hhs W).2.2 with e | e <;> rw [e]; (· exact h); (· exact h.drew)
            clear hhs
            clear Aa F0 c0
            go_wp2
            go_roundw
            case rel=>exact ⟨k + 1,_,by omega,by go_num,rfl,by rw [HSf.out]; exact HFs.out _,HGs.out (bel_trans hbw hbw2)⟩
            case measure=>simp [intOf]; omega
          . have HSf:Hid (S (k + 1)=S k):=by have:=HSk.out; rw [if_pos hf] at this; exact this
            clear Aa F0 c0
            go_wp2
            go_roundw
            case rel=>exact ⟨k + 1,_,by omega,by go_num,rfl,by rw [HSf.out]; exact HS.out,bel_trans hbw hbw2⟩
            case measure=>simp [intOf]; omega
    . obtain rfl:k=n:=by omega
      have j0:¬ (k:Int) < (k:Int):=by omega
      go_wp2
      go_ret
      exact ⟨_,rfl,HS.out,bel_trans hbA hbw⟩
set_option maxRecDepth 100000 in
set_option maxHeartbeats 4000000 in
theorem straysS2 {FT:Nat} {ao bo:Option Addr} {n ca cb g:Nat} {a b S:Nat->Int} (w:World) (hg:w.heap[g]?=some (.cells #[.slice ao n ca,.slice bo n cb] 24 (0,0))) (Ra:Row w ao n ca a) (Rb:Row w bo n cb b) (ra:∀ i,i < n->rng (a i)) (rb:∀ i,i < n->rng (b i)) (S0:S 0=0) (hS:∀ k,k < n->S (k + 1)=if (pok (a k) && pok (b k))=true then S k else fsum (S k) (fprod (fprod 4607182418800017408 (told (a k))) (told (b k)))) :
    Calls Tryz.prog 51 #[.agg #[.func (.func 29) #[] #[],.func (.func 28) #[] #[],.func (.func 43) #[] #[],.func (.func FT) #[] #[]],.slice (some ⟨g,0,none⟩) 2 2] w fun r w'=>∃ x,r=.returned (.float .f64 x)∧FW (S n) x∧Below w.heap.size w w':=by
  have hst:∀ p F c m w,(store p (.func (.func F) #[] c) m).run Tryz.prog w=stored Tryz.prog w p (.func (.func F) #[] c) m:=fun p F c m w=>run_store _ w p _ m rfl
  have hE:∀ (cap:Array Value) (w:World),(callFunc 29 cap).run Tryz.prog w=.ok (.enter 29 cap) w:=by intro cap w; simp [go_sem]
  have hcv:∀ w,(convert 3 45 (.int .i64 1)).run Tryz.prog w=.ok (.float .f64 4607182418800017408) w:=fun _=>by kernel_rfl
  have hla:=Ra.le
  have hma:=Ra.max
  have hlb:=Rb.le
  have hmb:=Rb.max
  have hbA:=bel_alloc w (.cells #[.func (.func 29) #[] #[],.func (.func 28) #[] #[],.func (.func 43) #[] #[],.func (.func FT) #[] #[]] 50)
  have gA:=heap_a1 w (.cells #[.func (.func 29) #[] #[],.func (.func 28) #[] #[],.func (.func 43) #[] #[],.func (.func FT) #[] #[]] 50)
  have fA:=blkC (heap_past (.cells #[.func (.func 29) #[] #[],.func (.func 28) #[] #[],.func (.func 43) #[] #[],.func (.func FT) #[] #[]] 50) hg) 0 rfl
  go_enter Tryz.func51,Tryz.ntmps51
  go_wp2_with fail
  clear fA
  generalize w.alloc (.cells #[.func (.func 29) #[] #[],.func (.func 28) #[] #[],.func (.func 43) #[] #[],.func (.func FT) #[] #[]] 50)=wa at hbA gA ⊢
  go_loopw [5,16] (fun sv iv wr=>∃ (k:Nat) (x:Nat),k <= n∧iv=.int .i64 k∧sv=.float .f64 x∧Hid (FW (S k) x)∧Below wa.heap.size wa wr) (fun _ iv _=>n - (intOf iv).toNat)
  case atStart=>exact ⟨0,0,Nat.zero_le _,rfl,rfl,by rw [S0]; exact FW.pat (p:=0) (by decide) (by unfold rng; decide),bel_refl _⟩
  case round=>
    obtain ⟨k,xs,hk,rfl,rfl,HS,hbw⟩:=hrel
    by_cases hlt:k < n
    . have i0:(0:Int) <= (k:Int):=by omega
      have i1:(k:Int) < (n:Int):=by omega
      obtain ⟨ba,oa,rfl,hba,hca⟩:=Ra.spot (by omega)
      obtain ⟨bb,ob,rfl,hbb,hcb⟩:=Rb.spot (by omega)
      have hbq:=bel_trans hbA hbw
      have CA:=q_cell (hca k hlt) hbq
      have CB:=q_cell (hcb k hlt) hbq
      have CF:=q_cell (blkC gA 0 rfl) hbw
      have g':=blk_on hbq hg
      have HSk:=hideIt (hS k hlt)
      go_wp2_with fail
      go_loopw [7,8,22] (fun tv fv jv wr2=>∃ (j:Nat) (p:Int) (x:Nat) (f:Bool),jv=.int .i64 j∧fv=.bool f∧tv=.float .f64 x∧Hid (FW p x)∧((j=0∧p=4607182418800017408∧f=true)∨(j=1∧p=fprod 4607182418800017408 (told (a k))∧f=pok (a k))∨(j=2∧p=fprod (fprod 4607182418800017408 (told (a k))) (told (b k))∧f=(pok (a k) && pok (b k))))∧Below wr.heap.size wr wr2) (fun _ _ jv _=>2 - (intOf jv).toNat)
      case atStart=>exact ⟨0,4607182418800017408,4607182418800017408,true,rfl,rfl,rfl,(FW.pat (p:=4607182418800017408) (by decide) (by unfold rng; decide)),.inl ⟨rfl,rfl,rfl⟩,bel_refl _⟩
      case round=>
        obtain ⟨j,p,x,f,rfl,rfl,rfl,HX,hd,hbw2⟩:=hrel
        have Aa:=q_cell CA hbw2
        have Ab:=q_cell CB hbw2
        have F0:=q_cell CF hbw2
        have g2:=blk_on hbw2 g'
        have c0:=blkC g2 0 rfl
        have c1:=blkC g2 1 rfl
        clear g2
        rcases hd with ⟨rfl,rfl,rfl⟩ | ⟨rfl,rfl,rfl⟩ | ⟨rfl,rfl,rfl⟩
        . cases ha:pok (a k)
          . have C1:Hid (∀ W,Calls Tryz.prog 29 #[.int .i64 (a k)] W fun e w'=>e=.returned (.float .f64 (wd (a k)))∧w'=W):=fun W=>bitsFloat _ W
            have hfx:=fw_el (ra k hlt)
            obtain ⟨fm,gm,hhm⟩:∃ (f:World->Nat) (h:World->World),∀ W,(binOp .mul 45 (.float .f64 x) (.float .f64 (wd (a k)))).run Tryz.prog W=.ok (.float .f64 (f W)) (h W)∧FW (fprod 4607182418800017408 (told (a k))) (f W)∧(h W=W∨h W=W.drew):=by
              have:=fun W=>run_fprod (P:=Tryz.prog) 45 HX.out hfx W
              obtain ⟨f,h1⟩:=Classical.skolem.1 this
              obtain ⟨h,h2⟩:=Classical.skolem.1 h1
              exact ⟨f,h,h2⟩
            have runm:=fun W=>(hhm W).1
            have HFm:Hid (∀ W,FW (fprod 4607182418800017408 (told (a k))) (fm W)):=fun W=>(hhm W).2.1
            have HGm:Hid (∀ {B:Nat} {A W:World},Below B A W->Below B A (gm W)):=fun {B A W} h=>by rcases (hhm W).2.2 with e | e <;> rw [e]; (· exact h); (· exact h.drew)
            clear hhm
            obtain ⟨fd,gd,hhd⟩:∃ (f:World->Nat) (h:World->World),∀ W,(binOp .sub 45 (.float .f64 (wd (a k))) (.float .f64 (wd (a k)))).run Tryz.prog W=.ok (.float .f64 (f W)) (h W)∧FW (fsum (told (a k)) (neg (told (a k)))) (f W)∧(h W=W∨h W=W.drew):=by
              have:=fun W=>run_fdiff (P:=Tryz.prog) 45 hfx hfx W
              obtain ⟨f,h1⟩:=Classical.skolem.1 this
              obtain ⟨h,h2⟩:=Classical.skolem.1 h1
              exact ⟨f,h,h2⟩
            have rund:=fun W=>(hhd W).1
            have HFd:Hid (∀ W,FW (fsum (told (a k)) (neg (told (a k)))) (fd W)):=fun W=>(hhd W).2.1
            have HGd:Hid (∀ {B:Nat} {A W:World},Below B A W->Below B A (gd W)):=fun {B A W} h=>by rcases (hhd W).2.2 with e | e <;> rw [e]; (· exact h); (· exact h.drew)
            clear hhd
            have ho:∀ W,FloatKind.f64.format.order (fd W) 0=none:=fun W=>nanw_order (self_nan (ra k hlt) ha ▸ HFd.out W) 0
            clear hfx
            generalize hX:wd (a k)=X at *
            clear hX
            generalize hY:a k=Y at Aa C1
            have HY:=hideIt hY
            clear hY
            clear Ab
            go_wp2_with fail
            go_quiet ((go_at_call 29; with_reducible exact Calls.quiet_of_same (C1.out _)))
            go_wp2
            go_roundw
            case rel=>exact ⟨1,_,_,false,by go_num,rfl,rfl,HFm.out _,.inr (.inl ⟨rfl,(by first | rfl | rw [HY.out]),(by first | rfl | exact ha.symm)⟩),HGd.out (HGm.out (bDrewN hbw2 nq))⟩
            case measure=>simp [intOf]
          . have C1:Hid (∀ W,Calls Tryz.prog 29 #[.int .i64 (a k)] W fun e w'=>e=.returned (.float .f64 (wd (a k)))∧w'=W):=fun W=>bitsFloat _ W
            have hfx:=fw_el (ra k hlt)
            obtain ⟨fm,gm,hhm⟩:∃ (f:World->Nat) (h:World->World),∀ W,(binOp .mul 45 (.float .f64 x) (.float .f64 (wd (a k)))).run Tryz.prog W=.ok (.float .f64 (f W)) (h W)∧FW (fprod 4607182418800017408 (told (a k))) (f W)∧(h W=W∨h W=W.drew):=by
              have:=fun W=>run_fprod (P:=Tryz.prog) 45 HX.out hfx W
              obtain ⟨f,h1⟩:=Classical.skolem.1 this
              obtain ⟨h,h2⟩:=Classical.skolem.1 h1
              exact ⟨f,h,h2⟩
            have runm:=fun W=>(hhm W).1
            have HFm:Hid (∀ W,FW (fprod 4607182418800017408 (told (a k))) (fm W)):=fun W=>(hhm W).2.1
            have HGm:Hid (∀ {B:Nat} {A W:World},Below B A W->Below B A (gm W)):=fun {B A W} h=>by rcases (hhm W).2.2 with e | e <;> rw [e]; (· exact h); (· exact h.drew)
            clear hhm
            have hz:=self_nil (ra k hlt) ha
            have hd:=fun W=>run_diffN (P:=Tryz.prog) 45 (FW.pat (q_fin ha) (ra k hlt)) (FW.pat (q_fin ha) (ra k hlt)) hz.1 W
            have ho:=hz.2
            clear hz
            generalize wd (fsum (a k) (neg (a k)))=D at *
            clear hfx
            generalize hX:wd (a k)=X at *
            clear hX
            generalize hY:a k=Y at Aa C1
            have HY:=hideIt hY
            clear hY
            clear Ab
            go_wp2_with fail
            go_quiet ((go_at_call 29; with_reducible exact Calls.quiet_of_same (C1.out _)))
            go_wp2
            go_roundw
            case rel=>exact ⟨1,_,_,true,by go_num,rfl,rfl,HFm.out _,.inr (.inl ⟨rfl,(by first | rfl | rw [HY.out]),(by first | rfl | exact ha.symm)⟩),HGm.out (bDrewN hbw2 nq)⟩
            case measure=>simp [intOf]
        . cases ha:pok (a k)
          . have C1:Hid (∀ W,Calls Tryz.prog 29 #[.int .i64 (b k)] W fun e w'=>e=.returned (.float .f64 (wd (b k)))∧w'=W):=fun W=>bitsFloat _ W
            have hfx:=fw_el (rb k hlt)
            obtain ⟨fm,gm,hhm⟩:∃ (f:World->Nat) (h:World->World),∀ W,(binOp .mul 45 (.float .f64 x) (.float .f64 (wd (b k)))).run Tryz.prog W=.ok (.float .f64 (f W)) (h W)∧FW (fprod (fprod 4607182418800017408 (told (a k))) (told (b k))) (f W)∧(h W=W∨h W=W.drew):=by
              have:=fun W=>run_fprod (P:=Tryz.prog) 45 HX.out hfx W
              obtain ⟨f,h1⟩:=Classical.skolem.1 this
              obtain ⟨h,h2⟩:=Classical.skolem.1 h1
              exact ⟨f,h,h2⟩
            have runm:=fun W=>(hhm W).1
            have HFm:Hid (∀ W,FW (fprod (fprod 4607182418800017408 (told (a k))) (told (b k))) (fm W)):=fun W=>(hhm W).2.1
            have HGm:Hid (∀ {B:Nat} {A W:World},Below B A W->Below B A (gm W)):=fun {B A W} h=>by rcases (hhm W).2.2 with e | e <;> rw [e]; (· exact h); (· exact h.drew)
            clear hhm
            clear hfx
            generalize hX:wd (b k)=X at *
            clear hX
            generalize hY:b k=Y at Ab C1
            have HY:=hideIt hY
            clear hY
            clear Aa
            go_wp2_with fail
            go_quiet ((go_at_call 29; with_reducible exact Calls.quiet_of_same (C1.out _)))
            go_wp2
            go_roundw
            case rel=>exact ⟨2,_,_,false,by go_num,rfl,rfl,HFm.out _,.inr (.inr ⟨rfl,(by first | rfl | rw [HY.out]),(by first | rfl | simp | (rw [ha,hb]; rfl) | (rw [ha]; rfl))⟩),HGm.out (bDrewN hbw2 nq)⟩
            case measure=>simp [intOf]
          . cases hb:pok (b k)
            . have C1:Hid (∀ W,Calls Tryz.prog 29 #[.int .i64 (b k)] W fun e w'=>e=.returned (.float .f64 (wd (b k)))∧w'=W):=fun W=>bitsFloat _ W
              have hfx:=fw_el (rb k hlt)
              obtain ⟨fm,gm,hhm⟩:∃ (f:World->Nat) (h:World->World),∀ W,(binOp .mul 45 (.float .f64 x) (.float .f64 (wd (b k)))).run Tryz.prog W=.ok (.float .f64 (f W)) (h W)∧FW (fprod (fprod 4607182418800017408 (told (a k))) (told (b k))) (f W)∧(h W=W∨h W=W.drew):=by
                have:=fun W=>run_fprod (P:=Tryz.prog) 45 HX.out hfx W
                obtain ⟨f,h1⟩:=Classical.skolem.1 this
                obtain ⟨h,h2⟩:=Classical.skolem.1 h1
                exact ⟨f,h,h2⟩
              have runm:=fun W=>(hhm W).1
              have HFm:Hid (∀ W,FW (fprod (fprod 4607182418800017408 (told (a k))) (told (b k))) (fm W)):=fun W=>(hhm W).2.1
              have HGm:Hid (∀ {B:Nat} {A W:World},Below B A W->Below B A (gm W)):=fun {B A W} h=>by rcases (hhm W).2.2 with e | e <;> rw [e]; (· exact h); (· exact h.drew)
              clear hhm
              obtain ⟨fd,gd,hhd⟩:∃ (f:World->Nat) (h:World->World),∀ W,(binOp .sub 45 (.float .f64 (wd (b k))) (.float .f64 (wd (b k)))).run Tryz.prog W=.ok (.float .f64 (f W)) (h W)∧FW (fsum (told (b k)) (neg (told (b k)))) (f W)∧(h W=W∨h W=W.drew):=by
                have:=fun W=>run_fdiff (P:=Tryz.prog) 45 hfx hfx W
                obtain ⟨f,h1⟩:=Classical.skolem.1 this
                obtain ⟨h,h2⟩:=Classical.skolem.1 h1
                exact ⟨f,h,h2⟩
              have rund:=fun W=>(hhd W).1
              have HFd:Hid (∀ W,FW (fsum (told (b k)) (neg (told (b k)))) (fd W)):=fun W=>(hhd W).2.1
              have HGd:Hid (∀ {B:Nat} {A W:World},Below B A W->Below B A (gd W)):=fun {B A W} h=>by rcases (hhd W).2.2 with e | e <;> rw [e]; (· exact h); (· exact h.drew)
              clear hhd
              have ho:∀ W,FloatKind.f64.format.order (fd W) 0=none:=fun W=>nanw_order (self_nan (rb k hlt) hb ▸ HFd.out W) 0
              clear hfx
              generalize hX:wd (b k)=X at *
              clear hX
              generalize hY:b k=Y at Ab C1
              have HY:=hideIt hY
              clear hY
              clear Aa
              go_wp2_with fail
              go_quiet ((go_at_call 29; with_reducible exact Calls.quiet_of_same (C1.out _)))
              go_wp2
              go_roundw
              case rel=>exact ⟨2,_,_,false,by go_num,rfl,rfl,HFm.out _,.inr (.inr ⟨rfl,(by first | rfl | rw [HY.out]),(by first | rfl | simp | (rw [ha,hb]; rfl) | (rw [ha]; rfl))⟩),HGd.out (HGm.out (bDrewN hbw2 nq))⟩
              case measure=>simp [intOf]
            . have C1:Hid (∀ W,Calls Tryz.prog 29 #[.int .i64 (b k)] W fun e w'=>e=.returned (.float .f64 (wd (b k)))∧w'=W):=fun W=>bitsFloat _ W
              have hfx:=fw_el (rb k hlt)
              obtain ⟨fm,gm,hhm⟩:∃ (f:World->Nat) (h:World->World),∀ W,(binOp .mul 45 (.float .f64 x) (.float .f64 (wd (b k)))).run Tryz.prog W=.ok (.float .f64 (f W)) (h W)∧FW (fprod (fprod 4607182418800017408 (told (a k))) (told (b k))) (f W)∧(h W=W∨h W=W.drew):=by
                have:=fun W=>run_fprod (P:=Tryz.prog) 45 HX.out hfx W
                obtain ⟨f,h1⟩:=Classical.skolem.1 this
                obtain ⟨h,h2⟩:=Classical.skolem.1 h1
                exact ⟨f,h,h2⟩
              have runm:=fun W=>(hhm W).1
              have HFm:Hid (∀ W,FW (fprod (fprod 4607182418800017408 (told (a k))) (told (b k))) (fm W)):=fun W=>(hhm W).2.1
              have HGm:Hid (∀ {B:Nat} {A W:World},Below B A W->Below B A (gm W)):=fun {B A W} h=>by rcases (hhm W).2.2 with e | e <;> rw [e]; (· exact h); (· exact h.drew)
              clear hhm
              have hz:=self_nil (rb k hlt) hb
              have hd:=fun W=>run_diffN (P:=Tryz.prog) 45 (FW.pat (q_fin hb) (rb k hlt)) (FW.pat (q_fin hb) (rb k hlt)) hz.1 W
              have ho:=hz.2
              clear hz
              generalize wd (fsum (b k) (neg (b k)))=D at *
              clear hfx
              generalize hX:wd (b k)=X at *
              clear hX
              generalize hY:b k=Y at Ab C1
              have HY:=hideIt hY
              clear hY
              clear Aa
              go_wp2_with fail
              go_quiet ((go_at_call 29; with_reducible exact Calls.quiet_of_same (C1.out _)))
              go_wp2
              go_roundw
              case rel=>exact ⟨2,_,_,true,by go_num,rfl,rfl,HFm.out _,.inr (.inr ⟨rfl,(by first | rfl | rw [HY.out]),(by first | rfl | simp | (rw [ha,hb]; rfl) | (rw [ha]; rfl))⟩),HGm.out (bDrewN hbw2 nq)⟩
              case measure=>simp [intOf]
        . cases hf:(pok (a k) && pok (b k))
          . have HSf:Hid (S (k + 1)=fsum (S k) (fprod (fprod 4607182418800017408 (told (a k))) (told (b k)))):=by have:=HSk.out; rw [if_neg (by rw [hf]; decide)] at this; exact this
            obtain ⟨fs,gs,hhs⟩:∃ (f:World->Nat) (h:World->World),∀ W,(binOp .add 45 (.float .f64 xs) (.float .f64 x)).run Tryz.prog W=.ok (.float .f64 (f W)) (h W)∧FW (fsum (S k) (fprod (fprod 4607182418800017408 (told (a k))) (told (b k)))) (f W)∧(h W=W∨h W=W.drew):=by
              have:=fun W=>run_fsum (P:=Tryz.prog) 45 HS.out HX.out W
              obtain ⟨f,h1⟩:=Classical.skolem.1 this
              obtain ⟨h,h2⟩:=Classical.skolem.1 h1
              exact ⟨f,h,h2⟩
            have runs:=fun W=>(hhs W).1
            have HFs:Hid (∀ W,FW (fsum (S k) (fprod (fprod 4607182418800017408 (told (a k))) (told (b k)))) (fs W)):=fun W=>(hhs W).2.1
            have HGs:Hid (∀ {B:Nat} {A W:World},Below B A W->Below B A (gs W)):=fun {B A W} h=>by rcases (hhs W).2.2 with e | e <;> rw [e]; (· exact h); (· exact h.drew)
            clear hhs
            clear Aa F0 c0 Ab c1
            go_wp2
            go_roundw
            case rel=>exact ⟨k + 1,_,by omega,by go_num,rfl,by rw [HSf.out]; exact HFs.out _,HGs.out (bel_trans hbw hbw2)⟩
            case measure=>simp [intOf]; omega
          . have HSf:Hid (S (k + 1)=S k):=by have:=HSk.out; rw [if_pos hf] at this; exact this
            clear Aa F0 c0 Ab c1
            go_wp2
            go_roundw
            case rel=>exact ⟨k + 1,_,by omega,by go_num,rfl,by rw [HSf.out]; exact HS.out,bel_trans hbw hbw2⟩
            case measure=>simp [intOf]; omega
    . obtain rfl:k=n:=by omega
      have j0:¬ (k:Int) < (k:Int):=by omega
      go_wp2
      go_ret
      exact ⟨_,rfl,HS.out,bel_trans hbA hbw⟩
set_option maxRecDepth 100000 in
set_option maxHeartbeats 2000000 in
theorem sum_stray {FT:Nat} {p way:Int} {lo:Option Addr} {ln lc:Nat} (w:World) (hp:p=9221120237041090561∨p=9218868437227405312∨p=-4503599627370496) (hC1:∀ W,Below w.heap.size w W->Calls Tryz.prog 50 #[.int .i64 way,.slice lo ln lc] W fun r w'=>r=.returned (.int .i64 0)∧Below W.heap.size W w')
    (hC2:∀ W,Below w.heap.size w W->Calls Tryz.prog 51 #[.agg #[.func (.func 29) #[] #[],.func (.func 28) #[] #[],.func (.func 43) #[] #[],.func (.func FT) #[] #[]],.slice lo ln lc] W fun r w'=>∃ x,r=.returned (.float .f64 x)∧FW p x∧Below W.heap.size W w') :
    Calls Tryz.prog 30 #[.agg #[.func (.func 29) #[] #[],.func (.func 28) #[] #[],.func (.func 43) #[] #[],.func (.func FT) #[] #[]],.int .i64 way,.slice lo ln lc] w fun r w'=>r=.returned (.tuple #[.int .i64 p,.int .i64 0])∧Below w.heap.size w w':=by
  have hst:∀ p F c m w,(store p (.func (.func F) #[] c) m).run Tryz.prog w=stored Tryz.prog w p (.func (.func F) #[] c) m:=fun p F c m w=>run_store _ w p _ m rfl
  have hE2:∀ (cap:Array Value) (w:World),(callFunc 28 cap).run Tryz.prog w=.ok (.enter 28 cap) w:=by intro cap w; simp [go_sem]
  have HC1:=hideIt hC1
  have HC2:=hideIt hC2
  clear hC1 hC2
  have HP:=hideIt hp
  clear hp
  have hb0:=bel_alloc w (.cells #[.func (.func 29) #[] #[],.func (.func 28) #[] #[],.func (.func 43) #[] #[],.func (.func FT) #[] #[]] 50)
  have b_k:=heap_a1 w (.cells #[.func (.func 29) #[] #[],.func (.func 28) #[] #[],.func (.func 43) #[] #[],.func (.func FT) #[] #[]] 50)
  go_enter Tryz.func30,Tryz.ntmps30
  go_wp2_with fail
  generalize w.alloc (.cells #[.func (.func 29) #[] #[],.func (.func 28) #[] #[],.func (.func 43) #[] #[],.func (.func FT) #[] #[]] 50)=x0 at hb0 b_k ⊢
  refine (HC1.out _ hb0).mono ?_
  rintro _ y1 ⟨rfl,hw1⟩
  replace b_k:=blk_on hw1 b_k
  replace hb0:=bel_trans hb0 hw1
  have f0:=blkC b_k 0 rfl
  have f1:=blkC b_k 1 rfl
  have f2:=blkC b_k 2 rfl
  have f3:=blkC b_k 3 rfl
  go_wp2_with fail
  clear f0 f1 f2 f3
  refine (HC2.out _ hb0).mono ?_
  rintro _ y2 ⟨x,rfl,hx,hw2⟩
  replace b_k:=blk_on hw2 b_k
  replace hb0:=bel_trans hb0 hw2
  have f1:=blkC b_k 1 rfl
  have COf:=hideIt (of_FW hx)
  have ho:FloatKind.f64.format.order x 0=none∨FloatKind.f64.format.order x 0=some .gt∨FloatKind.f64.format.order x 0=some .lt:=by
    rcases HP.out with e | e | e
    . subst e; exact .inl (nanw_order hx 0)
    . subst e
      rcases hx with ⟨_,_,rfl⟩ | ⟨h,_⟩
      . exact .inr (.inl (by decide +kernel))
      . cases h
    . subst e
      rcases hx with ⟨_,_,rfl⟩ | ⟨h,_⟩
      . exact .inr (.inr (by decide +kernel))
      . cases h
  clear hx HP
  rcases ho with ho | ho | ho
  all_goals
    go_wp2_with fail
    refine (COf.out _).mono ?_
    rintro _ _ ⟨rfl,rfl⟩
    go_wp2
    go_ret2
    exact ⟨rfl,hb0⟩
def stQ (fl:Nat->Bool) (T:Nat->Int):Nat->Int
  | 0=>0
  | k + 1=>if fl k=true then stQ fl T k else fsum (stQ fl T k) (T k)
theorem stQ_fin {fl:Nat->Bool} {T:Nat->Int} {s:Nat}:∀ m,(∀ i,i < m->fl (s + i)=true)->stQ fl T (s + m)=stQ fl T s
  | 0,_=>rfl
  | m + 1,h=>by
    show (if fl (s + m)=true then stQ fl T (s + m) else _)=_
    rw [if_pos (h m (by omega)),stQ_fin m fun i hi=>h i (by omega)]
theorem stQ_head {fl:Nat->Bool} {T:Nat->Int} (k:Nat) (h:∀ i,i < k->fl i=true):stQ fl T k=0:=by
  have:=stQ_fin (fl:=fl) (T:=T) (s:=0) k fun i hi=>by rw [Nat.zero_add]; exact h i hi
  rw [Nat.zero_add] at this
  rw [this]
  rfl
theorem stQ_one {fl:Nat->Bool} {T:Nat->Int} (k m:Nat) (h:∀ i,i < k->fl i=true) (h0:fl k=false) (h2:∀ i,i < m->fl (k + 1 + i)=true):stQ fl T (k + 1 + m)=fsum 0 (T k):=by
  rw [stQ_fin m h2]
  show (if fl k=true then _ else _)=_
  rw [if_neg (by rw [h0]; decide),stQ_head k h]
theorem stQ_two {fl:Nat->Bool} {T:Nat->Int} (k m:Nat) (h:∀ i,i < k->fl i=true) (h0:fl k=false) (h1:fl (k + 1)=false) (h2:∀ i,i < m->fl (k + 2 + i)=true):stQ fl T (k + 2 + m)=fsum (fsum 0 (T k)) (T (k + 1)):=by
  rw [stQ_fin m h2]
  show (if fl (k + 1)=true then _ else fsum (if fl k=true then _ else _) (T (k + 1)))=_
  rw [if_neg (by rw [h1]; decide),if_neg (by rw [h0]; decide),stQ_head k h]
def pt5 (d:Nat->Int) (k:Nat) (X:Nat->Int) (m:Nat):Nat->Int:=cat (cat (cat (fun _=>0) 0 d) (0 + k) X) (0 + k + m) (fun i=>d (k + i))
theorem pt5_lo {d X:Nat->Int} {k m i:Nat} (h:i < k):pt5 d k X m i=d i:=by
  unfold pt5 cat
  rw [if_pos (by omega),if_pos (by omega),if_neg (by omega)]
  rfl
theorem pt5_mid {d X:Nat->Int} {k m i:Nat} (h:i < m):pt5 d k X m (k + i)=X i:=by
  unfold pt5 cat
  rw [if_pos (by omega),if_neg (by omega)]
  congr 1
  omega
theorem pt5_hi {d X:Nat->Int} {k m i:Nat}:pt5 d k X m (k + m + i)=d (k + i):=by
  unfold pt5 cat
  rw [if_neg (by omega)]
  congr 1
  omega
theorem step_app5 {ops:Array Oper} {o:Oper} {a:Act} {w:World} {K:Act->World->Prop} {Q:Exit->Act->World->Prop} {E:Prop} (hgd:o.guard=none) (s x:Operand)
    (ho:o.op=.call { callee:=.builtin .append,args:=#[s,x],argTypes:=#[24,24] }) (B:Nat) (v:Value) (n:Nat) (d:Nat->Int) (hs:a.eval s=v) (hO:Out B w v n d) (bo:Option Addr) (m cb:Nat) (e:Nat->Int) (hx:a.eval x=.slice bo m cb) (hR:Row w bo m cb e) (hlen:n + m <= 1000000) (hB:B <= w.heap.size)
    (h:∀ v' w',Out B w' v' (n + m) (cat d n e)->w.grownBy w' v.ownBlock->(v'.ownBlock=v.ownBlock∨v'.ownBlock=some w.heap.size)->K (a.put o.dst v') w'):if Region.wanted o (yielded ops a.tmps)=true then Oper.wp Tryz.prog o a w K Q else E:=by
  rw [if_pos (by simp [Region.wanted,hgd])]
  exact wp_app s x ho B v n d hs hO bo m cb e hx hR hlen hB h
set_option maxRecDepth 100000 in
set_option maxHeartbeats 4000000 in
theorem put5 {vo xo:Option Addr} {n vc m xc k:Nat} {d X:Nat->Int} (w:World) (R:Row w vo n vc d) (hv:vo=none∨∃ g,vo=some ⟨g,0,none⟩) (hx:Row w xo m xc X) (hk:k <= n) (hn:n <= 1000) (hm:m <= 1000) :
    Calls Tryz.prog 21 #[.slice vo n vc,.int .i64 k,.slice xo m xc] w fun r w'=>∃ v,r=.returned v∧Out w.heap.size w' v (k + m + (n - k)) (pt5 d k X m)∧Below w.heap.size w w':=by
  have hla:=R.le
  have hma:=R.max
  have hlx:=hx.le
  have hmx:=hx.max
  have HX:Hid (∀ W,Below w.heap.size w W->Row W xo m xc X):=fun W h=>hx.keeps h
  rcases hv with rfl | ⟨g,rfl⟩
  . have h0:=R.nl rfl
    subst h0
    obtain rfl:n=0:=by omega
    obtain rfl:k=0:=by omega
    have HN:Hid (∀ (W:World) e,Row W none 0 0 e):=fun W e=>Row.nil W e
    clear R hx
    go_enter Tryz.func21,Tryz.ntmps21
    go_wp2_with fail
    go_region_law (first
      | (have _t:=hz2; refine step_app5 rfl _ _ rfl w.heap.size _ (0 + 0 + m) (cat (cat (fun _=>0) 0 d) (0 + 0) X) rfl hO2 none 0 0 (fun i=>d (0 + i)) rfl (HN.out _ _) (by omega) hz2.size ?_; intro v3 q3 hO3 hg3 hv3)
      | (have _t:=hz1; refine step_app5 rfl _ _ rfl w.heap.size _ (0 + 0) (cat (fun _=>0) 0 d) rfl hO1 xo m xc X rfl (HX.out _ hz1) (by omega) hz1.size ?_; intro v2 q2 hO2 hg2 hv2; have hz2:Below w.heap.size w q2:=hz1.grown hg2 hz1.size (own_ge hO1))
      | (refine step_app5 rfl _ _ rfl w.heap.size _ 0 (fun _=>0) rfl (Out.nil _ _ _) none 0 0 d rfl (HN.out _ _) (by omega) (Nat.le_refl _) ?_; intro v1 q1 hO1 hg1 hv1; have hz1:Below w.heap.size w q1:=(bel_refl w).drew.grown hg1 (Nat.le_refl _) (fun g hg=>by have h:(none:Option Nat)=some g:=hg; cases h)))
    all_goals go_wp2
    all_goals go_ret
    all_goals
      refine ⟨_,rfl,?_,hz2.grown hg3 hz2.size (own_ge hO2)⟩
      have e:0 + 0 + m + 0=0 + m + (0 - 0):=by omega
      rw [e] at hO3
      exact hO3
  . have Rl:∀ W,Below w.heap.size w W->Row W (some ⟨g,0,none⟩) k vc d:=fun W h=>by
      have q:=R.keeps h
      exact ⟨by omega,q.max,q.nl,fun h0=>by obtain ⟨b,o,e,h1,h2⟩:=q.spot (by omega); exact ⟨b,o,e,h1,fun i hi=>h2 i (by omega)⟩⟩
    have Rh:∀ W,Below w.heap.size w W->Row W (if vc=k then some ⟨g,0,none⟩ else some ⟨g,k,none⟩) (n - k) (vc - k) (fun i=>d (k + i)):=fun W h=>by
      have q:=R.keeps h
      by_cases c:vc=k
      . rw [if_pos c]
        exact ⟨by omega,by omega,(fun e=>by cases e),fun h0=>by omega⟩
      rw [if_neg c]
      refine ⟨by omega,by omega,(fun e=>by cases e),fun h0=>?_⟩
      obtain ⟨b,o,e,h1,h2⟩:=q.spot (by omega)
      simp only [Option.some.injEq,Addr.mk.injEq,and_true] at e
      obtain ⟨rfl,rfl⟩:=e
      exact ⟨g,k,rfl,h1,fun i hi=>by have:=h2 (k + i) (by omega); rw [Nat.zero_add] at this; exact this⟩
    have HRl:=hideIt Rl
    have HRh:=hideIt Rh
    have i0:(0:Int) <= (k:Int):=by omega
    have i1:(k:Int) <= (n:Int):=by omega
    have i2:(k:Int) <= (vc:Int):=by omega
    have i3:(n:Int) <= (vc:Int):=by omega
    clear R Rl Rh hx
    go_enter Tryz.func21,Tryz.ntmps21
    go_wp2_with fail
    go_region_law (first
      | (have _t:=hz2; refine step_app5 rfl _ _ rfl w.heap.size _ (0 + k + m) (cat (cat (fun _=>0) 0 d) (0 + k) X) rfl hO2 (if vc=k then some ⟨g,0,none⟩ else some ⟨g,k,none⟩) (n - k) (vc - k) (fun i=>d (k + i)) rfl (HRh.out _ hz2) (by omega) hz2.size ?_; intro v3 q3 hO3 hg3 hv3)
      | (have _t:=hz1; refine step_app5 rfl _ _ rfl w.heap.size _ (0 + k) (cat (fun _=>0) 0 d) rfl hO1 xo m xc X rfl (HX.out _ hz1) (by omega) hz1.size ?_; intro v2 q2 hO2 hg2 hv2; have hz2:Below w.heap.size w q2:=hz1.grown hg2 hz1.size (own_ge hO1))
      | (refine step_app5 rfl _ _ rfl w.heap.size _ 0 (fun _=>0) rfl (Out.nil _ _ _) (some ⟨g,0,none⟩) k vc d rfl (HRl.out _ (bel_refl w).drew) (by omega) (Nat.le_refl _) ?_; intro v1 q1 hO1 hg1 hv1; have hz1:Below w.heap.size w q1:=(bel_refl w).drew.grown hg1 (Nat.le_refl _) (fun g hg=>by have h:(none:Option Nat)=some g:=hg; cases h)))
    all_goals go_wp2
    all_goals go_ret
    all_goals
      refine ⟨_,rfl,?_,hz2.grown hg3 hz2.size (own_ge hO2)⟩
      have e:0 + k + m + (n - k)=k + m + (n - k):=by omega
      rw [e] at hO3
      exact hO3
def Spc (p:Int):Prop:=p=9221120237041090561∨p=9218868437227405312∨p=(-4503599627370496)
def fl1 (a:Nat->Int) (i:Nat):Bool:=pok (a i)
def tm1 (a:Nat->Int) (i:Nat):Int:=fprod 4607182418800017408 (told (a i))
def fl2 (a b:Nat->Int) (i:Nat):Bool:=pok (a i) && pok (b i)
def tm2 (a b:Nat->Int) (i:Nat):Int:=fprod (fprod 4607182418800017408 (told (a i))) (told (b i))
theorem SumSp {ao:Option Addr} {n ca:Nat} {a:Nat->Int} {p:Int} (way:Int) (hw:0 <= way∧way <= 3) (w:World) (R:Row w ao n ca a) (ra:∀ i,i < n->rng (a i)) (hn:n <= 4096) (hp:Spc p) (hq:stQ (fl1 a) (tm1 a) n=p) (H:Hold4 w) :
    Calls Tryz.prog 10 #[.slice ao n ca,.int .i64 way] w fun r w'=>r=.returned (.tuple #[.int .i64 p,.int .i64 0])∧Below w.heap.size w w' :=
  Sum_by w fun W gl h hl=>sum_stray W hp (fun W2 h2=>refusal1W (bo:=none) (cb:=0) way hw W2 (blk_on h2 hl) (by omega) (H.keeps (bel_trans h h2))) fun W2 h2=>by
    have q:=straysS1 (FT:=53) (S:=stQ (fl1 a) (tm1 a)) W2 (blk_on h2 hl) (R.keeps (bel_trans h h2)) ra rfl (fun k hk=>rfl)
    rw [hq] at q
    exact q
theorem sum2Sp {FT:Nat} {ao bo:Option Addr} {n ca cb gl:Nat} {a b:Nat->Int} {p:Int} (way:Int) (hw:0 <= way∧way <= 3) (w:World) (hl:w.heap[gl]?=some (.cells #[.slice ao n ca,.slice bo n cb] 24 (0,0))) (R:Row w ao n ca a) (R2:Row w bo n cb b) (ra:∀ i,i < n->rng (a i)) (rb:∀ i,i < n->rng (b i)) (hn:n <= 4096) (hp:Spc p) (hq:stQ (fl2 a b) (tm2 a b) n=p) (H:Hold4 w) :
    Calls Tryz.prog 30 #[.agg #[.func (.func 29) #[] #[],.func (.func 28) #[] #[],.func (.func 43) #[] #[],.func (.func FT) #[] #[]],.int .i64 way,.slice (some ⟨gl,0,none⟩) 2 2] w fun r w'=>r=.returned (.tuple #[.int .i64 p,.int .i64 0])∧Below w.heap.size w w' :=
  sum_stray w hp (fun W2 h2=>refusal2W way hw W2 (blk_on h2 hl) (by omega) (H.keeps h2)) fun W2 h2=>by
    have q:=straysS2 (FT:=FT) (S:=stQ (fl2 a b) (tm2 a b)) W2 (blk_on h2 hl) (R.keeps h2) (R2.keeps h2) ra rb rfl (fun k hk=>rfl)
    rw [hq] at q
    exact q
theorem DotSp {ao bo:Option Addr} {n ca cb:Nat} {a b:Nat->Int} {p:Int} (way:Int) (hw:0 <= way∧way <= 3) (w:World) (R:Row w ao n ca a) (R2:Row w bo n cb b) (ra:∀ i,i < n->rng (a i)) (rb:∀ i,i < n->rng (b i)) (hn:n <= 4096) (hp:Spc p) (hq:stQ (fl2 a b) (tm2 a b) n=p) (H:Hold4 w) :
    Calls Tryz.prog 22 #[.slice ao n ca,.slice bo n cb,.int .i64 way] w fun r w'=>r=.returned (.tuple #[.int .i64 p,.int .i64 0])∧Below w.heap.size w w' :=
  Dot_by w fun W gl h hl=>sum2Sp way hw W hl (R.keeps h) (R2.keeps h) ra rb hn hp hq (H.keeps h)
theorem NormSp {ao:Option Addr} {n ca:Nat} {a:Nat->Int} {p:Int} (B:Bool) (way:Int) (hw:0 <= way∧way <= 3) (w:World) (R:Row w ao n ca a) (ra:∀ i,i < n->rng (a i)) (hn:n <= 4096) (hp:Spc p) (hq:stQ (fl2 a a) (tm2 a a) n=p) (hB:B=true ↔ ∃ i,i < n∧cls (a i)=3) (H:Hold4 w) :
    Calls Tryz.prog 11 #[.slice ao n ca,.int .i64 way] w fun r w'=>r=.returned (.tuple #[.int .i64 (if B=true then 9218868437227405312 else p),.int .i64 0])∧Below w.heap.size w w':=by
  have q:=norm_by (way:=way) (s:=p) (er:=0) B w R H hB fun W gl h hl=>sum2Sp way hw W hl (R.keeps h) (R.keeps h) ra ra hn hp hq (H.keeps h)
  simpa using q
set_option maxRecDepth 100000 in
theorem rounded_noway (way:Int) (hw:¬ (0 <= way∧way <= 3)) (F G:Nat) (lo:Option Addr) (ln lc:Nat) (w:World) :
    Calls Tryz.prog 54 #[.int .i64 way,.func (.func F) #[] #[],.func (.func G) #[] #[],.slice lo ln lc] w fun e w'=>e=.returned (.tuple #[.int .i64 0,.bool false,.int .i64 1])∧Below w.heap.size w w':=by
  have hsn:∀ (p:Addr) (m:Mode) (w:World),(store p .nilFunc m).run Tryz.prog w=stored Tryz.prog w p .nilFunc m:=fun p m w=>run_store _ w p _ m rfl
  have CW:=wayOf_any way w
  rw [if_neg hw,decide_eq_false hw] at CW
  clear hw
  go_enter Tryz.func54,Tryz.ntmps54
  go_wp2_with fail
  refine CW.mono ?_
  rintro _ w1 ⟨rfl,hb1⟩
  have q1:=heap_alloc_new w1 (.cells #[.nilFunc] 59)
  have y0:=blkC q1 0 rfl
  have y1:=blkF q1 0
  go_wp2
  all_goals refine bodyPost_ret (v:=.tuple #[.int .i64 0,.bool false,.int .i64 1]) (by simp [results,Tryz.results54,go_sem]) rfl ⟨rfl,bel_trans hb1 (bel_alloc _ _)⟩
set_option maxRecDepth 100000 in
theorem to_noway (way:Int) (hw:¬ (0 <= way∧way <= 3)) (w:World) :
    Calls Tryz.prog 53 #[.agg #[.bool false,.slice none 0 0,.int .i64 0],.int .i64 way] w fun e w'=>e=.returned (.tuple #[.int .i64 0,.bool false,.int .i64 1])∧Below w.heap.size w w':=by
  have hmf:∀ (fn:Fn) (first cap:Array Value) (w:World),(Instr.makeFunc fn first cap).run Tryz.prog w=.ok (.func fn first cap) w:=fun _ _ _ _=>rfl
  have CR:Hid (∀ W lo ln lc,Calls Tryz.prog 54 #[.int .i64 way,.func (.func 39) #[] #[],.func (.func 81) #[] #[],.slice lo ln lc] W fun e w'=>e=.returned (.tuple #[.int .i64 0,.bool false,.int .i64 1])∧Below W.heap.size W w'):=fun W lo ln lc=>rounded_noway way hw _ _ lo ln lc W
  clear hw
  have hb2:=bel_alloc2 w (.cells #[.bool false,.slice none 0 0,.int .i64 0] 79) (.cells #[.bool false,.slice none 0 0,.int .i64 0] 79)
  go_enter Tryz.func53,Tryz.ntmps53
  go_wp2_with fail
  refine (CR.out _ _ _ _).mono ?_
  rintro _ w2 ⟨rfl,hb3⟩
  go_wp2
  all_goals refine bodyPost_ret (v:=.tuple #[.int .i64 0,.bool false,.int .i64 1]) (by simp [results,Tryz.results53,go_sem]) rfl ⟨rfl,bel_trans hb2 hb3⟩
set_option maxRecDepth 100000 in
theorem refusalWay {lo:Option Addr} {ln lc:Nat} (way:Int) (hw:¬ (0 <= way∧way <= 3)) (w:World) :
    Calls Tryz.prog 50 #[.int .i64 way,.slice lo ln lc] w fun r w'=>r=.returned (.int .i64 1)∧Below w.heap.size w w':=by
  have CT:=hideIt (to_noway way hw w)
  clear hw
  go_enter Tryz.func50,Tryz.ntmps50
  go_wp2_with fail
  refine CT.out.mono ?_
  rintro _ y1 ⟨rfl,hw1⟩
  go_wp2
  go_ret
  exact ⟨rfl,hw1⟩
theorem SumWay {ao:Option Addr} {n ca:Nat} (way:Int) (hw:¬ (0 <= way∧way <= 3)) (w:World) :
    Calls Tryz.prog 10 #[.slice ao n ca,.int .i64 way] w fun r w'=>r=.returned (.tuple #[.int .i64 0,.int .i64 1])∧Below w.heap.size w w' :=
  Sum_by w fun W gl h hl=>sum_no (by omega) W fun W2 h2=>refusalWay way hw W2
theorem pt_rng {d X:Nat->Int} {n k m:Nat} (hd:Fin5 d n) (hX:∀ i,i < m->rng (X i)) (hk:k <= n):∀ i,i < k + m + (n - k)->rng (pt5 d k X m i):=fun i hi=>by
  by_cases c:i < k
  . rw [pt5_lo c]; exact (hd i (by omega)).1
  . by_cases c2:i < k + m
    . obtain ⟨j,rfl⟩:∃ j,i=k + j:=⟨i - k,by omega⟩
      rw [pt5_mid (by omega)]; exact hX j (by omega)
    . obtain ⟨j,rfl⟩:∃ j,i=k + m + j:=⟨i - (k + m),by omega⟩
      rw [pt5_hi]; exact (hd _ (by omega)).1
theorem pt_one1 {d X:Nat->Int} {n k:Nat} (hd:Fin5 d n) (hk:k <= n) (hX:pok (X 0)=false):stQ (fl1 (pt5 d k X 1)) (tm1 (pt5 d k X 1)) (k + 1 + (n - k))=fsum 0 (fprod 4607182418800017408 (told (X 0))):=by
  have e:pt5 d k X 1 k=X 0:=pt5_mid (i:=0) (by omega)
  have h:=stQ_one (fl:=fl1 (pt5 d k X 1)) (T:=tm1 (pt5 d k X 1)) k (n - k) (fun i hi=>by unfold fl1; rw [pt5_lo hi]; exact (hd i (by omega)).2) (by unfold fl1; rw [e]; exact hX) (fun i hi=>by unfold fl1; rw [pt5_hi]; exact (hd _ (by omega)).2)
  rw [h]
  unfold tm1
  rw [e]
theorem pt_two1 {d X:Nat->Int} {n k:Nat} (hd:Fin5 d n) (hk:k <= n) (hX:pok (X 0)=false) (hY:pok (X 1)=false):stQ (fl1 (pt5 d k X 2)) (tm1 (pt5 d k X 2)) (k + 2 + (n - k))=fsum (fsum 0 (fprod 4607182418800017408 (told (X 0)))) (fprod 4607182418800017408 (told (X 1))):=by
  have e:pt5 d k X 2 k=X 0:=pt5_mid (i:=0) (by omega)
  have e2:pt5 d k X 2 (k + 1)=X 1:=pt5_mid (i:=1) (by omega)
  have h:=stQ_two (fl:=fl1 (pt5 d k X 2)) (T:=tm1 (pt5 d k X 2)) k (n - k) (fun i hi=>by unfold fl1; rw [pt5_lo hi]; exact (hd i (by omega)).2) (by unfold fl1; rw [e]; exact hX) (by unfold fl1; rw [e2]; exact hY) (fun i hi=>by unfold fl1; rw [pt5_hi]; exact (hd _ (by omega)).2)
  rw [h]
  unfold tm1
  rw [e,e2]
theorem pt_one2 {d X Y:Nat->Int} {n k:Nat} (hd:Fin5 d n) (hk:k <= n) (hX:pok (X 0)=false):stQ (fl2 (pt5 d k X 1) (pt5 d k Y 1)) (tm2 (pt5 d k X 1) (pt5 d k Y 1)) (k + 1 + (n - k))=fsum 0 (fprod (fprod 4607182418800017408 (told (X 0))) (told (Y 0))):=by
  have e:pt5 d k X 1 k=X 0:=pt5_mid (i:=0) (by omega)
  have e2:pt5 d k Y 1 k=Y 0:=pt5_mid (i:=0) (by omega)
  have h:=stQ_one (fl:=fl2 (pt5 d k X 1) (pt5 d k Y 1)) (T:=tm2 (pt5 d k X 1) (pt5 d k Y 1)) k (n - k) (fun i hi=>by unfold fl2; rw [pt5_lo hi,pt5_lo hi,(hd i (by omega)).2]; rfl) (by unfold fl2; rw [e,hX]; rfl) (fun i hi=>by unfold fl2; rw [pt5_hi,pt5_hi,(hd (k + i) (by omega)).2]; rfl)
  rw [h]
  unfold tm2
  rw [e,e2]
theorem pt_two2 {d X:Nat->Int} {n k:Nat} (hd:Fin5 d n) (hk:k <= n) (hX:pok (X 0)=false) (hY:pok (X 1)=false):stQ (fl2 (pt5 d k X 2) (pt5 d k X 2)) (tm2 (pt5 d k X 2) (pt5 d k X 2)) (k + 2 + (n - k))=fsum (fsum 0 (fprod (fprod 4607182418800017408 (told (X 0))) (told (X 0)))) (fprod (fprod 4607182418800017408 (told (X 1))) (told (X 1))):=by
  have e:pt5 d k X 2 k=X 0:=pt5_mid (i:=0) (by omega)
  have e2:pt5 d k X 2 (k + 1)=X 1:=pt5_mid (i:=1) (by omega)
  have h:=stQ_two (fl:=fl2 (pt5 d k X 2) (pt5 d k X 2)) (T:=tm2 (pt5 d k X 2) (pt5 d k X 2)) k (n - k) (fun i hi=>by unfold fl2; rw [pt5_lo hi,(hd i (by omega)).2]; rfl) (by unfold fl2; rw [e,hX]; rfl) (by unfold fl2; rw [e2,hY]; rfl) (fun i hi=>by unfold fl2; rw [pt5_hi,(hd (k + i) (by omega)).2]; rfl)
  rw [h]
  unfold tm2
  rw [e,e2]
theorem pt_noinf {d X:Nat->Int} {n k m:Nat} (hd:Fin5 d n) (hk:k <= n) (hX:∀ i,i < m->cls (X i) ≠ 3):¬ ∃ i,i < k + m + (n - k)∧cls (pt5 d k X m i)=3:=fun ⟨i,hi,h⟩=>by
  by_cases c:i < k
  . rw [pt5_lo c] at h; have:=cls_lt3 (hd i (by omega)).2; omega
  . by_cases c2:i < k + m
    . obtain ⟨j,rfl⟩:∃ j,i=k + j:=⟨i - k,by omega⟩
      rw [pt5_mid (by omega)] at h; exact hX j (by omega) h
    . obtain ⟨j,rfl⟩:∃ j,i=k + m + j:=⟨i - (k + m),by omega⟩
      rw [pt5_hi] at h; have:=cls_lt3 (hd (k + j) (by omega)).2; omega
theorem v_inf:fsum 0 (fprod 4607182418800017408 (told 9218868437227405312))=9218868437227405312:=by decide +kernel
theorem v_low:fsum (fsum 0 (fprod 4607182418800017408 (told (-4503599627370496)))) (fprod 4607182418800017408 (told (-4503599627370496)))=(-4503599627370496):=by decide +kernel
theorem v_both:fsum (fsum 0 (fprod 4607182418800017408 (told 9218868437227405312))) (fprod 4607182418800017408 (told (-4503599627370496)))=9221120237041090561:=by decide +kernel
theorem v_none:fsum (fsum 0 (fprod 4607182418800017408 (told 9221120237041090561))) (fprod 4607182418800017408 (told 9218868437227405312))=9221120237041090561:=by decide +kernel
theorem v_nn:fsum (fsum 0 (fprod (fprod 4607182418800017408 (told 9221120237041090561)) (told 9221120237041090561))) (fprod (fprod 4607182418800017408 (told (-4503599627370496))) (told (-4503599627370496)))=9221120237041090561:=by decide +kernel
theorem v_n1:fsum 0 (fprod (fprod 4607182418800017408 (told 9221120237041090561)) (told 9221120237041090561))=9221120237041090561:=by decide +kernel
theorem v_i0:fsum 0 (fprod (fprod 4607182418800017408 (told 9218868437227405312)) (told 0))=9221120237041090561:=by decide +kernel
theorem and30 {x:Int} (h:rng x):∃ z:Nat,bits BinOp.and IntKind.i64 x 1073741823=(z:Int)∧z < 1073741824:=by
  refine ⟨(x % 18446744073709551616).toNat % 2 ^ 30,?_,?_⟩
  . rw [bits_and64,show ((1073741823:Int) % 18446744073709551616).toNat=2 ^ 30 - 1 from by decide,Nat.and_two_pow_sub_one_eq_mod,wrap_i64_eq]
    have:(x % 18446744073709551616).toNat % 2 ^ 30 < 2 ^ 30:=Nat.mod_lt _ (by decide)
    have e:(2:Nat) ^ 30=1073741824:=by decide
    omega
  . have:=Nat.mod_lt (x % 18446744073709551616).toNat (show 0 < 2 ^ 30 by decide)
    have e:(2:Nat) ^ 30=1073741824:=by decide
    omega
end Go.Proofs.YteglfnnbpilheaaGreatDoor
namespace Go.Proofs.YteglfnnbpilheaaGreatDoor
open Go Go.RowKit Go.Proofs.YteglfnnbpilheaaGreatDoor.M Ieee
end Go.Proofs.YteglfnnbpilheaaGreatDoor
namespace Go.Proofs.YteglfnnbpilheaaGreatDoor
open Go Go.RowKit Go.Proofs.YteglfnnbpilheaaGreatDoor.M
def ipP (z:Int):Int:=if z=0 then 0 else nearP (z * pw 0)
def Sm (z:Int):Prop:=-9007199254740992 < z∧z < 9007199254740992
def Gd (p:Int):Prop:=rng p∧cls p ≠ 4
theorem Gd.fw {p:Int} (h:Gd p):FW p (wd p):=FW.pat h.2 h.1
structure IpL (w:World) (ao:Option Addr) (n ca:Nat) (z:Nat->Int) (M:Int):Prop where
  row:Row w ao n ca (fun i=>ipP (z i))
  m0:0 <= M
  mx:M < 9007199254740992
  bd:∀ i,i < n->-M <= z i∧z i <= M
  tot:(n:Int) * M < 9007199254740992
theorem IpL.one {w:World} {ao:Option Addr} {n ca:Nat} {z:Nat->Int} {M:Int} (h:IpL w ao n ca z M) {k:Nat} (hk:k < n):Sm (z k):=by
  have:=h.bd k hk
  have:=h.mx
  unfold Sm
  omega
theorem IpL.keeps {w w':World} {ao:Option Addr} {n ca:Nat} {z:Nat->Int} {M:Int} (h:IpL w ao n ca z M) (hb:Below w.heap.size w w'):IpL w' ao n ca z M:=⟨h.row.keeps hb,h.m0,h.mx,h.bd,h.tot⟩
theorem row2d (w:World) (x y:Int) {g:Nat} (hg:g=w.heap.size):Row (w.alloc (.cells #[.int .i64 x,.int .i64 y] 3)) (some ⟨g,0,none⟩) 2 2 (fun i=>if i=0 then x else y):=by
  subst hg
  have q:=heap_a1 w (.cells #[.int .i64 x,.int .i64 y] 3)
  refine ⟨Nat.le_refl _,by decide,(fun e=>by cases e),fun _=>⟨_,0,rfl,(Array.getElem?_eq_some_iff.1 q).1,fun i hi=>?_⟩⟩
  rcases (show i=0∨i=1 by omega) with rfl | rfl
  . exact blkC q 0 rfl
  . exact blkC q 1 rfl
end Go.Proofs.YteglfnnbpilheaaGreatDoor
