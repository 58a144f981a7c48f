/-
  Package sums: Norm of finite floats, by its contract.
-/
import Derived.Test.YteglfnnbpilheaaGreatDoorPart10
set_option linter.unusedVariables false
set_option linter.unusedSimpArgs false
namespace Go.Proofs.YteglfnnbpilheaaGreatDoor
open Go Go.RowKit Go.Proofs.YteglfnnbpilheaaGreatDoor.M
theorem infinite5 (b:Int) (w:World) (H:Hold4 w) :
    Calls Tryz.prog 34 #[.int .i64 b] w fun r w'=>r=.returned (.bool (decide (cls b=3)))∧Below w.heap.size w w':=by
  have CC:Hid (Calls Tryz.prog 6 #[.int .i64 b] w fun e w'=>e=.returned (.int .i64 (cls b))∧Below w.heap.size w w'):=(bitsClass _ w H.env.lays).mono fun e w' q=>⟨q.1,q.2.be⟩
  generalize cls b=c at *
  by_cases h:c=3
  all_goals
    go_enter Tryz.func34,Tryz.ntmps34
    go_wp2_with fail
    refine CC.out.mono ?_
    rintro _ y1 ⟨rfl,hw1⟩
    go_wp2
    go_ret
    exact ⟨by simp [h],hw1⟩
set_option maxRecDepth 100000 in
set_option maxHeartbeats 2000000 in
theorem index5 {ao:Option Addr} {n ca:Nat} {a:Nat->Int} (w:World) (R:Row w ao n ca a) (H:Hold4 w) :
    Calls Tryz.prog 56 #[.slice ao n ca,.func (.func 34) #[] #[]] w fun r w'=>∃ j:Int,r=.returned (.int .i64 j)∧(0 <= j ↔ ∃ i,i < n∧cls (a i)=3)∧Below w.heap.size w w':=by
  have hE:∀ (cap:Array Value) (w:World),(callFunc 34 cap).run Tryz.prog w=.ok (.enter 34 cap) w:=by intro cap w; simp [go_sem]
  have hla:=R.le
  have hma:=R.max
  go_enter Tryz.func56,Tryz.ntmps56
  go_wp2_with fail
  go_loopw [8] (fun iv wr=>∃ k:Nat,k <= n∧iv=.int .i64 k∧Hid (∀ i,i < k->cls (a i) ≠ 3)∧Below w.heap.size w wr) (fun iv _=>n - (intOf iv).toNat)
  case atStart=>exact ⟨0,Nat.zero_le _,rfl,fun i hi=>by omega,bel_refl _⟩
  case round=>
    obtain ⟨k,hk,rfl,HN,hbw⟩:=hrel
    by_cases hlt:k < n
    . have i0:(0:Int) <= (k:Int):=by omega
      have i1:(k:Int) < (n:Int):=by omega
      obtain ⟨ba,oa,rfl,hba,hca⟩:=R.spot (by omega)
      have A0:=q_cell (hca k hlt) hbw
      have C1:Hid (∀ W,Below wr.heap.size wr W->Calls Tryz.prog 34 #[.int .i64 (a k)] W fun r w'=>r=.returned (.bool (decide (cls (a k)=3)))∧Below W.heap.size W w'):=fun W h=>infinite5 _ W (H.keeps (bel_trans hbw h))
      clear hca
      by_cases h3:cls (a k)=3
      . have HE:Hid (∃ i,i < n∧cls (a i)=3):=⟨k,hlt,h3⟩
        rw [decide_eq_true h3] at C1
        generalize a k=y at *
        go_wp2_with fail
        refine (C1.out _ (bel_refl _)).mono ?_
        rintro _ y1 ⟨rfl,hw1⟩
        go_wp2
        go_ret
        exact ⟨_,rfl,⟨fun _=>HE.out,fun _=>by omega⟩,bel_trans hbw hw1⟩
      . have HE:Hid (cls (a k) ≠ 3):=h3
        rw [decide_eq_false h3] at C1
        generalize hy:a k=y at *
        have HY:=hideIt hy
        clear hy
        go_wp2_with fail
        refine (C1.out _ (bel_refl _)).mono ?_
        rintro _ y1 ⟨rfl,hw1⟩
        go_wp2
        go_roundw
        case rel=>
          refine ⟨k + 1,hlt,by go_num,fun i hi=>?_,bel_trans hbw hw1⟩
          by_cases e:i=k
          . subst e; rw [HY.out]; exact HE.out
          . exact HN.out i (by omega)
        case measure=>simp [intOf]; omega
    . obtain rfl:k=n:=by omega
      have j0:¬ (k:Int) < (k:Int):=by omega
      go_wp2
      go_ret
      exact ⟨_,rfl,⟨fun h=>by omega,fun ⟨i,hi,h⟩=>absurd h (HN.out i hi)⟩,hbw⟩
set_option maxRecDepth 100000 in
theorem contains5 {ao:Option Addr} {n ca:Nat} {a:Nat->Int} (B:Bool) (hB:B=true ↔ ∃ i,i < n∧cls (a i)=3) (w:World) (R:Row w ao n ca a) (H:Hold4 w) :
    Calls Tryz.prog 33 #[.slice ao n ca,.func (.func 34) #[] #[]] w fun r w'=>r=.returned (.bool B)∧Below w.heap.size w w':=by
  have C1:=hideIt (index5 w R H)
  clear R H
  go_enter Tryz.func33,Tryz.ntmps33
  go_wp2_with fail
  refine C1.out.mono ?_
  rintro _ y1 ⟨j,rfl,hj,hw1⟩
  rw [<- hB] at hj
  cases B
  . have h:¬ (0:Int) <= j:=fun h=>by have:=hj.1 h; cases this
    clear hj hB
    go_wp2
    go_ret
    exact ⟨by first | rfl | simp [h],hw1⟩
  . have h:(0:Int) <= j:=hj.2 rfl
    clear hj hB
    go_wp2
    go_ret
    exact ⟨by first | rfl | simp [h],hw1⟩
set_option maxRecDepth 100000 in
set_option maxHeartbeats 4000000 in
theorem sumR {ao:Option Addr} {n ca gl:Nat} {a:Nat->Int} {b:Int} (w:World) (l_k:w.heap[gl]?=some (.cells #[.slice ao n ca,.slice ao n ca] 24 (0,0))) (RA:Row w ao n ca a) (fa:∀ i,i < n->rng (a i)∧pok (a i)=true) (hn:n <= 4096) (H:Hold4 w) (rb:rng b) (pb:pok b=true) (hb:sumF (fun i=>patV (a i) * patV (a i)) n=patV b * patV b) :
    Calls Tryz.prog 30 #[.agg #[.func (.func 29) #[] #[],.func (.func 28) #[] #[],.func (.func 43) #[] #[],.func (.func 32) #[] #[]],.int .i64 0,.slice (some ⟨gl,0,none⟩) 2 2] w fun r w'=>r=.returned (.tuple #[.int .i64 (canon (abs b)),.int .i64 0])∧Below w.heap.size w w':=by
  have hst:∀ p F c m w,(store p (.func (.func F) #[] c) m).run Tryz.prog w=stored Tryz.prog w p (.func (.func F) #[] c) m:=fun p F c m w=>run_store _ w p _ m rfl
  have hE:∀ (cap:Array Value) (w:World),(callFunc 32 cap).run Tryz.prog w=.ok (.enter 32 cap) w:=by intro cap w; simp [go_sem]
  have C1:Hid (∀ W,Below w.heap.size w W->Calls Tryz.prog 50 #[.int .i64 0,.slice (some ⟨gl,0,none⟩) 2 2] W fun r w'=>r=.returned (.int .i64 0)∧Below W.heap.size W w'):=fun W h=>refusal2W 0 ⟨by omega,by omega⟩ W (blk_on h l_k) (by omega) (H.keeps h)
  have C2:Hid (∀ W,Below w.heap.size w W->Calls Tryz.prog 51 #[.agg #[.func (.func 29) #[] #[],.func (.func 28) #[] #[],.func (.func 43) #[] #[],.func (.func 32) #[] #[]],.slice (some ⟨gl,0,none⟩) 2 2] W fun r w'=>r=.returned (.float .f64 0)∧Below W.heap.size W w'):=fun W h=>strays2 W (blk_on h l_k) (RA.keeps h) (RA.keeps h) fa fa
  have C3:Hid (∀ W,Below w.heap.size w W->Calls Tryz.prog 52 #[.agg #[.func (.func 29) #[] #[],.func (.func 28) #[] #[],.func (.func 43) #[] #[],.func (.func 32) #[] #[]],.slice (some ⟨gl,0,none⟩) 2 2] W fun r w'=>∃ (x:NumR),r=.returned (.agg #[.bool x.ng,.slice x.ao x.n x.cap,.int .i64 x.e])∧(∀ W2,Below w'.heap.size w' W2->Calls Tryz.prog 32 #[.agg #[.bool x.ng,.slice x.ao x.n x.cap,.int .i64 x.e],.int .i64 0] W2 fun r2 w2=>r2=.returned (.tuple #[.int .i64 (canon (abs b)),.bool false,.int .i64 0])∧Below W2.heap.size W2 w2)∧Below W.heap.size W w'):=fun W h=>by
    refine (totalF W (blk_on h l_k) (RA.keeps h) (RA.keeps h) (fun i hi=>(fa i hi).2) (fun i hi=>(fa i hi).2) (by omega) (H.keeps h)).mono ?_
    rintro _ w' ⟨v,V,rfl,hD,hV,hB,hbb⟩
    rw [hb] at hV
    obtain ⟨x,rfl,hR,ok,e⟩:=hD.open (hB.ok (by omega))
    refine ⟨x,rfl,fun W2 h2=>?_,hbb⟩
    have H2:=H.keeps (bel_trans h (bel_trans hbb h2))
    exact root_D0 (hD.keeps h2) (hB.ok (by omega)) rb pb hV H2
  clear RA fa H hb
  generalize canon (abs b)=res at *
  have ho:FloatKind.f64.format.order 0 0=some .eq:=by decide +kernel
  have hb0:=bel_alloc w (.cells #[.func (.func 29) #[] #[],.func (.func 28) #[] #[],.func (.func 43) #[] #[],.func (.func 32) #[] #[]] 50)
  have b_k:=heap_a1 w (.cells #[.func (.func 29) #[] #[],.func (.func 28) #[] #[],.func (.func 43) #[] #[],.func (.func 32) #[] #[]] 50)
  go_enter Tryz.func30,Tryz.ntmps30
  go_wp2_with fail
  generalize w.alloc (.cells #[.func (.func 29) #[] #[],.func (.func 28) #[] #[],.func (.func 43) #[] #[],.func (.func 32) #[] #[]] 50)=x0 at hb0 b_k ⊢
  refine (C1.out _ hb0).mono ?_
  rintro _ y1 ⟨rfl,hw1⟩
  replace b_k:=blk_on hw1 b_k
  replace hb0:=bel_trans hb0 hw1
  have f0:=blkC b_k 0 rfl
  have f1:=blkC b_k 1 rfl
  have f2:=blkC b_k 2 rfl
  have f3:=blkC b_k 3 rfl
  go_wp2_with fail
  clear f0 f1 f2 f3
  refine (C2.out _ hb0).mono ?_
  rintro _ y2 ⟨rfl,hw2⟩
  replace b_k:=blk_on hw2 b_k
  replace hb0:=bel_trans hb0 hw2
  go_wp2_with fail
  have KK:∀ W,Below y2.heap.size y2 W->W.cell? ⟨w.heap.size,0,none⟩=some (.func (.func 29) #[] #[])∧W.cell? ⟨w.heap.size,1,none⟩=some (.func (.func 28) #[] #[])∧W.cell? ⟨w.heap.size,2,none⟩=some (.func (.func 43) #[] #[])∧W.cell? ⟨w.heap.size,3,none⟩=some (.func (.func 32) #[] #[]):=fun W hb=>⟨q_cell (blkC b_k 0 rfl) hb,q_cell (blkC b_k 1 rfl) hb,q_cell (blkC b_k 2 rfl) hb,q_cell (blkC b_k 3 rfl) hb⟩
  have hC0:=(bel_refl y2).drew
  go_region_held3 (fun W=>W.cell? ⟨w.heap.size,0,none⟩=some (.func (.func 29) #[] #[])∧W.cell? ⟨w.heap.size,1,none⟩=some (.func (.func 28) #[] #[])∧W.cell? ⟨w.heap.size,2,none⟩=some (.func (.func 43) #[] #[])∧W.cell? ⟨w.heap.size,3,none⟩=some (.func (.func 32) #[] #[]))
    (with_reducible first | assumption | exact KK _ hC0 | exact KK _ hC1 | exact KK _ hC2 | fail)
    (first
      | (go_at_call 32; refine (CT _ (bel_refl _)).mono ?_; rintro _ y4 ⟨rfl,hq2⟩; have hC2:=bel_trans hC1 hq2)
      | (go_at_call 52; refine (C3.out _ (bel_trans hb0 hC0)).mono ?_; rintro _ y3 ⟨x,rfl,CT,hq1⟩; have hC1:=bel_trans hC0 hq1))
  all_goals go_wp2
  all_goals exact bodyPost_ret (v:=.tuple #[.int .i64 res,.int .i64 0]) (by simp [results,Tryz.results30,go_sem]) rfl ⟨rfl,bel_trans hb0 hC2⟩
theorem sum_no {FT:Nat} {er way:Int} (he:er ≠ 0) {lo:Option Addr} {ln lc:Nat} (w:World) (hC:∀ W,Below w.heap.size w W->Calls Tryz.prog 50 #[.int .i64 way,.slice lo ln lc] W fun r w'=>r=.returned (.int .i64 er)∧Below W.heap.size W w') :
    Calls Tryz.prog 30 #[.agg #[.func (.func 29) #[] #[],.func (.func 28) #[] #[],.func (.func 43) #[] #[],.func (.func FT) #[] #[]],.int .i64 way,.slice lo ln lc] w fun r w'=>r=.returned (.tuple #[.int .i64 0,.int .i64 er])∧Below w.heap.size w w':=by
  have hst:∀ p F c m w,(store p (.func (.func F) #[] c) m).run Tryz.prog w=stored Tryz.prog w p (.func (.func F) #[] c) m:=fun p F c m w=>run_store _ w p _ m rfl
  have HC:=hideIt hC
  clear hC
  have hb0:=bel_alloc w (.cells #[.func (.func 29) #[] #[],.func (.func 28) #[] #[],.func (.func 43) #[] #[],.func (.func FT) #[] #[]] 50)
  go_enter Tryz.func30,Tryz.ntmps30
  go_wp2_with fail
  generalize w.alloc (.cells #[.func (.func 29) #[] #[],.func (.func 28) #[] #[],.func (.func 43) #[] #[],.func (.func FT) #[] #[]] 50)=x0 at hb0 ⊢
  refine (HC.out _ hb0).mono ?_
  rintro _ y1 ⟨rfl,hw1⟩
  go_wp2
  go_ret2
  exact ⟨rfl,bel_trans hb0 hw1⟩
set_option maxRecDepth 100000 in
set_option maxHeartbeats 2000000 in
theorem norm_by {ao:Option Addr} {n ca:Nat} {a:Nat->Int} {way s er:Int} (B:Bool) (w:World) (RA:Row w ao n ca a) (H:Hold4 w) (hB:B=true ↔ ∃ i,i < n∧cls (a i)=3)
    (hS:∀ W gl,Below w.heap.size w W->W.heap[gl]?=some (.cells #[.slice ao n ca,.slice ao n ca] 24 (0,0))->Calls Tryz.prog 30 #[.agg #[.func (.func 29) #[] #[],.func (.func 28) #[] #[],.func (.func 43) #[] #[],.func (.func 32) #[] #[]],.int .i64 way,.slice (some ⟨gl,0,none⟩) 2 2] W fun r w'=>r=.returned (.tuple #[.int .i64 s,.int .i64 er])∧Below W.heap.size W w') :
    Calls Tryz.prog 11 #[.slice ao n ca,.int .i64 way] w fun r w'=>r=.returned (.tuple #[.int .i64 (if er=0∧B=true then 9218868437227405312 else s),.int .i64 (if er=0∧B=true then 0 else er)])∧Below w.heap.size w w':=by
  have hst:∀ p F m w,(store p (.func (.func F) #[] #[]) m).run Tryz.prog w=stored Tryz.prog w p (.func (.func F) #[] #[]) m:=fun p F m w=>run_store _ w p _ m rfl
  have C1:Hid (∀ W,Calls Tryz.prog 31 #[] W fun r w'=>r=.returned (.agg #[.func (.func 29) #[] #[],.func (.func 28) #[] #[],.func (.func 43) #[] #[],.func (.func 53) #[] #[]])∧Below W.heap.size W w'):=fun W=>binary64F W
  have C2:=hideIt hS
  have C3:Hid (∀ W,Below w.heap.size w W->Calls Tryz.prog 33 #[.slice ao n ca,.func (.func 34) #[] #[]] W fun r w'=>r=.returned (.bool B)∧Below W.heap.size W w'):=fun W h=>contains5 B hB W (RA.keeps h) (H.keeps h)
  clear RA H hS hB
  go_enter Tryz.func11,Tryz.ntmps11
  go_wp2_with fail
  refine (C1.out _).mono ?_
  rintro _ y1 ⟨rfl,hw1⟩
  have hbx:=bel_alloc y1 (.cells #[.func (.func 29) #[] #[],.func (.func 28) #[] #[],.func (.func 43) #[] #[],.func (.func 32) #[] #[]] 50)
  have x_k:=heap_a1 y1 (.cells #[.func (.func 29) #[] #[],.func (.func 28) #[] #[],.func (.func 43) #[] #[],.func (.func 32) #[] #[]] 50)
  have f0:=blkC x_k 0 rfl
  have f1:=blkC x_k 1 rfl
  have f2:=blkC x_k 2 rfl
  have f3:=blkC x_k 3 rfl
  go_wp2_with fail
  have hbz:=bel_trans hw1 (bel_trans hbx (bel_alloc (y1.alloc (.cells #[.func (.func 29) #[] #[],.func (.func 28) #[] #[],.func (.func 43) #[] #[],.func (.func 32) #[] #[]] 50)) (.cells #[.slice ao n ca,.slice ao n ca] 24)))
  refine (C2.out _ _ hbz (heap_b2 y1 (.cells #[.func (.func 29) #[] #[],.func (.func 28) #[] #[],.func (.func 43) #[] #[],.func (.func 32) #[] #[]] 50) (.cells #[.slice ao n ca,.slice ao n ca] 24))).mono ?_
  rintro _ y2 ⟨rfl,hw2⟩
  clear f0 f1 f2 f3 x_k
  have hb2:=bel_trans hbz hw2
  clear hbz hw2 hbx
  by_cases he:er=0
  . subst he
    go_wp2_with fail
    refine (C3.out _ hb2).mono ?_
    rintro _ y3 ⟨rfl,hw3⟩
    cases B
    all_goals go_wp2
    all_goals go_ret2
    all_goals exact ⟨by simp,bel_trans hb2 hw3⟩
  . go_wp2
    go_ret2
    exact ⟨by simp [he],hb2⟩
theorem Sum_by {ao:Option Addr} {n ca:Nat} {way s er:Int} (w:World) (hS:∀ W gl,Below w.heap.size w W->W.heap[gl]?=some (.cells #[.slice ao n ca] 24 (0,0))->Calls Tryz.prog 30 #[.agg #[.func (.func 29) #[] #[],.func (.func 28) #[] #[],.func (.func 43) #[] #[],.func (.func 53) #[] #[]],.int .i64 way,.slice (some ⟨gl,0,none⟩) 1 1] W fun r w'=>r=.returned (.tuple #[.int .i64 s,.int .i64 er])∧Below W.heap.size W w') :
    Calls Tryz.prog 10 #[.slice ao n ca,.int .i64 way] w fun r w'=>r=.returned (.tuple #[.int .i64 s,.int .i64 er])∧Below w.heap.size w w':=by
  have C1:Hid (∀ W,Calls Tryz.prog 31 #[] W fun r w'=>r=.returned (.agg #[.func (.func 29) #[] #[],.func (.func 28) #[] #[],.func (.func 43) #[] #[],.func (.func 53) #[] #[]])∧Below W.heap.size W w'):=fun W=>binary64F W
  have C2:=hideIt hS
  clear hS
  go_enter Tryz.func10,Tryz.ntmps10
  go_wp2_with fail
  refine (C1.out _).mono ?_
  rintro _ y1 ⟨rfl,hw1⟩
  go_wp2_with fail
  refine (C2.out _ _ (bel_trans hw1 (bel_alloc y1 (.cells #[.slice ao n ca] 24))) (heap_a1 y1 (.cells #[.slice ao n ca] 24))).mono ?_
  rintro _ y2 ⟨rfl,hw2⟩
  go_wp2
  exact bodyPost_ret (v:=.tuple #[.int .i64 s,.int .i64 er]) (by simp [results,Tryz.results10,go_sem]) rfl ⟨rfl,bel_trans hw1 (bel_trans (bel_alloc y1 (.cells #[.slice ao n ca] 24)) hw2)⟩
theorem Dot_by {ao bo:Option Addr} {n m ca cb:Nat} {way s er:Int} (w:World) (hS:∀ W gl,Below w.heap.size w W->W.heap[gl]?=some (.cells #[.slice ao n ca,.slice bo m cb] 24 (0,0))->Calls Tryz.prog 30 #[.agg #[.func (.func 29) #[] #[],.func (.func 28) #[] #[],.func (.func 43) #[] #[],.func (.func 53) #[] #[]],.int .i64 way,.slice (some ⟨gl,0,none⟩) 2 2] W fun r w'=>r=.returned (.tuple #[.int .i64 s,.int .i64 er])∧Below W.heap.size W w') :
    Calls Tryz.prog 22 #[.slice ao n ca,.slice bo m cb,.int .i64 way] w fun r w'=>r=.returned (.tuple #[.int .i64 s,.int .i64 er])∧Below w.heap.size w w':=by
  have C1:Hid (∀ W,Calls Tryz.prog 31 #[] W fun r w'=>r=.returned (.agg #[.func (.func 29) #[] #[],.func (.func 28) #[] #[],.func (.func 43) #[] #[],.func (.func 53) #[] #[]])∧Below W.heap.size W w'):=fun W=>binary64F W
  have C2:=hideIt hS
  clear hS
  go_enter Tryz.func22,Tryz.ntmps22
  go_wp2_with fail
  refine (C1.out _).mono ?_
  rintro _ y1 ⟨rfl,hw1⟩
  go_wp2_with fail
  refine (C2.out _ _ (bel_trans hw1 (bel_alloc y1 (.cells #[.slice ao n ca,.slice bo m cb] 24))) (heap_a1 y1 (.cells #[.slice ao n ca,.slice bo m cb] 24))).mono ?_
  rintro _ y2 ⟨rfl,hw2⟩
  go_wp2
  exact bodyPost_ret (v:=.tuple #[.int .i64 s,.int .i64 er]) (by simp [results,Tryz.results22,go_sem]) rfl ⟨rfl,bel_trans hw1 (bel_trans (bel_alloc y1 (.cells #[.slice ao n ca,.slice bo m cb] 24)) hw2)⟩
theorem toNil5 (way:Int) (hw:0 <= way∧way <= 3) (W:World) (h:Hold4 W):Calls Tryz.prog 53 #[.agg #[.bool false,.slice none 0 0,.int .i64 0],.int .i64 way] W fun r w'=>r=.returned (.tuple #[.int .i64 0,.bool false,.int .i64 0])∧Below W.heap.size W w':=by
  have ok0:okR ⟨false,none,0,0,fun _=>0,0⟩=true:=by decide
  have:=to_ok way hw ⟨false,none,0,0,fun _=>0,0⟩ W ⟨Nat.le_refl _,by decide,fun _=>rfl,fun q=>by cases q⟩ ok0 h.env h.tab
  have e:=to_zero ok0 rfl way
  unfold toR at e
  rw [e] at this
  exact this
set_option maxRecDepth 100000 in
set_option maxHeartbeats 2000000 in
theorem refusalLong1 {ao bo:Option Addr} {n ca cb g:Nat} (way:Int) (hw:0 <= way∧way <= 3) (w:World) (hg:w.heap[g]?=some (.cells #[.slice ao n ca] 24 (0,0))) (hn:(4096:Int) < (n:Int)) (H:Hold4 w) :
    Calls Tryz.prog 50 #[.int .i64 way,.slice (some ⟨g,0,none⟩) 1 1] w fun r w'=>r=.returned (.int .i64 2)∧Below w.heap.size w w':=by
  have CT:=hideIt (toNil5 way hw w H)
  clear H hw
  go_enter Tryz.func50,Tryz.ntmps50
  go_wp2_with fail
  refine CT.out.mono ?_
  rintro _ y1 ⟨rfl,hw1⟩
  replace hg:=blk_on hw1 hg
  go_wp2_with fail
  go_loopw [22] (fun iv wr=>∃ k:Nat,k <= 1∧iv=.int .i64 k∧Below y1.heap.size y1 wr) (fun iv _=>1 - (intOf iv).toNat)
  case atStart=>exact ⟨0,by omega,rfl,bel_refl _⟩
  case round=>
    obtain ⟨k,hk,rfl,hbw⟩:=hrel
    have hg':=blk_on hbw hg
    have c0:=blkC hg' 0 rfl
    rcases (show k=0∨k=1 by omega) with rfl | rfl
    . go_wp2
      go_roundw
      case rel=>exact ⟨0 + 1,by omega,by go_num,hbw⟩
      case measure=>simp [intOf]
    . go_wp2
      go_ret
      exact ⟨rfl,bel_trans hw1 hbw⟩
set_option maxRecDepth 100000 in
set_option maxHeartbeats 2000000 in
theorem refusalLong2 {ao bo:Option Addr} {n ca cb g:Nat} (way:Int) (hw:0 <= way∧way <= 3) (w:World) (hg:w.heap[g]?=some (.cells #[.slice ao n ca,.slice bo n cb] 24 (0,0))) (hn:(4096:Int) < (n:Int)) (H:Hold4 w) :
    Calls Tryz.prog 50 #[.int .i64 way,.slice (some ⟨g,0,none⟩) 2 2] w fun r w'=>r=.returned (.int .i64 2)∧Below w.heap.size w w':=by
  have CT:=hideIt (toNil5 way hw w H)
  clear H hw
  go_enter Tryz.func50,Tryz.ntmps50
  go_wp2_with fail
  refine CT.out.mono ?_
  rintro _ y1 ⟨rfl,hw1⟩
  replace hg:=blk_on hw1 hg
  go_wp2_with fail
  go_loopw [22] (fun iv wr=>∃ k:Nat,k <= 2∧iv=.int .i64 k∧Below y1.heap.size y1 wr) (fun iv _=>2 - (intOf iv).toNat)
  case atStart=>exact ⟨0,by omega,rfl,bel_refl _⟩
  case round=>
    obtain ⟨k,hk,rfl,hbw⟩:=hrel
    have hg':=blk_on hbw hg
    have c0:=blkC hg' 0 rfl
    have c1:=blkC hg' 1 rfl
    rcases (show k=0∨k=1∨k=2 by omega) with rfl | rfl | rfl
    . go_wp2
      go_roundw
      case rel=>exact ⟨0 + 1,by omega,by go_num,hbw⟩
      case measure=>simp [intOf]
    . go_wp2
      go_roundw
      case rel=>exact ⟨1 + 1,by omega,by go_num,hbw⟩
      case measure=>simp [intOf]
    . go_wp2
      go_ret
      exact ⟨rfl,bel_trans hw1 hbw⟩
set_option maxRecDepth 100000 in
set_option maxHeartbeats 2000000 in
theorem refusalUneq {ao bo:Option Addr} {n m ca cb g:Nat} (way:Int) (hw:0 <= way∧way <= 3) (w:World) (hg:w.heap[g]?=some (.cells #[.slice ao n ca,.slice bo m cb] 24 (0,0))) (hn:(m:Int) ≠ (n:Int)) (H:Hold4 w) :
    Calls Tryz.prog 50 #[.int .i64 way,.slice (some ⟨g,0,none⟩) 2 2] w fun r w'=>r=.returned (.int .i64 1)∧Below w.heap.size w w':=by
  have CT:=hideIt (toNil5 way hw w H)
  clear H hw
  go_enter Tryz.func50,Tryz.ntmps50
  go_wp2_with fail
  refine CT.out.mono ?_
  rintro _ y1 ⟨rfl,hw1⟩
  replace hg:=blk_on hw1 hg
  go_wp2_with fail
  go_loopw [22] (fun iv wr=>∃ k:Nat,k <= 1∧iv=.int .i64 k∧Below y1.heap.size y1 wr) (fun iv _=>2 - (intOf iv).toNat)
  case atStart=>exact ⟨0,by omega,rfl,bel_refl _⟩
  case round=>
    obtain ⟨k,hk,rfl,hbw⟩:=hrel
    have hg':=blk_on hbw hg
    have c0:=blkC hg' 0 rfl
    have c1:=blkC hg' 1 rfl
    rcases (show k=0∨k=1 by omega) with rfl | rfl
    . go_wp2
      go_roundw
      case rel=>exact ⟨0 + 1,by omega,by go_num,hbw⟩
      case measure=>simp [intOf]
    . go_wp2
      go_ret
      exact ⟨rfl,bel_trans hw1 hbw⟩
theorem run_appK {w:World} (ty:TypeId) {B g n cap:Nat} {d:Nat->Int} (hO:Out B w (.slice (some ⟨g,0,none⟩) n cap) n d) (k:Nat) (y:Int) (hk:w.cell? ⟨k,0,none⟩=some (.int .i64 y)) (hB:B <= w.heap.size) (hlen:n <= 100000) :
    ∃ v' w',(Builtin.append_ #[24,24] ty #[.slice (some ⟨g,0,none⟩) n cap,.slice (some ⟨k,0,none⟩) 1 1]).run Tryz.prog w=.ok v' w'∧Out B w' v' (n + 1) (upd d n y)∧Row w' (some ⟨g,0,none⟩) n cap d∧Below B w w':=by
  obtain ⟨i0,hi,hz0,hz1,hz2⟩:=info_parts info_int
  obtain ⟨ao',cap',e,hRr⟩:=hO.row
  simp only [Value.slice.injEq,true_and] at e
  obtain ⟨rfl,rfl⟩:=e
  have hnw:∀ j u,([.int .i64 y]:List Value)[j]?=some u->w.cell? ((⟨k,0,none⟩:Addr).add j)=some u:=fun j u hu=>by
    match j,hu with
    | 0,hu=>
      simp at hu
      subst hu
      rw [add_none]
      exact hk
  rcases hO.2 with ⟨h,_⟩ | ⟨g',cap',cur,e,hb,hg,hn,hm,hs,ht⟩
  . simp at h
  . simp only [Value.slice.injEq,Option.some.injEq,Addr.mk.injEq,and_true,true_and] at e
    obtain ⟨rfl,rfl⟩:=e
    by_cases hc:cap < n + 1
    . obtain ⟨v',w',h1,h2,h3⟩:=run_append_arg_grows (P:=Tryz.prog) w 24 ty 3 i0 (.int .i64 0) 1 8 Tryz.underlying24 hi hz0 hz1 hz2 rfl (by decide) ⟨g,0,none⟩ n cap (vals d n) (by rw [vals_length]; omega) (fun j u hu=>by
          have hj:j < n:=by have:=(List.getElem?_eq_some_iff.1 hu).1; rwa [vals_length] at this
          rw [vals_get d hj] at hu
          obtain ⟨b,off,e,_,hcell⟩:=hRr.spot (by omega)
          simp only [Option.some.injEq,Addr.mk.injEq,and_true] at e
          obtain ⟨rfl,rfl⟩:=e
          rw [add_none,hcell j hj]
          exact hu) ⟨k,0,none⟩ 1 1 [.int .i64 y] rfl hnw hc (by unfold maxLen; omega) (by omega)
      have hbl:Below w.heap.size w w':=(bel_refl w).grown h3 (Nat.le_refl _) (fun k h=>by cases h)
      refine ⟨v',w',h1,?_,hRr.keeps hbl,hbl.mono hB⟩
      have h4:Out w.heap.size w' v' (n + 1) (upd d n y):=by
        unfold Out
        rw [<- vals_snoc]
        exact h2
      exact h4.lower hB
    . have hr:=run_append_room_cells (P:=Tryz.prog) w 24 ty 3 i0 Tryz.underlying24 hi g 0 n cap ⟨k,0,none⟩ 1 1 [.int .i64 y] (by rw [hz1]; rfl) hnw (by simp [Value.oneCell']) (by omega) (fun j hj=>by
          have:j=0:=by simp at hj; omega
          subst this
          rw [cell_of_row w g _ cur _ _ hg,hz1]
          simp
          omega) (fun j hj=>frozen_of_row w g _ cur _ hg)
      have ew:w.setCells g (0 + n * i0.size) [.int .i64 y]=w.setCell ⟨g,n,none⟩ (.int .i64 y):=by
        rw [hz1,show 0 + n * 1=n by omega]
        rfl
      rw [ew] at hr
      have hg2:=heap_setCell_same w g n cur 3 (.int .i64 y) hg
      have hcell:∀ i,i < n->cur[i]?=some (.int .i64 (d i)):=fun i hi=>by
        have e:=vals_get d hi
        rw [<- ht,List.getElem?_take,if_pos (by omega),Array.getElem?_toList] at e
        exact e
      refine ⟨_,_,hr,?_,?_,(Below.refl _ _).setCell (p:=⟨g,n,none⟩) hb _⟩
      . refine ⟨by rw [vals_length]; omega,.inr ⟨g,cap,_,rfl,hb,hg2,by omega,hm,by simp; omega,?_⟩⟩
        apply vals_ext (by simp; omega)
        intro i hi
        rw [List.getElem?_take,if_pos (by omega),Array.getElem?_toList]
        by_cases q:i=n
        . subst q
          rw [upd_same,Array.getElem?_setIfInBounds_self_of_lt (by omega)]
        . rw [upd_other _ _ q,Array.getElem?_setIfInBounds_ne (by omega)]
          exact hcell i (by omega)
      . refine ⟨hRr.le,hRr.max,hRr.nl,fun hn0=>⟨g,0,rfl,(Array.getElem?_eq_some_iff.1 hg2).1,fun i hi=>?_⟩⟩
        rw [Nat.zero_add,cell_of_row _ g i _ _ _ hg2,Array.getElem?_setIfInBounds_ne (by omega)]
        exact hcell i hi
theorem wpList_appK {w:World} {ops:Array Oper} {rest:List Oper} {o:Oper} {a:Act} {Q:Exit->Act->World->Prop} (hgd:o.guard=none) (s x:Operand)
    (ho:o.op=.call { callee:=.builtin .append,args:=#[s,x],argTypes:=#[24,24] }) (B g n cap:Nat) (d:Nat->Int) (hs:a.eval s=.slice (some ⟨g,0,none⟩) n cap) (hO:Out B w (.slice (some ⟨g,0,none⟩) n cap) n d)
    (k:Nat) (y:Int) (hx:a.eval x=.slice (some ⟨k,0,none⟩) 1 1) (hk:w.cell? ⟨k,0,none⟩=some (.int .i64 y)) (hB:B <= w.heap.size) (hlen:n <= 100000)
    (h:∀ v' w',Out B w' v' (n + 1) (upd d n y)->Row w' (some ⟨g,0,none⟩) n cap d->Below B w w'->wpList Tryz.prog ops Q rest (a.put o.dst v') w'):wpList Tryz.prog ops Q (o :: rest) a w:=by
  obtain ⟨v',w',hr,h2,h3,h4⟩:=run_appK o.type hO k y hk hB hlen
  exact Lib.wpList_append_run w hgd s x _ _ ho (.slice (some ⟨g,0,none⟩) n cap) (.slice (some ⟨k,0,none⟩) 1 1) hs hx _ w' hr (h v' w' h2 h3 h4)
end Go.Proofs.YteglfnnbpilheaaGreatDoor
