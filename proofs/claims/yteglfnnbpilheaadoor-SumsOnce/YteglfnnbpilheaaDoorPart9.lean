/- Parts of the proof. -/
import Derived.Test.YteglfnnbpilheaaDoorPart8
set_option linter.unusedVariables false
set_option linter.unusedSimpArgs false
namespace Go.Proofs.YteglfnnbpilheaaDoor
open Go Go.RowKit Go.Proofs.YteglfnnbpilheaaDoor.M
theorem one5:patV 4607182418800017408=pw 0:=by
  have h1:pneg 4607182418800017408=false:=by decide
  have h2:pmag 4607182418800017408=4503599627370496:=by decide
  have h3:pexp 4607182418800017408=-52:=by decide
  have h4:(2:Int) ^ 52=4503599627370496:=by decide
  unfold patV
  rw [h1,h2,h3,pw_step (e:=-52) (k:=0) (l:=52) (by omega) (by omega),h4]
  generalize pw (-52)=y
  unfold sg
  rw [Int.mul_comm]
  rfl
theorem one32V:patV32 1065353216=pw 0:=by
  have h1:pneg32 1065353216=false:=by decide
  have h2:pmag32 1065353216=8388608:=by decide
  have h3:pexp32 1065353216=-23:=by decide
  have h4:(2:Int) ^ 23=8388608:=by decide
  unfold patV32
  rw [h1,h2,h3,pw_step (e:=-23) (k:=0) (l:=23) (by omega) (by omega),h4]
  generalize pw (-23)=y
  unfold sg
  rw [Int.mul_comm]
  rfl
theorem two_form {x:NumR} (ok:okR x=true) (h:x.V=pw 0 * 2):x.ng=false∧val x.d x.n=1∧x.e=1:=by
  have hy:=(okR_dy ok).1
  have h1:x.V=sg false 1 * pw 1:=by
    rw [h,pw_step (e:=0) (k:=1) (l:=1) (by omega) (by omega)]
    generalize pw 0=y
    unfold sg
    rw [Int.pow_succ,Int.pow_zero]
    simp
  exact hy.unique ⟨h1,by omega,.inr ⟨by omega,by omega⟩⟩
theorem to_two {x:NumR} (ok:okR x=true) (h:x.V=pw 0 * 2):toR 0 x=(4611686018427387904,false):=by
  obtain ⟨a,b,c⟩:=two_form ok h
  unfold toR
  rw [a,b,c]
  decide +kernel
theorem to_two32 {x:NumR} (ok:okR x=true) (h:x.V=pw 0 * 2):r32 0 x.ng false (val x.d x.n / 2 ^ vK (val x.d x.n)).toNat (x.e + vK (val x.d x.n)) (decide (val x.d x.n % 2 ^ vK (val x.d x.n) ≠ 0))=(1073741824,false):=by
  obtain ⟨a,b,c⟩:=two_form ok h
  rw [a,b,c]
  decide +kernel
theorem sum_two {V:Nat->Int} (h:∀ i,i < 2->V i=pw 0):sumF V 2=pw 0 * 2:=by
  show (0 + V 0) + V 1=_
  rw [h 0 (by omega),h 1 (by omega)]
  generalize pw 0=y
  omega
theorem dot_two {X:Int} {V:Nat->Int} (h:∀ i,i < 2->V i=pw 0) (hX:X * 2 ^ 4194304=sumF (fun i=>V i * V i) 2):X=pw 0 * 2:=by
  have e:sumF (fun i=>V i * V i) 2=pw 0 * 2 * pw 0:=by
    show (0 + V 0 * V 0) + V 1 * V 1=_
    rw [h 0 (by omega),h 1 (by omega)]
    generalize pw 0=y
    rw [Int.mul_assoc,Int.mul_comm 2 y,<- Int.mul_assoc]
    omega
  rw [e,<- pw_zero] at hX
  have hp:=pw_pos 0
  revert hX hp
  generalize pw 0=y
  intro hX hp
  exact Int.eq_of_mul_eq_mul_right (by omega) hX
set_option maxRecDepth 100000 in
set_option maxHeartbeats 4000000 in
theorem strays32 {ao:Option Addr} {ca g:Nat} (w:World) (hg:w.heap[g]?=some (.cells #[.slice ao 2 ca] 22 (0,0))) (ha:Row w ao 2 ca (fun _=>1065353216)) :
    Calls Tryd.prog 76 #[.agg #[.func (.func 78) #[] #[],.func (.func 79) #[] #[],.func (.func 80) #[] #[],.func (.func 81) #[] #[]],.slice (some ⟨g,0,none⟩) 1 1] w fun r w'=>r=.returned (.float .f32 0)∧Below w.heap.size w w':=by
  have hst:∀ p F c m w,(store p (.func (.func F) #[] c) m).run Tryd.prog w=stored Tryd.prog w p (.func (.func F) #[] c) m:=fun p F c m w=>run_store _ w p _ m rfl
  have hE:∀ (cap:Array Value) (w:World),(callFunc 78 cap).run Tryd.prog w=.ok (.enter 78 cap) w:=by intro cap w; simp [go_sem]
  have hcv:∀ w,(convert 3 88 (.int .i64 1)).run Tryd.prog w=.ok (.float .f32 1065353216) w:=fun _=>by kernel_rfl
  have hm:∀ w:World,(binOp .mul 88 (.float .f32 1065353216) (.float .f32 1065353216)).run Tryd.prog w=.ok (.float .f32 1065353216) w:=fun _=>by kernel_rfl
  have hd:∀ w:World,(binOp .sub 88 (.float .f32 1065353216) (.float .f32 1065353216)).run Tryd.prog w=.ok (.float .f32 0) w:=fun _=>by kernel_rfl
  have ho:FloatKind.f32.format.order 0 0=some .eq:=by decide +kernel
  have C1:Hid (∀ W,Calls Tryd.prog 78 #[.int .i64 1065353216] W fun e w'=>e=.returned (.float .f32 1065353216)∧w'=W):=fun W=>by
    have:=bitsFloat32' 1065353216 W
    rwa [show wd32 1065353216=1065353216 by decide] at this
  have hla:=ha.le
  have hma:=ha.max
  obtain ⟨ba,oa,rfl,hba,hca⟩:=ha.spot (by omega)
  have hbA:=bel_alloc w (.cells #[.func (.func 78) #[] #[],.func (.func 79) #[] #[],.func (.func 80) #[] #[],.func (.func 81) #[] #[]] 92)
  have gA:=heap_a1 w (.cells #[.func (.func 78) #[] #[],.func (.func 79) #[] #[],.func (.func 80) #[] #[],.func (.func 81) #[] #[]] 92)
  have fA:=blkC (heap_past (.cells #[.func (.func 78) #[] #[],.func (.func 79) #[] #[],.func (.func 80) #[] #[],.func (.func 81) #[] #[]] 92) hg) 0 rfl
  go_enter Tryd.func76,Tryd.ntmps76
  go_wp2_with fail
  clear fA
  generalize w.alloc (.cells #[.func (.func 78) #[] #[],.func (.func 79) #[] #[],.func (.func 80) #[] #[],.func (.func 81) #[] #[]] 92)=wa at hbA gA ⊢
  go_loopw [5,16] (fun sv iv wr=>∃ k:Nat,k <= 2∧iv=.int .i64 k∧sv=.float .f32 0∧Below wa.heap.size wa wr) (fun _ iv _=>2 - (intOf iv).toNat)
  case atStart=>exact ⟨0,Nat.zero_le _,rfl,rfl,bel_refl _⟩
  case round=>
    obtain ⟨k,hk,rfl,rfl,hbw⟩:=hrel
    by_cases hlt:k < 2
    . have i0:(0:Int) <= (k:Int):=by omega
      have i1:(k:Int) < (2:Int):=by omega
      have hbq:=bel_trans hbA hbw
      have CA:=q_cell (hca k hlt) hbq
      have CF:=q_cell (blkC gA 0 rfl) hbw
      have g':=blk_on hbq hg
      go_wp2_with fail
      go_loopw [7,8,22] (fun tv fv jv wr2=>∃ (j:Nat),j <= 1∧jv=.int .i64 j∧fv=.bool true∧tv=.float .f32 1065353216∧Below wr.heap.size wr wr2) (fun _ _ jv _=>1 - (intOf jv).toNat)
      case atStart=>exact ⟨0,by omega,rfl,rfl,rfl,bel_refl _⟩
      case round=>
        obtain ⟨j,hj,rfl,rfl,rfl,hbw2⟩:=hrel
        have A0:=q_cell CA hbw2
        have F0:=q_cell CF hbw2
        have g2:=blk_on hbw2 g'
        have c0:=blkC g2 0 rfl
        clear g2
        rcases (show j=0∨j=1 by omega) with rfl | rfl
        . go_wp2_with fail
          go_quiet ((go_at_call 78; with_reducible exact Calls.quiet_of_same (C1.out _)))
          go_wp2
          go_roundw
          case rel=>exact ⟨0 + 1,by omega,by go_num,rfl,rfl,bDrewN hbw2 nq⟩
          case measure=>simp [intOf]
        . clear A0 F0 c0
          go_wp2
          go_roundw
          case rel=>exact ⟨k + 1,by omega,by go_num,rfl,bel_trans hbw hbw2⟩
          case measure=>simp [intOf]; omega
    . obtain rfl:k=2:=by omega
      go_wp2
      go_ret
      exact ⟨rfl,bel_trans hbA hbw⟩
set_option maxRecDepth 100000 in
set_option maxHeartbeats 4000000 in
theorem sum32c {ao:Option Addr} {ca gl:Nat} (w:World) (l_k:w.heap[gl]?=some (.cells #[.slice ao 2 ca] 22 (0,0))) (RA:Row w ao 2 ca (fun _=>1065353216)) (H:Hold4 w) :
    Calls Tryd.prog 50 #[.agg #[.func (.func 78) #[] #[],.func (.func 79) #[] #[],.func (.func 80) #[] #[],.func (.func 81) #[] #[]],.int .i64 0,.slice (some ⟨gl,0,none⟩) 1 1] w fun r w'=>r=.returned (.tuple #[.int .i64 1073741824,.int .i64 0])∧Below w.heap.size w w':=by
  have hst:∀ p F c m w,(store p (.func (.func F) #[] c) m).run Tryd.prog w=stored Tryd.prog w p (.func (.func F) #[] c) m:=fun p F c m w=>run_store _ w p _ m rfl
  have hE:∀ (cap:Array Value) (w:World),(callFunc 81 cap).run Tryd.prog w=.ok (.enter 81 cap) w:=by intro cap w; simp [go_sem]
  have C1:Hid (∀ W,Below w.heap.size w W->Calls Tryd.prog 36 #[.int .i64 0,.slice (some ⟨gl,0,none⟩) 1 1] W fun r w'=>r=.returned (.int .i64 0)∧Below W.heap.size W w'):=fun W h=>refusal1W (bo:=none) (cb:=0) 0 ⟨by omega,by omega⟩ W (blk_on h l_k) (by omega) (H.keeps h)
  have C2:Hid (∀ W,Below w.heap.size w W->Calls Tryd.prog 76 #[.agg #[.func (.func 78) #[] #[],.func (.func 79) #[] #[],.func (.func 80) #[] #[],.func (.func 81) #[] #[]],.slice (some ⟨gl,0,none⟩) 1 1] W fun r w'=>r=.returned (.float .f32 0)∧Below W.heap.size W w'):=fun W h=>strays32 W (blk_on h l_k) (RA.keeps h)
  have C3:Hid (∀ W,Below w.heap.size w W->Calls Tryd.prog 77 #[.agg #[.func (.func 78) #[] #[],.func (.func 79) #[] #[],.func (.func 80) #[] #[],.func (.func 81) #[] #[]],.slice (some ⟨gl,0,none⟩) 1 1] W fun r w'=>∃ (x:NumR),r=.returned (.agg #[.bool x.ng,.slice x.ao x.n x.cap,.int .i64 x.e])∧(∀ W2,Below w'.heap.size w' W2->Calls Tryd.prog 81 #[.agg #[.bool x.ng,.slice x.ao x.n x.cap,.int .i64 x.e],.int .i64 0] W2 fun r2 w2=>r2=.returned (.tuple #[.int .i64 1073741824,.bool false,.int .i64 0])∧Below W2.heap.size W2 w2)∧Below W.heap.size W w'):=fun W h=>by
    refine (total32F W (blk_on h l_k) (RA.keeps h) (fun i hi=>by decide) (by omega) (H.keeps h)).mono ?_
    rintro _ w' ⟨v,rfl,hD,hB,hb⟩
    obtain ⟨x,rfl,hR,ok,hV⟩:=hD.open (hB.ok (by omega))
    rw [sum_two (fun i hi=>one32V)] at hV
    refine ⟨x,rfl,fun W2 h2=>?_,hb⟩
    have H2:=H.keeps (bel_trans h (bel_trans hb h2))
    have:=to32_ok 0 ⟨by omega,by omega⟩ x W2 (hR.keeps h2) ok H2.env H2.tab
    rw [to_two32 ok hV] at this
    exact this
  clear RA H
  have ho:FloatKind.f32.format.order 0 0=some .eq:=by decide +kernel
  have hb0:=bel_alloc w (.cells #[.func (.func 78) #[] #[],.func (.func 79) #[] #[],.func (.func 80) #[] #[],.func (.func 81) #[] #[]] 92)
  have b_k:=heap_a1 w (.cells #[.func (.func 78) #[] #[],.func (.func 79) #[] #[],.func (.func 80) #[] #[],.func (.func 81) #[] #[]] 92)
  go_enter Tryd.func50,Tryd.ntmps50
  go_wp2_with fail
  generalize w.alloc (.cells #[.func (.func 78) #[] #[],.func (.func 79) #[] #[],.func (.func 80) #[] #[],.func (.func 81) #[] #[]] 92)=x0 at hb0 b_k ⊢
  refine (C1.out _ hb0).mono ?_
  rintro _ y1 ⟨rfl,hw1⟩
  replace b_k:=blk_on hw1 b_k
  replace hb0:=bel_trans hb0 hw1
  have f0:=blkC b_k 0 rfl
  have f1:=blkC b_k 1 rfl
  have f2:=blkC b_k 2 rfl
  have f3:=blkC b_k 3 rfl
  go_wp2_with fail
  clear f0 f1 f2 f3
  refine (C2.out _ hb0).mono ?_
  rintro _ y2 ⟨rfl,hw2⟩
  replace b_k:=blk_on hw2 b_k
  replace hb0:=bel_trans hb0 hw2
  go_wp2_with fail
  have KK:∀ W,Below y2.heap.size y2 W->W.cell? ⟨w.heap.size,0,none⟩=some (.func (.func 78) #[] #[])∧W.cell? ⟨w.heap.size,1,none⟩=some (.func (.func 79) #[] #[])∧W.cell? ⟨w.heap.size,2,none⟩=some (.func (.func 80) #[] #[])∧W.cell? ⟨w.heap.size,3,none⟩=some (.func (.func 81) #[] #[]):=fun W hb=>⟨q_cell (blkC b_k 0 rfl) hb,q_cell (blkC b_k 1 rfl) hb,q_cell (blkC b_k 2 rfl) hb,q_cell (blkC b_k 3 rfl) hb⟩
  have hC0:=(bel_refl y2).drew
  go_region_held3 (fun W=>W.cell? ⟨w.heap.size,0,none⟩=some (.func (.func 78) #[] #[])∧W.cell? ⟨w.heap.size,1,none⟩=some (.func (.func 79) #[] #[])∧W.cell? ⟨w.heap.size,2,none⟩=some (.func (.func 80) #[] #[])∧W.cell? ⟨w.heap.size,3,none⟩=some (.func (.func 81) #[] #[]))
    (with_reducible first | assumption | exact KK _ hC0 | exact KK _ hC1 | exact KK _ hC2 | fail)
    (first
      | (go_at_call 81; refine (CT _ (bel_refl _)).mono ?_; rintro _ y4 ⟨rfl,hq2⟩; have hC2:=bel_trans hC1 hq2)
      | (go_at_call 77; refine (C3.out _ (bel_trans hb0 hC0)).mono ?_; rintro _ y3 ⟨x,rfl,CT,hq1⟩; have hC1:=bel_trans hC0 hq1))
  all_goals go_wp2
  all_goals exact bodyPost_ret (v:=.tuple #[.int .i64 1073741824,.int .i64 0]) (by simp [results,Tryd.results50,go_sem]) rfl ⟨rfl,bel_trans hb0 hC2⟩
theorem binary32F (w:World) :
    Calls Tryd.prog 51 #[] w fun r w'=>r=.returned (.agg #[.func (.func 78) #[] #[],.func (.func 79) #[] #[],.func (.func 80) #[] #[],.func (.func 81) #[] #[]])∧Below w.heap.size w w':=by
  have hst:∀ p F m w,(store p (.func (.func F) #[] #[]) m).run Tryd.prog w=stored Tryd.prog w p (.func (.func F) #[] #[]) m:=fun p F m w=>run_store _ w p _ m rfl
  go_enter Tryd.func51,Tryd.ntmps51
  go_wp2_with fail
  have r_j:=heap_a1 w (.cells #[.func (.func 78) #[] #[],.func (.func 79) #[] #[],.func (.func 80) #[] #[],.func (.func 81) #[] #[]] 92)
  have k0:=blkC r_j 0 rfl
  have k1:=blkC r_j 1 rfl
  have k2:=blkC r_j 2 rfl
  have k3:=blkC r_j 3 rfl
  exact bodyPost_ret (v:=.agg #[.func (.func 78) #[] #[],.func (.func 79) #[] #[],.func (.func 80) #[] #[],.func (.func 81) #[] #[]]) (by simp [results,Tryd.results51,go_sem,k0,k1,k2,k3]) rfl ⟨rfl,bel_alloc _ _⟩
set_option maxRecDepth 100000 in
set_option maxHeartbeats 2000000 in
theorem Sum32c {ao:Option Addr} {ca:Nat} (w:World) (RA:Row w ao 2 ca (fun _=>1065353216)) (H:Hold4 w) :
    Calls Tryd.prog 28 #[.slice ao 2 ca,.int .i64 0] w fun r w'=>r=.returned (.tuple #[.int .i64 1073741824,.int .i64 0])∧Below w.heap.size w w':=by
  have C1:Hid (∀ W,Calls Tryd.prog 51 #[] W fun r w'=>r=.returned (.agg #[.func (.func 78) #[] #[],.func (.func 79) #[] #[],.func (.func 80) #[] #[],.func (.func 81) #[] #[]])∧Below W.heap.size W w'):=fun W=>binary32F W
  have C2:Hid (∀ W gl,Below w.heap.size w W->W.heap[gl]?=some (.cells #[.slice ao 2 ca] 22 (0,0))->Calls Tryd.prog 50 #[.agg #[.func (.func 78) #[] #[],.func (.func 79) #[] #[],.func (.func 80) #[] #[],.func (.func 81) #[] #[]],.int .i64 0,.slice (some ⟨gl,0,none⟩) 1 1] W fun r w'=>r=.returned (.tuple #[.int .i64 1073741824,.int .i64 0])∧Below W.heap.size W w'):=fun W gl h hl=>sum32c W hl (RA.keeps h) (H.keeps h)
  clear RA H
  go_enter Tryd.func28,Tryd.ntmps28
  go_wp2_with fail
  refine (C1.out _).mono ?_
  rintro _ y1 ⟨rfl,hw1⟩
  go_wp2_with fail
  refine (C2.out _ _ (bel_trans hw1 (bel_alloc y1 (.cells #[.slice ao 2 ca] 22))) (heap_a1 y1 (.cells #[.slice ao 2 ca] 22))).mono ?_
  rintro _ y2 ⟨rfl,hw2⟩
  go_wp2
  exact bodyPost_ret (v:=.tuple #[.int .i64 1073741824,.int .i64 0]) (by simp [results,Tryd.results28,go_sem]) rfl ⟨rfl,bel_trans hw1 (bel_trans (bel_alloc y1 (.cells #[.slice ao 2 ca] 22)) hw2)⟩
set_option maxRecDepth 100000 in
set_option maxHeartbeats 4000000 in
theorem left5c {ao:Option Addr} {ca:Nat} (w:World) (ha:Row w ao 2 ca (fun _=>4607182418800017408)) :
    Calls Tryd.prog 31 #[.agg #[.func (.func 32) #[] #[],.func (.func 33) #[] #[],.func (.func 26) #[] #[],.func (.func 8) #[] #[]],.slice ao 2 ca] w fun r w'=>r=.returned (.int .i64 4611686018427387904)∧Below w.heap.size w w':=by
  have hst:∀ p F c m w,(store p (.func (.func F) #[] c) m).run Tryd.prog w=stored Tryd.prog w p (.func (.func F) #[] c) m:=fun p F c m w=>run_store _ w p _ m rfl
  have hE:∀ (cap:Array Value) (w:World),(callFunc 32 cap).run Tryd.prog w=.ok (.enter 32 cap) w:=by intro cap w; simp [go_sem]
  have hE2:∀ (cap:Array Value) (w:World),(callFunc 33 cap).run Tryd.prog w=.ok (.enter 33 cap) w:=by intro cap w; simp [go_sem]
  have h0:∀ w:World,(binOp .add 41 (.float .f64 0) (.float .f64 4607182418800017408)).run Tryd.prog w=.ok (.float .f64 4607182418800017408) w:=fun _=>by kernel_rfl
  have h1:∀ w:World,(binOp .add 41 (.float .f64 4607182418800017408) (.float .f64 4607182418800017408)).run Tryd.prog w=.ok (.float .f64 4611686018427387904) w:=fun _=>by kernel_rfl
  have C1:Hid (∀ W,Calls Tryd.prog 32 #[.int .i64 4607182418800017408] W fun e w'=>e=.returned (.float .f64 4607182418800017408)∧w'=W):=fun W=>by
    have:=bitsFloat 4607182418800017408 W
    rwa [show wd 4607182418800017408=4607182418800017408 by decide] at this
  have C2:Hid (∀ W,Calls Tryd.prog 33 #[.float .f64 4611686018427387904] W fun e w'=>e=.returned (.int .i64 4611686018427387904)∧w'=W):=fun W=>by
    have:=bitsOf 4611686018427387904 W (by unfold rng; decide)
    rwa [show wd 4611686018427387904=4611686018427387904 by decide,show told 4611686018427387904=4611686018427387904 by decide] at this
  have hla:=ha.le
  have hma:=ha.max
  obtain ⟨ba,oa,rfl,hba,hca⟩:=ha.spot (by omega)
  have hbA:=bel_alloc w (.cells #[.func (.func 32) #[] #[],.func (.func 33) #[] #[],.func (.func 26) #[] #[],.func (.func 8) #[] #[]] 46)
  have gA:=heap_a1 w (.cells #[.func (.func 32) #[] #[],.func (.func 33) #[] #[],.func (.func 26) #[] #[],.func (.func 8) #[] #[]] 46)
  go_enter Tryd.func31,Tryd.ntmps31
  go_wp2_with fail
  generalize w.alloc (.cells #[.func (.func 32) #[] #[],.func (.func 33) #[] #[],.func (.func 26) #[] #[],.func (.func 8) #[] #[]] 46)=wa at hbA gA ⊢
  go_loopw [5,9] (fun sv iv wr=>Below wa.heap.size wa wr∧((iv=.int .i64 0∧sv=.float .f64 0)∨(iv=.int .i64 1∧sv=.float .f64 4607182418800017408)∨(iv=.int .i64 2∧sv=.float .f64 4611686018427387904))) (fun _ iv _=>2 - (intOf iv).toNat)
  case atStart=>exact ⟨bel_refl _,.inl ⟨rfl,rfl⟩⟩
  case round=>
    obtain ⟨hbw,hcs⟩:=hrel
    have hbq:=bel_trans hbA hbw
    have CF:=q_cell (blkC gA 0 rfl) hbw
    have CO:=q_cell (blkC gA 1 rfl) hbw
    rcases hcs with ⟨rfl,rfl⟩ | ⟨rfl,rfl⟩ | ⟨rfl,rfl⟩
    . have A0:=q_cell (hca 0 (by omega)) hbq
      rw [Nat.add_zero] at A0
      clear CO
      go_wp2_with fail
      go_quiet ((go_at_call 32; with_reducible exact Calls.quiet_of_same (C1.out _)))
      go_wp2
      go_roundw
      case rel=>exact ⟨bDrewN hbw nq,.inr (.inl ⟨by go_num,rfl⟩)⟩
      case measure=>simp [intOf]
    . have A0:=q_cell (hca 1 (by omega)) hbq
      clear CO
      go_wp2_with fail
      go_quiet ((go_at_call 32; with_reducible exact Calls.quiet_of_same (C1.out _)))
      go_wp2
      go_roundw
      case rel=>exact ⟨bDrewN hbw nq,.inr (.inr ⟨by go_num,rfl⟩)⟩
      case measure=>simp [intOf]
    . clear CF
      go_wp2_with fail
      refine (C2.out _).mono ?_
      rintro _ _ ⟨rfl,rfl⟩
      go_wp2
      go_ret
      exact ⟨rfl,bel_trans hbA hbw⟩
set_option maxRecDepth 100000 in
theorem Left5c {ao:Option Addr} {ca:Nat} (w:World) (ha:Row w ao 2 ca (fun _=>4607182418800017408)) :
    Calls Tryd.prog 15 #[.slice ao 2 ca] w fun r w'=>r=.returned (.int .i64 4611686018427387904)∧Below w.heap.size w w':=by
  go_enter Tryd.func15,Tryd.ntmps15
  go_wp2_with fail
  refine (binary64F _).mono ?_
  rintro _ y1 ⟨rfl,hw1⟩
  go_wp2_with fail
  refine (left5c _ (ha.keeps hw1)).mono ?_
  rintro _ y2 ⟨rfl,hw2⟩
  go_wp2
  go_ret
  exact ⟨rfl,bel_trans hw1 hw2⟩
theorem row2c (w:World) (x:Int) {g:Nat} (hg:g=w.heap.size):Row (w.alloc (.cells #[.int .i64 x,.int .i64 x] 3)) (some ⟨g,0,none⟩) 2 2 (fun _=>x):=by
  subst hg
  have q:=heap_a1 w (.cells #[.int .i64 x,.int .i64 x] 3)
  refine ⟨Nat.le_refl _,by decide,(fun e=>by cases e),fun _=>⟨_,0,rfl,(Array.getElem?_eq_some_iff.1 q).1,fun i hi=>?_⟩⟩
  rcases (show i=0∨i=1 by omega) with rfl | rfl
  . exact blkC q 0 rfl
  . exact blkC q 1 rfl
set_option maxRecDepth 100000 in
set_option maxHeartbeats 4000000 in
theorem alive5 (w:World) (H:Hold4 w) :
    Calls Tryd.prog 11 #[] w fun r w'=>r=.returned (.bool true)∧Below w.heap.size w w':=by
  have fo:∀ i,i < 2->rng ((fun _=>4607182418800017408:Nat->Int) i)∧pok ((fun _=>4607182418800017408:Nat->Int) i)=true:=fun i hi=>(⟨by unfold rng; decide,by decide⟩:rng 4607182418800017408∧pok 4607182418800017408=true)
  have CS:Hid (∀ W g,Below w.heap.size w W->Row W (some ⟨g,0,none⟩) 2 2 (fun _=>4607182418800017408)->Calls Tryd.prog 7 #[.slice (some ⟨g,0,none⟩) 2 2,.int .i64 0] W fun r w'=>r=.returned (.tuple #[.int .i64 4611686018427387904,.int .i64 0])∧Below W.heap.size W w'):=fun W g h R=>by
    refine (sumF1 0 ⟨by omega,by omega⟩ W R fo (by omega) (H.keeps h)).mono ?_
    rintro _ w' ⟨x,rfl,ok,hV,hb⟩
    rw [sum_two (fun i hi=>one5)] at hV
    rw [to_two ok hV]
    exact ⟨rfl,hb⟩
  have CD:Hid (∀ W g k,Below w.heap.size w W->Row W (some ⟨g,0,none⟩) 2 2 (fun _=>4607182418800017408)->Row W (some ⟨k,0,none⟩) 2 2 (fun _=>4607182418800017408)->Calls Tryd.prog 10 #[.slice (some ⟨g,0,none⟩) 2 2,.slice (some ⟨k,0,none⟩) 2 2,.int .i64 0] W fun r w'=>r=.returned (.tuple #[.int .i64 4611686018427387904,.int .i64 0])∧Below W.heap.size W w'):=fun W g k h R R2=>by
    refine (dotFW 0 ⟨by omega,by omega⟩ W R R2 fo fo (by omega) (H.keeps h)).mono ?_
    rintro _ w' ⟨x,rfl,ok,hV,hb⟩
    rw [to_two ok (dot_two (V:=fun i=>patV ((fun _=>4607182418800017408:Nat->Int) i)) (fun i hi=>one5) hV)]
    exact ⟨rfl,hb⟩
  have C3:Hid (∀ W g,Below w.heap.size w W->Row W (some ⟨g,0,none⟩) 2 2 (fun _=>1065353216)->Calls Tryd.prog 28 #[.slice (some ⟨g,0,none⟩) 2 2,.int .i64 0] W fun r w'=>r=.returned (.tuple #[.int .i64 1073741824,.int .i64 0])∧Below W.heap.size W w'):=fun W g h R=>Sum32c W R (H.keeps h)
  have CL5:Hid (∀ W g,Row W (some ⟨g,0,none⟩) 2 2 (fun _=>4607182418800017408)->Calls Tryd.prog 15 #[.slice (some ⟨g,0,none⟩) 2 2] W fun r w'=>r=.returned (.int .i64 4611686018427387904)∧Below W.heap.size W w'):=fun W g R=>Left5c W R
  clear H fo
  have O1:=fun W:World=>bel_alloc W (.cells #[.int .i64 4607182418800017408,.int .i64 4607182418800017408] 3)
  have O2:=fun W:World=>row2c W 4607182418800017408 rfl
  have HO1:Hid _:=hideIt O1
  have HO2:Hid _:=hideIt O2
  clear O1 O2
  go_enter Tryd.func11,Tryd.ntmps11
  go_wp2_with fail
  refine (CS.out _ _ (HO1.out _) (HO2.out _)).mono ?_
  rintro _ y1 ⟨rfl,hw1⟩
  have hb1:=bel_trans (HO1.out _) hw1
  go_wp2_with fail
  refine (CD.out _ _ _ (bel_trans hb1 (bel_trans (HO1.out _) (HO1.out _))) ((HO2.out _).keeps (HO1.out _)) (row2c _ _ (by simp only [size_alloc]))).mono ?_
  rintro _ y2 ⟨rfl,hw2⟩
  have hb2:=bel_trans hb1 (bel_trans (bel_trans (HO1.out _) (HO1.out _)) hw2)
  go_wp2_with fail
  refine (C3.out _ _ (bel_trans hb2 (bel_alloc _ _)) (row2c _ _ rfl)).mono ?_
  rintro _ y3 ⟨rfl,hw3⟩
  have hb3:=bel_trans hb2 (bel_trans (bel_alloc _ _) hw3)
  go_wp2_with fail
  refine (CL5.out _ _ (row2c _ _ rfl)).mono ?_
  rintro _ y4 ⟨rfl,hw4⟩
  have hb4:=bel_trans hb3 (bel_trans (bel_alloc _ _) hw4)
  go_wp2
  go_ret
  exact ⟨rfl,hb4⟩
theorem way5 {way:Int} (h:rng way):∃ k,bits BinOp.and IntKind.i64 way 3=k∧0 <= k∧k <= 3:=by
  refine ⟨_,rfl,?_⟩
  rw [bits_and64,show ((3:Int) % 18446744073709551616).toNat=2 ^ 2 - 1 from by decide,Nat.and_two_pow_sub_one_eq_mod,wrap_i64_eq]
  omega
def Fin5 (d:Nat->Int) (n:Nat):Prop:=∀ i,i < n->rng (d i)∧pok (d i)=true
theorem Fin5.cat {d e:Nat->Int} {n m:Nat} (h:Fin5 d n) (k:Fin5 e m):Fin5 (cat d n e) (n + m):=fun i hi=>by
  unfold Go.Proofs.YteglfnnbpilheaaDoor.cat
  split
  . exact h i (by assumption)
  . exact k (i - n) (by omega)
theorem Fin5.nil (d:Nat->Int):Fin5 d 0:=fun i hi=>by omega
theorem Fin5.one {x:Int} (h:rng x) (p:pok x=true):Fin5 (fun _=>x) 1:=fun i hi=>⟨h,p⟩
def sm5 (d:Nat->Int) (n:Nat):Int:=sumF (fun i=>patV (d i)) n
def Rd5 (way V p:Int):Prop:=∃ x:NumR,okR x=true∧x.V=V∧p=(toR way x).1
theorem Rd5.unique {way V p q:Int} (h:Rd5 way V p) (k:Rd5 way V q):p=q:=by
  obtain ⟨x,ox,hx,rfl⟩:=h
  obtain ⟨y,oy,hy,rfl⟩:=k
  rw [toR_V ox oy (hx.trans hy.symm)]
theorem Sum5 {ao:Option Addr} {n ca:Nat} {a:Nat->Int} (way:Int) (hw:0 <= way∧way <= 3) (w:World) (RA:Row w ao n ca a) (fa:Fin5 a n) (hn:n <= 1000) (H:Hold4 w) :
    Calls Tryd.prog 7 #[.slice ao n ca,.int .i64 way] w fun r w'=>∃ p,r=.returned (.tuple #[.int .i64 p,.int .i64 0])∧Rd5 way (sm5 a n) p∧Below w.heap.size w w':=by
  refine (sumF1 way hw w RA fa hn H).mono ?_
  rintro _ w' ⟨x,rfl,ok,hV,hb⟩
  exact ⟨_,rfl,⟨x,ok,hV,rfl⟩,hb⟩
theorem ones5 (a:Nat->Int) (n:Nat) {X:Int} (h:X * 2 ^ 4194304=sumF (fun i=>patV (a i) * patV ((fun _=>4607182418800017408:Nat->Int) i)) n):X=sm5 a n:=by
  have e:sumF (fun i=>patV (a i) * patV ((fun _=>4607182418800017408:Nat->Int) i)) n=sm5 a n * pw 0:=by
    show sumF (fun i=>patV (a i) * patV 4607182418800017408) n=_
    rw [one5,sumF_mul]
    rfl
  rw [e,<- pw_zero] at h
  have hp:=pw_pos 0
  revert h hp
  generalize pw 0=y
  intro h hp
  exact Int.eq_of_mul_eq_mul_right (by omega) h
theorem Dot5 {ao bo:Option Addr} {n ca cb:Nat} {a:Nat->Int} (way:Int) (hw:0 <= way∧way <= 3) (w:World) (RA:Row w ao n ca a) (RB:Row w bo n cb (fun _=>4607182418800017408)) (fa:Fin5 a n) (hn:n <= 1000) (H:Hold4 w) :
    Calls Tryd.prog 10 #[.slice ao n ca,.slice bo n cb,.int .i64 way] w fun r w'=>∃ p,r=.returned (.tuple #[.int .i64 p,.int .i64 0])∧Rd5 way (sm5 a n) p∧Below w.heap.size w w':=by
  refine (dotFW way hw w RA RB fa (fun i hi=>(⟨by unfold rng; decide,by decide⟩:rng 4607182418800017408∧pok 4607182418800017408=true)) hn H).mono ?_
  rintro _ w' ⟨x,rfl,ok,hV,hb⟩
  exact ⟨_,rfl,⟨x,ok,ones5 a n hV,rfl⟩,hb⟩
theorem To5 {way:Int} (hw:0 <= way∧way <= 3) {x:NumR} {V:Int} {w:World} (hR:Row w x.ao x.n x.cap x.d) (ok:okR x=true) (hV:x.V=V) (H:Hold4 w) :
    Calls Tryd.prog 8 #[.agg #[.bool x.ng,.slice x.ao x.n x.cap,.int .i64 x.e],.int .i64 way] w fun r w'=>∃ p o,r=.returned (.tuple #[.int .i64 p,.bool o,.int .i64 0])∧Rd5 way V p∧Below w.heap.size w w':=by
  refine (to_ok way hw x w hR ok H.env H.tab).mono ?_
  rintro _ w' ⟨rfl,hb⟩
  exact ⟨_,_,rfl,⟨x,ok,hV,rfl⟩,hb⟩
end Go.Proofs.YteglfnnbpilheaaDoor
