/- Parts of the proof. -/
import Derived.Test.YteglfnnbpilheaaGreatDoorPart9
set_option linter.unusedVariables false
set_option linter.unusedSimpArgs false
namespace Go.Proofs.YteglfnnbpilheaaGreatDoor
open Go Go.RowKit Go.Proofs.YteglfnnbpilheaaGreatDoor.M
theorem one5:patV 4607182418800017408=pw 0:=by
  have h1:pneg 4607182418800017408=false:=by decide
  have h2:pmag 4607182418800017408=4503599627370496:=by decide
  have h3:pexp 4607182418800017408=-52:=by decide
  have h4:(2:Int) ^ 52=4503599627370496:=by decide
  unfold patV
  rw [h1,h2,h3,pw_step (e:=-52) (k:=0) (l:=52) (by omega) (by omega),h4]
  generalize pw (-52)=y
  unfold sg
  rw [Int.mul_comm]
  rfl
theorem one32V:patV32 1065353216=pw 0:=by
  have h1:pneg32 1065353216=false:=by decide
  have h2:pmag32 1065353216=8388608:=by decide
  have h3:pexp32 1065353216=-23:=by decide
  have h4:(2:Int) ^ 23=8388608:=by decide
  unfold patV32
  rw [h1,h2,h3,pw_step (e:=-23) (k:=0) (l:=23) (by omega) (by omega),h4]
  generalize pw (-23)=y
  unfold sg
  rw [Int.mul_comm]
  rfl
theorem two_form {x:NumR} (ok:okR x=true) (h:x.V=pw 0 * 2):x.ng=false∧val x.d x.n=1∧x.e=1:=by
  have hy:=(okR_dy ok).1
  have h1:x.V=sg false 1 * pw 1:=by
    rw [h,pw_step (e:=0) (k:=1) (l:=1) (by omega) (by omega)]
    generalize pw 0=y
    unfold sg
    rw [Int.pow_succ,Int.pow_zero]
    simp
  exact hy.unique ⟨h1,by omega,.inr ⟨by omega,by omega⟩⟩
theorem to_two {x:NumR} (ok:okR x=true) (h:x.V=pw 0 * 2):toR 0 x=(4611686018427387904,false):=by
  obtain ⟨a,b,c⟩:=two_form ok h
  unfold toR
  rw [a,b,c]
  decide +kernel
theorem to_two32 {x:NumR} (ok:okR x=true) (h:x.V=pw 0 * 2):r32 0 x.ng false (val x.d x.n / 2 ^ vK (val x.d x.n)).toNat (x.e + vK (val x.d x.n)) (decide (val x.d x.n % 2 ^ vK (val x.d x.n) ≠ 0))=(1073741824,false):=by
  obtain ⟨a,b,c⟩:=two_form ok h
  rw [a,b,c]
  decide +kernel
theorem sum_two {V:Nat->Int} (h:∀ i,i < 2->V i=pw 0):sumF V 2=pw 0 * 2:=by
  show (0 + V 0) + V 1=_
  rw [h 0 (by omega),h 1 (by omega)]
  generalize pw 0=y
  omega
theorem dot_two {X:Int} {V:Nat->Int} (h:∀ i,i < 2->V i=pw 0) (hX:X * 2 ^ 4194304=sumF (fun i=>V i * V i) 2):X=pw 0 * 2:=by
  have e:sumF (fun i=>V i * V i) 2=pw 0 * 2 * pw 0:=by
    show (0 + V 0 * V 0) + V 1 * V 1=_
    rw [h 0 (by omega),h 1 (by omega)]
    generalize pw 0=y
    rw [Int.mul_assoc,Int.mul_comm 2 y,<- Int.mul_assoc]
    omega
  rw [e,<- pw_zero] at hX
  have hp:=pw_pos 0
  revert hX hp
  generalize pw 0=y
  intro hX hp
  exact Int.eq_of_mul_eq_mul_right (by omega) hX
set_option maxRecDepth 100000 in
set_option maxHeartbeats 4000000 in
theorem strays32 {ao:Option Addr} {ca g:Nat} (w:World) (hg:w.heap[g]?=some (.cells #[.slice ao 2 ca] 24 (0,0))) (ha:Row w ao 2 ca (fun _=>1065353216)) :
    Calls Tryz.prog 64 #[.agg #[.func (.func 66) #[] #[],.func (.func 67) #[] #[],.func (.func 68) #[] #[],.func (.func 69) #[] #[]],.slice (some ⟨g,0,none⟩) 1 1] w fun r w'=>r=.returned (.float .f32 0)∧Below w.heap.size w w':=by
  have hst:∀ p F c m w,(store p (.func (.func F) #[] c) m).run Tryz.prog w=stored Tryz.prog w p (.func (.func F) #[] c) m:=fun p F c m w=>run_store _ w p _ m rfl
  have hE:∀ (cap:Array Value) (w:World),(callFunc 66 cap).run Tryz.prog w=.ok (.enter 66 cap) w:=by intro cap w; simp [go_sem]
  have hcv:∀ w,(convert 3 70 (.int .i64 1)).run Tryz.prog w=.ok (.float .f32 1065353216) w:=fun _=>by kernel_rfl
  have hm:∀ w:World,(binOp .mul 70 (.float .f32 1065353216) (.float .f32 1065353216)).run Tryz.prog w=.ok (.float .f32 1065353216) w:=fun _=>by kernel_rfl
  have hd:∀ w:World,(binOp .sub 70 (.float .f32 1065353216) (.float .f32 1065353216)).run Tryz.prog w=.ok (.float .f32 0) w:=fun _=>by kernel_rfl
  have ho:FloatKind.f32.format.order 0 0=some .eq:=by decide +kernel
  have C1:Hid (∀ W,Calls Tryz.prog 66 #[.int .i64 1065353216] W fun e w'=>e=.returned (.float .f32 1065353216)∧w'=W):=fun W=>by
    have:=bitsFloat32' 1065353216 W
    rwa [show wd32 1065353216=1065353216 by decide] at this
  have hla:=ha.le
  have hma:=ha.max
  obtain ⟨ba,oa,rfl,hba,hca⟩:=ha.spot (by omega)
  have hbA:=bel_alloc w (.cells #[.func (.func 66) #[] #[],.func (.func 67) #[] #[],.func (.func 68) #[] #[],.func (.func 69) #[] #[]] 74)
  have gA:=heap_a1 w (.cells #[.func (.func 66) #[] #[],.func (.func 67) #[] #[],.func (.func 68) #[] #[],.func (.func 69) #[] #[]] 74)
  have fA:=blkC (heap_past (.cells #[.func (.func 66) #[] #[],.func (.func 67) #[] #[],.func (.func 68) #[] #[],.func (.func 69) #[] #[]] 74) hg) 0 rfl
  go_enter Tryz.func64,Tryz.ntmps64
  go_wp2_with fail
  clear fA
  generalize w.alloc (.cells #[.func (.func 66) #[] #[],.func (.func 67) #[] #[],.func (.func 68) #[] #[],.func (.func 69) #[] #[]] 74)=wa at hbA gA ⊢
  go_loopw [5,16] (fun sv iv wr=>∃ k:Nat,k <= 2∧iv=.int .i64 k∧sv=.float .f32 0∧Below wa.heap.size wa wr) (fun _ iv _=>2 - (intOf iv).toNat)
  case atStart=>exact ⟨0,Nat.zero_le _,rfl,rfl,bel_refl _⟩
  case round=>
    obtain ⟨k,hk,rfl,rfl,hbw⟩:=hrel
    by_cases hlt:k < 2
    . have i0:(0:Int) <= (k:Int):=by omega
      have i1:(k:Int) < (2:Int):=by omega
      have hbq:=bel_trans hbA hbw
      have CA:=q_cell (hca k hlt) hbq
      have CF:=q_cell (blkC gA 0 rfl) hbw
      have g':=blk_on hbq hg
      go_wp2_with fail
      go_loopw [7,8,22] (fun tv fv jv wr2=>∃ (j:Nat),j <= 1∧jv=.int .i64 j∧fv=.bool true∧tv=.float .f32 1065353216∧Below wr.heap.size wr wr2) (fun _ _ jv _=>1 - (intOf jv).toNat)
      case atStart=>exact ⟨0,by omega,rfl,rfl,rfl,bel_refl _⟩
      case round=>
        obtain ⟨j,hj,rfl,rfl,rfl,hbw2⟩:=hrel
        have A0:=q_cell CA hbw2
        have F0:=q_cell CF hbw2
        have g2:=blk_on hbw2 g'
        have c0:=blkC g2 0 rfl
        clear g2
        rcases (show j=0∨j=1 by omega) with rfl | rfl
        . go_wp2_with fail
          go_quiet ((go_at_call 66; with_reducible exact Calls.quiet_of_same (C1.out _)))
          go_wp2
          go_roundw
          case rel=>exact ⟨0 + 1,by omega,by go_num,rfl,rfl,bDrewN hbw2 nq⟩
          case measure=>simp [intOf]
        . clear A0 F0 c0
          go_wp2
          go_roundw
          case rel=>exact ⟨k + 1,by omega,by go_num,rfl,bel_trans hbw hbw2⟩
          case measure=>simp [intOf]; omega
    . obtain rfl:k=2:=by omega
      go_wp2
      go_ret
      exact ⟨rfl,bel_trans hbA hbw⟩
set_option maxRecDepth 100000 in
set_option maxHeartbeats 4000000 in
theorem sum32c {ao:Option Addr} {ca gl:Nat} (w:World) (l_k:w.heap[gl]?=some (.cells #[.slice ao 2 ca] 24 (0,0))) (RA:Row w ao 2 ca (fun _=>1065353216)) (H:Hold4 w) :
    Calls Tryz.prog 41 #[.agg #[.func (.func 66) #[] #[],.func (.func 67) #[] #[],.func (.func 68) #[] #[],.func (.func 69) #[] #[]],.int .i64 0,.slice (some ⟨gl,0,none⟩) 1 1] w fun r w'=>r=.returned (.tuple #[.int .i64 1073741824,.int .i64 0])∧Below w.heap.size w w':=by
  have hst:∀ p F c m w,(store p (.func (.func F) #[] c) m).run Tryz.prog w=stored Tryz.prog w p (.func (.func F) #[] c) m:=fun p F c m w=>run_store _ w p _ m rfl
  have hE:∀ (cap:Array Value) (w:World),(callFunc 69 cap).run Tryz.prog w=.ok (.enter 69 cap) w:=by intro cap w; simp [go_sem]
  have C1:Hid (∀ W,Below w.heap.size w W->Calls Tryz.prog 50 #[.int .i64 0,.slice (some ⟨gl,0,none⟩) 1 1] W fun r w'=>r=.returned (.int .i64 0)∧Below W.heap.size W w'):=fun W h=>refusal1W (bo:=none) (cb:=0) 0 ⟨by omega,by omega⟩ W (blk_on h l_k) (by omega) (H.keeps h)
  have C2:Hid (∀ W,Below w.heap.size w W->Calls Tryz.prog 64 #[.agg #[.func (.func 66) #[] #[],.func (.func 67) #[] #[],.func (.func 68) #[] #[],.func (.func 69) #[] #[]],.slice (some ⟨gl,0,none⟩) 1 1] W fun r w'=>r=.returned (.float .f32 0)∧Below W.heap.size W w'):=fun W h=>strays32 W (blk_on h l_k) (RA.keeps h)
  have C3:Hid (∀ W,Below w.heap.size w W->Calls Tryz.prog 65 #[.agg #[.func (.func 66) #[] #[],.func (.func 67) #[] #[],.func (.func 68) #[] #[],.func (.func 69) #[] #[]],.slice (some ⟨gl,0,none⟩) 1 1] W fun r w'=>∃ (x:NumR),r=.returned (.agg #[.bool x.ng,.slice x.ao x.n x.cap,.int .i64 x.e])∧(∀ W2,Below w'.heap.size w' W2->Calls Tryz.prog 69 #[.agg #[.bool x.ng,.slice x.ao x.n x.cap,.int .i64 x.e],.int .i64 0] W2 fun r2 w2=>r2=.returned (.tuple #[.int .i64 1073741824,.bool false,.int .i64 0])∧Below W2.heap.size W2 w2)∧Below W.heap.size W w'):=fun W h=>by
    refine (total32F W (blk_on h l_k) (RA.keeps h) (fun i hi=>by decide) (by omega) (H.keeps h)).mono ?_
    rintro _ w' ⟨v,rfl,hD,hB,hb⟩
    obtain ⟨x,rfl,hR,ok,hV⟩:=hD.open (hB.ok (by omega))
    rw [sum_two (fun i hi=>one32V)] at hV
    refine ⟨x,rfl,fun W2 h2=>?_,hb⟩
    have H2:=H.keeps (bel_trans h (bel_trans hb h2))
    have:=to32_ok 0 ⟨by omega,by omega⟩ x W2 (hR.keeps h2) ok H2.env H2.tab
    rw [to_two32 ok hV] at this
    exact this
  clear RA H
  have ho:FloatKind.f32.format.order 0 0=some .eq:=by decide +kernel
  have hb0:=bel_alloc w (.cells #[.func (.func 66) #[] #[],.func (.func 67) #[] #[],.func (.func 68) #[] #[],.func (.func 69) #[] #[]] 74)
  have b_k:=heap_a1 w (.cells #[.func (.func 66) #[] #[],.func (.func 67) #[] #[],.func (.func 68) #[] #[],.func (.func 69) #[] #[]] 74)
  go_enter Tryz.func41,Tryz.ntmps41
  go_wp2_with fail
  generalize w.alloc (.cells #[.func (.func 66) #[] #[],.func (.func 67) #[] #[],.func (.func 68) #[] #[],.func (.func 69) #[] #[]] 74)=x0 at hb0 b_k ⊢
  refine (C1.out _ hb0).mono ?_
  rintro _ y1 ⟨rfl,hw1⟩
  replace b_k:=blk_on hw1 b_k
  replace hb0:=bel_trans hb0 hw1
  have f0:=blkC b_k 0 rfl
  have f1:=blkC b_k 1 rfl
  have f2:=blkC b_k 2 rfl
  have f3:=blkC b_k 3 rfl
  go_wp2_with fail
  clear f0 f1 f2 f3
  refine (C2.out _ hb0).mono ?_
  rintro _ y2 ⟨rfl,hw2⟩
  replace b_k:=blk_on hw2 b_k
  replace hb0:=bel_trans hb0 hw2
  go_wp2_with fail
  have KK:∀ W,Below y2.heap.size y2 W->W.cell? ⟨w.heap.size,0,none⟩=some (.func (.func 66) #[] #[])∧W.cell? ⟨w.heap.size,1,none⟩=some (.func (.func 67) #[] #[])∧W.cell? ⟨w.heap.size,2,none⟩=some (.func (.func 68) #[] #[])∧W.cell? ⟨w.heap.size,3,none⟩=some (.func (.func 69) #[] #[]):=fun W hb=>⟨q_cell (blkC b_k 0 rfl) hb,q_cell (blkC b_k 1 rfl) hb,q_cell (blkC b_k 2 rfl) hb,q_cell (blkC b_k 3 rfl) hb⟩
  have hC0:=(bel_refl y2).drew
  go_region_held3 (fun W=>W.cell? ⟨w.heap.size,0,none⟩=some (.func (.func 66) #[] #[])∧W.cell? ⟨w.heap.size,1,none⟩=some (.func (.func 67) #[] #[])∧W.cell? ⟨w.heap.size,2,none⟩=some (.func (.func 68) #[] #[])∧W.cell? ⟨w.heap.size,3,none⟩=some (.func (.func 69) #[] #[]))
    (with_reducible first | assumption | exact KK _ hC0 | exact KK _ hC1 | exact KK _ hC2 | fail)
    (first
      | (go_at_call 69; refine (CT _ (bel_refl _)).mono ?_; rintro _ y4 ⟨rfl,hq2⟩; have hC2:=bel_trans hC1 hq2)
      | (go_at_call 65; refine (C3.out _ (bel_trans hb0 hC0)).mono ?_; rintro _ y3 ⟨x,rfl,CT,hq1⟩; have hC1:=bel_trans hC0 hq1))
  all_goals go_wp2
  all_goals exact bodyPost_ret (v:=.tuple #[.int .i64 1073741824,.int .i64 0]) (by simp [results,Tryz.results41,go_sem]) rfl ⟨rfl,bel_trans hb0 hC2⟩
theorem binary32F (w:World) :
    Calls Tryz.prog 42 #[] w fun r w'=>r=.returned (.agg #[.func (.func 66) #[] #[],.func (.func 67) #[] #[],.func (.func 68) #[] #[],.func (.func 69) #[] #[]])∧Below w.heap.size w w':=by
  have hst:∀ p F m w,(store p (.func (.func F) #[] #[]) m).run Tryz.prog w=stored Tryz.prog w p (.func (.func F) #[] #[]) m:=fun p F m w=>run_store _ w p _ m rfl
  go_enter Tryz.func42,Tryz.ntmps42
  go_wp2_with fail
  have r_j:=heap_a1 w (.cells #[.func (.func 66) #[] #[],.func (.func 67) #[] #[],.func (.func 68) #[] #[],.func (.func 69) #[] #[]] 74)
  have k0:=blkC r_j 0 rfl
  have k1:=blkC r_j 1 rfl
  have k2:=blkC r_j 2 rfl
  have k3:=blkC r_j 3 rfl
  exact bodyPost_ret (v:=.agg #[.func (.func 66) #[] #[],.func (.func 67) #[] #[],.func (.func 68) #[] #[],.func (.func 69) #[] #[]]) (by simp [results,Tryz.results42,go_sem,k0,k1,k2,k3]) rfl ⟨rfl,bel_alloc _ _⟩
set_option maxRecDepth 100000 in
set_option maxHeartbeats 2000000 in
theorem Sum32c {ao:Option Addr} {ca:Nat} (w:World) (RA:Row w ao 2 ca (fun _=>1065353216)) (H:Hold4 w) :
    Calls Tryz.prog 25 #[.slice ao 2 ca,.int .i64 0] w fun r w'=>r=.returned (.tuple #[.int .i64 1073741824,.int .i64 0])∧Below w.heap.size w w':=by
  have C1:Hid (∀ W,Calls Tryz.prog 42 #[] W fun r w'=>r=.returned (.agg #[.func (.func 66) #[] #[],.func (.func 67) #[] #[],.func (.func 68) #[] #[],.func (.func 69) #[] #[]])∧Below W.heap.size W w'):=fun W=>binary32F W
  have C2:Hid (∀ W gl,Below w.heap.size w W->W.heap[gl]?=some (.cells #[.slice ao 2 ca] 24 (0,0))->Calls Tryz.prog 41 #[.agg #[.func (.func 66) #[] #[],.func (.func 67) #[] #[],.func (.func 68) #[] #[],.func (.func 69) #[] #[]],.int .i64 0,.slice (some ⟨gl,0,none⟩) 1 1] W fun r w'=>r=.returned (.tuple #[.int .i64 1073741824,.int .i64 0])∧Below W.heap.size W w'):=fun W gl h hl=>sum32c W hl (RA.keeps h) (H.keeps h)
  clear RA H
  go_enter Tryz.func25,Tryz.ntmps25
  go_wp2_with fail
  refine (C1.out _).mono ?_
  rintro _ y1 ⟨rfl,hw1⟩
  go_wp2_with fail
  refine (C2.out _ _ (bel_trans hw1 (bel_alloc y1 (.cells #[.slice ao 2 ca] 24))) (heap_a1 y1 (.cells #[.slice ao 2 ca] 24))).mono ?_
  rintro _ y2 ⟨rfl,hw2⟩
  go_wp2
  exact bodyPost_ret (v:=.tuple #[.int .i64 1073741824,.int .i64 0]) (by simp [results,Tryz.results25,go_sem]) rfl ⟨rfl,bel_trans hw1 (bel_trans (bel_alloc y1 (.cells #[.slice ao 2 ca] 24)) hw2)⟩
set_option maxRecDepth 100000 in
set_option maxHeartbeats 4000000 in
theorem left5c {ao:Option Addr} {ca:Nat} (w:World) (ha:Row w ao 2 ca (fun _=>4607182418800017408)) :
    Calls Tryz.prog 35 #[.agg #[.func (.func 29) #[] #[],.func (.func 28) #[] #[],.func (.func 43) #[] #[],.func (.func 53) #[] #[]],.slice ao 2 ca] w fun r w'=>r=.returned (.int .i64 4611686018427387904)∧Below w.heap.size w w':=by
  have hst:∀ p F c m w,(store p (.func (.func F) #[] c) m).run Tryz.prog w=stored Tryz.prog w p (.func (.func F) #[] c) m:=fun p F c m w=>run_store _ w p _ m rfl
  have hE:∀ (cap:Array Value) (w:World),(callFunc 29 cap).run Tryz.prog w=.ok (.enter 29 cap) w:=by intro cap w; simp [go_sem]
  have hE2:∀ (cap:Array Value) (w:World),(callFunc 28 cap).run Tryz.prog w=.ok (.enter 28 cap) w:=by intro cap w; simp [go_sem]
  have h0:∀ w:World,(binOp .add 45 (.float .f64 0) (.float .f64 4607182418800017408)).run Tryz.prog w=.ok (.float .f64 4607182418800017408) w:=fun _=>by kernel_rfl
  have h1:∀ w:World,(binOp .add 45 (.float .f64 4607182418800017408) (.float .f64 4607182418800017408)).run Tryz.prog w=.ok (.float .f64 4611686018427387904) w:=fun _=>by kernel_rfl
  have C1:Hid (∀ W,Calls Tryz.prog 29 #[.int .i64 4607182418800017408] W fun e w'=>e=.returned (.float .f64 4607182418800017408)∧w'=W):=fun W=>by
    have:=bitsFloat 4607182418800017408 W
    rwa [show wd 4607182418800017408=4607182418800017408 by decide] at this
  have C2:Hid (∀ W,Calls Tryz.prog 28 #[.float .f64 4611686018427387904] W fun e w'=>e=.returned (.int .i64 4611686018427387904)∧w'=W):=fun W=>by
    have:=bitsOf 4611686018427387904 W (by unfold rng; decide)
    rwa [show wd 4611686018427387904=4611686018427387904 by decide,show told 4611686018427387904=4611686018427387904 by decide] at this
  have hla:=ha.le
  have hma:=ha.max
  obtain ⟨ba,oa,rfl,hba,hca⟩:=ha.spot (by omega)
  have hbA:=bel_alloc w (.cells #[.func (.func 29) #[] #[],.func (.func 28) #[] #[],.func (.func 43) #[] #[],.func (.func 53) #[] #[]] 50)
  have gA:=heap_a1 w (.cells #[.func (.func 29) #[] #[],.func (.func 28) #[] #[],.func (.func 43) #[] #[],.func (.func 53) #[] #[]] 50)
  go_enter Tryz.func35,Tryz.ntmps35
  go_wp2_with fail
  generalize w.alloc (.cells #[.func (.func 29) #[] #[],.func (.func 28) #[] #[],.func (.func 43) #[] #[],.func (.func 53) #[] #[]] 50)=wa at hbA gA ⊢
  go_loopw [5,9] (fun sv iv wr=>Below wa.heap.size wa wr∧((iv=.int .i64 0∧sv=.float .f64 0)∨(iv=.int .i64 1∧sv=.float .f64 4607182418800017408)∨(iv=.int .i64 2∧sv=.float .f64 4611686018427387904))) (fun _ iv _=>2 - (intOf iv).toNat)
  case atStart=>exact ⟨bel_refl _,.inl ⟨rfl,rfl⟩⟩
  case round=>
    obtain ⟨hbw,hcs⟩:=hrel
    have hbq:=bel_trans hbA hbw
    have CF:=q_cell (blkC gA 0 rfl) hbw
    have CO:=q_cell (blkC gA 1 rfl) hbw
    rcases hcs with ⟨rfl,rfl⟩ | ⟨rfl,rfl⟩ | ⟨rfl,rfl⟩
    . have A0:=q_cell (hca 0 (by omega)) hbq
      rw [Nat.add_zero] at A0
      clear CO
      go_wp2_with fail
      go_quiet ((go_at_call 29; with_reducible exact Calls.quiet_of_same (C1.out _)))
      go_wp2
      go_roundw
      case rel=>exact ⟨bDrewN hbw nq,.inr (.inl ⟨by go_num,rfl⟩)⟩
      case measure=>simp [intOf]
    . have A0:=q_cell (hca 1 (by omega)) hbq
      clear CO
      go_wp2_with fail
      go_quiet ((go_at_call 29; with_reducible exact Calls.quiet_of_same (C1.out _)))
      go_wp2
      go_roundw
      case rel=>exact ⟨bDrewN hbw nq,.inr (.inr ⟨by go_num,rfl⟩)⟩
      case measure=>simp [intOf]
    . clear CF
      go_wp2_with fail
      refine (C2.out _).mono ?_
      rintro _ _ ⟨rfl,rfl⟩
      go_wp2
      go_ret
      exact ⟨rfl,bel_trans hbA hbw⟩
set_option maxRecDepth 100000 in
theorem Left5c {ao:Option Addr} {ca:Nat} (w:World) (ha:Row w ao 2 ca (fun _=>4607182418800017408)) :
    Calls Tryz.prog 12 #[.slice ao 2 ca] w fun r w'=>r=.returned (.int .i64 4611686018427387904)∧Below w.heap.size w w':=by
  go_enter Tryz.func12,Tryz.ntmps12
  go_wp2_with fail
  refine (binary64F _).mono ?_
  rintro _ y1 ⟨rfl,hw1⟩
  go_wp2_with fail
  refine (left5c _ (ha.keeps hw1)).mono ?_
  rintro _ y2 ⟨rfl,hw2⟩
  go_wp2
  go_ret
  exact ⟨rfl,bel_trans hw1 hw2⟩
theorem row2c (w:World) (x:Int) {g:Nat} (hg:g=w.heap.size):Row (w.alloc (.cells #[.int .i64 x,.int .i64 x] 3)) (some ⟨g,0,none⟩) 2 2 (fun _=>x):=by
  subst hg
  have q:=heap_a1 w (.cells #[.int .i64 x,.int .i64 x] 3)
  refine ⟨Nat.le_refl _,by decide,(fun e=>by cases e),fun _=>⟨_,0,rfl,(Array.getElem?_eq_some_iff.1 q).1,fun i hi=>?_⟩⟩
  rcases (show i=0∨i=1 by omega) with rfl | rfl
  . exact blkC q 0 rfl
  . exact blkC q 1 rfl
set_option maxRecDepth 100000 in
set_option maxHeartbeats 4000000 in
theorem alive5 (w:World) (H:Hold4 w) :
    Calls Tryz.prog 7 #[] w fun r w'=>r=.returned (.bool true)∧Below w.heap.size w w':=by
  have fo:∀ i,i < 2->rng ((fun _=>4607182418800017408:Nat->Int) i)∧pok ((fun _=>4607182418800017408:Nat->Int) i)=true:=fun i hi=>(⟨by unfold rng; decide,by decide⟩:rng 4607182418800017408∧pok 4607182418800017408=true)
  have CS:Hid (∀ W g,Below w.heap.size w W->Row W (some ⟨g,0,none⟩) 2 2 (fun _=>4607182418800017408)->Calls Tryz.prog 10 #[.slice (some ⟨g,0,none⟩) 2 2,.int .i64 0] W fun r w'=>r=.returned (.tuple #[.int .i64 4611686018427387904,.int .i64 0])∧Below W.heap.size W w'):=fun W g h R=>by
    refine (sumF1 0 ⟨by omega,by omega⟩ W R fo (by omega) (H.keeps h)).mono ?_
    rintro _ w' ⟨x,rfl,ok,hV,hb⟩
    rw [sum_two (fun i hi=>one5)] at hV
    rw [to_two ok hV]
    exact ⟨rfl,hb⟩
  have CD:Hid (∀ W g k,Below w.heap.size w W->Row W (some ⟨g,0,none⟩) 2 2 (fun _=>4607182418800017408)->Row W (some ⟨k,0,none⟩) 2 2 (fun _=>4607182418800017408)->Calls Tryz.prog 22 #[.slice (some ⟨g,0,none⟩) 2 2,.slice (some ⟨k,0,none⟩) 2 2,.int .i64 0] W fun r w'=>r=.returned (.tuple #[.int .i64 4611686018427387904,.int .i64 0])∧Below W.heap.size W w'):=fun W g k h R R2=>by
    refine (dotFW 0 ⟨by omega,by omega⟩ W R R2 fo fo (by omega) (H.keeps h)).mono ?_
    rintro _ w' ⟨x,rfl,ok,hV,hb⟩
    rw [to_two ok (dot_two (V:=fun i=>patV ((fun _=>4607182418800017408:Nat->Int) i)) (fun i hi=>one5) hV)]
    exact ⟨rfl,hb⟩
  have C3:Hid (∀ W g,Below w.heap.size w W->Row W (some ⟨g,0,none⟩) 2 2 (fun _=>1065353216)->Calls Tryz.prog 25 #[.slice (some ⟨g,0,none⟩) 2 2,.int .i64 0] W fun r w'=>r=.returned (.tuple #[.int .i64 1073741824,.int .i64 0])∧Below W.heap.size W w'):=fun W g h R=>Sum32c W R (H.keeps h)
  have CL5:Hid (∀ W g,Row W (some ⟨g,0,none⟩) 2 2 (fun _=>4607182418800017408)->Calls Tryz.prog 12 #[.slice (some ⟨g,0,none⟩) 2 2] W fun r w'=>r=.returned (.int .i64 4611686018427387904)∧Below W.heap.size W w'):=fun W g R=>Left5c W R
  clear H fo
  have O1:=fun W:World=>bel_alloc W (.cells #[.int .i64 4607182418800017408,.int .i64 4607182418800017408] 3)
  have O2:=fun W:World=>row2c W 4607182418800017408 rfl
  have HO1:Hid _:=hideIt O1
  have HO2:Hid _:=hideIt O2
  clear O1 O2
  go_enter Tryz.func7,Tryz.ntmps7
  go_wp2_with fail
  refine (CS.out _ _ (HO1.out _) (HO2.out _)).mono ?_
  rintro _ y1 ⟨rfl,hw1⟩
  have hb1:=bel_trans (HO1.out _) hw1
  go_wp2_with fail
  refine (CD.out _ _ _ (bel_trans hb1 (bel_trans (HO1.out _) (HO1.out _))) ((HO2.out _).keeps (HO1.out _)) (row2c _ _ (by simp only [size_alloc]))).mono ?_
  rintro _ y2 ⟨rfl,hw2⟩
  have hb2:=bel_trans hb1 (bel_trans (bel_trans (HO1.out _) (HO1.out _)) hw2)
  go_wp2_with fail
  refine (C3.out _ _ (bel_trans hb2 (bel_alloc _ _)) (row2c _ _ rfl)).mono ?_
  rintro _ y3 ⟨rfl,hw3⟩
  have hb3:=bel_trans hb2 (bel_trans (bel_alloc _ _) hw3)
  go_wp2_with fail
  refine (CL5.out _ _ (row2c _ _ rfl)).mono ?_
  rintro _ y4 ⟨rfl,hw4⟩
  have hb4:=bel_trans hb3 (bel_trans (bel_alloc _ _) hw4)
  go_wp2
  go_ret
  exact ⟨rfl,hb4⟩
def Fin5 (d:Nat->Int) (n:Nat):Prop:=∀ i,i < n->rng (d i)∧pok (d i)=true
theorem Fin5.cat {d e:Nat->Int} {n m:Nat} (h:Fin5 d n) (k:Fin5 e m):Fin5 (cat d n e) (n + m):=fun i hi=>by
  unfold Go.Proofs.YteglfnnbpilheaaGreatDoor.cat
  split
  . exact h i (by assumption)
  . exact k (i - n) (by omega)
theorem Fin5.nil (d:Nat->Int):Fin5 d 0:=fun i hi=>by omega
theorem Fin5.one {x:Int} (h:rng x) (p:pok x=true):Fin5 (fun _=>x) 1:=fun i hi=>⟨h,p⟩
def sm5 (d:Nat->Int) (n:Nat):Int:=sumF (fun i=>patV (d i)) n
def Rd5 (way V p:Int):Prop:=∃ x:NumR,okR x=true∧x.V=V∧p=(toR way x).1
theorem Rd5.unique {way V p q:Int} (h:Rd5 way V p) (k:Rd5 way V q):p=q:=by
  obtain ⟨x,ox,hx,rfl⟩:=h
  obtain ⟨y,oy,hy,rfl⟩:=k
  rw [toR_V ox oy (hx.trans hy.symm)]
theorem Sum5 {ao:Option Addr} {n ca:Nat} {a:Nat->Int} (way:Int) (hw:0 <= way∧way <= 3) (w:World) (RA:Row w ao n ca a) (fa:Fin5 a n) (hn:n <= 4096) (H:Hold4 w) :
    Calls Tryz.prog 10 #[.slice ao n ca,.int .i64 way] w fun r w'=>∃ p,r=.returned (.tuple #[.int .i64 p,.int .i64 0])∧Rd5 way (sm5 a n) p∧Below w.heap.size w w':=by
  refine (sumF1 way hw w RA fa hn H).mono ?_
  rintro _ w' ⟨x,rfl,ok,hV,hb⟩
  exact ⟨_,rfl,⟨x,ok,hV,rfl⟩,hb⟩
end Go.Proofs.YteglfnnbpilheaaGreatDoor
namespace Go.Proofs.YteglfnnbpilheaaGreatDoor
open Go Go.RowKit Go.Proofs.YteglfnnbpilheaaGreatDoor.M Ieee
set_option maxRecDepth 100000 in
set_option maxHeartbeats 1000000 in
theorem fromInt_ok (n way:Int) (hn:rng n) (hw:0 <= way∧way <= 3) (w:World) (H:Hold4 w) :
    Calls Tryz.prog 23 #[.int .i64 n,.int .i64 way] w fun e w'=>e=.returned (.tuple #[.int .i64 (r64 way (decide (n < 0)) false n.natAbs 0 false).1,.int .i64 0])∧Below w.heap.size w w':=by
  have C0:=wayOf_any way w
  rw [if_pos hw,decide_eq_true hw] at C0
  have C1:Hid (∀ W,Below w.heap.size w W->_):=fun W hB=>binary64_any way hw (decide (n < 0)) false n.natAbs 0 false W (H.keeps hB).env (by unfold rng at hn; omega) (by decide)
  generalize r64 way (decide (n < 0)) false n.natAbs 0 false=R at *
  obtain ⟨R1,R2⟩:=R
  have hst:∀ (p:Addr) (F:Nat) (m:Mode) (w:World),(store p (.func (.func F) #[] #[]) m).run Tryz.prog w=stored Tryz.prog w p (.func (.func F) #[] #[]) m:=fun p F m w=>run_store _ w p _ m rfl
  clear H
  unfold rng at hn
  unfold wayV valV at *
  generalize wayF way=F at *
  go_enter Tryz.func23,Tryz.ntmps23
  go_wp2_with fail
  refine C0.mono ?_
  rintro _ w1 ⟨rfl,b1⟩
  have q1:=heap_alloc_new w1 (.cells #[.nilFunc] 59)
  have y0:=blkC q1 0 rfl
  have y1:=blkF q1 0
  by_cases h0:n < 0
  . have u1:IntKind.u64.wrap n=n + 18446744073709551616:=by rw [IntKind.wrap_u64]; omega
    have u2:IntKind.u64.wrap (-(n + 18446744073709551616))=(n.natAbs:Int):=by rw [IntKind.wrap_u64]; omega
    rw [decide_eq_true h0] at C1
    go_wp2_with fail
    have hb2:=bel_trans b1 (bel_alloc w1 (.cells #[.func (.func F) #[] #[]] 59))
    generalize w1.alloc (.cells #[.func (.func F) #[] #[]] 59)=w2 at hb2 ⊢
    refine (C1.out _ (by first | exact hb2 | exact hb2.drew)).mono ?_
    rintro _ w4 ⟨rfl,b4⟩
    go_wp2
    all_goals refine bodyPost_ret (v:=.tuple #[.int .i64 R1,.int .i64 0]) (by simp [results,Tryz.results23,go_sem]) rfl ⟨rfl,?_⟩
    all_goals first | exact bel_trans hb2 b4 | exact bel_trans hb2.drew b4
  . obtain ⟨m,rfl⟩:∃ m:Nat,n=(m:Int):=⟨n.toNat,by omega⟩
    rw [Int.natAbs_natCast] at C1
    have u1:IntKind.u64.wrap (m:Int)=(m:Int):=by rw [IntKind.wrap_u64]; omega
    rw [decide_eq_false h0] at C1
    go_wp2_with fail
    have hb2:=bel_trans b1 (bel_alloc w1 (.cells #[.func (.func F) #[] #[]] 59))
    generalize w1.alloc (.cells #[.func (.func F) #[] #[]] 59)=w2 at hb2 ⊢
    refine (C1.out _ (by first | exact hb2 | exact hb2.drew)).mono ?_
    rintro _ w4 ⟨rfl,b4⟩
    go_wp2
    all_goals refine bodyPost_ret (v:=.tuple #[.int .i64 R1,.int .i64 0]) (by simp [results,Tryz.results23,go_sem]) rfl ⟨rfl,?_⟩
    all_goals first | exact bel_trans hb2 b4 | exact bel_trans hb2.drew b4
theorem rung_self (r:Nat):Rung (vS r) r 0:=by
  have h1:=vS_lt (show r < r + 1 by omega)
  generalize hx:vS r=x at *
  refine ⟨by rw [hx]; exact Int.le_refl _,h1,by rw [hx]; simp,?_,?_,?_⟩ <;> rw [hx] <;> constructor <;> intro h <;> omega
end Go.Proofs.YteglfnnbpilheaaGreatDoor
namespace Go.Proofs.YteglfnnbpilheaaGreatDoor
open Go Go.RowKit Go.Proofs.YteglfnnbpilheaaGreatDoor.M
def ipP (z:Int):Int:=if z=0 then 0 else nearP (z * pw 0)
def Sm (z:Int):Prop:=-9007199254740992 < z∧z < 9007199254740992
theorem rTo_0 (g:Bool) {r:Nat} (h:(r:Int) < 9218868437227405312):rTo 0 g r 0=r:=by
  unfold rTo
  rw [if_pos h]
  have e:rUp 0 g (decide (r % 2=1)) 0=false:=by unfold rUp; cases g <;> simp
  rw [e]
  simp
theorem k_sga {z q A:Int} (hq:0 < q) (h:z * q=sg (decide (z * q < 0)) A):A=(z.natAbs:Int) * q∧decide (z * q < 0)=decide (z < 0):=by
  have e:decide (z * q < 0)=decide (z < 0):=k_neg hq
  rw [e] at h ⊢
  exact ⟨k_abs hq h,rfl⟩
theorem ip_form {z:Int} (h:Sm z) (h0:z ≠ 0):∃ r:Nat,(z.natAbs:Int) * pw 0=vS r∧(r:Int) < 9218868437227405312∧0 < r∧ipP z=patS (decide (z < 0)) r:=by
  obtain ⟨r,e,hr⟩:=small_rung (m:=z.natAbs) (by unfold Sm at h; omega)
  have hq:=pw_pos 0
  have hne:z * pw 0 ≠ 0:=k_ne hq h0
  obtain ⟨A,r0,left,hA,hR,hn⟩:=nearP_rung hne
  obtain ⟨eA,eg⟩:=k_sga hq hA
  rw [eA,e] at hR
  obtain ⟨rfl,rfl⟩:=hR.unique (rung_self r)
  rw [eg,rTo_0 _ hr] at hn
  refine ⟨r0,e,hr,?_,?_⟩
  . rcases Nat.eq_zero_or_pos r0 with c | c
    . exfalso
      subst c
      rw [vS_zero] at e
      have h1:0 < (z.natAbs:Int):=by omega
      have:=Int.mul_pos h1 hq
      omega
    . exact c
  . unfold ipP
    rw [if_neg h0]
    exact hn
theorem sg_abs (z:Int) (q:Int):sg (decide (z < 0)) ((z.natAbs:Int) * q)=z * q:=by
  by_cases h:z < 0
  . rw [decide_eq_true h]
    show -((z.natAbs:Int) * q)=_
    rw [<- Int.neg_mul,show -(z.natAbs:Int)=z by omega]
  . rw [decide_eq_false h]
    show (z.natAbs:Int) * q=_
    rw [show (z.natAbs:Int)=z by omega]
theorem ip_facts {z:Int} (h:Sm z):rng (ipP z)∧pok (ipP z)=true∧patV (ipP z)=z * pw 0∧decide (ipP z < 0)=decide (z < 0):=by
  by_cases h0:z=0
  . subst h0
    refine ⟨by unfold ipP rng; simp,by unfold ipP; decide,?_,by unfold ipP; decide⟩
    rw [Int.zero_mul]
    show patV 0=0
    unfold patV
    rw [show pmag 0=0 by decide,sg_zero,Int.zero_mul]
  . obtain ⟨r,e,hr,r0,hp⟩:=ip_form h h0
    obtain ⟨a,b,c⟩:=patS_parts (ng:=decide (z < 0)) (r:=(r:Int)) (by omega) (by omega)
    have d:=patS_fin (ng:=decide (z < 0)) (r:=(r:Int)) (by omega) (by omega)
    rw [hp]
    refine ⟨a,by rw [d]; exact decide_eq_true hr,?_,c⟩
    rw [patV_patS hr (fun _=>r0),<- e,sg_abs]
theorem ip_cls {z:Int} (h:Sm z):cls (ipP z) ≠ 4:=q_fin (ip_facts h).2.1
theorem fsum_fin5 {p q:Int} (hp:rng p) (hq:rng q) (pp:pok p=true) (pq:pok q=true):fsum p q=if patV p + patV q=0 then patS (decide (p < 0) && decide (q < 0)) 0 else nearP (patV p + patV q):=by
  obtain ⟨a1,a2⟩:=fin_cls hp pp
  obtain ⟨b1,b2⟩:=fin_cls hq pq
  unfold fsum
  rw [if_neg (fun c=>c.elim a1 b1),if_neg a2,if_neg b2]
theorem ip_of {z p:Int} {g:Bool} (h:p=if z * pw 0=0 then patS g 0 else nearP (z * pw 0)) (hg:z=0->g=false):p=ipP z:=by
  have hq:=pw_pos 0
  unfold ipP
  by_cases h0:z=0
  . rw [h,if_pos h0,if_pos (by rw [h0,Int.zero_mul]),hg h0]
    rfl
  . rw [h,if_neg h0,if_neg (k_ne hq h0)]
theorem ip_sum {z y:Int} (hz:Sm z) (hy:Sm y):fsum (ipP z) (ipP y)=ipP (z + y):=by
  obtain ⟨a,b,c,d⟩:=ip_facts hz
  obtain ⟨a',b',c',d'⟩:=ip_facts hy
  have e:=fsum_fin5 a a' b b'
  rw [c,c',<- Int.add_mul,d,d'] at e
  refine ip_of e fun h=>?_
  by_cases q:z < 0
  . rw [decide_eq_false (show ¬ y < 0 by omega),Bool.and_false]
  . rw [decide_eq_false q,Bool.false_and]
theorem ip_from {n:Int} (h:Sm n):(r64 0 (decide (n < 0)) false n.natAbs 0 false).1=ipP n:=by
  by_cases h0:n=0
  . subst h0
    decide +kernel
  . obtain ⟨r,e,hr,r0,hp⟩:=ip_form h h0
    have hm:n.natAbs ≠ 0:=by omega
    have hq:=pw_pos 0
    have hA:Held ((n.natAbs:Int) * pw 0) n.natAbs 0 false:=⟨Int.le_refl _,by rw [Int.add_mul,Int.one_mul]; exact Int.lt_add_of_pos_right _ hq,by simp⟩
    obtain ⟨s0,left,hR,he⟩:=r64_spec (way:=0) (ng:=decide (n < 0)) (sd:=false) hA (by unfold Sm at h; omega) hm (by decide) (fun c=>by cases c)
    rw [e] at hR
    obtain ⟨rfl,rfl⟩:=hR.unique (rung_self r)
    rw [he,hp,rTo_0 _ hr]
    show patS (decide (n < 0) && (decide ((0:Int) < (s0:Int)) || false)) (s0:Int)=_
    rw [decide_eq_true (show (0:Int) < (s0:Int) by omega)]
    simp
theorem ip_rd {n p:Int} (h:Sm n) (k:Rd5 0 (n * pw 0) p):p=ipP n:=by
  obtain ⟨x,ok,hV,rfl⟩:=k
  by_cases h0:n=0
  . subst h0
    rw [Int.zero_mul] at hV
    have hn:x.n=0:=by
      rcases Nat.eq_zero_or_pos x.n with c | c
      . exact c
      . exfalso
        have h1:=val_posA ok c
        have h2:=(okR_dy ok).1.eq_zero.1 hV
        rw [h2,Int.zero_mul] at h1
        omega
    rw [to_zero ok hn]
    rfl
  . have hn:0 < x.n:=by
      rcases Nat.eq_zero_or_pos x.n with c | c
      . exfalso
        have h1:=(okR_dy ok).1
        rw [c] at h1
        exact k_ne (pw_pos 0) h0 (hV ▸ h1.eq_zero.2 rfl)
      . exact c
    obtain ⟨r,e,hr,r0,hp⟩:=ip_form h h0
    obtain ⟨s0,left,hR,hf⟩:=to_all ok hn
    have hy:=(okR_dy ok).1
    have hval:=hy.val
    rw [hV] at hval
    have hq:=pw_pos 0
    have hpe:=pw_pos x.e
    have hm:0 < val x.d x.n:=by
      rcases hy.form with c | c
      . exfalso; exact k_ne hq h0 (by rw [hval,c.1,sg_zero,Int.zero_mul])
      . exact c.1
    have ng:x.ng=decide (n < 0):=by
      have:=hy.neg_iff
      rw [hV] at this
      have e2:decide (n * pw 0 < 0)=decide (n < 0):=k_neg hq
      cases g:x.ng
      . rw [g] at this
        rw [<- e2]
        symm
        exact decide_eq_false fun c=>by have:=this.2 c; cases this
      . rw [g] at this
        rw [<- e2]
        symm
        exact decide_eq_true (this.1 rfl)
    have eA:val x.d x.n * pw x.e=(n.natAbs:Int) * pw 0:=by
      rw [ng] at hval
      have h2:=sg_abs n (pw 0)
      rw [<- h2] at hval
      have h3:sg (decide (n < 0)) ((n.natAbs:Int) * pw 0)=sg (decide (n < 0)) (val x.d x.n * pw x.e):=by
        rw [hval,sg_sgn,sg_sgn _ (val x.d x.n * pw x.e),Int.mul_assoc]
      exact (sg_inj h3).symm
    rw [eA,e] at hR
    obtain ⟨rfl,rfl⟩:=hR.unique (rung_self r)
    rw [hf 0,hp,ng,rTo_0 _ hr]
    show patS (decide (n < 0) && decide ((0:Int) < (s0:Int))) (s0:Int)=_
    rw [decide_eq_true (show (0:Int) < (s0:Int) by omega),Bool.and_true]
def Gd (p:Int):Prop:=rng p∧cls p ≠ 4
theorem Gd.fw {p:Int} (h:Gd p):FW p (wd p):=FW.pat h.2 h.1
theorem gd_sum {p q s:Int} (hp:Gd p) (hq:Gd q) (hs:Gd s) (h:fsum p q=s) (w:World):(binOp .add 45 (.float .f64 (wd p)) (.float .f64 (wd q))).run Tryz.prog w=.ok (.float .f64 (wd s)) w:=by
  subst h
  exact run_sumN _ hp.fw hq.fw hs.2 w
theorem gd_zero:Gd 0:=⟨by unfold rng; decide,by decide⟩
theorem wd_005:wd 0=0:=by decide
theorem gd_of {p:Int} (h:Gd p) (w:World):Calls Tryz.prog 28 #[.float .f64 (wd p)] w fun e w'=>e=.returned (.int .i64 p)∧w'=w:=of_FW h.fw w
set_option maxRecDepth 100000 in
set_option maxHeartbeats 4000000 in
theorem left_seq {ao:Option Addr} {n ca:Nat} {a S:Nat->Int} (w:World) (ha:Row w ao n ca a) (fa:∀ i,i < n->Gd (a i)) (s0:S 0=0) (gS:∀ k,k <= n->Gd (S k)) (hS:∀ k,k < n->fsum (S k) (a k)=S (k + 1)) :
    Calls Tryz.prog 35 #[.agg #[.func (.func 29) #[] #[],.func (.func 28) #[] #[],.func (.func 43) #[] #[],.func (.func 53) #[] #[]],.slice ao n ca] w fun r w'=>r=.returned (.int .i64 (S n))∧Below w.heap.size w w':=by
  have hst:∀ p F c m w,(store p (.func (.func F) #[] c) m).run Tryz.prog w=stored Tryz.prog w p (.func (.func F) #[] c) m:=fun p F c m w=>run_store _ w p _ m rfl
  have hE:∀ (cap:Array Value) (w:World),(callFunc 29 cap).run Tryz.prog w=.ok (.enter 29 cap) w:=by intro cap w; simp [go_sem]
  have hE2:∀ (cap:Array Value) (w:World),(callFunc 28 cap).run Tryz.prog w=.ok (.enter 28 cap) w:=by intro cap w; simp [go_sem]
  have hla:=ha.le
  have hma:=ha.max
  have hbA:=bel_alloc w (.cells #[.func (.func 29) #[] #[],.func (.func 28) #[] #[],.func (.func 43) #[] #[],.func (.func 53) #[] #[]] 50)
  have gA:=heap_a1 w (.cells #[.func (.func 29) #[] #[],.func (.func 28) #[] #[],.func (.func 43) #[] #[],.func (.func 53) #[] #[]] 50)
  go_enter Tryz.func35,Tryz.ntmps35
  go_wp2_with fail
  generalize w.alloc (.cells #[.func (.func 29) #[] #[],.func (.func 28) #[] #[],.func (.func 43) #[] #[],.func (.func 53) #[] #[]] 50)=wa at hbA gA ⊢
  go_loopw [5,9] (fun sv iv wr=>∃ k:Nat,k <= n∧iv=.int .i64 k∧sv=.float .f64 (wd (S k))∧Below wa.heap.size wa wr) (fun _ iv _=>n - (intOf iv).toNat)
  case atStart=>exact ⟨0,Nat.zero_le _,rfl,by rw [s0,wd_005],bel_refl _⟩
  case round=>
    obtain ⟨k,hk,rfl,rfl,hbw⟩:=hrel
    have hbq:=bel_trans hbA hbw
    have CF:=q_cell (blkC gA 0 rfl) hbw
    have CO:=q_cell (blkC gA 1 rfl) hbw
    by_cases hlt:k < n
    . have i0:(0:Int) <= (k:Int):=by omega
      have i1:(k:Int) < (n:Int):=by omega
      obtain ⟨ba,oa,rfl,hba,hca⟩:=ha.spot (by omega)
      have A0:=q_cell (hca k hlt) hbq
      have C1:Hid (∀ W,Calls Tryz.prog 29 #[.int .i64 (a k)] W fun e w'=>e=.returned (.float .f64 (wd (a k)))∧w'=W):=fun W=>bitsFloat _ W
      have hadd:=gd_sum (gS k hk) (fa k hlt) (gS (k + 1) hlt) (hS k hlt)
      generalize hz:wd (S (k + 1))=Z at hadd
      have HZ:=hideIt hz
      clear hz
      generalize wd (S k)=X at *
      generalize wd (a k)=Y at *
      generalize a k=y at *
      clear CO hca
      go_wp2_with fail
      go_quiet ((go_at_call 29; with_reducible exact Calls.quiet_of_same (C1.out _)))
      go_wp2
      go_roundw
      case rel=>exact ⟨k + 1,hlt,by go_num,by rw [HZ.out],bDrewN hbw nq⟩
      case measure=>simp [intOf]; omega
    . obtain rfl:k=n:=by omega
      have j0:¬ (k:Int) < (k:Int):=by omega
      have C2:=hideIt (gd_of (gS k hk))
      clear CF
      generalize wd (S k)=X at *
      go_wp2_with fail
      refine (C2.out _).mono ?_
      rintro _ _ ⟨rfl,rfl⟩
      go_wp2
      go_ret
      exact ⟨rfl,hbq⟩
set_option maxRecDepth 100000 in
theorem Left_seq {ao:Option Addr} {n ca:Nat} {a S:Nat->Int} (w:World) (ha:Row w ao n ca a) (fa:∀ i,i < n->Gd (a i)) (s0:S 0=0) (gS:∀ k,k <= n->Gd (S k)) (hS:∀ k,k < n->fsum (S k) (a k)=S (k + 1)) :
    Calls Tryz.prog 12 #[.slice ao n ca] w fun r w'=>r=.returned (.int .i64 (S n))∧Below w.heap.size w w':=by
  have C2:Hid (∀ W,Below w.heap.size w W->Calls Tryz.prog 35 #[.agg #[.func (.func 29) #[] #[],.func (.func 28) #[] #[],.func (.func 43) #[] #[],.func (.func 53) #[] #[]],.slice ao n ca] W fun r w'=>r=.returned (.int .i64 (S n))∧Below W.heap.size W w'):=fun W h=>left_seq W (ha.keeps h) fa s0 gS hS
  clear ha fa s0 gS hS
  generalize S n=y at *
  go_enter Tryz.func12,Tryz.ntmps12
  go_wp2_with fail
  refine (binary64F _).mono ?_
  rintro _ y1 ⟨rfl,hw1⟩
  go_wp2_with fail
  refine (C2.out _ hw1).mono ?_
  rintro _ y2 ⟨rfl,hw2⟩
  go_wp2
  go_ret
  exact ⟨rfl,bel_trans hw1 hw2⟩
theorem sumF_bd {z:Nat->Int} {M:Int}:∀ n:Nat,(∀ i,i < n->-M <= z i∧z i <= M)->-(n * M) <= sumF z n∧sumF z n <= n * M
  | 0,_=>by simp [sumF]
  | n + 1,h=>by
    have a:=sumF_bd n fun i hi=>h i (by omega)
    have b:=h n (by omega)
    show -(((n + 1:Nat):Int) * M) <= sumF z n + z n∧sumF z n + z n <= ((n + 1:Nat):Int) * M
    rw [show ((n + 1:Nat):Int) * M=(n:Int) * M + M by rw [Int.natCast_add,Int.add_mul]; simp]
    omega
theorem sumF_split (z:Nat->Int) (h:Nat):∀ m,sumF z (h + m)=sumF z h + sumF (fun i=>z (h + i)) m
  | 0=>by show sumF z h=_ + 0; rw [Int.add_zero]
  | m + 1=>by
    show sumF z (h + m) + z (h + m)=_ + (sumF (fun i=>z (h + i)) m + z (h + m))
    rw [sumF_split z h m]; omega
set_option maxRecDepth 100000 in
set_option maxHeartbeats 4000000 in
theorem halves_ip (M:Int) (hM0:0 <= M):∀ (n:Nat) (ao:Option Addr) (ca:Nat) (a z:Nat->Int) (w:World),Row w ao n ca a->(∀ i,i < n->a i=ipP (z i))->(∀ i,i < n->-M <= z i∧z i <= M)->(n:Int) * M < 9007199254740992->M < 9007199254740992 ->
    Calls Tryz.prog 36 #[.slice ao n ca] w fun r w'=>r=.returned (.float .f64 (wd (ipP (sumF z n))))∧∃ m,w'=w.drewN m:=by
  intro n
  induction n using Nat.strongRecOn with
  | ind n ih=>
    intro ao ca a z w R ha hz hn hM
    have hla:=R.le
    have hma:=R.max
    by_cases h0:n=0
    . subst h0
      have e:wd (ipP (sumF z 0))=0:=by show wd (ipP 0)=0; decide
      rw [e]
      go_enter Tryz.func36,Tryz.ntmps36
      go_wp2
      go_ret
      exact ⟨rfl,0,rfl⟩
    . by_cases h1:n=1
      . subst h1
        have e:sumF z 1=z 0:=by show 0 + z 0=z 0; omega
        have s0:Sm (z 0):=by have:=hz 0 (by omega); unfold Sm; omega
        have r1:=gd_sum (p:=ipP (z 0)) (q:=0) (s:=ipP (z 0)) ⟨(ip_facts s0).1,ip_cls s0⟩ gd_zero ⟨(ip_facts s0).1,ip_cls s0⟩ (by have:=ip_sum (z:=z 0) (y:=0) s0 (by unfold Sm; omega); rw [Int.add_zero] at this; exact this)
        rw [wd_005] at r1
        obtain ⟨ba,oa,rfl,hba,hca⟩:=R.spot (by omega)
        have A0:=hca 0 (by omega)
        rw [ha 0 (by omega),Nat.add_zero] at A0
        have C1:Hid (∀ W,Calls Tryz.prog 29 #[.int .i64 (ipP (z 0))] W fun e w'=>e=.returned (.float .f64 (wd (ipP (z 0))))∧w'=W):=fun W=>bitsFloat _ W
        rw [e]
        generalize wd (ipP (z 0))=X at *
        generalize ipP (z 0)=Y at *
        clear hca
        go_enter Tryz.func36,Tryz.ntmps36
        go_wp2_with fail
        refine (C1.out _).mono ?_
        rintro _ _ ⟨rfl,rfl⟩
        go_wp2
        go_ret
        exact ⟨rfl,0,rfl⟩
      . obtain ⟨h,hh⟩:∃ h:Nat,h=n / 2:=⟨_,rfl⟩
        obtain ⟨m,hm⟩:∃ m:Nat,m=n - h:=⟨_,rfl⟩
        obtain ⟨ba,oa,rfl,hba,hca⟩:=R.spot (by omega)
        have nM:∀ k:Nat,k <= n->(k:Int) * M < 9007199254740992:=fun k hk=>Int.lt_of_le_of_lt (Int.mul_le_mul_of_nonneg_right (by omega) hM0) hn
        have R1:Row w (some ⟨ba,oa,none⟩) h ca a:=⟨by omega,hma,(fun e=>by cases e),fun _=>⟨ba,oa,rfl,hba,fun i hi=>hca i (by omega)⟩⟩
        have R2:Row w (some ⟨ba,oa + h,none⟩) m (ca - h) (fun i=>a (h + i)):=⟨by omega,by omega,(fun e=>by cases e),fun _=>⟨ba,oa + h,rfl,hba,fun i hi=>by rw [Nat.add_assoc]; exact hca (h + i) (by omega)⟩⟩
        have C1:Hid (∀ nq,Calls Tryz.prog 36 #[.slice (some ⟨ba,oa,none⟩) h ca] (w.drewN nq) fun e w'=>e=.returned (.float .f64 (wd (ipP (sumF z h))))∧∃ k,w'=(w.drewN nq).drewN k):=fun nq=>ih h (by omega) _ _ a z _ (R1.keeps (bDrewN (bel_refl w) nq)) (fun i hi=>ha i (by omega)) (fun i hi=>hz i (by omega)) (nM h (by omega)) hM
        have C2:Hid (∀ nq,Calls Tryz.prog 36 #[.slice (some ⟨ba,oa + h,none⟩) m (ca - h)] (w.drewN nq) fun e w'=>e=.returned (.float .f64 (wd (ipP (sumF (fun i=>z (h + i)) m))))∧∃ k,w'=(w.drewN nq).drewN k):=fun nq=>ih m (by omega) _ _ (fun i=>a (h + i)) (fun i=>z (h + i)) _ (R2.keeps (bDrewN (bel_refl w) nq)) (fun i hi=>ha (h + i) (by omega)) (fun i hi=>hz (h + i) (by omega)) (nM m (by omega)) hM
        have b1:=sumF_bd h fun i hi=>hz i (by omega)
        have b2:=sumF_bd (z:=fun i=>z (h + i)) m fun i hi=>hz (h + i) (by omega)
        have b3:=nM h (by omega)
        have b4:=nM m (by omega)
        have s1:Sm (sumF z h):=by unfold Sm; omega
        have s2:Sm (sumF (fun i=>z (h + i)) m):=by unfold Sm; omega
        have e:sumF z n=sumF z h + sumF (fun i=>z (h + i)) m:=by rw [<- sumF_split z h m,hm,show h + (n - h)=n by omega]
        have b5:=sumF_bd n hz
        have s3:Sm (sumF z n):=by unfold Sm; omega
        have r1:=gd_sum ⟨(ip_facts s1).1,ip_cls s1⟩ ⟨(ip_facts s2).1,ip_cls s2⟩ ⟨(ip_facts s3).1,ip_cls s3⟩ (by rw [e]; exact ip_sum s1 s2)
        clear e s1 s2 s3 b1 b2 b3 b4 b5 nM R1 R2 hca ih ha hz hM0 hM R
        generalize wd (ipP (sumF z n))=X3 at *
        generalize wd (ipP (sumF z h))=X1 at *
        generalize wd (ipP (sumF (fun i=>z (h + i)) m))=X2 at *
        have i0:¬ (n:Int)=0:=by omega
        have i1:¬ (n:Int)=1:=by omega
        have i2:(n:Int) / 2=(h:Int):=by omega
        have i3:(n:Int).tdiv 2=(h:Int):=by rw [Int.tdiv_eq_ediv_of_nonneg (by omega)]; omega
        have i4:(0:Int) <= (h:Int):=by omega
        have i5:(h:Int) <= (n:Int):=by omega
        have i6:(h:Int) <= (ca:Int):=by omega
        have i7:n - h=m:=by omega
        clear hh hm h0 h1 hn
        go_enter Tryz.func36,Tryz.ntmps36
        go_wp2_with fail
        go_quiet (first | (go_at_call 36; with_reducible exact Calls.quiet_of (C1.out _)) | (go_at_call 36; with_reducible exact Calls.quiet_of (C2.out _)))
        go_wp2
        go_ret
        exact ⟨rfl,nq,rfl⟩
set_option maxRecDepth 100000 in
theorem Pairs_ip {n ca:Nat} {ao:Option Addr} {a z:Nat->Int} {M:Int} (hM0:0 <= M) (hM:M < 9007199254740992) (w:World) (R:Row w ao n ca a) (ha:∀ i,i < n->a i=ipP (z i)) (hz:∀ i,i < n->-M <= z i∧z i <= M) (hn:(n:Int) * M < 9007199254740992) :
    Calls Tryz.prog 14 #[.slice ao n ca] w fun r w'=>r=.returned (.int .i64 (ipP (sumF z n)))∧Below w.heap.size w w':=by
  have b:=sumF_bd n hz
  have s:Sm (sumF z n):=by unfold Sm; omega
  have C1:=hideIt (halves_ip M hM0 n ao ca a z w R ha hz hn hM)
  have C2:=hideIt (gd_of ⟨(ip_facts s).1,ip_cls s⟩)
  clear R ha hz hn b s
  generalize wd (ipP (sumF z n))=X at *
  generalize ipP (sumF z n)=Y at *
  go_enter Tryz.func14,Tryz.ntmps14
  go_wp2_with fail
  refine C1.out.mono ?_
  rintro _ _ ⟨rfl,m,rfl⟩
  go_wp2_with fail
  refine (C2.out _).mono ?_
  rintro _ _ ⟨rfl,rfl⟩
  go_wp2
  go_ret
  exact ⟨rfl,bDrewN (bel_refl _) m⟩
theorem ip_gd {z:Int} (h:Sm z):Gd (ipP z):=⟨(ip_facts h).1,ip_cls h⟩
theorem sm_sub {z:Nat->Int} {M:Int} {n:Nat} (hM0:0 <= M) (hz:∀ i,i < n->-M <= z i∧z i <= M) (hn:(n:Int) * M < 9007199254740992) {k:Nat} (hk:k <= n):Sm (sumF z k):=by
  have b:=sumF_bd k fun i hi=>hz i (by omega)
  have c:(k:Int) * M <= (n:Int) * M:=Int.mul_le_mul_of_nonneg_right (by omega) hM0
  unfold Sm
  omega
theorem ip_zero:ipP 0=0:=by unfold ipP; simp
structure IpL (w:World) (ao:Option Addr) (n ca:Nat) (z:Nat->Int) (M:Int):Prop where
  row:Row w ao n ca (fun i=>ipP (z i))
  m0:0 <= M
  mx:M < 9007199254740992
  bd:∀ i,i < n->-M <= z i∧z i <= M
  tot:(n:Int) * M < 9007199254740992
theorem IpL.sm {w:World} {ao:Option Addr} {n ca:Nat} {z:Nat->Int} {M:Int} (h:IpL w ao n ca z M) {k:Nat} (hk:k <= n):Sm (sumF z k):=sm_sub h.m0 h.bd h.tot hk
theorem IpL.one {w:World} {ao:Option Addr} {n ca:Nat} {z:Nat->Int} {M:Int} (h:IpL w ao n ca z M) {k:Nat} (hk:k < n):Sm (z k):=by
  have:=h.bd k hk
  have:=h.mx
  unfold Sm
  omega
theorem IpL.keeps {w w':World} {ao:Option Addr} {n ca:Nat} {z:Nat->Int} {M:Int} (h:IpL w ao n ca z M) (hb:Below w.heap.size w w'):IpL w' ao n ca z M:=⟨h.row.keeps hb,h.m0,h.mx,h.bd,h.tot⟩
theorem Left_ip {w:World} {ao:Option Addr} {n ca:Nat} {z:Nat->Int} {M:Int} (h:IpL w ao n ca z M) :
    Calls Tryz.prog 12 #[.slice ao n ca] w fun r w'=>r=.returned (.int .i64 (ipP (sumF z n)))∧Below w.heap.size w w' :=
  Left_seq (S:=fun k=>ipP (sumF z k)) w h.row (fun i hi=>ip_gd (h.one hi)) ip_zero (fun k hk=>ip_gd (h.sm hk)) (fun k hk=>ip_sum (h.sm (by omega)) (h.one hk))
theorem sm5_ip (z:Nat->Int) (n:Nat) (h:∀ i,i < n->Sm (z i)):sm5 (fun i=>ipP (z i)) n=sumF z n * pw 0:=by
  unfold sm5
  rw [sumF_congr (W:=fun i=>z i * pw 0) n fun i hi=>(ip_facts (h i hi)).2.2.1]
  exact sumF_mul z (pw 0) n
theorem Sum_ip {w:World} {ao:Option Addr} {n ca:Nat} {z:Nat->Int} {M:Int} (h:IpL w ao n ca z M) (hn:n <= 4096) (H:Hold4 w) :
    Calls Tryz.prog 10 #[.slice ao n ca,.int .i64 0] w fun r w'=>r=.returned (.tuple #[.int .i64 (ipP (sumF z n)),.int .i64 0])∧Below w.heap.size w w':=by
  refine (Sum5 0 ⟨by omega,by omega⟩ w h.row (fun i hi=>⟨(ip_facts (h.one hi)).1,(ip_facts (h.one hi)).2.1⟩) hn H).mono ?_
  rintro _ w' ⟨p,rfl,hp,hb⟩
  rw [sm5_ip z n fun i hi=>h.one hi] at hp
  rw [ip_rd (h.sm (Nat.le_refl _)) hp]
  exact ⟨rfl,hb⟩
theorem From_ip {n:Int} (h:Sm n) (w:World) (H:Hold4 w) :
    Calls Tryz.prog 23 #[.int .i64 n,.int .i64 0] w fun r w'=>r=.returned (.tuple #[.int .i64 (ipP n),.int .i64 0])∧Below w.heap.size w w':=by
  have:=fromInt_ok n 0 (by unfold Sm at h; unfold rng; omega) ⟨by omega,by omega⟩ w H
  rw [ip_from h] at this
  exact this
set_option maxRecDepth 100000 in
set_option maxHeartbeats 4000000 in
theorem rroot_any (p:Nat) (x:NumR) (w:World) (s:Int) (hg:w.heap[p]?=some (.cells #[.bool x.ng,.slice x.ao x.n x.cap,.int .i64 x.e] 79 (0,0))) (rx:Row w x.ao x.n x.cap x.d) (ok:okR x=true) (hng:x.ng=false) (hs:IsRoot (scV (val x.d x.n) (tK (val x.d x.n) x.e)) s) (hT:Tab w) :
    Calls Tryz.prog 55 #[.slice (some ⟨p,0,none⟩) 1 1] w fun r w'=>r=.returned (.tuple #[valV false s.toNat ((x.e - tK (val x.d x.n) x.e) / 2) (scC (val x.d x.n) (tK (val x.d x.n) x.e) || decide (scV (val x.d x.n) (tK (val x.d x.n) x.e) - s * s ≠ 0)) false,.int .i64 0])∧Below w.heap.size w w':=by
  obtain ⟨x_g,x_o,x_n,x_c,x_d,x_e⟩:=x
  obtain ⟨na,hn,ea0,ea1⟩:=okR_sane ok
  simp only at *
  subst hng
  have hA0:=val_nonneg na.1
  have hAl:=blen_nrm na
  obtain ⟨k1,k2,k3⟩:=tK_in (M:=val x_d x_n) (e:=x_e)
  have hhigh:=scV_high hA0 (n:=124) (k:=tK (val x_d x_n) x_e) (by omega)
  have hsm:=root_small hs hhigh.2
  have hs0:=hs.1
  have CBa:Hid (∀ W,Below w.heap.size w W->_):=fun W hb=>bitLength_any x_o x_n x_c x_d W (rx.keeps hb) na (by omega)
  obtain ⟨KQ,hK⟩:∃ K,tK (val x_d x_n) x_e=K:=⟨_,rfl⟩
  have hqk:tK (val x_d x_n) x_e=124 - (blen (val x_d x_n):Int) - (x_e - (124 - (blen (val x_d x_n):Int))) % 2:=rfl
  rw [hK] at hs hhigh k1 k2 k3 hqk ⊢
  have CSc:Hid (∀ W,Below w.heap.size w W->_):=fun W hb=>scaled_any x_o x_n x_c x_d KQ W (rx.keeps hb) na hn (by omega) (fun h=>by
    rcases Int.lt_or_eq_of_le hA0 with h1 | h1
    . exact h1
    . exfalso; rw [<- h1,blen_zero] at k1; omega) (hT.keeps hb)
  obtain ⟨cutb,hC0⟩:∃ c,scC (val x_d x_n) KQ=c:=⟨_,rfl⟩
  rw [hC0] at CSc ⊢
  obtain ⟨SV,hSV⟩:∃ S,scV (val x_d x_n) KQ=S:=⟨_,rfl⟩
  rw [hSV] at CSc hs hhigh ⊢
  have hSl:SV < P 2000:=Int.lt_of_lt_of_le hhigh.2 (by
    have e:(2:Int) ^ 124 <= P 5:=by unfold P; decide
    exact Int.le_trans e (P_le (by decide)))
  have CRt:Hid (∀ (W:World) so sn sc,Num W (.slice so sn sc) SV->Calls Tryz.prog 85 #[.slice so sn sc] W fun e w'=>∃ v1 v2,e=.returned (.tuple #[v1,v2,.int .i64 0])∧Ans2 W w' s v1 (SV - s * s) v2):=fun W so sn sc hN=>by
    refine (root_num hN hSl).mono ?_
    rintro _ w' ⟨v1,v2,rfl,t,ht,hA⟩
    obtain rfl:=isRoot_unique ht hs
    exact ⟨v1,v2,rfl,hA⟩
  obtain ⟨Q,hQ⟩:∃ Q:Nat,s=(Q:Int):=Int.eq_ofNat_of_zero_le hs0
  subst hQ
  rw [Int.toNat_natCast]
  have CM:Hid (∀ (W':World) so sn sc,Num W' (.slice so sn sc) (Q:Int)->Calls Tryz.prog 86 #[.slice so sn sc] W' fun e w'=>e=.returned (.int .i64 (Q:Int))∧w'=W'):=fun W' so sn sc hA=>by
    obtain ⟨ao',n',ca',d',hs,hR,hN,hV,hl⟩:=hA.parts (k:=3) (by rw [show P 3=1237940039285380274899124224 by decide]; omega)
    simp only [Value.slice.injEq] at hs
    obtain ⟨rfl,rfl,rfl⟩:=hs
    rw [<- hV]
    exact small_any _ _ _ _ _ hR hN.1 hl (by omega)
  obtain ⟨M,hM⟩:∃ M,SV - (Q:Int) * (Q:Int)=M:=⟨_,rfl⟩
  rw [hM] at CRt ⊢
  obtain ⟨BA,hBA⟩:∃ B:Int,(blen (val x_d x_n):Int)=B:=⟨_,rfl⟩
  rw [hBA] at CBa hqk k1 k2
  have hBl:0 <= BA∧BA <= 150000:=by omega
  have w1':IntKind.i64.wrap (124 - BA)=124 - BA:=by rw [wrap_i64_eq]; omega
  have w2':IntKind.i64.wrap (x_e - (124 - BA))=x_e - (124 - BA):=by rw [wrap_i64_eq]; omega
  have w3':bits .and .i64 (x_e - (124 - BA)) 1=(x_e - (124 - BA)) % 2:=and_one _
  have w4':IntKind.i64.wrap (124 - BA - (x_e - (124 - BA)) % 2)=KQ:=by rw [wrap_i64_eq]; omega
  have w5':IntKind.u64.wrap (Q:Int)=(Q:Int):=by rw [IntKind.wrap_u64]; omega
  have w6':IntKind.i64.wrap (x_e - KQ)=x_e - KQ:=by rw [wrap_i64_eq]; omega
  obtain ⟨E,hE⟩:∃ E,(x_e - KQ) / 2=E:=⟨_,rfl⟩
  have w7':(x_e - KQ).tdiv 2=E:=by
    obtain ⟨t,ht⟩:∃ t,x_e - KQ=2 * t:=⟨(x_e - KQ) / 2,by omega⟩
    rw [ht] at hE ⊢
    rw [Int.mul_tdiv_cancel_left _ (by decide)]
    omega
  have w8':IntKind.i64.wrap E=E:=by rw [wrap_i64_eq]; omega
  rw [hE]
  clear hqk hBA hM hSV hC0 hK hsm hSl hAl hA0 ok hT hhigh k1 k2 k3 hs hs0 hE hBl
  unfold valV
  have hb1:=bel_alloc w (.cells #[.bool false,.int .u64 0,.int .i64 0,.bool false,.bool false] 65)
  have l0:=cell_keeps (blkC hg 0 rfl) hb1
  have l1:=cell_keeps (blkC hg 1 rfl) hb1
  have l2:=cell_keeps (blkC hg 2 rfl) hb1
  have hb2:=bel_alloc2 w (.cells #[.bool false,.int .u64 0,.int .i64 0,.bool false,.bool false] 65) (.cells #[.bool false,.slice x_o x_n x_c,.int .i64 x_e] 79)
  have A_K:=heap_b2 w (.cells #[.bool false,.int .u64 0,.int .i64 0,.bool false,.bool false] 65) (.cells #[.bool false,.slice x_o x_n x_c,.int .i64 x_e] 79)
  have R_K:=heap_a2 w (.cells #[.bool false,.int .u64 0,.int .i64 0,.bool false,.bool false] 65) (.cells #[.bool false,.slice x_o x_n x_c,.int .i64 x_e] 79)
  have a0:=blkC A_K 0 rfl
  have a1:=blkC A_K 1 rfl
  go_enter Tryz.func55,Tryz.ntmps55
  go_wp2_with fail
  clear l0 l1 l2 a0 a1 hb1
  generalize (w.alloc (.cells #[.bool false,.int .u64 0,.int .i64 0,.bool false,.bool false] 65)).alloc (.cells #[.bool false,.slice x_o x_n x_c,.int .i64 x_e] 79)=w2 at hb2 A_K R_K ⊢
  refine (CBa.out _ hb2).mono ?_
  rintro _ _ ⟨rfl,rfl⟩
  have a1:=blkC A_K 1 rfl
  have a2:=blkC A_K 2 rfl
  go_wp2_with fail
  refine (CSc.out _ hb2).mono ?_
  rintro _ w3 ⟨v3,rfl,hA3⟩
  have hb3:=hA3.below
  have hbw3:=bel_trans hb2 hb3
  obtain ⟨so,sn,sc,rfl⟩:=hA3.num.shape
  have CR1:=CRt.out w3 so sn sc hA3.num
  have A_3:=(hb3.block _ (Array.getElem?_eq_some_iff.1 A_K).1).trans A_K
  have R_3:=(hb3.block _ (Array.getElem?_eq_some_iff.1 R_K).1).trans R_K
  clear hA3 CSc CRt A_K R_K a1 a2 hb3 CBa
  go_wp2_with fail
  refine CR1.mono ?_
  rintro _ w4 ⟨v1,v2,rfl,hA1,hA2,_⟩
  have hb4:=hA1.below
  have hbw4:=bel_trans hbw3 hb4
  obtain ⟨qo,qn,qc,rfl⟩:=hA1.num.shape
  obtain ⟨lo,ln,lc,rfl⟩:=hA2.num.shape
  have hln:=num_len0 hA2.num
  have CM1:Hid (Calls Tryz.prog 86 #[.slice qo qn qc] w4.drew fun e w'=>e=.returned (.int .i64 (Q:Int))∧w'=w4.drew):=CM.out w4.drew qo qn qc (hA1.num.keeps (bel_refl w4).drew)
  have A_4:=(hb4.block _ (Array.getElem?_eq_some_iff.1 A_3).1).trans A_3
  have R_4:=(hb4.block _ (Array.getElem?_eq_some_iff.1 R_3).1).trans R_3
  clear hA1 hA2 CR1 A_3 R_3 hb4 CM
  have a0:=blkC A_4 0 rfl
  have a2:=blkC A_4 2 rfl
  have x0:=blkC R_4 0 rfl
  have x1:=blkC R_4 1 rfl
  have x2:=blkC R_4 2 rfl
  have x3:=blkC R_4 3 rfl
  have x4:=blkC R_4 4 rfl
  have z0:=blkF R_4 0
  have z1:=blkF R_4 1
  have z2:=blkF R_4 2
  have z3:=blkF R_4 3
  have z4:=blkF R_4 4
  have s1:w.heap.size + 1 ≠ w.heap.size:=by omega
  go_wp2_with fail
  cases cutb
  . have kc0:w4.drew.cell? ⟨w.heap.size + 1,0,none⟩=some (.bool false)∧w4.drew.cell? ⟨w.heap.size + 1,2,none⟩=some (.int .i64 x_e)∧w4.drew.cell? ⟨w.heap.size + 1,0,none⟩=some (.bool false)∧w4.drew.cell? ⟨w.heap.size + 1,2,none⟩=some (.int .i64 x_e):=⟨a0,a2,a0,a2⟩
    refine wp_region_held_drew (S:=fun W=>W.cell? ⟨w.heap.size + 1,0,none⟩=some (.bool false)∧W.cell? ⟨w.heap.size + 1,2,none⟩=some (.int .i64 x_e)∧W.cell? ⟨w.heap.size + 1,0,none⟩=some (.bool false)∧W.cell? ⟨w.heap.size + 1,2,none⟩=some (.int .i64 x_e)) (by kernel_rfl) kc0 (fun hHeld0=>?_)
    refine wpAnyH_take (i:=0) (v:=?_) rfl (by kernel_rfl) (by kernel_rfl) (by kernel_rfl) (fun _ _ _ h=>h) (Or.inl ⟨by kernel_rfl,?_⟩) (by assumption) ?_
    rotate_left
    . intro w hSw; (try dsimp only at hSw); go_simp; first | done | with_reducible rfl
    simp only [Act.put,List.setIfInBounds_toArray,List.set_cons_zero,List.set_cons_succ,List.getElem_toArray,List.getElem_cons_zero,List.getElem_cons_succ]
    refine wpAnyH_take (i:=3) (v:=?_) rfl (by kernel_rfl) (by kernel_rfl) (by kernel_rfl) (fun _ _ _ h=>h) (Or.inl ⟨by kernel_rfl,?_⟩) (by assumption) ?_
    rotate_left
    . intro w hSw; (try dsimp only at hSw); go_simp; first | done | with_reducible rfl
    simp only [Act.put,List.setIfInBounds_toArray,List.set_cons_zero,List.set_cons_succ,List.getElem_toArray,List.getElem_cons_zero,List.getElem_cons_succ]
    refine wpAnyH_take (i:=4) (v:=?_) rfl (by kernel_rfl) (by kernel_rfl) (by kernel_rfl) (fun _ _ _ h=>h) (Or.inl ⟨by kernel_rfl,?_⟩) (by assumption) ?_
    rotate_left
    . intro w hSw; (try dsimp only at hSw); go_simp; first | done | with_reducible rfl
    simp only [Act.put,List.setIfInBounds_toArray,List.set_cons_zero,List.set_cons_succ,List.getElem_toArray,List.getElem_cons_zero,List.getElem_cons_succ]
    refine wpAnyH_take (i:=5) (v:=?_) rfl (by kernel_rfl) (by kernel_rfl) (by kernel_rfl) (fun _ _ _ h=>h) (Or.inl ⟨by kernel_rfl,?_⟩) (by assumption) ?_
    rotate_left
    . intro w hSw; (try dsimp only at hSw); go_simp; first | done | with_reducible rfl
    simp only [Act.put,List.setIfInBounds_toArray,List.set_cons_zero,List.set_cons_succ,List.getElem_toArray,List.getElem_cons_zero,List.getElem_cons_succ]
    refine wpAnyH_take (i:=6) (v:=?_) rfl (by kernel_rfl) (by kernel_rfl) (by kernel_rfl) (fun _ _ _ h=>h) (Or.inl ⟨by kernel_rfl,?_⟩) (by assumption) ?_
    rotate_left
    . intro w hSw; (try dsimp only at hSw); go_simp; first | done | with_reducible rfl
    simp only [Act.put,List.setIfInBounds_toArray,List.set_cons_zero,List.set_cons_succ,List.getElem_toArray,List.getElem_cons_zero,List.getElem_cons_succ]
    refine wpAnyH_take (i:=7) (v:=?_) rfl (by kernel_rfl) (by kernel_rfl) (by kernel_rfl) (fun _ _ _ h=>h) (Or.inl ⟨by kernel_rfl,?_⟩) (by assumption) ?_
    rotate_left
    . intro w hSw; (try dsimp only at hSw); go_simp; first | done | with_reducible rfl
    simp only [Act.put,List.setIfInBounds_toArray,List.set_cons_zero,List.set_cons_succ,List.getElem_toArray,List.getElem_cons_zero,List.getElem_cons_succ]
    refine wpAnyH_take (i:=8) (v:=?_) rfl (by kernel_rfl) (by kernel_rfl) (by kernel_rfl) (fun _ _ _ h=>h) (Or.inl ⟨by kernel_rfl,?_⟩) (by assumption) ?_
    rotate_left
    . intro w hSw; (try dsimp only at hSw); go_simp; first | done | with_reducible rfl
    simp only [Act.put,List.setIfInBounds_toArray,List.set_cons_zero,List.set_cons_succ,List.getElem_toArray,List.getElem_cons_zero,List.getElem_cons_succ]
    refine wpAnyH_ready (rs:=[1]) (by kernel_rfl) (by simp) ?_
    refine AllReadyH.cons rfl (fun K hK=>?_) AllReadyH.nil
    go_simp
    refine CM1.out.mono ?_
    rintro _ _ ⟨rfl,rfl⟩
    refine hK.out _ _ kc0 (fun hHeld1=>?_)
    clear hK K
    try simp only [Act.put,List.setIfInBounds_toArray,List.set_cons_zero,List.set_cons_succ,List.getElem_toArray,List.getElem_cons_zero,List.getElem_cons_succ]
    refine wpAnyH_take (i:=2) (v:=?_) rfl (by kernel_rfl) (by kernel_rfl) (by kernel_rfl) (fun _ _ _ h=>h) (Or.inl ⟨by kernel_rfl,?_⟩) (by assumption) ?_
    rotate_left
    . intro w hSw; (try dsimp only at hSw); go_simp; first | done | with_reducible rfl
    simp only [Act.put,List.setIfInBounds_toArray,List.set_cons_zero,List.set_cons_succ,List.getElem_toArray,List.getElem_cons_zero,List.getElem_cons_succ]
    refine wpAnyH_take (i:=9) (v:=?_) rfl (by kernel_rfl) (by kernel_rfl) (by kernel_rfl) (fun _ _ _ h=>h) (Or.inl ⟨by kernel_rfl,?_⟩) (by assumption) ?_
    rotate_left
    . intro w hSw; (try dsimp only at hSw); go_simp; first | done | with_reducible rfl
    simp only [Act.put,List.setIfInBounds_toArray,List.set_cons_zero,List.set_cons_succ,List.getElem_toArray,List.getElem_cons_zero,List.getElem_cons_succ]
    refine wpAnyH_take (i:=10) (v:=?_) rfl (by kernel_rfl) (by kernel_rfl) (by kernel_rfl) (fun _ _ _ h=>h) (Or.inl ⟨by kernel_rfl,?_⟩) (by assumption) ?_
    rotate_left
    . intro w hSw; (try dsimp only at hSw); go_simp; first | done | with_reducible rfl
    simp only [Act.put,List.setIfInBounds_toArray,List.set_cons_zero,List.set_cons_succ,List.getElem_toArray,List.getElem_cons_zero,List.getElem_cons_succ]
    refine wpAnyH_take (i:=11) (v:=?_) rfl (by kernel_rfl) (by kernel_rfl) (by kernel_rfl) (fun _ _ _ h=>h) (Or.inl ⟨by kernel_rfl,?_⟩) (by assumption) ?_
    rotate_left
    . intro w hSw; (try dsimp only at hSw); go_simp; first | done | with_reducible rfl
    simp only [Act.put,List.setIfInBounds_toArray,List.set_cons_zero,List.set_cons_succ,List.getElem_toArray,List.getElem_cons_zero,List.getElem_cons_succ]
    refine wpAnyH_take (i:=12) (v:=?_) rfl (by kernel_rfl) (by kernel_rfl) (by kernel_rfl) (fun _ _ _ h=>h) (Or.inl ⟨by kernel_rfl,?_⟩) (by assumption) ?_
    rotate_left
    . intro w hSw; (try dsimp only at hSw); go_simp; first | done | with_reducible rfl
    simp only [Act.put,List.setIfInBounds_toArray,List.set_cons_zero,List.set_cons_succ,List.getElem_toArray,List.getElem_cons_zero,List.getElem_cons_succ]
    refine wpAnyH_take (i:=13) (v:=?_) rfl (by kernel_rfl) (by kernel_rfl) (by kernel_rfl) (fun _ _ _ h=>h) (Or.inl ⟨by kernel_rfl,?_⟩) (by assumption) ?_
    rotate_left
    . intro w hSw; (try dsimp only at hSw); go_simp; first | done | with_reducible rfl
    simp only [Act.put,List.setIfInBounds_toArray,List.set_cons_zero,List.set_cons_succ,List.getElem_toArray,List.getElem_cons_zero,List.getElem_cons_succ]
    refine wpAnyH_take (i:=14) (v:=?_) rfl (by kernel_rfl) (by kernel_rfl) (by kernel_rfl) (fun _ _ _ h=>h) (Or.inl ⟨by kernel_rfl,?_⟩) (by assumption) ?_
    rotate_left
    . intro w hSw; (try dsimp only at hSw); go_simp; first | done | with_reducible rfl
    simp only [Act.put,List.setIfInBounds_toArray,List.set_cons_zero,List.set_cons_succ,List.getElem_toArray,List.getElem_cons_zero,List.getElem_cons_succ]
    refine wpAnyH_ready (rs:=[15]) (by kernel_rfl) (by simp) ?_
    refine AllReadyH.cons rfl (fun K hK=>?_) AllReadyH.nil
    go_simp
    refine hK.out _ _ ?_ (fun hHeld2=>?_)
    . exact cells4_drew (cells4_set s1 s1 (cells4_set s1 s1 (cells4_set s1 s1 (cells4_set s1 s1 (cells4_set s1 s1 ⟨a0,a2,a0,a2⟩)))))
    clear hK K hHeld0
    try simp only [Act.put,List.setIfInBounds_toArray,List.set_cons_zero,List.set_cons_succ,List.getElem_toArray,List.getElem_cons_zero,List.getElem_cons_succ]
    refine wpAnyH_take (i:=16) (v:=?_) rfl (by kernel_rfl) (by kernel_rfl) (by kernel_rfl) (fun _ _ _ h=>h) (Or.inl ⟨by kernel_rfl,?_⟩) (by assumption) ?_
    rotate_left
    . intro w hSw; (try dsimp only at hSw); go_simp; first | done | with_reducible rfl
    simp only [Act.put,List.setIfInBounds_toArray,List.set_cons_zero,List.set_cons_succ,List.getElem_toArray,List.getElem_cons_zero,List.getElem_cons_succ]
    refine wpAnyH_done (by kernel_rfl) ?_ _
    go_wp2
    refine bodyPost_ret (v:=.tuple #[.agg #[.bool false,.int .u64 Q,.int .i64 E,.bool (false || decide (M ≠ 0)),.bool false],.int .i64 0]) (by rw [hln]; simp [results,Tryz.results55,go_sem,x0,x1,x2,x3,x4]) rfl ⟨rfl,?_⟩
    exact ((wr5 w4 w.heap.size _ _ _ _ _).below hbw4 hbw4.size (Nat.le_refl _)).drew
  . have kc0:w4.drew.cell? ⟨w.heap.size + 1,0,none⟩=some (.bool false)∧w4.drew.cell? ⟨w.heap.size + 1,2,none⟩=some (.int .i64 x_e)∧w4.drew.cell? ⟨w.heap.size + 1,0,none⟩=some (.bool false)∧w4.drew.cell? ⟨w.heap.size + 1,2,none⟩=some (.int .i64 x_e):=⟨a0,a2,a0,a2⟩
    refine wp_region_held_drew (S:=fun W=>W.cell? ⟨w.heap.size + 1,0,none⟩=some (.bool false)∧W.cell? ⟨w.heap.size + 1,2,none⟩=some (.int .i64 x_e)∧W.cell? ⟨w.heap.size + 1,0,none⟩=some (.bool false)∧W.cell? ⟨w.heap.size + 1,2,none⟩=some (.int .i64 x_e)) (by kernel_rfl) kc0 (fun hHeld0=>?_)
    refine wpAnyH_take (i:=0) (v:=?_) rfl (by kernel_rfl) (by kernel_rfl) (by kernel_rfl) (fun _ _ _ h=>h) (Or.inl ⟨by kernel_rfl,?_⟩) (by assumption) ?_
    rotate_left
    . intro w hSw; (try dsimp only at hSw); go_simp; first | done | with_reducible rfl
    simp only [Act.put,List.setIfInBounds_toArray,List.set_cons_zero,List.set_cons_succ,List.getElem_toArray,List.getElem_cons_zero,List.getElem_cons_succ]
    refine wpAnyH_take (i:=3) (v:=?_) rfl (by kernel_rfl) (by kernel_rfl) (by kernel_rfl) (fun _ _ _ h=>h) (Or.inl ⟨by kernel_rfl,?_⟩) (by assumption) ?_
    rotate_left
    . intro w hSw; (try dsimp only at hSw); go_simp; first | done | with_reducible rfl
    simp only [Act.put,List.setIfInBounds_toArray,List.set_cons_zero,List.set_cons_succ,List.getElem_toArray,List.getElem_cons_zero,List.getElem_cons_succ]
    refine wpAnyH_take (i:=4) (v:=?_) rfl (by kernel_rfl) (by kernel_rfl) (by kernel_rfl) (fun _ _ _ h=>h) (Or.inl ⟨by kernel_rfl,?_⟩) (by assumption) ?_
    rotate_left
    . intro w hSw; (try dsimp only at hSw); go_simp; first | done | with_reducible rfl
    simp only [Act.put,List.setIfInBounds_toArray,List.set_cons_zero,List.set_cons_succ,List.getElem_toArray,List.getElem_cons_zero,List.getElem_cons_succ]
    refine wpAnyH_take (i:=5) (v:=?_) rfl (by kernel_rfl) (by kernel_rfl) (by kernel_rfl) (fun _ _ _ h=>h) (Or.inl ⟨by kernel_rfl,?_⟩) (by assumption) ?_
    rotate_left
    . intro w hSw; (try dsimp only at hSw); go_simp; first | done | with_reducible rfl
    simp only [Act.put,List.setIfInBounds_toArray,List.set_cons_zero,List.set_cons_succ,List.getElem_toArray,List.getElem_cons_zero,List.getElem_cons_succ]
    refine wpAnyH_take (i:=6) (v:=?_) rfl (by kernel_rfl) (by kernel_rfl) (by kernel_rfl) (fun _ _ _ h=>h) (Or.inl ⟨by kernel_rfl,?_⟩) (by assumption) ?_
    rotate_left
    . intro w hSw; (try dsimp only at hSw); go_simp; first | done | with_reducible rfl
    simp only [Act.put,List.setIfInBounds_toArray,List.set_cons_zero,List.set_cons_succ,List.getElem_toArray,List.getElem_cons_zero,List.getElem_cons_succ]
    refine wpAnyH_take (i:=7) (v:=?_) rfl (by kernel_rfl) (by kernel_rfl) (by kernel_rfl) (fun _ _ _ h=>h) (Or.inl ⟨by kernel_rfl,?_⟩) (by assumption) ?_
    rotate_left
    . intro w hSw; (try dsimp only at hSw); go_simp; first | done | with_reducible rfl
    simp only [Act.put,List.setIfInBounds_toArray,List.set_cons_zero,List.set_cons_succ,List.getElem_toArray,List.getElem_cons_zero,List.getElem_cons_succ]
    refine wpAnyH_take (i:=8) (v:=?_) rfl (by kernel_rfl) (by kernel_rfl) (by kernel_rfl) (fun _ _ _ h=>h) (Or.inl ⟨by kernel_rfl,?_⟩) (by assumption) ?_
    rotate_left
    . intro w hSw; (try dsimp only at hSw); go_simp; first | done | with_reducible rfl
    simp only [Act.put,List.setIfInBounds_toArray,List.set_cons_zero,List.set_cons_succ,List.getElem_toArray,List.getElem_cons_zero,List.getElem_cons_succ]
    refine wpAnyH_ready (rs:=[1]) (by kernel_rfl) (by simp) ?_
    refine AllReadyH.cons rfl (fun K hK=>?_) AllReadyH.nil
    go_simp
    refine CM1.out.mono ?_
    rintro _ _ ⟨rfl,rfl⟩
    refine hK.out _ _ kc0 (fun hHeld1=>?_)
    clear hK K
    try simp only [Act.put,List.setIfInBounds_toArray,List.set_cons_zero,List.set_cons_succ,List.getElem_toArray,List.getElem_cons_zero,List.getElem_cons_succ]
    refine wpAnyH_take (i:=2) (v:=?_) rfl (by kernel_rfl) (by kernel_rfl) (by kernel_rfl) (fun _ _ _ h=>h) (Or.inl ⟨by kernel_rfl,?_⟩) (by assumption) ?_
    rotate_left
    . intro w hSw; (try dsimp only at hSw); go_simp; first | done | with_reducible rfl
    simp only [Act.put,List.setIfInBounds_toArray,List.set_cons_zero,List.set_cons_succ,List.getElem_toArray,List.getElem_cons_zero,List.getElem_cons_succ]
    refine wpAnyH_take (i:=9) (v:=?_) rfl (by kernel_rfl) (by kernel_rfl) (by kernel_rfl) (fun _ _ _ h=>h) (Or.inl ⟨by kernel_rfl,?_⟩) (by assumption) ?_
    rotate_left
    . intro w hSw; (try dsimp only at hSw); go_simp; first | done | with_reducible rfl
    simp only [Act.put,List.setIfInBounds_toArray,List.set_cons_zero,List.set_cons_succ,List.getElem_toArray,List.getElem_cons_zero,List.getElem_cons_succ]
    refine wpAnyH_take (i:=10) (v:=undef) rfl (by kernel_rfl) (by kernel_rfl) (by kernel_rfl) (fun _ _ _ h=>h) (Or.inr ⟨by kernel_rfl,rfl⟩) (by assumption) ?_
    simp only [Act.put,List.setIfInBounds_toArray,List.set_cons_zero,List.set_cons_succ,List.getElem_toArray,List.getElem_cons_zero,List.getElem_cons_succ]
    refine wpAnyH_take (i:=11) (v:=undef) rfl (by kernel_rfl) (by kernel_rfl) (by kernel_rfl) (fun _ _ _ h=>h) (Or.inr ⟨by kernel_rfl,rfl⟩) (by assumption) ?_
    simp only [Act.put,List.setIfInBounds_toArray,List.set_cons_zero,List.set_cons_succ,List.getElem_toArray,List.getElem_cons_zero,List.getElem_cons_succ]
    refine wpAnyH_take (i:=12) (v:=undef) rfl (by kernel_rfl) (by kernel_rfl) (by kernel_rfl) (fun _ _ _ h=>h) (Or.inr ⟨by kernel_rfl,rfl⟩) (by assumption) ?_
    simp only [Act.put,List.setIfInBounds_toArray,List.set_cons_zero,List.set_cons_succ,List.getElem_toArray,List.getElem_cons_zero,List.getElem_cons_succ]
    refine wpAnyH_take (i:=13) (v:=?_) rfl (by kernel_rfl) (by kernel_rfl) (by kernel_rfl) (fun _ _ _ h=>h) (Or.inl ⟨by kernel_rfl,?_⟩) (by assumption) ?_
    rotate_left
    . intro w hSw; (try dsimp only at hSw); go_simp; first | done | with_reducible rfl
    simp only [Act.put,List.setIfInBounds_toArray,List.set_cons_zero,List.set_cons_succ,List.getElem_toArray,List.getElem_cons_zero,List.getElem_cons_succ]
    refine wpAnyH_take (i:=14) (v:=?_) rfl (by kernel_rfl) (by kernel_rfl) (by kernel_rfl) (fun _ _ _ h=>h) (Or.inl ⟨by kernel_rfl,?_⟩) (by assumption) ?_
    rotate_left
    . intro w hSw; (try dsimp only at hSw); go_simp; first | done | with_reducible rfl
    simp only [Act.put,List.setIfInBounds_toArray,List.set_cons_zero,List.set_cons_succ,List.getElem_toArray,List.getElem_cons_zero,List.getElem_cons_succ]
    refine wpAnyH_ready (rs:=[15]) (by kernel_rfl) (by simp) ?_
    refine AllReadyH.cons rfl (fun K hK=>?_) AllReadyH.nil
    go_simp
    refine hK.out _ _ ?_ (fun hHeld2=>?_)
    . exact cells4_drew (cells4_set s1 s1 (cells4_set s1 s1 (cells4_set s1 s1 (cells4_set s1 s1 (cells4_set s1 s1 ⟨a0,a2,a0,a2⟩)))))
    clear hK K hHeld0
    try simp only [Act.put,List.setIfInBounds_toArray,List.set_cons_zero,List.set_cons_succ,List.getElem_toArray,List.getElem_cons_zero,List.getElem_cons_succ]
    refine wpAnyH_take (i:=16) (v:=?_) rfl (by kernel_rfl) (by kernel_rfl) (by kernel_rfl) (fun _ _ _ h=>h) (Or.inl ⟨by kernel_rfl,?_⟩) (by assumption) ?_
    rotate_left
    . intro w hSw; (try dsimp only at hSw); go_simp; first | done | with_reducible rfl
    simp only [Act.put,List.setIfInBounds_toArray,List.set_cons_zero,List.set_cons_succ,List.getElem_toArray,List.getElem_cons_zero,List.getElem_cons_succ]
    refine wpAnyH_done (by kernel_rfl) ?_ _
    go_wp2
    refine bodyPost_ret (v:=.tuple #[.agg #[.bool false,.int .u64 Q,.int .i64 E,.bool (true || decide (M ≠ 0)),.bool false],.int .i64 0]) (by rw [hln]; simp [results,Tryz.results55,go_sem,x0,x1,x2,x3,x4]) rfl ⟨rfl,?_⟩
    exact ((wr5 w4 w.heap.size _ _ _ _ _).below hbw4 hbw4.size (Nat.le_refl _)).drew
set_option maxRecDepth 100000 in
set_option maxHeartbeats 1000000 in
theorem rootf_ok (way:Int) (hw:0 <= way∧way <= 3) (x:NumR) (s:Int) (w:World) (hx:Row w x.ao x.n x.cap x.d) (ok:okR x=true) (hng:x.ng=false) (hs:IsRoot (scV (val x.d x.n) (tK (val x.d x.n) x.e)) s) (Ev:Env w) (hT:Tab w) :
    Calls Tryz.prog 32 #[x.v,.int .i64 way] w fun e w'=>e=.returned (.tuple #[.int .i64 (tR64 way x s).1,.bool (tR64 way x s).2,.int .i64 0])∧Below w.heap.size w w':=by
  have hS:=okR_sane ok
  obtain ⟨na,hn,he0,he1⟩:=hS
  have hv0:=val_nonneg na.1
  have hbl:=blen_nrm na
  obtain ⟨k1,k2,k3⟩:=tK_in (M:=val x.d x.n) (e:=x.e)
  have hhigh:=scV_high hv0 (n:=124) (k:=tK (val x.d x.n) x.e) (by omega)
  have hsm:=root_small hs hhigh.2
  have hs0:=hs.1
  have hEF:∀ (cap:Array Value) (w:World),(callFunc 39 cap).run Tryz.prog w=.ok (.enter 39 cap) w:=by
    intro cap w
    simp [go_sem]
  have hEG:∀ (cap:Array Value) (w:World),(callFunc 55 cap).run Tryz.prog w=.ok (.enter 55 cap) w:=by
    intro cap w
    simp [go_sem]
  have hmf:∀ (fn:Fn) (first cap:Array Value) (w:World),(Instr.makeFunc fn first cap).run Tryz.prog w=.ok (.func fn first cap) w:=fun _ _ _ _=>rfl
  have CR:=fun W (hb:Below w.heap.size w W) (g:Nat) (hg:W.heap[g]?=some (.cells #[.bool x.ng,.slice x.ao x.n x.cap,.int .i64 x.e] 79 (0,0)))=>rounded_ok way hw 39 55 (some ⟨g,0,none⟩) 1 1 (fun _=>x) W
    ⟨Nat.le_refl _,by decide,fun _=>⟨g,0,rfl,(Array.getElem?_eq_some_iff.1 hg).1,fun i hi=>by
      obtain rfl:i=0:=by omega
      exact ⟨blkC hg 0 rfl,blkC hg 1 rfl,blkC hg 2 rfl,hx.keeps hb⟩⟩⟩ (fun _ _=>ok) false s.toNat ((x.e - tK (val x.d x.n) x.e) / 2) (scC (val x.d x.n) (tK (val x.d x.n) x.e) || decide (scV (val x.d x.n) (tK (val x.d x.n) x.e) - s * s ≠ 0)) false _ _ hEF hEG
    (fun W2 hb2=>rroot_any g x W2 s ((hb2.block _ (Array.getElem?_eq_some_iff.1 hg).1).trans hg) ((hx.keeps hb).keeps hb2) ok hng hs ((hT.keeps hb).keeps hb2))
    (fun W2 hb2=>binary64_any way hw false false _ _ _ W2 ((Ev.keeps hb).keeps hb2) (by omega) (by omega))
  have HQ:tR64 way x s=r64 way false false s.toNat ((x.e - tK (val x.d x.n) x.e) / 2) (scC (val x.d x.n) (tK (val x.d x.n) x.e) || decide (scV (val x.d x.n) (tK (val x.d x.n) x.e) - s * s ≠ 0)):=rfl
  rw [<- HQ] at CR
  generalize tR64 way x s=R at CR ⊢
  have HCR:Hid _:=CR
  unfold NumR.v
  clear HQ ok hsm hbl hv0 he0 he1 hn na hx hng hs k1 k2 k3 hhigh hs0
  obtain ⟨x_g,x_o,x_n,x_c,x_d,x_e⟩:=x
  simp only at *
  clear HCR
  have hb2:=bel_alloc2 w (.cells #[.bool x_g,.slice x_o x_n x_c,.int .i64 x_e] 79) (.cells #[.bool x_g,.slice x_o x_n x_c,.int .i64 x_e] 79)
  have q1:=heap_b2 w (.cells #[.bool x_g,.slice x_o x_n x_c,.int .i64 x_e] 79) (.cells #[.bool x_g,.slice x_o x_n x_c,.int .i64 x_e] 79)
  go_enter Tryz.func32,Tryz.ntmps32
  go_wp2_with fail
  refine (CR _ hb2 _ q1).mono ?_
  rintro _ w2 ⟨rfl,hb3⟩
  go_wp2
  all_goals refine bodyPost_ret (v:=.tuple #[.int .i64 R.1,.bool R.2,.int .i64 0]) (by simp [results,Tryz.results32,go_sem]) rfl ⟨rfl,bel_trans hb2 hb3⟩
theorem isRoot_exI {A:Int} (h:0 <= A):∃ s,IsRoot A s:=by
  obtain ⟨n,rfl⟩:=Int.eq_ofNat_of_zero_le h
  exact isRoot_ex n
theorem scV_nonneg {M k:Int} (hM:0 <= M):0 <= scV M k:=by
  unfold scV
  split
  . exact Int.mul_nonneg hM (Int.le_of_lt (two_pos _))
  . exact Int.ediv_nonneg hM (Int.le_of_lt (two_pos _))
theorem sq_nonneg' (a:Int):0 <= a * a:=by
  rcases Int.le_total 0 a with h | h
  . exact Int.mul_nonneg h h
  . exact Int.mul_nonneg_of_nonpos_of_nonpos h h
theorem root_D0 {w:World} {g:Bool} {o:Option Addr} {n c:Nat} {e B b:Int} (h:DNum w (.agg #[.bool g,.slice o n c,.int .i64 e]) B) (ok:Dok B) (hb:rng b) (hp:pok b=true) (hB:B * 2 ^ 4194304=patV b * patV b) (H:Hold4 w) :
    Calls Tryz.prog 32 #[.agg #[.bool g,.slice o n c,.int .i64 e],.int .i64 0] w fun r w'=>r=.returned (.tuple #[.int .i64 (canon (abs b)),.bool false,.int .i64 0])∧Below w.heap.size w w':=by
  obtain ⟨d,hR,hok,rfl⟩:=h.open2 ok
  have na:=(okR_sane hok).1
  have hg:g=false:=by
    cases g
    . rfl
    . exfalso
      have hn:0 < n:=by
        rcases of_decide_eq_true hok with ⟨_,h2,_⟩ | h1
        . cases h2
        . exact h1.1
      have h1:0 < val d n * pw e:=Int.mul_pos (val_pos na hn) (pw_pos _)
      have h2:(⟨true,o,n,c,d,e⟩:NumR).V=-(val d n * pw e):=Int.neg_mul _ _
      have h3:0 <= patV b * patV b:=sq_nonneg' _
      rw [<- hB,h2] at h3
      generalize val d n * pw e=t at *
      have h4:-t * 2 ^ 4194304 < 0:=Int.mul_neg_of_neg_of_pos (by omega) (two_pos _)
      exact absurd h4 (Int.not_lt.2 h3)
  subst hg
  obtain ⟨s,hs⟩:=isRoot_exI (scV_nonneg (val_nonneg na.1) (k:=tK (val d n) e))
  have e1:val d n * (pw e * pw 0)=patV b * patV b:=by
    rw [<- hB,<- Int.mul_assoc,pw_nil]
    rfl
  have hE:=root_back (x:=⟨false,o,n,c,d,e⟩) hok hs hb hp e1
  have hC:=rootf_ok 0 (by decide) ⟨false,o,n,c,d,e⟩ s w hR hok rfl hs H.env H.tab
  rw [hE] at hC
  exact hC
end Go.Proofs.YteglfnnbpilheaaGreatDoor
