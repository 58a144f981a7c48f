/- Parts of the proof. -/
import Derived.Test.YtkajoieoggajiaaDoorPart8
set_option linter.unusedVariables false
set_option linter.unusedSimpArgs false
namespace Go.Proofs.YtkajoieoggajiaaDoor
open Go Go.RowKit Go.Proofs.YtkajoieoggajiaaDoor.M Ieee
theorem wd32_fin {b:Int} (hp:pok32 b=true):wd32 b=b.toNat:=by
  obtain ⟨x,y,_⟩:=pparts32 hp
  unfold wd32
  rw [if_pos (show in32 b=true from decide_eq_true ⟨x,y⟩)]
theorem sum_self (s:Bool) (m:Nat) (i:Int):(Datum.number s m i).sum (Datum.number s m i).opposite=some (.number false 0 i):=by
  have h:signed s m (i - min i i).toNat + signed (!s) m (i - min i i).toNat=0:=by
    unfold signed
    cases s
    . rw [if_neg (by decide),if_pos (by decide)]; omega
    . rw [if_pos (by decide),if_neg (by decide)]; omega
  show some (Datum.number (if signed s m (i - min i i).toNat + signed (!s) m (i - min i i).toNat=0 then s && !s else decide (signed s m (i - min i i).toNat + signed (!s) m (i - min i i).toNat < 0)) (signed s m (i - min i i).toNat + signed (!s) m (i - min i i).toNat).natAbs (min i i))=_
  rw [h,if_pos rfl,show min i i=i by omega,show (s && !s)=false by cases s <;> rfl]
  rfl
theorem write_nil (f:Format) (i:Int):f.write (.number false 0 i)=0:=by
  show f.nearest false 0 i=0
  unfold Format.nearest
  rw [if_pos rfl]
  rfl
theorem self32 {b:Int} (hp:pok32 b=true):floatBits .sub .f32 (wd32 b) (wd32 b)=some 0∧∃ r,floatBits .mul .f32 1065353216 (wd32 b)=some r:=by
  obtain ⟨s1,s2,s3⟩:=single_word hp
  obtain ⟨m,u,er,ev⟩:=read_finite Ieee.single b.toNat (by rw [sSignW,sInfR,s1]; exact s2)
  rw [wd32_fin hp]
  constructor
  . show Ieee.single.sub _ _=_
    unfold Format.sub
    rw [er,sum_self]
    show some (Ieee.single.write _)=_
    rw [write_nil]
  . have e1:Ieee.single.read 1065353216=.number false 8388608 (-23):=by decide +kernel
    show ∃ r,Ieee.single.mul _ _=_
    unfold Format.mul
    rw [er,e1]
    exact ⟨_,rfl⟩
theorem wide_fin {b:Int} (hp:pok32 b=true):rng (wide b)∧pok (wide b)=true∧patV (wide b)=patV32 b:=by
  obtain ⟨m0,m1,e0,e1⟩:=pmag32_le hp
  obtain ⟨hk,hv⟩:=widened hp
  have hl:=jv_le (mag:=pmag32 b) (exp:=pexp32 b) (by unfold rng; omega)
  have hj:wide b=patS (pneg32 b) (jv 52 2047 (-1074) (pmag32 b) (pexp32 b)):=by
    unfold wide jp patS
    rw [hk,Bool.true_and]
  obtain ⟨r,hr⟩:∃ r:Nat,(r:Int)=jv 52 2047 (-1074) (pmag32 b) (pexp32 b):=⟨(jv 52 2047 (-1074) (pmag32 b) (pexp32 b)).toNat,Int.toNat_of_nonneg hl.1⟩
  rw [<- hr,Int.toNat_natCast,V_rg32 hp] at hv
  rw [<- hr] at hj hl
  have hV:vS r=pmag32 b * pw (pexp32 b):=by
    unfold vS
    rw [hv]
    obtain ⟨e,he⟩:∃ e:Nat,(e:Int)=pexp32 b + 149:=⟨(pexp32 b + 149).toNat,by omega⟩
    obtain ⟨g,hg⟩:∃ g:Nat,(g:Int)=pmag32 b:=⟨(pmag32 b).toNat,by omega⟩
    rw [<- he,<- hg,Int.toNat_natCast,Int.toNat_natCast,show pexp32 b=-1074 + ((e + gap:Nat):Int) by unfold gap; omega,pw_add (by decide),Nat.mul_assoc,<- Nat.pow_add]
    generalize pw (-1074)=q
    push_cast
    rw [Int.mul_assoc,Int.mul_comm q]
  have hW:patV (wide b)=sg (pneg32 b) (vS r):=by
    rw [hj]
    cases pneg32 b
    . exact patV_patS hl.2 (fun h=>by cases h)
    . exact patV_neg hl.2
  refine ⟨(wide_key hp).1,?_,?_⟩
  . rw [hj]
    unfold pok patS
    cases pneg32 b
    . rw [if_neg (by decide)]; unfold fld; simp; omega
    . rw [if_pos rfl]; unfold fld; simp; omega
  . rw [hW,hV]
    unfold patV32 sg
    cases pneg32 b
    . rfl
    . show -(_ * _)=-_ * _
      rw [Int.neg_mul]
theorem widenF {b:Int} (hp:pok32 b=true) (w:World):Calls Tryd.prog 5 #[.int .i64 b] w fun e w'=>e=.returned (.int .i64 (wide b))∧Below w.heap.size w w':=by
  have hcv:∀ w,(convert 39 38 (.float .f32 b.toNat)).run Tryd.prog w=.ok (.float .f64 (wd (wide b))) w:=fun w=>
    run_convert_float_float w 39 38 .f32 .f64 b.toNat _ (by rw [Tryd.underlying39]; rfl) Tryd.underlying38 (conv_wide hp)
  have C1:Hid (∀ W,Calls Tryd.prog 13 #[.int .i64 b] W fun e w'=>e=.returned (.float .f32 b.toNat)∧w'=W):=fun W=>by
    have:=bitsFloat32' b W
    rwa [wd32_fin hp] at this
  obtain ⟨k1,k2,k3⟩:=wide_fin hp
  have C2:Hid (∀ W,Calls Tryd.prog 12 #[.float .f64 (wd (wide b))] W fun e w'=>e=.returned (.int .i64 (wide b))∧w'=W):=fun W=>of_FW (FW.pat (q_fin k2) k1) W
  clear hp k1 k2 k3
  generalize wd (wide b)=X at *
  generalize wide b=Y at *
  generalize b.toNat=Z at *
  go_enter Tryd.func5,Tryd.ntmps5
  go_wp2_with fail
  refine (C1.out _).mono ?_
  rintro _ _ ⟨rfl,rfl⟩
  go_wp2_with fail
  refine (C2.out _).mono ?_
  rintro _ _ ⟨rfl,rfl⟩
  go_wp2
  go_ret
  exact ⟨rfl,bel_refl _⟩
set_option maxRecDepth 100000 in
set_option maxHeartbeats 4000000 in
theorem strays32F {ao:Option Addr} {n ca g:Nat} {a:Nat->Int} (w:World) (hg:w.heap[g]?=some (.cells #[.slice ao n ca] 22 (0,0))) (ha:Row w ao n ca a) (fa:∀ i,i < n->pok32 (a i)=true) :
    Calls Tryd.prog 28 #[.agg #[.func (.func 13) #[] #[],.func (.func 30) #[] #[],.func (.func 31) #[] #[],.func (.func 7) #[] #[]],.slice (some ⟨g,0,none⟩) 1 1] w fun r w'=>r=.returned (.float .f32 0)∧Below w.heap.size w w':=by
  have hst:∀ p F c m w,(store p (.func (.func F) #[] c) m).run Tryd.prog w=stored Tryd.prog w p (.func (.func F) #[] c) m:=fun p F c m w=>run_store _ w p _ m rfl
  have hE:∀ (cap:Array Value) (w:World),(callFunc 13 cap).run Tryd.prog w=.ok (.enter 13 cap) w:=by intro cap w; simp [go_sem]
  have hcv:∀ w,(convert 3 39 (.int .i64 1)).run Tryd.prog w=.ok (.float .f32 1065353216) w:=fun _=>by kernel_rfl
  have ho:FloatKind.f32.format.order 0 0=some .eq:=by decide +kernel
  have hla:=ha.le
  have hma:=ha.max
  have hbA:=bel_alloc w (.cells #[.func (.func 13) #[] #[],.func (.func 30) #[] #[],.func (.func 31) #[] #[],.func (.func 7) #[] #[]] 45)
  have gA:=heap_a1 w (.cells #[.func (.func 13) #[] #[],.func (.func 30) #[] #[],.func (.func 31) #[] #[],.func (.func 7) #[] #[]] 45)
  have fA:=blkC (heap_past (.cells #[.func (.func 13) #[] #[],.func (.func 30) #[] #[],.func (.func 31) #[] #[],.func (.func 7) #[] #[]] 45) hg) 0 rfl
  go_enter Tryd.func28,Tryd.ntmps28
  go_wp2_with fail
  clear fA
  generalize w.alloc (.cells #[.func (.func 13) #[] #[],.func (.func 30) #[] #[],.func (.func 31) #[] #[],.func (.func 7) #[] #[]] 45)=wa at hbA gA ⊢
  go_loopw [5,16] (fun sv iv wr=>∃ k:Nat,k <= n∧iv=.int .i64 k∧sv=.float .f32 0∧Below wa.heap.size wa wr) (fun _ iv _=>n - (intOf iv).toNat)
  case atStart=>exact ⟨0,Nat.zero_le _,rfl,rfl,bel_refl _⟩
  case round=>
    obtain ⟨k,hk,rfl,rfl,hbw⟩:=hrel
    by_cases hlt:k < n
    . have i0:(0:Int) <= (k:Int):=by omega
      have i1:(k:Int) < (n:Int):=by omega
      obtain ⟨ba,oa,rfl,hba,hca⟩:=ha.spot (by omega)
      have hp:=fa k hlt
      obtain ⟨z1,R,z2⟩:=self32 hp
      have hd:∀ w:World,(binOp .sub 39 (.float .f32 (wd32 (a k))) (.float .f32 (wd32 (a k)))).run Tryd.prog w=.ok (.float .f32 0) w:=fun w=>run_float_arith w .sub 39 .f32 _ _ 0 z1
      have hm:∀ w:World,(binOp .mul 39 (.float .f32 1065353216) (.float .f32 (wd32 (a k)))).run Tryd.prog w=.ok (.float .f32 R) w:=fun w=>run_float_arith w .mul 39 .f32 _ _ R z2
      have C1:Hid (∀ W,Calls Tryd.prog 13 #[.int .i64 (a k)] W fun e w'=>e=.returned (.float .f32 (wd32 (a k)))∧w'=W):=fun W=>bitsFloat32' (a k) W
      clear z1 z2 hp
      have hbq:=bel_trans hbA hbw
      have CA:=q_cell (hca k hlt) hbq
      have CF:=q_cell (blkC gA 0 rfl) hbw
      have g':=blk_on hbq hg
      generalize wd32 (a k)=X at *
      generalize a k=Y at *
      go_wp2_with fail
      go_loopw [7,8,22] (fun tv fv jv wr2=>∃ (j:Nat) (t:Nat),j <= 1∧(j=0->t=1065353216)∧jv=.int .i64 j∧fv=.bool true∧tv=.float .f32 t∧Below wr.heap.size wr wr2) (fun _ _ jv _=>1 - (intOf jv).toNat)
      case atStart=>exact ⟨0,1065353216,by omega,fun _=>rfl,rfl,rfl,rfl,bel_refl _⟩
      case round=>
        obtain ⟨j,t,hj,ht,rfl,rfl,rfl,hbw2⟩:=hrel
        have A0:=q_cell CA hbw2
        have F0:=q_cell CF hbw2
        have g2:=blk_on hbw2 g'
        have c0:=blkC g2 0 rfl
        clear g2
        rcases (show j=0∨j=1 by omega) with rfl | rfl
        . obtain rfl:=ht rfl
          clear ht
          go_wp2_with fail
          go_quiet ((go_at_call 13; with_reducible exact Calls.quiet_of_same (C1.out _)))
          go_wp2
          go_roundw
          case rel=>exact ⟨0 + 1,R,by omega,fun h=>by omega,by go_num,rfl,rfl,bDrewN hbw2 nq⟩
          case measure=>simp [intOf]
        . clear A0 F0 c0 ht
          go_wp2
          go_roundw
          case rel=>exact ⟨k + 1,by omega,by go_num,rfl,bel_trans hbw hbw2⟩
          case measure=>simp [intOf]; omega
    . obtain rfl:k=n:=by omega
      go_wp2
      go_ret
      exact ⟨rfl,bel_trans hbA hbw⟩
def t32 (way:Int) (x:NumR):Int × Bool:=(r32 way x.ng false (val x.d x.n / 2 ^ vK (val x.d x.n)).toNat (x.e + vK (val x.d x.n)) (decide (val x.d x.n % 2 ^ vK (val x.d x.n) ≠ 0)))
theorem t32_V {x y:NumR} (ox:okR x=true) (oy:okR y=true) (h:x.V=y.V) (way:Int):t32 way x=t32 way y:=by
  have hx:=(okR_dy ox).1
  have hy:=(okR_dy oy).1
  rw [h] at hx
  obtain ⟨e1,e2,e3⟩:=hx.unique hy
  unfold t32
  rw [e1,e2,e3]
def Rd32 (way V p:Int):Prop:=∃ x:NumR,okR x=true∧x.V=V∧p=(t32 way x).1
theorem Rd32.unique {way V p q:Int} (h:Rd32 way V p) (k:Rd32 way V q):p=q:=by
  obtain ⟨x,ox,hx,rfl⟩:=h
  obtain ⟨y,oy,hy,rfl⟩:=k
  rw [t32_V ox oy (hx.trans hy.symm)]
theorem To32F {way:Int} (hw:0 <= way∧way <= 3) {x:NumR} {V:Int} {w:World} (hR:Row w x.ao x.n x.cap x.d) (ok:okR x=true) (hV:x.V=V) (H:Hold4 w) :
    Calls Tryd.prog 7 #[.agg #[.bool x.ng,.slice x.ao x.n x.cap,.int .i64 x.e],.int .i64 way] w fun r w'=>∃ p o,r=.returned (.tuple #[.int .i64 p,.bool o,.int .i64 0])∧Rd32 way V p∧Below w.heap.size w w' :=
  (to32_ok way hw x w hR ok H.env H.tab).mono fun r w' q=>⟨_,_,q.1,⟨x,ok,hV,rfl⟩,q.2⟩
set_option maxRecDepth 100000 in
set_option maxHeartbeats 4000000 in
theorem sum32F {ao:Option Addr} {n ca gl:Nat} {a:Nat->Int} (way:Int) (hw:0 <= way∧way <= 3) (w:World) (l_k:w.heap[gl]?=some (.cells #[.slice ao n ca] 22 (0,0))) (RA:Row w ao n ca a) (fa:∀ i,i < n->pok32 (a i)=true) (hn:n <= 4096) (H:Hold4 w) :
    Calls Tryd.prog 14 #[.agg #[.func (.func 13) #[] #[],.func (.func 30) #[] #[],.func (.func 31) #[] #[],.func (.func 7) #[] #[]],.int .i64 way,.slice (some ⟨gl,0,none⟩) 1 1] w fun r w'=>∃ p,r=.returned (.tuple #[.int .i64 p,.int .i64 0])∧Rd32 way (sumF (fun i=>patV32 (a i)) n) p∧Below w.heap.size w w':=by
  have hst:∀ p F c m w,(store p (.func (.func F) #[] c) m).run Tryd.prog w=stored Tryd.prog w p (.func (.func F) #[] c) m:=fun p F c m w=>run_store _ w p _ m rfl
  have hE:∀ (cap:Array Value) (w:World),(callFunc 7 cap).run Tryd.prog w=.ok (.enter 7 cap) w:=by intro cap w; simp [go_sem]
  have C1:Hid (∀ W,Below w.heap.size w W->Calls Tryd.prog 27 #[.int .i64 way,.slice (some ⟨gl,0,none⟩) 1 1] W fun r w'=>r=.returned (.int .i64 0)∧Below W.heap.size W w'):=fun W h=>refusal1W (bo:=none) (cb:=0) way hw W (blk_on h l_k) hn (H.keeps h)
  have C2:Hid (∀ W,Below w.heap.size w W->Calls Tryd.prog 28 #[.agg #[.func (.func 13) #[] #[],.func (.func 30) #[] #[],.func (.func 31) #[] #[],.func (.func 7) #[] #[]],.slice (some ⟨gl,0,none⟩) 1 1] W fun r w'=>r=.returned (.float .f32 0)∧Below W.heap.size W w'):=fun W h=>strays32F W (blk_on h l_k) (RA.keeps h) fa
  have C3:Hid (∀ W,Below w.heap.size w W->Calls Tryd.prog 29 #[.agg #[.func (.func 13) #[] #[],.func (.func 30) #[] #[],.func (.func 31) #[] #[],.func (.func 7) #[] #[]],.slice (some ⟨gl,0,none⟩) 1 1] W fun r w'=>∃ (x:NumR),r=.returned (.agg #[.bool x.ng,.slice x.ao x.n x.cap,.int .i64 x.e])∧(∀ W2,Below w'.heap.size w' W2->Calls Tryd.prog 7 #[.agg #[.bool x.ng,.slice x.ao x.n x.cap,.int .i64 x.e],.int .i64 way] W2 fun r2 w2=>∃ p o,r2=.returned (.tuple #[.int .i64 p,.bool o,.int .i64 0])∧Rd32 way (sumF (fun i=>patV32 (a i)) n) p∧Below W2.heap.size W2 w2)∧Below W.heap.size W w'):=fun W h=>by
    refine (total32F W (blk_on h l_k) (RA.keeps h) fa (by omega) (H.keeps h)).mono ?_
    rintro _ w' ⟨v,rfl,hD,hB,hb⟩
    obtain ⟨x,rfl,hR,ok,hV⟩:=hD.open (hB.ok (by omega))
    exact ⟨x,rfl,fun W2 h2=>To32F hw (hR.keeps h2) ok hV (H.keeps (bel_trans h (bel_trans hb h2))),hb⟩
  clear RA H fa hn hw
  generalize sumF (fun i=>patV32 (a i)) n=SV at *
  have ho:FloatKind.f32.format.order 0 0=some .eq:=by decide +kernel
  have hb0:=bel_alloc w (.cells #[.func (.func 13) #[] #[],.func (.func 30) #[] #[],.func (.func 31) #[] #[],.func (.func 7) #[] #[]] 45)
  have b_k:=heap_a1 w (.cells #[.func (.func 13) #[] #[],.func (.func 30) #[] #[],.func (.func 31) #[] #[],.func (.func 7) #[] #[]] 45)
  go_enter Tryd.func14,Tryd.ntmps14
  go_wp2_with fail
  generalize w.alloc (.cells #[.func (.func 13) #[] #[],.func (.func 30) #[] #[],.func (.func 31) #[] #[],.func (.func 7) #[] #[]] 45)=x0 at hb0 b_k ⊢
  refine (C1.out _ hb0).mono ?_
  rintro _ y1 ⟨rfl,hw1⟩
  replace b_k:=blk_on hw1 b_k
  replace hb0:=bel_trans hb0 hw1
  have f0:=blkC b_k 0 rfl
  have f1:=blkC b_k 1 rfl
  have f2:=blkC b_k 2 rfl
  have f3:=blkC b_k 3 rfl
  go_wp2_with fail
  clear f0 f1 f2 f3
  refine (C2.out _ hb0).mono ?_
  rintro _ y2 ⟨rfl,hw2⟩
  replace b_k:=blk_on hw2 b_k
  replace hb0:=bel_trans hb0 hw2
  go_wp2_with fail
  have KK:∀ W,Below y2.heap.size y2 W->W.cell? ⟨w.heap.size,0,none⟩=some (.func (.func 13) #[] #[])∧W.cell? ⟨w.heap.size,1,none⟩=some (.func (.func 30) #[] #[])∧W.cell? ⟨w.heap.size,2,none⟩=some (.func (.func 31) #[] #[])∧W.cell? ⟨w.heap.size,3,none⟩=some (.func (.func 7) #[] #[]):=fun W hb=>⟨q_cell (blkC b_k 0 rfl) hb,q_cell (blkC b_k 1 rfl) hb,q_cell (blkC b_k 2 rfl) hb,q_cell (blkC b_k 3 rfl) hb⟩
  have hC0:=(bel_refl y2).drew
  go_region_held3 (fun W=>W.cell? ⟨w.heap.size,0,none⟩=some (.func (.func 13) #[] #[])∧W.cell? ⟨w.heap.size,1,none⟩=some (.func (.func 30) #[] #[])∧W.cell? ⟨w.heap.size,2,none⟩=some (.func (.func 31) #[] #[])∧W.cell? ⟨w.heap.size,3,none⟩=some (.func (.func 7) #[] #[]))
    (with_reducible first | assumption | exact KK _ hC0 | exact KK _ hC1 | exact KK _ hC2 | fail)
    (first
      | (go_at_call 7; refine (CT _ (bel_refl _)).mono ?_; rintro _ y4 ⟨p,o,rfl,HP,hq2⟩; have hC2:=bel_trans hC1 hq2)
      | (go_at_call 29; refine (C3.out _ (bel_trans hb0 hC0)).mono ?_; rintro _ y3 ⟨x,rfl,CT,hq1⟩; have hC1:=bel_trans hC0 hq1))
  all_goals go_wp2
  all_goals exact bodyPost_ret (v:=.tuple #[.int .i64 p,.int .i64 0]) (by simp [results,Tryd.results14,go_sem]) rfl ⟨p,rfl,HP,bel_trans hb0 hC2⟩
set_option maxRecDepth 100000 in
set_option maxHeartbeats 2000000 in
theorem Sum32F {ao:Option Addr} {n ca:Nat} {a:Nat->Int} (way:Int) (hw:0 <= way∧way <= 3) (w:World) (RA:Row w ao n ca a) (fa:∀ i,i < n->pok32 (a i)=true) (hn:n <= 4096) (H:Hold4 w) :
    Calls Tryd.prog 6 #[.slice ao n ca,.int .i64 way] w fun r w'=>∃ p,r=.returned (.tuple #[.int .i64 p,.int .i64 0])∧Rd32 way (sumF (fun i=>patV32 (a i)) n) p∧Below w.heap.size w w':=by
  have C1:Hid (∀ W,Calls Tryd.prog 15 #[] W fun r w'=>r=.returned (.agg #[.func (.func 13) #[] #[],.func (.func 30) #[] #[],.func (.func 31) #[] #[],.func (.func 7) #[] #[]])∧Below W.heap.size W w'):=fun W=>binary32F W
  have C2:Hid (∀ W gl,Below w.heap.size w W->W.heap[gl]?=some (.cells #[.slice ao n ca] 22 (0,0))->Calls Tryd.prog 14 #[.agg #[.func (.func 13) #[] #[],.func (.func 30) #[] #[],.func (.func 31) #[] #[],.func (.func 7) #[] #[]],.int .i64 way,.slice (some ⟨gl,0,none⟩) 1 1] W fun r w'=>∃ p,r=.returned (.tuple #[.int .i64 p,.int .i64 0])∧Rd32 way (sumF (fun i=>patV32 (a i)) n) p∧Below W.heap.size W w'):=fun W gl h hl=>sum32F way hw W hl (RA.keeps h) fa hn (H.keeps h)
  clear RA H fa hn hw
  generalize sumF (fun i=>patV32 (a i)) n=SV at *
  go_enter Tryd.func6,Tryd.ntmps6
  go_wp2_with fail
  refine (C1.out _).mono ?_
  rintro _ y1 ⟨rfl,hw1⟩
  go_wp2_with fail
  refine (C2.out _ _ (bel_trans hw1 (bel_alloc y1 (.cells #[.slice ao n ca] 22))) (heap_a1 y1 (.cells #[.slice ao n ca] 22))).mono ?_
  rintro _ y2 ⟨p,rfl,HP,hw2⟩
  go_wp2
  exact bodyPost_ret (v:=.tuple #[.int .i64 p,.int .i64 0]) (by simp [results,Tryd.results6,go_sem]) rfl ⟨p,rfl,HP,bel_trans hw1 (bel_trans (bel_alloc y1 (.cells #[.slice ao n ca] 22)) hw2)⟩
end Go.Proofs.YtkajoieoggajiaaDoor
namespace Go.Proofs.YtkajoieoggajiaaDoor
open Go Go.RowKit Go.Proofs.YtkajoieoggajiaaDoor.M
theorem Out.far {B:Nat} {w:World} {v:Value} {n:Nat} {d:Nat->Int} (h:Out B w v n d) (g j:Nat) (x:Int) (hj:v.ownBlock=some g->n <= j):Out B (w.setCell ⟨g,j,none⟩ (.int .i64 x)) v n d:=by
  rcases h.2 with ⟨rfl,rfl⟩ | ⟨g0,cap0,cur,rfl,hbb,hg0,hn,hcm,hcs,htake⟩
  . exact Out.nil _ _ _
  . by_cases e:g0=g
    . subst e
      refine ⟨h.1,.inr ⟨g0,cap0,_,rfl,hbb,heap_setCell_same w g0 j cur _ _ hg0,hn,hcm,by simpa using hcs,?_⟩⟩
      have hj:=hj rfl
      rw [<- htake]
      apply List.ext_getElem?
      intro i
      rw [List.getElem?_take,List.getElem?_take]
      split
      . rw [Array.getElem?_toList,Array.getElem?_toList,Array.getElem?_setIfInBounds_ne (by omega)]
      . rfl
    . exact h.of_block fun k hk=>by
        simp only [Value.ownBlock,Option.some.injEq] at hk
        subst hk
        exact Below.heap_setCell _ _ _ _ e
theorem cls32_ok (b:Int):decide (cls32 b < 3)=pok32 b:=by
  unfold cls32 pok32 in32
  by_cases h0:b < 0∨4294967296 <= b
  . rw [if_pos h0]
    have:¬ (0 <= b∧b < 4294967296):=by omega
    simp [this]
  . rw [if_neg h0]
    have:(0 <= b∧b < 4294967296):=by omega
    by_cases h:fld32 b=255
    . simp [h]
      by_cases h1:frc32 b=0 <;> simp [h1]
    . simp [h]
      by_cases h1:fld32 b=0
      . simp [h1,this]
        by_cases h2:frc32 b=0 <;> simp [h2]
      . simp [h1,this]
end Go.Proofs.YtkajoieoggajiaaDoor
