/- Parts of the proof. -/
import Derived.Test.YtkajoieoggajiaaDoorPart7
set_option linter.unusedVariables false
set_option linter.unusedSimpArgs false
namespace Go.Proofs.YtkajoieoggajiaaDoor
open Go Go.RowKit Go.Proofs.YtkajoieoggajiaaDoor.M
theorem bd_sumF2 {V:Nat->Int} {K:Nat} (hK:K <= 10000):∀ m,m <= 5000->(∀ i,i < m->Bd K (V i))->Bd (K + m) (sumF V m)
  | 0,_,_=>bd_zero _
  | m + 1,hm,h=>(bd_sumF2 hK m (by omega) fun i hi=>h i (by omega)).add ((h m (by omega)).up (by omega) (by omega)) (by omega)
theorem patV_sbd {a:Nat->Int} (n:Nat) (hn:n <= 5000) (fa:∀ i,i < n->pok (a i)=true):Bd 9000 (sumF (fun i=>patV (a i)) n) :=
  (bd_sumF2 (K:=4000) (by omega) n hn fun i hi=>patV_bd (fa i hi)).up (by omega) (by omega)
theorem toR_V {x y:NumR} (ox:okR x=true) (oy:okR y=true) (h:x.V=y.V) (way:Int):toR way x=toR way y:=by
  have hx:=(okR_dy ox).1
  have hy:=(okR_dy oy).1
  rw [h] at hx
  obtain ⟨e1,e2,e3⟩:=hx.unique hy
  unfold toR
  rw [e1,e2,e3]
set_option maxRecDepth 100000 in
set_option maxHeartbeats 4000000 in
theorem strays1 {FT:Nat} {ao:Option Addr} {n ca g:Nat} {a:Nat->Int} (w:World) (hg:w.heap[g]?=some (.cells #[.slice ao n ca] 22 (0,0))) (ha:Row w ao n ca a) (fa:∀ i,i < n->rng (a i)∧pok (a i)=true) :
    Calls Tryd.prog 71 #[.agg #[.func (.func 73) #[] #[],.func (.func 12) #[] #[],.func (.func 19) #[] #[],.func (.func FT) #[] #[]],.slice (some ⟨g,0,none⟩) 1 1] w fun r w'=>r=.returned (.float .f64 0)∧Below w.heap.size w w':=by
  have hst:∀ p F c m w,(store p (.func (.func F) #[] c) m).run Tryd.prog w=stored Tryd.prog w p (.func (.func F) #[] c) m:=fun p F c m w=>run_store _ w p _ m rfl
  have hE:∀ (cap:Array Value) (w:World),(callFunc 73 cap).run Tryd.prog w=.ok (.enter 73 cap) w:=by intro cap w; simp [go_sem]
  have hcv:∀ w,(convert 3 38 (.int .i64 1)).run Tryd.prog w=.ok (.float .f64 4607182418800017408) w:=fun _=>by kernel_rfl
  have hla:=ha.le
  have hma:=ha.max
  have hbA:=bel_alloc w (.cells #[.func (.func 73) #[] #[],.func (.func 12) #[] #[],.func (.func 19) #[] #[],.func (.func FT) #[] #[]] 92)
  have gA:=heap_a1 w (.cells #[.func (.func 73) #[] #[],.func (.func 12) #[] #[],.func (.func 19) #[] #[],.func (.func FT) #[] #[]] 92)
  have fA:=blkC (heap_past (.cells #[.func (.func 73) #[] #[],.func (.func 12) #[] #[],.func (.func 19) #[] #[],.func (.func FT) #[] #[]] 92) hg) 0 rfl
  go_enter Tryd.func71,Tryd.ntmps71
  go_wp2_with fail
  clear fA
  generalize w.alloc (.cells #[.func (.func 73) #[] #[],.func (.func 12) #[] #[],.func (.func 19) #[] #[],.func (.func FT) #[] #[]] 92)=wa at hbA gA ⊢
  go_loopw [5,16] (fun sv iv wr=>∃ k:Nat,k <= n∧iv=.int .i64 k∧sv=.float .f64 0∧Below wa.heap.size wa wr) (fun _ iv _=>n - (intOf iv).toNat)
  case atStart=>exact ⟨0,Nat.zero_le _,rfl,rfl,bel_refl _⟩
  case round=>
    obtain ⟨k,hk,rfl,rfl,hbw⟩:=hrel
    by_cases hlt:k < n
    . have i0:(0:Int) <= (k:Int):=by omega
      have i1:(k:Int) < (n:Int):=by omega
      obtain ⟨ba,oa,rfl,hba,hca⟩:=ha.spot (by omega)
      obtain ⟨ra,pa⟩:=fa k hlt
      have hbq:=bel_trans hbA hbw
      have CA:=q_cell (hca k hlt) hbq
      have CF:=q_cell (blkC gA 0 rfl) hbw
      have g':=blk_on hbq hg
      go_wp2_with fail
      go_loopw [7,8,22] (fun tv fv jv wr2=>∃ (j:Nat) (p:Int) (x:Nat),j <= 1∧jv=.int .i64 j∧fv=.bool true∧tv=.float .f64 x∧Hid (FW p x)∧Below wr.heap.size wr wr2) (fun _ _ jv _=>1 - (intOf jv).toNat)
      case atStart=>exact ⟨0,4607182418800017408,4607182418800017408,by omega,rfl,rfl,rfl,(FW.pat (p:=4607182418800017408) (by decide) (by unfold rng; decide)),bel_refl _⟩
      case round=>
        obtain ⟨j,p,x,hj,rfl,rfl,rfl,HX,hbw2⟩:=hrel
        have A0:=q_cell CA hbw2
        have F0:=q_cell CF hbw2
        have g2:=blk_on hbw2 g'
        have c0:=blkC g2 0 rfl
        clear g2
        rcases (show j=0∨j=1 by omega) with rfl | rfl
        . have C1:Hid (∀ W,Calls Tryd.prog 73 #[.int .i64 (a k)] W fun e w'=>e=.returned (.float .f64 (wd (a k)))∧w'=W):=fun W=>bitsFloat _ W
          have hz:=self_nil ra pa
          have hd:=fun W=>run_diffN (P:=Tryd.prog) 38 (FW.pat (q_fin pa) ra) (FW.pat (q_fin pa) ra) hz.1 W
          have ho:=hz.2
          have hfx:=FW.pat (q_fin pa) ra
          obtain ⟨fz,fw,hf⟩:∃ (f:World->Nat) (h:World->World),∀ W,(binOp .mul 38 (.float .f64 x) (.float .f64 (wd (a k)))).run Tryd.prog W=.ok (.float .f64 (f W)) (h W)∧FW (fprod p (a k)) (f W)∧(h W=W∨h W=W.drew):=by
            have:=fun W=>run_fprod (P:=Tryd.prog) 38 HX.out hfx W
            obtain ⟨f,h1⟩:=Classical.skolem.1 this
            obtain ⟨h,h2⟩:=Classical.skolem.1 h1
            exact ⟨f,h,h2⟩
          have hm:=fun W=>(hf W).1
          have HM:Hid (∀ W,FW (fprod p (a k)) (fz W)∧(fw W=W∨fw W=W.drew)):=fun W=>(hf W).2
          clear hf hfx hz
          generalize wd (fsum (a k) (neg (a k)))=D at *
          generalize wd (a k)=X at *
          generalize a k=Y at *
          go_wp2_with fail
          go_quiet ((go_at_call 73; with_reducible exact Calls.quiet_of_same (C1.out _)))
          go_wp2
          go_roundw
          case rel=>
            refine ⟨0 + 1,_,_,by omega,by go_num,rfl,rfl,(HM.out _).1,?_⟩
            rcases (HM.out (wr.drewN nq)).2 with e | e <;> rw [e]
            . exact bDrewN hbw2 nq
            . exact (bDrewN hbw2 nq).drew
          case measure=>simp [intOf]
        . clear A0 F0 c0
          go_wp2
          go_roundw
          case rel=>exact ⟨k + 1,by omega,by go_num,rfl,bel_trans hbw hbw2⟩
          case measure=>simp [intOf]; omega
    . obtain rfl:k=n:=by omega
      go_wp2
      go_ret
      exact ⟨rfl,bel_trans hbA hbw⟩
set_option maxRecDepth 100000 in
set_option maxHeartbeats 8000000 in
theorem total1F {ao:Option Addr} {n ca gl:Nat} {a:Nat->Int} (w:World) (l_k:w.heap[gl]?=some (.cells #[.slice ao n ca] 22 (0,0))) (RA:Row w ao n ca a) (fa:∀ i,i < n->pok (a i)=true) (hn:n <= 5000) (H:Hold4 w) :
    Calls Tryd.prog 72 #[.agg #[.func (.func 73) #[] #[],.func (.func 12) #[] #[],.func (.func 19) #[] #[],.func (.func 47) #[] #[]],.slice (some ⟨gl,0,none⟩) 1 1] w fun r w'=>∃ v,r=.returned v∧DNum w' v (sumF (fun i=>patV (a i)) n)∧Bd 9000 (sumF (fun i=>patV (a i)) n)∧Below w.heap.size w w':=by
  have hst:∀ p F c m w,(store p (.func (.func F) #[] c) m).run Tryd.prog w=stored Tryd.prog w p (.func (.func F) #[] c) m:=fun p F c m w=>run_store _ w p _ m rfl
  have NA:Hid (∀ W,Row W ao n ca a->Hold4 W->Calls Tryd.prog 90 #[.agg #[.func (.func 73) #[] #[],.func (.func 12) #[] #[],.func (.func 19) #[] #[],.func (.func 47) #[] #[]],.slice ao n ca] W fun x w'=>∃ g q,x=.returned (.slice (some ⟨g,0,none⟩) n n)∧Nums w' (some ⟨g,0,none⟩) n n q∧Below W.heap.size W w'∧∀ i,i < n->okR (q i)=true∧(q i).V=patV (a i)∧Half (q i)):=fun W hR h=>numbersF ao n ca a W hR (by omega) fa h
  have x_B:=patV_sbd (a:=a) n hn fa
  have DB:Hid (∀ (g1:Nat) (q1:Nat->NumR) W,Nums W (some ⟨g1,0,none⟩) n n q1->(∀ i,i < n->okR (q1 i)=true∧(q1 i).V=patV (a i)∧Half (q1 i))->Tab W->Calls Tryd.prog 20 #[.slice (some ⟨g1,0,none⟩) n n] W fun r w'=>∃ v,r=.returned (.tuple #[v,.int .i64 0])∧DAns W w' (sumF (fun i=>patV (a i)) n) v):=fun g1 q1 W N1 F1 hT=>by
    refine (dsum_ok _ n n q1 W N1 (decide_eq_true fun i hi=>(F1 i hi).1) (by omega) hT).mono ?_
    rintro _ w' ⟨v,er,rfl,hF⟩
    rw [sumV_F (V:=fun i=>patV (a i)) n (fun i hi=>(F1 i hi).2.1)] at hF
    obtain ⟨rfl,hA⟩:=hF.yes (x_B.ok (by omega))
    exact ⟨v,rfl,hA⟩
  have hla:=RA.le
  have hma:=RA.max
  clear fa
  generalize sumF (fun i=>patV (a i)) n=sv at *
  replace l_k:=heap_past (.cells #[.bool false,.slice none 0 0,.int .i64 0] 30) (heap_past (.cells #[.func (.func 73) #[] #[],.func (.func 12) #[] #[],.func (.func 19) #[] #[],.func (.func 47) #[] #[]] 92) l_k)
  have k_k:(w.alloc (.cells #[.func (.func 73) #[] #[],.func (.func 12) #[] #[],.func (.func 19) #[] #[],.func (.func 47) #[] #[]] 92)).heap[w.heap.size]?=some (.cells #[.func (.func 73) #[] #[],.func (.func 12) #[] #[],.func (.func 19) #[] #[],.func (.func 47) #[] #[]] 92):=heap_new (.cells #[.func (.func 73) #[] #[],.func (.func 12) #[] #[],.func (.func 19) #[] #[],.func (.func 47) #[] #[]] 92) (by rfl)
  have hb0:=bel_alloc w (.cells #[.func (.func 73) #[] #[],.func (.func 12) #[] #[],.func (.func 19) #[] #[],.func (.func 47) #[] #[]] 92)
  replace k_k:=heap_past (.cells #[.bool false,.slice none 0 0,.int .i64 0] 30) k_k
  have r_k:((w.alloc (.cells #[.func (.func 73) #[] #[],.func (.func 12) #[] #[],.func (.func 19) #[] #[],.func (.func 47) #[] #[]] 92)).alloc (.cells #[.bool false,.slice none 0 0,.int .i64 0] 30)).heap[w.heap.size + 1]?=some (.cells #[.bool false,.slice none 0 0,.int .i64 0] 30):=heap_new (.cells #[.bool false,.slice none 0 0,.int .i64 0] 30) (by simp only [size_alloc])
  replace hb0:=bel_trans hb0 (bel_alloc (w.alloc (.cells #[.func (.func 73) #[] #[],.func (.func 12) #[] #[],.func (.func 19) #[] #[],.func (.func 47) #[] #[]] 92)) (.cells #[.bool false,.slice none 0 0,.int .i64 0] 30))
  go_enter Tryd.func72,Tryd.ntmps72
  go_wp2_with fail
  rename_i QA KA hKA K00 hK00
  generalize ((w.alloc (.cells #[.func (.func 73) #[] #[],.func (.func 12) #[] #[],.func (.func 19) #[] #[],.func (.func 47) #[] #[]] 92)).alloc (.cells #[.bool false,.slice none 0 0,.int .i64 0] 30))=x0 at hb0 k_k r_k l_k ⊢
  have H:=H.keeps hb0
  have RA:=RA.keeps hb0
  have hK1:=hK00
  have HN1:∀ (g:Nat) (x1:World) (t:Array Value) (x_g:Bool) (x_o:Option Addr) (x_n x_c:Nat) (x_e:Int),#[t.getD 0 undef,.slice (some ⟨gl,0,none⟩) 1 1,.pointer (some ⟨w.heap.size,0,none⟩),t.getD 3 undef,.pointer (some ⟨w.heap.size + 1,0,none⟩),.pointer (some ⟨g,0,none⟩),t.getD 6 undef,t.getD 7 undef,t.getD 8 undef,t.getD 9 undef,t.getD 10 undef,t.getD 11 undef,t.getD 12 undef,t.getD 13 undef,t.getD 14 undef,t.getD 15 undef,t.getD 16 undef,t.getD 17 undef,t.getD 18 undef,t.getD 19 undef,t.getD 20 undef,t.getD 21 undef,t.getD 22 undef,t.getD 23 undef,t.getD 24 undef,t.getD 25 undef,t.getD 26 undef,t.getD 27 undef,t.getD 28 undef,t.getD 29 undef,t.getD 30 undef,t.getD 31 undef,t.getD 32 undef,t.getD 33 undef,t.getD 34 undef,t.getD 35 undef,t.getD 36 undef]=t->x0.heap.size <= g->x1.heap[g]?=some (.cells #[.bool x_g,.slice x_o x_n x_c,.int .i64 x_e] 30 (0,0))->Below x0.heap.size x0 x1->DAn w.heap.size x1 sv (.agg #[.bool x_g,.slice x_o x_n x_c,.int .i64 x_e])->Exit.then K00 (Exit.then KA QA) Exit.normal { tmps:=t,defers:=[] } x1:=by
    intro g_x x1 t x_g x_o x_n x_c x_e  ht x_ge x_k hw1 x_D 
    obtain ⟨u1,hu⟩:∃ u:Nat->Value,t=#[u 0,.slice (some ⟨gl,0,none⟩) 1 1,.pointer (some ⟨w.heap.size,0,none⟩),u 3,.pointer (some ⟨w.heap.size + 1,0,none⟩),.pointer (some ⟨g_x,0,none⟩),u 6,u 7,u 8,u 9,u 10,u 11,u 12,u 13,u 14,u 15,u 16,u 17,u 18,u 19,u 20,u 21,u 22,u 23,u 24,u 25,u 26,u 27,u 28,u 29,u 30,u 31,u 32,u 33,u 34,u 35,u 36]:=⟨fun k=>t.getD k undef,ht.symm⟩
    clear ht
    subst hu
    have H:=H.keeps hw1
    have RA:=RA.keeps hw1
    have k_k:=(hw1.block _ (Array.getElem?_eq_some_iff.1 k_k).1).trans k_k
    have r_k:=(hw1.block _ (Array.getElem?_eq_some_iff.1 r_k).1).trans r_k
    have l_k:=(hw1.block _ (Array.getElem?_eq_some_iff.1 l_k).1).trans l_k
    have hb1:=bel_trans hb0 hw1
    have f0:=blkC x_k 0 rfl
    have f1:=blkC x_k 1 rfl
    have f2:=blkC x_k 2 rfl
    have k0:=blkC r_k 0 rfl
    have k1:=blkC r_k 1 rfl
    have k2:=blkC r_k 2 rfl
    have z0:=blkF r_k 0
    have z1:=blkF r_k 1
    have z2:=blkF r_k 2
    go_wp2
    refine bodyPost_ret (v:=.agg #[.bool x_g,.slice x_o x_n x_c,.int .i64 x_e]) (by simp [results,Tryd.results72,go_sem,k0,k1,k2]) rfl ⟨_,rfl,?_,x_B,?_⟩
    . exact (dan_res3 x_D r_k _ _ _).num
    . exact bel_set3' hb1 (by omega) _ _ _
  have KK1:∀ W,Below x0.heap.size x0 W->W.cell? ⟨w.heap.size,0,none⟩=some (.func (.func 73) #[] #[])∧W.cell? ⟨w.heap.size,1,none⟩=some (.func (.func 12) #[] #[])∧W.cell? ⟨w.heap.size,2,none⟩=some (.func (.func 19) #[] #[])∧W.cell? ⟨w.heap.size,3,none⟩=some (.func (.func 47) #[] #[])∧W.cell? ⟨gl,0,none⟩=some (.slice ao n ca):=fun W hb=>⟨q_cell (blkC k_k 0 rfl) hb,q_cell (blkC k_k 1 rfl) hb,q_cell (blkC k_k 2 rfl) hb,q_cell (blkC k_k 3 rfl) hb,q_cell (blkC l_k 0 rfl) hb⟩
  have hC1_0:=(bel_refl x0).drew
  have hT1_0:Below w.heap.size w x0.drew:=hb0.drew
  have H_1_0:=H.keeps (bel_refl x0).drew
  have RA_1_0:=RA.keeps (bel_refl x0).drew
  have hs1_0:=(bel_refl x0).drew
  go_region_held3 (fun W=>W.cell? ⟨w.heap.size,0,none⟩=some (.func (.func 73) #[] #[])∧W.cell? ⟨w.heap.size,1,none⟩=some (.func (.func 12) #[] #[])∧W.cell? ⟨w.heap.size,2,none⟩=some (.func (.func 19) #[] #[])∧W.cell? ⟨w.heap.size,3,none⟩=some (.func (.func 47) #[] #[])∧W.cell? ⟨gl,0,none⟩=some (.slice ao n ca))
    (with_reducible first | assumption | exact KK1 _ (bel_alloc _ _).drew | exact KK1 _ hC1_0 | exact KK1 _ hC1_1 | exact KK1 _ hC1_2 | exact KK1 _ (bel_trans hC1_0 (bel_alloc _ _)) | exact KK1 _ (bel_trans hC1_1 (bel_alloc _ _)) | exact KK1 _ (bel_trans hC1_2 (bel_alloc _ _)) | exact KK1 _ (bel_set3' hC1_2 (Nat.le_refl _) _ _ _) | exact KK1 _ (bel_set3' hC1_2 hC1_1.size _ _ _) | fail)
    (first
      | (go_at_call 20; have _t:=hs1_1; refine (DB.out _ _ _ (N1.keeps (by with_reducible first | exact bel_refl _ | exact bel_alloc _ _ | exact bel_dr _ _)) F1 (H_1_1.keeps (by with_reducible first | exact bel_refl _ | exact bel_alloc _ _ | exact bel_dr _ _)).tab).mono ?_; rintro _ y1_2 ⟨v,rfl,nm1⟩; obtain ⟨x_g,x_o,x_n,x_c,x_e,rfl⟩:=dans_shape nm1; have hq1_2:=nm1.below; have x_A:=nm1.dan.lower (Nat.le_trans hT1_1.size (by with_reducible first | exact Nat.le_refl _ | exact (bel_alloc _ _).size | exact (bel_dr _ _).size)); have hs1_2:Below y1_1.heap.size y1_1 y1_2:=(by with_reducible first | exact hq1_2 | exact bel_trans (bel_alloc _ _) hq1_2 | exact bel_trans (bel_dr _ _) hq1_2); have hT1_2:=bel_trans hT1_1 hs1_2; have hC1_2:=bel_trans hC1_1 hs1_2; have H_1_2:=H_1_1.keeps hs1_2; have RA_1_2:=RA_1_1.keeps hs1_2; with_reducible first | (have qz1:y1_2.heap[x0.heap.size]?=some (.cells #[.bool false,.slice none 0 0,.int .i64 0] 30 (0,0)):=blk_on hq1_2 (blk_on hq1_1 (heap_a1d x0 (.cells #[.bool false,.slice none 0 0,.int .i64 0] 30))); have cz1_0:=blkC qz1 0 rfl; have zz1_0:=blkF qz1 0; have cz1_1:=blkC qz1 1 rfl; have zz1_1:=blkF qz1 1; have cz1_2:=blkC qz1 2 rfl; have zz1_2:=blkF qz1 2) | (have qz1:y1_2.heap[y1_1.heap.size]?=some (.cells #[.bool false,.slice none 0 0,.int .i64 0] 30 (0,0)):=blk_on hq1_2 (heap_a1 _ _); have cz1_0:=blkC qz1 0 rfl; have zz1_0:=blkF qz1 0; have cz1_1:=blkC qz1 1 rfl; have zz1_1:=blkF qz1 1; have cz1_2:=blkC qz1 2 rfl; have zz1_2:=blkF qz1 2) | skip)
      | (go_at_call 90; refine (NA.out _ (RA_1_0.keeps (by with_reducible first | exact bel_refl _ | exact bel_alloc _ _ | exact bel_dr _ _)) (H_1_0.keeps (by with_reducible first | exact bel_refl _ | exact bel_alloc _ _ | exact bel_dr _ _))).mono ?_; rintro _ y1_1 ⟨g1,q1,rfl,N1,hq1_1,F1⟩; have hs1_1:Below x0.drew.heap.size x0.drew y1_1:=(by with_reducible first | exact hq1_1 | exact bel_trans (bel_alloc _ _) hq1_1 | exact bel_trans (bel_dr _ _) hq1_1); have hT1_1:=bel_trans hT1_0 hs1_1; have hC1_1:=bel_trans hC1_0 hs1_1; have H_1_1:=H_1_0.keeps hs1_1; have RA_1_1:=RA_1_0.keeps hs1_1))
  . exact HN1 y1_2.heap.size _ _ _ _ _ _ _  (by kernel_rfl) ((bel_trans (bel_trans (hs1_0) hs1_1) hs1_2).size) (heap_a1 _ _) (bel_trans (bel_trans (bel_trans (hs1_0) hs1_1) hs1_2) (bel_alloc _ _)) (x_A.keeps (bel_alloc _ _)) 
  . exact HN1 y1_1.heap.size _ _ _ _ _ _ _  (by kernel_rfl) ((bel_trans (hs1_0) hs1_1).size) (heap_set (heap_set (heap_set (blk_on hq1_2 (heap_a1 _ _)) 0 _) 1 _) 2 _) (bel_set3' (bel_trans (bel_trans (hs1_0) hs1_1) hs1_2) ((bel_trans (hs1_0) hs1_1).size) _ _ _) (dan_res3 x_A (blk_on hq1_2 (heap_a1 _ _)) _ _ _) 
  . exact HN1 x0.heap.size _ _ _ _ _ _ _  (by kernel_rfl) (Nat.le_refl _) (heap_set (heap_set (heap_set (blk_on hq1_2 (blk_on hq1_1 (heap_a1d x0 (.cells #[.bool false,.slice none 0 0,.int .i64 0] 30)))) 0 _) 1 _) 2 _) (bel_set3' (bel_trans (bel_trans (hs1_0) hs1_1) hs1_2) (Nat.le_refl _) _ _ _) (dan_res3 x_A (blk_on hq1_2 (blk_on hq1_1 (heap_a1d x0 (.cells #[.bool false,.slice none 0 0,.int .i64 0] 30)))) _ _ _) 
set_option maxRecDepth 100000 in
set_option maxHeartbeats 2000000 in
theorem refusal1W {ao bo:Option Addr} {n ca cb g:Nat} (way:Int) (hw:0 <= way∧way <= 3) (w:World) (hg:w.heap[g]?=some (.cells #[.slice ao n ca] 22 (0,0))) (hn:n <= 4096) (H:Hold4 w) :
    Calls Tryd.prog 27 #[.int .i64 way,.slice (some ⟨g,0,none⟩) 1 1] w fun r w'=>r=.returned (.int .i64 0)∧Below w.heap.size w w':=by
  have CT:Hid (∀ W,Hold4 W->Calls Tryd.prog 47 #[.agg #[.bool false,.slice none 0 0,.int .i64 0],.int .i64 way] W fun r w'=>r=.returned (.tuple #[.int .i64 0,.bool false,.int .i64 0])∧Below W.heap.size W w'):=fun W h=>by
    have ok0:okR ⟨false,none,0,0,fun _=>0,0⟩=true:=by decide
    have:=to_ok way hw ⟨false,none,0,0,fun _=>0,0⟩ W ⟨Nat.le_refl _,by decide,fun _=>rfl,fun q=>by cases q⟩ ok0 h.env h.tab
    have e:=to_zero ok0 rfl way
    unfold toR at e
    rw [e] at this
    exact this
  have h1:¬ (4096:Int) < (n:Int):=by omega
  go_enter Tryd.func27,Tryd.ntmps27
  go_wp2_with fail
  refine (CT.out _ H).mono ?_
  rintro _ y1 ⟨rfl,hw1⟩
  replace hg:=blk_on hw1 hg
  go_wp2_with fail
  go_loopw [22] (fun iv wr=>∃ k:Nat,k <= 1∧iv=.int .i64 k∧Below y1.heap.size y1 wr) (fun iv _=>1 - (intOf iv).toNat)
  case atStart=>exact ⟨0,by omega,rfl,bel_refl _⟩
  case round=>
    obtain ⟨k,hk,rfl,hbw⟩:=hrel
    have hg':=blk_on hbw hg
    have c0:=blkC hg' 0 rfl
    rcases (show k=0∨k=1 by omega) with rfl | rfl
    . go_wp2
      go_roundw
      case rel=>exact ⟨0 + 1,by omega,by go_num,hbw⟩
      case measure=>simp [intOf]
    . go_wp2
      go_ret
      exact ⟨rfl,bel_trans hw1 hbw⟩
set_option maxRecDepth 100000 in
set_option maxHeartbeats 4000000 in
theorem sum1W {ao:Option Addr} {n ca gl:Nat} {a:Nat->Int} (way:Int) (hw:0 <= way∧way <= 3) (w:World) (l_k:w.heap[gl]?=some (.cells #[.slice ao n ca] 22 (0,0))) (RA:Row w ao n ca a) (fa:∀ i,i < n->rng (a i)∧pok (a i)=true) (hn:n <= 4096) (H:Hold4 w) :
    Calls Tryd.prog 44 #[.agg #[.func (.func 73) #[] #[],.func (.func 12) #[] #[],.func (.func 19) #[] #[],.func (.func 47) #[] #[]],.int .i64 way,.slice (some ⟨gl,0,none⟩) 1 1] w fun r w'=>∃ x:NumR,r=.returned (.tuple #[.int .i64 (toR way x).1,.int .i64 0])∧okR x=true∧x.V=sumF (fun i=>patV (a i)) n∧Below w.heap.size w w':=by
  have hst:∀ p F c m w,(store p (.func (.func F) #[] c) m).run Tryd.prog w=stored Tryd.prog w p (.func (.func F) #[] c) m:=fun p F c m w=>run_store _ w p _ m rfl
  have hE:∀ (cap:Array Value) (w:World),(callFunc 47 cap).run Tryd.prog w=.ok (.enter 47 cap) w:=by intro cap w; simp [go_sem]
  have C1:Hid (∀ W,Below w.heap.size w W->Calls Tryd.prog 27 #[.int .i64 way,.slice (some ⟨gl,0,none⟩) 1 1] W fun r w'=>r=.returned (.int .i64 0)∧Below W.heap.size W w'):=fun W h=>refusal1W (bo:=none) (cb:=0) way hw W (blk_on h l_k) (by omega) (H.keeps h)
  have C2:Hid (∀ W,Below w.heap.size w W->Calls Tryd.prog 71 #[.agg #[.func (.func 73) #[] #[],.func (.func 12) #[] #[],.func (.func 19) #[] #[],.func (.func 47) #[] #[]],.slice (some ⟨gl,0,none⟩) 1 1] W fun r w'=>r=.returned (.float .f64 0)∧Below W.heap.size W w'):=fun W h=>strays1 W (blk_on h l_k) (RA.keeps h) fa
  have C3:Hid (∀ W,Below w.heap.size w W->Calls Tryd.prog 72 #[.agg #[.func (.func 73) #[] #[],.func (.func 12) #[] #[],.func (.func 19) #[] #[],.func (.func 47) #[] #[]],.slice (some ⟨gl,0,none⟩) 1 1] W fun r w'=>∃ (x:NumR),r=.returned (.agg #[.bool x.ng,.slice x.ao x.n x.cap,.int .i64 x.e])∧okR x=true∧x.V=sumF (fun i=>patV (a i)) n∧(∀ W2,Below w'.heap.size w' W2->Calls Tryd.prog 47 #[.agg #[.bool x.ng,.slice x.ao x.n x.cap,.int .i64 x.e],.int .i64 way] W2 fun r2 w2=>r2=.returned (.tuple #[.int .i64 (toR way x).1,.bool (toR way x).2,.int .i64 0])∧Below W2.heap.size W2 w2)∧Below W.heap.size W w'):=fun W h=>by
    refine (total1F W (blk_on h l_k) (RA.keeps h) (fun i hi=>(fa i hi).2) (by omega) (H.keeps h)).mono ?_
    rintro _ w' ⟨v,rfl,hD,hB,hb⟩
    obtain ⟨x,rfl,hR,ok,hV⟩:=hD.open (hB.ok (by omega))
    refine ⟨x,rfl,ok,hV,fun W2 h2=>?_,hb⟩
    have H2:=H.keeps (bel_trans h (bel_trans hb h2))
    exact to_ok way hw x W2 (hR.keeps h2) ok H2.env H2.tab
  clear RA fa H
  generalize sumF (fun i=>patV (a i)) n=sv at *
  have ho:FloatKind.f64.format.order 0 0=some .eq:=by decide +kernel
  have hb0:=bel_alloc w (.cells #[.func (.func 73) #[] #[],.func (.func 12) #[] #[],.func (.func 19) #[] #[],.func (.func 47) #[] #[]] 92)
  have b_k:=heap_a1 w (.cells #[.func (.func 73) #[] #[],.func (.func 12) #[] #[],.func (.func 19) #[] #[],.func (.func 47) #[] #[]] 92)
  clear hw
  go_enter Tryd.func44,Tryd.ntmps44
  go_wp2_with fail
  generalize w.alloc (.cells #[.func (.func 73) #[] #[],.func (.func 12) #[] #[],.func (.func 19) #[] #[],.func (.func 47) #[] #[]] 92)=x0 at hb0 b_k ⊢
  refine (C1.out _ hb0).mono ?_
  rintro _ y1 ⟨rfl,hw1⟩
  replace b_k:=blk_on hw1 b_k
  replace hb0:=bel_trans hb0 hw1
  have f0:=blkC b_k 0 rfl
  have f1:=blkC b_k 1 rfl
  have f2:=blkC b_k 2 rfl
  have f3:=blkC b_k 3 rfl
  go_wp2_with fail
  clear f0 f1 f2 f3
  refine (C2.out _ hb0).mono ?_
  rintro _ y2 ⟨rfl,hw2⟩
  replace b_k:=blk_on hw2 b_k
  replace hb0:=bel_trans hb0 hw2
  go_wp2_with fail
  have KK:∀ W,Below y2.heap.size y2 W->W.cell? ⟨w.heap.size,0,none⟩=some (.func (.func 73) #[] #[])∧W.cell? ⟨w.heap.size,1,none⟩=some (.func (.func 12) #[] #[])∧W.cell? ⟨w.heap.size,2,none⟩=some (.func (.func 19) #[] #[])∧W.cell? ⟨w.heap.size,3,none⟩=some (.func (.func 47) #[] #[]):=fun W hb=>⟨q_cell (blkC b_k 0 rfl) hb,q_cell (blkC b_k 1 rfl) hb,q_cell (blkC b_k 2 rfl) hb,q_cell (blkC b_k 3 rfl) hb⟩
  have hC0:=(bel_refl y2).drew
  go_region_held3 (fun W=>W.cell? ⟨w.heap.size,0,none⟩=some (.func (.func 73) #[] #[])∧W.cell? ⟨w.heap.size,1,none⟩=some (.func (.func 12) #[] #[])∧W.cell? ⟨w.heap.size,2,none⟩=some (.func (.func 19) #[] #[])∧W.cell? ⟨w.heap.size,3,none⟩=some (.func (.func 47) #[] #[]))
    (with_reducible first | assumption | exact KK _ hC0 | exact KK _ hC1 | exact KK _ hC2 | fail)
    (first
      | (go_at_call 47; refine (CT _ (bel_refl _)).mono ?_; rintro _ y4 ⟨rfl,hq2⟩; have hC2:=bel_trans hC1 hq2)
      | (go_at_call 72; refine (C3.out _ (bel_trans hb0 hC0)).mono ?_; rintro _ y3 ⟨x,rfl,ok,hV,CT,hq1⟩; have hC1:=bel_trans hC0 hq1))
  all_goals go_wp2
  all_goals exact bodyPost_ret (v:=.tuple #[.int .i64 (toR way x).1,.int .i64 0]) (by simp [results,Tryd.results44,go_sem]) rfl ⟨x,rfl,ok,hV,bel_trans hb0 hC2⟩
set_option maxRecDepth 100000 in
set_option maxHeartbeats 2000000 in
theorem sumF1 {ao:Option Addr} {n ca:Nat} {a:Nat->Int} (way:Int) (hw:0 <= way∧way <= 3) (w:World) (RA:Row w ao n ca a) (fa:∀ i,i < n->rng (a i)∧pok (a i)=true) (hn:n <= 4096) (H:Hold4 w) :
    Calls Tryd.prog 21 #[.slice ao n ca,.int .i64 way] w fun r w'=>∃ x:NumR,r=.returned (.tuple #[.int .i64 (toR way x).1,.int .i64 0])∧okR x=true∧x.V=sumF (fun i=>patV (a i)) n∧Below w.heap.size w w':=by
  have C1:Hid (∀ W,Calls Tryd.prog 45 #[] W fun r w'=>r=.returned (.agg #[.func (.func 73) #[] #[],.func (.func 12) #[] #[],.func (.func 19) #[] #[],.func (.func 47) #[] #[]])∧Below W.heap.size W w'):=fun W=>binary64F W
  have C2:Hid (∀ W gl,Below w.heap.size w W->W.heap[gl]?=some (.cells #[.slice ao n ca] 22 (0,0))->Calls Tryd.prog 44 #[.agg #[.func (.func 73) #[] #[],.func (.func 12) #[] #[],.func (.func 19) #[] #[],.func (.func 47) #[] #[]],.int .i64 way,.slice (some ⟨gl,0,none⟩) 1 1] W fun r w'=>∃ x:NumR,r=.returned (.tuple #[.int .i64 (toR way x).1,.int .i64 0])∧okR x=true∧x.V=sumF (fun i=>patV (a i)) n∧Below W.heap.size W w'):=fun W gl h hl=>sum1W way hw W hl (RA.keeps h) fa hn (H.keeps h)
  clear RA fa H hw
  generalize sumF (fun i=>patV (a i)) n=sv at *
  go_enter Tryd.func21,Tryd.ntmps21
  go_wp2_with fail
  refine (C1.out _).mono ?_
  rintro _ y1 ⟨rfl,hw1⟩
  go_wp2_with fail
  refine (C2.out _ _ (bel_trans hw1 (bel_alloc y1 (.cells #[.slice ao n ca] 22))) (heap_a1 y1 (.cells #[.slice ao n ca] 22))).mono ?_
  rintro _ y2 ⟨x,rfl,ok,hV,hw2⟩
  go_wp2
  exact bodyPost_ret (v:=.tuple #[.int .i64 (toR way x).1,.int .i64 0]) (by simp [results,Tryd.results21,go_sem]) rfl ⟨x,rfl,ok,hV,bel_trans hw1 (bel_trans (bel_alloc y1 (.cells #[.slice ao n ca] 22)) hw2)⟩
set_option maxRecDepth 100000 in
set_option maxHeartbeats 2000000 in
theorem refusal2W {ao bo:Option Addr} {n ca cb g:Nat} (way:Int) (hw:0 <= way∧way <= 3) (w:World) (hg:w.heap[g]?=some (.cells #[.slice ao n ca,.slice bo n cb] 22 (0,0))) (hn:n <= 4096) (H:Hold4 w) :
    Calls Tryd.prog 27 #[.int .i64 way,.slice (some ⟨g,0,none⟩) 2 2] w fun r w'=>r=.returned (.int .i64 0)∧Below w.heap.size w w':=by
  have CT:Hid (∀ W,Hold4 W->Calls Tryd.prog 47 #[.agg #[.bool false,.slice none 0 0,.int .i64 0],.int .i64 way] W fun r w'=>r=.returned (.tuple #[.int .i64 0,.bool false,.int .i64 0])∧Below W.heap.size W w'):=fun W h=>by
    have ok0:okR ⟨false,none,0,0,fun _=>0,0⟩=true:=by decide
    have:=to_ok way hw ⟨false,none,0,0,fun _=>0,0⟩ W ⟨Nat.le_refl _,by decide,fun _=>rfl,fun q=>by cases q⟩ ok0 h.env h.tab
    have e:=to_zero ok0 rfl way
    unfold toR at e
    rw [e] at this
    exact this
  have h1:¬ (4096:Int) < (n:Int):=by omega
  go_enter Tryd.func27,Tryd.ntmps27
  go_wp2_with fail
  refine (CT.out _ H).mono ?_
  rintro _ y1 ⟨rfl,hw1⟩
  replace hg:=blk_on hw1 hg
  go_wp2_with fail
  go_loopw [22] (fun iv wr=>∃ k:Nat,k <= 2∧iv=.int .i64 k∧Below y1.heap.size y1 wr) (fun iv _=>2 - (intOf iv).toNat)
  case atStart=>exact ⟨0,by omega,rfl,bel_refl _⟩
  case round=>
    obtain ⟨k,hk,rfl,hbw⟩:=hrel
    have hg':=blk_on hbw hg
    have c0:=blkC hg' 0 rfl
    have c1:=blkC hg' 1 rfl
    rcases (show k=0∨k=1∨k=2 by omega) with rfl | rfl | rfl
    . go_wp2
      go_roundw
      case rel=>exact ⟨0 + 1,by omega,by go_num,hbw⟩
      case measure=>simp [intOf]
    . go_wp2
      go_roundw
      case rel=>exact ⟨1 + 1,by omega,by go_num,hbw⟩
      case measure=>simp [intOf]
    . go_wp2
      go_ret
      exact ⟨rfl,bel_trans hw1 hbw⟩
set_option maxRecDepth 100000 in
set_option maxHeartbeats 4000000 in
theorem sum2W {ao bo:Option Addr} {n ca cb gl:Nat} {a b:Nat->Int} (way:Int) (hw:0 <= way∧way <= 3) (w:World) (l_k:w.heap[gl]?=some (.cells #[.slice ao n ca,.slice bo n cb] 22 (0,0))) (RA:Row w ao n ca a) (RB:Row w bo n cb b) (fa:∀ i,i < n->rng (a i)∧pok (a i)=true) (fb:∀ i,i < n->rng (b i)∧pok (b i)=true) (hn:n <= 4096) (H:Hold4 w) :
    Calls Tryd.prog 44 #[.agg #[.func (.func 73) #[] #[],.func (.func 12) #[] #[],.func (.func 19) #[] #[],.func (.func 47) #[] #[]],.int .i64 way,.slice (some ⟨gl,0,none⟩) 2 2] w fun r w'=>∃ x:NumR,r=.returned (.tuple #[.int .i64 (toR way x).1,.int .i64 0])∧okR x=true∧x.V * 2 ^ 4194304=sumF (fun i=>patV (a i) * patV (b i)) n∧Below w.heap.size w w':=by
  have hst:∀ p F c m w,(store p (.func (.func F) #[] c) m).run Tryd.prog w=stored Tryd.prog w p (.func (.func F) #[] c) m:=fun p F c m w=>run_store _ w p _ m rfl
  have hE:∀ (cap:Array Value) (w:World),(callFunc 47 cap).run Tryd.prog w=.ok (.enter 47 cap) w:=by intro cap w; simp [go_sem]
  have C1:Hid (∀ W,Below w.heap.size w W->Calls Tryd.prog 27 #[.int .i64 way,.slice (some ⟨gl,0,none⟩) 2 2] W fun r w'=>r=.returned (.int .i64 0)∧Below W.heap.size W w'):=fun W h=>refusal2W way hw W (blk_on h l_k) (by omega) (H.keeps h)
  have C2:Hid (∀ W,Below w.heap.size w W->Calls Tryd.prog 71 #[.agg #[.func (.func 73) #[] #[],.func (.func 12) #[] #[],.func (.func 19) #[] #[],.func (.func 47) #[] #[]],.slice (some ⟨gl,0,none⟩) 2 2] W fun r w'=>r=.returned (.float .f64 0)∧Below W.heap.size W w'):=fun W h=>strays2 W (blk_on h l_k) (RA.keeps h) (RB.keeps h) fa fb
  have C3:Hid (∀ W,Below w.heap.size w W->Calls Tryd.prog 72 #[.agg #[.func (.func 73) #[] #[],.func (.func 12) #[] #[],.func (.func 19) #[] #[],.func (.func 47) #[] #[]],.slice (some ⟨gl,0,none⟩) 2 2] W fun r w'=>∃ (x:NumR),r=.returned (.agg #[.bool x.ng,.slice x.ao x.n x.cap,.int .i64 x.e])∧okR x=true∧x.V * 2 ^ 4194304=sumF (fun i=>patV (a i) * patV (b i)) n∧(∀ W2,Below w'.heap.size w' W2->Calls Tryd.prog 47 #[.agg #[.bool x.ng,.slice x.ao x.n x.cap,.int .i64 x.e],.int .i64 way] W2 fun r2 w2=>r2=.returned (.tuple #[.int .i64 (toR way x).1,.bool (toR way x).2,.int .i64 0])∧Below W2.heap.size W2 w2)∧Below W.heap.size W w'):=fun W h=>by
    refine (totalF W (blk_on h l_k) (RA.keeps h) (RB.keeps h) (fun i hi=>(fa i hi).2) (fun i hi=>(fb i hi).2) (by omega) (H.keeps h)).mono ?_
    rintro _ w' ⟨v,V,rfl,hD,hV,hB,hb⟩
    obtain ⟨x,rfl,hR,ok,rfl⟩:=hD.open (hB.ok (by omega))
    refine ⟨x,rfl,ok,hV,fun W2 h2=>?_,hb⟩
    have H2:=H.keeps (bel_trans h (bel_trans hb h2))
    exact to_ok way hw x W2 (hR.keeps h2) ok H2.env H2.tab
  clear RA RB fa fb H
  generalize sumF (fun i=>patV (a i) * patV (b i)) n=sv at *
  have ho:FloatKind.f64.format.order 0 0=some .eq:=by decide +kernel
  have hb0:=bel_alloc w (.cells #[.func (.func 73) #[] #[],.func (.func 12) #[] #[],.func (.func 19) #[] #[],.func (.func 47) #[] #[]] 92)
  have b_k:=heap_a1 w (.cells #[.func (.func 73) #[] #[],.func (.func 12) #[] #[],.func (.func 19) #[] #[],.func (.func 47) #[] #[]] 92)
  clear hw
  go_enter Tryd.func44,Tryd.ntmps44
  go_wp2_with fail
  generalize w.alloc (.cells #[.func (.func 73) #[] #[],.func (.func 12) #[] #[],.func (.func 19) #[] #[],.func (.func 47) #[] #[]] 92)=x0 at hb0 b_k ⊢
  refine (C1.out _ hb0).mono ?_
  rintro _ y1 ⟨rfl,hw1⟩
  replace b_k:=blk_on hw1 b_k
  replace hb0:=bel_trans hb0 hw1
  have f0:=blkC b_k 0 rfl
  have f1:=blkC b_k 1 rfl
  have f2:=blkC b_k 2 rfl
  have f3:=blkC b_k 3 rfl
  go_wp2_with fail
  clear f0 f1 f2 f3
  refine (C2.out _ hb0).mono ?_
  rintro _ y2 ⟨rfl,hw2⟩
  replace b_k:=blk_on hw2 b_k
  replace hb0:=bel_trans hb0 hw2
  go_wp2_with fail
  have KK:∀ W,Below y2.heap.size y2 W->W.cell? ⟨w.heap.size,0,none⟩=some (.func (.func 73) #[] #[])∧W.cell? ⟨w.heap.size,1,none⟩=some (.func (.func 12) #[] #[])∧W.cell? ⟨w.heap.size,2,none⟩=some (.func (.func 19) #[] #[])∧W.cell? ⟨w.heap.size,3,none⟩=some (.func (.func 47) #[] #[]):=fun W hb=>⟨q_cell (blkC b_k 0 rfl) hb,q_cell (blkC b_k 1 rfl) hb,q_cell (blkC b_k 2 rfl) hb,q_cell (blkC b_k 3 rfl) hb⟩
  have hC0:=(bel_refl y2).drew
  go_region_held3 (fun W=>W.cell? ⟨w.heap.size,0,none⟩=some (.func (.func 73) #[] #[])∧W.cell? ⟨w.heap.size,1,none⟩=some (.func (.func 12) #[] #[])∧W.cell? ⟨w.heap.size,2,none⟩=some (.func (.func 19) #[] #[])∧W.cell? ⟨w.heap.size,3,none⟩=some (.func (.func 47) #[] #[]))
    (with_reducible first | assumption | exact KK _ hC0 | exact KK _ hC1 | exact KK _ hC2 | fail)
    (first
      | (go_at_call 47; refine (CT _ (bel_refl _)).mono ?_; rintro _ y4 ⟨rfl,hq2⟩; have hC2:=bel_trans hC1 hq2)
      | (go_at_call 72; refine (C3.out _ (bel_trans hb0 hC0)).mono ?_; rintro _ y3 ⟨x,rfl,ok,hV,CT,hq1⟩; have hC1:=bel_trans hC0 hq1))
  all_goals go_wp2
  all_goals exact bodyPost_ret (v:=.tuple #[.int .i64 (toR way x).1,.int .i64 0]) (by simp [results,Tryd.results44,go_sem]) rfl ⟨x,rfl,ok,hV,bel_trans hb0 hC2⟩
set_option maxRecDepth 100000 in
set_option maxHeartbeats 2000000 in
theorem dotFW {ao bo:Option Addr} {n ca cb:Nat} {a b:Nat->Int} (way:Int) (hw:0 <= way∧way <= 3) (w:World) (RA:Row w ao n ca a) (RB:Row w bo n cb b) (fa:∀ i,i < n->rng (a i)∧pok (a i)=true) (fb:∀ i,i < n->rng (b i)∧pok (b i)=true) (hn:n <= 4096) (H:Hold4 w) :
    Calls Tryd.prog 22 #[.slice ao n ca,.slice bo n cb,.int .i64 way] w fun r w'=>∃ x:NumR,r=.returned (.tuple #[.int .i64 (toR way x).1,.int .i64 0])∧okR x=true∧x.V * 2 ^ 4194304=sumF (fun i=>patV (a i) * patV (b i)) n∧Below w.heap.size w w':=by
  have C1:Hid (∀ W,Calls Tryd.prog 45 #[] W fun r w'=>r=.returned (.agg #[.func (.func 73) #[] #[],.func (.func 12) #[] #[],.func (.func 19) #[] #[],.func (.func 47) #[] #[]])∧Below W.heap.size W w'):=fun W=>binary64F W
  have C2:Hid (∀ W gl,Below w.heap.size w W->W.heap[gl]?=some (.cells #[.slice ao n ca,.slice bo n cb] 22 (0,0))->Calls Tryd.prog 44 #[.agg #[.func (.func 73) #[] #[],.func (.func 12) #[] #[],.func (.func 19) #[] #[],.func (.func 47) #[] #[]],.int .i64 way,.slice (some ⟨gl,0,none⟩) 2 2] W fun r w'=>∃ x:NumR,r=.returned (.tuple #[.int .i64 (toR way x).1,.int .i64 0])∧okR x=true∧x.V * 2 ^ 4194304=sumF (fun i=>patV (a i) * patV (b i)) n∧Below W.heap.size W w'):=fun W gl h hl=>sum2W way hw W hl (RA.keeps h) (RB.keeps h) fa fb hn (H.keeps h)
  clear RA RB fa fb H hw
  generalize sumF (fun i=>patV (a i) * patV (b i)) n=sv at *
  go_enter Tryd.func22,Tryd.ntmps22
  go_wp2_with fail
  refine (C1.out _).mono ?_
  rintro _ y1 ⟨rfl,hw1⟩
  go_wp2_with fail
  refine (C2.out _ _ (bel_trans hw1 (bel_alloc y1 (.cells #[.slice ao n ca,.slice bo n cb] 22))) (heap_a1 y1 (.cells #[.slice ao n ca,.slice bo n cb] 22))).mono ?_
  rintro _ y2 ⟨x,rfl,ok,hV,hw2⟩
  go_wp2
  exact bodyPost_ret (v:=.tuple #[.int .i64 (toR way x).1,.int .i64 0]) (by simp [results,Tryd.results22,go_sem]) rfl ⟨x,rfl,ok,hV,bel_trans hw1 (bel_trans (bel_alloc y1 (.cells #[.slice ao n ca,.slice bo n cb] 22)) hw2)⟩
theorem OutN.congr' {B:Nat} {w:World} {x:Value} {m:Nat} {f f':Nat->Value} (h:OutN B w x m f) (he:∀ i,i < m->f i=f' i):OutN B w x m f':=by
  unfold OutN at h ⊢
  rwa [<- cells3_congr m he]
set_option maxRecDepth 100000 in
set_option maxHeartbeats 4000000 in
theorem tot5 {ao:Option Addr} {n ca:Nat} {a:Nat->Int} (w:World) (R:Row w ao n ca a) (fa:∀ i,i < n->pok (a i)=true) (hn:n <= 1000) (H:Hold4 w) :
    Calls Tryd.prog 8 #[.slice ao n ca] w fun r w'=>∃ x:NumR,r=.returned x.v∧Row w' x.ao x.n x.cap x.d∧okR x=true∧x.V=sumF (fun i=>patV (a i)) n∧Below w.heap.size w w':=by
  have hla:=R.le
  have hma:=R.max
  have hb0:=bel_alloc w (.cells #[.bool false,.slice none 0 0,.int .i64 0] 30)
  have r_k:=heap_a1 w (.cells #[.bool false,.slice none 0 0,.int .i64 0] 30)
  have HX:Hid (Bd 9000 (sumF (fun i=>patV (a i)) n)):=patV_sbd n (by omega) fa
  go_enter Tryd.func8,Tryd.ntmps8
  go_wp2
  have HS0:Hid ((w.alloc (.cells #[.bool false,.slice none 0 0,.int .i64 0] 30)).heap.size=w.heap.size + 1):=size_alloc _ _
  generalize w.alloc (.cells #[.bool false,.slice none 0 0,.int .i64 0] 30)=x0 at hb0 r_k HS0 ⊢
  go_loopw [3,4] (fun o i wr=>∃ (k:Nat) (f:Nat->Value),k <= n∧i=.int .i64 k∧Hid (OutN x0.heap.size wr o k f)∧Hid (∀ j,j < k->DAn x0.heap.size wr (patV (a j)) (f j))∧Below x0.heap.size x0 wr) (fun _ i _=>n - (intOf i).toNat)
  case atStart=>exact ⟨0,fun _=>undef,Nat.zero_le _,rfl,OutN.nil _ _ _,fun j hj=>by omega,bel_refl _⟩
  case round=>
    obtain ⟨k,f,hk,rfl,HO,HV,hbw⟩:=hrel
    by_cases hlt:k < n
    . have j0:(k:Int) < (n:Int):=by omega
      have j1:(0:Int) <= (k:Int):=by omega
      obtain ⟨ba,oa,rfl,hba,hca⟩:=R.spot (by omega)
      have c0:=q_cell (hca k hlt) (bel_trans hb0 hbw)
      have CO:Hid (∀ W,Hold4 W->Calls Tryd.prog 19 #[.int .i64 (a k)] W fun r w'=>∃ v,r=.returned (.tuple #[v,.int .i64 0])∧DAns W w' (patV (a k)) v):=fun W h=>of_ok (fa k hlt) h
      have H0:Hid (Hold4 wr):=H.keeps (bel_trans hb0 hbw)
      clear hca
      go_wp2_with fail
      refine (CO.out _ H0.out).mono ?_
      rintro _ w1 ⟨v,rfl,hA⟩
      obtain ⟨x_g,x_o,x_n,x_c,x_e,rfl⟩:=dans_shape hA
      have hw1:=hA.below
      have nA:DAn x0.heap.size w1 (patV (a k)) (.agg #[.bool x_g,.slice x_o x_n x_c,.int .i64 x_e]):=hA.dan.lower hbw.size
      have HA:Hid (DAn x0.heap.size w1 (patV (a k)) (.agg #[.bool x_g,.slice x_o x_n x_c,.int .i64 x_e])):=nA
      clear hA nA
      have hbw1:=bel_trans hbw hw1
      have hbx:=bel_alloc w1 (.cells #[.bool x_g,.slice x_o x_n x_c,.int .i64 x_e] 30)
      have x_k:=heap_a1 w1 (.cells #[.bool x_g,.slice x_o x_n x_c,.int .i64 x_e] 30)
      have f0:=blkC x_k 0 rfl
      have f1:=blkC x_k 1 rfl
      have f2:=blkC x_k 2 rfl
      go_wp2_with (at_builtin; have HO2:=((HO.out.keeps hw1).keeps hbx).keeps (bel_alloc (w1.alloc (.cells #[.bool x_g,.slice x_o x_n x_c,.int .i64 x_e] 30)) (.cells #[.bool x_g,.slice x_o x_n x_c,.int .i64 x_e] 30)); refine wpList_appN rfl _ _ rfl x0.heap.size _ k f rfl HO2 _ 1 1 (fun _=>(.agg #[.bool x_g,.slice x_o x_n x_c,.int .i64 x_e])) (fun _ _=>⟨_,_,_,_,_,rfl⟩) rfl (lit_cells rfl (heap_b2 _ _ _)) (by omega) (by have:=hbw1.size; simp; omega) ?_; intro v' w3 hO3 hg3 hv3)
      have hb2:=bel_trans hbw1 (bel_alloc2 w1 (.cells #[.bool x_g,.slice x_o x_n x_c,.int .i64 x_e] 30) (.cells #[.bool x_g,.slice x_o x_n x_c,.int .i64 x_e] 30))
      have hb3:Below x0.heap.size x0 w3:=hb2.grown hg3 hb2.size (fun g hg=>(HO.out.typed hg).1)
      have HG:=grown_ints hg3 (fun g hg=>(HO2.typed hg).2.2)
      go_roundw
      case rel=>
        refine ⟨k + 1,updV f k (.agg #[.bool x_g,.slice x_o x_n x_c,.int .i64 x_e]),by omega,by go_num,?_,fun j hj=>?_,hb3⟩
        . refine OutN.congr' hO3 fun i hi=>?_
          by_cases e:i=k
          . subst e; rw [updV_same,if_neg (by omega)]
          . rw [updV_other _ _ e,if_pos (by omega)]
        . by_cases e:j=k
          . subst e; rw [updV_same]; exact (HA.out.keeps (bel_alloc2 w1 _ _)).of_blocks HG
          . rw [updV_other _ _ e]; exact (((HV.out j (by omega)).keeps hw1).keeps (bel_alloc2 w1 _ _)).of_blocks HG
      case measure=>simp [intOf]; omega
    . obtain rfl:k=n:=by omega
      have j0:¬ (k:Int) < (k:Int):=by omega
      have r_k:=(hbw.block _ (Array.getElem?_eq_some_iff.1 r_k).1).trans r_k
      have CS:=sum_own (V:=fun i=>patV (a i)) HO.out (fun i hi=>⟨(HV.out i hi).num,patV_bd (fa i hi)⟩) hn (by omega) (H.keeps (bel_trans hb0 hbw)).tab
      have HCS:=hideIt CS
      clear CS
      have HX:=HX
      obtain ⟨sv,hsv⟩:∃ s,sumF (fun i=>patV (a i)) k=s:=⟨_,rfl⟩
      rw [hsv] at HCS HX
      have HSV:Hid (sumF (fun i=>patV (a i)) k=sv):=hsv
      clear hsv
      go_wp2_with fail
      refine HCS.out.mono ?_
      rintro _ w1 ⟨v,rfl,hA⟩
      obtain ⟨x_g,x_o,x_n,x_c,x_e,rfl⟩:=dans_shape hA
      have hw1:=hA.below
      have r_k:=(hw1.block _ (Array.getElem?_eq_some_iff.1 r_k).1).trans r_k
      have hbx:=bel_alloc w1 (.cells #[.bool x_g,.slice x_o x_n x_c,.int .i64 x_e] 30)
      have x_k:=heap_a1 w1 (.cells #[.bool x_g,.slice x_o x_n x_c,.int .i64 x_e] 30)
      have r_k:=(hbx.block _ (Array.getElem?_eq_some_iff.1 r_k).1).trans r_k
      have f0:=blkC x_k 0 rfl
      have f1:=blkC x_k 1 rfl
      have f2:=blkC x_k 2 rfl
      have k0:=blkC r_k 0 rfl
      have k1:=blkC r_k 1 rfl
      have k2:=blkC r_k 2 rfl
      have z0:=blkF r_k 0
      have z1:=blkF r_k 1
      have z2:=blkF r_k 2
      have hbE:=bel_trans hbw (bel_trans hw1 hbx)
      have x_A:=(hA.dan.lower hbw.size).keeps hbx
      go_wp2
      refine bodyPost_ret (v:=.agg #[.bool x_g,.slice x_o x_n x_c,.int .i64 x_e]) (by simp [results,Tryd.results8,go_sem,k0,k1,k2]) rfl ?_
      have hD:=(dan_res3 (x_A.lower (show w.heap.size <= x0.heap.size from hb0.size)) r_k (.bool x_g) (.slice x_o x_n x_c) (.int .i64 x_e)).num
      obtain ⟨x,hx,hR,ok,hV⟩:=hD.open (HX.out.ok (by omega))
      exact ⟨x,by rw [<- hx],hR,ok,hV.trans HSV.out.symm,bel_set3' (bel_trans hb0 hbE) (by omega) _ _ _⟩
def bRung32 (way:Int) (ng:Bool):Int:=if rUp way ng true 3 then 2139095040 else 2139095039
def patS32 (ng:Bool) (r:Int):Int:=if ng then r + 2147483648 else r
theorem or_inf32:bits BinOp.or IntKind.i64 2139095040 2147483648=4286578688:=by decide +kernel
theorem or_most32:bits BinOp.or IntKind.i64 2139095039 2147483648=4286578687:=by decide +kernel
set_option maxRecDepth 100000 in
set_option maxHeartbeats 1000000 in
theorem beyond32_any (way:Int) (hw:0 <= way∧way <= 3) (ng:Bool) (w:World) :
    Calls Tryd.prog 36 #[wayV way,.bool ng,.int .i64 2139095040,.int .i64 2147483648] w fun e w'=>e=.returned (.int .i64 (patS32 ng (bRung32 way ng)))∧Below w.heap.size w w':=by
  have hF:=wraise_any way hw
  have hE:=wraise_enter way
  unfold wayV bRung32
  generalize wayF way=F at hF hE ⊢
  have q0:=heap_alloc_new w (.cells #[.func (.func F) #[] #[]] 72)
  have k0:=blkC q0 0 rfl
  have o1:=or_inf32
  have o2:=or_most32
  obtain ⟨R,hR⟩:∃ R,rUp way ng true 3=R:=⟨_,rfl⟩
  have hFF:=hF ng true 3
  rw [hR] at hFF ⊢
  clear hR hF
  cases ng <;> cases R
  all_goals
    unfold patS32
    go_enter Tryd.func36,Tryd.ntmps36
    go_wp2_with (first | (refine (hFF _).mono ?_; rintro _ _ ⟨rfl,rfl⟩))
    all_goals go_ret
    all_goals exact ⟨by simp,bel_alloc _ _⟩
def r32 (way:Int) (ng sd:Bool) (mag:Nat) (exp:Int) (cut:Bool):Int × Bool :=
  let E:=rE 24 (-149) mag exp
  let u:=rU mag (E - exp)
  let left:=rL mag cut (E - exp)
  let U:=u + (if rUp way ng (decide (u % 2=1)) left then 1 else 0)
  let neg:=ng && (decide (0 < U) || sd)
  if jk 23 255 (-149) U E then (jp32 neg U E,decide (left ≠ 0)) else (patS32 neg (bRung32 way neg),true)
set_option maxRecDepth 100000 in
set_option maxHeartbeats 1000000 in
theorem binary32_any (way:Int) (hw:0 <= way∧way <= 3) (ng sd:Bool) (mag:Nat) (exp:Int) (cut:Bool) (w:World) (Ev:Env w) (hm:mag < 18446744073709551616) (he:-4500000 <= exp∧exp <= 4500000) :
    Calls Tryd.prog 17 #[valV ng mag exp cut sd,wayV way] w fun e w'=>e=.returned (.tuple #[.int .i64 (r32 way ng sd mag exp cut).1,.bool (r32 way ng sd mag exp cut).2])∧Below w.heap.size w w':=by
  have e64:(2:Nat) ^ 64=18446744073709551616:=by decide
  have e24:(2:Nat) ^ (24:Int).toNat=16777216:=by decide
  have hE:-5000000 <= rE 24 (-149) mag exp∧rE 24 (-149) mag exp <= 5000000:=by
    have hbl:Lib.bitLen mag <= 64:=by
      by_cases h0:mag=0
      . rw [h0]; decide
      . exact (M.bitLen_spec mag (by omega) h0).2.2.2
    unfold rE
    omega
  have hu:rU mag (rE 24 (-149) mag exp - exp) <= 16777215:=by
    by_cases h0:mag=0
    . rw [h0]; unfold rU; split <;> simp
    . have:=(rU_bits (size:=24) (low:=-149) (exp:=exp) (by decide) (by omega) h0).1
      rw [e24] at this
      omega
  have hUn:=fun W=>units_any way hw ng mag exp (rE 24 (-149) mag exp) cut sd W hm hE (by omega) (by omega)
  have HR:r32 way ng sd mag exp cut=(let E:=rE 24 (-149) mag exp
    let u:=rU mag (E - exp)
    let left:=rL mag cut (E - exp)
    let U:=u + (if rUp way ng (decide (u % 2=1)) left then 1 else 0)
    let neg:=ng && (decide (0 < U) || sd)
    if jk 23 255 (-149) U E then (jp32 neg U E,decide (left ≠ 0)) else (patS32 neg (bRung32 way neg),true)):=rfl
  simp only at HR
  have hEE:rE 24 (-149) mag exp=rE 24 (-149) mag exp:=rfl
  obtain ⟨E,hEq⟩:∃ E,rE 24 (-149) mag exp=E:=⟨_,rfl⟩
  rw [hEq] at hE hu hUn HR
  obtain ⟨left,hleft⟩:∃ l,rL mag cut (E - exp)=l:=⟨_,rfl⟩
  rw [hleft] at hUn HR
  obtain ⟨U,hU⟩:∃ U,rU mag (E - exp) + (if rUp way ng (decide (rU mag (E - exp) % 2=1)) left then 1 else 0)=U:=⟨_,rfl⟩
  rw [hU] at hUn HR
  have hU2:U <= 16777216:=by rw [<- hU]; split <;> omega
  obtain ⟨neg,hneg⟩:∃ n,(ng && (decide (0 < U) || sd))=n:=⟨_,rfl⟩
  have hFl:=fun W=>float_F (wayF way) ng mag exp 24 (-149) cut sd U E (decide (left ≠ 0)) W hm he (by omega) (by omega) hEq (by omega) hUn
  rw [hneg] at hFl HR
  have hJ:=fun W (EW:Env W)=>bitsJoin32 neg (U:Int) E W EW (by unfold rng; omega) (by unfold rng; omega)
  have hB:=fun W=>beyond32_any way hw neg W
  obtain ⟨other,hoth⟩:∃ o,decide (left ≠ 0)=o:=⟨_,rfl⟩
  rw [hoth] at hFl HR
  obtain ⟨fin,hfin⟩:∃ f,jk 23 255 (-149) (U:Int) E=f:=⟨_,rfl⟩
  obtain ⟨pt,hpt⟩:∃ p,jp32 neg (U:Int) E=p:=⟨_,rfl⟩
  rw [hpt] at hJ HR
  rw [hfin] at hJ HR
  obtain ⟨by1,hby⟩:∃ b,patS32 neg (bRung32 way neg)=b:=⟨_,rfl⟩
  rw [hby] at hB HR
  rw [HR]
  have hUi:((U:Nat):Int)=((U:Nat):Int):=rfl
  have hb2:=bel_alloc2 w (.cells #[.bool ng,.int .u64 mag,.int .i64 exp,.bool cut,.bool sd] 52) (.cells #[.func (.func (wayF way)) #[] #[]] 72)
  have q1:=heap_b2 w (.cells #[.bool ng,.int .u64 mag,.int .i64 exp,.bool cut,.bool sd] 52) (.cells #[.func (.func (wayF way)) #[] #[]] 72)
  have k1:=blkC q1 0 rfl
  have HEV:Hid (Env w):=Ev
  clear Ev HR hUn hEq hleft hU hneg hoth hfin hpt hby hU2 hu hE hEE hUi e64 e24
  unfold wayV valV at *
  generalize wayF way=F at *
  go_enter Tryd.func17,Tryd.ntmps17
  go_wp2_with fail
  refine (hFl _).mono ?_
  rintro _ w1 ⟨rfl,hb1⟩
  have hbw:=bel_trans hb2 hb1
  have p1:=(hb1.block _ (Array.getElem?_eq_some_iff.1 q1).1).trans q1
  have k2:=blkC p1 0 rfl
  clear hFl hb2 hb1 q1 k1
  go_wp2_with fail
  refine (hJ _ (HEV.out.keeps hbw)).mono ?_
  rintro _ w2 ⟨rfl,hg⟩
  have hb2:=hg.be
  have hbw2:=bel_trans hbw hb2
  have p2:=(hb2.block _ (Array.getElem?_eq_some_iff.1 p1).1).trans p1
  have k3:=blkC p2 0 rfl
  clear hJ hg p1 p2 k2 hb2 hbw
  cases fin
  . go_wp2_with fail
    refine (hB _).mono ?_
    rintro _ w3 ⟨rfl,hb3⟩
    go_wp2
    all_goals go_ret2
    all_goals exact ⟨by simp,bel_trans hbw2 hb3⟩
  . go_wp2
    all_goals go_ret2
    all_goals exact ⟨by simp,hbw2⟩
set_option maxRecDepth 100000 in
set_option maxHeartbeats 1000000 in
theorem to32_ok (way:Int) (hw:0 <= way∧way <= 3) (x:NumR) (w:World) (hx:Row w x.ao x.n x.cap x.d) (ok:okR x=true) (Ev:Env w) (hT:Tab w) :
    Calls Tryd.prog 7 #[x.v,.int .i64 way] w fun e w'=>e=.returned (.tuple #[.int .i64 (r32 way x.ng false (val x.d x.n / 2 ^ vK (val x.d x.n)).toNat (x.e + vK (val x.d x.n)) (decide (val x.d x.n % 2 ^ vK (val x.d x.n) ≠ 0))).1,.bool (r32 way x.ng false (val x.d x.n / 2 ^ vK (val x.d x.n)).toNat (x.e + vK (val x.d x.n)) (decide (val x.d x.n % 2 ^ vK (val x.d x.n) ≠ 0))).2,.int .i64 0])∧Below w.heap.size w w':=by
  have hS:=okR_sane ok
  obtain ⟨na,hn,he0,he1⟩:=hS
  have hv0:=val_nonneg na.1
  have hbl:vK (val x.d x.n) <= 150000:=by have:=blen_nrm na; unfold vK; omega
  have hsm:=vK_small hv0
  have hEF:∀ (cap:Array Value) (w:World),(callFunc 17 cap).run Tryd.prog w=.ok (.enter 17 cap) w:=by
    intro cap w
    simp [go_sem]
  have hEG:∀ (cap:Array Value) (w:World),(callFunc 18 cap).run Tryd.prog w=.ok (.enter 18 cap) w:=by
    intro cap w
    simp [go_sem]
  have hmf:∀ (fn:Fn) (first cap:Array Value) (w:World),(Instr.makeFunc fn first cap).run Tryd.prog w=.ok (.func fn first cap) w:=fun _ _ _ _=>rfl
  have CR:=fun W (hb:Below w.heap.size w W) (g:Nat) (hg:W.heap[g]?=some (.cells #[.bool x.ng,.slice x.ao x.n x.cap,.int .i64 x.e] 30 (0,0)))=>rounded_ok way hw 17 18 (some ⟨g,0,none⟩) 1 1 (fun _=>x) W
    ⟨Nat.le_refl _,by decide,fun _=>⟨g,0,rfl,(Array.getElem?_eq_some_iff.1 hg).1,fun i hi=>by
      obtain rfl:i=0:=by omega
      exact ⟨blkC hg 0 rfl,blkC hg 1 rfl,blkC hg 2 rfl,hx.keeps hb⟩⟩⟩ (fun _ _=>ok) x.ng (val x.d x.n / 2 ^ vK (val x.d x.n)).toNat (x.e + vK (val x.d x.n)) (decide (val x.d x.n % 2 ^ vK (val x.d x.n) ≠ 0)) false _ _ hEF hEG
    (fun W2 hb2=>itself_any g 0 1 1 x.ng x.ao x.n x.cap x.d x.e W2 (cell_keeps (blkC hg 0 rfl) hb2) (cell_keeps (blkC hg 1 rfl) hb2) (cell_keeps (blkC hg 2 rfl) hb2) (by decide) ((hx.keeps hb).keeps hb2) na hn ⟨he0,he1⟩ ((hT.keeps hb).keeps hb2))
    (fun W2 hb2=>binary32_any way hw x.ng false _ _ _ W2 ((Ev.keeps hb).keeps hb2) (by omega) (by omega))
  generalize r32 way x.ng false (val x.d x.n / 2 ^ vK (val x.d x.n)).toNat (x.e + vK (val x.d x.n)) (decide (val x.d x.n % 2 ^ vK (val x.d x.n) ≠ 0))=R at CR ⊢
  have HCR:Hid _:=CR
  unfold NumR.v
  clear ok hsm hbl hv0 he0 he1 hn na hx
  obtain ⟨x_g,x_o,x_n,x_c,x_d,x_e⟩:=x
  simp only at *
  clear HCR
  have hb2:=bel_alloc2 w (.cells #[.bool x_g,.slice x_o x_n x_c,.int .i64 x_e] 30) (.cells #[.bool x_g,.slice x_o x_n x_c,.int .i64 x_e] 30)
  have q1:=heap_b2 w (.cells #[.bool x_g,.slice x_o x_n x_c,.int .i64 x_e] 30) (.cells #[.bool x_g,.slice x_o x_n x_c,.int .i64 x_e] 30)
  go_enter Tryd.func7,Tryd.ntmps7
  go_wp2_with fail
  refine (CR _ hb2 _ q1).mono ?_
  rintro _ w2 ⟨rfl,hb3⟩
  go_wp2
  all_goals refine bodyPost_ret (v:=.tuple #[.int .i64 R.1,.bool R.2,.int .i64 0]) (by simp [results,Tryd.results7,go_sem]) rfl ⟨rfl,bel_trans hb2 hb3⟩
def patV32 (b:Int):Int:=sg (pneg32 b) (pmag32 b) * pw (pexp32 b)
theorem patV32_bd {b:Int} (h:pok32 b=true):Bd 4000 (patV32 b):=by
  obtain ⟨i0,i1,i2,i3⟩:=pmag32_in h
  have h30:(9007199254740992:Int) <= P 30:=by unfold P; decide
  exact bd_num i0 (Int.lt_of_lt_of_le (by omega) h30) (by omega) (by omega)
theorem patV32_sbd {a:Nat->Int} (n:Nat) (hn:n <= 5000) (fa:∀ i,i < n->pok32 (a i)=true):Bd 9000 (sumF (fun i=>patV32 (a i)) n) :=
  (bd_sumF2 (K:=4000) (by omega) n hn fun i hi=>patV32_bd (fa i hi)).up (by omega) (by omega)
theorem of32_ok {b:Int} {w:World} (h:pok32 b=true) (H:Hold4 w):Calls Tryd.prog 31 #[.int .i64 b] w fun r w'=>∃ v,r=.returned (.tuple #[v,.int .i64 0])∧DAns w w' (patV32 b) v:=by
  refine (dof32_any b w ⟨H.env.lays.b0,H.env.lays.b1,H.env.lays.b2⟩ H.tab).mono ?_
  rintro _ w' ⟨v,er,rfl,hb,(⟨_,rfl,hD⟩ | ⟨h',_⟩)⟩
  . exact ⟨v,rfl,hD⟩
  . rw [h] at h'; cases h'
set_option maxRecDepth 100000 in
set_option maxHeartbeats 2000000 in
theorem numbers32F {FT:Nat} (ao:Option Addr) (n ca:Nat) (d:Nat->Int) (w:World) (hR:Row w ao n ca d) (hn:n <= 100000) (ok:∀ i,i < n->pok32 (d i)=true) (H:Hold4 w) :
    Calls Tryd.prog 48 #[.agg #[.func (.func 13) #[] #[],.func (.func 30) #[] #[],.func (.func 31) #[] #[],.func (.func FT) #[] #[]],.slice ao n ca] w fun x w'=>∃ g q,x=.returned (.slice (some ⟨g,0,none⟩) n n)∧Nums w' (some ⟨g,0,none⟩) n n q∧Below w.heap.size w w'∧∀ i,i < n->okR (q i)=true∧(q i).V=patV32 (d i)∧Half (q i):=by
  have hst:∀ p F c m w,(store p (.func (.func F) #[] c) m).run Tryd.prog w=stored Tryd.prog w p (.func (.func F) #[] c) m:=fun p F c m w=>run_store _ w p _ m rfl
  have hE:∀ (cap:Array Value) (w:World),(callFunc 31 cap).run Tryd.prog w=.ok (.enter 31 cap) w:=by intro cap w; simp [go_sem]
  have hla:=hR.le
  have hma:=hR.max
  have hmake:=make_nums n hn
  have hbA:=bel_alloc w (.cells #[.func (.func 13) #[] #[],.func (.func 30) #[] #[],.func (.func 31) #[] #[],.func (.func FT) #[] #[]] 45)
  have gA:=heap_a1 w (.cells #[.func (.func 13) #[] #[],.func (.func 30) #[] #[],.func (.func 31) #[] #[],.func (.func FT) #[] #[]] 45)
  have fA:=blkC gA 2 rfl
  go_enter Tryd.func48,Tryd.ntmps48
  go_wp2_with fail
  clear fA
  have HSA:Hid ((w.alloc (.cells #[.func (.func 13) #[] #[],.func (.func 30) #[] #[],.func (.func 31) #[] #[],.func (.func FT) #[] #[]] 45)).heap.size=w.heap.size + 1):=size_alloc _ _
  generalize w.alloc (.cells #[.func (.func 13) #[] #[],.func (.func 30) #[] #[],.func (.func 31) #[] #[],.func (.func FT) #[] #[]] 45)=wa at hbA gA HSA ⊢
  have hb0:=bel_alloc wa (.cells (madeCells #[.bool false,.slice none 0 0,.int .i64 0] (n * 3)) 30)
  have g0:=heap_a1 wa (.cells (madeCells #[.bool false,.slice none 0 0,.int .i64 0] (n * 3)) 30)
  have HB0:Hid (BlkN (wa.alloc (.cells (madeCells #[.bool false,.slice none 0 0,.int .i64 0] (n * 3)) 30)) wa.heap.size n 0 (fun _=>default)):=⟨_,g0,by rw [size_madeCells],fun i hi=>by omega⟩
  clear g0 hmake
  generalize wa.alloc (.cells (madeCells #[.bool false,.slice none 0 0,.int .i64 0] (n * 3)) 30)=wx at hb0 HB0 ⊢
  rw [HSA.out] at HB0
  go_loopw [12] (fun iv wr=>∃ (k:Nat) (q:Nat->NumR),k <= n∧iv=.int .i64 k∧Hid (BlkN wr (w.heap.size + 1) n k q)∧Hid (∀ i,i < k->okR (q i)=true∧(q i).V=patV32 (d i)∧Half (q i))∧Hid (∀ i b' off,i < k->(q i).ao=some ⟨b',off,none⟩->0 < (q i).n->(w.heap.size + 1) < b')∧Below wa.heap.size wa wr) (fun iv _=>n - (intOf iv).toNat)
  case atStart=>exact ⟨0,fun _=>default,Nat.zero_le _,(by first | rfl | simp),HB0,fun i hi=>by omega,fun i b' off hi=>by omega,hb0⟩
  case round=>
    obtain ⟨k,q,hk,rfl,HQ,HF,HG,hbw⟩:=hrel
    clear HB0 hb0
    by_cases hlt:k < n
    . obtain ⟨ba,oa,rfl,hba,hca⟩:=hR.spot (by omega)
      have c0:=q_cell (hca k hlt) (bel_trans hbA hbw)
      have c1:=q_cell (blkC gA 2 rfl) hbw
      have HW:=H.keeps (bel_trans hbA hbw)
      have CP:Hid (∀ W,Below wr.heap.size wr W->Calls Tryd.prog 31 #[.int .i64 (d k)] W fun r w'=>∃ v,r=.returned (.tuple #[v,.int .i64 0])∧DAns W w' (patV32 (d k)) v):=fun W h=>of32_ok (ok k hlt) (HW.keeps h)
      obtain ⟨cur,hcur,hsz,hcells⟩:=HQ.out
      have e0:k * 3 < cur.size:=by omega
      have e1:k * 3 + 1 < cur.size:=by omega
      have e2:k * 3 + 2 < cur.size:=by omega
      obtain ⟨v0,hv0⟩:∃ v,cur[k * 3]?=some v:=⟨_,Array.getElem?_eq_getElem e0⟩
      obtain ⟨v1,hv1⟩:∃ v,cur[k * 3 + 1]?=some v:=⟨_,Array.getElem?_eq_getElem e1⟩
      obtain ⟨v2,hv2⟩:∃ v,cur[k * 3 + 2]?=some v:=⟨_,Array.getElem?_eq_getElem e2⟩
      have HV:Hid (cur[k * 3]?=some v0∧cur[k * 3 + 1]?=some v1∧cur[k * 3 + 2]?=some v2):=⟨hv0,hv1,hv2⟩
      have HCUR:Hid (wr.heap[(w.heap.size + 1)]?=some (.cells cur 30 (0,0))):=hcur
      have hgs:(w.heap.size + 1) < wr.heap.size:=(Array.getElem?_eq_some_iff.1 hcur).1
      have HBA:Hid (ba < w.heap.size):=hba
      clear hcells hv0 hv1 hv2 hcur hsz e0 e1 e2 hca hba
      have i0:(0:Int) <= (k:Int):=by omega
      have i1:(k:Int) < (n:Int):=by omega
      have hbp:Hid (Bd 4000 (patV32 (d k))):=patV32_bd (ok k hlt)
      generalize hdk:d k=dk at c0 CP hbp
      generalize hpv:patV32 dk=pv at CP hbp
      have HPV:Hid (patV32 (d k)=pv):=by rw [hdk]; exact hpv
      clear hdk hpv
      have kc0:wr.drew.cell? ⟨ba,oa + k,none⟩=some (.int .i64 dk)∧wr.drew.cell? ⟨w.heap.size,2,none⟩=some (.func (.func 31) #[] #[]):=⟨c0,c1⟩
      have hb1:=bel_refl wr
      go_wp2_with fail
      go_region_held3 (fun W=>W.cell? ⟨ba,oa + k,none⟩=some (.int .i64 dk)∧W.cell? ⟨w.heap.size,2,none⟩=some (.func (.func 31) #[] #[]))
        (first | assumption | exact ⟨cell_set3 kc1.1 _ _ _ (show ba ≠ (w.heap.size + 1) by have:=HBA.out; omega),cell_set3 kc1.2 _ _ _ (show w.heap.size ≠ (w.heap.size + 1) by omega)⟩ | fail)
        ((go_at_call 31; refine (CP.out _ hb1.drew).mono ?_; rintro y w3 ⟨s,rfl,hA⟩; have hbv1:=hA.below; have kc1:=And.intro (q_cell kc0.1 hbv1) (q_cell kc0.2 hbv1); obtain ⟨sg0,so,sn,sc,se,rfl⟩:=dans_shape hA; have q0:=(hbv1.block (w.heap.size + 1) hgs).trans HCUR.out; have x0:=blkC q0 (k * 3) HV.out.1; have x1:=blkC q0 (k * 3 + 1) HV.out.2.1; have x2:=blkC q0 (k * 3 + 2) HV.out.2.2; have z0:=blkF q0 (k * 3); have z1:=blkF q0 (k * 3 + 1); have z2:=blkF q0 (k * 3 + 2)))
      all_goals go_wp2
      all_goals
        go_roundw
        case rel=>
          have hfr:∀ b' off,so=some ⟨b',off,none⟩->0 < sn->w.heap.size + 1 < b':=fun b' off he _=>by
            obtain ⟨ng,s,m,e,heq,_,hAn⟩:=hA
            simp only [Value.agg.injEq,Array.mk.injEq,List.cons.injEq,Value.bool.injEq,Value.int.injEq,true_and,and_true] at heq
            obtain ⟨_,rfl,_⟩:=heq
            obtain ⟨_,_,_,_,hgd⟩:=hAn.open
            have h9:=hgd b' off he
            have h8:w.heap.size + 1 < wr.drew.heap.size:=hgs
            omega
          obtain ⟨x,hxv,hxr,hxo,hxV⟩:=hA.num.open (hbp.out.ok (by omega))
          have hxe:x.ng=sg0∧x.ao=so∧x.n=sn∧x.cap=sc∧x.e=se:=by
            unfold NumR.v at hxv
            simp only [Value.agg.injEq,Array.mk.injEq,List.cons.injEq,Value.bool.injEq,Value.int.injEq,Value.slice.injEq,true_and,and_true] at hxv
            obtain ⟨e1,⟨e2,e3,e4⟩,e5⟩:=hxv
            exact ⟨e1.symm,e2.symm,e3.symm,e4.symm,e5.symm⟩
          obtain ⟨rfl,rfl,rfl,rfl,rfl⟩:=hxe
          refine ⟨k + 1,updN q k x,by omega,by go_num,BlkN.step (x:=x) HQ.out (bel_trans hb1.drew hbv1) hxr hlt HG.out hfr,fun i hi=>?_,fun i b' off hi he hn'=>?_,bel_set3' (bel_trans hbw (bel_trans hb1.drew hbv1)) (by have:=HSA.out; omega) _ _ _⟩
          . by_cases e:i=k
            . subst e
              rw [updN_same]
              exact ⟨hxo,hxV.trans HPV.out.symm,num_half hxo hxV hbp.out⟩
            . rw [updN_other _ _ e]
              exact HF.out i (by omega)
          . by_cases e:i=k
            . subst e
              rw [updN_same] at he hn'
              exact hfr b' off he hn'
            . rw [updN_other _ _ e] at he hn'
              exact HG.out i b' off (by omega) he hn'
        case measure=>simp [intOf]; omega
    . obtain rfl:k=n:=by omega
      go_wp2
      go_ret
      exact ⟨_,q,rfl,HQ.out.nums hn,bel_trans hbA hbw,HF.out⟩
set_option maxRecDepth 100000 in
set_option maxHeartbeats 8000000 in
theorem total32F {ao:Option Addr} {n ca gl:Nat} {a:Nat->Int} (w:World) (l_k:w.heap[gl]?=some (.cells #[.slice ao n ca] 22 (0,0))) (RA:Row w ao n ca a) (fa:∀ i,i < n->pok32 (a i)=true) (hn:n <= 5000) (H:Hold4 w) :
    Calls Tryd.prog 29 #[.agg #[.func (.func 13) #[] #[],.func (.func 30) #[] #[],.func (.func 31) #[] #[],.func (.func 7) #[] #[]],.slice (some ⟨gl,0,none⟩) 1 1] w fun r w'=>∃ v,r=.returned v∧DNum w' v (sumF (fun i=>patV32 (a i)) n)∧Bd 9000 (sumF (fun i=>patV32 (a i)) n)∧Below w.heap.size w w':=by
  have hst:∀ p F c m w,(store p (.func (.func F) #[] c) m).run Tryd.prog w=stored Tryd.prog w p (.func (.func F) #[] c) m:=fun p F c m w=>run_store _ w p _ m rfl
  have NA:Hid (∀ W,Row W ao n ca a->Hold4 W->Calls Tryd.prog 48 #[.agg #[.func (.func 13) #[] #[],.func (.func 30) #[] #[],.func (.func 31) #[] #[],.func (.func 7) #[] #[]],.slice ao n ca] W fun x w'=>∃ g q,x=.returned (.slice (some ⟨g,0,none⟩) n n)∧Nums w' (some ⟨g,0,none⟩) n n q∧Below W.heap.size W w'∧∀ i,i < n->okR (q i)=true∧(q i).V=patV32 (a i)∧Half (q i)):=fun W hR h=>numbers32F ao n ca a W hR (by omega) fa h
  have x_B:=patV32_sbd (a:=a) n hn fa
  have DB:Hid (∀ (g1:Nat) (q1:Nat->NumR) W,Nums W (some ⟨g1,0,none⟩) n n q1->(∀ i,i < n->okR (q1 i)=true∧(q1 i).V=patV32 (a i)∧Half (q1 i))->Tab W->Calls Tryd.prog 20 #[.slice (some ⟨g1,0,none⟩) n n] W fun r w'=>∃ v,r=.returned (.tuple #[v,.int .i64 0])∧DAns W w' (sumF (fun i=>patV32 (a i)) n) v):=fun g1 q1 W N1 F1 hT=>by
    refine (dsum_ok _ n n q1 W N1 (decide_eq_true fun i hi=>(F1 i hi).1) (by omega) hT).mono ?_
    rintro _ w' ⟨v,er,rfl,hF⟩
    rw [sumV_F (V:=fun i=>patV32 (a i)) n (fun i hi=>(F1 i hi).2.1)] at hF
    obtain ⟨rfl,hA⟩:=hF.yes (x_B.ok (by omega))
    exact ⟨v,rfl,hA⟩
  have hla:=RA.le
  have hma:=RA.max
  clear fa
  generalize sumF (fun i=>patV32 (a i)) n=sv at *
  replace l_k:=heap_past (.cells #[.bool false,.slice none 0 0,.int .i64 0] 30) (heap_past (.cells #[.func (.func 13) #[] #[],.func (.func 30) #[] #[],.func (.func 31) #[] #[],.func (.func 7) #[] #[]] 45) l_k)
  have k_k:(w.alloc (.cells #[.func (.func 13) #[] #[],.func (.func 30) #[] #[],.func (.func 31) #[] #[],.func (.func 7) #[] #[]] 45)).heap[w.heap.size]?=some (.cells #[.func (.func 13) #[] #[],.func (.func 30) #[] #[],.func (.func 31) #[] #[],.func (.func 7) #[] #[]] 45):=heap_new (.cells #[.func (.func 13) #[] #[],.func (.func 30) #[] #[],.func (.func 31) #[] #[],.func (.func 7) #[] #[]] 45) (by rfl)
  have hb0:=bel_alloc w (.cells #[.func (.func 13) #[] #[],.func (.func 30) #[] #[],.func (.func 31) #[] #[],.func (.func 7) #[] #[]] 45)
  replace k_k:=heap_past (.cells #[.bool false,.slice none 0 0,.int .i64 0] 30) k_k
  have r_k:((w.alloc (.cells #[.func (.func 13) #[] #[],.func (.func 30) #[] #[],.func (.func 31) #[] #[],.func (.func 7) #[] #[]] 45)).alloc (.cells #[.bool false,.slice none 0 0,.int .i64 0] 30)).heap[w.heap.size + 1]?=some (.cells #[.bool false,.slice none 0 0,.int .i64 0] 30):=heap_new (.cells #[.bool false,.slice none 0 0,.int .i64 0] 30) (by simp only [size_alloc])
  replace hb0:=bel_trans hb0 (bel_alloc (w.alloc (.cells #[.func (.func 13) #[] #[],.func (.func 30) #[] #[],.func (.func 31) #[] #[],.func (.func 7) #[] #[]] 45)) (.cells #[.bool false,.slice none 0 0,.int .i64 0] 30))
  go_enter Tryd.func29,Tryd.ntmps29
  go_wp2_with fail
  rename_i QA KA hKA K00 hK00
  generalize ((w.alloc (.cells #[.func (.func 13) #[] #[],.func (.func 30) #[] #[],.func (.func 31) #[] #[],.func (.func 7) #[] #[]] 45)).alloc (.cells #[.bool false,.slice none 0 0,.int .i64 0] 30))=x0 at hb0 k_k r_k l_k ⊢
  have H:=H.keeps hb0
  have RA:=RA.keeps hb0
  have hK1:=hK00
  have HN1:∀ (g:Nat) (x1:World) (t:Array Value) (x_g:Bool) (x_o:Option Addr) (x_n x_c:Nat) (x_e:Int),#[t.getD 0 undef,.slice (some ⟨gl,0,none⟩) 1 1,.pointer (some ⟨w.heap.size,0,none⟩),t.getD 3 undef,.pointer (some ⟨w.heap.size + 1,0,none⟩),.pointer (some ⟨g,0,none⟩),t.getD 6 undef,t.getD 7 undef,t.getD 8 undef,t.getD 9 undef,t.getD 10 undef,t.getD 11 undef,t.getD 12 undef,t.getD 13 undef,t.getD 14 undef,t.getD 15 undef,t.getD 16 undef,t.getD 17 undef,t.getD 18 undef,t.getD 19 undef,t.getD 20 undef,t.getD 21 undef,t.getD 22 undef,t.getD 23 undef,t.getD 24 undef,t.getD 25 undef,t.getD 26 undef,t.getD 27 undef,t.getD 28 undef,t.getD 29 undef,t.getD 30 undef,t.getD 31 undef,t.getD 32 undef,t.getD 33 undef,t.getD 34 undef,t.getD 35 undef,t.getD 36 undef]=t->x0.heap.size <= g->x1.heap[g]?=some (.cells #[.bool x_g,.slice x_o x_n x_c,.int .i64 x_e] 30 (0,0))->Below x0.heap.size x0 x1->DAn w.heap.size x1 sv (.agg #[.bool x_g,.slice x_o x_n x_c,.int .i64 x_e])->Exit.then K00 (Exit.then KA QA) Exit.normal { tmps:=t,defers:=[] } x1:=by
    intro g_x x1 t x_g x_o x_n x_c x_e  ht x_ge x_k hw1 x_D 
    obtain ⟨u1,hu⟩:∃ u:Nat->Value,t=#[u 0,.slice (some ⟨gl,0,none⟩) 1 1,.pointer (some ⟨w.heap.size,0,none⟩),u 3,.pointer (some ⟨w.heap.size + 1,0,none⟩),.pointer (some ⟨g_x,0,none⟩),u 6,u 7,u 8,u 9,u 10,u 11,u 12,u 13,u 14,u 15,u 16,u 17,u 18,u 19,u 20,u 21,u 22,u 23,u 24,u 25,u 26,u 27,u 28,u 29,u 30,u 31,u 32,u 33,u 34,u 35,u 36]:=⟨fun k=>t.getD k undef,ht.symm⟩
    clear ht
    subst hu
    have H:=H.keeps hw1
    have RA:=RA.keeps hw1
    have k_k:=(hw1.block _ (Array.getElem?_eq_some_iff.1 k_k).1).trans k_k
    have r_k:=(hw1.block _ (Array.getElem?_eq_some_iff.1 r_k).1).trans r_k
    have l_k:=(hw1.block _ (Array.getElem?_eq_some_iff.1 l_k).1).trans l_k
    have hb1:=bel_trans hb0 hw1
    have f0:=blkC x_k 0 rfl
    have f1:=blkC x_k 1 rfl
    have f2:=blkC x_k 2 rfl
    have k0:=blkC r_k 0 rfl
    have k1:=blkC r_k 1 rfl
    have k2:=blkC r_k 2 rfl
    have z0:=blkF r_k 0
    have z1:=blkF r_k 1
    have z2:=blkF r_k 2
    go_wp2
    refine bodyPost_ret (v:=.agg #[.bool x_g,.slice x_o x_n x_c,.int .i64 x_e]) (by simp [results,Tryd.results29,go_sem,k0,k1,k2]) rfl ⟨_,rfl,?_,x_B,?_⟩
    . exact (dan_res3 x_D r_k _ _ _).num
    . exact bel_set3' hb1 (by omega) _ _ _
  have KK1:∀ W,Below x0.heap.size x0 W->W.cell? ⟨w.heap.size,0,none⟩=some (.func (.func 13) #[] #[])∧W.cell? ⟨w.heap.size,1,none⟩=some (.func (.func 30) #[] #[])∧W.cell? ⟨w.heap.size,2,none⟩=some (.func (.func 31) #[] #[])∧W.cell? ⟨w.heap.size,3,none⟩=some (.func (.func 7) #[] #[])∧W.cell? ⟨gl,0,none⟩=some (.slice ao n ca):=fun W hb=>⟨q_cell (blkC k_k 0 rfl) hb,q_cell (blkC k_k 1 rfl) hb,q_cell (blkC k_k 2 rfl) hb,q_cell (blkC k_k 3 rfl) hb,q_cell (blkC l_k 0 rfl) hb⟩
  have hC1_0:=(bel_refl x0).drew
  have hT1_0:Below w.heap.size w x0.drew:=hb0.drew
  have H_1_0:=H.keeps (bel_refl x0).drew
  have RA_1_0:=RA.keeps (bel_refl x0).drew
  have hs1_0:=(bel_refl x0).drew
  go_region_held3 (fun W=>W.cell? ⟨w.heap.size,0,none⟩=some (.func (.func 13) #[] #[])∧W.cell? ⟨w.heap.size,1,none⟩=some (.func (.func 30) #[] #[])∧W.cell? ⟨w.heap.size,2,none⟩=some (.func (.func 31) #[] #[])∧W.cell? ⟨w.heap.size,3,none⟩=some (.func (.func 7) #[] #[])∧W.cell? ⟨gl,0,none⟩=some (.slice ao n ca))
    (with_reducible first | assumption | exact KK1 _ (bel_alloc _ _).drew | exact KK1 _ hC1_0 | exact KK1 _ hC1_1 | exact KK1 _ hC1_2 | exact KK1 _ (bel_trans hC1_0 (bel_alloc _ _)) | exact KK1 _ (bel_trans hC1_1 (bel_alloc _ _)) | exact KK1 _ (bel_trans hC1_2 (bel_alloc _ _)) | exact KK1 _ (bel_set3' hC1_2 (Nat.le_refl _) _ _ _) | exact KK1 _ (bel_set3' hC1_2 hC1_1.size _ _ _) | fail)
    (first
      | (go_at_call 20; have _t:=hs1_1; refine (DB.out _ _ _ (N1.keeps (by with_reducible first | exact bel_refl _ | exact bel_alloc _ _ | exact bel_dr _ _)) F1 (H_1_1.keeps (by with_reducible first | exact bel_refl _ | exact bel_alloc _ _ | exact bel_dr _ _)).tab).mono ?_; rintro _ y1_2 ⟨v,rfl,nm1⟩; obtain ⟨x_g,x_o,x_n,x_c,x_e,rfl⟩:=dans_shape nm1; have hq1_2:=nm1.below; have x_A:=nm1.dan.lower (Nat.le_trans hT1_1.size (by with_reducible first | exact Nat.le_refl _ | exact (bel_alloc _ _).size | exact (bel_dr _ _).size)); have hs1_2:Below y1_1.heap.size y1_1 y1_2:=(by with_reducible first | exact hq1_2 | exact bel_trans (bel_alloc _ _) hq1_2 | exact bel_trans (bel_dr _ _) hq1_2); have hT1_2:=bel_trans hT1_1 hs1_2; have hC1_2:=bel_trans hC1_1 hs1_2; have H_1_2:=H_1_1.keeps hs1_2; have RA_1_2:=RA_1_1.keeps hs1_2; with_reducible first | (have qz1:y1_2.heap[x0.heap.size]?=some (.cells #[.bool false,.slice none 0 0,.int .i64 0] 30 (0,0)):=blk_on hq1_2 (blk_on hq1_1 (heap_a1d x0 (.cells #[.bool false,.slice none 0 0,.int .i64 0] 30))); have cz1_0:=blkC qz1 0 rfl; have zz1_0:=blkF qz1 0; have cz1_1:=blkC qz1 1 rfl; have zz1_1:=blkF qz1 1; have cz1_2:=blkC qz1 2 rfl; have zz1_2:=blkF qz1 2) | (have qz1:y1_2.heap[y1_1.heap.size]?=some (.cells #[.bool false,.slice none 0 0,.int .i64 0] 30 (0,0)):=blk_on hq1_2 (heap_a1 _ _); have cz1_0:=blkC qz1 0 rfl; have zz1_0:=blkF qz1 0; have cz1_1:=blkC qz1 1 rfl; have zz1_1:=blkF qz1 1; have cz1_2:=blkC qz1 2 rfl; have zz1_2:=blkF qz1 2) | skip)
      | (go_at_call 48; refine (NA.out _ (RA_1_0.keeps (by with_reducible first | exact bel_refl _ | exact bel_alloc _ _ | exact bel_dr _ _)) (H_1_0.keeps (by with_reducible first | exact bel_refl _ | exact bel_alloc _ _ | exact bel_dr _ _))).mono ?_; rintro _ y1_1 ⟨g1,q1,rfl,N1,hq1_1,F1⟩; have hs1_1:Below x0.drew.heap.size x0.drew y1_1:=(by with_reducible first | exact hq1_1 | exact bel_trans (bel_alloc _ _) hq1_1 | exact bel_trans (bel_dr _ _) hq1_1); have hT1_1:=bel_trans hT1_0 hs1_1; have hC1_1:=bel_trans hC1_0 hs1_1; have H_1_1:=H_1_0.keeps hs1_1; have RA_1_1:=RA_1_0.keeps hs1_1))
  . exact HN1 y1_2.heap.size _ _ _ _ _ _ _  (by kernel_rfl) ((bel_trans (bel_trans (hs1_0) hs1_1) hs1_2).size) (heap_a1 _ _) (bel_trans (bel_trans (bel_trans (hs1_0) hs1_1) hs1_2) (bel_alloc _ _)) (x_A.keeps (bel_alloc _ _)) 
  . exact HN1 y1_1.heap.size _ _ _ _ _ _ _  (by kernel_rfl) ((bel_trans (hs1_0) hs1_1).size) (heap_set (heap_set (heap_set (blk_on hq1_2 (heap_a1 _ _)) 0 _) 1 _) 2 _) (bel_set3' (bel_trans (bel_trans (hs1_0) hs1_1) hs1_2) ((bel_trans (hs1_0) hs1_1).size) _ _ _) (dan_res3 x_A (blk_on hq1_2 (heap_a1 _ _)) _ _ _) 
  . exact HN1 x0.heap.size _ _ _ _ _ _ _  (by kernel_rfl) (Nat.le_refl _) (heap_set (heap_set (heap_set (blk_on hq1_2 (blk_on hq1_1 (heap_a1d x0 (.cells #[.bool false,.slice none 0 0,.int .i64 0] 30)))) 0 _) 1 _) 2 _) (bel_set3' (bel_trans (bel_trans (hs1_0) hs1_1) hs1_2) (Nat.le_refl _) _ _ _) (dan_res3 x_A (blk_on hq1_2 (blk_on hq1_1 (heap_a1d x0 (.cells #[.bool false,.slice none 0 0,.int .i64 0] 30)))) _ _ _) 
theorem one5:patV 4607182418800017408=pw 0:=by
  have h1:pneg 4607182418800017408=false:=by decide
  have h2:pmag 4607182418800017408=4503599627370496:=by decide
  have h3:pexp 4607182418800017408=-52:=by decide
  have h4:(2:Int) ^ 52=4503599627370496:=by decide
  unfold patV
  rw [h1,h2,h3,pw_step (e:=-52) (k:=0) (l:=52) (by omega) (by omega),h4]
  generalize pw (-52)=y
  unfold sg
  rw [Int.mul_comm]
  rfl
theorem one32V:patV32 1065353216=pw 0:=by
  have h1:pneg32 1065353216=false:=by decide
  have h2:pmag32 1065353216=8388608:=by decide
  have h3:pexp32 1065353216=-23:=by decide
  have h4:(2:Int) ^ 23=8388608:=by decide
  unfold patV32
  rw [h1,h2,h3,pw_step (e:=-23) (k:=0) (l:=23) (by omega) (by omega),h4]
  generalize pw (-23)=y
  unfold sg
  rw [Int.mul_comm]
  rfl
theorem two_form {x:NumR} (ok:okR x=true) (h:x.V=pw 0 * 2):x.ng=false∧val x.d x.n=1∧x.e=1:=by
  have hy:=(okR_dy ok).1
  have h1:x.V=sg false 1 * pw 1:=by
    rw [h,pw_step (e:=0) (k:=1) (l:=1) (by omega) (by omega)]
    generalize pw 0=y
    unfold sg
    rw [Int.pow_succ,Int.pow_zero]
    simp
  exact hy.unique ⟨h1,by omega,.inr ⟨by omega,by omega⟩⟩
theorem to_two {x:NumR} (ok:okR x=true) (h:x.V=pw 0 * 2):toR 0 x=(4611686018427387904,false):=by
  obtain ⟨a,b,c⟩:=two_form ok h
  unfold toR
  rw [a,b,c]
  decide +kernel
theorem to_two32 {x:NumR} (ok:okR x=true) (h:x.V=pw 0 * 2):r32 0 x.ng false (val x.d x.n / 2 ^ vK (val x.d x.n)).toNat (x.e + vK (val x.d x.n)) (decide (val x.d x.n % 2 ^ vK (val x.d x.n) ≠ 0))=(1073741824,false):=by
  obtain ⟨a,b,c⟩:=two_form ok h
  rw [a,b,c]
  decide +kernel
theorem sum_two {V:Nat->Int} (h:∀ i,i < 2->V i=pw 0):sumF V 2=pw 0 * 2:=by
  show (0 + V 0) + V 1=_
  rw [h 0 (by omega),h 1 (by omega)]
  generalize pw 0=y
  omega
theorem dot_two {X:Int} {V:Nat->Int} (h:∀ i,i < 2->V i=pw 0) (hX:X * 2 ^ 4194304=sumF (fun i=>V i * V i) 2):X=pw 0 * 2:=by
  have e:sumF (fun i=>V i * V i) 2=pw 0 * 2 * pw 0:=by
    show (0 + V 0 * V 0) + V 1 * V 1=_
    rw [h 0 (by omega),h 1 (by omega)]
    generalize pw 0=y
    rw [Int.mul_assoc,Int.mul_comm 2 y,<- Int.mul_assoc]
    omega
  rw [e,<- pw_zero] at hX
  have hp:=pw_pos 0
  revert hX hp
  generalize pw 0=y
  intro hX hp
  exact Int.eq_of_mul_eq_mul_right (by omega) hX
set_option maxRecDepth 100000 in
set_option maxHeartbeats 4000000 in
theorem strays32 {ao:Option Addr} {ca g:Nat} (w:World) (hg:w.heap[g]?=some (.cells #[.slice ao 2 ca] 22 (0,0))) (ha:Row w ao 2 ca (fun _=>1065353216)) :
    Calls Tryd.prog 28 #[.agg #[.func (.func 13) #[] #[],.func (.func 30) #[] #[],.func (.func 31) #[] #[],.func (.func 7) #[] #[]],.slice (some ⟨g,0,none⟩) 1 1] w fun r w'=>r=.returned (.float .f32 0)∧Below w.heap.size w w':=by
  have hst:∀ p F c m w,(store p (.func (.func F) #[] c) m).run Tryd.prog w=stored Tryd.prog w p (.func (.func F) #[] c) m:=fun p F c m w=>run_store _ w p _ m rfl
  have hE:∀ (cap:Array Value) (w:World),(callFunc 13 cap).run Tryd.prog w=.ok (.enter 13 cap) w:=by intro cap w; simp [go_sem]
  have hcv:∀ w,(convert 3 39 (.int .i64 1)).run Tryd.prog w=.ok (.float .f32 1065353216) w:=fun _=>by kernel_rfl
  have hm:∀ w:World,(binOp .mul 39 (.float .f32 1065353216) (.float .f32 1065353216)).run Tryd.prog w=.ok (.float .f32 1065353216) w:=fun _=>by kernel_rfl
  have hd:∀ w:World,(binOp .sub 39 (.float .f32 1065353216) (.float .f32 1065353216)).run Tryd.prog w=.ok (.float .f32 0) w:=fun _=>by kernel_rfl
  have ho:FloatKind.f32.format.order 0 0=some .eq:=by decide +kernel
  have C1:Hid (∀ W,Calls Tryd.prog 13 #[.int .i64 1065353216] W fun e w'=>e=.returned (.float .f32 1065353216)∧w'=W):=fun W=>by
    have:=bitsFloat32' 1065353216 W
    rwa [show wd32 1065353216=1065353216 by decide] at this
  have hla:=ha.le
  have hma:=ha.max
  obtain ⟨ba,oa,rfl,hba,hca⟩:=ha.spot (by omega)
  have hbA:=bel_alloc w (.cells #[.func (.func 13) #[] #[],.func (.func 30) #[] #[],.func (.func 31) #[] #[],.func (.func 7) #[] #[]] 45)
  have gA:=heap_a1 w (.cells #[.func (.func 13) #[] #[],.func (.func 30) #[] #[],.func (.func 31) #[] #[],.func (.func 7) #[] #[]] 45)
  have fA:=blkC (heap_past (.cells #[.func (.func 13) #[] #[],.func (.func 30) #[] #[],.func (.func 31) #[] #[],.func (.func 7) #[] #[]] 45) hg) 0 rfl
  go_enter Tryd.func28,Tryd.ntmps28
  go_wp2_with fail
  clear fA
  generalize w.alloc (.cells #[.func (.func 13) #[] #[],.func (.func 30) #[] #[],.func (.func 31) #[] #[],.func (.func 7) #[] #[]] 45)=wa at hbA gA ⊢
  go_loopw [5,16] (fun sv iv wr=>∃ k:Nat,k <= 2∧iv=.int .i64 k∧sv=.float .f32 0∧Below wa.heap.size wa wr) (fun _ iv _=>2 - (intOf iv).toNat)
  case atStart=>exact ⟨0,Nat.zero_le _,rfl,rfl,bel_refl _⟩
  case round=>
    obtain ⟨k,hk,rfl,rfl,hbw⟩:=hrel
    by_cases hlt:k < 2
    . have i0:(0:Int) <= (k:Int):=by omega
      have i1:(k:Int) < (2:Int):=by omega
      have hbq:=bel_trans hbA hbw
      have CA:=q_cell (hca k hlt) hbq
      have CF:=q_cell (blkC gA 0 rfl) hbw
      have g':=blk_on hbq hg
      go_wp2_with fail
      go_loopw [7,8,22] (fun tv fv jv wr2=>∃ (j:Nat),j <= 1∧jv=.int .i64 j∧fv=.bool true∧tv=.float .f32 1065353216∧Below wr.heap.size wr wr2) (fun _ _ jv _=>1 - (intOf jv).toNat)
      case atStart=>exact ⟨0,by omega,rfl,rfl,rfl,bel_refl _⟩
      case round=>
        obtain ⟨j,hj,rfl,rfl,rfl,hbw2⟩:=hrel
        have A0:=q_cell CA hbw2
        have F0:=q_cell CF hbw2
        have g2:=blk_on hbw2 g'
        have c0:=blkC g2 0 rfl
        clear g2
        rcases (show j=0∨j=1 by omega) with rfl | rfl
        . go_wp2_with fail
          go_quiet ((go_at_call 13; with_reducible exact Calls.quiet_of_same (C1.out _)))
          go_wp2
          go_roundw
          case rel=>exact ⟨0 + 1,by omega,by go_num,rfl,rfl,bDrewN hbw2 nq⟩
          case measure=>simp [intOf]
        . clear A0 F0 c0
          go_wp2
          go_roundw
          case rel=>exact ⟨k + 1,by omega,by go_num,rfl,bel_trans hbw hbw2⟩
          case measure=>simp [intOf]; omega
    . obtain rfl:k=2:=by omega
      go_wp2
      go_ret
      exact ⟨rfl,bel_trans hbA hbw⟩
set_option maxRecDepth 100000 in
set_option maxHeartbeats 4000000 in
theorem sum32c {ao:Option Addr} {ca gl:Nat} (w:World) (l_k:w.heap[gl]?=some (.cells #[.slice ao 2 ca] 22 (0,0))) (RA:Row w ao 2 ca (fun _=>1065353216)) (H:Hold4 w) :
    Calls Tryd.prog 14 #[.agg #[.func (.func 13) #[] #[],.func (.func 30) #[] #[],.func (.func 31) #[] #[],.func (.func 7) #[] #[]],.int .i64 0,.slice (some ⟨gl,0,none⟩) 1 1] w fun r w'=>r=.returned (.tuple #[.int .i64 1073741824,.int .i64 0])∧Below w.heap.size w w':=by
  have hst:∀ p F c m w,(store p (.func (.func F) #[] c) m).run Tryd.prog w=stored Tryd.prog w p (.func (.func F) #[] c) m:=fun p F c m w=>run_store _ w p _ m rfl
  have hE:∀ (cap:Array Value) (w:World),(callFunc 7 cap).run Tryd.prog w=.ok (.enter 7 cap) w:=by intro cap w; simp [go_sem]
  have C1:Hid (∀ W,Below w.heap.size w W->Calls Tryd.prog 27 #[.int .i64 0,.slice (some ⟨gl,0,none⟩) 1 1] W fun r w'=>r=.returned (.int .i64 0)∧Below W.heap.size W w'):=fun W h=>refusal1W (bo:=none) (cb:=0) 0 ⟨by omega,by omega⟩ W (blk_on h l_k) (by omega) (H.keeps h)
  have C2:Hid (∀ W,Below w.heap.size w W->Calls Tryd.prog 28 #[.agg #[.func (.func 13) #[] #[],.func (.func 30) #[] #[],.func (.func 31) #[] #[],.func (.func 7) #[] #[]],.slice (some ⟨gl,0,none⟩) 1 1] W fun r w'=>r=.returned (.float .f32 0)∧Below W.heap.size W w'):=fun W h=>strays32 W (blk_on h l_k) (RA.keeps h)
  have C3:Hid (∀ W,Below w.heap.size w W->Calls Tryd.prog 29 #[.agg #[.func (.func 13) #[] #[],.func (.func 30) #[] #[],.func (.func 31) #[] #[],.func (.func 7) #[] #[]],.slice (some ⟨gl,0,none⟩) 1 1] W fun r w'=>∃ (x:NumR),r=.returned (.agg #[.bool x.ng,.slice x.ao x.n x.cap,.int .i64 x.e])∧(∀ W2,Below w'.heap.size w' W2->Calls Tryd.prog 7 #[.agg #[.bool x.ng,.slice x.ao x.n x.cap,.int .i64 x.e],.int .i64 0] W2 fun r2 w2=>r2=.returned (.tuple #[.int .i64 1073741824,.bool false,.int .i64 0])∧Below W2.heap.size W2 w2)∧Below W.heap.size W w'):=fun W h=>by
    refine (total32F W (blk_on h l_k) (RA.keeps h) (fun i hi=>by decide) (by omega) (H.keeps h)).mono ?_
    rintro _ w' ⟨v,rfl,hD,hB,hb⟩
    obtain ⟨x,rfl,hR,ok,hV⟩:=hD.open (hB.ok (by omega))
    rw [sum_two (fun i hi=>one32V)] at hV
    refine ⟨x,rfl,fun W2 h2=>?_,hb⟩
    have H2:=H.keeps (bel_trans h (bel_trans hb h2))
    have:=to32_ok 0 ⟨by omega,by omega⟩ x W2 (hR.keeps h2) ok H2.env H2.tab
    rw [to_two32 ok hV] at this
    exact this
  clear RA H
  have ho:FloatKind.f32.format.order 0 0=some .eq:=by decide +kernel
  have hb0:=bel_alloc w (.cells #[.func (.func 13) #[] #[],.func (.func 30) #[] #[],.func (.func 31) #[] #[],.func (.func 7) #[] #[]] 45)
  have b_k:=heap_a1 w (.cells #[.func (.func 13) #[] #[],.func (.func 30) #[] #[],.func (.func 31) #[] #[],.func (.func 7) #[] #[]] 45)
  go_enter Tryd.func14,Tryd.ntmps14
  go_wp2_with fail
  generalize w.alloc (.cells #[.func (.func 13) #[] #[],.func (.func 30) #[] #[],.func (.func 31) #[] #[],.func (.func 7) #[] #[]] 45)=x0 at hb0 b_k ⊢
  refine (C1.out _ hb0).mono ?_
  rintro _ y1 ⟨rfl,hw1⟩
  replace b_k:=blk_on hw1 b_k
  replace hb0:=bel_trans hb0 hw1
  have f0:=blkC b_k 0 rfl
  have f1:=blkC b_k 1 rfl
  have f2:=blkC b_k 2 rfl
  have f3:=blkC b_k 3 rfl
  go_wp2_with fail
  clear f0 f1 f2 f3
  refine (C2.out _ hb0).mono ?_
  rintro _ y2 ⟨rfl,hw2⟩
  replace b_k:=blk_on hw2 b_k
  replace hb0:=bel_trans hb0 hw2
  go_wp2_with fail
  have KK:∀ W,Below y2.heap.size y2 W->W.cell? ⟨w.heap.size,0,none⟩=some (.func (.func 13) #[] #[])∧W.cell? ⟨w.heap.size,1,none⟩=some (.func (.func 30) #[] #[])∧W.cell? ⟨w.heap.size,2,none⟩=some (.func (.func 31) #[] #[])∧W.cell? ⟨w.heap.size,3,none⟩=some (.func (.func 7) #[] #[]):=fun W hb=>⟨q_cell (blkC b_k 0 rfl) hb,q_cell (blkC b_k 1 rfl) hb,q_cell (blkC b_k 2 rfl) hb,q_cell (blkC b_k 3 rfl) hb⟩
  have hC0:=(bel_refl y2).drew
  go_region_held3 (fun W=>W.cell? ⟨w.heap.size,0,none⟩=some (.func (.func 13) #[] #[])∧W.cell? ⟨w.heap.size,1,none⟩=some (.func (.func 30) #[] #[])∧W.cell? ⟨w.heap.size,2,none⟩=some (.func (.func 31) #[] #[])∧W.cell? ⟨w.heap.size,3,none⟩=some (.func (.func 7) #[] #[]))
    (with_reducible first | assumption | exact KK _ hC0 | exact KK _ hC1 | exact KK _ hC2 | fail)
    (first
      | (go_at_call 7; refine (CT _ (bel_refl _)).mono ?_; rintro _ y4 ⟨rfl,hq2⟩; have hC2:=bel_trans hC1 hq2)
      | (go_at_call 29; refine (C3.out _ (bel_trans hb0 hC0)).mono ?_; rintro _ y3 ⟨x,rfl,CT,hq1⟩; have hC1:=bel_trans hC0 hq1))
  all_goals go_wp2
  all_goals exact bodyPost_ret (v:=.tuple #[.int .i64 1073741824,.int .i64 0]) (by simp [results,Tryd.results14,go_sem]) rfl ⟨rfl,bel_trans hb0 hC2⟩
theorem binary32F (w:World) :
    Calls Tryd.prog 15 #[] w fun r w'=>r=.returned (.agg #[.func (.func 13) #[] #[],.func (.func 30) #[] #[],.func (.func 31) #[] #[],.func (.func 7) #[] #[]])∧Below w.heap.size w w':=by
  have hst:∀ p F m w,(store p (.func (.func F) #[] #[]) m).run Tryd.prog w=stored Tryd.prog w p (.func (.func F) #[] #[]) m:=fun p F m w=>run_store _ w p _ m rfl
  go_enter Tryd.func15,Tryd.ntmps15
  go_wp2_with fail
  have r_j:=heap_a1 w (.cells #[.func (.func 13) #[] #[],.func (.func 30) #[] #[],.func (.func 31) #[] #[],.func (.func 7) #[] #[]] 45)
  have k0:=blkC r_j 0 rfl
  have k1:=blkC r_j 1 rfl
  have k2:=blkC r_j 2 rfl
  have k3:=blkC r_j 3 rfl
  exact bodyPost_ret (v:=.agg #[.func (.func 13) #[] #[],.func (.func 30) #[] #[],.func (.func 31) #[] #[],.func (.func 7) #[] #[]]) (by simp [results,Tryd.results15,go_sem,k0,k1,k2,k3]) rfl ⟨rfl,bel_alloc _ _⟩
set_option maxRecDepth 100000 in
set_option maxHeartbeats 2000000 in
theorem Sum32c {ao:Option Addr} {ca:Nat} (w:World) (RA:Row w ao 2 ca (fun _=>1065353216)) (H:Hold4 w) :
    Calls Tryd.prog 6 #[.slice ao 2 ca,.int .i64 0] w fun r w'=>r=.returned (.tuple #[.int .i64 1073741824,.int .i64 0])∧Below w.heap.size w w':=by
  have C1:Hid (∀ W,Calls Tryd.prog 15 #[] W fun r w'=>r=.returned (.agg #[.func (.func 13) #[] #[],.func (.func 30) #[] #[],.func (.func 31) #[] #[],.func (.func 7) #[] #[]])∧Below W.heap.size W w'):=fun W=>binary32F W
  have C2:Hid (∀ W gl,Below w.heap.size w W->W.heap[gl]?=some (.cells #[.slice ao 2 ca] 22 (0,0))->Calls Tryd.prog 14 #[.agg #[.func (.func 13) #[] #[],.func (.func 30) #[] #[],.func (.func 31) #[] #[],.func (.func 7) #[] #[]],.int .i64 0,.slice (some ⟨gl,0,none⟩) 1 1] W fun r w'=>r=.returned (.tuple #[.int .i64 1073741824,.int .i64 0])∧Below W.heap.size W w'):=fun W gl h hl=>sum32c W hl (RA.keeps h) (H.keeps h)
  clear RA H
  go_enter Tryd.func6,Tryd.ntmps6
  go_wp2_with fail
  refine (C1.out _).mono ?_
  rintro _ y1 ⟨rfl,hw1⟩
  go_wp2_with fail
  refine (C2.out _ _ (bel_trans hw1 (bel_alloc y1 (.cells #[.slice ao 2 ca] 22))) (heap_a1 y1 (.cells #[.slice ao 2 ca] 22))).mono ?_
  rintro _ y2 ⟨rfl,hw2⟩
  go_wp2
  exact bodyPost_ret (v:=.tuple #[.int .i64 1073741824,.int .i64 0]) (by simp [results,Tryd.results6,go_sem]) rfl ⟨rfl,bel_trans hw1 (bel_trans (bel_alloc y1 (.cells #[.slice ao 2 ca] 22)) hw2)⟩
set_option maxRecDepth 100000 in
set_option maxHeartbeats 4000000 in
theorem left5c {ao:Option Addr} {ca:Nat} (w:World) (ha:Row w ao 2 ca (fun _=>4607182418800017408)) :
    Calls Tryd.prog 46 #[.agg #[.func (.func 73) #[] #[],.func (.func 12) #[] #[],.func (.func 19) #[] #[],.func (.func 47) #[] #[]],.slice ao 2 ca] w fun r w'=>r=.returned (.int .i64 4611686018427387904)∧Below w.heap.size w w':=by
  have hst:∀ p F c m w,(store p (.func (.func F) #[] c) m).run Tryd.prog w=stored Tryd.prog w p (.func (.func F) #[] c) m:=fun p F c m w=>run_store _ w p _ m rfl
  have hE:∀ (cap:Array Value) (w:World),(callFunc 73 cap).run Tryd.prog w=.ok (.enter 73 cap) w:=by intro cap w; simp [go_sem]
  have hE2:∀ (cap:Array Value) (w:World),(callFunc 12 cap).run Tryd.prog w=.ok (.enter 12 cap) w:=by intro cap w; simp [go_sem]
  have h0:∀ w:World,(binOp .add 38 (.float .f64 0) (.float .f64 4607182418800017408)).run Tryd.prog w=.ok (.float .f64 4607182418800017408) w:=fun _=>by kernel_rfl
  have h1:∀ w:World,(binOp .add 38 (.float .f64 4607182418800017408) (.float .f64 4607182418800017408)).run Tryd.prog w=.ok (.float .f64 4611686018427387904) w:=fun _=>by kernel_rfl
  have C1:Hid (∀ W,Calls Tryd.prog 73 #[.int .i64 4607182418800017408] W fun e w'=>e=.returned (.float .f64 4607182418800017408)∧w'=W):=fun W=>by
    have:=bitsFloat 4607182418800017408 W
    rwa [show wd 4607182418800017408=4607182418800017408 by decide] at this
  have C2:Hid (∀ W,Calls Tryd.prog 12 #[.float .f64 4611686018427387904] W fun e w'=>e=.returned (.int .i64 4611686018427387904)∧w'=W):=fun W=>by
    have:=bitsOf 4611686018427387904 W (by unfold rng; decide)
    rwa [show wd 4611686018427387904=4611686018427387904 by decide,show told 4611686018427387904=4611686018427387904 by decide] at this
  have hla:=ha.le
  have hma:=ha.max
  obtain ⟨ba,oa,rfl,hba,hca⟩:=ha.spot (by omega)
  have hbA:=bel_alloc w (.cells #[.func (.func 73) #[] #[],.func (.func 12) #[] #[],.func (.func 19) #[] #[],.func (.func 47) #[] #[]] 92)
  have gA:=heap_a1 w (.cells #[.func (.func 73) #[] #[],.func (.func 12) #[] #[],.func (.func 19) #[] #[],.func (.func 47) #[] #[]] 92)
  go_enter Tryd.func46,Tryd.ntmps46
  go_wp2_with fail
  generalize w.alloc (.cells #[.func (.func 73) #[] #[],.func (.func 12) #[] #[],.func (.func 19) #[] #[],.func (.func 47) #[] #[]] 92)=wa at hbA gA ⊢
  go_loopw [5,9] (fun sv iv wr=>Below wa.heap.size wa wr∧((iv=.int .i64 0∧sv=.float .f64 0)∨(iv=.int .i64 1∧sv=.float .f64 4607182418800017408)∨(iv=.int .i64 2∧sv=.float .f64 4611686018427387904))) (fun _ iv _=>2 - (intOf iv).toNat)
  case atStart=>exact ⟨bel_refl _,.inl ⟨rfl,rfl⟩⟩
  case round=>
    obtain ⟨hbw,hcs⟩:=hrel
    have hbq:=bel_trans hbA hbw
    have CF:=q_cell (blkC gA 0 rfl) hbw
    have CO:=q_cell (blkC gA 1 rfl) hbw
    rcases hcs with ⟨rfl,rfl⟩ | ⟨rfl,rfl⟩ | ⟨rfl,rfl⟩
    . have A0:=q_cell (hca 0 (by omega)) hbq
      rw [Nat.add_zero] at A0
      clear CO
      go_wp2_with fail
      go_quiet ((go_at_call 73; with_reducible exact Calls.quiet_of_same (C1.out _)))
      go_wp2
      go_roundw
      case rel=>exact ⟨bDrewN hbw nq,.inr (.inl ⟨by go_num,rfl⟩)⟩
      case measure=>simp [intOf]
    . have A0:=q_cell (hca 1 (by omega)) hbq
      clear CO
      go_wp2_with fail
      go_quiet ((go_at_call 73; with_reducible exact Calls.quiet_of_same (C1.out _)))
      go_wp2
      go_roundw
      case rel=>exact ⟨bDrewN hbw nq,.inr (.inr ⟨by go_num,rfl⟩)⟩
      case measure=>simp [intOf]
    . clear CF
      go_wp2_with fail
      refine (C2.out _).mono ?_
      rintro _ _ ⟨rfl,rfl⟩
      go_wp2
      go_ret
      exact ⟨rfl,bel_trans hbA hbw⟩
set_option maxRecDepth 100000 in
theorem Left5c {ao:Option Addr} {ca:Nat} (w:World) (ha:Row w ao 2 ca (fun _=>4607182418800017408)) :
    Calls Tryd.prog 23 #[.slice ao 2 ca] w fun r w'=>r=.returned (.int .i64 4611686018427387904)∧Below w.heap.size w w':=by
  go_enter Tryd.func23,Tryd.ntmps23
  go_wp2_with fail
  refine (binary64F _).mono ?_
  rintro _ y1 ⟨rfl,hw1⟩
  go_wp2_with fail
  refine (left5c _ (ha.keeps hw1)).mono ?_
  rintro _ y2 ⟨rfl,hw2⟩
  go_wp2
  go_ret
  exact ⟨rfl,bel_trans hw1 hw2⟩
theorem row2c (w:World) (x:Int) {g:Nat} (hg:g=w.heap.size):Row (w.alloc (.cells #[.int .i64 x,.int .i64 x] 3)) (some ⟨g,0,none⟩) 2 2 (fun _=>x):=by
  subst hg
  have q:=heap_a1 w (.cells #[.int .i64 x,.int .i64 x] 3)
  refine ⟨Nat.le_refl _,by decide,(fun e=>by cases e),fun _=>⟨_,0,rfl,(Array.getElem?_eq_some_iff.1 q).1,fun i hi=>?_⟩⟩
  rcases (show i=0∨i=1 by omega) with rfl | rfl
  . exact blkC q 0 rfl
  . exact blkC q 1 rfl
set_option maxRecDepth 100000 in
set_option maxHeartbeats 4000000 in
theorem alive5 (w:World) (H:Hold4 w) :
    Calls Tryd.prog 9 #[] w fun r w'=>r=.returned (.bool true)∧Below w.heap.size w w':=by
  have fo:∀ i,i < 2->rng ((fun _=>4607182418800017408:Nat->Int) i)∧pok ((fun _=>4607182418800017408:Nat->Int) i)=true:=fun i hi=>(⟨by unfold rng; decide,by decide⟩:rng 4607182418800017408∧pok 4607182418800017408=true)
  have CS:Hid (∀ W g,Below w.heap.size w W->Row W (some ⟨g,0,none⟩) 2 2 (fun _=>4607182418800017408)->Calls Tryd.prog 21 #[.slice (some ⟨g,0,none⟩) 2 2,.int .i64 0] W fun r w'=>r=.returned (.tuple #[.int .i64 4611686018427387904,.int .i64 0])∧Below W.heap.size W w'):=fun W g h R=>by
    refine (sumF1 0 ⟨by omega,by omega⟩ W R fo (by omega) (H.keeps h)).mono ?_
    rintro _ w' ⟨x,rfl,ok,hV,hb⟩
    rw [sum_two (fun i hi=>one5)] at hV
    rw [to_two ok hV]
    exact ⟨rfl,hb⟩
  have CD:Hid (∀ W g k,Below w.heap.size w W->Row W (some ⟨g,0,none⟩) 2 2 (fun _=>4607182418800017408)->Row W (some ⟨k,0,none⟩) 2 2 (fun _=>4607182418800017408)->Calls Tryd.prog 22 #[.slice (some ⟨g,0,none⟩) 2 2,.slice (some ⟨k,0,none⟩) 2 2,.int .i64 0] W fun r w'=>r=.returned (.tuple #[.int .i64 4611686018427387904,.int .i64 0])∧Below W.heap.size W w'):=fun W g k h R R2=>by
    refine (dotFW 0 ⟨by omega,by omega⟩ W R R2 fo fo (by omega) (H.keeps h)).mono ?_
    rintro _ w' ⟨x,rfl,ok,hV,hb⟩
    rw [to_two ok (dot_two (V:=fun i=>patV ((fun _=>4607182418800017408:Nat->Int) i)) (fun i hi=>one5) hV)]
    exact ⟨rfl,hb⟩
  have C3:Hid (∀ W g,Below w.heap.size w W->Row W (some ⟨g,0,none⟩) 2 2 (fun _=>1065353216)->Calls Tryd.prog 6 #[.slice (some ⟨g,0,none⟩) 2 2,.int .i64 0] W fun r w'=>r=.returned (.tuple #[.int .i64 1073741824,.int .i64 0])∧Below W.heap.size W w'):=fun W g h R=>Sum32c W R (H.keeps h)
  have CL5:Hid (∀ W g,Row W (some ⟨g,0,none⟩) 2 2 (fun _=>4607182418800017408)->Calls Tryd.prog 23 #[.slice (some ⟨g,0,none⟩) 2 2] W fun r w'=>r=.returned (.int .i64 4611686018427387904)∧Below W.heap.size W w'):=fun W g R=>Left5c W R
  clear H fo
  have O1:=fun W:World=>bel_alloc W (.cells #[.int .i64 4607182418800017408,.int .i64 4607182418800017408] 3)
  have O2:=fun W:World=>row2c W 4607182418800017408 rfl
  have HO1:Hid _:=hideIt O1
  have HO2:Hid _:=hideIt O2
  clear O1 O2
  go_enter Tryd.func9,Tryd.ntmps9
  go_wp2_with fail
  refine (CS.out _ _ (HO1.out _) (HO2.out _)).mono ?_
  rintro _ y1 ⟨rfl,hw1⟩
  have hb1:=bel_trans (HO1.out _) hw1
  go_wp2_with fail
  refine (CD.out _ _ _ (bel_trans hb1 (bel_trans (HO1.out _) (HO1.out _))) ((HO2.out _).keeps (HO1.out _)) (row2c _ _ (by simp only [size_alloc]))).mono ?_
  rintro _ y2 ⟨rfl,hw2⟩
  have hb2:=bel_trans hb1 (bel_trans (bel_trans (HO1.out _) (HO1.out _)) hw2)
  go_wp2_with fail
  refine (C3.out _ _ (bel_trans hb2 (bel_alloc _ _)) (row2c _ _ rfl)).mono ?_
  rintro _ y3 ⟨rfl,hw3⟩
  have hb3:=bel_trans hb2 (bel_trans (bel_alloc _ _) hw3)
  go_wp2_with fail
  refine (CL5.out _ _ (row2c _ _ rfl)).mono ?_
  rintro _ y4 ⟨rfl,hw4⟩
  have hb4:=bel_trans hb3 (bel_trans (bel_alloc _ _) hw4)
  go_wp2
  go_ret
  exact ⟨rfl,hb4⟩
theorem way5 {way:Int} (h:rng way):∃ k,bits BinOp.and IntKind.i64 way 3=k∧0 <= k∧k <= 3:=by
  refine ⟨_,rfl,?_⟩
  rw [bits_and64,show ((3:Int) % 18446744073709551616).toNat=2 ^ 2 - 1 from by decide,Nat.and_two_pow_sub_one_eq_mod,wrap_i64_eq]
  omega
def Fin5 (d:Nat->Int) (n:Nat):Prop:=∀ i,i < n->rng (d i)∧pok (d i)=true
theorem Fin5.cat {d e:Nat->Int} {n m:Nat} (h:Fin5 d n) (k:Fin5 e m):Fin5 (cat d n e) (n + m):=fun i hi=>by
  unfold Go.Proofs.YtkajoieoggajiaaDoor.cat
  split
  . exact h i (by assumption)
  . exact k (i - n) (by omega)
theorem Fin5.nil (d:Nat->Int):Fin5 d 0:=fun i hi=>by omega
theorem Fin5.one {x:Int} (h:rng x) (p:pok x=true):Fin5 (fun _=>x) 1:=fun i hi=>⟨h,p⟩
def Rd5 (way V p:Int):Prop:=∃ x:NumR,okR x=true∧x.V=V∧p=(toR way x).1
theorem Rd5.unique {way V p q:Int} (h:Rd5 way V p) (k:Rd5 way V q):p=q:=by
  obtain ⟨x,ox,hx,rfl⟩:=h
  obtain ⟨y,oy,hy,rfl⟩:=k
  rw [toR_V ox oy (hx.trans hy.symm)]
end Go.Proofs.YtkajoieoggajiaaDoor
