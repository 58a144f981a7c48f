/- Parts of the proof. -/
import Derived.Test.YtjjihmnbdeeedaaGreatDoorKn13
import Derived.Test.YtjjihmnbdeeedaaGreatDoorKn11
import Derived.Test.YtjjihmnbdeeedaaGreatDoorKn8
import Derived.Test.YtjjihmnbdeeedaaGreatDoorKn9
import Derived.Test.YtjjihmnbdeeedaaGreatDoorKn6
import Derived.ScopeJumps
set_option maxRecDepth 100000
set_option maxHeartbeats 40000000
set_option linter.unusedVariables false
set_option linter.unusedSimpArgs false
namespace Go.Proofs.YtjjihmnbdeeedaaGreatDoor
open Go Go.RowKit Go.Proofs.YtjjihmnbdeeedaaGreatDoor.M
theorem bd_dotV2 {a b:Nat->NumR} {V W:Nat->Int} {K:Nat} (hK:K<=10000):∀ m,m<=5000->(∀ i,i<m->(a i).V=V i∧Half (a i)∧Bd K (V i))->(∀ i,i<m->(b i).V=W i∧Half (b i)∧Bd K (W i))->Bd (2*K+m) (dotV a b m)
 | 0,_,_,_=>bd_zero _
 | m+1,hm,h,k=>by
  obtain ⟨h1,h2,h3⟩:=h m (by omega)
  obtain ⟨k1,k2,k3⟩:=k m (by omega)
  unfold Half at h2 k2
  have e:=mulV_eq (x:=a m) (y:=b m) (by omega) (by omega)
  rw [h1,k1] at e
  exact (bd_dotV2 hK m (by omega) (fun i hi=>h i (by omega)) (fun i hi=>k i (by omega))).add ((h3.mul k3 e (by omega)).up (by omega) (by omega)) (by omega)
theorem ddot_B {n g1 g2:Nat} {q1 q2:Nat->NumR} {a b:Nat->Int} (w:World) (N1:Nums w (some ⟨g1,0,none⟩) n n q1) (N2:Nums w (some ⟨g2,0,none⟩) n n q2) (F1:∀ i,i<n->okR (q1 i)=true∧(q1 i).V=patV (a i)∧Half (q1 i)) (F2:∀ i,i<n->okR (q2 i)=true∧(q2 i).V=patV (b i)∧Half (q2 i)) (fa:∀ i,i<n->pok (a i)=true) (fb:∀ i,i<n->pok (b i)=true) (hn:n<=5000) (hT:Tab w) :
  Calls Tryz.prog 284 #[.slice (some ⟨g1,0,none⟩) n n,.slice (some ⟨g2,0,none⟩) n n] w fun r w'=>∃ v V,r=.returned (.tuple #[v,.int .i64 0])∧DAns w w' V v∧V*2^4194304=sumF (fun i=>patV (a i)*patV (b i)) n∧Bd 14000 V:=by
 have e:=dotV_F (a:=q1) (b:=q2) n (fun i hi=>(F1 i hi).2) (fun i hi=>(F2 i hi).2)
 have hB:=bd_dotV2 (a:=q1) (b:=q2) (K:=4000) (by omega) n hn (fun i hi=>⟨(F1 i hi).2.1,(F1 i hi).2.2,patV_bd (fa i hi)⟩) (fun i hi=>⟨(F2 i hi).2.1,(F2 i hi).2.2,patV_bd (fb i hi)⟩)
 have hB':Bd 14000 (dotV q1 q2 n):=hB.up (by omega) (by omega)
 refine (ddot_ok _ _ n n n q1 q2 w N1 N2 (decide_eq_true fun i hi=>(F1 i hi).1) (decide_eq_true fun i hi=>(F2 i hi).1) (fun i hi=>(F1 i hi).2.2) (fun i hi=>(F2 i hi).2.2) (by omega) hT).mono ?_
 rintro _ w' ⟨v,er,rfl,hF⟩
 obtain ⟨rfl,hA⟩:=hF.yes (hB'.ok (by omega))
 exact ⟨v,_,rfl,hA,e,hB'⟩
theorem totalF {FT:Nat} {ao bo:Option Addr} {n ca cb gl:Nat} {a b:Nat->Int} (w:World) (l_k:w.heap[gl]?=some (.cells #[.slice ao n ca,.slice bo n cb] 38 (0,0))) (RA:Row w ao n ca a) (RB:Row w bo n cb b) (fa:∀ i,i<n->pok (a i)=true) (fb:∀ i,i<n->pok (b i)=true) (hn:n<=5000) (H:Hold4 w) :
    Calls Tryz.prog 243 #[.agg #[.func (.func 58) #[] #[],.func (.func 124) #[] #[],.func (.func 150) #[] #[],.func (.func FT) #[] #[]],.slice (some ⟨gl,0,none⟩) 2 2] w fun r w'=>∃ v V,r=.returned v∧DNum w' v V∧V*2^4194304=sumF (fun i=>patV (a i)*patV (b i)) n∧Bd 14000 V∧Below w.heap.size w w':=by
  have hst:∀ p F c m w,(store p (.func (.func F) #[] c) m).run Tryz.prog w=stored Tryz.prog w p (.func (.func F) #[] c) m:=fun p F c m w=>run_store _ w p _ m rfl
  have NA:Hid (∀ W,Row W ao n ca a->Hold4 W->Calls Tryz.prog 283 #[.agg #[.func (.func 58) #[] #[],.func (.func 124) #[] #[],.func (.func 150) #[] #[],.func (.func FT) #[] #[]],.slice ao n ca] W fun x w'=>∃ g q,x=.returned (.slice (some ⟨g,0,none⟩) n n)∧Nums w' (some ⟨g,0,none⟩) n n q∧Below W.heap.size W w'∧∀ i,i<n->okR (q i)=true∧(q i).V=patV (a i)∧Half (q i)):=fun W hR h=>numbersF ao n ca a W hR (by omega) fa h
  have NB:Hid (∀ W,Row W bo n cb b->Hold4 W->Calls Tryz.prog 283 #[.agg #[.func (.func 58) #[] #[],.func (.func 124) #[] #[],.func (.func 150) #[] #[],.func (.func FT) #[] #[]],.slice bo n cb] W fun x w'=>∃ g q,x=.returned (.slice (some ⟨g,0,none⟩) n n)∧Nums w' (some ⟨g,0,none⟩) n n q∧Below W.heap.size W w'∧∀ i,i<n->okR (q i)=true∧(q i).V=patV (b i)∧Half (q i)):=fun W hR h=>numbersF bo n cb b W hR (by omega) fb h
  have DB:Hid (∀ (g1 g2:Nat) (q1 q2:Nat->NumR) W,Nums W (some ⟨g1,0,none⟩) n n q1->Nums W (some ⟨g2,0,none⟩) n n q2->(∀ i,i<n->okR (q1 i)=true∧(q1 i).V=patV (a i)∧Half (q1 i))->(∀ i,i<n->okR (q2 i)=true∧(q2 i).V=patV (b i)∧Half (q2 i))->Tab W->Calls Tryz.prog 284 #[.slice (some ⟨g1,0,none⟩) n n,.slice (some ⟨g2,0,none⟩) n n] W fun r w'=>∃ v V,r=.returned (.tuple #[v,.int .i64 0])∧DAns W w' V v∧V*2^4194304=sumF (fun i=>patV (a i)*patV (b i)) n∧Bd 14000 V):=fun g1 g2 q1 q2 W N1 N2 F1 F2 hT=>ddot_B W N1 N2 F1 F2 fa fb hn hT
  have hla:=RA.le
  have hma:=RA.max
  have hlb:=RB.le
  have hmb:=RB.max
  clear fa fb
  generalize sumF (fun i=>patV (a i)*patV (b i)) n=sv at *
  replace l_k:=heap_past (.cells #[.bool false,.slice none 0 0,.int .i64 0] 40) (heap_past (.cells #[.func (.func 58) #[] #[],.func (.func 124) #[] #[],.func (.func 150) #[] #[],.func (.func FT) #[] #[]] 204) l_k)
  have k_k:(w.alloc (.cells #[.func (.func 58) #[] #[],.func (.func 124) #[] #[],.func (.func 150) #[] #[],.func (.func FT) #[] #[]] 204)).heap[w.heap.size]?=some (.cells #[.func (.func 58) #[] #[],.func (.func 124) #[] #[],.func (.func 150) #[] #[],.func (.func FT) #[] #[]] 204):=heap_new (.cells #[.func (.func 58) #[] #[],.func (.func 124) #[] #[],.func (.func 150) #[] #[],.func (.func FT) #[] #[]] 204) (by rfl)
  have hb0:=bel_alloc w (.cells #[.func (.func 58) #[] #[],.func (.func 124) #[] #[],.func (.func 150) #[] #[],.func (.func FT) #[] #[]] 204)
  replace k_k:=heap_past (.cells #[.bool false,.slice none 0 0,.int .i64 0] 40) k_k
  have r_k:((w.alloc (.cells #[.func (.func 58) #[] #[],.func (.func 124) #[] #[],.func (.func 150) #[] #[],.func (.func FT) #[] #[]] 204)).alloc (.cells #[.bool false,.slice none 0 0,.int .i64 0] 40)).heap[w.heap.size+1]?=some (.cells #[.bool false,.slice none 0 0,.int .i64 0] 40):=heap_new (.cells #[.bool false,.slice none 0 0,.int .i64 0] 40) (by simp only [size_alloc])
  replace hb0:=bel_trans hb0 (bel_alloc (w.alloc (.cells #[.func (.func 58) #[] #[],.func (.func 124) #[] #[],.func (.func 150) #[] #[],.func (.func FT) #[] #[]] 204)) (.cells #[.bool false,.slice none 0 0,.int .i64 0] 40))
  go_enter Tryz.func243,Tryz.ntmps243
  go_wp2_with fail
  rename_i Q0 K00 hK00
  generalize ((w.alloc (.cells #[.func (.func 58) #[] #[],.func (.func 124) #[] #[],.func (.func 150) #[] #[],.func (.func FT) #[] #[]] 204)).alloc (.cells #[.bool false,.slice none 0 0,.int .i64 0] 40))=x0 at hb0 k_k r_k l_k ⊢
  have H:=H.keeps hb0
  have RA:=RA.keeps hb0
  have RB:=RB.keeps hb0
  have hK1:=hK00
  have HN1:∀ (g:Nat) (x1:World) (t:Array Value) (x_g:Bool) (x_o:Option Addr) (x_n x_c:Nat) (x_e:Int) (x_V:Int),#[t.getD 0 undef,.slice (some ⟨gl,0,none⟩) 2 2,.pointer (some ⟨w.heap.size,0,none⟩),t.getD 3 undef,.pointer (some ⟨w.heap.size+1,0,none⟩),t.getD 5 undef,t.getD 6 undef,.pointer (some ⟨g,0,none⟩),t.getD 8 undef,t.getD 9 undef,t.getD 10 undef,t.getD 11 undef,t.getD 12 undef,t.getD 13 undef,t.getD 14 undef,t.getD 15 undef,t.getD 16 undef,t.getD 17 undef,t.getD 18 undef,t.getD 19 undef,t.getD 20 undef,t.getD 21 undef,t.getD 22 undef,t.getD 23 undef,t.getD 24 undef,t.getD 25 undef,t.getD 26 undef,t.getD 27 undef,t.getD 28 undef,t.getD 29 undef,t.getD 30 undef,t.getD 31 undef,t.getD 32 undef,t.getD 33 undef,t.getD 34 undef,t.getD 35 undef,t.getD 36 undef]=t->x0.heap.size<=g->x1.heap[g]?=some (.cells #[.bool x_g,.slice x_o x_n x_c,.int .i64 x_e] 40 (0,0))->Below x0.heap.size x0 x1->DAn w.heap.size x1 x_V (.agg #[.bool x_g,.slice x_o x_n x_c,.int .i64 x_e])->x_V*2^4194304=sv->Bd 14000 x_V->Exit.then K00 Q0 Exit.normal { tmps:=t,defers:=[] } x1:=by
    intro g_x x1 t x_g x_o x_n x_c x_e x_V ht x_ge x_k hw1 x_D x_E x_B
    obtain ⟨u1,hu⟩:∃ u:Nat->Value,t=#[u 0,.slice (some ⟨gl,0,none⟩) 2 2,.pointer (some ⟨w.heap.size,0,none⟩),u 3,.pointer (some ⟨w.heap.size+1,0,none⟩),u 5,u 6,.pointer (some ⟨g_x,0,none⟩),u 8,u 9,u 10,u 11,u 12,u 13,u 14,u 15,u 16,u 17,u 18,u 19,u 20,u 21,u 22,u 23,u 24,u 25,u 26,u 27,u 28,u 29,u 30,u 31,u 32,u 33,u 34,u 35,u 36]:=⟨fun k=>t.getD k undef,ht.symm⟩
    clear ht
    subst hu
    have H:=H.keeps hw1
    have RA:=RA.keeps hw1
    have RB:=RB.keeps hw1
    have k_k:=(hw1.block _ (Array.getElem?_eq_some_iff.1 k_k).1).trans k_k
    have r_k:=(hw1.block _ (Array.getElem?_eq_some_iff.1 r_k).1).trans r_k
    have l_k:=(hw1.block _ (Array.getElem?_eq_some_iff.1 l_k).1).trans l_k
    have hb1:=bel_trans hb0 hw1
    have f0:=blkC x_k 0 rfl
    have f1:=blkC x_k 1 rfl
    have f2:=blkC x_k 2 rfl
    have k0:=blkC r_k 0 rfl
    have k1:=blkC r_k 1 rfl
    have k2:=blkC r_k 2 rfl
    have z0:=blkF r_k 0
    have z1:=blkF r_k 1
    have z2:=blkF r_k 2
    go_wp2
    refine bodyPost_ret (v:=.agg #[.bool x_g,.slice x_o x_n x_c,.int .i64 x_e]) (by simp [results,Tryz.results243,go_sem,k0,k1,k2]) rfl ⟨_,x_V,rfl,?_,x_E,x_B,?_⟩
    · exact (dan_res3 x_D r_k _ _ _).num
    · exact bel_set3' hb1 (by omega) _ _ _
  have KK1:∀ W,Below x0.heap.size x0 W->W.cell? ⟨w.heap.size,0,none⟩=some (.func (.func 58) #[] #[])∧W.cell? ⟨w.heap.size,1,none⟩=some (.func (.func 124) #[] #[])∧W.cell? ⟨w.heap.size,2,none⟩=some (.func (.func 150) #[] #[])∧W.cell? ⟨w.heap.size,3,none⟩=some (.func (.func FT) #[] #[])∧W.cell? ⟨gl,0,none⟩=some (.slice ao n ca)∧W.cell? ⟨gl,1,none⟩=some (.slice bo n cb):=fun W hb=>⟨q_cell (blkC k_k 0 rfl) hb,q_cell (blkC k_k 1 rfl) hb,q_cell (blkC k_k 2 rfl) hb,q_cell (blkC k_k 3 rfl) hb,q_cell (blkC l_k 0 rfl) hb,q_cell (blkC l_k 1 rfl) hb⟩
  have hC1_0:=(bel_refl x0).drew
  have hT1_0:Below w.heap.size w x0.drew:=hb0.drew
  have H_1_0:=H.keeps (bel_refl x0).drew
  have RA_1_0:=RA.keeps (bel_refl x0).drew
  have RB_1_0:=RB.keeps (bel_refl x0).drew
  have hs1_0:=(bel_refl x0).drew
  go_region_held3 (fun W=>W.cell? ⟨w.heap.size,0,none⟩=some (.func (.func 58) #[] #[])∧W.cell? ⟨w.heap.size,1,none⟩=some (.func (.func 124) #[] #[])∧W.cell? ⟨w.heap.size,2,none⟩=some (.func (.func 150) #[] #[])∧W.cell? ⟨w.heap.size,3,none⟩=some (.func (.func FT) #[] #[])∧W.cell? ⟨gl,0,none⟩=some (.slice ao n ca)∧W.cell? ⟨gl,1,none⟩=some (.slice bo n cb))
    (with_reducible first | assumption | exact KK1 _ (bel_alloc _ _).drew | exact KK1 _ hC1_0 | exact KK1 _ hC1_1 | exact KK1 _ hC1_2 | exact KK1 _ hC1_3 | exact KK1 _ (bel_trans hC1_0 (bel_alloc _ _)) | exact KK1 _ (bel_trans hC1_1 (bel_alloc _ _)) | exact KK1 _ (bel_trans hC1_2 (bel_alloc _ _)) | exact KK1 _ (bel_trans hC1_3 (bel_alloc _ _)) | exact KK1 _ (bel_set3' hC1_3 (Nat.le_refl _) _ _ _) | exact KK1 _ (bel_set3' hC1_3 hC1_1.size _ _ _) | exact KK1 _ (bel_set3' hC1_3 hC1_2.size _ _ _) | fail)
    (first
      | (go_at_call 284; have _t:=hs1_2; refine (DB.out _ _ _ _ _ (N1b.keeps (by with_reducible first | exact bel_refl _ | exact bel_alloc _ _ | exact bel_dr _ _)) (N2.keeps (by with_reducible first | exact bel_refl _ | exact bel_alloc _ _ | exact bel_dr _ _)) F1 F2 (H_1_2.keeps (by with_reducible first | exact bel_refl _ | exact bel_alloc _ _ | exact bel_dr _ _)).tab).mono ?_; rintro _ y1_3 ⟨v,x_V,rfl,nm1,x_E,x_B⟩; obtain ⟨x_g,x_o,x_n,x_c,x_e,rfl⟩:=dans_shape nm1; have hq1_3:=nm1.below; have x_A:=nm1.dan.lower (Nat.le_trans hT1_2.size (by with_reducible first | exact Nat.le_refl _ | exact (bel_alloc _ _).size | exact (bel_dr _ _).size)); have hs1_3:Below y1_2.heap.size y1_2 y1_3:=(by with_reducible first | exact hq1_3 | exact bel_trans (bel_alloc _ _) hq1_3 | exact bel_trans (bel_dr _ _) hq1_3); have hT1_3:=bel_trans hT1_2 hs1_3; have hC1_3:=bel_trans hC1_2 hs1_3; have H_1_3:=H_1_2.keeps hs1_3; have RA_1_3:=RA_1_2.keeps hs1_3; have RB_1_3:=RB_1_2.keeps hs1_3; with_reducible first | (have qz1:y1_3.heap[x0.heap.size]?=some (.cells #[.bool false,.slice none 0 0,.int .i64 0] 40 (0,0)):=blk_on hq1_3 (blk_on hq1_2 (blk_on hq1_1 (heap_a1d x0 (.cells #[.bool false,.slice none 0 0,.int .i64 0] 40)))); have cz1_0:=blkC qz1 0 rfl; have zz1_0:=blkF qz1 0; have cz1_1:=blkC qz1 1 rfl; have zz1_1:=blkF qz1 1; have cz1_2:=blkC qz1 2 rfl; have zz1_2:=blkF qz1 2) | (have qz1:y1_3.heap[y1_1.heap.size]?=some (.cells #[.bool false,.slice none 0 0,.int .i64 0] 40 (0,0)):=blk_on hq1_3 (blk_on hq1_2 (heap_a1 _ _)); have cz1_0:=blkC qz1 0 rfl; have zz1_0:=blkF qz1 0; have cz1_1:=blkC qz1 1 rfl; have zz1_1:=blkF qz1 1; have cz1_2:=blkC qz1 2 rfl; have zz1_2:=blkF qz1 2) | (have qz1:y1_3.heap[y1_2.heap.size]?=some (.cells #[.bool false,.slice none 0 0,.int .i64 0] 40 (0,0)):=blk_on hq1_3 (heap_a1 _ _); have cz1_0:=blkC qz1 0 rfl; have zz1_0:=blkF qz1 0; have cz1_1:=blkC qz1 1 rfl; have zz1_1:=blkF qz1 1; have cz1_2:=blkC qz1 2 rfl; have zz1_2:=blkF qz1 2) | skip)
      | (go_at_call 283; have _t:=hs1_1; refine (NB.out _ (RB_1_1.keeps (by with_reducible first | exact bel_refl _ | exact bel_alloc _ _ | exact bel_dr _ _)) (H_1_1.keeps (by with_reducible first | exact bel_refl _ | exact bel_alloc _ _ | exact bel_dr _ _))).mono ?_; rintro _ y1_2 ⟨g2,q2,rfl,N2,hq1_2,F2⟩; have hs1_2:Below y1_1.heap.size y1_1 y1_2:=(by with_reducible first | exact hq1_2 | exact bel_trans (bel_alloc _ _) hq1_2 | exact bel_trans (bel_dr _ _) hq1_2); have hT1_2:=bel_trans hT1_1 hs1_2; have hC1_2:=bel_trans hC1_1 hs1_2; have H_1_2:=H_1_1.keeps hs1_2; have RA_1_2:=RA_1_1.keeps hs1_2; have RB_1_2:=RB_1_1.keeps hs1_2; have N1b:=N1.keeps hs1_2)
      | (go_at_call 283; refine (NA.out _ (RA_1_0.keeps (by with_reducible first | exact bel_refl _ | exact bel_alloc _ _ | exact bel_dr _ _)) (H_1_0.keeps (by with_reducible first | exact bel_refl _ | exact bel_alloc _ _ | exact bel_dr _ _))).mono ?_; rintro _ y1_1 ⟨g1,q1,rfl,N1,hq1_1,F1⟩; have hs1_1:Below x0.drew.heap.size x0.drew y1_1:=(by with_reducible first | exact hq1_1 | exact bel_trans (bel_alloc _ _) hq1_1 | exact bel_trans (bel_dr _ _) hq1_1); have hT1_1:=bel_trans hT1_0 hs1_1; have hC1_1:=bel_trans hC1_0 hs1_1; have H_1_1:=H_1_0.keeps hs1_1; have RA_1_1:=RA_1_0.keeps hs1_1; have RB_1_1:=RB_1_0.keeps hs1_1))
  · exact HN1 y1_3.heap.size _ _ _ _ _ _ _ x_V (by kernel_rfl) ((bel_trans (bel_trans (bel_trans (hs1_0) hs1_1) hs1_2) hs1_3).size) (heap_a1 _ _) (bel_trans (bel_trans (bel_trans (bel_trans (hs1_0) hs1_1) hs1_2) hs1_3) (bel_alloc _ _)) (x_A.keeps (bel_alloc _ _)) x_E x_B
  · exact HN1 y1_2.heap.size _ _ _ _ _ _ _ x_V (by kernel_rfl) ((bel_trans (bel_trans (hs1_0) hs1_1) hs1_2).size) (heap_set (heap_set (heap_set (blk_on hq1_3 (heap_a1 _ _)) 0 _) 1 _) 2 _) (bel_set3' (bel_trans (bel_trans (bel_trans (hs1_0) hs1_1) hs1_2) hs1_3) ((bel_trans (bel_trans (hs1_0) hs1_1) hs1_2).size) _ _ _) (dan_res3 x_A (blk_on hq1_3 (heap_a1 _ _)) _ _ _) x_E x_B
  · exact HN1 y1_1.heap.size _ _ _ _ _ _ _ x_V (by kernel_rfl) ((bel_trans (hs1_0) hs1_1).size) (heap_set (heap_set (heap_set (blk_on hq1_3 (blk_on hq1_2 (heap_a1 _ _))) 0 _) 1 _) 2 _) (bel_set3' (bel_trans (bel_trans (bel_trans (hs1_0) hs1_1) hs1_2) hs1_3) ((bel_trans (hs1_0) hs1_1).size) _ _ _) (dan_res3 x_A (blk_on hq1_3 (blk_on hq1_2 (heap_a1 _ _))) _ _ _) x_E x_B
  · exact HN1 x0.heap.size _ _ _ _ _ _ _ x_V (by kernel_rfl) (Nat.le_refl _) (heap_set (heap_set (heap_set (blk_on hq1_3 (blk_on hq1_2 (blk_on hq1_1 (heap_a1d x0 (.cells #[.bool false,.slice none 0 0,.int .i64 0] 40))))) 0 _) 1 _) 2 _) (bel_set3' (bel_trans (bel_trans (bel_trans (hs1_0) hs1_1) hs1_2) hs1_3) (Nat.le_refl _) _ _ _) (dan_res3 x_A (blk_on hq1_3 (blk_on hq1_2 (blk_on hq1_1 (heap_a1d x0 (.cells #[.bool false,.slice none 0 0,.int .i64 0] 40))))) _ _ _) x_E x_B
theorem binary64F (w:World) :
  Calls Tryz.prog 184 #[] w fun r w'=>r=.returned (.agg #[.func (.func 58) #[] #[],.func (.func 124) #[] #[],.func (.func 150) #[] #[],.func (.func 198) #[] #[]])∧Below w.heap.size w w':=by
 have hst:∀ p F m w,(store p (.func (.func F) #[] #[]) m).run Tryz.prog w=stored Tryz.prog w p (.func (.func F) #[] #[]) m:=fun p F m w=>run_store _ w p _ m rfl
 go_enter Tryz.func184,Tryz.ntmps184
 go_wp2_with fail
 have r_j:=heap_a1 w (.cells #[.func (.func 58) #[] #[],.func (.func 124) #[] #[],.func (.func 150) #[] #[],.func (.func 198) #[] #[]] 204)
 have k0:=blkC r_j 0 rfl
 have k1:=blkC r_j 1 rfl
 have k2:=blkC r_j 2 rfl
 have k3:=blkC r_j 3 rfl
 exact bodyPost_ret (v:=.agg #[.func (.func 58) #[] #[],.func (.func 124) #[] #[],.func (.func 150) #[] #[],.func (.func 198) #[] #[]]) (by simp [results,Tryz.results184,go_sem,k0,k1,k2,k3]) rfl ⟨rfl,bel_alloc _ _⟩
theorem sumF2 {ao bo:Option Addr} {n ca cb gl:Nat} {a b:Nat->Int} (w:World) (l_k:w.heap[gl]?=some (.cells #[.slice ao n ca,.slice bo n cb] 38 (0,0))) (RA:Row w ao n ca a) (RB:Row w bo n cb b) (fa:∀ i,i<n->rng (a i)∧pok (a i)=true) (fb:∀ i,i<n->rng (b i)∧pok (b i)=true) (hn:n<=1000) (H:Hold4 w) :
    Calls Tryz.prog 183 #[.agg #[.func (.func 58) #[] #[],.func (.func 124) #[] #[],.func (.func 150) #[] #[],.func (.func 198) #[] #[]],.int .i64 0,.slice (some ⟨gl,0,none⟩) 2 2] w fun r w'=>∃ x:NumR,r=.returned (.tuple #[.int .i64 (toR 0 x).1,.int .i64 0])∧okR x=true∧x.V*2^4194304=sumF (fun i=>patV (a i)*patV (b i)) n∧Below w.heap.size w w':=by
  have hst:∀ p F c m w,(store p (.func (.func F) #[] c) m).run Tryz.prog w=stored Tryz.prog w p (.func (.func F) #[] c) m:=fun p F c m w=>run_store _ w p _ m rfl
  have hE:∀ (cap:Array Value) (w:World),(callFunc 198 cap).run Tryz.prog w=.ok (.enter 198 cap) w:=by intro cap w; simp [go_sem]
  have C1:Hid (∀ W,Below w.heap.size w W->Calls Tryz.prog 241 #[.int .i64 0,.slice (some ⟨gl,0,none⟩) 2 2] W fun r w'=>r=.returned (.int .i64 0)∧Below W.heap.size W w'):=fun W h=>refusal2 W (blk_on h l_k) (by omega) (H.keeps h)
  have C2:Hid (∀ W,Below w.heap.size w W->Calls Tryz.prog 242 #[.agg #[.func (.func 58) #[] #[],.func (.func 124) #[] #[],.func (.func 150) #[] #[],.func (.func 198) #[] #[]],.slice (some ⟨gl,0,none⟩) 2 2] W fun r w'=>r=.returned (.float .f64 0)∧Below W.heap.size W w'):=fun W h=>strays2 W (blk_on h l_k) (RA.keeps h) (RB.keeps h) fa fb
  have C3:Hid (∀ W,Below w.heap.size w W->Calls Tryz.prog 243 #[.agg #[.func (.func 58) #[] #[],.func (.func 124) #[] #[],.func (.func 150) #[] #[],.func (.func 198) #[] #[]],.slice (some ⟨gl,0,none⟩) 2 2] W fun r w'=>∃ (x:NumR),r=.returned (.agg #[.bool x.ng,.slice x.ao x.n x.cap,.int .i64 x.e])∧okR x=true∧x.V*2^4194304=sumF (fun i=>patV (a i)*patV (b i)) n∧(∀ W2,Below w'.heap.size w' W2->Calls Tryz.prog 198 #[.agg #[.bool x.ng,.slice x.ao x.n x.cap,.int .i64 x.e],.int .i64 0] W2 fun r2 w2=>r2=.returned (.tuple #[.int .i64 (toR 0 x).1,.bool (toR 0 x).2,.int .i64 0])∧Below W2.heap.size W2 w2)∧Below W.heap.size W w'):=fun W h=>by
    refine (totalF W (blk_on h l_k) (RA.keeps h) (RB.keeps h) (fun i hi=>(fa i hi).2) (fun i hi=>(fb i hi).2) (by omega) (H.keeps h)).mono ?_
    rintro _ w' ⟨v,V,rfl,hD,hV,hB,hb⟩
    obtain ⟨x,rfl,hR,ok,rfl⟩:=hD.open (hB.ok (by omega))
    refine ⟨x,rfl,ok,hV,fun W2 h2=>?_,hb⟩
    have H2:=H.keeps (bel_trans h (bel_trans hb h2))
    exact to_ok 0 ⟨by omega,by omega⟩ x W2 (hR.keeps h2) ok H2.env H2.tab
  clear RA RB fa fb H
  generalize sumF (fun i=>patV (a i)*patV (b i)) n=sv at *
  have ho:FloatKind.f64.format.order 0 0=some .eq:=by decide +kernel
  have hb0:=bel_alloc w (.cells #[.func (.func 58) #[] #[],.func (.func 124) #[] #[],.func (.func 150) #[] #[],.func (.func 198) #[] #[]] 204)
  have b_k:=heap_a1 w (.cells #[.func (.func 58) #[] #[],.func (.func 124) #[] #[],.func (.func 150) #[] #[],.func (.func 198) #[] #[]] 204)
  go_enter Tryz.func183,Tryz.ntmps183
  go_wp2_with fail
  generalize w.alloc (.cells #[.func (.func 58) #[] #[],.func (.func 124) #[] #[],.func (.func 150) #[] #[],.func (.func 198) #[] #[]] 204)=x0 at hb0 b_k ⊢
  refine (C1.out _ hb0).mono ?_
  rintro _ y1 ⟨rfl,hw1⟩
  replace b_k:=blk_on hw1 b_k
  replace hb0:=bel_trans hb0 hw1
  have f0:=blkC b_k 0 rfl
  have f1:=blkC b_k 1 rfl
  have f2:=blkC b_k 2 rfl
  have f3:=blkC b_k 3 rfl
  go_wp2_with fail
  clear f0 f1 f2 f3
  refine (C2.out _ hb0).mono ?_
  rintro _ y2 ⟨rfl,hw2⟩
  replace b_k:=blk_on hw2 b_k
  replace hb0:=bel_trans hb0 hw2
  go_wp2_with fail
  have KK:∀ W,Below y2.heap.size y2 W->W.cell? ⟨w.heap.size,0,none⟩=some (.func (.func 58) #[] #[])∧W.cell? ⟨w.heap.size,1,none⟩=some (.func (.func 124) #[] #[])∧W.cell? ⟨w.heap.size,2,none⟩=some (.func (.func 150) #[] #[])∧W.cell? ⟨w.heap.size,3,none⟩=some (.func (.func 198) #[] #[]):=fun W hb=>⟨q_cell (blkC b_k 0 rfl) hb,q_cell (blkC b_k 1 rfl) hb,q_cell (blkC b_k 2 rfl) hb,q_cell (blkC b_k 3 rfl) hb⟩
  have hC0:=(bel_refl y2).drew
  go_region_held3 (fun W=>W.cell? ⟨w.heap.size,0,none⟩=some (.func (.func 58) #[] #[])∧W.cell? ⟨w.heap.size,1,none⟩=some (.func (.func 124) #[] #[])∧W.cell? ⟨w.heap.size,2,none⟩=some (.func (.func 150) #[] #[])∧W.cell? ⟨w.heap.size,3,none⟩=some (.func (.func 198) #[] #[]))
    (with_reducible first | assumption | exact KK _ hC0 | exact KK _ hC1 | exact KK _ hC2 | fail)
    (first
      | (go_at_call 198; refine (CT _ (bel_refl _)).mono ?_; rintro _ y4 ⟨rfl,hq2⟩; have hC2:=bel_trans hC1 hq2)
      | (go_at_call 243; refine (C3.out _ (bel_trans hb0 hC0)).mono ?_; rintro _ y3 ⟨x,rfl,ok,hV,CT,hq1⟩; have hC1:=bel_trans hC0 hq1))
  all_goals go_wp2
  all_goals exact bodyPost_ret (v:=.tuple #[.int .i64 (toR 0 x).1,.int .i64 0]) (by simp [results,Tryz.results183,go_sem]) rfl ⟨x,rfl,ok,hV,bel_trans hb0 hC2⟩
theorem dotF2 {ao bo:Option Addr} {n ca cb:Nat} {a b:Nat->Int} (w:World) (RA:Row w ao n ca a) (RB:Row w bo n cb b) (fa:∀ i,i<n->rng (a i)∧pok (a i)=true) (fb:∀ i,i<n->rng (b i)∧pok (b i)=true) (hn:n<=1000) (H:Hold4 w) :
  Calls Tryz.prog 123 #[.slice ao n ca,.slice bo n cb,.int .i64 0] w fun r w'=>∃ x:NumR,r=.returned (.tuple #[.int .i64 (toR 0 x).1,.int .i64 0])∧okR x=true∧x.V*2^4194304=sumF (fun i=>patV (a i)*patV (b i)) n∧Below w.heap.size w w':=by
 have C1:Hid (∀ W,Calls Tryz.prog 184 #[] W fun r w'=>r=.returned (.agg #[.func (.func 58) #[] #[],.func (.func 124) #[] #[],.func (.func 150) #[] #[],.func (.func 198) #[] #[]])∧Below W.heap.size W w'):=fun W=>binary64F W
 have C2:Hid (∀ W gl,Below w.heap.size w W->W.heap[gl]?=some (.cells #[.slice ao n ca,.slice bo n cb] 38 (0,0))->Calls Tryz.prog 183 #[.agg #[.func (.func 58) #[] #[],.func (.func 124) #[] #[],.func (.func 150) #[] #[],.func (.func 198) #[] #[]],.int .i64 0,.slice (some ⟨gl,0,none⟩) 2 2] W fun r w'=>∃ x:NumR,r=.returned (.tuple #[.int .i64 (toR 0 x).1,.int .i64 0])∧okR x=true∧x.V*2^4194304=sumF (fun i=>patV (a i)*patV (b i)) n∧Below W.heap.size W w'):=fun W gl h hl=>sumF2 W hl (RA.keeps h) (RB.keeps h) fa fb hn (H.keeps h)
 clear RA RB fa fb H
 generalize sumF (fun i=>patV (a i)*patV (b i)) n=sv at *
 go_enter Tryz.func123,Tryz.ntmps123
 go_wp2_with fail
 refine (C1.out _).mono ?_
 rintro _ y1 ⟨rfl,hw1⟩
 go_wp2_with fail
 refine (C2.out _ _ (bel_trans hw1 (bel_alloc y1 (.cells #[.slice ao n ca,.slice bo n cb] 38))) (heap_a1 y1 (.cells #[.slice ao n ca,.slice bo n cb] 38))).mono ?_
 rintro _ y2 ⟨x,rfl,ok,hV,hw2⟩
 go_wp2
 exact bodyPost_ret (v:=.tuple #[.int .i64 (toR 0 x).1,.int .i64 0]) (by simp [results,Tryz.results123,go_sem]) rfl ⟨x,rfl,ok,hV,bel_trans hw1 (bel_trans (bel_alloc y1 (.cells #[.slice ao n ca,.slice bo n cb] 38)) hw2)⟩
theorem lost_fx {u v:Int} (h1:Fx 872 1226 u) (h2:Fx 872 1226 v):pok (prL u v)=true∧∃ T,2^1074*T=iV u*iV v∧iV (fprod u v)+iV (prL u v)=T:=by
 obtain ⟨q,_,T,hT,hU⟩:=h1.prod h2 (by decide) (by decide) (by decide)
 have hm:=maxV_ge
 have e:(2:Int)^1254=268435456*2^1226:=by
  rw [show (1254:Nat)=28+1226 by decide,Int.pow_add]
  congr 1
 have l:(2:Int)^1254<=2^2097:=p2le (by decide)
 have pp:=p2 1226
 have s1:=sp_fin h1.r h1.p h1.b (by omega)
 have s2:=sp_fin h2.r h2.p h2.b (by omega)
 have hb:=q.b
 have hd:=h_dbl hU
 have hu:=hU.1
 have pk:pok (prL u v)=true:=by
  refine prod_fin h1.r h2.r s1 s2 q.p hT ?_
  have l2:(2:Int)^1381<=2^2097:=p2le (by decide)
  have e2:(2:Int)^1380=2*2^1379:=p2s 1379
  have e3:(2:Int)^1381=2*2^1380:=p2s 1380
  have hb':((iV (fprod u v)).natAbs:Int)<=2^1379:=hb
  generalize (2:Int)^1379=X at *
  generalize (2:Int)^1380=Y at *
  generalize (2:Int)^1381=Z at *
  generalize (2:Int)^2097=M at *
  clear e l pp s1 s2 hb hT
  omega
 exact ⟨pk,T,hT,(prL_exact h1.r h2.r pk hT).2.2⟩
theorem mul_inj {q x y:Int} (hq:0<q) (h:q*x=q*y):x=y:=Int.eq_of_mul_eq_mul_left (Int.ne_of_gt hq) h
theorem hd_eq {u1 v1 u2 v2:Int} (h1:Fx 872 1226 u1) (h2:Fx 872 1226 v1) (h3:Fx 872 1226 u2) (h4:Fx 872 1226 v2) (he:iV (fprod u1 v2)=iV (fprod v1 u2)) :
  HdV (hT u1 v1 u2 v2) (fsum (prL u1 v2) (neg (prL v1 u2))):=by
 obtain ⟨p1,T1,e1,x1⟩:=lost_fx h1 h4
 obtain ⟨p2',T2,e2,x2⟩:=lost_fx h2 h3
 have r1:=prL_rng h1.r h4.r
 have r2:=prL_rng h2.r h3.r
 obtain ⟨n1,n2,n3⟩:=neg_facts r2 p2'
 have hq:=p2 1074
 have eT:hT u1 v1 u2 v2=T1-T2:=by
  refine mul_inj hq ?_
  rw [hT_eq h1 h2 h3 h4,Int.mul_sub,e1,e2]
 have eS:iV (prL u1 v2)+iV (neg (prL v1 u2))=hT u1 v1 u2 v2:=by rw [eT,n3]; omega
 have s:=stp_sum r1 n1 p1 n2
 rw [eS] at s
 have hb:=hT_bd h1 h2 h3 h4
 have pk:=s.fin (Int.le_trans (Int.le_trans hb (p2le (by decide))) maxV_ge)
 refine ⟨s.rn,pk,?_⟩
 rw [sum_iV r1 n1 p1 n2,eS]
theorem keys_rg {a b:Int} (ha:rng a) (hb:rng b) (h:key a=key b):rg a=rg b:=by
 have p:=(q_rg ha).2
 have q:=(q_rg hb).2
 rw [key_rg ha,key_rg hb] at h
 split at h <;> split at h <;> omega
theorem hd_near {x:NumR} {T:Int} (ok:okR x=true) (hV:x.V=T*pw (-1074)) (hb:(T.natAbs:Int)<=2^1379):HdV T (toR 0 x).1:=by
 have s:=nrP_stp T
 have pk:=s.fin (Int.le_trans (Int.le_trans hb (p2le (by decide))) maxV_ge)
 have hR:=to_rd ok
 have r1:=toR_range ok 0
 have hs:same (nrP T) (toR 0 x).1=true:=by
  refine same_near (g:=false) (f:=fun way=>toR way x) hR ?_
  rw [hV]
  by_cases c:T=0
  ·exact .inl ⟨by rw [c,Int.zero_mul],by rw [c]; decide⟩
  ·refine .inr ⟨k_ne (pw_pos _) c,?_⟩
   unfold nrP; rw [if_neg c]
 unfold same at hs
 simp only [Bool.and_eq_true,Bool.not_eq_true',decide_eq_false_iff_not,decide_eq_true_eq] at hs
 obtain ⟨c1,c2,hk⟩:=hs
 have hg:=keys_rg s.rn r1 hk
 refine ⟨r1,pok_of r1 c2 (fun q=>inf_no s.rn (hg.trans q) pk),?_⟩
 have a:=iV_le s.rn r1 (Int.le_of_eq hk)
 have b:=iV_le r1 s.rn (Int.le_of_eq hk.symm)
 omega
theorem oHeads_eq {u1 v1 u2 v2 L R:Int} (E1 E2 E3 E4:Nat) (h1:Fx 872 1226 u1) (h2:Fx 872 1226 v1) (h3:Fx 872 1226 u2) (h4:Fx 872 1226 v2) (ho:FloatKind.f64.format.order (wd L) (wd R)=some .eq) (he:iV (fprod u1 v2)=iV (fprod v1 u2)) (w:World) (H:Hold4 w) :
  Calls Tryz.prog 60 #[.agg #[.float .f64 (wd u1),.float .f64 E1,.float .f64 (wd v1),.float .f64 E2,.float .f64 (wd u2),.float .f64 E3,.float .f64 (wd v2),.float .f64 E4],.float .f64 (wd L),.float .f64 (wd R)] w fun r w'=>∃ h,r=.returned (.float .f64 (wd h))∧HdV (hT u1 v1 u2 v2) h∧Below w.heap.size w w':=by
 have hv:=hd_eq h1 h2 h3 h4 he
 have C1:Hid (∀ W,Hold4 W->Calls Tryz.prog 122 #[.float .f64 (wd u1),.float .f64 (wd v2)] W fun r w'=>r=.returned (.float .f64 (wd (prL u1 v2)))∧Below W.heap.size W w'):=fun W h=>oLost h1.r h4.r h1.p h4.p W h
 have C2:Hid (∀ W,Hold4 W->Calls Tryz.prog 122 #[.float .f64 (wd v1),.float .f64 (wd u2)] W fun r w'=>r=.returned (.float .f64 (wd (prL v1 u2)))∧Below W.heap.size W w'):=fun W h=>oLost h2.r h3.r h2.p h3.p W h
 have hd:=fun W=>run_diffN (P:=Tryz.prog) 59 (FW.pat (q_fin (lost_fx h1 h4).1) (prL_rng h1.r h4.r)) (FW.pat (q_fin (lost_fx h2 h3).1) (prL_rng h2.r h3.r)) (q_fin hv.p) W
 have HV:Hid (HdV (hT u1 v1 u2 v2) (fsum (prL u1 v2) (neg (prL v1 u2)))):=hv
 clear h1 h2 h3 h4 he hv
 generalize hT u1 v1 u2 v2=T at *
 generalize hx:fsum (prL u1 v2) (neg (prL v1 u2))=X at *
 clear hx
 have HX:Hid (∃ h,wd X=wd h∧HdV T h):=⟨X,rfl,HV.out⟩
 generalize wd X=XW at *
 generalize wd (prL u1 v2)=A1 at *
 generalize wd (prL v1 u2)=A2 at *
 generalize wd u1=U1 at *
 generalize wd v1=V1 at *
 generalize wd u2=U2 at *
 generalize wd v2=V2 at *
 generalize wd L=LW at *
 generalize wd R=RW at *
 have b_k:=heap_a1 w (.cells #[.float .f64 U1,.float .f64 E1,.float .f64 V1,.float .f64 E2,.float .f64 U2,.float .f64 E3,.float .f64 V2,.float .f64 E4] 101)
 have hb0:=bel_alloc w (.cells #[.float .f64 U1,.float .f64 E1,.float .f64 V1,.float .f64 E2,.float .f64 U2,.float .f64 E3,.float .f64 V2,.float .f64 E4] 101)
 go_enter Tryz.func60,Tryz.ntmps60
 go_wp2_with fail
 generalize w.alloc (.cells #[.float .f64 U1,.float .f64 E1,.float .f64 V1,.float .f64 E2,.float .f64 U2,.float .f64 E3,.float .f64 V2,.float .f64 E4] 101)=x0 at b_k hb0 ⊢
 have f0:=blkC b_k 0 rfl
 have f2:=blkC b_k 2 rfl
 have f4:=blkC b_k 4 rfl
 have f6:=blkC b_k 6 rfl
 go_quiet (fail)
 go_wp2_with fail
 clear f0 f2 f4 f6
 have hd:=bDrewN (bel_refl x0) nq
 replace hb0:=bel_trans hb0 hd
 replace H:=H.keeps hb0
 generalize x0.drewN nq=x1 at hb0 H ⊢
 clear hd
 refine (C1.out _ H).mono ?_
 rintro _ y1 ⟨rfl,hw1⟩
 replace H:=H.keeps hw1
 go_wp2_with fail
 refine (C2.out _ H).mono ?_
 rintro _ y2 ⟨rfl,hw2⟩
 go_wp2
 go_ret
 obtain ⟨h,e,k⟩:=HX.out
 subst e
 exact ⟨h,rfl,k,bel_trans hb0 (bel_trans hw1 hw2)⟩
theorem row2i (w:World) (x y:Int):Row (w.alloc (.cells #[.int .i64 x,.int .i64 y] 3)) (some ⟨w.heap.size,0,none⟩) 2 2 (fun i=>if i=0 then x else y):=by
 have k:=heap_a1 w (.cells #[.int .i64 x,.int .i64 y] 3)
 refine ⟨Nat.le_refl _,by decide,(fun q=>by cases q),fun _=>⟨w.heap.size,0,rfl,(Array.getElem?_eq_some_iff.1 k).1,fun i hi=>?_⟩⟩
 rcases (show i=0∨i=1 by omega) with rfl | rfl
 ·exact blkC k 0 rfl
 ·exact blkC k 1 rfl
theorem dot_T {u1 v1 u2 v2 V:Int} (h1:Fx 872 1226 u1) (h2:Fx 872 1226 v1) (h3:Fx 872 1226 u2) (h4:Fx 872 1226 v2) (hV:V*2^4194304=sumF (fun i=>patV (if i=0 then u1 else neg v1)*patV (if i=0 then v2 else u2)) 2):V=hT u1 v1 u2 v2*pw (-1074):=by
 obtain ⟨n1,n2,n3⟩:=neg_facts h2.r h2.p
 have e0:sumF (fun i=>patV (if i=0 then u1 else neg v1)*patV (if i=0 then v2 else u2)) 2=0+patV u1*patV v2+patV (neg v1)*patV u2:=rfl
 rw [e0,patV_iV h1.r h1.p,patV_iV h4.r h4.p,patV_iV n1 n2,patV_iV h3.r h3.p,n3] at hV
 have e2:=pw_mul (a:=-1074) (b:=-1074) (by decide) (by decide)
 rw [show (-1074 + -1074:Int)=-2148 by decide] at e2
 have e3:=pw_add (e:=-2148) (by decide) 1074
 rw [show (-2148+((1074:Nat):Int))=-1074 by decide] at e3
 have hh:=hT_eq h1 h2 h3 h4
 have hz:=two_pos 4194304
 generalize hT u1 v1 u2 v2=T at *
 generalize iV u1=a at *
 generalize iV v2=b at *
 generalize iV v1=c at *
 generalize iV u2=d at *
 generalize pw (-2148)=P at *
 generalize pw (-1074)=Q at *
 generalize (2:Int)^4194304=Z at *
 generalize (2:Int)^1074=K at *
 refine mul_inj (q:=Z) (by omega) ?_
 have e4:Z*V=(a*b-c*d)*(Q*Q):=by grind
 rw [e4,e2,<- hh,e3]
 grind
theorem oHeads_ne {u1 v1 u2 v2 L R:Int} (E1 E2 E3 E4:Nat) (h1:Fx 872 1226 u1) (h2:Fx 872 1226 v1) (h3:Fx 872 1226 u2) (h4:Fx 872 1226 v2) (ho:FloatKind.f64.format.order (wd L) (wd R)=some .lt∨FloatKind.f64.format.order (wd L) (wd R)=some .gt) (w:World) (H:Hold4 w) :
  Calls Tryz.prog 60 #[.agg #[.float .f64 (wd u1),.float .f64 E1,.float .f64 (wd v1),.float .f64 E2,.float .f64 (wd u2),.float .f64 E3,.float .f64 (wd v2),.float .f64 E4],.float .f64 (wd L),.float .f64 (wd R)] w fun r w'=>∃ h,r=.returned (.float .f64 (wd h))∧HdV (hT u1 v1 u2 v2) h∧Below w.heap.size w w':=by
 obtain ⟨n1,n2,n3⟩:=neg_facts h2.r h2.p
 have C1:Hid (∀ W,Calls Tryz.prog 124 #[.float .f64 (wd u1)] W fun e w'=>e=.returned (.int .i64 u1)∧w'=W):=fun W=>of_FW (fx_fw h1) W
 have C2:Hid (∀ W,Calls Tryz.prog 124 #[.float .f64 (wd (neg v1))] W fun e w'=>e=.returned (.int .i64 (neg v1))∧w'=W):=fun W=>of_FW (FW.pat (q_fin n2) n1) W
 have C3:Hid (∀ W,Calls Tryz.prog 124 #[.float .f64 (wd v2)] W fun e w'=>e=.returned (.int .i64 v2)∧w'=W):=fun W=>of_FW (fx_fw h4) W
 have C4:Hid (∀ W,Calls Tryz.prog 124 #[.float .f64 (wd u2)] W fun e w'=>e=.returned (.int .i64 u2)∧w'=W):=fun W=>of_FW (fx_fw h3) W
 have hN:=fun W=>run_negF (P:=Tryz.prog) (p:=v1) ⟨h2.r,q_fin h2.p⟩ W
 have C5:Hid (∀ (o1 o2:Option Addr) W,Row W o1 2 2 (fun i=>if i=0 then u1 else neg v1)->Row W o2 2 2 (fun i=>if i=0 then v2 else u2)->Hold4 W->Calls Tryz.prog 123 #[.slice o1 2 2,.slice o2 2 2,.int .i64 0] W fun r w'=>∃ h,r=.returned (.tuple #[.int .i64 h,.int .i64 0])∧HdV (hT u1 v1 u2 v2) h∧Below W.heap.size W w'):=fun o1 o2 W r1 r2 hh=>by
  refine (dotF2 W r1 r2 (fun i hi=>?_) (fun i hi=>?_) (by omega) hh).mono ?_
  ·show rng (if i=0 then u1 else neg v1)∧pok (if i=0 then u1 else neg v1)=true
   split
   ·exact ⟨h1.r,h1.p⟩
   ·exact ⟨n1,n2⟩
  ·show rng (if i=0 then v2 else u2)∧pok (if i=0 then v2 else u2)=true
   split
   ·exact ⟨h4.r,h4.p⟩
   ·exact ⟨h3.r,h3.p⟩
  ·rintro _ w' ⟨x,rfl,ok,hV,hb⟩
   exact ⟨_,rfl,hd_near ok (dot_T h1 h2 h3 h4 hV) (hT_bd h1 h2 h3 h4),hb⟩
 have C6:Hid (∀ (h:Int) W,Calls Tryz.prog 58 #[.int .i64 h] W fun e w'=>e=.returned (.float .f64 (wd h))∧w'=W):=fun h W=>bitsFloat h W
 clear h1 h2 h3 h4 n1 n2 n3
 generalize hT u1 v1 u2 v2=T at *
 generalize wd u1=U1 at *
 generalize wd (neg v1)=NV at *
 generalize neg v1=nv at *
 generalize wd v1=V1 at *
 generalize wd u2=U2 at *
 generalize wd v2=V2 at *
 generalize wd L=LW at *
 generalize wd R=RW at *
 rcases ho with ho | ho
 all_goals
  have b_k:=heap_a1 w (.cells #[.float .f64 U1,.float .f64 E1,.float .f64 V1,.float .f64 E2,.float .f64 U2,.float .f64 E3,.float .f64 V2,.float .f64 E4] 101)
  have hb0:=bel_alloc w (.cells #[.float .f64 U1,.float .f64 E1,.float .f64 V1,.float .f64 E2,.float .f64 U2,.float .f64 E3,.float .f64 V2,.float .f64 E4] 101)
  go_enter Tryz.func60,Tryz.ntmps60
  go_wp2_with fail
  generalize w.alloc (.cells #[.float .f64 U1,.float .f64 E1,.float .f64 V1,.float .f64 E2,.float .f64 U2,.float .f64 E3,.float .f64 V2,.float .f64 E4] 101)=x0 at b_k hb0 ⊢
  have f0:=blkC b_k 0 rfl
  have f2:=blkC b_k 2 rfl
  have f4:=blkC b_k 4 rfl
  have f6:=blkC b_k 6 rfl
  go_quiet (fail)
  go_wp2_with fail
  clear f0 f2 f4 f6
  have hd:=bDrewN (bel_refl x0) nq
  replace hb0:=bel_trans hb0 hd
  replace H:=H.keeps hb0
  generalize x0.drewN nq=x1 at hb0 H ⊢
  clear hd
  refine (C1.out _).mono ?_
  rintro _ wz ⟨rfl,hwz⟩
  replace hwz:=hwz.symm
  subst hwz
  go_wp2_with fail
  refine (C2.out _).mono ?_
  rintro _ wz ⟨rfl,hwz⟩
  replace hwz:=hwz.symm
  subst hwz
  go_wp2_with fail
  have r1:=row2i x1 u1 nv
  have hb1:=bel_alloc x1 (.cells #[.int .i64 u1,.int .i64 nv] 3)
  generalize x1.alloc (.cells #[.int .i64 u1,.int .i64 nv] 3)=x2 at r1 hb1 ⊢
  replace H:=H.keeps hb1
  replace hb0:=bel_trans hb0 hb1
  refine (C3.out _).mono ?_
  rintro _ wz ⟨rfl,hwz⟩
  replace hwz:=hwz.symm
  subst hwz
  go_wp2_with fail
  refine (C4.out _).mono ?_
  rintro _ wz ⟨rfl,hwz⟩
  replace hwz:=hwz.symm
  subst hwz
  go_wp2_with fail
  have r2:=row2i x2 v2 u2
  have hb2:=bel_alloc x2 (.cells #[.int .i64 v2,.int .i64 u2] 3)
  generalize x2.alloc (.cells #[.int .i64 v2,.int .i64 u2] 3)=x3 at r2 hb2 ⊢
  replace H:=H.keeps hb2
  replace hb0:=bel_trans hb0 hb2
  refine (C5.out _ _ _ (r1.keeps hb2) r2 H).mono ?_
  rintro _ y1 ⟨h,rfl,hv,hw1⟩
  go_wp2_with fail
  refine (C6.out _ _).mono ?_
  rintro _ wz ⟨rfl,hwz⟩
  replace hwz:=hwz.symm
  subst hwz
  go_wp2
  go_ret
  exact ⟨h,rfl,hv,bel_trans hb0 hw1⟩
def opL (p q r s:Int):Ls:=prS (dfL p q).d (dfL p q).n (dfL r s).d (dfL r s).n
def odL (ax ay bx by' cx cy:Int):Ls:=gaS ⟨(opL ax cx by' cy).n,(opL ax cx by' cy).d⟩ (fun i=>neg ((opL ay cy bx cx).d i)) (opL ay cy bx cx).n
theorem opL_all {p q r s:Int} (hp:Mz p) (hq:Mz q) (hr:Mz r) (hs:Mz s):prX (dfL p q).d (dfL p q).n (dfL r s).d (dfL r s).n=true∧XV (opL p q r s).d (opL p q r s).n∧(opL p q r s).n<=8:=by
 obtain ⟨u1,u2,u3,u4⟩:=dfL_mid hp hq
 obtain ⟨v1,v2,v3,v4⟩:=dfL_mid hr hs
 obtain ⟨l1,l2,l3,l4⟩:=pr_all u1 u2 (by omega) v2 (by omega) (dfL r s).n (Nat.le_refl _)
 refine ⟨l1,l2,Nat.le_trans (prS_le _ _ _ _) ?_⟩
 have:2*(dfL p q).n*(dfL r s).n<=2*2*2:=Nat.mul_le_mul (by omega) (by omega)
 omega
theorem xProdO {p q r s:Int} (hp:Mz p) (hq:Mz q) (hr:Mz r) (hs:Mz s) {x y:Value} (w:World) (hx:XLs w x (dfL p q)) (hy:XLs w y (dfL r s)) (H:Hold4 w) :
  Calls Tryz.prog 93 #[x,y] w fun r' w'=>∃ o c',r'=.returned (.tuple #[.slice o (opL p q r s).n c',.int .i64 0])∧XLs w' (.slice o (opL p q r s).n c') (opL p q r s)∧Below w.heap.size w w':=by
 obtain ⟨xo,xc,rfl,hR⟩:=hx
 obtain ⟨yo,yc,rfl,hS⟩:=hy
 obtain ⟨u1,u2,u3,u4⟩:=dfL_mid hp hq
 obtain ⟨v1,v2,v3,v4⟩:=dfL_mid hr hs
 refine (xProduct w hR hS (fun i hi=>(u1.fin i hi).1) (fun i hi=>(v1.fin i hi).1) (xval_of u1) (xval_of v1) (by omega) (by omega) H).mono ?_
 intro r w' h
 obtain ⟨ao,cap,e,hQ,hb'⟩:=h.yes (opL_all hp hq hr hs).1
 exact ⟨ao,cap,e,⟨ao,cap,rfl,hQ⟩,hb'⟩
theorem odL_all {ax ay bx by' cx cy:Int} (hax:Mz ax) (hay:Mz ay) (hbx:Mz bx) (hby:Mz by') (hcx:Mz cx) (hcy:Mz cy):XV (odL ax ay bx by' cx cy).d (odL ax ay bx by' cx cy).n∧2^1074*lsm (odL ax ay bx by' cx cy).d (odL ax ay bx by' cx cy).n=oDet ax ay bx by' cx cy:=by
 obtain ⟨_,_,_,_,_,h6,h7⟩:=det_mid hax hay hbx hby hcx hcy
 exact ⟨h6,h7⟩
theorem xDiffO {ax ay bx by' cx cy:Int} (hax:Mz ax) (hay:Mz ay) (hbx:Mz bx) (hby:Mz by') (hcx:Mz cx) (hcy:Mz cy) {x y:Value} (w:World) (hx:XLs w x (opL ax cx by' cy)) (hy:XLs w y (opL ay cy bx cx)) (H:Hold4 w) :
  Calls Tryz.prog 92 #[x,y] w fun r' w'=>∃ o c',r'=.returned (.tuple #[.slice o (odL ax ay bx by' cx cy).n c',.int .i64 0])∧XLs w' (.slice o (odL ax ay bx by' cx cy).n c') (odL ax ay bx by' cx cy)∧Below w.heap.size w w':=by
 obtain ⟨xo,xc,rfl,hR⟩:=hx
 obtain ⟨yo,yc,rfl,hS⟩:=hy
 obtain ⟨a1,a2,a3⟩:=opL_all hax hcx hby hcy
 obtain ⟨b1,b2,b3⟩:=opL_all hay hcy hbx hcx
 obtain ⟨_,_,_,_,h5,_,_⟩:=det_mid hax hay hbx hby hcx hcy
 refine (xDiff w hR hS (fun i hi=>(a2.fin i hi).1) (fun i hi=>(b2.fin i hi).1) (xval_of a2) (xval_of b2) (by omega) H).mono ?_
 intro r w' h
 obtain ⟨ao,cap,e,hQ,hb'⟩:=h.yes h5
 exact ⟨ao,cap,e,⟨ao,cap,rfl,hQ⟩,hb'⟩
def sgnF (s:Int):Int:=if s<0 then -4616189618054758400 else if 0<s then 4607182418800017408 else 0
theorem sgnF_facts {s:Int} (h:s=-1∨s=0∨s=1):rng (sgnF s)∧pok (sgnF s)=true∧sgP (sgnF s)=s:=by
 rcases h with rfl | rfl | rfl
 ·exact ⟨by unfold rng; decide,by decide,by decide⟩
 ·exact ⟨by unfold rng; decide,by decide,by decide⟩
 ·exact ⟨by unfold rng; decide,by decide,by decide⟩
theorem ord_tri (x:Int):ord x 0=-1∨ord x 0=0∨ord x 0=1:=by
 unfold ord
 split
 ·exact .inl rfl
 ·split
  ·exact .inr (.inr rfl)
  ·exact .inr (.inl rfl)
theorem cv_sign {s:Int} (h:s=-1∨s=0∨s=1) (w:World):(convert 3 59 (.int .i64 s)).run Tryz.prog w=.ok (.float .f64 (wd (sgnF s))) w:=by
 rcases h with rfl | rfl | rfl
 ·kernel_rfl
 ·kernel_rfl
 ·kernel_rfl
theorem oAllF {ax ay bx by' cx cy:Int} (hax:Mz ax) (hay:Mz ay) (hbx:Mz bx) (hby:Mz by') (hcx:Mz cx) (hcy:Mz cy) (w:World) (H:Hold4 w) :
  Calls Tryz.prog 63 #[.agg #[.float .f64 (wd (fsum ax (neg cx))),.float .f64 (wd (sL ax (neg cx))),.float .f64 (wd (fsum ay (neg cy))),.float .f64 (wd (sL ay (neg cy))),.float .f64 (wd (fsum bx (neg cx))),.float .f64 (wd (sL bx (neg cx))),.float .f64 (wd (fsum by' (neg cy))),.float .f64 (wd (sL by' (neg cy)))]] w fun r w'=>r=.returned (.float .f64 (wd (sgnF (ord (oDet ax ay bx by' cx cy) 0))))∧Below w.heap.size w w':=by
 have C1:Hid (∀ W,Calls Tryz.prog 125 #[.agg #[.float .f64 (wd (fsum ax (neg cx))),.float .f64 (wd (sL ax (neg cx)))]] W fun r w'=>∃ o c,r=.returned (.slice o (dfL ax cx).n c)∧XLs w' (.slice o (dfL ax cx).n c) (dfL ax cx)∧Below W.heap.size W w'):=fun W=>oParts hax hcx W
 have C2:Hid (∀ W,Calls Tryz.prog 125 #[.agg #[.float .f64 (wd (fsum ay (neg cy))),.float .f64 (wd (sL ay (neg cy)))]] W fun r w'=>∃ o c,r=.returned (.slice o (dfL ay cy).n c)∧XLs w' (.slice o (dfL ay cy).n c) (dfL ay cy)∧Below W.heap.size W w'):=fun W=>oParts hay hcy W
 have C3:Hid (∀ W,Calls Tryz.prog 125 #[.agg #[.float .f64 (wd (fsum bx (neg cx))),.float .f64 (wd (sL bx (neg cx)))]] W fun r w'=>∃ o c,r=.returned (.slice o (dfL bx cx).n c)∧XLs w' (.slice o (dfL bx cx).n c) (dfL bx cx)∧Below W.heap.size W w'):=fun W=>oParts hbx hcx W
 have C4:Hid (∀ W,Calls Tryz.prog 125 #[.agg #[.float .f64 (wd (fsum by' (neg cy))),.float .f64 (wd (sL by' (neg cy)))]] W fun r w'=>∃ o c,r=.returned (.slice o (dfL by' cy).n c)∧XLs w' (.slice o (dfL by' cy).n c) (dfL by' cy)∧Below W.heap.size W w'):=fun W=>oParts hby hcy W
 have M1:Hid (∀ (x y:Value) W,XLs W x (dfL ax cx)->XLs W y (dfL by' cy)->Hold4 W->Calls Tryz.prog 93 #[x,y] W fun r w'=>∃ o c',r=.returned (.tuple #[.slice o (opL ax cx by' cy).n c',.int .i64 0])∧XLs w' (.slice o (opL ax cx by' cy).n c') (opL ax cx by' cy)∧Below W.heap.size W w'):=fun x y W hx hy h=>xProdO hax hcx hby hcy W hx hy h
 have M2:Hid (∀ (x y:Value) W,XLs W x (dfL ay cy)->XLs W y (dfL bx cx)->Hold4 W->Calls Tryz.prog 93 #[x,y] W fun r w'=>∃ o c',r=.returned (.tuple #[.slice o (opL ay cy bx cx).n c',.int .i64 0])∧XLs w' (.slice o (opL ay cy bx cx).n c') (opL ay cy bx cx)∧Below W.heap.size W w'):=fun x y W hx hy h=>xProdO hay hcy hbx hcx W hx hy h
 have D1:Hid (∀ (x y:Value) W,XLs W x (opL ax cx by' cy)->XLs W y (opL ay cy bx cx)->Hold4 W->Calls Tryz.prog 92 #[x,y] W fun r w'=>∃ o c',r=.returned (.tuple #[.slice o (odL ax ay bx by' cx cy).n c',.int .i64 0])∧XLs w' (.slice o (odL ax ay bx by' cx cy).n c') (odL ax ay bx by' cx cy)∧Below W.heap.size W w'):=fun x y W hx hy h=>xDiffO hax hay hbx hby hcx hcy W hx hy h
 have S1:Hid (∀ (x:Value) W,XLs W x (odL ax ay bx by' cx cy)->Hold4 W->Calls Tryz.prog 126 #[x] W fun r w'=>r=.returned (.tuple #[.int .i64 (ord (oDet ax ay bx by' cx cy) 0),.int .i64 0])∧Below W.heap.size W w'):=fun x W hx h=>by
  obtain ⟨xv,xs⟩:=odL_all hax hay hbx hby hcx hcy
  have:=xSign W hx xv h
  rw [<- xs,Int.mul_comm,ord_mulP (p2 1074)]
  exact this
 have hcv:=fun W=>cv_sign (ord_tri (oDet ax ay bx by' cx cy)) W
 clear hax hay hbx hby hcx hcy
 generalize ord (oDet ax ay bx by' cx cy) 0=sgn at *
 generalize wd (sgnF sgn)=SF at *
 generalize wd (fsum ax (neg cx))=P1 at *
 generalize wd (sL ax (neg cx))=E1 at *
 generalize wd (fsum ay (neg cy))=P2 at *
 generalize wd (sL ay (neg cy))=E2 at *
 generalize wd (fsum bx (neg cx))=P3 at *
 generalize wd (sL bx (neg cx))=E3 at *
 generalize wd (fsum by' (neg cy))=P4 at *
 generalize wd (sL by' (neg cy))=E4 at *
 generalize dfL ax cx=d1 at *
 generalize dfL ay cy=d2 at *
 generalize dfL bx cx=d3 at *
 generalize dfL by' cy=d4 at *
 generalize opL ax cx by' cy=pl at *
 generalize opL ay cy bx cx=pr at *
 generalize odL ax ay bx by' cx cy=dd at *
 have b_k:=heap_a1 w (.cells #[.float .f64 P1,.float .f64 E1,.float .f64 P2,.float .f64 E2,.float .f64 P3,.float .f64 E3,.float .f64 P4,.float .f64 E4] 101)
 have hb0:=bel_alloc w (.cells #[.float .f64 P1,.float .f64 E1,.float .f64 P2,.float .f64 E2,.float .f64 P3,.float .f64 E3,.float .f64 P4,.float .f64 E4] 101)
 go_enter Tryz.func63,Tryz.ntmps63
 go_wp2_with fail
 generalize w.alloc (.cells #[.float .f64 P1,.float .f64 E1,.float .f64 P2,.float .f64 E2,.float .f64 P3,.float .f64 E3,.float .f64 P4,.float .f64 E4] 101)=x0 at b_k hb0 ⊢
 replace H:=H.keeps hb0
 have K1:∀ W,Below x0.heap.size x0 W->W.cell? ⟨w.heap.size,0,none⟩=some (.float .f64 P1)∧W.cell? ⟨w.heap.size,1,none⟩=some (.float .f64 E1)∧W.cell? ⟨w.heap.size,6,none⟩=some (.float .f64 P4)∧W.cell? ⟨w.heap.size,7,none⟩=some (.float .f64 E4):=fun W hb=>⟨q_cell (blkC b_k 0 rfl) hb,q_cell (blkC b_k 1 rfl) hb,q_cell (blkC b_k 6 rfl) hb,q_cell (blkC b_k 7 rfl) hb⟩
 have hC1_0:=(bel_refl x0).drew
 go_region_held3 (fun W=>W.cell? ⟨w.heap.size,0,none⟩=some (.float .f64 P1)∧W.cell? ⟨w.heap.size,1,none⟩=some (.float .f64 E1)∧W.cell? ⟨w.heap.size,6,none⟩=some (.float .f64 P4)∧W.cell? ⟨w.heap.size,7,none⟩=some (.float .f64 E4))
  (with_reducible first | assumption | exact K1 _ hC1_0 | exact K1 _ hC1_1 | exact K1 _ hC1_2 | exact K1 _ hC1_3 | fail)
  (first | (go_at_call 93; refine (M1.out _ _ _ (x1_1.keeps hq1_2) x1_2 (H.keeps hC1_2)).mono ?_; rintro _ y1_3 ⟨o1_3,c1_3,rfl,x1_3,hq1_3⟩; have hC1_3:=bel_trans hC1_2 hq1_3) | (go_at_call 125; have _t:=hq1_1; refine (C4.out _).mono ?_; rintro _ y1_2 ⟨o1_2,c1_2,rfl,x1_2,hq1_2⟩; have hC1_2:=bel_trans hC1_1 hq1_2) | (go_at_call 125; refine (C1.out _).mono ?_; rintro _ y1_1 ⟨o1_1,c1_1,rfl,x1_1,hq1_1⟩; have hC1_1:=bel_trans hC1_0 hq1_1))
 replace b_k:=blk_on hC1_3 b_k
 replace hb0:=bel_trans hb0 hC1_3
 replace H:=H.keeps hC1_3
 go_wp2_with fail
 have K2:∀ W,Below y1_3.heap.size y1_3 W->W.cell? ⟨w.heap.size,2,none⟩=some (.float .f64 P2)∧W.cell? ⟨w.heap.size,3,none⟩=some (.float .f64 E2)∧W.cell? ⟨w.heap.size,4,none⟩=some (.float .f64 P3)∧W.cell? ⟨w.heap.size,5,none⟩=some (.float .f64 E3):=fun W hb=>⟨q_cell (blkC b_k 2 rfl) hb,q_cell (blkC b_k 3 rfl) hb,q_cell (blkC b_k 4 rfl) hb,q_cell (blkC b_k 5 rfl) hb⟩
 have hC2_0:=(bel_refl y1_3).drew
 go_region_held3 (fun W=>W.cell? ⟨w.heap.size,2,none⟩=some (.float .f64 P2)∧W.cell? ⟨w.heap.size,3,none⟩=some (.float .f64 E2)∧W.cell? ⟨w.heap.size,4,none⟩=some (.float .f64 P3)∧W.cell? ⟨w.heap.size,5,none⟩=some (.float .f64 E3))
  (with_reducible first | assumption | exact K2 _ hC2_0 | exact K2 _ hC2_1 | exact K2 _ hC2_2 | exact K2 _ hC2_3 | fail)
  (first | (go_at_call 93; refine (M2.out _ _ _ (x2_1.keeps hq2_2) x2_2 (H.keeps hC2_2)).mono ?_; rintro _ y2_3 ⟨o2_3,c2_3,rfl,x2_3,hq2_3⟩; have hC2_3:=bel_trans hC2_2 hq2_3) | (go_at_call 125; have _t:=hq2_1; refine (C3.out _).mono ?_; rintro _ y2_2 ⟨o2_2,c2_2,rfl,x2_2,hq2_2⟩; have hC2_2:=bel_trans hC2_1 hq2_2) | (go_at_call 125; refine (C2.out _).mono ?_; rintro _ y2_1 ⟨o2_1,c2_1,rfl,x2_1,hq2_1⟩; have hC2_1:=bel_trans hC2_0 hq2_1))
 replace hb0:=bel_trans hb0 hC2_3
 replace H:=H.keeps hC2_3
 have xa:=x1_3.keeps hC2_3
 go_wp2_with fail
 refine (D1.out _ _ _ xa x2_3 H).mono ?_
 rintro _ y3 ⟨o3,c3,rfl,x3,hq3⟩
 replace H:=H.keeps hq3
 go_wp2_with fail
 refine (S1.out _ _ x3 H).mono ?_
 rintro _ y4 ⟨rfl,hq4⟩
 go_wp2
 go_ret
 exact ⟨rfl,bel_trans hb0 (bel_trans hq3 hq4)⟩
theorem o_fl0 (W:World):Calls Tryz.prog 58 #[.int .i64 0] W fun e w'=>e=.returned (.float .f64 0)∧w'=W:=by
 have:=bitsFloat 0 W
 rwa [show wd 0=0 by decide] at this
theorem o_fl1 (W:World):Calls Tryz.prog 58 #[.int .i64 4607182418800017408] W fun e w'=>e=.returned (.float .f64 4607182418800017408)∧w'=W:=by
 have:=bitsFloat 4607182418800017408 W
 rwa [show wd 4607182418800017408=4607182418800017408 by decide] at this
theorem o_abs0 (W:World):Calls Tryz.prog 34 #[.float .f64 9223372036854775808] W fun e w'=>e=.returned (.float .f64 0)∧w'=W:=by
 have:=mathAbs (b:=-9223372036854775808) (by unfold rng; omega) W
 rw [show wd (-9223372036854775808)=9223372036854775808 by decide,show rg (-9223372036854775808)=0 by decide,show wd 0=0 by decide] at this
 exact this
theorem o_abs1 (W:World):Calls Tryz.prog 34 #[.float .f64 13830554455654793216] W fun e w'=>e=.returned (.float .f64 4607182418800017408)∧w'=W:=by
 have:=mathAbs (b:=-4616189618054758400) (by unfold rng; omega) W
 rw [show wd (-4616189618054758400)=13830554455654793216 by decide,show rg (-4616189618054758400)=4607182418800017408 by decide,show wd 4607182418800017408=4607182418800017408 by decide] at this
 exact this
theorem o_abs2 (W:World):Calls Tryz.prog 34 #[.float .f64 4607182418800017408] W fun e w'=>e=.returned (.float .f64 4607182418800017408)∧w'=W:=by
 have:=mathAbs (b:=4607182418800017408) (by unfold rng; omega) W
 rw [show wd 4607182418800017408=4607182418800017408 by decide,show rg 4607182418800017408=4607182418800017408 by decide,show wd 4607182418800017408=4607182418800017408 by decide] at this
 exact this
theorem o_nan (x:Nat) (o:FloatKind.f64.format.order x x=some .eq) (W:World):Calls Tryz.prog 127 #[.float .f64 x] W fun e w'=>e=.returned (.bool false)∧w'=W:=by
 go_enter Tryz.func127,Tryz.ntmps127
 go_wp2
 go_ret
 exact ⟨b_ret_bool (by simp [o]),rfl⟩
theorem o_sign1 (W:World):Calls Tryz.prog 64 #[.float .f64 4607182418800017408,.float .f64 0] W fun e w'=>e=.returned (.int .i64 1)∧w'=W:=by
 have o:FloatKind.f64.format.order 4607182418800017408 0=some .gt:=by decide +kernel
 have C1:=fun W=>o_nan 4607182418800017408 (by decide +kernel) W
 have C0:=fun W=>o_nan 0 (by decide +kernel) W
 go_enter Tryz.func64,Tryz.ntmps64
 go_wp2_with fail
 refine (C1 _).mono ?_
 rintro _ _ ⟨rfl,rfl⟩
 go_wp2_with fail
 refine (C0 _).mono ?_
 rintro _ _ ⟨rfl,rfl⟩
 go_wp2
 go_ret
 exact ⟨rfl,rfl⟩
def oJ (s:Nat) (V S:Value) (a':Act):Prop:=∃ u:Nat->Value,a'={ tmps:=#[u 0,u 1,u 2,u 3,u 4,u 5,.pointer (some ⟨s+1+1+1,0,none⟩),u 7,u 8,u 9,u 10,u 11,u 12,u 13,u 14,u 15,u 16,u 17,V,S,u 20,u 21,u 22,u 23,u 24,u 25,u 26,u 27,u 28,u 29,u 30,u 31,u 32,u 33,u 34,u 35,u 36,u 37,u 38,u 39,u 40,u 41,u 42,u 43,u 44,u 45,u 46,u 47,u 48,u 49,u 50,u 51,u 52,u 53,u 54,u 55,u 56,u 57,u 58,u 59,u 60,u 61,u 62,u 63,u 64,u 65,u 66,u 67,u 68,u 69,u 70,u 71,u 72,u 73,u 74,u 75,u 76,u 77,u 78,u 79,u 80,u 81,u 82,u 83,u 84,u 85,u 86,u 87,u 88,u 89,u 90,u 91,u 92,u 93,u 94,u 95,u 96,u 97,u 98,u 99,u 100,u 101],defers:=[] }
theorem oJ_of {s:Nat} {V S:Value} (t:Array Value) (h:#[t.getD 0 undef,t.getD 1 undef,t.getD 2 undef,t.getD 3 undef,t.getD 4 undef,t.getD 5 undef,.pointer (some ⟨s+1+1+1,0,none⟩),t.getD 7 undef,t.getD 8 undef,t.getD 9 undef,t.getD 10 undef,t.getD 11 undef,t.getD 12 undef,t.getD 13 undef,t.getD 14 undef,t.getD 15 undef,t.getD 16 undef,t.getD 17 undef,V,S,t.getD 20 undef,t.getD 21 undef,t.getD 22 undef,t.getD 23 undef,t.getD 24 undef,t.getD 25 undef,t.getD 26 undef,t.getD 27 undef,t.getD 28 undef,t.getD 29 undef,t.getD 30 undef,t.getD 31 undef,t.getD 32 undef,t.getD 33 undef,t.getD 34 undef,t.getD 35 undef,t.getD 36 undef,t.getD 37 undef,t.getD 38 undef,t.getD 39 undef,t.getD 40 undef,t.getD 41 undef,t.getD 42 undef,t.getD 43 undef,t.getD 44 undef,t.getD 45 undef,t.getD 46 undef,t.getD 47 undef,t.getD 48 undef,t.getD 49 undef,t.getD 50 undef,t.getD 51 undef,t.getD 52 undef,t.getD 53 undef,t.getD 54 undef,t.getD 55 undef,t.getD 56 undef,t.getD 57 undef,t.getD 58 undef,t.getD 59 undef,t.getD 60 undef,t.getD 61 undef,t.getD 62 undef,t.getD 63 undef,t.getD 64 undef,t.getD 65 undef,t.getD 66 undef,t.getD 67 undef,t.getD 68 undef,t.getD 69 undef,t.getD 70 undef,t.getD 71 undef,t.getD 72 undef,t.getD 73 undef,t.getD 74 undef,t.getD 75 undef,t.getD 76 undef,t.getD 77 undef,t.getD 78 undef,t.getD 79 undef,t.getD 80 undef,t.getD 81 undef,t.getD 82 undef,t.getD 83 undef,t.getD 84 undef,t.getD 85 undef,t.getD 86 undef,t.getD 87 undef,t.getD 88 undef,t.getD 89 undef,t.getD 90 undef,t.getD 91 undef,t.getD 92 undef,t.getD 93 undef,t.getD 94 undef,t.getD 95 undef,t.getD 96 undef,t.getD 97 undef,t.getD 98 undef,t.getD 99 undef,t.getD 100 undef,t.getD 101 undef]=t):oJ s V S { tmps:=t,defers:=[] }:=⟨fun k=>t.getD k undef,by rw [h]⟩
theorem o_tameC (w:World) :
    Calls Tryz.prog 22 #[.agg #[.int .i64 0,.int .i64 0],.agg #[.int .i64 4607182418800017408,.int .i64 0],.agg #[.int .i64 0,.int .i64 4607182418800017408]] w fun e w'=>e=.returned (.agg #[.int .i64 1,.int .i64 1])∧Below w.heap.size w w':=by
  have hcv:=cv64
  have o:FloatKind.f64.format.order 4607182418800017408 4375247037990436868=some .gt:=by decide +kernel
  have h1:∀ w:World,(binOp .sub 59 (.float .f64 0) (.float .f64 0)).run Tryz.prog w=.ok (.float .f64 0) w:=fun w=>by kernel_rfl
  have h2:∀ w:World,(binOp .sub 59 (.float .f64 0) (.float .f64 4607182418800017408)).run Tryz.prog w=.ok (.float .f64 13830554455654793216) w:=fun w=>by kernel_rfl
  have h3:∀ w:World,(binOp .mul 59 (.float .f64 0) (.float .f64 13830554455654793216)).run Tryz.prog w=.ok (.float .f64 9223372036854775808) w:=fun w=>by kernel_rfl
  have h4:∀ w:World,(binOp .sub 59 (.float .f64 4607182418800017408) (.float .f64 0)).run Tryz.prog w=.ok (.float .f64 4607182418800017408) w:=fun w=>by kernel_rfl
  have h5:∀ w:World,(binOp .mul 59 (.float .f64 13830554455654793216) (.float .f64 4607182418800017408)).run Tryz.prog w=.ok (.float .f64 13830554455654793216) w:=fun w=>by kernel_rfl
  have h6:∀ w:World,(binOp .add 59 (.float .f64 0) (.float .f64 4607182418800017408)).run Tryz.prog w=.ok (.float .f64 4607182418800017408) w:=fun w=>by kernel_rfl
  have h7:∀ w:World,(binOp .sub 59 (.float .f64 9223372036854775808) (.float .f64 13830554455654793216)).run Tryz.prog w=.ok (.float .f64 4607182418800017408) w:=fun w=>by kernel_rfl
  have h8:∀ w:World,(binOp .mul 59 (.float .f64 4375247037990436868) (.float .f64 4607182418800017408)).run Tryz.prog w=.ok (.float .f64 4375247037990436868) w:=fun w=>by kernel_rfl
  go_enter Tryz.func22,Tryz.ntmps22
  have a_k:=heap_past (.cells #[.float .f64 0,.float .f64 0,.float .f64 0,.float .f64 0,.float .f64 0,.float .f64 0,.float .f64 0,.float .f64 0] 101) (h4_0 w (.cells #[.int .i64 0,.int .i64 0] 33) (.cells #[.int .i64 4607182418800017408,.int .i64 0] 33) (.cells #[.int .i64 0,.int .i64 4607182418800017408] 33) (.cells #[.int .i64 0,.int .i64 0] 28))
  have b_k:=heap_past (.cells #[.float .f64 0,.float .f64 0,.float .f64 0,.float .f64 0,.float .f64 0,.float .f64 0,.float .f64 0,.float .f64 0] 101) (h4_1 w (.cells #[.int .i64 0,.int .i64 0] 33) (.cells #[.int .i64 4607182418800017408,.int .i64 0] 33) (.cells #[.int .i64 0,.int .i64 4607182418800017408] 33) (.cells #[.int .i64 0,.int .i64 0] 28))
  have c_k:=heap_past (.cells #[.float .f64 0,.float .f64 0,.float .f64 0,.float .f64 0,.float .f64 0,.float .f64 0,.float .f64 0,.float .f64 0] 101) (h4_2 w (.cells #[.int .i64 0,.int .i64 0] 33) (.cells #[.int .i64 4607182418800017408,.int .i64 0] 33) (.cells #[.int .i64 0,.int .i64 4607182418800017408] 33) (.cells #[.int .i64 0,.int .i64 0] 28))
  have r_k:=heap_past (.cells #[.float .f64 0,.float .f64 0,.float .f64 0,.float .f64 0,.float .f64 0,.float .f64 0,.float .f64 0,.float .f64 0] 101) (h4_3 w (.cells #[.int .i64 0,.int .i64 0] 33) (.cells #[.int .i64 4607182418800017408,.int .i64 0] 33) (.cells #[.int .i64 0,.int .i64 4607182418800017408] 33) (.cells #[.int .i64 0,.int .i64 0] 28))
  have hb0:=bel_trans (bel_a4 w (.cells #[.int .i64 0,.int .i64 0] 33) (.cells #[.int .i64 4607182418800017408,.int .i64 0] 33) (.cells #[.int .i64 0,.int .i64 4607182418800017408] 33) (.cells #[.int .i64 0,.int .i64 0] 28)) (bel_alloc _ (.cells #[.float .f64 0,.float .f64 0,.float .f64 0,.float .f64 0,.float .f64 0,.float .f64 0,.float .f64 0,.float .f64 0] 101))
  go_wp2
  refine wp_scope_jumps 0 (fun a' w'=>Below w.heap.size w w'∧w'.heap[w.heap.size+3]?=some (.cells #[.int .i64 0,.int .i64 0] 28 (0,0))∧oJ w.heap.size (.float .f64 4607182418800017408) (.int .i64 1) a') (fun _ _=>0) rfl ?_ ?_
  · go_wp2_with fail
    generalize ((((w.alloc (.cells #[.int .i64 0,.int .i64 0] 33)).alloc (.cells #[.int .i64 4607182418800017408,.int .i64 0] 33)).alloc (.cells #[.int .i64 0,.int .i64 4607182418800017408] 33)).alloc (.cells #[.int .i64 0,.int .i64 0] 28)).alloc (.cells #[.float .f64 0,.float .f64 0,.float .f64 0,.float .f64 0,.float .f64 0,.float .f64 0,.float .f64 0,.float .f64 0] 101)=x0 at a_k b_k c_k r_k hb0 ⊢
    have K0:x0.cell? ⟨w.heap.size,0,none⟩=some (.int .i64 0)∧x0.cell? ⟨w.heap.size,1,none⟩=some (.int .i64 0)∧x0.cell? ⟨w.heap.size+1,0,none⟩=some (.int .i64 4607182418800017408)∧x0.cell? ⟨w.heap.size+1,1,none⟩=some (.int .i64 0)∧x0.cell? ⟨w.heap.size+2,0,none⟩=some (.int .i64 0)∧x0.cell? ⟨w.heap.size+2,1,none⟩=some (.int .i64 4607182418800017408):=⟨blkC a_k 0 rfl,blkC a_k 1 rfl,blkC b_k 0 rfl,blkC b_k 1 rfl,blkC c_k 0 rfl,blkC c_k 1 rfl⟩
    clear a_k b_k c_k
    go_region_held3 (fun W=>W.cell? ⟨w.heap.size,0,none⟩=some (.int .i64 0)∧W.cell? ⟨w.heap.size,1,none⟩=some (.int .i64 0)∧W.cell? ⟨w.heap.size+1,0,none⟩=some (.int .i64 4607182418800017408)∧W.cell? ⟨w.heap.size+1,1,none⟩=some (.int .i64 0)∧W.cell? ⟨w.heap.size+2,0,none⟩=some (.int .i64 0)∧W.cell? ⟨w.heap.size+2,1,none⟩=some (.int .i64 4607182418800017408))
      (first | assumption | exact K0)
      (first
        | (go_at_call 58; first | (refine (o_fl0 _).mono ?_; rintro _ _ ⟨rfl,rfl⟩) | (refine (o_fl1 _).mono ?_; rintro _ _ ⟨rfl,rfl⟩)))
    clear K0
    go_wp2_with fail
    refine (o_abs0 _).mono ?_
    rintro _ _ ⟨rfl,rfl⟩
    go_wp2_with fail
    refine (o_abs1 _).mono ?_
    rintro _ _ ⟨rfl,rfl⟩
    go_wp2_with fail
    refine (o_abs2 _).mono ?_
    rintro _ _ ⟨rfl,rfl⟩
    go_wp2_with fail
    go_step3
    simp only [Exit.then,Exit.jump]
    exact ⟨rfl,hb0.drew,r_k,oJ_of _ (by kernel_rfl)⟩
  · rintro a' w' ⟨hb,hr,u,rfl⟩
    go_wp2_with fail
    refine (o_sign1 _).mono ?_
    rintro _ _ ⟨rfl,rfl⟩
    have k0:=blkC hr 0 rfl
    have k1:=blkC hr 1 rfl
    have z0:=blkF hr 0
    have z1:=blkF hr 1
    have q:=heap_set (heap_set hr 0 (.int .i64 1)) 1 (.int .i64 1)
    have e0:=blkC q 0 rfl
    have e1:=blkC q 1 rfl
    go_wp2
    simp only [Exit.jump]
    refine bodyPost_ret (v:=.agg #[.int .i64 1,.int .i64 1]) (by simp [results,Tryz.results22,go_sem,e0,e1]) rfl ⟨rfl,(hb.setCell (p:=⟨w.heap.size+3,0,none⟩) (by show _<=_+3; omega) _).setCell (p:=⟨w.heap.size+3,1,none⟩) (by show _<=_+3; omega) _⟩
theorem o_tame {x y:Int} (hx:rng x) (hy:rng y) (w:World) :
  Calls Tryz.prog 21 #[.agg #[.int .i64 x,.int .i64 y]] w fun e w'=>e=.returned (.bool (tame x && tame y))∧Below w.heap.size w w':=by
 cases h1:tame x <;> cases h2:tame y
 all_goals
  go_enter Tryz.func21,Tryz.ntmps21
  go_wp2_with fail
  refine (pointTame hx _).mono ?_
  rintro _ _ ⟨rfl,rfl⟩
  go_wp2_with (go_at_call 57; refine (pointTame hy _).mono ?_; rintro _ _ ⟨rfl,rfl⟩)
  go_ret
  exact ⟨b_ret_bool (by simp [h1,h2]),bel_alloc _ _⟩
theorem o_signC (w:World) :
  Calls Tryz.prog 7 #[.agg #[.int .i64 0,.int .i64 0],.agg #[.int .i64 4607182418800017408,.int .i64 0],.agg #[.int .i64 0,.int .i64 4607182418800017408]] w fun e w'=>e=.returned (.tuple #[.agg #[.int .i64 1,.int .i64 1],.int .i64 0])∧Below w.heap.size w w':=by
 have r0:rng 0:=by unfold rng; omega
 have r1:rng 4607182418800017408:=by unfold rng; omega
 have C1:Hid (∀ W,Calls Tryz.prog 21 #[.agg #[.int .i64 0,.int .i64 0]] W fun e w'=>e=.returned (.bool true)∧Below W.heap.size W w'):=fun W=>o_tame r0 r0 W
 have C2:Hid (∀ W,Calls Tryz.prog 21 #[.agg #[.int .i64 4607182418800017408,.int .i64 0]] W fun e w'=>e=.returned (.bool true)∧Below W.heap.size W w'):=fun W=>o_tame r1 r0 W
 have C3:Hid (∀ W,Calls Tryz.prog 21 #[.agg #[.int .i64 0,.int .i64 4607182418800017408]] W fun e w'=>e=.returned (.bool true)∧Below W.heap.size W w'):=fun W=>o_tame r0 r1 W
 have CV:=fun W=>o_tameC W
 have a_k:=h4_0 w (.cells #[.int .i64 0,.int .i64 0] 33) (.cells #[.int .i64 4607182418800017408,.int .i64 0] 33) (.cells #[.int .i64 0,.int .i64 4607182418800017408] 33) (.cells #[.int .i64 0,.int .i64 0] 28)
 have b_k:=h4_1 w (.cells #[.int .i64 0,.int .i64 0] 33) (.cells #[.int .i64 4607182418800017408,.int .i64 0] 33) (.cells #[.int .i64 0,.int .i64 4607182418800017408] 33) (.cells #[.int .i64 0,.int .i64 0] 28)
 have c_k:=h4_2 w (.cells #[.int .i64 0,.int .i64 0] 33) (.cells #[.int .i64 4607182418800017408,.int .i64 0] 33) (.cells #[.int .i64 0,.int .i64 4607182418800017408] 33) (.cells #[.int .i64 0,.int .i64 0] 28)
 have r_k:=h4_3 w (.cells #[.int .i64 0,.int .i64 0] 33) (.cells #[.int .i64 4607182418800017408,.int .i64 0] 33) (.cells #[.int .i64 0,.int .i64 4607182418800017408] 33) (.cells #[.int .i64 0,.int .i64 0] 28)
 have hb0:=bel_a4 w (.cells #[.int .i64 0,.int .i64 0] 33) (.cells #[.int .i64 4607182418800017408,.int .i64 0] 33) (.cells #[.int .i64 0,.int .i64 4607182418800017408] 33) (.cells #[.int .i64 0,.int .i64 0] 28)
 go_enter Tryz.func7,Tryz.ntmps7
 go_wp2_with fail
 generalize (((w.alloc (.cells #[.int .i64 0,.int .i64 0] 33)).alloc (.cells #[.int .i64 4607182418800017408,.int .i64 0] 33)).alloc (.cells #[.int .i64 0,.int .i64 4607182418800017408] 33)).alloc (.cells #[.int .i64 0,.int .i64 0] 28)=x0 at a_k b_k c_k r_k hb0 ⊢
 refine (C1.out _).mono ?_
 rintro _ y1 ⟨rfl,hw1⟩
 have a_k:=(hw1.block _ (Array.getElem?_eq_some_iff.1 a_k).1).trans a_k
 have b_k:=(hw1.block _ (Array.getElem?_eq_some_iff.1 b_k).1).trans b_k
 have c_k:=(hw1.block _ (Array.getElem?_eq_some_iff.1 c_k).1).trans c_k
 have r_k:=(hw1.block _ (Array.getElem?_eq_some_iff.1 r_k).1).trans r_k
 have f0:=blkC b_k 0 rfl
 have f1:=blkC b_k 1 rfl
 go_wp2_with fail
 refine (C2.out _).mono ?_
 rintro _ y2 ⟨rfl,hw2⟩
 have a_k:=(hw2.block _ (Array.getElem?_eq_some_iff.1 a_k).1).trans a_k
 have b_k:=(hw2.block _ (Array.getElem?_eq_some_iff.1 b_k).1).trans b_k
 have c_k:=(hw2.block _ (Array.getElem?_eq_some_iff.1 c_k).1).trans c_k
 have r_k:=(hw2.block _ (Array.getElem?_eq_some_iff.1 r_k).1).trans r_k
 have f0:=blkC c_k 0 rfl
 have f1:=blkC c_k 1 rfl
 go_wp2_with fail
 refine (C3.out _).mono ?_
 rintro _ y3 ⟨rfl,hw3⟩
 have a_k:=(hw3.block _ (Array.getElem?_eq_some_iff.1 a_k).1).trans a_k
 have b_k:=(hw3.block _ (Array.getElem?_eq_some_iff.1 b_k).1).trans b_k
 have c_k:=(hw3.block _ (Array.getElem?_eq_some_iff.1 c_k).1).trans c_k
 have r_k:=(hw3.block _ (Array.getElem?_eq_some_iff.1 r_k).1).trans r_k
 have f0:=blkC a_k 0 rfl
 have f1:=blkC a_k 1 rfl
 have f2:=blkC b_k 0 rfl
 have f3:=blkC b_k 1 rfl
 have f4:=blkC c_k 0 rfl
 have f5:=blkC c_k 1 rfl
 go_wp2_with fail
 refine (CV _).mono ?_
 rintro _ y4 ⟨rfl,hw4⟩
 have r_k:=(hw4.block _ (Array.getElem?_eq_some_iff.1 r_k).1).trans r_k
 have k0:=blkC r_k 0 rfl
 have k1:=blkC r_k 1 rfl
 have z0:=blkF r_k 0
 have z1:=blkF r_k 1
 have q:=heap_set (heap_set r_k 0 (.int .i64 1)) 1 (.int .i64 1)
 have e0:=blkC q 0 rfl
 have e1:=blkC q 1 rfl
 have hb:=bel_trans hb0 (bel_trans hw1 (bel_trans hw2 (bel_trans hw3 hw4)))
 go_wp2
 refine bodyPost_ret (v:=.tuple #[.agg #[.int .i64 1,.int .i64 1],.int .i64 0]) (by simp [results,Tryz.results7,go_sem,e0,e1]) rfl ⟨rfl,(hb.setCell (p:=⟨w.heap.size+3,0,none⟩) (by show _<=_+3; omega) _).setCell (p:=⟨w.heap.size+3,1,none⟩) (by show _<=_+3; omega) _⟩
theorem onum (x:Int) (w:World) :
  Calls Tryz.prog 8 #[.int .i64 x] w fun e w'=>e=.returned (.int .i64 x)∧w'=w:=by
 go_enter Tryz.func8,Tryz.ntmps8
 go_wp2
 go_ret
 exact ⟨b_ret_int (by first | rfl | omega),rfl⟩
theorem alive10 (w:World):Calls Tryz.prog 6 #[] w fun e w'=>e=.returned (.bool true)∧Below w.heap.size w w':=by
 have CV:=fun W=>o_signC W
 go_enter Tryz.func6,Tryz.ntmps6
 go_wp2_with fail
 refine (CV _).mono ?_
 rintro _ w1 ⟨rfl,hb1⟩
 have hba:=bel_alloc w1 (.cells #[.int .i64 1,.int .i64 1] 28)
 have hg:=heap_a1 w1 (.cells #[.int .i64 1,.int .i64 1] 28)
 have c0:=blkC hg 0 rfl
 have c1:=blkC hg 1 rfl
 go_wp2_with (go_at_call 8; refine (onum _ _).mono ?_; rintro _ _ ⟨rfl,rfl⟩)
 all_goals go_ret
 all_goals exact ⟨rfl,by first | exact bel_trans hb1 hba | exact (bel_trans hb1 hba).drew⟩
def oJc (s:Nat) (sgn k:Int) (a':Act):Prop:=∃ X,(∀ W,Calls Tryz.prog 64 #[.float .f64 X,.float .f64 0] W fun r w'=>r=.returned (.int .i64 sgn)∧w'=W)∧oJ s (.float .f64 X) (.int .i64 k) a'
theorem heap_other8 {W:World} {g g':Nat} {o:Obj} (h:W.heap[g']?=some o) (hg:g'≠g) (x0 x1 x2 x3 x4 x5 x6 x7:Value):((((((((W.setCell ⟨g,0,none⟩ x0).setCell ⟨g,1,none⟩ x1).setCell ⟨g,2,none⟩ x2).setCell ⟨g,3,none⟩ x3).setCell ⟨g,4,none⟩ x4).setCell ⟨g,5,none⟩ x5).setCell ⟨g,6,none⟩ x6).setCell ⟨g,7,none⟩ x7).heap[g']?=some o :=
 ((((((((((Wr.refl g W).setCell 0 x0).setCell 1 x1).setCell 2 x2).setCell 3 x3).setCell 4 x4).setCell 5 x5).setCell 6 x6).setCell 7 x7).block _ (Array.getElem?_eq_some_iff.1 h).1 hg).trans h
def oStL (c1:Ordering) (xb:Bool) (c2 c3:Ordering):Int :=
 match c1 with
 | .lt=>if xb then 2 else match c2 with
  | .lt=>match c3 with
   | .lt=>4
   | _=>3
  | _=>2
 | _=>1
theorem oTw {ax ay bx by' cx cy T tl sgn:Int} {AX AY BX BY CX CY U1 V1 U2 V2 E1 E2 E3 E4 LW RW LA RA SW DW DA AS HG BS TW DB CS KH EW ZW:Nat} {c1 c2 c3:Ordering} {xb:Bool}
  (F1:(∀ W,Calls Tryz.prog 58 #[.int .i64 ax] W fun e w'=>e=.returned (.float .f64 AX)∧w'=W))
  (F2:(∀ W,Calls Tryz.prog 58 #[.int .i64 ay] W fun e w'=>e=.returned (.float .f64 AY)∧w'=W))
  (F3:(∀ W,Calls Tryz.prog 58 #[.int .i64 bx] W fun e w'=>e=.returned (.float .f64 BX)∧w'=W))
  (F4:(∀ W,Calls Tryz.prog 58 #[.int .i64 by'] W fun e w'=>e=.returned (.float .f64 BY)∧w'=W))
  (F5:(∀ W,Calls Tryz.prog 58 #[.int .i64 cx] W fun e w'=>e=.returned (.float .f64 CX)∧w'=W))
  (F6:(∀ W,Calls Tryz.prog 58 #[.int .i64 cy] W fun e w'=>e=.returned (.float .f64 CY)∧w'=W))
  (s1:(∀ W,(binOp .sub 59 (.float .f64 AX) (.float .f64 CX)).run Tryz.prog W=.ok (.float .f64 U1) W))
  (s2:(∀ W,(binOp .sub 59 (.float .f64 BY) (.float .f64 CY)).run Tryz.prog W=.ok (.float .f64 V2) W))
  (m1:(∀ W,(binOp .mul 59 (.float .f64 U1) (.float .f64 V2)).run Tryz.prog W=.ok (.float .f64 LW) W))
  (s3:(∀ W,(binOp .sub 59 (.float .f64 AY) (.float .f64 CY)).run Tryz.prog W=.ok (.float .f64 V1) W))
  (s4:(∀ W,(binOp .sub 59 (.float .f64 BX) (.float .f64 CX)).run Tryz.prog W=.ok (.float .f64 U2) W))
  (m2:(∀ W,(binOp .mul 59 (.float .f64 V1) (.float .f64 U2)).run Tryz.prog W=.ok (.float .f64 RW) W))
  (A1:(∀ W,Calls Tryz.prog 34 #[.float .f64 LW] W fun e w'=>e=.returned (.float .f64 LA)∧w'=W))
  (A2:(∀ W,Calls Tryz.prog 34 #[.float .f64 RW] W fun e w'=>e=.returned (.float .f64 RA)∧w'=W))
  (p1:(∀ W,(binOp .add 59 (.float .f64 LA) (.float .f64 RA)).run Tryz.prog W=.ok (.float .f64 SW) W))
  (s5:(∀ W,(binOp .sub 59 (.float .f64 LW) (.float .f64 RW)).run Tryz.prog W=.ok (.float .f64 DW) W))
  (A3:(∀ W,Calls Tryz.prog 34 #[.float .f64 DW] W fun e w'=>e=.returned (.float .f64 DA)∧w'=W))
  (m3:(∀ W,(binOp .mul 59 (.float .f64 4375247037990436868) (.float .f64 SW)).run Tryz.prog W=.ok (.float .f64 AS) W))
  (CFr:(∀ W,Hold4 W->Calls Tryz.prog 59 #[.agg #[.int .i64 ax,.int .i64 ay],.agg #[.int .i64 bx,.int .i64 by'],.agg #[.int .i64 cx,.int .i64 cy]] W fun r w'=>r=.returned (.agg #[.float .f64 U1,.float .f64 E1,.float .f64 V1,.float .f64 E2,.float .f64 U2,.float .f64 E3,.float .f64 V2,.float .f64 E4])∧Below W.heap.size W w'))
  (CHd:(∀ W,Hold4 W->Calls Tryz.prog 60 #[.agg #[.float .f64 U1,.float .f64 E1,.float .f64 V1,.float .f64 E2,.float .f64 U2,.float .f64 E3,.float .f64 V2,.float .f64 E4],.float .f64 LW,.float .f64 RW] W fun r w'=>∃ h,r=.returned (.float .f64 (wd h))∧HdV T h∧Below W.heap.size W w'))
  (HA:(∀ h,HdV T h->(∀ W,Calls Tryz.prog 34 #[.float .f64 (wd h)] W fun e w'=>e=.returned (.float .f64 HG)∧w'=W)))
  (m4:(∀ W,(binOp .mul 59 (.float .f64 4372995238176751619) (.float .f64 SW)).run Tryz.prog W=.ok (.float .f64 BS) W))
  (CT:(∀ W,Calls Tryz.prog 62 #[.agg #[.float .f64 U1,.float .f64 E1,.float .f64 V1,.float .f64 E2,.float .f64 U2,.float .f64 E3,.float .f64 V2,.float .f64 E4]] W fun r w'=>r=.returned (.float .f64 TW)∧Below W.heap.size W w'))
  (HS:(∀ h,HdV T h->(∀ W,(binOp .add 59 (.float .f64 (wd h)) (.float .f64 TW)).run Tryz.prog W=.ok (.float .f64 (wd (fsum h tl))) W)))
  (HB:(∀ h,HdV T h->(∀ W,Calls Tryz.prog 34 #[.float .f64 (wd (fsum h tl))] W fun e w'=>e=.returned (.float .f64 DB)∧w'=W)))
  (m5:(∀ W,(binOp .mul 59 (.float .f64 4143874607134277636) (.float .f64 SW)).run Tryz.prog W=.ok (.float .f64 CS) W))
  (m6:(∀ W,(binOp .mul 59 (.float .f64 4375247037990436866) (.float .f64 HG)).run Tryz.prog W=.ok (.float .f64 KH) W))
  (p2:(∀ W,(binOp .add 59 (.float .f64 CS) (.float .f64 KH)).run Tryz.prog W=.ok (.float .f64 EW) W))
  (CAl:(∀ W,Hold4 W->Calls Tryz.prog 63 #[.agg #[.float .f64 U1,.float .f64 E1,.float .f64 V1,.float .f64 E2,.float .f64 U2,.float .f64 E3,.float .f64 V2,.float .f64 E4]] W fun r w'=>r=.returned (.float .f64 ZW)∧Below W.heap.size W w'))
  (o1:FloatKind.f64.format.order DA AS=some c1)
  (o2:FloatKind.f64.format.order HG BS=some c2)
  (o3:FloatKind.f64.format.order DB EW=some c3)
  (CEx:(∀ W,Calls Tryz.prog 61 #[.agg #[.float .f64 U1,.float .f64 E1,.float .f64 V1,.float .f64 E2,.float .f64 U2,.float .f64 E3,.float .f64 V2,.float .f64 E4]] W fun r w'=>r=.returned (.bool xb)∧Below W.heap.size W w'))
  (CC1:(c1 ≠ .lt->(∀ W,Calls Tryz.prog 64 #[.float .f64 DW,.float .f64 0] W fun r w'=>r=.returned (.int .i64 sgn)∧w'=W)))
  (CC2:(c1=.lt->(xb=true∨c2 ≠ .lt)->∀ h,HdV T h->(∀ W,Calls Tryz.prog 64 #[.float .f64 (wd h),.float .f64 0] W fun r w'=>r=.returned (.int .i64 sgn)∧w'=W)))
  (CC3:(c1=.lt->c3 ≠ .lt->∀ h,HdV T h->(∀ W,Calls Tryz.prog 64 #[.float .f64 (wd (fsum h tl)),.float .f64 0] W fun r w'=>r=.returned (.int .i64 sgn)∧w'=W)))
  (CC4:(∀ W,Calls Tryz.prog 64 #[.float .f64 ZW,.float .f64 0] W fun r w'=>r=.returned (.int .i64 sgn)∧w'=W))
  (w:World) (H:Hold4 w) :
  Calls Tryz.prog 22 #[.agg #[.int .i64 ax,.int .i64 ay],.agg #[.int .i64 bx,.int .i64 by'],.agg #[.int .i64 cx,.int .i64 cy]] w fun r w'=>r=.returned (.agg #[.int .i64 sgn,.int .i64 (oStL c1 xb c2 c3)])∧Below w.heap.size w w':=by
 have hF1:Hid (∀ W,Calls Tryz.prog 58 #[.int .i64 ax] W fun e w'=>e=.returned (.float .f64 AX)∧w'=W):=F1
 clear F1
 have hF2:Hid (∀ W,Calls Tryz.prog 58 #[.int .i64 ay] W fun e w'=>e=.returned (.float .f64 AY)∧w'=W):=F2
 clear F2
 have hF3:Hid (∀ W,Calls Tryz.prog 58 #[.int .i64 bx] W fun e w'=>e=.returned (.float .f64 BX)∧w'=W):=F3
 clear F3
 have hF4:Hid (∀ W,Calls Tryz.prog 58 #[.int .i64 by'] W fun e w'=>e=.returned (.float .f64 BY)∧w'=W):=F4
 clear F4
 have hF5:Hid (∀ W,Calls Tryz.prog 58 #[.int .i64 cx] W fun e w'=>e=.returned (.float .f64 CX)∧w'=W):=F5
 clear F5
 have hF6:Hid (∀ W,Calls Tryz.prog 58 #[.int .i64 cy] W fun e w'=>e=.returned (.float .f64 CY)∧w'=W):=F6
 clear F6
 have hA1:Hid (∀ W,Calls Tryz.prog 34 #[.float .f64 LW] W fun e w'=>e=.returned (.float .f64 LA)∧w'=W):=A1
 clear A1
 have hA2:Hid (∀ W,Calls Tryz.prog 34 #[.float .f64 RW] W fun e w'=>e=.returned (.float .f64 RA)∧w'=W):=A2
 clear A2
 have hA3:Hid (∀ W,Calls Tryz.prog 34 #[.float .f64 DW] W fun e w'=>e=.returned (.float .f64 DA)∧w'=W):=A3
 clear A3
 have hCFr:Hid (∀ W,Hold4 W->Calls Tryz.prog 59 #[.agg #[.int .i64 ax,.int .i64 ay],.agg #[.int .i64 bx,.int .i64 by'],.agg #[.int .i64 cx,.int .i64 cy]] W fun r w'=>r=.returned (.agg #[.float .f64 U1,.float .f64 E1,.float .f64 V1,.float .f64 E2,.float .f64 U2,.float .f64 E3,.float .f64 V2,.float .f64 E4])∧Below W.heap.size W w'):=CFr
 clear CFr
 have hCHd:Hid (∀ W,Hold4 W->Calls Tryz.prog 60 #[.agg #[.float .f64 U1,.float .f64 E1,.float .f64 V1,.float .f64 E2,.float .f64 U2,.float .f64 E3,.float .f64 V2,.float .f64 E4],.float .f64 LW,.float .f64 RW] W fun r w'=>∃ h,r=.returned (.float .f64 (wd h))∧HdV T h∧Below W.heap.size W w'):=CHd
 clear CHd
 have hHA:Hid (∀ h,HdV T h->(∀ W,Calls Tryz.prog 34 #[.float .f64 (wd h)] W fun e w'=>e=.returned (.float .f64 HG)∧w'=W)):=HA
 clear HA
 have hCT:Hid (∀ W,Calls Tryz.prog 62 #[.agg #[.float .f64 U1,.float .f64 E1,.float .f64 V1,.float .f64 E2,.float .f64 U2,.float .f64 E3,.float .f64 V2,.float .f64 E4]] W fun r w'=>r=.returned (.float .f64 TW)∧Below W.heap.size W w'):=CT
 clear CT
 have hHS:Hid (∀ h,HdV T h->(∀ W,(binOp .add 59 (.float .f64 (wd h)) (.float .f64 TW)).run Tryz.prog W=.ok (.float .f64 (wd (fsum h tl))) W)):=HS
 clear HS
 have hHB:Hid (∀ h,HdV T h->(∀ W,Calls Tryz.prog 34 #[.float .f64 (wd (fsum h tl))] W fun e w'=>e=.returned (.float .f64 DB)∧w'=W)):=HB
 clear HB
 have hCAl:Hid (∀ W,Hold4 W->Calls Tryz.prog 63 #[.agg #[.float .f64 U1,.float .f64 E1,.float .f64 V1,.float .f64 E2,.float .f64 U2,.float .f64 E3,.float .f64 V2,.float .f64 E4]] W fun r w'=>r=.returned (.float .f64 ZW)∧Below W.heap.size W w'):=CAl
 clear CAl
 have hCEx:Hid (∀ W,Calls Tryz.prog 61 #[.agg #[.float .f64 U1,.float .f64 E1,.float .f64 V1,.float .f64 E2,.float .f64 U2,.float .f64 E3,.float .f64 V2,.float .f64 E4]] W fun r w'=>r=.returned (.bool xb)∧Below W.heap.size W w'):=CEx
 clear CEx
 have hCC1:Hid (c1 ≠ .lt->(∀ W,Calls Tryz.prog 64 #[.float .f64 DW,.float .f64 0] W fun r w'=>r=.returned (.int .i64 sgn)∧w'=W)):=CC1
 clear CC1
 have hCC2:Hid (c1=.lt->(xb=true∨c2 ≠ .lt)->∀ h,HdV T h->(∀ W,Calls Tryz.prog 64 #[.float .f64 (wd h),.float .f64 0] W fun r w'=>r=.returned (.int .i64 sgn)∧w'=W)):=CC2
 clear CC2
 have hCC3:Hid (c1=.lt->c3 ≠ .lt->∀ h,HdV T h->(∀ W,Calls Tryz.prog 64 #[.float .f64 (wd (fsum h tl)),.float .f64 0] W fun r w'=>r=.returned (.int .i64 sgn)∧w'=W)):=CC3
 clear CC3
 have hCC4:Hid (∀ W,Calls Tryz.prog 64 #[.float .f64 ZW,.float .f64 0] W fun r w'=>r=.returned (.int .i64 sgn)∧w'=W):=CC4
 clear CC4
 have hst:∀ p x m w,(store p (.float .f64 x) m).run Tryz.prog w=stored Tryz.prog w p (.float .f64 x) m:=fun p x m w=>run_store _ w p _ m rfl
 have HK0:=H
 obtain ⟨hb0,a_k,b_k,c_k,r_k,f_k,hsz0⟩:=blks5 w (.cells #[.int .i64 ax,.int .i64 ay] 33) (.cells #[.int .i64 bx,.int .i64 by'] 33) (.cells #[.int .i64 cx,.int .i64 cy] 33) (.cells #[.int .i64 0,.int .i64 0] 28) (.cells #[.float .f64 0,.float .f64 0,.float .f64 0,.float .f64 0,.float .f64 0,.float .f64 0,.float .f64 0,.float .f64 0] 101)
 clear hsz0
 go_enter Tryz.func22,Tryz.ntmps22
 go_wp2
 refine wp_scope_jumps 0 (fun a' w'=>Below w.heap.size w w'∧w'.heap[w.heap.size+1+1+1]?=some (.cells #[.int .i64 0,.int .i64 0] 28 (0,0))∧oJc w.heap.size sgn (oStL c1 xb c2 c3) a') (fun _ _=>0) rfl ?_ ?_
 ·go_wp2_with fail
  generalize ((((w.alloc (.cells #[.int .i64 ax,.int .i64 ay] 33)).alloc (.cells #[.int .i64 bx,.int .i64 by'] 33)).alloc (.cells #[.int .i64 cx,.int .i64 cy] 33)).alloc (.cells #[.int .i64 0,.int .i64 0] 28)).alloc (.cells #[.float .f64 0,.float .f64 0,.float .f64 0,.float .f64 0,.float .f64 0,.float .f64 0,.float .f64 0,.float .f64 0] 101)=x0 at hb0 a_k b_k c_k r_k f_k ⊢
  have f_a0:=blkC a_k 0 rfl
  have f_a1:=blkC a_k 1 rfl
  have f_b0:=blkC b_k 0 rfl
  have f_b1:=blkC b_k 1 rfl
  have f_c0:=blkC c_k 0 rfl
  have f_c1:=blkC c_k 1 rfl
  go_quiet (first | (go_at_call 58; with_reducible exact Calls.quiet_of_same (hF1.out _)) | (go_at_call 58; with_reducible exact Calls.quiet_of_same (hF2.out _)) | (go_at_call 58; with_reducible exact Calls.quiet_of_same (hF3.out _)) | (go_at_call 58; with_reducible exact Calls.quiet_of_same (hF4.out _)) | (go_at_call 58; with_reducible exact Calls.quiet_of_same (hF5.out _)) | (go_at_call 58; with_reducible exact Calls.quiet_of_same (hF6.out _)))
  go_wp2_with fail
  clear f_a0 f_a1 f_b0 f_b1 f_c0 f_c1
  have hd:=bDrewN (bel_refl x0) nq
  replace a_k:=blk_on hd a_k
  replace b_k:=blk_on hd b_k
  replace c_k:=blk_on hd c_k
  replace r_k:=blk_on hd r_k
  replace f_k:=blk_on hd f_k
  replace hb0:=bel_trans hb0 hd
  replace H:=H.keeps hb0
  generalize x0.drewN nq=x1 at hb0 H a_k b_k c_k r_k f_k ⊢
  clear hd
  refine (hA1.out _).mono ?_
  rintro _ wz ⟨rfl,hwz⟩
  replace hwz:=hwz.symm
  subst hwz
  go_wp2_with fail
  refine (hA2.out _).mono ?_
  rintro _ wz ⟨rfl,hwz⟩
  replace hwz:=hwz.symm
  subst hwz
  go_wp2_with fail
  refine (hA3.out _).mono ?_
  rintro _ wz ⟨rfl,hwz⟩
  replace hwz:=hwz.symm
  subst hwz
  cases c1
  ·have f_a0:=blkC a_k 0 rfl
   have f_a1:=blkC a_k 1 rfl
   have f_b0:=blkC b_k 0 rfl
   have f_b1:=blkC b_k 1 rfl
   have f_c0:=blkC c_k 0 rfl
   have f_c1:=blkC c_k 1 rfl
   go_wp2_with fail
   clear f_a0 f_a1 f_b0 f_b1 f_c0 f_c1
   refine (hCFr.out _ H).mono ?_
   rintro _ y1 ⟨rfl,hw1⟩
   replace r_k:=blk_on hw1 r_k
   replace f_k:=blk_on hw1 f_k
   replace hb0:=bel_trans hb0 hw1
   replace H:=H.keeps hw1
   have k0:=blkC f_k 0 rfl
   have k1:=blkC f_k 1 rfl
   have k2:=blkC f_k 2 rfl
   have k3:=blkC f_k 3 rfl
   have k4:=blkC f_k 4 rfl
   have k5:=blkC f_k 5 rfl
   have k6:=blkC f_k 6 rfl
   have k7:=blkC f_k 7 rfl
   have z0:=blkF f_k 0
   have z1:=blkF f_k 1
   have z2:=blkF f_k 2
   have z3:=blkF f_k 3
   have z4:=blkF f_k 4
   have z5:=blkF f_k 5
   have z6:=blkF f_k 6
   have z7:=blkF f_k 7
   have q8:=heap_set8 f_k (.float .f64 U1) (.float .f64 E1) (.float .f64 V1) (.float .f64 E2) (.float .f64 U2) (.float .f64 E3) (.float .f64 V2) (.float .f64 E4)
   have e0:=blkC q8 0 rfl
   have e1:=blkC q8 1 rfl
   have e2:=blkC q8 2 rfl
   have e3:=blkC q8 3 rfl
   have e4:=blkC q8 4 rfl
   have e5:=blkC q8 5 rfl
   have e6:=blkC q8 6 rfl
   have e7:=blkC q8 7 rfl
   have hb8:=((((((((hb0.setCell (p:=⟨w.heap.size+1+1+1+1,0,none⟩) (show w.heap.size<=w.heap.size+1+1+1+1 by omega) (.float .f64 U1)).setCell (p:=⟨w.heap.size+1+1+1+1,1,none⟩) (show w.heap.size<=w.heap.size+1+1+1+1 by omega) (.float .f64 E1)).setCell (p:=⟨w.heap.size+1+1+1+1,2,none⟩) (show w.heap.size<=w.heap.size+1+1+1+1 by omega) (.float .f64 V1)).setCell (p:=⟨w.heap.size+1+1+1+1,3,none⟩) (show w.heap.size<=w.heap.size+1+1+1+1 by omega) (.float .f64 E2)).setCell (p:=⟨w.heap.size+1+1+1+1,4,none⟩) (show w.heap.size<=w.heap.size+1+1+1+1 by omega) (.float .f64 U2)).setCell (p:=⟨w.heap.size+1+1+1+1,5,none⟩) (show w.heap.size<=w.heap.size+1+1+1+1 by omega) (.float .f64 E3)).setCell (p:=⟨w.heap.size+1+1+1+1,6,none⟩) (show w.heap.size<=w.heap.size+1+1+1+1 by omega) (.float .f64 V2)).setCell (p:=⟨w.heap.size+1+1+1+1,7,none⟩) (show w.heap.size<=w.heap.size+1+1+1+1 by omega) (.float .f64 E4))
   have H8:=HK0.keeps hb8
   have r8:=heap_other8 r_k (g:=w.heap.size+1+1+1+1) (by omega) (.float .f64 U1) (.float .f64 E1) (.float .f64 V1) (.float .f64 E2) (.float .f64 U2) (.float .f64 E3) (.float .f64 V2) (.float .f64 E4)
   go_wp2_with fail
   clear k0 z0 k1 z1 k2 z2 k3 z3 k4 z4 k5 z5 k6 z6 k7 z7
   clear f_k r_k hb0 H e0 e1 e2 e3 e4 e5 e6 e7
   generalize ((((((((y1.setCell ⟨w.heap.size+1+1+1+1,0,none⟩ (.float .f64 U1)).setCell ⟨w.heap.size+1+1+1+1,1,none⟩ (.float .f64 E1)).setCell ⟨w.heap.size+1+1+1+1,2,none⟩ (.float .f64 V1)).setCell ⟨w.heap.size+1+1+1+1,3,none⟩ (.float .f64 E2)).setCell ⟨w.heap.size+1+1+1+1,4,none⟩ (.float .f64 U2)).setCell ⟨w.heap.size+1+1+1+1,5,none⟩ (.float .f64 E3)).setCell ⟨w.heap.size+1+1+1+1,6,none⟩ (.float .f64 V2)).setCell ⟨w.heap.size+1+1+1+1,7,none⟩ (.float .f64 E4))=x2 at q8 hb8 H8 r8 ⊢
   refine (hCHd.out _ H8).mono ?_
   rintro _ y2 ⟨h,rfl,hv,hw2⟩
   replace q8:=blk_on hw2 q8
   replace r8:=blk_on hw2 r8
   replace hb8:=bel_trans hb8 hw2
   replace H8:=H8.keeps hw2
   have HC2:Hid ((xb=true∨c2 ≠ .lt)->(∀ W,Calls Tryz.prog 64 #[.float .f64 (wd h),.float .f64 0] W fun r w'=>r=.returned (.int .i64 sgn)∧w'=W)):=fun b=>hCC2.out (by first | rfl | trivial) b h hv
   have HC3:Hid (c3 ≠ .lt->(∀ W,Calls Tryz.prog 64 #[.float .f64 (wd (fsum h tl)),.float .f64 0] W fun r w'=>r=.returned (.int .i64 sgn)∧w'=W)):=fun b=>hCC3.out (by first | rfl | trivial) b h hv
   have HAh:Hid (∀ W,Calls Tryz.prog 34 #[.float .f64 (wd h)] W fun e w'=>e=.returned (.float .f64 HG)∧w'=W):=hHA.out h hv
   have HSh:=hHS.out h hv
   have HBh:Hid (∀ W,Calls Tryz.prog 34 #[.float .f64 (wd (fsum h tl))] W fun e w'=>e=.returned (.float .f64 DB)∧w'=W):=hHB.out h hv
   generalize wd (fsum h tl)=DH at *
   clear hv
   generalize wd h=HW at *
   have e0:=blkC q8 0 rfl
   have e1:=blkC q8 1 rfl
   have e2:=blkC q8 2 rfl
   have e3:=blkC q8 3 rfl
   have e4:=blkC q8 4 rfl
   have e5:=blkC q8 5 rfl
   have e6:=blkC q8 6 rfl
   have e7:=blkC q8 7 rfl
   go_wp2_with fail
   clear e0 e1 e2 e3 e4 e5 e6 e7
   refine (hCEx.out _).mono ?_
   rintro _ y3 ⟨rfl,hw3⟩
   replace q8:=blk_on hw3 q8
   replace r8:=blk_on hw3 r8
   replace hb8:=bel_trans hb8 hw3
   replace H8:=H8.keeps hw3
   cases xb
   ·go_wp2_with fail
    refine (HAh.out _).mono ?_
    rintro _ wz ⟨rfl,hwz⟩
    replace hwz:=hwz.symm
    subst hwz
    cases c2
    ·have e0:=blkC q8 0 rfl
     have e1:=blkC q8 1 rfl
     have e2:=blkC q8 2 rfl
     have e3:=blkC q8 3 rfl
     have e4:=blkC q8 4 rfl
     have e5:=blkC q8 5 rfl
     have e6:=blkC q8 6 rfl
     have e7:=blkC q8 7 rfl
     go_wp2_with fail
     clear e0 e1 e2 e3 e4 e5 e6 e7
     refine (hCT.out _).mono ?_
     rintro _ y4 ⟨rfl,hw4⟩
     replace q8:=blk_on hw4 q8
     replace r8:=blk_on hw4 r8
     replace hb8:=bel_trans hb8 hw4
     replace H8:=H8.keeps hw4
     go_wp2_with fail
     refine (HBh.out _).mono ?_
     rintro _ wz ⟨rfl,hwz⟩
     replace hwz:=hwz.symm
     subst hwz
     go_wp2_with fail
     refine (HAh.out _).mono ?_
     rintro _ wz ⟨rfl,hwz⟩
     replace hwz:=hwz.symm
     subst hwz
     cases c3
     ·have e0:=blkC q8 0 rfl
      have e1:=blkC q8 1 rfl
      have e2:=blkC q8 2 rfl
      have e3:=blkC q8 3 rfl
      have e4:=blkC q8 4 rfl
      have e5:=blkC q8 5 rfl
      have e6:=blkC q8 6 rfl
      have e7:=blkC q8 7 rfl
      go_wp2_with fail
      clear e0 e1 e2 e3 e4 e5 e6 e7
      refine (hCAl.out _ H8).mono ?_
      rintro _ y5 ⟨rfl,hw5⟩
      replace r8:=blk_on hw5 r8
      replace hb8:=bel_trans hb8 hw5
      go_wp2_with fail
      go_step3
      simp only [Exit.then,Exit.jump]
      rename_i K9 hK9
      refine hK9 _ _ ?_
      have hr:=r8
      have hb:=hb8
      go_wp2_with fail
      refine (hCC4.out _).mono ?_
      rintro _ wz ⟨rfl,hwz⟩
      replace hwz:=hwz.symm
      subst hwz
      have k0:=blkC hr 0 rfl
      have k1:=blkC hr 1 rfl
      have z0:=blkF hr 0
      have z1:=blkF hr 1
      have q:=heap_set (heap_set hr 0 (.int .i64 sgn)) 1 (.int .i64 4)
      have e0:=blkC q 0 rfl
      have e1:=blkC q 1 rfl
      go_wp2
      try simp only [Exit.jump]
      refine bodyPost_ret (v:=.agg #[.int .i64 sgn,.int .i64 4]) (by simp [results,Tryz.results22,go_sem,e0,e1]) rfl ⟨rfl,(hb.setCell (p:=⟨w.heap.size+1+1+1,0,none⟩) (by show _<=_+1+1+1; omega) _).setCell (p:=⟨w.heap.size+1+1+1,1,none⟩) (by show _<=_+1+1+1; omega) _⟩
     ·go_wp2_with fail
      go_step3
      simp only [Exit.then,Exit.jump]
      exact ⟨rfl,hb8,r8,DH,HC3.out (by first | decide | trivial | simp),oJ_of _ (by kernel_rfl)⟩
     ·go_wp2_with fail
      go_step3
      simp only [Exit.then,Exit.jump]
      exact ⟨rfl,hb8,r8,DH,HC3.out (by first | decide | trivial | simp),oJ_of _ (by kernel_rfl)⟩
    ·go_wp2_with fail
     go_step3
     simp only [Exit.then,Exit.jump]
     exact ⟨rfl,hb8,r8,HW,HC2.out (by first | exact .inr (by decide) | trivial | simp),oJ_of _ (by kernel_rfl)⟩
    ·go_wp2_with fail
     go_step3
     simp only [Exit.then,Exit.jump]
     exact ⟨rfl,hb8,r8,HW,HC2.out (by first | exact .inr (by decide) | trivial | simp),oJ_of _ (by kernel_rfl)⟩
   ·go_wp2_with fail
    go_step3
    simp only [Exit.then,Exit.jump]
    exact ⟨rfl,hb8,r8,HW,HC2.out (by first | exact .inl rfl | trivial | simp),oJ_of _ (by kernel_rfl)⟩
  ·go_wp2_with fail
   go_step3
   simp only [Exit.then,Exit.jump]
   exact ⟨rfl,hb0,r_k,DW,hCC1.out (by first | decide | trivial | simp),oJ_of _ (by kernel_rfl)⟩
  ·go_wp2_with fail
   go_step3
   simp only [Exit.then,Exit.jump]
   exact ⟨rfl,hb0,r_k,DW,hCC1.out (by first | decide | trivial | simp),oJ_of _ (by kernel_rfl)⟩
 ·rintro a' w' ⟨hb,hr,X,hX,u,rfl⟩
  have HX:Hid (∀ W,Calls Tryz.prog 64 #[.float .f64 X,.float .f64 0] W fun r w'=>r=.returned (.int .i64 sgn)∧w'=W):=hX
  clear hX
  generalize hkk:(oStL c1 xb c2 c3)=kk at *
  have HKK:Hid ((oStL c1 xb c2 c3)=kk):=hkk
  clear hkk
  go_wp2_with fail
  refine (HX.out _).mono ?_
  rintro _ wz ⟨rfl,hwz⟩
  replace hwz:=hwz.symm
  subst hwz
  have k0:=blkC hr 0 rfl
  have k1:=blkC hr 1 rfl
  have z0:=blkF hr 0
  have z1:=blkF hr 1
  have q:=heap_set (heap_set hr 0 (.int .i64 sgn)) 1 (.int .i64 kk)
  have e0:=blkC q 0 rfl
  have e1:=blkC q 1 rfl
  go_wp2
  try simp only [Exit.jump]
  refine bodyPost_ret (v:=.agg #[.int .i64 sgn,.int .i64 kk]) (by simp [results,Tryz.results22,go_sem,e0,e1]) rfl ⟨by rw [HKK.out],(hb.setCell (p:=⟨w.heap.size+1+1+1,0,none⟩) (by show _<=_+1+1+1; omega) _).setCell (p:=⟨w.heap.size+1+1+1,1,none⟩) (by show _<=_+1+1+1; omega) _⟩
theorem geC {d m:Int} (hd:rng d) (pd:pok d=true) (hm:rng m) (pm:pok m=true):∃ c:Ordering,FloatKind.f64.format.order (wd (rg d)) (wd m)=some c∧(c=.lt ↔ ¬ key m<=rg d):=by
 obtain ⟨q1,q2⟩:=q_rg hd
 have kR:key (rg d)=rg d:=q_key q2
 have pR:pok (rg d)=true:=by
  have h1:=pok_rg' hd
  have h2:=pok_rg' q1
  rw [rg_rg hd,<- h1] at h2
  rw [h2]; exact pd
 rcases Int.lt_trichotomy (key m) (rg d) with g | g | g
 ·exact ⟨.gt,q_gt q1 hm (q_fin pR) (q_fin pm) (by rw [kR]; exact g),(fun h=>by cases h),fun h=>absurd (Int.le_of_lt g) h⟩
 ·exact ⟨.eq,q_eq q1 hm (q_fin pR) (q_fin pm) (by rw [kR]; exact g.symm),(fun h=>by cases h),fun h=>absurd (Int.le_of_eq g) h⟩
 ·exact ⟨.lt,q_lt q1 hm (q_fin pR) (q_fin pm) (by rw [kR]; exact g),(fun _=>by omega),fun _=>rfl⟩
theorem wd_oA:wd oA=4375247037990436868:=by decide
theorem wd_oB:wd oB=4372995238176751619:=by decide
theorem wd_oC:wd oC=4143874607134277636:=by decide
theorem wd_oK:wd oK=4375247037990436866:=by decide
theorem stL_eq {c1 c2 c3:Ordering} {xb:Bool} {P1 P2 P3:Prop} [Decidable P1] [Decidable P2] [Decidable P3] (h1:c1=.lt ↔ ¬ P1) (h2:c2=.lt ↔ ¬ P2) (h3:c3=.lt ↔ ¬ P3):oStL c1 xb c2 c3=if P1 then 1 else if xb=true∨P2 then 2 else if P3 then 3 else 4:=by
 by_cases p1:P1
 ·have:c1 ≠ .lt:=fun h=>h1.1 h p1
  rw [if_pos p1]
  cases c1 <;> first | rfl | exact absurd rfl this
 ·rw [if_neg p1,h1.2 p1]
  cases xb
  ·by_cases p2:P2
   ·have:c2 ≠ .lt:=fun h=>h2.1 h p2
    rw [if_pos (.inr p2)]
    cases c2 <;> first | rfl | exact absurd rfl this
   ·rw [if_neg (fun q=>q.elim (fun z=>by cases z) p2),h2.2 p2]
    by_cases p3:P3
    ·have:c3 ≠ .lt:=fun h=>h3.1 h p3
     rw [if_pos p3]
     cases c3 <;> first | rfl | exact absurd rfl this
    ·rw [if_neg p3,h3.2 p3]
     rfl
  ·rw [if_pos (.inl rfl)]
   rfl
theorem oTame_ok {ax ay bx by' cx cy:Int} (hax:Mz ax) (hay:Mz ay) (hbx:Mz bx) (hby:Mz by') (hcx:Mz cx) (hcy:Mz cy) (w:World) (H:Hold4 w) :
  Calls Tryz.prog 22 #[.agg #[.int .i64 ax,.int .i64 ay],.agg #[.int .i64 bx,.int .i64 by'],.agg #[.int .i64 cx,.int .i64 cy]] w fun r w'=>r=.returned (.agg #[.int .i64 (ord (oDet ax ay bx by' cx cy) 0),.int .i64 (oStT ax ay bx by' cx cy)])∧Below w.heap.size w w':=by
 have O:=oTm_of hax hay hbx hby hcx hcy
 have fw:∀ {x:Int},Mz x->FW x (wd x):=fun h=>FW.pat (q_fin h.2.1) h.1
 have s1:=fun W=>run_diffN (P:=Tryz.prog) 59 (fw hax) (fw hcx) (q_fin O.u1.p) W
 have s2:=fun W=>run_diffN (P:=Tryz.prog) 59 (fw hby) (fw hcy) (q_fin O.v2.p) W
 have s3:=fun W=>run_diffN (P:=Tryz.prog) 59 (fw hay) (fw hcy) (q_fin O.v1.p) W
 have s4:=fun W=>run_diffN (P:=Tryz.prog) 59 (fw hbx) (fw hcx) (q_fin O.u2.p) W
 have m1:=fun W=>run_prodN (P:=Tryz.prog) 59 (fx_fw O.u1) (fx_fw O.v2) (q_fin O.l.p) W
 have m2:=fun W=>run_prodN (P:=Tryz.prog) 59 (fx_fw O.v1) (fx_fw O.u2) (q_fin O.r.p) W
 have p1:=fun W=>run_sumN (P:=Tryz.prog) 59 (fx_fw O.l.abs.1) (fx_fw O.r.abs.1) (q_fin O.s.p) W
 have s5:=fun W=>run_diffN (P:=Tryz.prog) 59 (fx_fw O.l) (fx_fw O.r) (q_fin O.d.p) W
 have m3:=fun W=>run_prodN (P:=Tryz.prog) 59 (fx_fw fx_oA) (fx_fw O.s) (q_fin (fx_AS O.s).p) W
 have m4:=fun W=>run_prodN (P:=Tryz.prog) 59 (fx_fw fx_oB) (fx_fw O.s) (q_fin (fx_BS O.s).p) W
 have m5:=fun W=>run_prodN (P:=Tryz.prog) 59 (fx_fw fx_oC) (fx_fw O.s) (q_fin (fx_CS O.s).p) W
 have m6:=fun W=>run_prodN (P:=Tryz.prog) 59 (fx_fw fx_oK) (fx_fw O.h.abs.1) (q_fin (fx_KH O.h).p) W
 have p2:=fun W=>run_sumN (P:=Tryz.prog) 59 (fx_fw (fx_CS O.s)) (fx_fw (fx_KH O.h)) (q_fin (fx_E O.s O.h).p) W
 rw [wd_oA] at m3
 rw [wd_oB] at m4
 rw [wd_oC] at m5
 rw [wd_oK] at m6
 have fS:∀ {h:Int},HdV (oHT ax ay bx by' cx cy) h->Fx 670 1385 (fsum h (oTl ax ay bx by' cx cy)):=fun hv=>((hv.fx O.h).sum O.t (by decide)).1
 have fd:=fS (HdV.self O.h)
 obtain ⟨c1,k1,i1⟩:=geC O.d.r O.d.p (fx_AS O.s).r (fx_AS O.s).p
 obtain ⟨c2,k2,i2⟩:=geC O.h.r O.h.p (fx_BS O.s).r (fx_BS O.s).p
 obtain ⟨c3,k3,i3⟩:=geC fd.r fd.p (fx_E O.s O.h).r (fx_E O.s O.h).p
 have L1:=(hax.lost hcx).1
 have L2:=(hay.lost hcy).1
 have L3:=(hbx.lost hcx).1
 have L4:=(hby.lost hcy).1
 have CHd:∀ W,Hold4 W->Calls Tryz.prog 60 #[.agg #[.float .f64 (wd (fsum ax (neg cx))),.float .f64 (wd (sL ax (neg cx))),.float .f64 (wd (fsum ay (neg cy))),.float .f64 (wd (sL ay (neg cy))),.float .f64 (wd (fsum bx (neg cx))),.float .f64 (wd (sL bx (neg cx))),.float .f64 (wd (fsum by' (neg cy))),.float .f64 (wd (sL by' (neg cy)))],.float .f64 (wd (oL ax ay bx by' cx cy)),.float .f64 (wd (oR ax ay bx by' cx cy))] W fun r w'=>∃ h,r=.returned (.float .f64 (wd h))∧HdV (oHT ax ay bx by' cx cy) h∧Below W.heap.size W w':=fun W h=>by
  rcases Int.lt_trichotomy (key (oL ax ay bx by' cx cy)) (key (oR ax ay bx by' cx cy)) with g | g | g
  ·exact oHeads_ne _ _ _ _ O.u1 O.v1 O.u2 O.v2 (.inl (q_lt O.l.r O.r.r (q_fin O.l.p) (q_fin O.r.p) g)) W h
  ·have i1:=iV_le O.l.r O.r.r (Int.le_of_eq g)
   have i2:=iV_le O.r.r O.l.r (Int.le_of_eq g.symm)
   exact oHeads_eq _ _ _ _ O.u1 O.v1 O.u2 O.v2 (q_eq O.l.r O.r.r (q_fin O.l.p) (q_fin O.r.p) g) (Int.le_antisymm i1 i2) W h
  ·exact oHeads_ne _ _ _ _ O.u1 O.v1 O.u2 O.v2 (.inr (q_gt O.l.r O.r.r (q_fin O.l.p) (q_fin O.r.p) g)) W h
 have CX:∀ W,Calls Tryz.prog 61 #[.agg #[.float .f64 (wd (fsum ax (neg cx))),.float .f64 (wd (sL ax (neg cx))),.float .f64 (wd (fsum ay (neg cy))),.float .f64 (wd (sL ay (neg cy))),.float .f64 (wd (fsum bx (neg cx))),.float .f64 (wd (sL bx (neg cx))),.float .f64 (wd (fsum by' (neg cy))),.float .f64 (wd (sL by' (neg cy)))]] W fun r w'=>r=.returned (.bool (oX ax ay bx by' cx cy))∧Below W.heap.size W w':=fun W=>oExactF _ _ _ _ _ _ _ _ _ _ _ _ (nil_eq L1.r L1.p) (nil_eq L2.r L2.p) (nil_eq L3.r L3.p) (nil_eq L4.r L4.p) W
 have HA:∀ h,HdV (oHT ax ay bx by' cx cy) h->∀ W,Calls Tryz.prog 34 #[.float .f64 (wd h)] W fun e w'=>e=.returned (.float .f64 (wd (rg (nrP (oHT ax ay bx by' cx cy)))))∧w'=W:=fun h hv W=>by
  rw [<- hv.g O.h]
  exact mathAbs hv.r W
 have HS:∀ h,HdV (oHT ax ay bx by' cx cy) h->∀ W,(binOp .add 59 (.float .f64 (wd h)) (.float .f64 (wd (oTl ax ay bx by' cx cy)))).run Tryz.prog W=.ok (.float .f64 (wd (fsum h (oTl ax ay bx by' cx cy)))) W:=fun h hv W=>run_sumN 59 (FW.pat (q_fin hv.p) hv.r) (fx_fw O.t) (q_fin (fS hv).p) W
 have HB:∀ h,HdV (oHT ax ay bx by' cx cy) h->∀ W,Calls Tryz.prog 34 #[.float .f64 (wd (fsum h (oTl ax ay bx by' cx cy)))] W fun e w'=>e=.returned (.float .f64 (wd (rg (fsum (nrP (oHT ax ay bx by' cx cy)) (oTl ax ay bx by' cx cy)))))∧w'=W:=fun h hv W=>by
  rw [<- hv.d O.h O.t]
  exact mathAbs (fS hv).r W
 have z:=sgnF_facts (ord_tri (oDet ax ay bx by' cx cy))
 unfold oStT
 rw [<- stL_eq (xb:=oX ax ay bx by' cx cy) i1 i2 i3]
 refine oTw (T:=oHT ax ay bx by' cx cy) (tl:=oTl ax ay bx by' cx cy) (fun W=>bitsFloat _ W) (fun W=>bitsFloat _ W) (fun W=>bitsFloat _ W) (fun W=>bitsFloat _ W) (fun W=>bitsFloat _ W) (fun W=>bitsFloat _ W) s1 s2 m1 s3 s4 m2 (fun W=>mathAbs O.l.r W) (fun W=>mathAbs O.r.r W) p1 s5 (fun W=>mathAbs O.d.r W) m3 (fun W h=>oFrame hax hay hbx hby hcx hcy W h) CHd HA m4 (fun W=>oTails O.u1 O.v1 O.u2 O.v2 L1 L2 L3 L4 W) HS HB m5 m6 p2 (fun W h=>oAllF hax hay hbx hby hcx hcy W h) k1 k2 k3 CX (fun q W=>?_) (fun q1 q2 h hv W=>?_) (fun q1 q2 h hv W=>?_) (fun W=>?_) w H
 ·rw [oSt1 hax hay hbx hby hcx hcy (Decidable.not_not.1 (fun c=>q (i1.2 c)))]
  exact cmpFloat O.d.r O.d.p W
 ·rw [oSt2 hax hay hbx hby hcx hcy hv (q2.imp id (fun q=>by rw [hv.g O.h]; exact Decidable.not_not.1 (fun c=>q (i2.2 c))))]
  exact cmpFloat hv.r hv.p W
 ·rw [oSt3 hax hay hbx hby hcx hcy hv (i1.1 q1) (by rw [hv.e _ O.h,hv.d O.h O.t]; exact Decidable.not_not.1 (fun c=>q2 (i3.2 c)))]
  exact cmpFloat (fS hv).r (fS hv).p W
 ·have:=cmpFloat z.1 z.2.1 W
  rw [z.2.2] at this
  exact this
def FarV (ax ay bx by' cx cy dx dy V:Int):Prop:=∃ V1 V2,Dot2 (patV ax-patV bx) (patV ay-patV by') (patV ax-patV bx) (patV ay-patV by') V1∧Dot2 (patV cx-patV dx) (patV cy-patV dy) (patV cx-patV dx) (patV cy-patV dy) V2∧V=V1-V2
theorem FarV.unique {ax ay bx by' cx cy dx dy V V':Int} (h:FarV ax ay bx by' cx cy dx dy V) (k:FarV ax ay bx by' cx cy dx dy V'):V=V':=by
 obtain ⟨a,b,h1,h2,rfl⟩:=h
 obtain ⟨c,d,k1,k2,rfl⟩:=k
 rw [h1.unique k1,h2.unique k2]
theorem subX {a b c d x y:Int} (s:Pin2 a b x) (t:Pin2 c d y):Hid (∀ W,Hold4 W->Calls Tryz.prog 68 #[.agg #[.int .i64 a,.int .i64 b],.agg #[.int .i64 c,.int .i64 d]] W fun e w'=>e=.returned (.tuple #[.agg #[.int .i64 (eLo (ePlus (eOf a) (eNeg (eOf d)))),.int .i64 (eHi (ePlus (eOf b) (eNeg (eOf c))))],.int .i64 0])∧Below W.heap.size W w')∧Okk (eLo (ePlus (eOf a) (eNeg (eOf d)))) (eHi (ePlus (eOf b) (eNeg (eOf c)))) (x-y):=by
 refine ⟨fun W h=>?_,((show x + -y=x-y from rfl) ▸ s.h.plus t.h.neg).okk⟩
 have:=spanSubE s.lo.1 s.hi.1 t.lo.1 t.hi.1 W h
 rw [s.v,t.v] at this
 exact this
end Go.Proofs.YtjjihmnbdeeedaaGreatDoor
