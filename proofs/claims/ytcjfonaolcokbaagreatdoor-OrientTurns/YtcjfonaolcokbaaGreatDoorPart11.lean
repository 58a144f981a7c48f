/- Parts of the proof. -/
import Derived.Test.YtcjfonaolcokbaaGreatDoorPart10
set_option maxRecDepth 100000
set_option maxHeartbeats 8000000
set_option linter.unusedVariables false
set_option linter.unusedSimpArgs false
namespace Go.Proofs.YtcjfonaolcokbaaGreatDoor
open Go Go.RowKit Go.Proofs.YtcjfonaolcokbaaGreatDoor.M
theorem am {W y:World} (hb:Below W.heap.size W y) {g:Nat} {X:Obj} (h:W.heap[g]?=some X):y.heap[g]?=some X:=(hb.block _ (Array.getElem?_eq_some_iff.1 h).1).trans h
theorem fK {B:Nat} {w3:World} {V:Int} {v:Value} (hv:fG B w3 V v) {g:Nat} {xs:Array Value} {z:Nat × Nat} (hg:w3.heap[g]?=some (.cells xs 34 z)) (a b c:Value) :
  fG B (((w3.setCell ⟨g,0,none⟩ a).setCell ⟨g,1,none⟩ b).setCell ⟨g,2,none⟩ c) V v:=hv.of_blocks (ER hg a b c)
def yG (a1 a2 b1 b2 V:Int):Prop:=∃ C D,C*2^4194304=a1*b2∧D*2^4194304=a2*b1∧V=C-D
theorem yG.unique {a1 a2 b1 b2 V V':Int} (h:yG a1 a2 b1 b2 V) (k:yG a1 a2 b1 b2 V'):V=V':=by
 obtain ⟨C,D,h1,h2,rfl⟩:=h
 obtain ⟨C',D',k1,k2,rfl⟩:=k
 rw [lh (h1.trans k1.symm),lh (h2.trans k2.symm)]
theorem tU {ax ay bx by' cx cy:Int} (pax:ak ax=true) (pay:ak ay=true) (pbx:ak bx=true) (pby:ak by'=true) (pcx:ak cx=true) (pcy:ak cy=true) (w:World) (H:aD w) :
    Calls Tryz.prog 16 #[.agg #[.int .i64 ax,.int .i64 ay],.agg #[.int .i64 bx,.int .i64 by'],.agg #[.int .i64 cx,.int .i64 cy]] w fun r w'=>∃ v V,r=.returned v∧bG w w' V v∧yG (ar ax-ar cx) (ar ay-ar cy) (ar bx-ar cx) (ar by'-ar cy) V∧Bd 8100 V:=by
  have A1:Hid (∀ W,aD W->Calls Tryz.prog 35 #[.int .i64 ax,.int .i64 cx] W fun r w'=>∃ v,r=.returned v∧bG W w' (ar ax-ar cx) v):=fun W h=>lQ pax pcx W h
  have A2:Hid (∀ W,aD W->Calls Tryz.prog 35 #[.int .i64 by',.int .i64 cy] W fun r w'=>∃ v,r=.returned v∧bG W w' (ar by'-ar cy) v):=fun W h=>lQ pby pcy W h
  have A3:Hid (∀ W,aD W->Calls Tryz.prog 35 #[.int .i64 ay,.int .i64 cy] W fun r w'=>∃ v,r=.returned v∧bG W w' (ar ay-ar cy) v):=fun W h=>lQ pay pcy W h
  have A4:Hid (∀ W,aD W->Calls Tryz.prog 35 #[.int .i64 bx,.int .i64 cx] W fun r w'=>∃ v,r=.returned v∧bG W w' (ar bx-ar cx) v):=fun W h=>lQ pbx pcx W h
  have B1:=(dN pax).sub (dN pcx) (by decide)
  have B2:=(dN pby).sub (dN pcy) (by decide)
  have B3:=(dN pay).sub (dN pcy) (by decide)
  have B4:=(dN pbx).sub (dN pcx) (by decide)
  generalize ar ax-ar cx=a1 at *
  generalize ar by'-ar cy=b2 at *
  generalize ar ay-ar cy=a2 at *
  generalize ar bx-ar cx=b1 at *
  clear pax pay pbx pby pcx pcy
  have hb0:=lm w (.cells #[.int .i64 ax,.int .i64 ay] 23) (.cells #[.int .i64 bx,.int .i64 by'] 23) (.cells #[.int .i64 cx,.int .i64 cy] 23) (.cells #[.bool false,.slice none 0 0,.int .i64 0] 34)
  have a_k:=uw w (.cells #[.int .i64 ax,.int .i64 ay] 23) (.cells #[.int .i64 bx,.int .i64 by'] 23) (.cells #[.int .i64 cx,.int .i64 cy] 23) (.cells #[.bool false,.slice none 0 0,.int .i64 0] 34)
  have b_k:=ux w (.cells #[.int .i64 ax,.int .i64 ay] 23) (.cells #[.int .i64 bx,.int .i64 by'] 23) (.cells #[.int .i64 cx,.int .i64 cy] 23) (.cells #[.bool false,.slice none 0 0,.int .i64 0] 34)
  have c_k:=uy w (.cells #[.int .i64 ax,.int .i64 ay] 23) (.cells #[.int .i64 bx,.int .i64 by'] 23) (.cells #[.int .i64 cx,.int .i64 cy] 23) (.cells #[.bool false,.slice none 0 0,.int .i64 0] 34)
  have r_k:=uz w (.cells #[.int .i64 ax,.int .i64 ay] 23) (.cells #[.int .i64 bx,.int .i64 by'] 23) (.cells #[.int .i64 cx,.int .i64 cy] 23) (.cells #[.bool false,.slice none 0 0,.int .i64 0] 34)
  go_enter Tryz.func16,Tryz.ntmps16
  go_wp2_with fail
  rename_i Q0 K00 hK00
  generalize (((w.alloc (.cells #[.int .i64 ax,.int .i64 ay] 23)).alloc (.cells #[.int .i64 bx,.int .i64 by'] 23)).alloc (.cells #[.int .i64 cx,.int .i64 cy] 23)).alloc (.cells #[.bool false,.slice none 0 0,.int .i64 0] 34)=x0 at hb0 a_k b_k c_k r_k ⊢
  have H:=H.keeps hb0
  have hK1:=hK00
  have HN1:∀ (g:Nat) (x1:World) (t:Array Value) (l_g:Bool) (l_o:Option Addr) (l_n l_c:Nat) (l_e:Int) (l_V:Int),#[t.getD 0 undef,t.getD 1 undef,t.getD 2 undef,.pointer (some ⟨w.heap.size,0,none⟩),.pointer (some ⟨w.heap.size+1,0,none⟩),.pointer (some ⟨w.heap.size+1+1,0,none⟩),.pointer (some ⟨w.heap.size+1+1+1,0,none⟩),.pointer (some ⟨g,0,none⟩),t.getD 8 undef,t.getD 9 undef,t.getD 10 undef,t.getD 11 undef,t.getD 12 undef,t.getD 13 undef,t.getD 14 undef,t.getD 15 undef,t.getD 16 undef,t.getD 17 undef,t.getD 18 undef,t.getD 19 undef,t.getD 20 undef,t.getD 21 undef,t.getD 22 undef,t.getD 23 undef,t.getD 24 undef,t.getD 25 undef,t.getD 26 undef,t.getD 27 undef,t.getD 28 undef,t.getD 29 undef,t.getD 30 undef,t.getD 31 undef,t.getD 32 undef,t.getD 33 undef,t.getD 34 undef,t.getD 35 undef,t.getD 36 undef,t.getD 37 undef,t.getD 38 undef,t.getD 39 undef,t.getD 40 undef,t.getD 41 undef,t.getD 42 undef,t.getD 43 undef,t.getD 44 undef,t.getD 45 undef,t.getD 46 undef,t.getD 47 undef]=t->x0.heap.size<=g->x1.heap[g]?=some (.cells #[.bool l_g,.slice l_o l_n l_c,.int .i64 l_e] 34 (0,0))->Below x0.heap.size x0 x1->fG w.heap.size x1 l_V (.agg #[.bool l_g,.slice l_o l_n l_c,.int .i64 l_e])->l_V*2^4194304=a1*b2->Bd (2*(4000+1)) l_V->Exit.then K00 Q0 Exit.normal { tmps:=t,defers:=[] } x1:=by
    intro g_l x1 t l_g l_o l_n l_c l_e l_V ht l_ge l_k hw1 l_D l_E l_B
    obtain ⟨u1,hu⟩:∃ u:Nat->Value,t=#[u 0,u 1,u 2,.pointer (some ⟨w.heap.size,0,none⟩),.pointer (some ⟨w.heap.size+1,0,none⟩),.pointer (some ⟨w.heap.size+1+1,0,none⟩),.pointer (some ⟨w.heap.size+1+1+1,0,none⟩),.pointer (some ⟨g_l,0,none⟩),u 8,u 9,u 10,u 11,u 12,u 13,u 14,u 15,u 16,u 17,u 18,u 19,u 20,u 21,u 22,u 23,u 24,u 25,u 26,u 27,u 28,u 29,u 30,u 31,u 32,u 33,u 34,u 35,u 36,u 37,u 38,u 39,u 40,u 41,u 42,u 43,u 44,u 45,u 46,u 47]:=⟨fun k=>t.getD k undef,ht.symm⟩
    clear ht
    subst hu
    have H:=H.keeps hw1
    have a_k:=(hw1.block _ (Array.getElem?_eq_some_iff.1 a_k).1).trans a_k
    have b_k:=(hw1.block _ (Array.getElem?_eq_some_iff.1 b_k).1).trans b_k
    have c_k:=(hw1.block _ (Array.getElem?_eq_some_iff.1 c_k).1).trans c_k
    have r_k:=(hw1.block _ (Array.getElem?_eq_some_iff.1 r_k).1).trans r_k
    have hb1:=aa hb0 hw1
    go_wp2_with fail
    rename_i K2 hK2
    have HN2:∀ (g:Nat) (x2:World) (t:Array Value) (s_g:Bool) (s_o:Option Addr) (s_n s_c:Nat) (s_e:Int) (s_V:Int),#[t.getD 0 undef,t.getD 1 undef,t.getD 2 undef,.pointer (some ⟨w.heap.size,0,none⟩),.pointer (some ⟨w.heap.size+1,0,none⟩),.pointer (some ⟨w.heap.size+1+1,0,none⟩),.pointer (some ⟨w.heap.size+1+1+1,0,none⟩),.pointer (some ⟨g_l,0,none⟩),t.getD 8 undef,.pointer (some ⟨g,0,none⟩),t.getD 10 undef,t.getD 11 undef,t.getD 12 undef,t.getD 13 undef,t.getD 14 undef,t.getD 15 undef,t.getD 16 undef,t.getD 17 undef,t.getD 18 undef,t.getD 19 undef,t.getD 20 undef,t.getD 21 undef,t.getD 22 undef,t.getD 23 undef,t.getD 24 undef,t.getD 25 undef,t.getD 26 undef,t.getD 27 undef,t.getD 28 undef,t.getD 29 undef,t.getD 30 undef,t.getD 31 undef,t.getD 32 undef,t.getD 33 undef,t.getD 34 undef,t.getD 35 undef,t.getD 36 undef,t.getD 37 undef,t.getD 38 undef,t.getD 39 undef,t.getD 40 undef,t.getD 41 undef,t.getD 42 undef,t.getD 43 undef,t.getD 44 undef,t.getD 45 undef,t.getD 46 undef,t.getD 47 undef]=t->x1.heap.size<=g->x2.heap[g]?=some (.cells #[.bool s_g,.slice s_o s_n s_c,.int .i64 s_e] 34 (0,0))->Below x1.heap.size x1 x2->fG w.heap.size x2 s_V (.agg #[.bool s_g,.slice s_o s_n s_c,.int .i64 s_e])->s_V*2^4194304=a2*b1->Bd (2*(4000+1)) s_V->Exit.then K2 Q0 Exit.normal { tmps:=t,defers:=[] } x2:=by
      intro g_s x2 t s_g s_o s_n s_c s_e s_V ht s_ge s_k hw2 s_D s_E s_B
      obtain ⟨u2,hu⟩:∃ u:Nat->Value,t=#[u 0,u 1,u 2,.pointer (some ⟨w.heap.size,0,none⟩),.pointer (some ⟨w.heap.size+1,0,none⟩),.pointer (some ⟨w.heap.size+1+1,0,none⟩),.pointer (some ⟨w.heap.size+1+1+1,0,none⟩),.pointer (some ⟨g_l,0,none⟩),u 8,.pointer (some ⟨g_s,0,none⟩),u 10,u 11,u 12,u 13,u 14,u 15,u 16,u 17,u 18,u 19,u 20,u 21,u 22,u 23,u 24,u 25,u 26,u 27,u 28,u 29,u 30,u 31,u 32,u 33,u 34,u 35,u 36,u 37,u 38,u 39,u 40,u 41,u 42,u 43,u 44,u 45,u 46,u 47]:=⟨fun k=>t.getD k undef,ht.symm⟩
      clear ht
      subst hu
      have H:=H.keeps hw2
      have a_k:=(hw2.block _ (Array.getElem?_eq_some_iff.1 a_k).1).trans a_k
      have b_k:=(hw2.block _ (Array.getElem?_eq_some_iff.1 b_k).1).trans b_k
      have c_k:=(hw2.block _ (Array.getElem?_eq_some_iff.1 c_k).1).trans c_k
      have r_k:=(hw2.block _ (Array.getElem?_eq_some_iff.1 r_k).1).trans r_k
      have l_k:=(hw2.block _ (Array.getElem?_eq_some_iff.1 l_k).1).trans l_k
      have l_D:=l_D.keeps hw2
      have hb2:=aa hb1 hw2
      have f_l0:=ac l_k 0 rfl
      have f_l1:=ac l_k 1 rfl
      have f_l2:=ac l_k 2 rfl
      have f_s0:=ac s_k 0 rfl
      have f_s1:=ac s_k 1 rfl
      have f_s2:=ac s_k 2 rfl
      go_wp2_with fail
      clear f_l0 f_l1 f_l2 f_s0 f_s1 f_s2
      have hs0:=(Array.getElem?_eq_some_iff.1 r_k).1
      refine (If l_D.num s_D.num l_B s_B (by omega) H.tab).mono ?_
      rintro _ y3 ⟨v,rfl,h3⟩
      obtain ⟨n_g,n_o,n_n,n_c,n_e,rfl⟩:=bW h3
      have hw3:=h3.below
      have n_D:=h3.num
      have H:=H.keeps hw3
      have a_k:=(hw3.block _ (Array.getElem?_eq_some_iff.1 a_k).1).trans a_k
      have b_k:=(hw3.block _ (Array.getElem?_eq_some_iff.1 b_k).1).trans b_k
      have c_k:=(hw3.block _ (Array.getElem?_eq_some_iff.1 c_k).1).trans c_k
      have r_k:=(hw3.block _ (Array.getElem?_eq_some_iff.1 r_k).1).trans r_k
      have l_k:=(hw3.block _ (Array.getElem?_eq_some_iff.1 l_k).1).trans l_k
      have l_D:=l_D.keeps hw3
      have s_k:=(hw3.block _ (Array.getElem?_eq_some_iff.1 s_k).1).trans s_k
      have s_D:=s_D.keeps hw3
      have hb3:=aa hb2 hw3
      have r_k:=az (.cells #[.bool n_g,.slice n_o n_n n_c,.int .i64 n_e] 34) r_k
      have k0:=ac r_k 0 rfl
      have k1:=ac r_k 1 rfl
      have k2:=ac r_k 2 rfl
      have z0:=aw r_k 0
      have z1:=aw r_k 1
      have z2:=aw r_k 2
      go_wp2
      refine bodyPost_ret (v:=.agg #[.bool n_g,.slice n_o n_n n_c,.int .i64 n_e]) (by simp [results,Tryz.results16,go_sem,k0,k1,k2]) rfl ⟨_,l_V-s_V,rfl,?_,⟨l_V,s_V,l_E,s_E,rfl⟩,?_⟩
      · exact dY (g:=w.heap.size+3) (v9 h3 _) (by assumption) (by omega) hs0 _ _ _
      · exact (l_B.sub s_B (by decide)).up (by decide) (by decide)
    have KK2:∀ W,Below x1.heap.size x1 W->W.cell? ⟨w.heap.size,1,none⟩=some (.int .i64 ay)∧W.cell? ⟨w.heap.size+2,1,none⟩=some (.int .i64 cy)∧W.cell? ⟨w.heap.size+1,0,none⟩=some (.int .i64 bx)∧W.cell? ⟨w.heap.size+2,0,none⟩=some (.int .i64 cx):=fun W hb=>⟨aF (ac a_k 1 rfl) hb,aF (ac c_k 1 rfl) hb,aF (ac b_k 0 rfl) hb,aF (ac c_k 0 rfl) hb⟩
    have hC2_0:=(aA x1).drew
    have hT2_0:Below w.heap.size w x1.drew:=hb1.drew
    have H_2_0:=H.keeps (aA x1).drew
    have hs2_0:=(aA x1).drew
    go_region_held3 (fun W=>W.cell? ⟨w.heap.size,1,none⟩=some (.int .i64 ay)∧W.cell? ⟨w.heap.size+2,1,none⟩=some (.int .i64 cy)∧W.cell? ⟨w.heap.size+1,0,none⟩=some (.int .i64 bx)∧W.cell? ⟨w.heap.size+2,0,none⟩=some (.int .i64 cx))
      (first | assumption | exact KK2 _ hC2_0 | exact KK2 _ hC2_1 | exact KK2 _ hC2_2 | exact KK2 _ hC2_3 | exact KK2 _ (aa hC2_0 (ah _ _)) | exact KK2 _ (aa hC2_1 (ah _ _)) | exact KK2 _ (aa hC2_2 (ah _ _)) | exact KK2 _ (aa hC2_3 (ah _ _)) | exact KK2 _ (bC hC2_3 (Nat.le_refl _) _ _ _) | exact KK2 _ (bC hC2_3 hC2_1.size _ _ _) | exact KK2 _ (bC hC2_3 hC2_2.size _ _ _) | fail)
      (first
        | (go_at_call 34; have _t:=hs2_2; refine (Ig (np2.keeps (by first | exact aA _ | exact ah _ _)) (nb2.num.keeps (by first | exact aA _ | exact ah _ _)) B3 B4 (by omega) (H_2_2.keeps (by first | exact aA _ | exact ah _ _)).tab).mono ?_; rintro _ y2_3 ⟨v,s_V,rfl,nm2,s_E,s_B⟩; obtain ⟨s_g,s_o,s_n,s_c,s_e,rfl⟩:=bW nm2; have hq2_3:=nm2.below; have s_A:=nm2.dan.lower (Nat.le_trans hT2_2.size (by first | exact Nat.le_refl _ | exact (ah _ _).size)); have hs2_3:Below y2_2.heap.size y2_2 y2_3:=(by first | exact hq2_3 | exact aa (ah _ _) hq2_3); have hT2_3:=aa hT2_2 hs2_3; have hC2_3:=aa hC2_2 hs2_3; have H_2_3:=H_2_2.keeps hs2_3; first | (have qz2:y2_3.heap[x1.heap.size]?=some (.cells #[.bool false,.slice none 0 0,.int .i64 0] 34 (0,0)):=am hq2_3 (am hq2_2 (am hq2_1 (aB x1 (.cells #[.bool false,.slice none 0 0,.int .i64 0] 34)))); have cz2_0:=ac qz2 0 rfl; have zz2_0:=aw qz2 0; have cz2_1:=ac qz2 1 rfl; have zz2_1:=aw qz2 1; have cz2_2:=ac qz2 2 rfl; have zz2_2:=aw qz2 2) | (have qz2:y2_3.heap[y2_1.heap.size]?=some (.cells #[.bool false,.slice none 0 0,.int .i64 0] 34 (0,0)):=am hq2_3 (am hq2_2 (aB _ _)); have cz2_0:=ac qz2 0 rfl; have zz2_0:=aw qz2 0; have cz2_1:=ac qz2 1 rfl; have zz2_1:=aw qz2 1; have cz2_2:=ac qz2 2 rfl; have zz2_2:=aw qz2 2) | (have qz2:y2_3.heap[y2_2.heap.size]?=some (.cells #[.bool false,.slice none 0 0,.int .i64 0] 34 (0,0)):=am hq2_3 (aB _ _); have cz2_0:=ac qz2 0 rfl; have zz2_0:=aw qz2 0; have cz2_1:=ac qz2 1 rfl; have zz2_1:=aw qz2 1; have cz2_2:=ac qz2 2 rfl; have zz2_2:=aw qz2 2) | skip)
        | (go_at_call 35; have _t:=hs2_1; refine (A4.out _ (H_2_1.keeps (by first | exact aA _ | exact ah _ _))).mono ?_; rintro _ y2_2 ⟨v,rfl,nb2⟩; obtain ⟨q_g,q_o,q_n,q_c,q_e,rfl⟩:=bW nb2; have hq2_2:=nb2.below; have hs2_2:Below y2_1.heap.size y2_1 y2_2:=(by first | exact hq2_2 | exact aa (ah _ _) hq2_2); have hT2_2:=aa hT2_1 hs2_2; have hC2_2:=aa hC2_1 hs2_2; have H_2_2:=H_2_1.keeps hs2_2; have np2:=na2.num.keeps hs2_2)
        | (go_at_call 35; refine (A3.out _ (H_2_0.keeps (by first | exact aA _ | exact ah _ _))).mono ?_; rintro _ y2_1 ⟨v,rfl,na2⟩; obtain ⟨p_g,p_o,p_n,p_c,p_e,rfl⟩:=bW na2; have hq2_1:=na2.below; have hs2_1:Below x1.drew.heap.size x1.drew y2_1:=(by first | exact hq2_1 | exact aa (ah _ _) hq2_1); have hT2_1:=aa hT2_0 hs2_1; have hC2_1:=aa hC2_0 hs2_1; have H_2_1:=H_2_0.keeps hs2_1))
    · exact HN2 y2_3.heap.size _ _ _ _ _ _ _ s_V (by kernel_rfl) ((aa (aa (aa (hs2_0) hs2_1) hs2_2) hs2_3).size) (aB _ _) (aa (aa (aa (aa (hs2_0) hs2_1) hs2_2) hs2_3) (ah _ _)) (s_A.keeps (ah _ _)) s_E s_B
    · exact HN2 y2_2.heap.size _ _ _ _ _ _ _ s_V (by kernel_rfl) ((aa (aa (hs2_0) hs2_1) hs2_2).size) (aE (aE (aE (am hq2_3 (aB _ _)) 0 _) 1 _) 2 _) (bC (aa (aa (aa (hs2_0) hs2_1) hs2_2) hs2_3) ((aa (aa (hs2_0) hs2_1) hs2_2).size) _ _ _) (fK s_A (am hq2_3 (aB _ _)) _ _ _) s_E s_B
    · exact HN2 y2_1.heap.size _ _ _ _ _ _ _ s_V (by kernel_rfl) ((aa (hs2_0) hs2_1).size) (aE (aE (aE (am hq2_3 (am hq2_2 (aB _ _))) 0 _) 1 _) 2 _) (bC (aa (aa (aa (hs2_0) hs2_1) hs2_2) hs2_3) ((aa (hs2_0) hs2_1).size) _ _ _) (fK s_A (am hq2_3 (am hq2_2 (aB _ _))) _ _ _) s_E s_B
    · exact HN2 x1.heap.size _ _ _ _ _ _ _ s_V (by kernel_rfl) (Nat.le_refl _) (aE (aE (aE (am hq2_3 (am hq2_2 (am hq2_1 (aB x1 (.cells #[.bool false,.slice none 0 0,.int .i64 0] 34))))) 0 _) 1 _) 2 _) (bC (aa (aa (aa (hs2_0) hs2_1) hs2_2) hs2_3) (Nat.le_refl _) _ _ _) (fK s_A (am hq2_3 (am hq2_2 (am hq2_1 (aB x1 (.cells #[.bool false,.slice none 0 0,.int .i64 0] 34))))) _ _ _) s_E s_B
  have KK1:∀ W,Below x0.heap.size x0 W->W.cell? ⟨w.heap.size,0,none⟩=some (.int .i64 ax)∧W.cell? ⟨w.heap.size+2,0,none⟩=some (.int .i64 cx)∧W.cell? ⟨w.heap.size+1,1,none⟩=some (.int .i64 by')∧W.cell? ⟨w.heap.size+2,1,none⟩=some (.int .i64 cy):=fun W hb=>⟨aF (ac a_k 0 rfl) hb,aF (ac c_k 0 rfl) hb,aF (ac b_k 1 rfl) hb,aF (ac c_k 1 rfl) hb⟩
  have hC1_0:=(aA x0).drew
  have hT1_0:Below w.heap.size w x0.drew:=hb0.drew
  have H_1_0:=H.keeps (aA x0).drew
  have hs1_0:=(aA x0).drew
  go_region_held3 (fun W=>W.cell? ⟨w.heap.size,0,none⟩=some (.int .i64 ax)∧W.cell? ⟨w.heap.size+2,0,none⟩=some (.int .i64 cx)∧W.cell? ⟨w.heap.size+1,1,none⟩=some (.int .i64 by')∧W.cell? ⟨w.heap.size+2,1,none⟩=some (.int .i64 cy))
    (first | assumption | exact KK1 _ hC1_0 | exact KK1 _ hC1_1 | exact KK1 _ hC1_2 | exact KK1 _ hC1_3 | exact KK1 _ (aa hC1_0 (ah _ _)) | exact KK1 _ (aa hC1_1 (ah _ _)) | exact KK1 _ (aa hC1_2 (ah _ _)) | exact KK1 _ (aa hC1_3 (ah _ _)) | exact KK1 _ (bC hC1_3 (Nat.le_refl _) _ _ _) | exact KK1 _ (bC hC1_3 hC1_1.size _ _ _) | exact KK1 _ (bC hC1_3 hC1_2.size _ _ _) | fail)
    (first
      | (go_at_call 34; have _t:=hs1_2; refine (Ig (np1.keeps (by first | exact aA _ | exact ah _ _)) (nb1.num.keeps (by first | exact aA _ | exact ah _ _)) B1 B2 (by omega) (H_1_2.keeps (by first | exact aA _ | exact ah _ _)).tab).mono ?_; rintro _ y1_3 ⟨v,l_V,rfl,nm1,l_E,l_B⟩; obtain ⟨l_g,l_o,l_n,l_c,l_e,rfl⟩:=bW nm1; have hq1_3:=nm1.below; have l_A:=nm1.dan.lower (Nat.le_trans hT1_2.size (by first | exact Nat.le_refl _ | exact (ah _ _).size)); have hs1_3:Below y1_2.heap.size y1_2 y1_3:=(by first | exact hq1_3 | exact aa (ah _ _) hq1_3); have hT1_3:=aa hT1_2 hs1_3; have hC1_3:=aa hC1_2 hs1_3; have H_1_3:=H_1_2.keeps hs1_3; first | (have qz1:y1_3.heap[x0.heap.size]?=some (.cells #[.bool false,.slice none 0 0,.int .i64 0] 34 (0,0)):=am hq1_3 (am hq1_2 (am hq1_1 (aB x0 (.cells #[.bool false,.slice none 0 0,.int .i64 0] 34)))); have cz1_0:=ac qz1 0 rfl; have zz1_0:=aw qz1 0; have cz1_1:=ac qz1 1 rfl; have zz1_1:=aw qz1 1; have cz1_2:=ac qz1 2 rfl; have zz1_2:=aw qz1 2) | (have qz1:y1_3.heap[y1_1.heap.size]?=some (.cells #[.bool false,.slice none 0 0,.int .i64 0] 34 (0,0)):=am hq1_3 (am hq1_2 (aB _ _)); have cz1_0:=ac qz1 0 rfl; have zz1_0:=aw qz1 0; have cz1_1:=ac qz1 1 rfl; have zz1_1:=aw qz1 1; have cz1_2:=ac qz1 2 rfl; have zz1_2:=aw qz1 2) | (have qz1:y1_3.heap[y1_2.heap.size]?=some (.cells #[.bool false,.slice none 0 0,.int .i64 0] 34 (0,0)):=am hq1_3 (aB _ _); have cz1_0:=ac qz1 0 rfl; have zz1_0:=aw qz1 0; have cz1_1:=ac qz1 1 rfl; have zz1_1:=aw qz1 1; have cz1_2:=ac qz1 2 rfl; have zz1_2:=aw qz1 2) | skip)
      | (go_at_call 35; have _t:=hs1_1; refine (A2.out _ (H_1_1.keeps (by first | exact aA _ | exact ah _ _))).mono ?_; rintro _ y1_2 ⟨v,rfl,nb1⟩; obtain ⟨q_g,q_o,q_n,q_c,q_e,rfl⟩:=bW nb1; have hq1_2:=nb1.below; have hs1_2:Below y1_1.heap.size y1_1 y1_2:=(by first | exact hq1_2 | exact aa (ah _ _) hq1_2); have hT1_2:=aa hT1_1 hs1_2; have hC1_2:=aa hC1_1 hs1_2; have H_1_2:=H_1_1.keeps hs1_2; have np1:=na1.num.keeps hs1_2)
      | (go_at_call 35; refine (A1.out _ (H_1_0.keeps (by first | exact aA _ | exact ah _ _))).mono ?_; rintro _ y1_1 ⟨v,rfl,na1⟩; obtain ⟨p_g,p_o,p_n,p_c,p_e,rfl⟩:=bW na1; have hq1_1:=na1.below; have hs1_1:Below x0.drew.heap.size x0.drew y1_1:=(by first | exact hq1_1 | exact aa (ah _ _) hq1_1); have hT1_1:=aa hT1_0 hs1_1; have hC1_1:=aa hC1_0 hs1_1; have H_1_1:=H_1_0.keeps hs1_1))
  · exact HN1 y1_3.heap.size _ _ _ _ _ _ _ l_V (by kernel_rfl) ((aa (aa (aa (hs1_0) hs1_1) hs1_2) hs1_3).size) (aB _ _) (aa (aa (aa (aa (hs1_0) hs1_1) hs1_2) hs1_3) (ah _ _)) (l_A.keeps (ah _ _)) l_E l_B
  · exact HN1 y1_2.heap.size _ _ _ _ _ _ _ l_V (by kernel_rfl) ((aa (aa (hs1_0) hs1_1) hs1_2).size) (aE (aE (aE (am hq1_3 (aB _ _)) 0 _) 1 _) 2 _) (bC (aa (aa (aa (hs1_0) hs1_1) hs1_2) hs1_3) ((aa (aa (hs1_0) hs1_1) hs1_2).size) _ _ _) (fK l_A (am hq1_3 (aB _ _)) _ _ _) l_E l_B
  · exact HN1 y1_1.heap.size _ _ _ _ _ _ _ l_V (by kernel_rfl) ((aa (hs1_0) hs1_1).size) (aE (aE (aE (am hq1_3 (am hq1_2 (aB _ _))) 0 _) 1 _) 2 _) (bC (aa (aa (aa (hs1_0) hs1_1) hs1_2) hs1_3) ((aa (hs1_0) hs1_1).size) _ _ _) (fK l_A (am hq1_3 (am hq1_2 (aB _ _))) _ _ _) l_E l_B
  · exact HN1 x0.heap.size _ _ _ _ _ _ _ l_V (by kernel_rfl) (Nat.le_refl _) (aE (aE (aE (am hq1_3 (am hq1_2 (am hq1_1 (aB x0 (.cells #[.bool false,.slice none 0 0,.int .i64 0] 34))))) 0 _) 1 _) 2 _) (bC (aa (aa (aa (hs1_0) hs1_1) hs1_2) hs1_3) (Nat.le_refl _) _ _ _) (fK l_A (am hq1_3 (am hq1_2 (am hq1_1 (aB x0 (.cells #[.bool false,.slice none 0 0,.int .i64 0] 34))))) _ _ _) l_E l_B
theorem IC (w:World) (o0 o1 o2:Obj):Below w.heap.size w (((w.alloc o0).alloc o1).alloc o2)∧(((w.alloc o0).alloc o1).alloc o2).heap[w.heap.size]?=some o0∧(((w.alloc o0).alloc o1).alloc o2).heap[w.heap.size+1]?=some o1∧(((w.alloc o0).alloc o1).alloc o2).heap[w.heap.size+1+1]?=some o2∧(((w.alloc o0).alloc o1).alloc o2).heap.size=w.heap.size+1+1+1 :=
 ⟨aa (aa (ah w o0) (ah (w.alloc o0) o1)) (ah ((w.alloc o0).alloc o1) o2),az o2 (az o1 (bJ o0 (by rfl))),az o2 (bJ o1 (by simp only [a8])),bJ o2 (by simp only [a8]),by simp only [a8]⟩
theorem tV (w:World) (o0 o1 o2 o3:Obj):Below w.heap.size w ((((w.alloc o0).alloc o1).alloc o2).alloc o3)∧((((w.alloc o0).alloc o1).alloc o2).alloc o3).heap[w.heap.size]?=some o0∧((((w.alloc o0).alloc o1).alloc o2).alloc o3).heap[w.heap.size+1]?=some o1∧((((w.alloc o0).alloc o1).alloc o2).alloc o3).heap[w.heap.size+1+1]?=some o2∧((((w.alloc o0).alloc o1).alloc o2).alloc o3).heap[w.heap.size+1+1+1]?=some o3∧((((w.alloc o0).alloc o1).alloc o2).alloc o3).heap.size=w.heap.size+1+1+1+1 :=
 ⟨aa (aa (aa (ah w o0) (ah (w.alloc o0) o1)) (ah ((w.alloc o0).alloc o1) o2)) (ah (((w.alloc o0).alloc o1).alloc o2) o3),az o3 (az o2 (az o1 (bJ o0 (by rfl)))),az o3 (az o2 (bJ o1 (by simp only [a8]))),az o3 (bJ o2 (by simp only [a8])),bJ o3 (by simp only [a8]),by simp only [a8]⟩
theorem MQ (w:World) (o0 o1 o2 o3 o4:Obj):Below w.heap.size w (((((w.alloc o0).alloc o1).alloc o2).alloc o3).alloc o4)∧(((((w.alloc o0).alloc o1).alloc o2).alloc o3).alloc o4).heap[w.heap.size]?=some o0∧(((((w.alloc o0).alloc o1).alloc o2).alloc o3).alloc o4).heap[w.heap.size+1]?=some o1∧(((((w.alloc o0).alloc o1).alloc o2).alloc o3).alloc o4).heap[w.heap.size+1+1]?=some o2∧(((((w.alloc o0).alloc o1).alloc o2).alloc o3).alloc o4).heap[w.heap.size+1+1+1]?=some o3∧(((((w.alloc o0).alloc o1).alloc o2).alloc o3).alloc o4).heap[w.heap.size+1+1+1+1]?=some o4∧(((((w.alloc o0).alloc o1).alloc o2).alloc o3).alloc o4).heap.size=w.heap.size+1+1+1+1+1 :=
 ⟨aa (aa (aa (aa (ah w o0) (ah (w.alloc o0) o1)) (ah ((w.alloc o0).alloc o1) o2)) (ah (((w.alloc o0).alloc o1).alloc o2) o3)) (ah ((((w.alloc o0).alloc o1).alloc o2).alloc o3) o4),az o4 (az o3 (az o2 (az o1 (bJ o0 (by rfl))))),az o4 (az o3 (az o2 (bJ o1 (by simp only [a8])))),az o4 (az o3 (bJ o2 (by simp only [a8]))),az o4 (bJ o3 (by simp only [a8])),bJ o4 (by simp only [a8]),by simp only [a8]⟩
theorem mB:wd 0=0:=by decide
def qB (p:Int):Int:=bz (au p) 0
theorem B9 {p:Int} (hp:aj p) (h:ak p=true):FloatKind.f64.format.order (wd p) (wd p)=some .eq:=fJ hp hp (aS h) (aS h) rfl
theorem ES {p:Int} (hp:aj p) (h:ak p=true) (w:World) :
  Calls Tryz.prog 47 #[.float .f64 (wd p)] w fun r w'=>r=.returned (.bool false)∧w'=w:=by
 have e:=B9 hp h
 go_enter Tryz.func47,Tryz.ntmps47
 go_wp2
 go_ret
 exact ⟨rfl,rfl⟩
theorem pe {p:Int} (hp:aj p) (h:ak p=true) (w:World) :
    Calls Tryz.prog 27 #[.float .f64 (wd p),.float .f64 0] w fun r w'=>r=.returned (.int .i64 (qB p))∧w'=w:=by
  have r0:aj 0:=by unfold aj; decide
  have p0:ak 0=true:=by decide
  have C1:Hid (∀ W,Calls Tryz.prog 47 #[.float .f64 (wd p)] W fun r w'=>r=.returned (.bool false)∧w'=W):=fun W=>ES hp h W
  have C2:Hid (∀ W,Calls Tryz.prog 47 #[.float .f64 0] W fun r w'=>r=.returned (.bool false)∧w'=W):=fun W=>by
    have:=ES r0 p0 W
    rw [mB] at this
    exact this
  have k0:au 0=0:=by decide
  have hord:(FloatKind.f64.format.order (wd p) 0=some .lt∧qB p=-1)∨(FloatKind.f64.format.order (wd p) 0=some .gt∧qB p=1)∨(FloatKind.f64.format.order (wd p) 0=some .eq∧qB p=0):=by
    unfold qB bz
    rcases Int.lt_trichotomy (au p) 0 with g | g | g
    · exact .inl ⟨by have:=fR hp r0 (aS h) (aS p0) (by rw [k0]; exact g); rw [mB] at this; exact this,by first | simp [g] | (rw [if_pos g])⟩
    · exact .inr (.inr ⟨by have:=fJ hp r0 (aS h) (aS p0) (by rw [k0]; exact g); rw [mB] at this; exact this,by rw [g]; decide⟩)
    · exact .inr (.inl ⟨by have:=fU hp r0 (aS h) (aS p0) (by rw [k0]; exact g); rw [mB] at this; exact this,by
        have:¬ au p<0:=by omega
        simp [this,g]⟩)
  clear hp h r0 p0 k0
  generalize qB p=s at *
  generalize wd p=P at *
  rcases hord with ⟨ho,rfl⟩ | ⟨ho,rfl⟩ | ⟨ho,rfl⟩
  all_goals
    go_enter Tryz.func27,Tryz.ntmps27
    go_wp2_with fail
    refine (C1.out _).mono ?_
    rintro _ wz ⟨rfl,hwz⟩
    replace hwz:=hwz.symm
    subst hwz
    go_wp2_with fail
    refine (C2.out _).mono ?_
    rintro _ wz ⟨rfl,hwz⟩
    replace hwz:=hwz.symm
    subst hwz
    go_wp2
    go_ret
    exact ⟨rfl,rfl⟩
theorem XR.from {w0 w w':World} {ok:Bool} {s:Ls} {r:Ending} (h:XR w ok s r w') (hb:Below w0.heap.size w0 w):XR w0 ok s r w':=by
 obtain ⟨h1,h2⟩:=h
 refine ⟨?_,aa hb h2⟩
 rcases h1 with ⟨a,v,b,c⟩ | h
 ·exact .inl ⟨a,v,b,c.lower hb.size⟩
 ·exact .inr h
def ls (f:Nat->Int) (k:Nat):Nat->Int:=fun i=>if i<k then neg (f i) else f i
theorem J0 (f:Nat->Int) (k:Nat):b7 (ls f k) k (neg (f k))=ls f (k+1):=by
 funext i
 by_cases e:i=k
 ·subst e; rw [bt]; unfold ls; rw [if_pos (by omega)]
 ·rw [aV _ _ e]; unfold ls
  by_cases h:i<k
  ·rw [if_pos h,if_pos (by omega)]
  ·rw [if_neg h,if_neg (by omega)]
theorem ET {eo fo:Option Addr} {n ec m fc:Nat} {d f:Nat->Int} (w:World) (h:aQ w eo n ec d) (hf:aQ w fo m fc f) (hd:∀ i,i<n->aj (d i)∧ak (d i)=true) (hff:∀ i,i<m->aj (f i)∧ak (f i)=true) (hn:n+m<=600000) (H:aD w) :
  Calls Tryz.prog 72 #[.slice eo n ec,.slice fo m fc] w fun r w'=>XR w (cO ⟨n,d⟩ (fun i=>neg (f i)) m) (bX ⟨n,d⟩ (fun i=>neg (f i)) m) r w':=by
 have CO:=xZ w hf (by omega)
 have HF:Hid (∀ i,i<m->aj (f i)∧ak (f i)=true):=hff
 have HH:Hid (aD w):=H
 have CS:Hid (∀ W vo vc,Below w.heap.size w W->aQ W vo m vc (fun i=>neg (f i))->Calls Tryz.prog 107 #[.slice eo n ec,.slice vo m vc] W fun r w'=>XR w (cO ⟨n,d⟩ (fun i=>neg (f i)) m) (bX ⟨n,d⟩ (fun i=>neg (f i)) m) r w'):=fun W vo vc hW hR=>
  (Gw W (h.keeps hW) hR hd (fun i hi=>⟨aZ (hff i hi).1,(bS (hff i hi).1 (hff i hi).2).2.1⟩) (by omega)).mono fun _ _ hx=>hx.from hW
 generalize cO ⟨n,d⟩ (fun i=>neg (f i)) m=X at *
 generalize bX ⟨n,d⟩ (fun i=>neg (f i)) m=S at *
 clear h hf hff H hd
 go_enter Tryz.func72,Tryz.ntmps72
 go_wp2_with fail
 refine CO.mono ?_
 rintro _ w1 ⟨v,rfl,hL,hg⟩
 obtain ⟨ao,cc,rfl,hRR⟩:=hL.row
 have hcm:=hRR.max
 have hcl:=hRR.le
 have HL:Hid (gT w.heap.size w1 (.slice ao m cc) ⟨m,f⟩):=hL
 have HB1:Hid (Below w.heap.size w w1):=kV hg
 clear hL hg CO hRR
 go_wp2_with fail
 go_loopw [12] (fun iv wr=>∃ k:Nat,k<=m∧iv=.int .i64 k∧Hid (gT w.heap.size wr (.slice ao m cc) ⟨m,ls f k⟩)∧Hid (Below w.heap.size w wr)) (fun iv _=>m-(intOf iv).toNat)
 case atStart=>
  refine ⟨0,Nat.zero_le _,rfl,?_,HB1⟩
  have e:ls f 0=f:=by funext i; unfold ls; rw [if_neg (by omega)]
  rw [e]
  exact HL
 case round=>
  obtain ⟨k,hk,rfl,HLk,HBW⟩:=hrel
  clear HL HB1
  have hsz:=HBW.out.size
  by_cases hlt:k<m
  ·have hO:aX w.heap.size wr (.slice ao m cc) m (ls f k):=by
    rcases HLk.out with h | ⟨h0,_⟩
    ·exact h
    ·have h0':m=0:=h0
     omega
   obtain ⟨g,rfl,hg1,hg2⟩:=hO.spot (by omega)
   have c0:=hO.cell hlt
   have e0:ls f k k=f k:=by unfold ls; rw [if_neg (by omega)]
   rw [e0] at c0
   obtain ⟨rk,pk⟩:=HF.out k hlt
   have CN:Hid (∀ W,Below w.heap.size w W->Calls Tryz.prog 106 #[.int .i64 (f k)] W fun e w'=>e=.returned (.int .i64 (neg (f k)))∧Below W.heap.size W w'):=fun W hW=>(Ab _ W (HH.out.keeps hW).env.lays rk).mono fun _ _ ⟨h1,h2⟩=>⟨h1,h2.be⟩
   have HT:Hid (b7 (ls f k) k (neg (f k))=ls f (k+1)):=J0 f k
   have HO:Hid (aX w.heap.size wr (.slice (some ⟨g,0,none⟩) m cc) m (ls f k)):=hO
   clear hO e0 rk pk
   generalize neg (f k)=nk at *
   generalize f k=fk at *
   have i0:(0:Int)<=(k:Int):=by omega
   have i1:(k:Int)<(m:Int):=by omega
   go_wp2_with fail
   refine (CN.out _ HBW.out).mono ?_
   rintro _ w2 ⟨rfl,hb2⟩
   have hO2:=HO.out.stays hb2
   have c2:=hO2.cell hlt
   have fz:=hO2.frozen k
   have HO2:Hid (aX w.heap.size w2 (.slice (some ⟨g,0,none⟩) m cc) m (ls f k)):=hO2
   have HB2:Hid (Below w.heap.size w w2):=HBW.out.trans (hb2.mono hsz)
   clear hO2 hb2
   generalize ls f k k=tk at *
   go_wp2
   go_roundw
   case rel=>
    refine ⟨k+1,by omega,by go_num,?_,HB2.out.setCell hg1 _⟩
    have:=HO2.out.store hlt nk
    rw [HT.out] at this
    exact .inl this
   case measure=>simp [intOf]; omega
  ·obtain rfl:k=m:=by omega
   obtain ⟨ao',cc',e1,hR⟩:=HLk.out.row
   simp only [Value.slice.injEq] at e1
   obtain ⟨rfl,_,rfl⟩:=e1
   have hR2:aQ wr ao k cc (fun i=>neg (f i)):=hR.congr fun i hi=>by
    show ls f k i=_
    unfold ls
    rw [if_pos hi]
   clear hR
   go_wp2_with fail
   refine (CS.out _ _ _ HBW.out hR2).mono ?_
   rintro _ w2 ⟨(⟨h1,v',rfl,h3⟩ | ⟨h1,rfl⟩),h4⟩
   ·obtain ⟨ao',cc',rfl⟩:=h3.shape
    go_wp2
    go_ret
    exact ⟨.inl ⟨h1,_,rfl,h3⟩,h4⟩
   ·unfold ck
    go_wp2
    exact ⟨rfl,.inr ⟨h1,rfl⟩,h4⟩
theorem MR {eo fo:Option Addr} {n ec m fc:Nat} {d f:Nat->Int} (w:World) (h:aQ w eo n ec d) (hf:aQ w fo m fc f) (hr:∀ i,i<n->aj (d i)) (hrf:∀ i,i<m->aj (f i)) (hv:gJ d n=true) (hu:gJ f m=true) (hn:n+m<=300000) (H:aD w) :
  Calls Tryz.prog 45 #[.slice eo n ec,.slice fo m fc] w fun r w'=>XA w (cO ⟨n,d⟩ (fun i=>neg (f i)) m) (bX ⟨n,d⟩ (fun i=>neg (f i)) m) r w':=by
 have hEG:∀ (cap:Array Value) (w:World),(callFunc 72 cap).run Tryz.prog w=.ok (.enter 72 cap) w:=by
  intro cap w
  simp [go_sem]
 have hd:∀ i,i<n->aj (d i)∧ak (d i)=true:=fun i hi=>⟨hr i hi,ms hv i hi⟩
 have hff:∀ i,i<m->aj (f i)∧ak (f i)=true:=fun i hi=>⟨hrf i hi,ms hu i hi⟩
 have CW:=D8 72 w (cO ⟨n,d⟩ (fun i=>neg (f i)) m) (bX ⟨n,d⟩ (fun i=>neg (f i)) m) hEG h hf hv hu H (fun W hW=>ET W (h.keeps hW) (hf.keeps hW) hd hff (by omega) (H.keeps hW))
 generalize cO ⟨n,d⟩ (fun i=>neg (f i)) m=X at *
 generalize bX ⟨n,d⟩ (fun i=>neg (f i)) m=S at *
 go_enter Tryz.func45,Tryz.ntmps45
 go_wp2_with fail
 refine CW.mono ?_
 rintro _ w1 ⟨(⟨h1,v,rfl,h2⟩ | ⟨h1,rfl⟩),hb⟩
 ·obtain ⟨ao,cc,rfl⟩:=h2.shape
  go_wp2
  refine bodyPost_ret (v:=.tuple #[.slice ao S.n cc,.int .i64 0]) (by simp [results,Tryz.results45,go_sem]) rfl ⟨.inl ⟨h1,_,rfl,h2⟩,hb⟩
 ·go_wp2
  refine bodyPost_ret (v:=.tuple #[.slice none 0 0,.int .i64 14]) (by simp [results,Tryz.results45,go_sem]) rfl ⟨.inr ⟨h1,rfl⟩,hb⟩
theorem Hb {eo fo:Option Addr} {n ec m fc:Nat} {d f:Nat->Int} (w:World) (h:aQ w eo n ec d) (hf:aQ w fo m fc f) (hr:∀ i,i<n->aj (d i)) (hrf:∀ i,i<m->aj (f i)) (hv:gJ d n=true) (hu:gJ f m=true) (hn:n<=200) (hm:m<=200) (H:aD w) :
  Calls Tryz.prog 43 #[.slice eo n ec,.slice fo m fc] w fun r w'=>XA w (jw d n f m) (gz d n f m) r w':=by
 have hEG:∀ (cap:Array Value) (w:World),(callFunc 70 cap).run Tryz.prog w=.ok (.enter 70 cap) w:=by
  intro cap w
  simp [go_sem]
 have hd:∀ i,i<n->aj (d i)∧ak (d i)=true:=fun i hi=>⟨hr i hi,ms hv i hi⟩
 have hff:∀ i,i<m->aj (f i)∧ak (f i)=true:=fun i hi=>⟨hrf i hi,ms hu i hi⟩
 have CW:=D8 70 w (jw d n f m) (gz d n f m) hEG h hf hv hu H (fun W hW=>yr W (h.keeps hW) (hf.keeps hW) hd hff hn hm (H.keeps hW))
 generalize jw d n f m=X at *
 generalize gz d n f m=S at *
 go_enter Tryz.func43,Tryz.ntmps43
 go_wp2_with fail
 refine CW.mono ?_
 rintro _ w1 ⟨(⟨h1,v,rfl,h2⟩ | ⟨h1,rfl⟩),hb⟩
 ·obtain ⟨ao,cc,rfl⟩:=h2.shape
  go_wp2
  refine bodyPost_ret (v:=.tuple #[.slice ao S.n cc,.int .i64 0]) (by simp [results,Tryz.results43,go_sem]) rfl ⟨.inl ⟨h1,_,rfl,h2⟩,hb⟩
 ·go_wp2
  refine bodyPost_ret (v:=.tuple #[.slice none 0 0,.int .i64 14]) (by simp [results,Tryz.results43,go_sem]) rfl ⟨.inr ⟨h1,rfl⟩,hb⟩
theorem mT {p:Int} (h:ak p=true):aR p=p:=by unfold aR; rw [if_neg (aS h)]
theorem J1 {p q:Int} (hp:Mz p) (hq:Mz q) (w:World) (H:aD w) :
  Calls Tryz.prog 65 #[.int .i64 p,.int .i64 q] w fun r w'=>r=.returned (.tuple #[.float .f64 (wd (ap p (neg q))),.float .f64 (wd (sL p (neg q)))])∧Below w.heap.size w w':=by
 obtain ⟨n1,n2,n3⟩:=bS hq.1 hq.2.1
 have CT:Hid (∀ W,aD W->Calls Tryz.prog 93 #[.int .i64 p,.int .i64 q] W fun e w'=>e=.returned (.tuple #[.int .i64 (ap p (neg q)),.int .i64 (sL p (neg q)),.bool (ak (sL p (neg q)))])∧Below W.heap.size W w'):=fun W h=>by
  have:=zF hp.1 hq.1 W h.env.lays
  rw [mT hp.2.1,mT n2] at this
  exact this
 have C1:Hid (∀ W,Calls Tryz.prog 20 #[.int .i64 (ap p (neg q))] W fun e w'=>e=.returned (.float .f64 (wd (ap p (neg q))))∧w'=W):=fun W=>aW _ W
 have C2:Hid (∀ W,Calls Tryz.prog 20 #[.int .i64 (sL p (neg q))] W fun e w'=>e=.returned (.float .f64 (wd (sL p (neg q))))∧w'=W):=fun W=>aW _ W
 clear hp hq n1 n2 n3
 generalize wd (ap p (neg q))=Wa at *
 generalize wd (sL p (neg q))=Wb at *
 generalize ak (sL p (neg q))=Wc at *
 generalize ap p (neg q)=a at *
 generalize sL p (neg q)=b at *
 go_enter Tryz.func65,Tryz.ntmps65
 go_wp2_with fail
 refine (CT.out _ H).mono ?_
 rintro _ y1 ⟨rfl,hw1⟩
 go_wp2_with fail
 refine (C1.out _).mono ?_
 rintro _ wz ⟨rfl,hwz⟩
 replace hwz:=hwz.symm
 subst hwz
 go_wp2_with fail
 refine (C2.out _).mono ?_
 rintro _ wz ⟨rfl,hwz⟩
 replace hwz:=hwz.symm
 subst hwz
 go_wp2
 exact bodyPost_ret (v:=.tuple #[.float .f64 Wa,.float .f64 Wb]) (by simp [results,Tryz.results65,go_sem]) rfl ⟨rfl,hw1⟩
theorem lv {f:Int} (hf:aj f) (pf:ak f=true):(rg f=0->FloatKind.f64.format.order (wd f) 0=some .eq)∧(¬ rg f=0->FloatKind.f64.format.order (wd f) 0=some .lt∨FloatKind.f64.format.order (wd f) 0=some .gt):=by
 have r0:aj 0:=by unfold aj; decide
 have p0:ak 0=true:=by decide
 have k0:au 0=0:=by decide
 have kz:au f=0 ↔ rg f=0:=by
  unfold au rg
  unfold aj at hf
  split <;> omega
 refine ⟨fun h=>?_,fun h=>?_⟩
 ·have:=fJ hf r0 (aS pf) (aS p0) (by rw [k0]; exact kz.2 h)
  rw [mB] at this
  exact this
 ·rcases Int.lt_trichotomy (au f) 0 with g | g | g
  ·have:=fR hf r0 (aS pf) (aS p0) (by rw [k0]; exact g)
   rw [mB] at this
   exact .inl this
  ·exact absurd (kz.1 g) h
  ·have:=fU hf r0 (aS pf) (aS p0) (by rw [k0]; exact g)
   rw [mB] at this
   exact .inr this
def Lx:Ls:=⟨0,fun _=>0⟩
theorem yH {N:Nat} {w w1:World} {o:Obj} {v:Value} {s:Nat} {d:Nat->Int} (h:aX N w v s d) (g:(w.alloc o).grownBy w1 v.ownBlock) (hN:N<=w.heap.size):Below N w w1:=by
 have ha:=ah w o
 refine ⟨g.os.trans ha.os,g.tape.trans ha.tape,g.output.trans ha.output,Nat.le_trans ha.size g.size,fun k hk=>?_⟩
 have hk':=Nat.lt_of_lt_of_le hk hN
 refine (g.block k (Nat.lt_of_lt_of_le hk' ha.size) fun e=>?_).trans (ha.block k hk')
 have:=(h.ge e.symm).1
 omega
theorem AO {B:Nat} {w:World} {v:Value} {s:Ls} {b:Int} (h0:¬ rg b=0) (h:aX B w v (s.n+1) (kr s.d s.n (fun _=>b))):aX B w v (s.add b).n (s.add b).d:=by
 have e:s.add b=⟨s.n+1,b7 s.d s.n b⟩:=by unfold Ls.add; rw [if_neg h0]
 rw [e]
 refine h.congr fun i hi=>?_
 by_cases e:i<s.n
 ·simp [kr,e,aV s.d _ (show i≠s.n by omega)]
 ·obtain rfl:i=s.n:=by omega
  simp [kr,bt]
def gV (h t:Int):Nat->Ls
 | 0=>Lx
 | 1=>Lx.add t
 | _=>(Lx.add t).add h
def pA (h t:Int) (k:Nat):Int:=if k=0 then t else h
theorem pg (h t:Int) {k:Nat} (hk:k<2):gV h t (k+1)=(gV h t k).add (pA h t k):=by
 match k,hk with
 | 0,_=>rfl
 | 1,_=>rfl
theorem ID (h t:Int):∀ {k:Nat},k<=2->(gV h t k).n<=2:=fun {k} hk=>by
 have a1:∀ (s:Ls) (b:Int),(s.add b).n<=s.n+1:=fun s b=>(s.add_le b).2
 match k,hk with
 | 0,_=>exact Nat.zero_le _
 | 1,_=>exact Nat.le_trans (a1 _ _) (by show 0+1<=2; omega)
 | 2,_=>exact Nat.le_trans (a1 _ _) (Nat.succ_le_succ (a1 _ _))
theorem Ly {h t:Int} (rh:aj h) (ph:ak h=true) (rt:aj t) (pt:ak t=true) (w:World) :
    Calls Tryz.prog 71 #[.float .f64 (wd h),.float .f64 (wd t)] w fun r w'=>∃ v,r=.returned v∧aX w.heap.size w' v (gV h t 2).n (gV h t 2).d∧Below w.heap.size w w':=by
  have CO:Hid (∀ k W,k<2->Calls Tryz.prog 42 #[.float .f64 (wd (pA h t k))] W fun e w'=>e=.returned (.int .i64 (pA h t k))∧w'=W):=fun k W _=>by
    unfold pA
    split
    · exact je (FW.pat (aS pt) rt) W
    · exact je (FW.pat (aS ph) rh) W
  have HN:Hid (∀ k,k<2->(rg (pA h t k)=0->FloatKind.f64.format.order (wd (pA h t k)) 0=some .eq)∧(¬ rg (pA h t k)=0->FloatKind.f64.format.order (wd (pA h t k)) 0=some .lt∨FloatKind.f64.format.order (wd (pA h t k)) 0=some .gt)):=fun k _=>by
    unfold pA
    split
    · exact lv rt pt
    · exact lv rh ph
  have HR:Hid (∀ k,k<2->aj (pA h t k)):=fun k _=>by unfold pA; split <;> assumption
  have hix0:∀ w,(Instr.index 137 (.agg #[.float .f64 (wd t),.float .f64 (wd h)]) (.int .i64 0)).run Tryz.prog w=.ok (.float .f64 (wd t)) w:=fun _=>by kernel_rfl
  have hix1:∀ w,(Instr.index 137 (.agg #[.float .f64 (wd t),.float .f64 (wd h)]) (.int .i64 1)).run Tryz.prog w=.ok (.float .f64 (wd h)) w:=fun _=>by kernel_rfl
  clear rh ph rt pt
  go_enter Tryz.func71,Tryz.ntmps71
  go_wp2_with fail
  go_loopw [5,11] (fun v i wr=>∃ k:Nat,k<=2∧i=.int .i64 k∧Hid (aX w.heap.size wr v (gV h t k).n (gV h t k).d)∧Below w.heap.size w wr) (fun _ i _=>2-(intOf i).toNat)
  case atStart=>exact ⟨0,by omega,rfl,aX.nil _ _ _,aA _⟩
  case round=>
    obtain ⟨k,hk,rfl,HO,hbw⟩:=hrel
    by_cases hlt:k<2
    · rcases (show k=0∨k=1 by omega) with rfl | rfl
      · have CK:Hid (∀ W,Calls Tryz.prog 42 #[.float .f64 (wd t)] W fun e w'=>e=.returned (.int .i64 t)∧w'=W):=fun W=>CO.out 0 W (by omega)
        have HK:(rg t=0->FloatKind.f64.format.order (wd t) 0=some .eq)∧(¬ rg t=0->FloatKind.f64.format.order (wd t) 0=some .lt∨FloatKind.f64.format.order (wd t) 0=some .gt):=HN.out 0 (by omega)
        have rK:aj t:=HR.out 0 (by omega)
        have hN:=ID h t (show 0<=2 by omega)
        by_cases h0:rg t=0
        · have ho:=HK.1 h0
          have HE:Hid (gV h t (0+1)=gV h t 0):=(pg h t (by omega)).trans (if_pos h0)
          clear HK h0 CK
          go_wp2
          go_roundw
          case rel=>exact ⟨0+1,by omega,by go_num,(show aX w.heap.size wr _ (gV h t (0+1)).n (gV h t (0+1)).d by rw [HE.out]; exact HO.out),hbw⟩
          case measure=>simp [intOf]
        · have ho:=HK.2 h0
          have HE:Hid (gV h t (0+1)=(gV h t 0).add t):=pg h t (by omega)
          have H0:Hid (¬ rg t=0):=h0
          clear HK h0
          rcases ho with ho | ho
          all_goals
            go_wp2_with (first
              | (go_at_call 42; refine (CK.out _).mono ?_; rintro _ wz ⟨rfl,hwz⟩; replace hwz:=hwz.symm; subst hwz)
              | (at_builtin; refine lG rfl _ _ rfl w.heap.size _ (gV h t 0).n (gV h t 0).d rfl (HO.out.stays (ah _ _)) _ 1 1 (fun _=>t) rfl (r7 _ _ rfl) (by omega) (Nat.le_trans hbw.size (ah _ _).size) ?_; intro v' w1 hO1 hg1))
            go_roundw
            case rel=>exact ⟨0+1,by omega,by go_num,(show aX w.heap.size _ _ (gV h t (0+1)).n (gV h t (0+1)).d by rw [HE.out]; exact AO H0.out hO1),hbw.trans (yH HO.out hg1 hbw.size)⟩
            case measure=>simp [intOf]
      · have CK:Hid (∀ W,Calls Tryz.prog 42 #[.float .f64 (wd h)] W fun e w'=>e=.returned (.int .i64 h)∧w'=W):=fun W=>CO.out 1 W (by omega)
        have HK:(rg h=0->FloatKind.f64.format.order (wd h) 0=some .eq)∧(¬ rg h=0->FloatKind.f64.format.order (wd h) 0=some .lt∨FloatKind.f64.format.order (wd h) 0=some .gt):=HN.out 1 (by omega)
        have rK:aj h:=HR.out 1 (by omega)
        have hN:=ID h t (show 1<=2 by omega)
        by_cases h0:rg h=0
        · have ho:=HK.1 h0
          have HE:Hid (gV h t (1+1)=gV h t 1):=(pg h t (by omega)).trans (if_pos h0)
          clear HK h0 CK
          go_wp2
          go_roundw
          case rel=>exact ⟨1+1,by omega,by go_num,(show aX w.heap.size wr _ (gV h t (1+1)).n (gV h t (1+1)).d by rw [HE.out]; exact HO.out),hbw⟩
          case measure=>simp [intOf]
        · have ho:=HK.2 h0
          have HE:Hid (gV h t (1+1)=(gV h t 1).add h):=pg h t (by omega)
          have H0:Hid (¬ rg h=0):=h0
          clear HK h0
          rcases ho with ho | ho
          all_goals
            go_wp2_with (first
              | (go_at_call 42; refine (CK.out _).mono ?_; rintro _ wz ⟨rfl,hwz⟩; replace hwz:=hwz.symm; subst hwz)
              | (at_builtin; refine lG rfl _ _ rfl w.heap.size _ (gV h t 1).n (gV h t 1).d rfl (HO.out.stays (ah _ _)) _ 1 1 (fun _=>h) rfl (r7 _ _ rfl) (by omega) (Nat.le_trans hbw.size (ah _ _).size) ?_; intro v' w1 hO1 hg1))
            go_roundw
            case rel=>exact ⟨1+1,by omega,by go_num,(show aX w.heap.size _ _ (gV h t (1+1)).n (gV h t (1+1)).d by rw [HE.out]; exact AO H0.out hO1),hbw.trans (yH HO.out hg1 hbw.size)⟩
            case measure=>simp [intOf]
    · obtain rfl:k=2:=by omega
      go_wp2
      go_ret
      exact ⟨_,rfl,HO.out,hbw⟩
def iy (w:World) (v:Value) (s:Ls):Prop:=∃ ao cap,v=.slice ao s.n cap∧aQ w ao s.n cap s.d
theorem iy.keeps {w w':World} {v:Value} {s:Ls} (h:iy w v s) (hb:Below w.heap.size w w'):iy w' v s:=by
 obtain ⟨ao,cap,e,hR⟩:=h
 exact ⟨ao,cap,e,hR.keeps hb⟩
theorem MS {p:Int} (hp:aj p) (h:iV p≠0):iV p<0 ↔ p<0:=by
 obtain ⟨k1,k2⟩:=my hp
 rw [k1]
 have hz:au p≠0:=fun e=>by
  have a:=mt k1.1
  rcases Int.lt_trichotomy (iV p) 0 with g | g | g
  ·have:=k1.1 g; omega
  ·exact h g
  ·have:=k2.1 g; omega
 unfold aj at hp
 by_cases c:p<0
 ·have e:au p=-(p+9223372036854775808):=by unfold au; rw [if_pos c]
  rw [e] at hz ⊢
  omega
 ·have e:au p=p:=by unfold au; rw [if_neg c]
  rw [e]
theorem MT {v:Value} {s:Ls} (w:World) (h:iy w v s) (hx:XV s.d s.n) (H:aD w) :
  Calls Tryz.prog 46 #[v] w fun r w'=>r=.returned (.tuple #[.int .i64 (bz (cu s.d s.n) 0),.int .i64 0])∧Below w.heap.size w w':=by
 obtain ⟨ao,cap,rfl,hR⟩:=h
 obtain ⟨n,d⟩:=s
 simp only at *
 have hle:=hR.le
 have hmx:=hR.max
 have CV:Hid (∀ W,Below w.heap.size w W->Calls Tryz.prog 73 #[.slice ao n cap] W fun e w'=>e=.returned (.bool true)∧Below W.heap.size W w'):=fun W hb=>by
  have:=oQ W (hR.keeps hb) (H.keeps hb)
  rw [l5 hx] at this
  exact this
 cases n with
 | zero=>
  have e:bz (cu d 0) 0=0:=by show bz 0 0=0; decide
  rw [e]
  go_enter Tryz.func46,Tryz.ntmps46
  go_wp2_with fail
  refine (CV.out _ (aA _)).mono ?_
  rintro _ y1 ⟨rfl,hw1⟩
  go_wp2
  exact bodyPost_ret (v:=.tuple #[.int .i64 0,.int .i64 0]) (by simp [results,Tryz.results46,go_sem]) rfl ⟨rfl,hw1⟩
 | succ n=>
  obtain ⟨s1,s2⟩:=GE hx
  have hr:=(hx.fin n (by omega)).1
  have hne:=hx.ne (show n<n+1 by omega)
  have hl:=MS hr hne
  obtain ⟨b,off,rfl,hb,hc⟩:=hR.spot (by omega)
  have i0:(0:Int)<=(n:Int):=by omega
  have i1:(n:Int)<((n+1:Nat):Int):=by omega
  have hidx:((n+1:Nat):Int)-1=(n:Int):=by omega
  by_cases hd:d n<0
  ·have e:bz (cu d (n+1)) 0=-1:=by
    have:cu d (n+1)<0:=s2.2 (hl.2 hd)
    unfold bz; rw [if_pos this]
   rw [e]
   have hdd:decide (d n<0)=true:=decide_eq_true hd
   clear s1 s2 hl hne hr e
   have HC:Hid (∀ W,Below w.heap.size w W->W.cell? ⟨b,off+n,none⟩=some (.int .i64 (d n))):=fun W hw=>(hw.cell (p:=⟨b,off+n,none⟩) hb).trans (hc n (by omega))
   clear hc hx hd
   go_enter Tryz.func46,Tryz.ntmps46
   go_wp2_with fail
   refine (CV.out _ (aA _)).mono ?_
   rintro _ y1 ⟨rfl,hw1⟩
   have c1:=HC.out _ hw1
   go_wp2
   exact bodyPost_ret (v:=.tuple #[.int .i64 (-1),.int .i64 0]) (by simp [results,Tryz.results46,go_sem]) rfl ⟨rfl,hw1⟩
  ·have e:bz (cu d (n+1)) 0=1:=by
    have h1:¬ iV (d n)<0:=fun q=>hd (hl.1 q)
    have:0<cu d (n+1):=s1.2 (by omega)
    have h2:¬ cu d (n+1)<0:=by omega
    unfold bz; rw [if_neg h2]; first | rw [if_pos this] | (simp [this]; omega)
   rw [e]
   have hdd:decide (d n<0)=false:=decide_eq_false hd
   clear s1 s2 hl hne hr e
   have HC:Hid (∀ W,Below w.heap.size w W->W.cell? ⟨b,off+n,none⟩=some (.int .i64 (d n))):=fun W hw=>(hw.cell (p:=⟨b,off+n,none⟩) hb).trans (hc n (by omega))
   clear hc hx hd
   go_enter Tryz.func46,Tryz.ntmps46
   go_wp2_with fail
   refine (CV.out _ (aA _)).mono ?_
   rintro _ y1 ⟨rfl,hw1⟩
   have c1:=HC.out _ hw1
   go_wp2
   exact bodyPost_ret (v:=.tuple #[.int .i64 1,.int .i64 0]) (by simp [results,Tryz.results46,go_sem]) rfl ⟨rfl,hw1⟩
def pL (a b c:Int):Ls:=gz (bK a b).d (bK a b).n (bK c b).d (bK c b).n
def dL (ax ay bx by' cx cy:Int):Ls:=bX ⟨(pL ax bx cx).n,(pL ax bx cx).d⟩ (pL ay by' cy).d (pL ay by' cy).n
def gZ (V:Int):Int:=if V=0 then 0 else aI (dW 1 V)
def g9 (V:Int):Int:=if V=0 then 0 else aI (dW 2 V)
theorem tW {g:Bool} {r:Int} (h0:0<=r) (h1:r<=9218868437227405312):aI (aC g r)=aC (g && decide (0<r)) r:=by
 obtain ⟨a,b,c⟩:=cW (ng:=g) h0 h1
 obtain ⟨d1,d2⟩:=dZ a
 rw [b] at d1 d2
 unfold aI
 have n4:¬ aG (aC g r)=4:=fun q=>by have:=d1.1 q; omega
 rw [if_neg n4]
 by_cases hr:r=0
 ·rw [if_pos (d2.2 hr),hr]
  cases g <;> decide
 ·rw [if_neg (fun q=>hr (d2.1 q)),decide_eq_true (show 0<r by omega),Bool.and_true]
theorem tX {V:Int} (h0:V≠0):∃ (g:Bool) (A:Int) (r0:Nat) (left:Int),V=sg g A∧0<A∧dM A r0 left∧gZ V=aC (g && decide (0<bk 1 g r0 left)) (bk 1 g r0 left)∧g9 V=aC (g && decide (0<bk 2 g r0 left)) (bk 2 g r0 left):=by
 obtain ⟨g,A,r0,left,e,hA,hR,_,e1,e2⟩:=qw h0
 have r1:=b9 1 g r0 left
 have r2:=b9 2 g r0 left
 refine ⟨g,A,r0,left,e,hA,hR,?_,?_⟩
 ·unfold gZ; rw [if_neg h0,e1,tW r1.1 r1.2]
 ·unfold g9; rw [if_neg h0,e2,tW r2.1 r2.2]
theorem sO {V:Int} {ng:Bool} {f:Int->Int × Bool} (h:lB V ng f):(f 1).1=gZ V∧(f 2).1=g9 V:=by
 obtain ⟨A,r0,left,e,hng,hR,hf⟩:=h
 rw [hf 1,hf 2]
 by_cases h0:V=0
 ·have hA:A=0:=by
   rw [h0] at e
   cases ng
   ·exact e.symm
   ·have:(0:Int)=-A:=e
    omega
  have hn:ng=false:=by
   cases ng
   ·rfl
   ·have:=hng rfl; omega
  subst hn
  rw [hA] at hR
  obtain ⟨u1,u2⟩:=hR.unique mM
  subst u1 u2
  unfold gZ g9
  rw [if_pos h0,if_pos h0]
  have t1:=oG 1
  have t2:=oG 2
  refine ⟨?_,?_⟩
  ·simp only [t1]; rfl
  ·simp only [t2]; rfl
 ·obtain ⟨g,B,s0,l,e',hB,hR',c1,c2⟩:=tX h0
  have hA:0<A:=by
   have hA0:0<=A:=by
    have:=hR.lo
    have hv:0<=vS r0:=Int.mul_nonneg (by omega) (Int.le_of_lt (bD _))
    omega
   have:A≠0:=fun q=>h0 (by rw [e,q]; cases ng <;> rfl)
   omega
  have s1:decide (V<0)=ng:=by rw [e]; exact qV hA
  have s2:decide (V<0)=g:=by rw [e']; exact qV hB
  have hg:ng=g:=s1.symm.trans s2
  subst hg
  have hAB:=js (e.symm.trans e')
  subst hAB
  obtain ⟨u1,u2⟩:=hR.unique hR'
  subst u1 u2
  exact ⟨c1.symm,c2.symm⟩
theorem Lz {p q:Int} (rp:aj p) (rq:aj q) (hp:ak p=true) (hq:ak q=true):aI (dA p q)=gZ (ce p q)∧aI (dC p q)=g9 (ce p q):=by
 have h1:=(bw rp).1 hp
 have h2:=(bw rq).1 hq
 have i2:¬ (rg p=9218868437227405312∨rg q=9218868437227405312):=by omega
 by_cases h0:rg p=0∨rg q=0
 ·have hz:ce p q=0:=by
   obtain ⟨_,_,_,_,hC⟩:=mR rp rq hp hq
   have:ar p*ar q=0:=by
    rcases h0 with h | h
    ·have:ar p=0:=by rw [bF rp hp]; unfold iV; rw [h]; cases decide (p<0) <;> exact Int.zero_mul _
     rw [this,Int.zero_mul]
    ·have:ar q=0:=by rw [bF rq hq]; unfold iV; rw [h]; cases decide (q<0) <;> exact Int.zero_mul _
     rw [this,Int.mul_zero]
   rw [this] at hC
   rcases Int.mul_eq_zero.1 hC with k | k
   ·exact k
   ·exact absurd k (Int.ne_of_gt (aO 4194304))
  unfold dA dC gZ g9
  rw [if_pos h0,if_pos h0,if_pos hz,if_pos hz]
  exact ⟨by decide,by decide⟩
 ·have hz:=tR rp rq hp hq (fun k=>h0 (.inl k)) (fun k=>h0 (.inr k))
  unfold dA dC gZ g9
  rw [if_neg h0,if_neg h0,if_neg i2,if_neg i2,if_neg hz,if_neg hz]
  exact ⟨rfl,rfl⟩
theorem Hc {p q:Int} (rp:aj p) (rq:aj q) (hp:ak p=true) (hq:ak q=true):bI p q=if ar p+ar q=0 then aC (decide (dF p q<0) && decide (iH p q<0)) 0 else bu (ar p+ar q):=by
 unfold bI dF iH
 by_cases h:rg p<rg q
 ·rw [if_pos h,if_pos h,mo rq rp hq hp,Int.add_comm]
 ·rw [if_neg h,if_neg h,mo rp rq hp hq]
theorem MU {p q:Int} (rp:aj p) (rq:aj q) (hp:ak p=true) (hq:ak q=true):nn (bI p q)∧aI (dw (bI p q) (c8 p q))=gZ (ar p+ar q)∧aI (dz (bI p q) (c8 p q))=g9 (ar p+ar q):=by
 have hN:=Hc rp rq hp hq
 have hVi:ar p+ar q=(iV p+iV q)*pw (-1074):=by rw [bF rp hp,bF rq hq,Int.add_mul]
 have hq0:=bD (-1074)
 by_cases h0:ar p+ar q=0
 ·rw [if_pos h0] at hN
  have hnn:nn (bI p q):=by rw [hN]; exact jW (by decide) (by decide)
  have hz:iV p+iV q=0:=by
   rcases Int.mul_eq_zero.1 (hVi.symm.trans h0) with k | k
   ·exact k
   ·omega
  have hpok:ak (bI p q)=true:=by rw [hN]; cases (decide (dF p q<0) && decide (iH p q<0)) <;> decide
  have hi0:iV (bI p q)=0:=by rw [hN]; cases (decide (dF p q<0) && decide (iH p q<0)) <;> decide
  obtain ⟨_,_,hc⟩:=Ey rp rq hp hq hpok hnn
  rw [hi0,hz] at hc
  refine ⟨hnn,?_⟩
  rcases hc with ⟨_,b1,b2⟩ | ⟨k,_⟩ | ⟨k,_⟩
  ·rw [b1,b2]
   unfold gZ g9
   rw [if_pos h0,if_pos h0,hN]
   exact ⟨by cases (decide (dF p q<0) && decide (iH p q<0)) <;> decide,by cases (decide (dF p q<0) && decide (iH p q<0)) <;> decide⟩
  ·omega
  ·omega
 ·rw [if_neg h0] at hN
  obtain ⟨g1,g2⟩:=ef h0
  have hnn:nn (bI p q):=by rw [hN]; exact ⟨g1,g2⟩
  refine ⟨hnn,?_⟩
  unfold gZ g9
  rw [if_neg h0,if_neg h0]
  cases hf:ak (bu (ar p+ar q))
  ·have hi:=AM h0 hf
   have hr:rg (bI p q)=9218868437227405312:=by
    rw [hN]
    have k1:=kB (show nn (bu (ar p+ar q)) from ⟨g1,g2⟩)
    rcases Int.lt_or_le (rg (bu (ar p+ar q))) 9218868437227405312 with k | k
    ·rw [(bw g1).2 k] at hf; cases hf
    ·omega
   have h1:=(bw rp).1 hp
   have h2:=(bw rq).1 hq
   obtain ⟨o1,o2⟩:=JU ⟨rp,cZ rp hp⟩ ⟨rq,cZ rq hq⟩ (by omega) (by omega) hnn hr
   rcases Int.lt_or_gt_of_ne h0 with k | k
   ·obtain ⟨e0,e1,e2⟩:=hi.2 k
    obtain ⟨b1,b2⟩:=o2 (by rw [hN,e0]; decide)
    rw [b1,b2,hN,e0,e1,e2]
    exact ⟨by decide,by decide⟩
   ·obtain ⟨e0,e1,e2⟩:=hi.1 k
    obtain ⟨b1,b2⟩:=o1 (by rw [hN,e0]; decide)
    rw [b1,b2,hN,e0,e1,e2]
    exact ⟨by decide,by decide⟩
  ·obtain ⟨d1,d2,d3⟩:=AL h0 hf
   rw [<- hN] at d1 d2 d3 hf
   obtain ⟨_,_,hc⟩:=Ey rp rq hp hq hf hnn
   have hvn:=bF hnn.1 hf
   rw [hvn,hVi] at d1 d2 d3
   rw [hVi]
   generalize pw (-1074)=w at *
   rcases hc with ⟨k,b1,b2⟩ | ⟨k,b1,b2⟩ | ⟨k,b1,b2⟩
   ·rw [b1,b2]
    obtain ⟨f1,f2⟩:=d3 (by rw [k])
    rw [<- f1,<- f2]
    exact ⟨rfl,rfl⟩
   ·rw [b1,b2]
    obtain ⟨f1,f2⟩:=d1 (Int.mul_lt_mul_of_pos_right k hq0)
    rw [<- f1,<- f2]
    exact ⟨rfl,rfl⟩
   ·rw [b1,b2]
    obtain ⟨f1,f2⟩:=d2 (Int.mul_lt_mul_of_pos_right k hq0)
    rw [<- f1,<- f2]
    exact ⟨rfl,rfl⟩
theorem J2 (r:Nat):dM (vS r) r 0:=by
 have h:=ku (show r<r+1 by omega)
 refine ⟨Int.le_refl _,h,⟨fun _=>rfl,fun _=>rfl⟩,⟨fun q=>by omega,fun q=>by omega⟩,⟨fun q=>by omega,fun q=>by omega⟩,⟨fun q=>by omega,fun q=>by omega⟩⟩
theorem EU (way:Int) (g:Bool) {r:Nat} (h:(r:Int)<9218868437227405312):bk way g r 0=(r:Int):=by
 rw [jg way h,(tQ (decide (r % 2=1)) 0).2.2.2.2 way g rfl]
 simp
theorem Oc {g:Bool} {r:Nat} (h:(r:Int)<9218868437227405312) (h0:0<r):gZ (sg g (vS r))=aC g (r:Int)∧g9 (sg g (vS r))=aC g (r:Int):=by
 have hp:0<vS r:=by
  have:=ku h0
  have hz:vS 0=0:=by unfold vS; rw [nD]; exact Int.zero_mul _
  omega
 have hn:sg g (vS r)≠0:=fun q=>by
  generalize vS r=y at *
  cases g
  ·rw [o8] at q; omega
  ·rw [o7] at q; omega
 obtain ⟨g',A,r0,left,e,hA,hR,c1,c2⟩:=tX hn
 have s1:decide (sg g (vS r)<0)=g:=qV hp
 have s2:decide (sg g (vS r)<0)=g':=by rw [e]; exact qV hA
 have hg:g=g':=s1.symm.trans s2
 subst hg
 have hAB:=js e
 rw [<- hAB] at hR
 obtain ⟨u1,u2⟩:=hR.unique (J2 r)
 subst u1 u2
 rw [c1,c2,EU 1 g h,EU 2 g h,decide_eq_true (show (0:Int)<(r0:Int) by omega),Bool.and_true]
 exact ⟨rfl,rfl⟩
theorem tY {p B:Nat} {x0 x1:Value} {W W':World} (h:p<B∧B<=W.heap.size∧W.cell? ⟨p,0,none⟩=some x0∧W.cell? ⟨p,1,none⟩=some x1) (hb:Below W.heap.size W W') :
  p<B∧B<=W'.heap.size∧W'.cell? ⟨p,0,none⟩=some x0∧W'.cell? ⟨p,1,none⟩=some x1 :=
 ⟨h.1,Nat.le_trans h.2.1 hb.size,aF h.2.2.1 hb,aF h.2.2.2 hb⟩
theorem ks.below' {w w':World} (h:ks w) (hb:Below w.heap.size w w'):ks w' :=
 ⟨aF h.a0 hb,aF h.a1 hb,aF h.a2 hb,trivial,trivial,trivial⟩
theorem nt (x y:Int) (w:World) :
    Calls Tryz.prog 10 #[.agg #[.int .i64 x,.int .i64 y]] w fun e w'=>e=.returned (.agg #[.int .i64 (q0 x),.int .i64 (q0 y)])∧Below w.heap.size w w':=by
  have hb2:=aP w (.cells #[.int .i64 x,.int .i64 y] 23) (.cells #[.int .i64 0,.int .i64 0] 23)
  have p0:=dJ w (.cells #[.int .i64 x,.int .i64 y] 23) (.cells #[.int .i64 0,.int .i64 0] 23)
  have p1:=cR w (.cells #[.int .i64 x,.int .i64 y] 23) (.cells #[.int .i64 0,.int .i64 0] 23)
  have hs:=i6 w (.cells #[.int .i64 x,.int .i64 y] 23) (.cells #[.int .i64 0,.int .i64 0] 23)
  have c0:=ac p0 0 rfl
  have c1:=ac p0 1 rfl
  have CX:Hid (∀ W,Calls Tryz.prog 17 #[.int .i64 x] W fun e w'=>e=.returned (.int .i64 (q0 x))∧w'=W):=fun W=>Ew x W
  have CY:Hid (∀ W,Calls Tryz.prog 17 #[.int .i64 y] W fun e w'=>e=.returned (.int .i64 (q0 y))∧w'=W):=fun W=>Ew y W
  generalize q0 x=X at *
  generalize q0 y=Y at *
  go_enter Tryz.func10,Tryz.ntmps10
  go_wp2_with fail
  generalize (w.alloc (.cells #[.int .i64 x,.int .i64 y] 23)).alloc (.cells #[.int .i64 0,.int .i64 0] 23)=wx at *
  have hc:w.heap.size<w.heap.size+1∧w.heap.size+1<=wx.drew.heap.size∧wx.drew.cell? ⟨w.heap.size,0,none⟩=some (.int .i64 x)∧wx.drew.cell? ⟨w.heap.size,1,none⟩=some (.int .i64 y):=⟨by omega,by show _<=wx.heap.size; omega,c0,c1⟩
  have d2:wx.drew.heap[w.heap.size+1]?=some (.cells #[.int .i64 0,.int .i64 0] 23 (0,0)):=p1
  have d3:(wx.setCell ⟨w.heap.size+1,0,none⟩ (.int .i64 X)).drew.heap[w.heap.size+1]?=some (.cells #[.int .i64 X,.int .i64 0] 23 (0,0)):=aM d2 0 (.int .i64 X)
  have d4:((wx.setCell ⟨w.heap.size+1,0,none⟩ (.int .i64 X)).setCell ⟨w.heap.size+1,1,none⟩ (.int .i64 Y)).drew.heap[w.heap.size+1]?=some (.cells #[.int .i64 X,.int .i64 Y] 23 (0,0)):=aM d3 1 (.int .i64 Y)
  have f0:=ac d2 0 rfl
  have z0:=aw d2 0
  have f1:=ac d3 1 rfl
  have z1:=aw d3 1
  have hbe:Below w.heap.size w ((wx.setCell ⟨w.heap.size+1,0,none⟩ (.int .i64 X)).setCell ⟨w.heap.size+1,1,none⟩ (.int .i64 Y)).drew:=((hb2.setCell (p:=⟨w.heap.size+1,0,none⟩) (Nat.le_succ _) (.int .i64 X)).setCell (p:=⟨w.heap.size+1,1,none⟩) (Nat.le_succ _) (.int .i64 Y)).drew
  go_region_held3 (fun W=>w.heap.size<w.heap.size+1∧w.heap.size+1<=W.heap.size∧W.cell? ⟨w.heap.size,0,none⟩=some (.int .i64 x)∧W.cell? ⟨w.heap.size,1,none⟩=some (.int .i64 y))
    (first | assumption | (repeat (first | exact hc | refine qh (by omega) ?_)))
    (first
      | (go_at_call 17; have _t:=T1; refine (CY.out _).mono ?_; rintro _ _ ⟨rfl,rfl⟩)
      | (go_at_call 17; refine (CX.out _).mono ?_; rintro _ _ ⟨rfl,rfl⟩; have T1:True:=trivial))
  have e0:=ac d4 0 rfl
  have e1:=ac d4 1 rfl
  clear d2 d3 d4 f0 f1 z0 z1 hc
  generalize ((wx.setCell ⟨w.heap.size+1,0,none⟩ (.int .i64 X)).setCell ⟨w.heap.size+1,1,none⟩ (.int .i64 Y)).drew=wy at *
  go_wp2
  refine bodyPost_ret (v:=.agg #[.int .i64 X,.int .i64 Y]) (by simp [results,Tryz.results10,go_sem,e0,e1]) rfl ⟨rfl,hbe⟩
theorem yI {lo hi:Int} (hl:nn lo) (hh:nn hi) (w:World) (L:ks w) :
    Calls Tryz.prog 75 #[eJ lo hi] w fun e w'=>e=.returned (eK (aI lo) (aI hi))∧Below w.heap.size w w':=by
  unfold eJ eK
  have CO1:Hid (∀ W,Calls Tryz.prog 42 #[.float .f64 (wd lo)] W fun e w'=>e=.returned (.int .i64 lo)∧w'=W):=fun W=>by
    have:=ti lo W hl.1
    rw [show aR lo=lo from if_neg hl.2] at this
    exact this
  have CO2:Hid (∀ W,Calls Tryz.prog 42 #[.float .f64 (wd hi)] W fun e w'=>e=.returned (.int .i64 hi)∧w'=W):=fun W=>by
    have:=ti hi W hh.1
    rw [show aR hi=hi from if_neg hh.2] at this
    exact this
  have CX':Hid (∀ W,ks W->Calls Tryz.prog 110 #[.int .i64 lo] W fun e w'=>e=.returned (.int .i64 (aI lo))∧Gr W w'):=fun W LW=>vx lo W LW
  have CY':Hid (∀ W,ks W->Calls Tryz.prog 110 #[.int .i64 hi] W fun e w'=>e=.returned (.int .i64 (aI hi))∧Gr W w'):=fun W LW=>vx hi W LW
  generalize aI lo=X at *
  generalize aI hi=Y at *
  generalize wd lo=A at *
  generalize wd hi=B at *
  have hb2:=aP w (.cells #[.float .f64 A,.float .f64 B] 87) (.cells #[.int .i64 0,.int .i64 0] 60)
  have p0:=dJ w (.cells #[.float .f64 A,.float .f64 B] 87) (.cells #[.int .i64 0,.int .i64 0] 60)
  have p1:=cR w (.cells #[.float .f64 A,.float .f64 B] 87) (.cells #[.int .i64 0,.int .i64 0] 60)
  have hs:=i6 w (.cells #[.float .f64 A,.float .f64 B] 87) (.cells #[.int .i64 0,.int .i64 0] 60)
  have c0:=ac p0 0 rfl
  have c1:=ac p0 1 rfl
  have hbd:=hb2.drew
  have L1:=L.below' hbd
  clear hl hh
  go_enter Tryz.func75,Tryz.ntmps75
  go_wp2_with fail
  generalize (w.alloc (.cells #[.float .f64 A,.float .f64 B] 87)).alloc (.cells #[.int .i64 0,.int .i64 0] 60)=w1 at *
  have hc:w.heap.size<w.heap.size+1∧w.heap.size+1<=w1.drew.heap.size∧w1.drew.cell? ⟨w.heap.size,0,none⟩=some (.float .f64 A)∧w1.drew.cell? ⟨w.heap.size,1,none⟩=some (.float .f64 B):=⟨by omega,by show _<=w1.heap.size; omega,c0,c1⟩
  have hd:w1.drew.heap[w.heap.size+1]?=some (.cells #[.int .i64 0,.int .i64 0] 60 (0,0)):=p1
  go_region_held3 (fun W=>w.heap.size<w.heap.size+1∧w.heap.size+1<=W.heap.size∧W.cell? ⟨w.heap.size,0,none⟩=some (.float .f64 A)∧W.cell? ⟨w.heap.size,1,none⟩=some (.float .f64 B))
    (first | assumption | (repeat (first | exact hc | exact hc1 | exact hc2 | refine qh (by omega) ?_)))
    (first
      | (go_at_call 42; have _t:=LA; refine (CO2.out _).mono ?_; rintro _ _ ⟨rfl,rfl⟩)
      | (go_at_call 42; refine (CO1.out _).mono ?_; rintro _ _ ⟨rfl,rfl⟩)
      | (go_at_call 110; have _t:=LA; refine (CY'.out _ LA).mono ?_; rintro _ w3 ⟨rfl,g3⟩; have hc2:=tY hc1 g3.be; have d2:=(g3.be.block _ (Array.getElem?_eq_some_iff.1 d1).1).trans d1; have d3:=aM d2 0 (.int .i64 X); have d4:=aM d3 1 (.int .i64 Y); have f0:=ac d2 0 rfl; have z0:=aw d2 0; have f1:=ac d3 1 rfl; have z1:=aw d3 1)
      | (go_at_call 110; refine (CX'.out _ L1).mono ?_; rintro _ w2 ⟨rfl,g2⟩; have LA:=L1.grown g2; have hc1:=tY hc g2.be; have d1:=(g2.be.block _ (Array.getElem?_eq_some_iff.1 hd).1).trans hd))
  have e0:=ac d4 0 rfl
  have e1:=ac d4 1 rfl
  have hbe:Below w.heap.size w ((w3.setCell ⟨w.heap.size+1,0,none⟩ (.int .i64 X)).setCell ⟨w.heap.size+1,1,none⟩ (.int .i64 Y)):=((aa hbd (aa g2.be g3.be)).setCell (p:=⟨w.heap.size+1,0,none⟩) (Nat.le_succ _) _).setCell (p:=⟨w.heap.size+1,1,none⟩) (Nat.le_succ _) _
  clear d1 d2 d3 d4 f0 f1 z0 z1 hd hc hc1 hc2
  generalize (w3.setCell ⟨w.heap.size+1,0,none⟩ (.int .i64 X)).setCell ⟨w.heap.size+1,1,none⟩ (.int .i64 Y)=wy at *
  go_wp2
  refine bodyPost_ret (v:=.agg #[.int .i64 X,.int .i64 Y]) (by simp [results,Tryz.results75,go_sem,e0,e1]) rfl ⟨rfl,hbe⟩
def lC (ok:Bool) (v:Value):Value:=if ok then v else .agg #[.int .i64 0,.int .i64 0]
def kQ (ok:Bool):Int:=if ok then 0 else 1
theorem AP {n:Nat} (w:World) (o:Obj) (h:n=w.heap.size):(w.alloc o).heap[n]?=some o:=by
 subst h
 show (w.heap.push o)[w.heap.size]?=_
 simp
theorem AQ (w:World) (o0 o1 o2 o3 o4 o5:Obj):((((((w.alloc o0).alloc o1).alloc o2).alloc o3).alloc o4).alloc o5).drew.drew.drew.heap=(((((w.heap.push o0).push o1).push o2).push o3).push o4).push o5:=rfl
theorem MV {n m:Nat} {w:World} {o0 o1 o2 o3 o4 o5:Obj} (hs:w.heap.size=m) (h:n=m+0):(((((((w.alloc o0).alloc o1).alloc o2).alloc o3).alloc o4).alloc o5).drew.drew.drew).heap[n]?=some o0:=by
 subst hs
 subst h
 rw [AQ]
 rw [Array.getElem?_push,if_neg (by first | (simp; done) | (simp; omega))]
 rw [Array.getElem?_push,if_neg (by first | (simp; done) | (simp; omega))]
 rw [Array.getElem?_push,if_neg (by first | (simp; done) | (simp; omega))]
 rw [Array.getElem?_push,if_neg (by first | (simp; done) | (simp; omega))]
 rw [Array.getElem?_push,if_neg (by first | (simp; done) | (simp; omega))]
 rw [Array.getElem?_push,if_pos (by simp)]
theorem MW {n m:Nat} {w:World} {o0 o1 o2 o3 o4 o5:Obj} (hs:w.heap.size=m) (h:n=m+1):(((((((w.alloc o0).alloc o1).alloc o2).alloc o3).alloc o4).alloc o5).drew.drew.drew).heap[n]?=some o1:=by
 subst hs
 subst h
 rw [AQ]
 rw [Array.getElem?_push,if_neg (by first | (simp; done) | (simp; omega))]
 rw [Array.getElem?_push,if_neg (by first | (simp; done) | (simp; omega))]
 rw [Array.getElem?_push,if_neg (by first | (simp; done) | (simp; omega))]
 rw [Array.getElem?_push,if_neg (by first | (simp; done) | (simp; omega))]
 rw [Array.getElem?_push,if_pos (by simp)]
theorem MX {n m:Nat} {w:World} {o0 o1 o2 o3 o4 o5:Obj} (hs:w.heap.size=m) (h:n=m+2):(((((((w.alloc o0).alloc o1).alloc o2).alloc o3).alloc o4).alloc o5).drew.drew.drew).heap[n]?=some o2:=by
 subst hs
 subst h
 rw [AQ]
 rw [Array.getElem?_push,if_neg (by first | (simp; done) | (simp; omega))]
 rw [Array.getElem?_push,if_neg (by first | (simp; done) | (simp; omega))]
 rw [Array.getElem?_push,if_neg (by first | (simp; done) | (simp; omega))]
 rw [Array.getElem?_push,if_pos (by simp)]
theorem MY {n m:Nat} {w:World} {o0 o1 o2 o3 o4 o5:Obj} (hs:w.heap.size=m) (h:n=m+3):(((((((w.alloc o0).alloc o1).alloc o2).alloc o3).alloc o4).alloc o5).drew.drew.drew).heap[n]?=some o3:=by
 subst hs
 subst h
 rw [AQ]
 rw [Array.getElem?_push,if_neg (by first | (simp; done) | (simp; omega))]
 rw [Array.getElem?_push,if_neg (by first | (simp; done) | (simp; omega))]
 rw [Array.getElem?_push,if_pos (by simp)]
theorem MZ {n m:Nat} {w:World} {o0 o1 o2 o3 o4 o5:Obj} (hs:w.heap.size=m) (h:n=m+4):(((((((w.alloc o0).alloc o1).alloc o2).alloc o3).alloc o4).alloc o5).drew.drew.drew).heap[n]?=some o4:=by
 subst hs
 subst h
 rw [AQ]
 rw [Array.getElem?_push,if_neg (by first | (simp; done) | (simp; omega))]
 rw [Array.getElem?_push,if_pos (by simp)]
theorem M0 {n m:Nat} {w:World} {o0 o1 o2 o3 o4 o5:Obj} (hs:w.heap.size=m) (h:n=m+5):(((((((w.alloc o0).alloc o1).alloc o2).alloc o3).alloc o4).alloc o5).drew.drew.drew).heap[n]?=some o5:=by
 subst hs
 subst h
 rw [AQ]
 rw [Array.getElem?_push,if_pos (by simp)]
theorem M5 {w:World} {o0 o1 o2 o3 o4 o5:Obj}:Below w.heap.size w (((((((w.alloc o0).alloc o1).alloc o2).alloc o3).alloc o4).alloc o5).drew.drew.drew) :=
 (aa (aP w o0 o1) (aa (aP _ o2 o3) (aP _ o4 o5))).drew.drew.drew
theorem nS {a b B:Nat} {x0 x1 x2 x3:Value} {W W':World} (h:(a<B∧b<B∧B<=W.heap.size)∧W.cell? ⟨a,0,none⟩=some x0∧W.cell? ⟨a,1,none⟩=some x1∧W.cell? ⟨b,0,none⟩=some x2∧W.cell? ⟨b,1,none⟩=some x3) (hb:Below W.heap.size W W') :
  (a<B∧b<B∧B<=W'.heap.size)∧W'.cell? ⟨a,0,none⟩=some x0∧W'.cell? ⟨a,1,none⟩=some x1∧W'.cell? ⟨b,0,none⟩=some x2∧W'.cell? ⟨b,1,none⟩=some x3 :=
 ⟨⟨h.1.1,h.1.2.1,Nat.le_trans h.1.2.2 hb.size⟩,aF h.2.1 hb,aF h.2.2.1 hb,aF h.2.2.2.1 hb,aF h.2.2.2.2 hb⟩
theorem Hd {a b B:Nat} {x0 x1 x2 x3:Value} {W:World} (o:Obj) (h:(a<B∧b<B∧B<=W.heap.size)∧W.cell? ⟨a,0,none⟩=some x0∧W.cell? ⟨a,1,none⟩=some x1∧W.cell? ⟨b,0,none⟩=some x2∧W.cell? ⟨b,1,none⟩=some x3) :
  (a<B∧b<B∧B<=(W.alloc o).heap.size)∧(W.alloc o).cell? ⟨a,0,none⟩=some x0∧(W.alloc o).cell? ⟨a,1,none⟩=some x1∧(W.alloc o).cell? ⟨b,0,none⟩=some x2∧(W.alloc o).cell? ⟨b,1,none⟩=some x3:=nS h (ah _ _)
theorem uY {a b B:Nat} {x0 x1 x2 x3:Value} {W:World} (h:(a<B∧b<B∧B<=W.heap.size)∧W.cell? ⟨a,0,none⟩=some x0∧W.cell? ⟨a,1,none⟩=some x1∧W.cell? ⟨b,0,none⟩=some x2∧W.cell? ⟨b,1,none⟩=some x3) :
  (a<B∧b<B∧B<=W.drew.heap.size)∧W.drew.cell? ⟨a,0,none⟩=some x0∧W.drew.cell? ⟨a,1,none⟩=some x1∧W.drew.cell? ⟨b,0,none⟩=some x2∧W.drew.cell? ⟨b,1,none⟩=some x3:=h
theorem yJ {p q way:Int} (rp:aj p) (rq:aj q) (hp:ak p=true) (hq:ak q=true) (h:ce p q≠0) (hw:way≠0):gK way p q=dW way (ce p q):=by
 unfold gK
 have n1:¬ (way=0∨(ak p && ak q)=false):=fun k=>by
  rcases k with k | k
  ·exact hw k
  ·rw [hp,hq] at k; cases k
 rw [if_neg n1,if_pos h]
theorem cS {p q:Int} (hp:nn p) (hq:nn q):nn (dA p q)∧nn (dC p q):=by
 unfold dA dC
 by_cases h0:rg p=0∨rg q=0
 ·rw [if_pos h0,if_pos h0]; exact ⟨jx.1,jx.1⟩
 ·rw [if_neg h0,if_neg h0]
  by_cases hi:rg p=9218868437227405312∨rg q=9218868437227405312
  ·rw [if_pos hi,if_pos hi]; exact ⟨jW (by decide) (by decide),jW (by decide) (by decide)⟩
  ·rw [if_neg hi,if_neg hi]
   have pp:=eM hp (fun k=>hi (.inl k))
   have pq:=eM hq (fun k=>hi (.inr k))
   have hz:=tR hp.1 hq.1 pp pq (fun k=>h0 (.inl k)) (fun k=>h0 (.inr k))
   exact ⟨⟨(qW 1 hz).1,(qW 1 hz).2⟩,⟨(qW 2 hz).1,(qW 2 hz).2⟩⟩
theorem mU {p q:Int} (hp:nn p) (hq:nn q) (w:World) (H:aD w) :
  Calls Tryz.prog 76 #[.float .f64 (wd p),.float .f64 (wd q)] w fun e w'=>e=.returned (eJ (dA p q) (dC p q))∧Below w.heap.size w w':=by
 by_cases h0:rg p=0∨rg q=0
 ·have e1:dA p q=0:=by unfold dA; rw [if_pos h0]
  have e2:dC p q=0:=by unfold dC; rw [if_pos h0]
  rw [e1,e2]
  exact yE hp hq h0 w
 ·have p0:rg p≠0:=fun k=>h0 (.inl k)
  have q0:rg q≠0:=fun k=>h0 (.inr k)
  by_cases hi:rg p=9218868437227405312∨rg q=9218868437227405312
  ·obtain ⟨f1,f2⟩:=JV hp hq p0 q0 hi
   have hn:nn (aq p q):=by rw [f1]; exact jW (by decide) (by decide)
   have hd:283726776524341248<=rg (aq p q):=by rw [f1,(cW (by decide) (by decide)).2.1]; decide
   have:=tS hp hq p0 q0 hn hd w
   rw [f2,f1] at this
   have e1:dA p q=aC (bv p q) 9218868437227405312:=by unfold dA; rw [if_neg h0,if_pos hi]
   have e2:dC p q=aC (bv p q) 9218868437227405312:=by unfold dC; rw [if_neg h0,if_pos hi]
   have b1:dw (aC (bv p q) 9218868437227405312) 9221120237041090561=aC (bv p q) 9218868437227405312:=by unfold dw; rw [show bE 9221120237041090561 0=false by decide]; rfl
   have b2:dz (aC (bv p q) 9218868437227405312) 9221120237041090561=aC (bv p q) 9218868437227405312:=by unfold dz; rw [show bE 9221120237041090561 0=false by decide,show bE 0 9221120237041090561=false by decide]; rfl
   rw [b1,b2] at this
   rw [e1,e2]
   exact this
  ·have pp:=eM hp (fun k=>hi (.inl k))
   have pq:=eM hq (fun k=>hi (.inr k))
   have hz:=tR hp.1 hq.1 pp pq p0 q0
   have e1:dA p q=dW 1 (ce p q):=by unfold dA; rw [if_neg h0,if_neg hi]
   have e2:dC p q=dW 2 (ce p q):=by unfold dC; rw [if_neg h0,if_neg hi]
   have hN:=vY hp.1 hq.1 pp pq hz
   have hn:nn (aq p q):=by rw [hN]; exact ⟨(ef hz).1,(ef hz).2⟩
   rw [e1,e2]
   by_cases hd:rg (aq p q)<283726776524341248
   ·have:=yF hp hq p0 q0 hn hd w H
    rwa [yJ hp.1 hq.1 pp pq hz (by decide),yJ hp.1 hq.1 pp pq hz (by decide)] at this
   ·have:=tS hp hq p0 q0 hn (by omega) w
    obtain ⟨b1,b2⟩:=Lq hp.1 hq.1 pp pq p0 q0 (by omega)
    rwa [b1,b2] at this
theorem jy {w W:World} (h:Below w.heap.size w W) (o:Obj):Below w.heap.size w (W.alloc o):=h.alloc h.size o
theorem cV {w W:World} (h:Below w.heap.size w W) {g:Nat} {X:Obj} (k:w.heap[g]?=some X):W.heap[g]?=some X:=(h.block _ (Array.getElem?_eq_some_iff.1 k).1).trans k
end Go.Proofs.YtcjfonaolcokbaaGreatDoor
