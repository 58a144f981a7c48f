/-
  plumbref8: times, by its contract (tools/p8.py)
-/
import Derived.Test.YtjjihmnbdeeedaaGreatDoorMa17
import Derived.Deep.RegionHeld3
set_option maxRecDepth 100000
set_option maxHeartbeats 8000000
set_option linter.unusedVariables false
set_option linter.unusedSimpArgs false
namespace Go.Proofs.YtjjihmnbdeeedaaGreatDoor
open Go Go.Proofs.Tryz Go.RowKit Go.Proofs.YtjjihmnbdeeedaaGreatDoor.M
theorem tV {w:World} {v u:Value} {a b:En} (h:EA w v a) (k:EA w u b) (oa:a.ok) (ob:b.ok) (bA:Bd 4000 a.v) (bB:Bd 4000 b.v):Calls prog 110 #[v,u] w fun r w'=>∃ z,r=.returned z∧EA w' z (aJ a b)∧Below w.heap.size w w':=by
  have SA:Hid (∀ W,Below w.heap.size w W->Calls prog 113 #[v] W fun r w'=>r=.returned (G6 (cG a))∧Below W.heap.size W w'):=fun W hb=>wk (h.ev.keeps hb)
  have SB:Hid (∀ W,Below w.heap.size w W->Calls prog 113 #[u] W fun r w'=>r=.returned (G6 (cG b))∧Below W.heap.size W w'):=fun W hb=>wk (k.ev.keeps hb)
  obtain⟨a_g,a_o,a_n,a_c,a_e,rfl,a_D⟩:=h
  obtain⟨b_g,b_o,b_n,b_c,b_e,rfl,b_D⟩:=k
  have CA:Hid (∀ (x y:Value) W,br W x a.v->br W y b.v->Calls prog 151 #[x,y] W fun r w'=>∃ v,r=.returned v∧cB 0 w' (eO a.v b.v) v∧Below W.heap.size W w'):=fun x y W hx hy=>NU hx hy bA bB (by omega)
  have hk:wrap64 (cG a*cG b)=cG a*cG b:=by
    have b1:=mX oa
    have b2:=mX ob
    generalize cG a=s at *
    generalize cG b=t at *
    have h1:s=-1∨s=0∨s=1:=by omega
    have h2:t=-1∨t=0∨t=1:=by omega
    have h3:-1<=s*t∧s*t<=1:=by rcases h1 with rfl|rfl|rfl<;>rcases h2 with rfl|rfl|rfl<;>decide
    exact IntWalk.wrap64_in _ ⟨by omega,by omega⟩
  unfold aJ
  generalize cG a=sa at *
  generalize cG b=sb at *
  generalize eO a.v b.v=V at *
  obtain⟨kk,hK⟩:∃ kk,sa*sb=kk:=⟨_,rfl⟩
  have hk2:wrap64 (sa*sb)=kk:=hk.trans hK
  rw[hK]
  clear hK hk
  clear bA bB oa ob
  by_cases hz:kk=0
  · rw[if_pos hz]
    subst hz
    clear CA
    have hb:=ap w
    go_enter func110,ntmps110
    have p_k:(w.alloc (.cells #[G6 a.i,.bool a_g,.slice a_o a_n a_c,G6 a_e] 137)).heap[w.heap.size]?=some (.cells #[G6 a.i,.bool a_g,.slice a_o a_n a_c,G6 a_e] 137):=aE (.cells #[G6 a.i,.bool a_g,.slice a_o a_n a_c,G6 a_e] 137) (by simp only[aw])
    have a_D:=a_D.keeps (af w (.cells #[G6 a.i,.bool a_g,.slice a_o a_n a_c,G6 a_e] 137))
    have b_D:=b_D.keeps (af w (.cells #[G6 a.i,.bool a_g,.slice a_o a_n a_c,G6 a_e] 137))
    have hb:=ac hb (af w (.cells #[G6 a.i,.bool a_g,.slice a_o a_n a_c,G6 a_e] 137))
    have p_k:=am (.cells #[G6 b.i,.bool b_g,.slice b_o b_n b_c,G6 b_e] 137) p_k
    have q_k:((w.alloc (.cells #[G6 a.i,.bool a_g,.slice a_o a_n a_c,G6 a_e] 137)).alloc (.cells #[G6 b.i,.bool b_g,.slice b_o b_n b_c,G6 b_e] 137)).heap[w.heap.size+1]?=some (.cells #[G6 b.i,.bool b_g,.slice b_o b_n b_c,G6 b_e] 137):=aE (.cells #[G6 b.i,.bool b_g,.slice b_o b_n b_c,G6 b_e] 137) (by simp only[aw])
    have a_D:=a_D.keeps (af (w.alloc (.cells #[G6 a.i,.bool a_g,.slice a_o a_n a_c,G6 a_e] 137)) (.cells #[G6 b.i,.bool b_g,.slice b_o b_n b_c,G6 b_e] 137))
    have b_D:=b_D.keeps (af (w.alloc (.cells #[G6 a.i,.bool a_g,.slice a_o a_n a_c,G6 a_e] 137)) (.cells #[G6 b.i,.bool b_g,.slice b_o b_n b_c,G6 b_e] 137))
    have hb:=ac hb (af (w.alloc (.cells #[G6 a.i,.bool a_g,.slice a_o a_n a_c,G6 a_e] 137)) (.cells #[G6 b.i,.bool b_g,.slice b_o b_n b_c,G6 b_e] 137))
    have p_k:=am (.cells #[G6 0,.bool false,.slice none 0 0,G6 0] 137) p_k
    have q_k:=am (.cells #[G6 0,.bool false,.slice none 0 0,G6 0] 137) q_k
    have r_k:(((w.alloc (.cells #[G6 a.i,.bool a_g,.slice a_o a_n a_c,G6 a_e] 137)).alloc (.cells #[G6 b.i,.bool b_g,.slice b_o b_n b_c,G6 b_e] 137)).alloc (.cells #[G6 0,.bool false,.slice none 0 0,G6 0] 137)).heap[w.heap.size+1+1]?=some (.cells #[G6 0,.bool false,.slice none 0 0,G6 0] 137):=aE (.cells #[G6 0,.bool false,.slice none 0 0,G6 0] 137) (by simp only[aw])
    have a_D:=a_D.keeps (af ((w.alloc (.cells #[G6 a.i,.bool a_g,.slice a_o a_n a_c,G6 a_e] 137)).alloc (.cells #[G6 b.i,.bool b_g,.slice b_o b_n b_c,G6 b_e] 137)) (.cells #[G6 0,.bool false,.slice none 0 0,G6 0] 137))
    have b_D:=b_D.keeps (af ((w.alloc (.cells #[G6 a.i,.bool a_g,.slice a_o a_n a_c,G6 a_e] 137)).alloc (.cells #[G6 b.i,.bool b_g,.slice b_o b_n b_c,G6 b_e] 137)) (.cells #[G6 0,.bool false,.slice none 0 0,G6 0] 137))
    have hb:=ac hb (af ((w.alloc (.cells #[G6 a.i,.bool a_g,.slice a_o a_n a_c,G6 a_e] 137)).alloc (.cells #[G6 b.i,.bool b_g,.slice b_o b_n b_c,G6 b_e] 137)) (.cells #[G6 0,.bool false,.slice none 0 0,G6 0] 137))
    go_wp2_with fail
    generalize (((w.alloc (.cells #[G6 a.i,.bool a_g,.slice a_o a_n a_c,G6 a_e] 137)).alloc (.cells #[G6 b.i,.bool b_g,.slice b_o b_n b_c,G6 b_e] 137)).alloc (.cells #[G6 0,.bool false,.slice none 0 0,G6 0] 137))=x1 at p_k q_k r_k a_D b_D hb ⊢
    have KK:∀ W,Below x1.heap.size x1 W->W.cell? ⟨w.heap.size,0,none⟩=some (G6 a.i)∧W.cell? ⟨w.heap.size,1,none⟩=some (.bool a_g)∧W.cell? ⟨w.heap.size,2,none⟩=some (.slice a_o a_n a_c)∧W.cell? ⟨w.heap.size,3,none⟩=some (G6 a_e)∧W.cell? ⟨w.heap.size+1,0,none⟩=some (G6 b.i)∧W.cell? ⟨w.heap.size+1,1,none⟩=some (.bool b_g)∧W.cell? ⟨w.heap.size+1,2,none⟩=some (.slice b_o b_n b_c)∧W.cell? ⟨w.heap.size+1,3,none⟩=some (G6 b_e):=fun W hW=>⟨ar (ae p_k 0 rfl) hW,ar (ae p_k 1 rfl) hW,ar (ae p_k 2 rfl) hW,ar (ae p_k 3 rfl) hW,ar (ae q_k 0 rfl) hW,ar (ae q_k 1 rfl) hW,ar (ae q_k 2 rfl) hW,ar (ae q_k 3 rfl) hW⟩
    have B0:Below x1.heap.size x1 x1.drew:=(ap _).drew
    go_region_held3 (fun W=>W.cell? ⟨w.heap.size,0,none⟩=some (G6 a.i)∧W.cell? ⟨w.heap.size,1,none⟩=some (.bool a_g)∧W.cell? ⟨w.heap.size,2,none⟩=some (.slice a_o a_n a_c)∧W.cell? ⟨w.heap.size,3,none⟩=some (G6 a_e)∧W.cell? ⟨w.heap.size+1,0,none⟩=some (G6 b.i)∧W.cell? ⟨w.heap.size+1,1,none⟩=some (.bool b_g)∧W.cell? ⟨w.heap.size+1,2,none⟩=some (.slice b_o b_n b_c)∧W.cell? ⟨w.heap.size+1,3,none⟩=some (G6 b_e))
      (first|assumption|exact KK _ B0|exact KK _ B1|exact KK _ B2|fail)
      (first
        | (go_at_call 113;have _t:=hs1;refine(SB.out _ (ac hb B1)).mono ?_;rintro _ y3 ⟨rfl,hs2⟩;have B2:=ac B1 hs2)
        | (go_at_call 113; refine (SA.out _ (ac hb B0)).mono ?_; rintro _ y2 ⟨rfl,hs1⟩; have B1:=ac B0 hs1))
    have p_k:=aB B2 p_k
    have q_k:=aB B2 q_k
    have r_k:=aB B2 r_k
    have a_D:=a_D.keeps B2
    have b_D:=b_D.keeps B2
    have hb:=ac hb B2
    clear KK SA SB B0 B1 hs1 hs2
    have f_p0:=ae p_k 0 rfl
    have f_p1:=ae p_k 1 rfl
    have f_p2:=ae p_k 2 rfl
    have f_p3:=ae p_k 3 rfl
    have f_q0:=ae q_k 0 rfl
    have f_q1:=ae q_k 1 rfl
    have f_q2:=ae q_k 2 rfl
    have f_q3:=ae q_k 3 rfl
    have f_r0:=ae r_k 0 rfl
    have z_r0:=ah r_k 0
    have d_r0:=az r_k 0 (G6 0)
    have f_r1:=ae r_k 1 rfl
    have z_r1:=ah r_k 1
    have d_r1:=az d_r0 1 (.bool false)
    have f_r2:=ae r_k 2 rfl
    have z_r2:=ah r_k 2
    have d_r2:=az d_r1 2 (.slice none 0 0)
    have f_r3:=ae r_k 3 rfl
    have z_r3:=ah r_k 3
    have d_r3:=az d_r2 3 (G6 0)
    have e_r0:=ae d_r3 0 rfl
    have e_r1:=ae d_r3 1 rfl
    have e_r2:=ae d_r3 2 rfl
    have e_r3:=ae d_r3 3 rfl
    have hbe:=((((hb.setCell (p:=⟨w.heap.size+1+1,0,none⟩) (show w.heap.size<=w.heap.size+1+1 by omega) (G6 0)).setCell (p:=⟨w.heap.size+1+1,1,none⟩) (show w.heap.size<=w.heap.size+1+1 by omega) (.bool false)).setCell (p:=⟨w.heap.size+1+1,2,none⟩) (show w.heap.size<=w.heap.size+1+1 by omega) (.slice none 0 0)).setCell (p:=⟨w.heap.size+1+1,3,none⟩) (show w.heap.size<=w.heap.size+1+1 by omega) (G6 0))
    clear r_k d_r0 d_r1 d_r2 d_r3
    go_wp2
    refine bodyPost_ret (v:=.agg #[G6 0,.bool false,.slice none 0 0,G6 0]) (by simp[results,results110,go_sem,e_r0,e_r1,e_r2,e_r3,f_r0,f_r1,f_r2,f_r3]) rfl ⟨_,rfl,⟨_,_,_,_,_,rfl,oL _⟩,hbe⟩
  · rw[if_neg hz]
    have hz2:(kk == 0)=false:=by simp;exact hz
    by_cases ha:a.i=0
    · by_cases hb':b.i=0
      · rw[if_neg (by omega),ha,hb']
        rw[ha] at SA
        rw[hb'] at SB
        clear ha hb' hz
        have hb:=ap w
        go_enter func110,ntmps110
        have p_k:(w.alloc (.cells #[G6 0,.bool a_g,.slice a_o a_n a_c,G6 a_e] 137)).heap[w.heap.size]?=some (.cells #[G6 0,.bool a_g,.slice a_o a_n a_c,G6 a_e] 137):=aE (.cells #[G6 0,.bool a_g,.slice a_o a_n a_c,G6 a_e] 137) (by simp only[aw])
        have a_D:=a_D.keeps (af w (.cells #[G6 0,.bool a_g,.slice a_o a_n a_c,G6 a_e] 137))
        have b_D:=b_D.keeps (af w (.cells #[G6 0,.bool a_g,.slice a_o a_n a_c,G6 a_e] 137))
        have hb:=ac hb (af w (.cells #[G6 0,.bool a_g,.slice a_o a_n a_c,G6 a_e] 137))
        have p_k:=am (.cells #[G6 0,.bool b_g,.slice b_o b_n b_c,G6 b_e] 137) p_k
        have q_k:((w.alloc (.cells #[G6 0,.bool a_g,.slice a_o a_n a_c,G6 a_e] 137)).alloc (.cells #[G6 0,.bool b_g,.slice b_o b_n b_c,G6 b_e] 137)).heap[w.heap.size+1]?=some (.cells #[G6 0,.bool b_g,.slice b_o b_n b_c,G6 b_e] 137):=aE (.cells #[G6 0,.bool b_g,.slice b_o b_n b_c,G6 b_e] 137) (by simp only[aw])
        have a_D:=a_D.keeps (af (w.alloc (.cells #[G6 0,.bool a_g,.slice a_o a_n a_c,G6 a_e] 137)) (.cells #[G6 0,.bool b_g,.slice b_o b_n b_c,G6 b_e] 137))
        have b_D:=b_D.keeps (af (w.alloc (.cells #[G6 0,.bool a_g,.slice a_o a_n a_c,G6 a_e] 137)) (.cells #[G6 0,.bool b_g,.slice b_o b_n b_c,G6 b_e] 137))
        have hb:=ac hb (af (w.alloc (.cells #[G6 0,.bool a_g,.slice a_o a_n a_c,G6 a_e] 137)) (.cells #[G6 0,.bool b_g,.slice b_o b_n b_c,G6 b_e] 137))
        have p_k:=am (.cells #[G6 0,.bool false,.slice none 0 0,G6 0] 137) p_k
        have q_k:=am (.cells #[G6 0,.bool false,.slice none 0 0,G6 0] 137) q_k
        have r_k:(((w.alloc (.cells #[G6 0,.bool a_g,.slice a_o a_n a_c,G6 a_e] 137)).alloc (.cells #[G6 0,.bool b_g,.slice b_o b_n b_c,G6 b_e] 137)).alloc (.cells #[G6 0,.bool false,.slice none 0 0,G6 0] 137)).heap[w.heap.size+1+1]?=some (.cells #[G6 0,.bool false,.slice none 0 0,G6 0] 137):=aE (.cells #[G6 0,.bool false,.slice none 0 0,G6 0] 137) (by simp only[aw])
        have a_D:=a_D.keeps (af ((w.alloc (.cells #[G6 0,.bool a_g,.slice a_o a_n a_c,G6 a_e] 137)).alloc (.cells #[G6 0,.bool b_g,.slice b_o b_n b_c,G6 b_e] 137)) (.cells #[G6 0,.bool false,.slice none 0 0,G6 0] 137))
        have b_D:=b_D.keeps (af ((w.alloc (.cells #[G6 0,.bool a_g,.slice a_o a_n a_c,G6 a_e] 137)).alloc (.cells #[G6 0,.bool b_g,.slice b_o b_n b_c,G6 b_e] 137)) (.cells #[G6 0,.bool false,.slice none 0 0,G6 0] 137))
        have hb:=ac hb (af ((w.alloc (.cells #[G6 0,.bool a_g,.slice a_o a_n a_c,G6 a_e] 137)).alloc (.cells #[G6 0,.bool b_g,.slice b_o b_n b_c,G6 b_e] 137)) (.cells #[G6 0,.bool false,.slice none 0 0,G6 0] 137))
        go_wp2_with fail
        generalize (((w.alloc (.cells #[G6 0,.bool a_g,.slice a_o a_n a_c,G6 a_e] 137)).alloc (.cells #[G6 0,.bool b_g,.slice b_o b_n b_c,G6 b_e] 137)).alloc (.cells #[G6 0,.bool false,.slice none 0 0,G6 0] 137))=x1 at p_k q_k r_k a_D b_D hb ⊢
        have KK:∀ W,Below x1.heap.size x1 W->W.cell? ⟨w.heap.size,0,none⟩=some (G6 0)∧W.cell? ⟨w.heap.size,1,none⟩=some (.bool a_g)∧W.cell? ⟨w.heap.size,2,none⟩=some (.slice a_o a_n a_c)∧W.cell? ⟨w.heap.size,3,none⟩=some (G6 a_e)∧W.cell? ⟨w.heap.size+1,0,none⟩=some (G6 0)∧W.cell? ⟨w.heap.size+1,1,none⟩=some (.bool b_g)∧W.cell? ⟨w.heap.size+1,2,none⟩=some (.slice b_o b_n b_c)∧W.cell? ⟨w.heap.size+1,3,none⟩=some (G6 b_e):=fun W hW=>⟨ar (ae p_k 0 rfl) hW,ar (ae p_k 1 rfl) hW,ar (ae p_k 2 rfl) hW,ar (ae p_k 3 rfl) hW,ar (ae q_k 0 rfl) hW,ar (ae q_k 1 rfl) hW,ar (ae q_k 2 rfl) hW,ar (ae q_k 3 rfl) hW⟩
        have B0:Below x1.heap.size x1 x1.drew:=(ap _).drew
        go_region_held3 (fun W=>W.cell? ⟨w.heap.size,0,none⟩=some (G6 0)∧W.cell? ⟨w.heap.size,1,none⟩=some (.bool a_g)∧W.cell? ⟨w.heap.size,2,none⟩=some (.slice a_o a_n a_c)∧W.cell? ⟨w.heap.size,3,none⟩=some (G6 a_e)∧W.cell? ⟨w.heap.size+1,0,none⟩=some (G6 0)∧W.cell? ⟨w.heap.size+1,1,none⟩=some (.bool b_g)∧W.cell? ⟨w.heap.size+1,2,none⟩=some (.slice b_o b_n b_c)∧W.cell? ⟨w.heap.size+1,3,none⟩=some (G6 b_e))
          (first|assumption|exact KK _ B0|exact KK _ B1|exact KK _ B2|fail)
          (first
            | (go_at_call 113;have _t:=hs1;refine(SB.out _ (ac hb B1)).mono ?_;rintro _ y3 ⟨rfl,hs2⟩;have B2:=ac B1 hs2)
            | (go_at_call 113; refine (SA.out _ (ac hb B0)).mono ?_; rintro _ y2 ⟨rfl,hs1⟩; have B1:=ac B0 hs1))
        have p_k:=aB B2 p_k
        have q_k:=aB B2 q_k
        have r_k:=aB B2 r_k
        have a_D:=a_D.keeps B2
        have b_D:=b_D.keeps B2
        have hb:=ac hb B2
        clear KK SA SB B0 B1 hs1 hs2
        have f_p0:=ae p_k 0 rfl
        have f_p1:=ae p_k 1 rfl
        have f_p2:=ae p_k 2 rfl
        have f_p3:=ae p_k 3 rfl
        have f_q0:=ae q_k 0 rfl
        have f_q1:=ae q_k 1 rfl
        have f_q2:=ae q_k 2 rfl
        have f_q3:=ae q_k 3 rfl
        go_wp2_with fail
        clear f_p0 f_p1 f_p2 f_p3 f_q0 f_q1 f_q2 f_q3
        refine(CA.out _ _ _ a_D.num b_D.num).mono ?_
        rintro _ y4 ⟨v,rfl,n_D,hw⟩
        obtain⟨n_g,n_o,n_n,n_c,n_e,rfl⟩:=n_D.three
        have p_k:=aB hw p_k
        have q_k:=aB hw q_k
        have r_k:=aB hw r_k
        have a_D:=a_D.keeps hw
        have b_D:=b_D.keeps hw
        have hb:=ac hb hw
        have f_r0:=ae r_k 0 rfl
        have z_r0:=ah r_k 0
        have d_r0:=az r_k 0 (G6 0)
        have f_r1:=ae r_k 1 rfl
        have z_r1:=ah r_k 1
        have d_r1:=az d_r0 1 (.bool n_g)
        have f_r2:=ae r_k 2 rfl
        have z_r2:=ah r_k 2
        have d_r2:=az d_r1 2 (.slice n_o n_n n_c)
        have f_r3:=ae r_k 3 rfl
        have z_r3:=ah r_k 3
        have d_r3:=az d_r2 3 (G6 n_e)
        have e_r0:=ae d_r3 0 rfl
        have e_r1:=ae d_r3 1 rfl
        have e_r2:=ae d_r3 2 rfl
        have e_r3:=ae d_r3 3 rfl
        have hbe:=((((hb.setCell (p:=⟨w.heap.size+1+1,0,none⟩) (show w.heap.size<=w.heap.size+1+1 by omega) (G6 0)).setCell (p:=⟨w.heap.size+1+1,1,none⟩) (show w.heap.size<=w.heap.size+1+1 by omega) (.bool n_g)).setCell (p:=⟨w.heap.size+1+1,2,none⟩) (show w.heap.size<=w.heap.size+1+1 by omega) (.slice n_o n_n n_c)).setCell (p:=⟨w.heap.size+1+1,3,none⟩) (show w.heap.size<=w.heap.size+1+1 by omega) (G6 n_e))
        have n_E:=n_D
        replace n_E:=n_E.setT r_k (by decide) 0 (G6 0)
        replace n_E:=n_E.setT d_r0 (by decide) 1 (.bool n_g)
        replace n_E:=n_E.setT d_r1 (by decide) 2 (.slice n_o n_n n_c)
        replace n_E:=n_E.setT d_r2 (by decide) 3 (G6 n_e)
        clear r_k d_r0 d_r1 d_r2 d_r3
        go_wp2
        refine bodyPost_ret (v:=.agg #[G6 0,.bool n_g,.slice n_o n_n n_c,G6 n_e]) (by simp[results,results110,go_sem,e_r0,e_r1,e_r2,e_r3,f_r0,f_r1,f_r2,f_r3]) rfl ⟨_,rfl,⟨_,_,_,_,_,rfl,n_E⟩,hbe⟩
      · rw[if_pos (.inr hb'),ha]
        rw[ha] at SA
        have hb2:(b.i == 0)=false:=by simp;exact hb'
        clear ha hb' hz
        clear CA
        have hb:=ap w
        go_enter func110,ntmps110
        have p_k:(w.alloc (.cells #[G6 0,.bool a_g,.slice a_o a_n a_c,G6 a_e] 137)).heap[w.heap.size]?=some (.cells #[G6 0,.bool a_g,.slice a_o a_n a_c,G6 a_e] 137):=aE (.cells #[G6 0,.bool a_g,.slice a_o a_n a_c,G6 a_e] 137) (by simp only[aw])
        have a_D:=a_D.keeps (af w (.cells #[G6 0,.bool a_g,.slice a_o a_n a_c,G6 a_e] 137))
        have b_D:=b_D.keeps (af w (.cells #[G6 0,.bool a_g,.slice a_o a_n a_c,G6 a_e] 137))
        have hb:=ac hb (af w (.cells #[G6 0,.bool a_g,.slice a_o a_n a_c,G6 a_e] 137))
        have p_k:=am (.cells #[G6 b.i,.bool b_g,.slice b_o b_n b_c,G6 b_e] 137) p_k
        have q_k:((w.alloc (.cells #[G6 0,.bool a_g,.slice a_o a_n a_c,G6 a_e] 137)).alloc (.cells #[G6 b.i,.bool b_g,.slice b_o b_n b_c,G6 b_e] 137)).heap[w.heap.size+1]?=some (.cells #[G6 b.i,.bool b_g,.slice b_o b_n b_c,G6 b_e] 137):=aE (.cells #[G6 b.i,.bool b_g,.slice b_o b_n b_c,G6 b_e] 137) (by simp only[aw])
        have a_D:=a_D.keeps (af (w.alloc (.cells #[G6 0,.bool a_g,.slice a_o a_n a_c,G6 a_e] 137)) (.cells #[G6 b.i,.bool b_g,.slice b_o b_n b_c,G6 b_e] 137))
        have b_D:=b_D.keeps (af (w.alloc (.cells #[G6 0,.bool a_g,.slice a_o a_n a_c,G6 a_e] 137)) (.cells #[G6 b.i,.bool b_g,.slice b_o b_n b_c,G6 b_e] 137))
        have hb:=ac hb (af (w.alloc (.cells #[G6 0,.bool a_g,.slice a_o a_n a_c,G6 a_e] 137)) (.cells #[G6 b.i,.bool b_g,.slice b_o b_n b_c,G6 b_e] 137))
        have p_k:=am (.cells #[G6 0,.bool false,.slice none 0 0,G6 0] 137) p_k
        have q_k:=am (.cells #[G6 0,.bool false,.slice none 0 0,G6 0] 137) q_k
        have r_k:(((w.alloc (.cells #[G6 0,.bool a_g,.slice a_o a_n a_c,G6 a_e] 137)).alloc (.cells #[G6 b.i,.bool b_g,.slice b_o b_n b_c,G6 b_e] 137)).alloc (.cells #[G6 0,.bool false,.slice none 0 0,G6 0] 137)).heap[w.heap.size+1+1]?=some (.cells #[G6 0,.bool false,.slice none 0 0,G6 0] 137):=aE (.cells #[G6 0,.bool false,.slice none 0 0,G6 0] 137) (by simp only[aw])
        have a_D:=a_D.keeps (af ((w.alloc (.cells #[G6 0,.bool a_g,.slice a_o a_n a_c,G6 a_e] 137)).alloc (.cells #[G6 b.i,.bool b_g,.slice b_o b_n b_c,G6 b_e] 137)) (.cells #[G6 0,.bool false,.slice none 0 0,G6 0] 137))
        have b_D:=b_D.keeps (af ((w.alloc (.cells #[G6 0,.bool a_g,.slice a_o a_n a_c,G6 a_e] 137)).alloc (.cells #[G6 b.i,.bool b_g,.slice b_o b_n b_c,G6 b_e] 137)) (.cells #[G6 0,.bool false,.slice none 0 0,G6 0] 137))
        have hb:=ac hb (af ((w.alloc (.cells #[G6 0,.bool a_g,.slice a_o a_n a_c,G6 a_e] 137)).alloc (.cells #[G6 b.i,.bool b_g,.slice b_o b_n b_c,G6 b_e] 137)) (.cells #[G6 0,.bool false,.slice none 0 0,G6 0] 137))
        go_wp2_with fail
        generalize (((w.alloc (.cells #[G6 0,.bool a_g,.slice a_o a_n a_c,G6 a_e] 137)).alloc (.cells #[G6 b.i,.bool b_g,.slice b_o b_n b_c,G6 b_e] 137)).alloc (.cells #[G6 0,.bool false,.slice none 0 0,G6 0] 137))=x1 at p_k q_k r_k a_D b_D hb ⊢
        have KK:∀ W,Below x1.heap.size x1 W->W.cell? ⟨w.heap.size,0,none⟩=some (G6 0)∧W.cell? ⟨w.heap.size,1,none⟩=some (.bool a_g)∧W.cell? ⟨w.heap.size,2,none⟩=some (.slice a_o a_n a_c)∧W.cell? ⟨w.heap.size,3,none⟩=some (G6 a_e)∧W.cell? ⟨w.heap.size+1,0,none⟩=some (G6 b.i)∧W.cell? ⟨w.heap.size+1,1,none⟩=some (.bool b_g)∧W.cell? ⟨w.heap.size+1,2,none⟩=some (.slice b_o b_n b_c)∧W.cell? ⟨w.heap.size+1,3,none⟩=some (G6 b_e):=fun W hW=>⟨ar (ae p_k 0 rfl) hW,ar (ae p_k 1 rfl) hW,ar (ae p_k 2 rfl) hW,ar (ae p_k 3 rfl) hW,ar (ae q_k 0 rfl) hW,ar (ae q_k 1 rfl) hW,ar (ae q_k 2 rfl) hW,ar (ae q_k 3 rfl) hW⟩
        have B0:Below x1.heap.size x1 x1.drew:=(ap _).drew
        go_region_held3 (fun W=>W.cell? ⟨w.heap.size,0,none⟩=some (G6 0)∧W.cell? ⟨w.heap.size,1,none⟩=some (.bool a_g)∧W.cell? ⟨w.heap.size,2,none⟩=some (.slice a_o a_n a_c)∧W.cell? ⟨w.heap.size,3,none⟩=some (G6 a_e)∧W.cell? ⟨w.heap.size+1,0,none⟩=some (G6 b.i)∧W.cell? ⟨w.heap.size+1,1,none⟩=some (.bool b_g)∧W.cell? ⟨w.heap.size+1,2,none⟩=some (.slice b_o b_n b_c)∧W.cell? ⟨w.heap.size+1,3,none⟩=some (G6 b_e))
          (first|assumption|exact KK _ B0|exact KK _ B1|exact KK _ B2|fail)
          (first
            | (go_at_call 113;have _t:=hs1;refine(SB.out _ (ac hb B1)).mono ?_;rintro _ y3 ⟨rfl,hs2⟩;have B2:=ac B1 hs2)
            | (go_at_call 113; refine (SA.out _ (ac hb B0)).mono ?_; rintro _ y2 ⟨rfl,hs1⟩; have B1:=ac B0 hs1))
        have p_k:=aB B2 p_k
        have q_k:=aB B2 q_k
        have r_k:=aB B2 r_k
        have a_D:=a_D.keeps B2
        have b_D:=b_D.keeps B2
        have hb:=ac hb B2
        clear KK SA SB B0 B1 hs1 hs2
        have f_p0:=ae p_k 0 rfl
        have f_p1:=ae p_k 1 rfl
        have f_p2:=ae p_k 2 rfl
        have f_p3:=ae p_k 3 rfl
        have f_q0:=ae q_k 0 rfl
        have f_q1:=ae q_k 1 rfl
        have f_q2:=ae q_k 2 rfl
        have f_q3:=ae q_k 3 rfl
        have f_r0:=ae r_k 0 rfl
        have z_r0:=ah r_k 0
        have d_r0:=az r_k 0 (G6 kk)
        have f_r1:=ae r_k 1 rfl
        have z_r1:=ah r_k 1
        have d_r1:=az d_r0 1 (.bool false)
        have f_r2:=ae r_k 2 rfl
        have z_r2:=ah r_k 2
        have d_r2:=az d_r1 2 (.slice none 0 0)
        have f_r3:=ae r_k 3 rfl
        have z_r3:=ah r_k 3
        have d_r3:=az d_r2 3 (G6 0)
        have e_r0:=ae d_r3 0 rfl
        have e_r1:=ae d_r3 1 rfl
        have e_r2:=ae d_r3 2 rfl
        have e_r3:=ae d_r3 3 rfl
        have hbe:=((((hb.setCell (p:=⟨w.heap.size+1+1,0,none⟩) (show w.heap.size<=w.heap.size+1+1 by omega) (G6 kk)).setCell (p:=⟨w.heap.size+1+1,1,none⟩) (show w.heap.size<=w.heap.size+1+1 by omega) (.bool false)).setCell (p:=⟨w.heap.size+1+1,2,none⟩) (show w.heap.size<=w.heap.size+1+1 by omega) (.slice none 0 0)).setCell (p:=⟨w.heap.size+1+1,3,none⟩) (show w.heap.size<=w.heap.size+1+1 by omega) (G6 0))
        clear r_k d_r0 d_r1 d_r2 d_r3
        go_wp2
        refine bodyPost_ret (v:=.agg #[G6 kk,.bool false,.slice none 0 0,G6 0]) (by simp[results,results110,go_sem,e_r0,e_r1,e_r2,e_r3,f_r0,f_r1,f_r2,f_r3]) rfl ⟨_,rfl,⟨_,_,_,_,_,rfl,oL _⟩,hbe⟩
    · rw[if_pos (.inl ha)]
      have ha2:(a.i == 0)=false:=by simp;exact ha
      clear ha hz
      clear CA
      have hb:=ap w
      go_enter func110,ntmps110
      have p_k:(w.alloc (.cells #[G6 a.i,.bool a_g,.slice a_o a_n a_c,G6 a_e] 137)).heap[w.heap.size]?=some (.cells #[G6 a.i,.bool a_g,.slice a_o a_n a_c,G6 a_e] 137):=aE (.cells #[G6 a.i,.bool a_g,.slice a_o a_n a_c,G6 a_e] 137) (by simp only[aw])
      have a_D:=a_D.keeps (af w (.cells #[G6 a.i,.bool a_g,.slice a_o a_n a_c,G6 a_e] 137))
      have b_D:=b_D.keeps (af w (.cells #[G6 a.i,.bool a_g,.slice a_o a_n a_c,G6 a_e] 137))
      have hb:=ac hb (af w (.cells #[G6 a.i,.bool a_g,.slice a_o a_n a_c,G6 a_e] 137))
      have p_k:=am (.cells #[G6 b.i,.bool b_g,.slice b_o b_n b_c,G6 b_e] 137) p_k
      have q_k:((w.alloc (.cells #[G6 a.i,.bool a_g,.slice a_o a_n a_c,G6 a_e] 137)).alloc (.cells #[G6 b.i,.bool b_g,.slice b_o b_n b_c,G6 b_e] 137)).heap[w.heap.size+1]?=some (.cells #[G6 b.i,.bool b_g,.slice b_o b_n b_c,G6 b_e] 137):=aE (.cells #[G6 b.i,.bool b_g,.slice b_o b_n b_c,G6 b_e] 137) (by simp only[aw])
      have a_D:=a_D.keeps (af (w.alloc (.cells #[G6 a.i,.bool a_g,.slice a_o a_n a_c,G6 a_e] 137)) (.cells #[G6 b.i,.bool b_g,.slice b_o b_n b_c,G6 b_e] 137))
      have b_D:=b_D.keeps (af (w.alloc (.cells #[G6 a.i,.bool a_g,.slice a_o a_n a_c,G6 a_e] 137)) (.cells #[G6 b.i,.bool b_g,.slice b_o b_n b_c,G6 b_e] 137))
      have hb:=ac hb (af (w.alloc (.cells #[G6 a.i,.bool a_g,.slice a_o a_n a_c,G6 a_e] 137)) (.cells #[G6 b.i,.bool b_g,.slice b_o b_n b_c,G6 b_e] 137))
      have p_k:=am (.cells #[G6 0,.bool false,.slice none 0 0,G6 0] 137) p_k
      have q_k:=am (.cells #[G6 0,.bool false,.slice none 0 0,G6 0] 137) q_k
      have r_k:(((w.alloc (.cells #[G6 a.i,.bool a_g,.slice a_o a_n a_c,G6 a_e] 137)).alloc (.cells #[G6 b.i,.bool b_g,.slice b_o b_n b_c,G6 b_e] 137)).alloc (.cells #[G6 0,.bool false,.slice none 0 0,G6 0] 137)).heap[w.heap.size+1+1]?=some (.cells #[G6 0,.bool false,.slice none 0 0,G6 0] 137):=aE (.cells #[G6 0,.bool false,.slice none 0 0,G6 0] 137) (by simp only[aw])
      have a_D:=a_D.keeps (af ((w.alloc (.cells #[G6 a.i,.bool a_g,.slice a_o a_n a_c,G6 a_e] 137)).alloc (.cells #[G6 b.i,.bool b_g,.slice b_o b_n b_c,G6 b_e] 137)) (.cells #[G6 0,.bool false,.slice none 0 0,G6 0] 137))
      have b_D:=b_D.keeps (af ((w.alloc (.cells #[G6 a.i,.bool a_g,.slice a_o a_n a_c,G6 a_e] 137)).alloc (.cells #[G6 b.i,.bool b_g,.slice b_o b_n b_c,G6 b_e] 137)) (.cells #[G6 0,.bool false,.slice none 0 0,G6 0] 137))
      have hb:=ac hb (af ((w.alloc (.cells #[G6 a.i,.bool a_g,.slice a_o a_n a_c,G6 a_e] 137)).alloc (.cells #[G6 b.i,.bool b_g,.slice b_o b_n b_c,G6 b_e] 137)) (.cells #[G6 0,.bool false,.slice none 0 0,G6 0] 137))
      go_wp2_with fail
      generalize (((w.alloc (.cells #[G6 a.i,.bool a_g,.slice a_o a_n a_c,G6 a_e] 137)).alloc (.cells #[G6 b.i,.bool b_g,.slice b_o b_n b_c,G6 b_e] 137)).alloc (.cells #[G6 0,.bool false,.slice none 0 0,G6 0] 137))=x1 at p_k q_k r_k a_D b_D hb ⊢
      have KK:∀ W,Below x1.heap.size x1 W->W.cell? ⟨w.heap.size,0,none⟩=some (G6 a.i)∧W.cell? ⟨w.heap.size,1,none⟩=some (.bool a_g)∧W.cell? ⟨w.heap.size,2,none⟩=some (.slice a_o a_n a_c)∧W.cell? ⟨w.heap.size,3,none⟩=some (G6 a_e)∧W.cell? ⟨w.heap.size+1,0,none⟩=some (G6 b.i)∧W.cell? ⟨w.heap.size+1,1,none⟩=some (.bool b_g)∧W.cell? ⟨w.heap.size+1,2,none⟩=some (.slice b_o b_n b_c)∧W.cell? ⟨w.heap.size+1,3,none⟩=some (G6 b_e):=fun W hW=>⟨ar (ae p_k 0 rfl) hW,ar (ae p_k 1 rfl) hW,ar (ae p_k 2 rfl) hW,ar (ae p_k 3 rfl) hW,ar (ae q_k 0 rfl) hW,ar (ae q_k 1 rfl) hW,ar (ae q_k 2 rfl) hW,ar (ae q_k 3 rfl) hW⟩
      have B0:Below x1.heap.size x1 x1.drew:=(ap _).drew
      go_region_held3 (fun W=>W.cell? ⟨w.heap.size,0,none⟩=some (G6 a.i)∧W.cell? ⟨w.heap.size,1,none⟩=some (.bool a_g)∧W.cell? ⟨w.heap.size,2,none⟩=some (.slice a_o a_n a_c)∧W.cell? ⟨w.heap.size,3,none⟩=some (G6 a_e)∧W.cell? ⟨w.heap.size+1,0,none⟩=some (G6 b.i)∧W.cell? ⟨w.heap.size+1,1,none⟩=some (.bool b_g)∧W.cell? ⟨w.heap.size+1,2,none⟩=some (.slice b_o b_n b_c)∧W.cell? ⟨w.heap.size+1,3,none⟩=some (G6 b_e))
        (first|assumption|exact KK _ B0|exact KK _ B1|exact KK _ B2|fail)
        (first
          | (go_at_call 113;have _t:=hs1;refine(SB.out _ (ac hb B1)).mono ?_;rintro _ y3 ⟨rfl,hs2⟩;have B2:=ac B1 hs2)
          | (go_at_call 113; refine (SA.out _ (ac hb B0)).mono ?_; rintro _ y2 ⟨rfl,hs1⟩; have B1:=ac B0 hs1))
      have p_k:=aB B2 p_k
      have q_k:=aB B2 q_k
      have r_k:=aB B2 r_k
      have a_D:=a_D.keeps B2
      have b_D:=b_D.keeps B2
      have hb:=ac hb B2
      clear KK SA SB B0 B1 hs1 hs2
      have f_p0:=ae p_k 0 rfl
      have f_p1:=ae p_k 1 rfl
      have f_p2:=ae p_k 2 rfl
      have f_p3:=ae p_k 3 rfl
      have f_q0:=ae q_k 0 rfl
      have f_q1:=ae q_k 1 rfl
      have f_q2:=ae q_k 2 rfl
      have f_q3:=ae q_k 3 rfl
      have f_r0:=ae r_k 0 rfl
      have z_r0:=ah r_k 0
      have d_r0:=az r_k 0 (G6 kk)
      have f_r1:=ae r_k 1 rfl
      have z_r1:=ah r_k 1
      have d_r1:=az d_r0 1 (.bool false)
      have f_r2:=ae r_k 2 rfl
      have z_r2:=ah r_k 2
      have d_r2:=az d_r1 2 (.slice none 0 0)
      have f_r3:=ae r_k 3 rfl
      have z_r3:=ah r_k 3
      have d_r3:=az d_r2 3 (G6 0)
      have e_r0:=ae d_r3 0 rfl
      have e_r1:=ae d_r3 1 rfl
      have e_r2:=ae d_r3 2 rfl
      have e_r3:=ae d_r3 3 rfl
      have hbe:=((((hb.setCell (p:=⟨w.heap.size+1+1,0,none⟩) (show w.heap.size<=w.heap.size+1+1 by omega) (G6 kk)).setCell (p:=⟨w.heap.size+1+1,1,none⟩) (show w.heap.size<=w.heap.size+1+1 by omega) (.bool false)).setCell (p:=⟨w.heap.size+1+1,2,none⟩) (show w.heap.size<=w.heap.size+1+1 by omega) (.slice none 0 0)).setCell (p:=⟨w.heap.size+1+1,3,none⟩) (show w.heap.size<=w.heap.size+1+1 by omega) (G6 0))
      clear r_k d_r0 d_r1 d_r2 d_r3
      go_wp2
      refine bodyPost_ret (v:=.agg #[G6 kk,.bool false,.slice none 0 0,G6 0]) (by simp[results,results110,go_sem,e_r0,e_r1,e_r2,e_r3,f_r0,f_r1,f_r2,f_r3]) rfl ⟨_,rfl,⟨_,_,_,_,_,rfl,oL _⟩,hbe⟩
end Go.Proofs.YtjjihmnbdeeedaaGreatDoor
