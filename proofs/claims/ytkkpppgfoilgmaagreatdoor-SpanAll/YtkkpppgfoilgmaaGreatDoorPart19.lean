/- Parts of the proof. -/
import Derived.Test.YtkkpppgfoilgmaaGreatDoorPart17
import Derived.Test.YtkkpppgfoilgmaaGreatDoorPart18
import Derived.Test.YtkkpppgfoilgmaaGreatDoorPart6
import Derived.Test.YtkkpppgfoilgmaaGreatDoorPart8
import Derived.Test.YtkkpppgfoilgmaaGreatDoorPart4
import Derived.Test.YtkkpppgfoilgmaaGreatDoorPart3
import Derived.Test.YtkkpppgfoilgmaaGreatDoorPart1
import Derived.Test.YtkkpppgfoilgmaaGreatDoorPart11
import Derived.Test.YtkkpppgfoilgmaaGreatDoorPart7
import Derived.Test.YtkkpppgfoilgmaaGreatDoorPart5
import Derived.Deep.RegionHeld3
set_option maxRecDepth 100000
set_option maxHeartbeats 8000000
set_option linter.unusedVariables false
set_option linter.unusedSimpArgs false
namespace Go.Proofs.YtkkpppgfoilgmaaGreatDoor
open Go Go.Proofs.Tryz Go.RowKit Go.Proofs.YtkkpppgfoilgmaaGreatDoor.M
def EV (w:World) (v:Value) (a:En):Prop:=∃ g so sn sc e,v=.agg #[.int .i64 a.i,.bool g,.slice so sn sc,.int .i64 e]∧bk w (.agg #[.bool g,.slice so sn sc,.int .i64 e]) a.v
def EA (w:World) (v:Value) (a:En):Prop:=∃ g so sn sc e,v=.agg #[.int .i64 a.i,.bool g,.slice so sn sc,.int .i64 e]∧bH 0 w a.v (.agg #[.bool g,.slice so sn sc,.int .i64 e])
theorem EA.ev {w:World} {v:Value} {a:En} (h:EA w v a):EV w v a:=by
 obtain⟨g,so,sn,sc,e,h1,h2⟩:=h
 exact⟨g,so,sn,sc,e,h1,h2.num⟩
theorem EV.keeps {w w':World} {v:Value} {a:En} (h:EV w v a) (hb:Below w.heap.size w w'):EV w' v a:=by
 obtain⟨g,so,sn,sc,e,h1,h2⟩:=h
 exact⟨g,so,sn,sc,e,h1,h2.keeps hb⟩
theorem EA.keeps {w w':World} {v:Value} {a:En} (h:EA w v a) (hb:Below w.heap.size w w'):EA w' v a:=by
 obtain⟨g,so,sn,sc,e,h1,h2⟩:=h
 exact⟨g,so,sn,sc,e,h1,h2.keeps hb⟩
theorem bH.setT {B:Nat} {w:World} {V:Int} {v:Value} (h:bH B w V v) {g:Nat} {xs:Array Value} {t:TypeId} {z:Nat × Nat} (hg:w.heap[g]?=some (.cells xs t z)) (ht:t≠3) (o:Nat) (u:Value):bH B (w.setCell ⟨g,o,none⟩ u) V v :=
  h.of_blocks fun g' cur z' hc=>heap_setCell_other _ ⟨g,o,none⟩ g' u (by
    show g'≠g
    rintro rfl
    rw[hg] at hc
    simp at hc
    exact ht hc.2.1)
theorem i5 (w:World):bH 0 w 0 (.agg #[.bool false,.slice none 0 0,.int .i64 0]):=((bv.zero (ap w)).dan).lower (Nat.zero_le _)
theorem AF {b:Int} (h:nn b):aE b=3↔rg b=9218868437227405312:=by
 have hr:=fd h
 obtain⟨h0,h1⟩:=fY h.1
 have h2:=jc b
 have h3:=jP b
 have h4:=h.2
 unfold aE at h4 ⊢
 by_cases a:bN b=2047
 ·rw[if_pos a] at h4 ⊢
  by_cases c:bZ b=0
  ·rw[if_pos c];omega
  ·rw[if_neg c] at h4;exact absurd rfl h4
 ·rw[if_neg a]
  split
  ·split<;>omega
  ·omega
theorem cA {b:Int} (hn:nn b) (w:World):Calls prog 40 #[.int .i64 b] w fun r w'=>∃ v,r=.returned v∧EA w' v (ag b)∧Below w.heap.size w w':=by
 have CC:Hid (∀ W,Calls prog 39 #[.int .i64 b] W fun e w'=>e=.returned (.int .i64 (aE b))∧w'=W):=fun W=>gg b W hn.1
 by_cases hi:rg b=9218868437227405312
 ·have h3:=(AF hn).2 hi
  rw[h3] at CC
  rw[dS hi]
  clear hi h3 hn
  by_cases h0:b<0
  ·rw[if_pos h0]
   have hb:=ap w
   go_enter func40,ntmps40
   have r_k:(w.alloc (.cells #[.int .i64 0,.bool false,.slice none 0 0,.int .i64 0] 68)).heap[w.heap.size]?=some (.cells #[.int .i64 0,.bool false,.slice none 0 0,.int .i64 0] 68):=av (.cells #[.int .i64 0,.bool false,.slice none 0 0,.int .i64 0] 68) (by simp only[ak])
   have hb:=ab hb (ae w (.cells #[.int .i64 0,.bool false,.slice none 0 0,.int .i64 0] 68))
   go_wp2_with fail
   generalize (w.alloc (.cells #[.int .i64 0,.bool false,.slice none 0 0,.int .i64 0] 68))=x1 at r_k hb ⊢
   refine(CC.out _).mono ?_
   rintro _ _ ⟨rfl,rfl⟩
   have f_r0:=aa r_k 0 rfl
   have z_r0:=af r_k 0
   have d_r0:=aj r_k 0 (.int .i64 (-1))
   have f_r1:=aa r_k 1 rfl
   have z_r1:=af r_k 1
   have d_r1:=aj d_r0 1 (.bool false)
   have f_r2:=aa r_k 2 rfl
   have z_r2:=af r_k 2
   have d_r2:=aj d_r1 2 (.slice none 0 0)
   have f_r3:=aa r_k 3 rfl
   have z_r3:=af r_k 3
   have d_r3:=aj d_r2 3 (.int .i64 0)
   have e_r0:=aa d_r3 0 rfl
   have e_r1:=aa d_r3 1 rfl
   have e_r2:=aa d_r3 2 rfl
   have e_r3:=aa d_r3 3 rfl
   have hbe:=((((hb.setCell (p:=⟨w.heap.size,0,none⟩) (show w.heap.size<=w.heap.size by omega) (.int .i64 (-1))).setCell (p:=⟨w.heap.size,1,none⟩) (show w.heap.size<=w.heap.size by omega) (.bool false)).setCell (p:=⟨w.heap.size,2,none⟩) (show w.heap.size<=w.heap.size by omega) (.slice none 0 0)).setCell (p:=⟨w.heap.size,3,none⟩) (show w.heap.size<=w.heap.size by omega) (.int .i64 0))
   clear r_k d_r0 d_r1 d_r2 d_r3
   go_wp2
   refine bodyPost_ret (v:=.agg #[.int .i64 (-1),.bool false,.slice none 0 0,.int .i64 0]) (by simp[results,results40,go_sem,e_r0,e_r1,e_r2,e_r3]) rfl ⟨_,rfl,⟨_,_,_,_,_,rfl,i5 _⟩,hbe⟩
  ·rw[if_neg h0]
   have hb:=ap w
   go_enter func40,ntmps40
   have r_k:(w.alloc (.cells #[.int .i64 0,.bool false,.slice none 0 0,.int .i64 0] 68)).heap[w.heap.size]?=some (.cells #[.int .i64 0,.bool false,.slice none 0 0,.int .i64 0] 68):=av (.cells #[.int .i64 0,.bool false,.slice none 0 0,.int .i64 0] 68) (by simp only[ak])
   have hb:=ab hb (ae w (.cells #[.int .i64 0,.bool false,.slice none 0 0,.int .i64 0] 68))
   go_wp2_with fail
   generalize (w.alloc (.cells #[.int .i64 0,.bool false,.slice none 0 0,.int .i64 0] 68))=x1 at r_k hb ⊢
   refine(CC.out _).mono ?_
   rintro _ _ ⟨rfl,rfl⟩
   have f_r0:=aa r_k 0 rfl
   have z_r0:=af r_k 0
   have d_r0:=aj r_k 0 (.int .i64 1)
   have f_r1:=aa r_k 1 rfl
   have z_r1:=af r_k 1
   have d_r1:=aj d_r0 1 (.bool false)
   have f_r2:=aa r_k 2 rfl
   have z_r2:=af r_k 2
   have d_r2:=aj d_r1 2 (.slice none 0 0)
   have f_r3:=aa r_k 3 rfl
   have z_r3:=af r_k 3
   have d_r3:=aj d_r2 3 (.int .i64 0)
   have e_r0:=aa d_r3 0 rfl
   have e_r1:=aa d_r3 1 rfl
   have e_r2:=aa d_r3 2 rfl
   have e_r3:=aa d_r3 3 rfl
   have hbe:=((((hb.setCell (p:=⟨w.heap.size,0,none⟩) (show w.heap.size<=w.heap.size by omega) (.int .i64 1)).setCell (p:=⟨w.heap.size,1,none⟩) (show w.heap.size<=w.heap.size by omega) (.bool false)).setCell (p:=⟨w.heap.size,2,none⟩) (show w.heap.size<=w.heap.size by omega) (.slice none 0 0)).setCell (p:=⟨w.heap.size,3,none⟩) (show w.heap.size<=w.heap.size by omega) (.int .i64 0))
   clear r_k d_r0 d_r1 d_r2 d_r3
   go_wp2
   refine bodyPost_ret (v:=.agg #[.int .i64 1,.bool false,.slice none 0 0,.int .i64 0]) (by simp[results,results40,go_sem,e_r0,e_r1,e_r2,e_r3]) rfl ⟨_,rfl,⟨_,_,_,_,_,rfl,i5 _⟩,hbe⟩
 ·have hp:=cX hn hi
  have h3:(aE b == 3)=false:=by
   have:=fun q=>hi ((AF hn).1 q)
   simp;exact this
  have CO:Hid (∀ W,Calls prog 62 #[.int .i64 b] W fun r w'=>∃ v,r=.returned v∧bv W w' (aF b) v):=fun W=>BV b W hn.1 hp
  rw[dG hi]
  generalize aF b=V at *
  obtain⟨c,hc⟩:∃ c,aE b=c:=⟨_,rfl⟩
  rw[hc] at CC h3
  clear hi hn hp hc
  have hb:=ap w
  go_enter func40,ntmps40
  have r_k:(w.alloc (.cells #[.int .i64 0,.bool false,.slice none 0 0,.int .i64 0] 68)).heap[w.heap.size]?=some (.cells #[.int .i64 0,.bool false,.slice none 0 0,.int .i64 0] 68):=av (.cells #[.int .i64 0,.bool false,.slice none 0 0,.int .i64 0] 68) (by simp only[ak])
  have hb:=ab hb (ae w (.cells #[.int .i64 0,.bool false,.slice none 0 0,.int .i64 0] 68))
  go_wp2_with fail
  generalize (w.alloc (.cells #[.int .i64 0,.bool false,.slice none 0 0,.int .i64 0] 68))=x1 at r_k hb ⊢
  refine(CC.out _).mono ?_
  rintro _ _ ⟨rfl,rfl⟩
  go_wp2_with fail
  refine(CO.out _).mono ?_
  rintro _ y2 ⟨v,rfl,hD⟩
  obtain⟨n_g,n_o,n_n,n_c,n_e,rfl⟩:=oz hD
  have hw:=hD.below
  have n_D:=hD.dan.lower (Nat.zero_le _)
  have r_k:=ac hw r_k
  have hb:=ab hb hw
  have f_r0:=aa r_k 0 rfl
  have z_r0:=af r_k 0
  have d_r0:=aj r_k 0 (.int .i64 0)
  have f_r1:=aa r_k 1 rfl
  have z_r1:=af r_k 1
  have d_r1:=aj d_r0 1 (.bool n_g)
  have f_r2:=aa r_k 2 rfl
  have z_r2:=af r_k 2
  have d_r2:=aj d_r1 2 (.slice n_o n_n n_c)
  have f_r3:=aa r_k 3 rfl
  have z_r3:=af r_k 3
  have d_r3:=aj d_r2 3 (.int .i64 n_e)
  have e_r0:=aa d_r3 0 rfl
  have e_r1:=aa d_r3 1 rfl
  have e_r2:=aa d_r3 2 rfl
  have e_r3:=aa d_r3 3 rfl
  have hbe:=((((hb.setCell (p:=⟨w.heap.size,0,none⟩) (show w.heap.size<=w.heap.size by omega) (.int .i64 0)).setCell (p:=⟨w.heap.size,1,none⟩) (show w.heap.size<=w.heap.size by omega) (.bool n_g)).setCell (p:=⟨w.heap.size,2,none⟩) (show w.heap.size<=w.heap.size by omega) (.slice n_o n_n n_c)).setCell (p:=⟨w.heap.size,3,none⟩) (show w.heap.size<=w.heap.size by omega) (.int .i64 n_e))
  have n_E:=n_D
  replace n_E:=n_E.setT r_k (by decide) 0 (.int .i64 0)
  replace n_E:=n_E.setT d_r0 (by decide) 1 (.bool n_g)
  replace n_E:=n_E.setT d_r1 (by decide) 2 (.slice n_o n_n n_c)
  replace n_E:=n_E.setT d_r2 (by decide) 3 (.int .i64 n_e)
  clear r_k d_r0 d_r1 d_r2 d_r3
  go_wp2
  refine bodyPost_ret (v:=.agg #[.int .i64 0,.bool n_g,.slice n_o n_n n_c,.int .i64 n_e]) (by simp[results,results40,go_sem,e_r0,e_r1,e_r2,e_r3]) rfl ⟨_,rfl,⟨_,_,_,_,_,rfl,n_E⟩,hbe⟩
theorem gS {w:World} {v:Value} {a:En} (h:EV w v a):Calls prog 51 #[v] w fun r w'=>r=.returned (.int .i64 (a5 a))∧Below w.heap.size w w':=by
 obtain⟨a_g,a_o,a_n,a_c,a_e,rfl,a_D⟩:=h
 obtain⟨l0,lm⟩:=z7 a_D
 have hsg:sgn a_g a_n=fc a.v:=by
  have hz:=l0
  obtain⟨ng,s,m,e',h1,hy,hN⟩:=a_D
  simp only[Value.agg.injEq,Array.mk.injEq,List.cons.injEq,Value.bool.injEq,Value.int.injEq,true_and,and_true] at h1
  obtain⟨rfl,_,_⟩:=h1
  have hn:=hy.neg_iff
  unfold sgn fc
  by_cases q:a_n=0
  ·rw[if_pos q,hz.1 q];rfl
  ·have qv:a.v≠0:=fun k=>q (hz.2 k)
   rw[if_neg q]
   cases a_g
   ·have:¬ a.v<0:=fun k=>by have:=hn.2 k;cases this
    rw[if_neg (by simp),if_neg this,if_pos (by omega)]
   ·rw[if_pos rfl,if_pos (hn.1 rfl)]
 have CS:Hid (∀ W,Calls prog 73 #[.agg #[.bool a_g,.slice a_o a_n a_c,.int .i64 a_e]] W fun r w'=>r=.returned (.int .i64 (fc a.v))∧Below W.heap.size W w'):=fun W=>by
  have:=lP a_g a_o a_n a_c a_e W lm
  rw[hsg] at this
  exact this
 unfold a5
 generalize fc a.v=S at *
 obtain⟨ai,hai⟩:∃ ai,a.i=ai:=⟨_,rfl⟩
 rw[hai]
 clear l0 lm hsg a_D hai
 by_cases hi:ai=0
 ·rw[if_neg (fun k=>k hi)]
  subst hi
  have hb:=ap w
  go_enter func51,ntmps51
  have a_k:(w.alloc (.cells #[.int .i64 0,.bool a_g,.slice a_o a_n a_c,.int .i64 a_e] 68)).heap[w.heap.size]?=some (.cells #[.int .i64 0,.bool a_g,.slice a_o a_n a_c,.int .i64 a_e] 68):=av (.cells #[.int .i64 0,.bool a_g,.slice a_o a_n a_c,.int .i64 a_e] 68) (by simp only[ak])
  have hb:=ab hb (ae w (.cells #[.int .i64 0,.bool a_g,.slice a_o a_n a_c,.int .i64 a_e] 68))
  have f_a0:=aa a_k 0 rfl
  have f_a1:=aa a_k 1 rfl
  have f_a2:=aa a_k 2 rfl
  have f_a3:=aa a_k 3 rfl
  go_wp2_with fail
  clear f_a0 f_a1 f_a2 f_a3
  generalize (w.alloc (.cells #[.int .i64 0,.bool a_g,.slice a_o a_n a_c,.int .i64 a_e] 68))=x1 at a_k hb ⊢
  refine(CS.out _).mono ?_
  rintro _ y2 ⟨rfl,hw⟩
  have a_k:=ac hw a_k
  have hb:=ab hb hw
  go_wp2
  go_ret
  exact⟨rfl,hb⟩
 ·rw[if_pos hi]
  have hb:=ap w
  go_enter func51,ntmps51
  have a_k:=aB w (.cells #[.int .i64 ai,.bool a_g,.slice a_o a_n a_c,.int .i64 a_e] 68)
  have f0:=aa a_k 0 rfl
  have hi2:(ai == 0)=false:=by simp;exact hi
  clear hi
  go_wp2
  go_ret
  exact⟨rfl,ae w _⟩
theorem Eb (x y:aI) (w:World) (hx:aL w x.ao x.n x.cap x.d) (hy:aL w y.ao y.n y.cap y.d) (ox:cr x=true) (oy:cr y=true) {K:Nat} (hK:K<=560000) (bx:Bd K x.V) (bY:Bd K y.V) :
  Calls prog 63 #[x.v,y.v] w fun r w'=>r=.returned (.int .i64 (bS x.V y.V))∧Below w.heap.size w w':=by
 have nx:∀ W,Below w.heap.size w W->bk W x.v x.V:=fun W hb=>⟨_,_,_,_,rfl,(gQ ox).1,_,_,_,_,rfl,hx.keeps hb,(bG ox).1,rfl⟩
 have ny:∀ W,Below w.heap.size w W->bk W y.opp.v (-y.V):=fun W hb=>by
  obtain⟨e1,e2⟩:=q7 oy
  rw[e1] at e2
  exact⟨_,_,_,_,rfl,e2,_,_,_,_,rfl,hy.keeps hb,(bG oy).1,rfl⟩
 have C1:∀ W,Below w.heap.size w W->Calls prog 82 #[x.v,y.v] W fun r w'=>∃ ng so sn sc e,r=.returned (.agg #[.bool ng,.slice so sn sc,.int .i64 e])∧sgn ng sn=bS x.V y.V∧sn<=9223372036854775807∧Below W.heap.size W w':=fun W hb=>by
  refine(xR x y W (hx.keeps hb) (hy.keeps hb) ox oy hK bx bY).mono ?_
  rintro r w' ⟨v,rfl,h⟩
  obtain⟨ng,so,sn,sc,e,rfl⟩:=h.shape
  obtain⟨s1,s2⟩:=uy (h.num (nx W hb) (ny W hb))
  refine⟨_,_,_,_,_,rfl,?_,s2,h.1⟩
  rw[s1]
  have:=t5 x.V y.V
  rw[<- this]
  congr 1
 obtain⟨VV,hVV⟩:∃ V,V=bS x.V y.V:=⟨_,rfl⟩
 rw[<- hVV] at C1 ⊢
 clear nx ny bx bY hVV ox oy
 obtain⟨an,ao,n,ca,a,e⟩:=x
 obtain⟨bn,bo,m,cb,b,f⟩:=y
 unfold aI.v at *
 simp only at *
 go_enter func63,ntmps63
 go_wp2_with fail
 refine(C1 _ (ar _ _ _)).mono ?_
 rintro r w1 ⟨ng,so,sn,sc,e1,rfl,hs,hm,hb1⟩
 have HS:Hid (sgn ng sn=VV):=hs
 clear hs
 go_wp2_with fail
 refine(lP ng so sn sc e1 _ hm).mono ?_
 rintro r w2 ⟨rfl,hb2⟩
 go_wp2
 go_ret
 exact⟨ck HS.out,ab (ab (ar _ _ _) hb1) hb2⟩
theorem Ec {w:World} {x y:Value} {A B:Int} (hx:bk w x A) (hy:bk w y B) {K:Nat} (hK:K<=28000) (bA:Bd K A) (bB:Bd K B):Calls prog 63 #[x,y] w fun r w'=>r=.returned (.int .i64 (bS A B))∧Below w.heap.size w w':=by
 obtain⟨x,rfl,hR,ok,rfl⟩:=hx.open (bA.ok (by omega))
 obtain⟨y,rfl,hR',ok',rfl⟩:=hy.open (bB.ok (by omega))
 exact Eb x y w hR hR' ok ok' (K:=K) (by omega) bA bB
theorem mL {w:World} {v u:Value} {a b:En} (h:EV w v a) (k:EV w u b) (CM:Hid (a.i=0->b.i=0->∀ (x y:Value) W,bk W x a.v->bk W y b.v->Calls prog 63 #[x,y] W fun r w'=>r=.returned (.int .i64 (bS a.v b.v))∧Below W.heap.size W w')):Calls prog 41 #[v,u] w fun r w'=>r=.returned (.int .i64 (cc a b))∧Below w.heap.size w w':=by
 obtain⟨a_g,a_o,a_n,a_c,a_e,rfl,a_D⟩:=h
 obtain⟨b_g,b_o,b_n,b_c,b_e,rfl,b_D⟩:=k
 unfold cc
 by_cases h1:a.i=b.i
 ·rw[if_neg (fun q=>q h1)]
  by_cases h2:a.i=0
  ·rw[if_neg (fun q=>q h2)]
   replace CM:=aA (CM.out h2 (h1 ▸ h2))
   have e2:b.i=0:=h1 ▸ h2
   rw[h2,e2]
   generalize bS a.v b.v=O at *
   have hb:=ap w
   go_enter func41,ntmps41
   have p_k:(w.alloc (.cells #[.int .i64 0,.bool a_g,.slice a_o a_n a_c,.int .i64 a_e] 68)).heap[w.heap.size]?=some (.cells #[.int .i64 0,.bool a_g,.slice a_o a_n a_c,.int .i64 a_e] 68):=av (.cells #[.int .i64 0,.bool a_g,.slice a_o a_n a_c,.int .i64 a_e] 68) (by simp only[ak])
   have a_D:=a_D.keeps (ae w (.cells #[.int .i64 0,.bool a_g,.slice a_o a_n a_c,.int .i64 a_e] 68))
   have b_D:=b_D.keeps (ae w (.cells #[.int .i64 0,.bool a_g,.slice a_o a_n a_c,.int .i64 a_e] 68))
   have hb:=ab hb (ae w (.cells #[.int .i64 0,.bool a_g,.slice a_o a_n a_c,.int .i64 a_e] 68))
   have p_k:=ah (.cells #[.int .i64 0,.bool b_g,.slice b_o b_n b_c,.int .i64 b_e] 68) p_k
   have q_k:((w.alloc (.cells #[.int .i64 0,.bool a_g,.slice a_o a_n a_c,.int .i64 a_e] 68)).alloc (.cells #[.int .i64 0,.bool b_g,.slice b_o b_n b_c,.int .i64 b_e] 68)).heap[w.heap.size+1]?=some (.cells #[.int .i64 0,.bool b_g,.slice b_o b_n b_c,.int .i64 b_e] 68):=av (.cells #[.int .i64 0,.bool b_g,.slice b_o b_n b_c,.int .i64 b_e] 68) (by simp only[ak])
   have a_D:=a_D.keeps (ae (w.alloc (.cells #[.int .i64 0,.bool a_g,.slice a_o a_n a_c,.int .i64 a_e] 68)) (.cells #[.int .i64 0,.bool b_g,.slice b_o b_n b_c,.int .i64 b_e] 68))
   have b_D:=b_D.keeps (ae (w.alloc (.cells #[.int .i64 0,.bool a_g,.slice a_o a_n a_c,.int .i64 a_e] 68)) (.cells #[.int .i64 0,.bool b_g,.slice b_o b_n b_c,.int .i64 b_e] 68))
   have hb:=ab hb (ae (w.alloc (.cells #[.int .i64 0,.bool a_g,.slice a_o a_n a_c,.int .i64 a_e] 68)) (.cells #[.int .i64 0,.bool b_g,.slice b_o b_n b_c,.int .i64 b_e] 68))
   have f_p0:=aa p_k 0 rfl
   have f_p1:=aa p_k 1 rfl
   have f_p2:=aa p_k 2 rfl
   have f_p3:=aa p_k 3 rfl
   have f_q0:=aa q_k 0 rfl
   have f_q1:=aa q_k 1 rfl
   have f_q2:=aa q_k 2 rfl
   have f_q3:=aa q_k 3 rfl
   go_wp2_with fail
   clear f_p0 f_p1 f_p2 f_p3 f_q0 f_q1 f_q2 f_q3
   generalize ((w.alloc (.cells #[.int .i64 0,.bool a_g,.slice a_o a_n a_c,.int .i64 a_e] 68)).alloc (.cells #[.int .i64 0,.bool b_g,.slice b_o b_n b_c,.int .i64 b_e] 68))=x1 at p_k q_k a_D b_D hb ⊢
   refine(CM.out _ _ _ a_D b_D).mono ?_
   rintro _ y2 ⟨rfl,hw⟩
   have p_k:=ac hw p_k
   have q_k:=ac hw q_k
   have a_D:=a_D.keeps hw
   have b_D:=b_D.keeps hw
   have hb:=ab hb hw
   go_wp2
   go_ret
   exact⟨rfl,hb⟩
  ·rw[if_pos h2,<- h1]
   clear CM
   generalize a.i=ai at *
   have h2':(ai == 0)=false:=by simp;exact h2
   clear h1 h2
   have hb:=ap w
   go_enter func41,ntmps41
   have p_k:=aU w (.cells #[.int .i64 ai,.bool a_g,.slice a_o a_n a_c,.int .i64 a_e] 68) (.cells #[.int .i64 ai,.bool b_g,.slice b_o b_n b_c,.int .i64 b_e] 68)
   have q_k:=aR w (.cells #[.int .i64 ai,.bool a_g,.slice a_o a_n a_c,.int .i64 a_e] 68) (.cells #[.int .i64 ai,.bool b_g,.slice b_o b_n b_c,.int .i64 b_e] 68)
   have f0:=aa p_k 0 rfl
   have f1:=aa q_k 0 rfl
   clear p_k q_k a_D b_D
   go_wp2
   go_ret
   exact⟨rfl,ar w _ _⟩
 ·rw[if_pos h1]
  clear CM
  generalize a.i=ai at *
  generalize b.i=bi at *
  have h1':(ai == bi)=false:=by simp;exact h1
  clear h1
  by_cases h3:ai<bi
  ·rw[if_pos h3]
   have hb:=ap w
   go_enter func41,ntmps41
   have p_k:=aU w (.cells #[.int .i64 ai,.bool a_g,.slice a_o a_n a_c,.int .i64 a_e] 68) (.cells #[.int .i64 bi,.bool b_g,.slice b_o b_n b_c,.int .i64 b_e] 68)
   have q_k:=aR w (.cells #[.int .i64 ai,.bool a_g,.slice a_o a_n a_c,.int .i64 a_e] 68) (.cells #[.int .i64 bi,.bool b_g,.slice b_o b_n b_c,.int .i64 b_e] 68)
   have f0:=aa p_k 0 rfl
   have f1:=aa q_k 0 rfl
   clear p_k q_k a_D b_D
   go_wp2
   go_ret
   exact⟨rfl,ar w _ _⟩
  ·rw[if_neg h3]
   have hb:=ap w
   go_enter func41,ntmps41
   have p_k:=aU w (.cells #[.int .i64 ai,.bool a_g,.slice a_o a_n a_c,.int .i64 a_e] 68) (.cells #[.int .i64 bi,.bool b_g,.slice b_o b_n b_c,.int .i64 b_e] 68)
   have q_k:=aR w (.cells #[.int .i64 ai,.bool a_g,.slice a_o a_n a_c,.int .i64 a_e] 68) (.cells #[.int .i64 bi,.bool b_g,.slice b_o b_n b_c,.int .i64 b_e] 68)
   have f0:=aa p_k 0 rfl
   have f1:=aa q_k 0 rfl
   clear p_k q_k a_D b_D
   go_wp2
   go_ret
   exact⟨rfl,ar w _ _⟩
theorem mY {w:World} {v u:Value} {a b:En} (h:EV w v a) (k:EV w u b) {K:Nat} (hK:K<=28000) (bA:Bd K a.v) (bB:Bd K b.v):Calls prog 41 #[v,u] w fun r w'=>r=.returned (.int .i64 (cc a b))∧Below w.heap.size w w' :=
 mL h k (fun _ _ x y W hx hy=>Ec hx hy hK bA bB)
end Go.Proofs.YtkkpppgfoilgmaaGreatDoor
namespace Go.Proofs.YtkkpppgfoilgmaaGreatDoor
open Go Go.Proofs.Tryz Go.Proofs.YtkkpppgfoilgmaaGreatDoor.M
def cH (M:Nat) (low:Int):Bool:=decide (0<low)&&lx M (low-1).toNat
def cR (M:Nat) (more:Bool) (low:Int):Bool:=more||(decide (1<low)&&decide (M % 2^(low-1).toNat≠0))
theorem z8 {M:Nat} {more:Bool} {low:Int} (hc:more=true->0<low):rL M more low=if cH M low then (if cR M more low then 3 else 2) else (if cR M more low then 1 else 0):=by
 by_cases h:low<=0
 ·have hm:more=false:=by
   cases more
   ·rfl
   ·have:=hc rfl;omega
  unfold rL cH cR
  rw[if_pos h,decide_eq_false (show ¬ 0<low by omega),decide_eq_false (show ¬ 1<low by omega),hm]
  rfl
 ·obtain⟨s,rfl⟩:∃ s:Nat,low=(s:Int)+1:=⟨(low-1).toNat,by omega⟩
  have e1:((s:Int)+1-1).toNat=s:=by omega
  have e2:((s:Int)+1).toNat=s+1:=by omega
  unfold rL cH cR
  rw[if_neg h,e1,e2,decide_eq_true (show(0:Int)<(s:Int)+1 by omega),Bool.true_and]
  have hb:lx (M:Int) s=decide (M/2^s % 2=1):=by
   unfold lx
   have:(M:Int)/2^s % 2=((M/2^s % 2:Nat):Int):=by simp
   rw[this]
   rcases Nat.mod_two_eq_zero_or_one (M/2^s) with q|q<;>rw[q]<;>rfl
  rw[hb]
  have hs:M % 2^(s+1)=M/2^s % 2*2^s+M % 2^s:=by
   rw[Nat.pow_succ,Nat.mod_mul]
   rw[Nat.mul_comm,Nat.add_comm]
  have hr:(decide ((1:Int)<(s:Int)+1)&&decide (M % 2^s≠0))=decide (M % 2^s≠0):=by
   cases s with
   | zero=>simp[Nat.mod_one]
   | succ k=>rw[decide_eq_true (show(1:Int)<((k+1:Nat):Int)+1 by omega),Bool.true_and]
  rw[hr,hs,Nat.pow_succ]
  have hlt:=Nat.mod_lt M (Nat.two_pow_pos s)
  generalize M % 2^s=t at *
  generalize 2^s=q at *
  rcases Nat.mod_two_eq_zero_or_one (M/q) with p|p
  ·rw[p]
   cases more
   ·by_cases t0:t=0
    ·simp[t0]
    ·simp[t0]
     omega
   ·simp
    omega
  ·rw[p]
   cases more
   ·by_cases t0:t=0
    ·subst t0
     simp
     omega
    ·simp[t0]
     omega
   ·simp
    omega
theorem z9 {M:Nat} {l:Int} {s:Nat} (h:lu M l) (h0:M≠0):(0<=l∧l<s)↔M % 2^s≠0:=by
 rcases h with⟨h,_⟩|⟨k,rfl,m,hm⟩
 ·omega
 ·have hm0:0<=m:=by
   rcases Int.lt_or_le m 0 with q|q
   ·have h2:=aJ k
    have:(2*m+1)*2^k<0:=Int.mul_neg_of_neg_of_pos (by omega) h2
    omega
   ·exact q
  obtain⟨c,rfl⟩:=Int.eq_ofNat_of_zero_le hm0
  have hM:M=(2*c+1)*2^k:=by
   have:((M:Nat):Int)=(((2*c+1)*2^k:Nat):Int):=by rw[hm];push_cast;rfl
   exact Int.ofNat.inj this
  constructor
  ·rintro⟨_,hk⟩ hz
   obtain⟨j,rfl⟩:∃ j,s=k+(j+1):=⟨s-k-1,by omega⟩
   have hd:2^(k+(j+1)) ∣ (2*c+1)*2^k:=by rw[<- hM];exact Nat.dvd_of_mod_eq_zero hz
   rw[Nat.pow_add,Nat.mul_comm (2*c+1)] at hd
   have hd2:=Nat.dvd_of_mul_dvd_mul_left (Nat.two_pow_pos k) hd
   obtain⟨x,hx⟩:=hd2
   rw[Nat.pow_succ,Nat.mul_assoc,Nat.mul_left_comm] at hx
   omega
  ·intro hz
   refine⟨by omega,?_⟩
   rcases Int.lt_or_le (k:Int) s with q|q
   ·exact q
   ·exfalso
    apply hz
    obtain⟨j,rfl⟩:∃ j,k=s+j:=⟨k-s,by omega⟩
    rw[hM,Nat.pow_add,Nat.mul_left_comm]
    exact Nat.mul_mod_right _ _
def cE (sz lowE:Int) (M:Nat) (exp:Int):Int:=max ((aH M:Int)+exp-sz) lowE
theorem lQ {M:Nat} (h0:M≠0):1<=aH M∧2^(aH M-1)<=M∧M<2^aH M:=by
 obtain⟨h1,h2⟩:=gX (V:=(M:Int)) (by omega)
 have h3:=iP (M:Int)
 refine⟨h1,?_,?_⟩
 ·have:((2^(aH M-1):Nat):Int)<=(M:Int):=by simpa using h2
  exact Int.ofNat_le.1 this
 ·have:(M:Int)<((2^aH M:Nat):Int):=by simpa using h3
  exact Int.ofNat_lt.1 this
theorem uz {sz lowE:Int} {M:Nat} {exp:Int} (hs:0<sz) (h0:M≠0):rU M (cE sz lowE M exp-exp)<2^sz.toNat∧(lowE<cE sz lowE M exp->2^(sz.toNat-1)<=rU M (cE sz lowE M exp-exp)):=by
 obtain⟨b0,b1,b2⟩:=lQ h0
 obtain⟨n,hn⟩:∃ n,aH M=n:=⟨_,rfl⟩
 obtain⟨z,rfl⟩:∃ z:Nat,sz=z:=⟨sz.toNat,by omega⟩
 unfold cE rU
 rw[hn] at b0 b1 b2 ⊢
 rw[Int.toNat_natCast]
 obtain⟨e,he⟩:∃ e,max ((n:Int)+exp-(z:Int)) lowE=e:=⟨_,rfl⟩
 have he1:(n:Int)+exp-z<=e:=by omega
 have he2:lowE<e->e=n+exp-z:=by omega
 rw[he]
 by_cases hse:e-exp<=0
 ·rw[if_pos hse]
  obtain⟨k,hk⟩:∃ k,(-(e-exp)).toNat=k:=⟨_,rfl⟩
  rw[hk]
  refine⟨?_,fun hl=>?_⟩
  ·calc M*2^k<2^n*2^k:=Nat.mul_lt_mul_of_pos_right b2 (Nat.two_pow_pos k)
    _=2^(n+k):=by rw[Nat.pow_add]
    _<=2^z:=Nat.pow_le_pow_right (by decide) (by omega)
  ·have:=he2 hl
   calc 2^(z-1)<=2^(n-1+k):=Nat.pow_le_pow_right (by decide) (by omega)
    _=2^(n-1)*2^k:=by rw[Nat.pow_add]
    _<=M*2^k:=Nat.mul_le_mul_right _ b1
 ·rw[if_neg hse]
  obtain⟨k,hk⟩:∃ k,(e-exp).toNat=k:=⟨_,rfl⟩
  rw[hk]
  refine⟨?_,fun hl=>?_⟩
  ·rw[Nat.div_lt_iff_lt_mul (Nat.two_pow_pos k),<- Nat.pow_add]
   exact Nat.lt_of_lt_of_le b2 (Nat.pow_le_pow_right (by decide) (by omega))
  ·have:=he2 hl
   rw[Nat.le_div_iff_mul_le (Nat.two_pow_pos k),<- Nat.pow_add]
   exact Nat.le_trans (Nat.pow_le_pow_right (by decide) (by omega)) b1
def cU (sz lowE way:Int) (ng:Bool) (M:Nat) (exp:Int) (more:Bool):Nat :=
 rU M (cE sz lowE M exp-exp)+(if bm way ng (decide (rU M (cE sz lowE M exp-exp) % 2=1)) (rL M more (cE sz lowE M exp-exp)) then 1 else 0)
def cO (sz lowE high way:Int) (ng:Bool) (M:Nat) (exp:Int) (more:Bool):Bool :=
 decide (2^(sz.toNat-1)<=cU sz lowE way ng M exp more)&&decide (high<(aH (cU sz lowE way ng M exp more):Int)+cE sz lowE M exp)
def cS (sgn:Int) (ng:Bool):Int:=if ng then sgn else 0
theorem Aa {way:Int} {ng:Bool} {A:Int} {M:Nat} {exp:Int} {more:Bool} (hA:l9 A M exp more) (h0:M≠0) (he:-4194304<=exp) (hc:more=true->2^60<=M) :
  ∃ (r0:Nat) (left:Int),cZ A r0 left∧(if cO 53 (-1074) 1024 way ng M exp more then cS (-9223372036854775808) ng+(if bm way ng true 3 then 9218868437227405312 else 9218868437227405311) else cS (-9223372036854775808) ng+jp false (cU 53 (-1074) way ng M exp more) (cE 53 (-1074) M exp))=ay ng (aX way ng r0 left) ∧
   (cO 53 (-1074) 1024 way ng M exp more||(decide (rL M more (cE 53 (-1074) M exp-exp)≠0)))=(decide (left≠0)||decide (9218868437227405312<=(r0:Int))):=by
 obtain⟨b0,b1,b2⟩:=lQ h0
 have hbits:=uz (sz:=53) (lowE:=-1074) (exp:=exp) (by decide) h0
 have hE1:-1074<=cE 53 (-1074) M exp:=by unfold cE;omega
 have hcs:more=true->0<cE 53 (-1074) M exp-exp:=fun h=>by
  have h1:=hc h
  have h2:60<aH M:=by
   have:=(Nat.pow_lt_pow_iff_right (by decide:1<2)).1 (Nat.lt_of_le_of_lt h1 b2)
   exact this
  unfold cE
  omega
 have hL:=tK hA hcs (by omega) he
 unfold cO cU
 obtain⟨E,hE⟩:∃ E,cE 53 (-1074) M exp=E:=⟨_,rfl⟩
 rw[hE] at hbits hE1 hL ⊢
 obtain⟨u,hu⟩:∃ u,rU M (E-exp)=u:=⟨_,rfl⟩
 obtain⟨left,hl⟩:∃ l,rL M more (E-exp)=l:=⟨_,rfl⟩
 rw[hu] at hbits hL ⊢
 rw[hl] at hL ⊢
 obtain⟨a,ha⟩:∃ a,(E - -1074).toNat=a:=⟨_,rfl⟩
 have e53:(2:Nat)^(53:Int).toNat=9007199254740992:=by decide
 have e52:(2:Nat)^((53:Int).toNat-1)=4503599627370496:=by decide
 rw[e53,e52] at hbits
 rw[e52]
 have eB:Ieee.double.binade=4503599627370496:=by decide
 have hV:=kQ Ieee.double a u (by rw[eB];omega) (fun h=>by rw[eB];exact hbits.2 (by omega))
 rw[eB] at hV
 have hpw:pw E=2^a*pw (-1074):=by rw[jQ (e:=E) (low:=-1074) (by decide) hE1,ha]
 rw[hpw] at hL
 refine⟨a*4503599627370496+u,left,mj hL hV.1 hV.2,?_⟩
 have hodd:decide ((a*4503599627370496+u) % 2=1)=decide (u % 2=1):=by congr 1;apply propext;omega
 unfold aX
 rw[hodd]
 obtain⟨R,hR⟩:∃ R,bm way ng (decide (u % 2=1)) left=R:=⟨_,rfl⟩
 rw[hR]
 obtain⟨U,hU⟩:∃ U,u+(if R=true then 1 else 0)=U:=⟨_,rfl⟩
 rw[hU]
 have hR1:R=true->left≠0:=fun h hz=>by rw[hz,h] at hR;exact fz hR
 have hR2:R=true->bm way ng true 3=true:=fun h=>nU (hR.trans h)
 have hUle:U<=9007199254740992:=by rw[<- hU];split<;>omega
 have hcast:((a*4503599627370496+u:Nat):Int)+(if R=true then 1 else 0)=((a*4503599627370496+U:Nat):Int):=by
  rw[<- hU]
  cases R<;>simp only[if_true,if_false,Bool.false_eq_true]<;>omega
 rw[hcast]
 have huU:u<=U:=by rw[<- hU];omega
 have hO:(decide (4503599627370496<=U)&&decide (1024<(aH (U:Int):Int)+E))=decide (9218868437227405312<=((a*4503599627370496+U:Nat):Int)):=by
  have hsub:U<4503599627370496->a=0:=fun h=>by
   rcases Nat.eq_zero_or_pos a with q|q
   ·exact q
   ·have:=hbits.2 (by omega);omega
  have hEa:E=(a:Int)-1074:=by omega
  by_cases c1:4503599627370496<=U
  ·rw[decide_eq_true c1,Bool.true_and]
   by_cases c2:U=9007199254740992
   ·have:aH (U:Int)=54:=kR (k:=53) (by rw[show(2:Int)^53=9007199254740992 from rfl];omega) (by rw[show(2:Int)^(53+1)=18014398509481984 from rfl];omega)
    rw[this]
    congr 1
    apply propext
    omega
   ·have:aH (U:Int)=53:=kR (k:=52) (by rw[show(2:Int)^52=4503599627370496 from rfl];omega) (by rw[show(2:Int)^(52+1)=9007199254740992 from rfl];omega)
    rw[this]
    congr 1
    apply propext
    omega
  ·rw[decide_eq_false c1,Bool.false_and]
   have:=hsub (by omega)
   symm
   rw[decide_eq_false]
   omega
 rw[hO]
 by_cases hf:((a*4503599627370496+U:Nat):Int)<9218868437227405312
 ·have hf0:((a*4503599627370496+u:Nat):Int)<9218868437227405312:=by omega
  rw[decide_eq_false (show ¬ 9218868437227405312<=((a*4503599627370496+U:Nat):Int) by omega),if_neg (by decide),if_pos hf0,decide_eq_false (p:=9218868437227405312<=((a*4503599627370496+u:Nat):Int)) (by omega),Bool.or_false,Bool.false_or]
  refine⟨?_,rfl⟩
  have hjp:jp false (U:Int) E=((a*4503599627370496+U:Nat):Int):=by
   by_cases hU0:U=0
   ·have hu0:u=0:=by omega
    have ha0:a=0:=by
     rcases Nat.eq_zero_or_pos a with h|h
     ·exact h
     ·have:=hbits.2 (by omega);omega
    subst hU0 ha0
    rfl
   ·have hjr:=pZ Ieee.double 52 (by decide) dB 2047 (-1074) (by decide) U E (by omega) (by rw[show(2:Nat)^(52+1)=9007199254740992 by decide];exact hUle) hE1 (fun h=>by rw[show(2:Nat)^52=4503599627370496 by decide];have:=hbits.2 h;omega)
    simp only at hjr
    rw[ha,show(2:Nat)^52=4503599627370496 by decide,show(2047:Int)*2^52=9218868437227405312 by decide] at hjr
    obtain⟨j1,j2⟩:=hjr
    rw[show jk ((52:Nat):Int) 2047 (-1074) (U:Int) E=jk 52 2047 (-1074) (U:Int) E from rfl,decide_eq_true hf] at j1
    have hjv:=j2 hf
    rw[show jv ((52:Nat):Int) 2047 (-1074) (U:Int) E=jv 52 2047 (-1074) (U:Int) E from rfl] at hjv
    unfold jp
    rw[j1,hjv]
    rfl
  rw[hjp]
  unfold cS ay
  cases ng<;>simp<;>omega
 ·rw[decide_eq_true (show 9218868437227405312<=((a*4503599627370496+U:Nat):Int) by omega),if_pos rfl,Bool.true_or]
  by_cases hf0:((a*4503599627370496+u:Nat):Int)<9218868437227405312
  ·have hRt:R=true:=by
    cases R
    ·exfalso;simp at hU;omega
    ·rfl
   have hUe:((a*4503599627370496+U:Nat):Int)=9218868437227405312:=by rw[hRt] at hU;simp at hU;omega
   rw[if_pos hf0,hUe,decide_eq_true (hR1 hRt),Bool.true_or,hR2 hRt,if_pos rfl]
   refine⟨?_,rfl⟩
   unfold cS ay
   cases ng<;>simp
  ·rw[if_neg hf0,decide_eq_true (p:=9218868437227405312<=((a*4503599627370496+u:Nat):Int)) (by omega),Bool.or_true]
   refine⟨?_,rfl⟩
   unfold cS ay cL
   cases ng<;>simp<;>split<;>omega
end Go.Proofs.YtkkpppgfoilgmaaGreatDoor
namespace Go.Proofs.YtkkpppgfoilgmaaGreatDoor
open Go Go.Proofs.Tryz Go.RowKit Go.Proofs.YtkkpppgfoilgmaaGreatDoor.M
theorem BW {p:Prop} (h:p):Hid p:=h
theorem o9 {k:IntKind} {a b:Int} (h:a=b):Value.int k a=.int k b:=by rw[h]
theorem mM (mag exp:Int) (w:World) (h0:0<mag) (h:mag<9223372036854775808) (e0:-2000<=exp) (e1:exp<=2000) :
  Calls prog 155 #[.int .i64 mag,.int .i64 exp,.int .i64 (-1074),.int .i64 53] w fun e w'=>e=.returned (.tuple #[.int .i64 (sm 52 (-1074) mag exp),.int .i64 (se 52 (-1074) mag exp),.bool (sk 52 (-1074) mag exp)])∧w'=w:=by
 have hj:=km h0 h
 have hL:=mO h0 h
 have hz63:jz mag<63:=by obtain⟨_,_,a,_⟩:=fN h0 h;exact a
 have hodd:=uO h0 h
 go_enter func155,ntmps155
 go_wp2
 go_loop [0,1] (fun a b=>∃ k:Nat,k<=jz mag∧a=.int .i64 (mag/2^k)∧b=.int .i64 (exp+k)) (fun _ b=>(exp+jz mag-intOf b).toNat)
 case atStart=>exact⟨0,Nat.zero_le _,by simp,by simp⟩
 case round=>
  obtain⟨k,hk,rfl,rfl⟩:=hrel
  by_cases hlt:k<jz mag
  ·obtain⟨a1,a2,a3,a4⟩:=C0 h0 h k hlt
   have b1:(mag/2^k % 2 == 0)=true:=by simp[a1]
   have A2:=BW a2
   clear a2 a1
   go_wp2
   go_round
   case rel=>exact⟨k+1,hlt,o9 A2.out,o9 (by omega)⟩
   case measure=>simp[intOf];omega
  ·have hke:k=jz mag:=by omega
   subst hke
   have eo:mag/2^jz mag=jo mag:=rfl
   have b1:(jo mag % 2 == 0)=false:=by simp[hodd]
   have hd0:=mP (fr:=53) h0 h (by omega) 0
   have hd1:jo mag<9007199254740992↔0<=fW 52 mag:=by
    have e:jo mag*2^0=jo mag:=by simp
    rw[e,show(2:Int)^(53:Int).toNat=9007199254740992 by decide] at hd0
    rw[hd0];unfold fW;omega
   clear hd0 hodd
   by_cases s1:jo mag<9007199254740992
   ·have sp:=hd1.1 s1
    clear hd1
    by_cases s2:exp+jz mag < -1074
    ·have hk:Hid (sk 52 (-1074) mag exp=false):=by unfold Hid sk;simp;omega
     go_wp2
     go_ret3
     exact⟨jI (by simp[sm,hk.out]) (by simp[se,hk.out]) (by simp[hk.out]),rfl⟩
    ·have hk:Hid (sk 52 (-1074) mag exp=true):=by unfold Hid sk;simp;omega
     obtain⟨s,hs⟩:∃ s:Nat,cx 52 (-1074) mag exp=(s:Int):=⟨(cx 52 (-1074) mag exp).toNat,by unfold cx;omega⟩
     have hs':Hid (cx 52 (-1074) mag exp=(s:Int)):=hs
     have hsd:Hid ((s:Int)=min (fW 52 mag) (exp+jz mag+1074)):=by unfold Hid;rw[<- hs];unfold cx;omega
     clear hs
     go_wp2
     go_loop [0,1] (fun a b=>∃ j:Nat,j<=s∧a=.int .i64 (jo mag*2^j)∧b=.int .i64 (exp+jz mag-j)) (fun _ b=>(intOf b+1074).toNat)
     case atStart=>exact⟨0,Nat.zero_le _,by simp,by simp⟩
     case round=>
      obtain⟨j,hjs,rfl,rfl⟩:=hrel
      have hd:=mP (fr:=52) h0 h (by omega) j
      rw[show(2:Int)^(52:Int).toNat=4503599627370496 by decide] at hd
      have hb:=je (fr:=52) h0 h (by omega) j (by have:=hsd.out;omega)
      have hb1:=hb.1
      have hb2:jo mag*2^j<9007199254740992:=hb.2
      clear hb
      by_cases hlt:j<s
      ·have c1:jo mag*2^j<4503599627370496:=hd.2 (by have:=hsd.out;omega)
       have c2:-1074<exp+jz mag-j:=by have:=hsd.out;omega
       have e2:Hid (jo mag*2^j+jo mag*2^j=jo mag*2^(j+1)):=by
        unfold Hid;rw[Int.pow_succ,<- Int.mul_assoc];omega
       clear hd
       go_wp2
       go_round
       case rel=>exact⟨j+1,hlt,o9 e2.out,o9 (by omega)⟩
       case measure=>simp[intOf];omega
      ·have hje:j=s:=by omega
       subst hje
       have fin:¬ (-1074<exp+jz mag-j∧jo mag*2^j<4503599627370496):=by
        rw[hd];have:=hsd.out;omega
       clear hd
       by_cases c2:-1074<exp+jz mag-j
       all_goals
        go_wp2
        go_ret3
        exact⟨jI (by simp[sm,hk.out,hs'.out]) (by simp[se,hk.out,hs'.out]) (by simp[hk.out]),rfl⟩
   ·have hk:Hid (sk 52 (-1074) mag exp=false):=by unfold Hid sk;simp;omega
    clear hd1
    go_wp2
    go_ret3
    exact⟨jI (by simp[sm,hk.out]) (by simp[se,hk.out]) (by simp[hk.out]),rfl⟩
theorem BX (neg:Bool) (mag exp:Int) (w:World) (hm:au mag) (he:au exp) :
  Calls prog 146 #[.bool neg,.int .i64 mag,.int .i64 exp] w fun e w'=>e=.returned (.tuple #[.int .i64 (jp neg mag exp),.bool (jk 52 2047 (-1074) mag exp)])∧w'=w:=by
 unfold au at hm he
 rcases Int.lt_trichotomy mag 0 with h|h|h
 ·have hk:Hid (jk 52 2047 (-1074) mag exp=false):=by unfold Hid jk;rw[if_pos h]
  have hv:Hid (jp neg mag exp=0):=by unfold Hid jp;rw[hk.out];simp[jv];omega
  cases neg
  all_goals
   go_enter func146,ntmps146
   go_wp2
   go_ret2
   exact⟨bc hv.out.symm hk.out.symm,rfl⟩
 ·subst h
  cases neg
  all_goals
   go_enter func146,ntmps146
   go_wp2
   all_goals go_ret2
   all_goals exact⟨bc (by simp[jp,jk,jv]) (by simp[jk]),rfl⟩
 ·have hn:(mag == 0)=false:=by simp;omega
  by_cases f1:2000<exp
  ·have hg:=pV h hm.2 (exp:=exp) (by omega)
   have hk:Hid (jk 52 2047 (-1074) mag exp=false):=by unfold Hid jk;rw[if_neg (by omega),if_neg (by omega),hg]
   have hv:Hid (jp neg mag exp=0):=by unfold Hid jp;rw[hk.out];simp[jv,hg]
   clear hg
   cases neg
   all_goals
    go_enter func146,ntmps146
    go_wp2
    go_ret2
    exact⟨bc hv.out.symm hk.out.symm,rfl⟩
  ·by_cases f2:exp < -2000
   ·have hg:=uP h hm.2 f2
    have hk:Hid (jk 52 2047 (-1074) mag exp=false):=by unfold Hid jk;rw[if_neg (by omega),if_neg (by omega),hg]
    have hv:Hid (jp neg mag exp=0):=by unfold Hid jp;rw[hk.out];simp[jv,hg]
    clear hg
    cases neg
    all_goals
     go_enter func146,ntmps146
     go_wp2
     go_ret2
     exact⟨bc hv.out.symm hk.out.symm,rfl⟩
   ·have hgs:=rD mag exp
    by_cases g1:sk 52 (-1074) mag exp=true
    ·by_cases g2:se 52 (-1074) mag exp<=971
     ·obtain⟨b1,b2,b3,b4⟩:=EE h hm.2 g1 g2
      have hk:Hid (jk 52 2047 (-1074) mag exp=true):=by unfold Hid jk;rw[if_neg (by omega),if_neg (by omega),hgs,g1];simpa using g2
      have hv:Hid (jv 52 2047 (-1074) mag exp=(if sm 52 (-1074) mag exp<4503599627370496 then sm 52 (-1074) mag exp else (se 52 (-1074) mag exp+1075)*4503599627370496+sm 52 (-1074) mag exp-4503599627370496)):=b4
      clear b4 hgs
      by_cases g3:sm 52 (-1074) mag exp<4503599627370496
      all_goals
       cases neg
       all_goals
        go_enter func146,ntmps146
        go_wp2_with (go_at_call 155;refine(mM mag exp _ h hm.2 (by omega) (by omega)).mono ?_;rintro e w1 ⟨rfl,rfl⟩)
        go_ret2
        refine⟨bc ?_ hk.out.symm,rfl⟩
        unfold jp
        rw[hk.out,hv.out]
        simp
        omega
     ·have hg:b5 52 2047 (-1074) mag exp=false:=by rw[hgs,g1];simpa using g2
      have hk:Hid (jk 52 2047 (-1074) mag exp=false):=by unfold Hid jk;rw[if_neg (by omega),if_neg (by omega),hg]
      have hv:Hid (jp neg mag exp=0):=by unfold Hid jp;rw[hk.out];simp[jv,hg]
      clear hg hgs
      cases neg
      all_goals
       go_enter func146,ntmps146
       go_wp2_with (go_at_call 155;refine(mM mag exp _ h hm.2 (by omega) (by omega)).mono ?_;rintro e w1 ⟨rfl,rfl⟩)
       go_ret2
       exact⟨bc hv.out.symm hk.out.symm,rfl⟩
    ·have g1':sk 52 (-1074) mag exp=false:=by simpa using g1
     have hg:b5 52 2047 (-1074) mag exp=false:=by rw[hgs,g1'];rfl
     have hk:Hid (jk 52 2047 (-1074) mag exp=false):=by unfold Hid jk;rw[if_neg (by omega),if_neg (by omega),hg]
     have hv:Hid (jp neg mag exp=0):=by unfold Hid jp;rw[hk.out];simp[jv,hg]
     clear hg hgs g1
     cases neg
     all_goals
      go_enter func146,ntmps146
      go_wp2_with (go_at_call 155;refine(mM mag exp _ h hm.2 (by omega) (by omega)).mono ?_;rintro e w1 ⟨rfl,rfl⟩)
      go_ret2
      exact⟨bc hv.out.symm hk.out.symm,rfl⟩
theorem jG {A W:Int} {a:Nat->Int} {m:Nat} (hd:aY a (m+1)) (h:W*P (m+1)+val a (m+1)=A) (h0:0<=W) (hA:A<9223372036854775808):W*1073741824+a m<=9223372036854775807∧(W*1073741824+a m)*P m+val a m=A:=by
 have e:(W*1073741824+a m)*P m+val a m=A:=by
  rw[<- h,fJ,aN];grind
 refine⟨?_,e⟩
 have h1:=aP (hd.le (Nat.le_succ m))
 have h2:=bR m
 have h3:=(hd m (by omega)).1
 have h4:(W*1073741824+a m)*1<=(W*1073741824+a m)*P m:=Int.mul_le_mul_of_nonneg_left (by omega) (by omega)
 omega
def iL:Value:=.agg #[.int .i64 53,.int .i64 (-1074),.int .i64 1024,.int .i64 9218868437227405312,.int .i64 (-9223372036854775808)]
theorem jb (m:Int) (w:World) (h0:0<=m) (h1:m<=9223372036854775807) :
  Calls prog 138 #[.int .i64 m] w fun e w'=>e=.returned (.int .i64 (aH m))∧w'=w:=by
 have hbl:aH m<=63:=dr (by show m<9223372036854775808;omega)
 go_enter func138,ntmps138
 go_wp2
 go_loop [0,3] (fun v s=>∃ (x:Int) (t:Nat),s=.int .i64 t∧v=.int .i64 x∧0<=x∧x<=9223372036854775807∧t<=63∧Hid (t+aH x=aH m)) (fun v _=>(intOf v).toNat)
 case atStart=>exact⟨m,0,by go_num,rfl,h0,h1,by omega,by show 0+_=_;omega⟩
 case round=>
  obtain⟨x,t,rfl,rfl,hx0,hx1,ht,HT⟩:=hrel
  by_cases hp:0<x
  ·have ht2:t+1<=63:=by have:=HT.out;have:=kt hp;omega
   go_wp2
   go_round
   case rel=>exact⟨x/2,t+1,by go_num,rfl,by omega,by omega,ht2,by show _=_;have:=HT.out;have:=kt hp;omega⟩
   case measure=>simp[intOf];omega
  ·obtain rfl:x=0:=by omega
   go_wp2
   go_ret
   exact⟨ck (by have:=HT.out;rw[mc] at this;omega),rfl⟩
theorem tC (m e:Int) (w:World) (hm:au m) (he:au e) :
  Calls prog 139 #[iL,.int .i64 m,.int .i64 e] w fun x w'=>x=.returned (.int .i64 (jp false m e))∧Below w.heap.size w w':=by
 have hJ:=fun W=>BX false m e W hm he
 generalize jp false m e=J at hJ ⊢
 generalize jk 52 2047 (-1074) m e=K at hJ
 unfold iL
 go_enter func139,ntmps139
 go_wp2_with fail
 refine(hJ _).mono ?_
 rintro r w1 ⟨rfl,rfl⟩
 go_wp2
 go_ret
 exact⟨rfl,ae _ _⟩
theorem Ab (ao:Option Addr) (n cap:Nat) (i:Int) (w:World) (hi:i<0) (hi2:-9223372036854775808<=i) :
  Calls prog 137 #[.slice ao n cap,.int .i64 i] w fun e w'=>e=.returned (.bool false)∧w'=w:=by
 go_enter func137,ntmps137
 go_wp2
 go_ret
 exact⟨rfl,rfl⟩
def Pt (w:World) (ng na ni:Bool) (V:Int) (v:Value):Prop:=∃ xg xo xn xc xe,v=.agg #[.bool ng,.bool na,.bool ni,.bool xg,.slice xo xn xc,.int .i64 xe]∧bk w (.agg #[.bool xg,.slice xo xn xc,.int .i64 xe]) V
theorem bH.set {B:Nat} {w:World} {V:Int} {v:Value} (h:bH B w V v) {a:Addr} (ha:a.block<B) (u:Value):bH B (w.setCell a u) V v:=by
 obtain⟨ng,s,m,e,h1,h2,t,d,h3,h4,h5⟩:=h
 exact⟨ng,s,m,e,h1,h2,t,d,h3.set_below ha u,h4,h5⟩
theorem BY {b:Int} (hp:aC b≠true):(aE b=3∨aE b=4)∧aF b=0:=by
 unfold aC at hp
 simp at hp
 refine⟨?_,?_⟩
 ·unfold aE
  rw[if_pos hp]
  split<;>simp
 ·unfold aF bO
  rw[if_pos hp]
  have:sg (c8 b) 0=0:=by unfold sg;split<;>rfl
  rw[this,Int.zero_mul]
def ce (way:Int) (ng hf rs:Bool) (K:Nat):Bool:=if way=0 then hf&&(rs||decide (K % 2=1)) else if way=1 then ng&&(hf||rs) else if way=2 then !ng&&(hf||rs) else false
def bL (way:Int) (ng hf rs:Bool) (K:Nat) (E:Int):Int × Bool :=
 let U:Nat:=K+(if ce way ng hf rs K then 1 else 0)
 if 4503599627370496<=U∧1024<(aH (U:Int):Int)+E then ((if ng then -9223372036854775808 else 0)+(if way=0∨(way=2∧ng=false)∨(way=1∧ng=true) then 9218868437227405312 else 9218868437227405311),true) else ((if ng then -9223372036854775808 else 0)+jp false U E,hf||rs)
theorem BZ {way:Int} {ng hf rs:Bool} {K:Nat} {E:Int} (U:Nat) (hU:K+(if ce way ng hf rs K then 1 else 0)=U) (h:¬ (4503599627370496<=U∧1024<(aH (U:Int):Int)+E)):bL way ng hf rs K E=((if ng then -9223372036854775808 else 0)+jp false U E,hf||rs):=by
 unfold bL
 simp only
 rw[hU,if_neg h]
theorem Ca {way:Int} {ng hf rs:Bool} {K:Nat} {E:Int} (U:Nat) (hU:K+(if ce way ng hf rs K then 1 else 0)=U) (h:4503599627370496<=U∧1024<(aH (U:Int):Int)+E):bL way ng hf rs K E=((if ng then -9223372036854775808 else 0)+(if way=0∨(way=2∧ng=false)∨(way=1∧ng=true) then 9218868437227405312 else 9218868437227405311),true):=by
 unfold bL
 simp only
 rw[hU,if_pos h]
theorem dQ {way:Int} {ng hf rs:Bool} {K:Nat} {E:Int} (U:Nat) (Ui:Int) (hi:((U:Nat):Int)=Ui) (hU:K+(if ce way ng hf rs K then 1 else 0)=U) (h:¬ (4503599627370496<=Ui∧1024<(aH Ui:Int)+E)):bL way ng hf rs K E=((if ng then -9223372036854775808 else 0)+jp false Ui E,hf||rs):=by
 subst hi
 exact BZ U hU (fun q=>h ⟨by omega,q.2⟩)
theorem lR {way:Int} {ng hf rs:Bool} {K:Nat} {E:Int} (U:Nat) (Ui:Int) (hi:((U:Nat):Int)=Ui) (hU:K+(if ce way ng hf rs K then 1 else 0)=U) (h:4503599627370496<=Ui∧1024<(aH Ui:Int)+E):bL way ng hf rs K E=((if ng then -9223372036854775808 else 0)+(if way=0∨(way=2∧ng=false)∨(way=1∧ng=true) then 9218868437227405312 else 9218868437227405311),true):=by
 subst hi
 exact Ca U hU ⟨by omega,h.2⟩
structure pP (ao:Option Addr) (n cap:Nat) (d:Nat->Int) (exp:Int) (more:Bool) (nb:Nat) (E lw:Int) (K:Nat) (hf rs:Bool) (l:Int):Prop where
 hnb:1<=nb∧nb<=300000
 he:-1300000<=exp∧exp<=1300000
 hlw:-100<=lw∧lw<=1700000
 hE:-1074<=E∧E<=1700000
 hEl:E-exp=lw
 hK:K<9007199254740992
 hl:0<=l∧l<=400000
 hr1:more=true->rs=true∧0<lw
 hr2:more=false->lw<=1->rs=false
 hr3:more=false->1<lw->rs=decide (l<lw-1)
 hm1:∀ (ts:Array TypeId) (t:TypeId) (w:World),(Builtin.max_ ts t #[.int .i64 ((nb:Int)+exp-53),.int .i64 (-1074)]).run prog w=.ok (.int .i64 E) w
 hm2:∀ (ts:Array TypeId) (t:TypeId) (w:World),(Builtin.max_ ts t #[.int .i64 lw,.int .i64 0]).run prog w=.ok (.int .i64 (max lw 0)) w
 CB:∀ W,aL W ao n cap d->Calls prog 136 #[.slice ao n cap] W fun e w'=>e=.returned (.int .i64 nb)∧w'=W
 CS:∀ W,aL W ao n cap d->Calls prog 104 #[.slice ao n cap,.int .i64 (max lw 0)] W fun e w'=>∃ so sn sc,e=.returned (.slice so sn sc)∧Below W.heap.size W w'∧(0<=lw->bd w' (.slice so sn sc) K)
 CL:lw<0->∀ W,aL W ao n cap d->Calls prog 97 #[.slice ao n cap,.int .i64 (-lw)] W fun e w'=>∃ so sn sc,e=.returned (.slice so sn sc)∧Below W.heap.size W w'∧bd w' (.slice so sn sc) K
 CI:∀ W,aL W ao n cap d->Calls prog 137 #[.slice ao n cap,.int .i64 (lw-1)] W fun e w'=>e=.returned (.bool hf)∧w'=W
 CW:∀ W,aL W ao n cap d->Calls prog 103 #[.slice ao n cap] W fun e w'=>e=.returned (.int .i64 l)∧w'=W
 CJ:∀ U:Int,0<=U->U<=9007199254740992->∃ J:Int,J=jp false U E∧(0<=J∧J<9218868437227405312)∧∀ W,Calls prog 139 #[iL,.int .i64 U,.int .i64 E] W fun x w'=>x=.returned (.int .i64 J)∧Below W.heap.size W w'
end Go.Proofs.YtkkpppgfoilgmaaGreatDoor
