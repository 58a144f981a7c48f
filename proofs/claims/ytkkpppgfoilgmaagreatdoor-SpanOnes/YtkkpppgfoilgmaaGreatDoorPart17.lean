/- Parts of the proof. -/
import Derived.Test.YtkkpppgfoilgmaaGreatDoorPart16
import Derived.Test.YtkkpppgfoilgmaaGreatDoorPart12
import Derived.Maps.AppendAt
import Derived.Laws.AppendOwnNone
import Derived.Test.YtkkpppgfoilgmaaGreatDoorPart6
import Derived.Test.YtkkpppgfoilgmaaGreatDoorPart8
import Derived.Test.YtkkpppgfoilgmaaGreatDoorPart4
import Derived.Test.YtkkpppgfoilgmaaGreatDoorPart3
import Derived.Test.YtkkpppgfoilgmaaGreatDoorPart1
import Derived.Test.YtkkpppgfoilgmaaGreatDoorPart11
import Derived.Test.YtkkpppgfoilgmaaGreatDoorPart7
import Derived.Test.YtkkpppgfoilgmaaGreatDoorPart5
import Derived.Deep.RegionHeld3
set_option maxRecDepth 100000
set_option maxHeartbeats 8000000
set_option linter.unusedVariables false
set_option linter.unusedSimpArgs false
namespace Go.Proofs.YtkkpppgfoilgmaaGreatDoor
open Go Go.Proofs.Tryz Go.RowKit Go.Proofs.YtkkpppgfoilgmaaGreatDoor.M
def jG (f:Nat->Value):Nat->List Value
 | 0=>[]
 | m+1=>jG f m ++ (f m).cells.toList
def m6 (v:Value):Prop:=∃ ng so sn sc e,v=.agg #[.bool ng,.slice so sn sc,.int .i64 e]
theorem cd.three {B:Nat} {w:World} {V:Int} {v:Value} (h:cd B w V v):m6 v:=by
 obtain⟨ng,s,m,e,rfl,_,hA⟩:=h
 obtain⟨so,sn,sc,rfl⟩:=hA.shape
 exact⟨_,_,_,_,_,rfl⟩
theorem kJ {f:Nat->Value}:∀ m,(∀ i,i<m->m6 (f i))->(jG f m).length=m*3
 | 0,_=>rfl
 | m+1,h=>by
  obtain⟨ng,so,sn,sc,e,he⟩:=h m (by omega)
  rw[jG,List.length_append,kJ m fun i hi=>h i (by omega),he]
  simp[Value.cells]
  omega
theorem oH {f:Nat->Value}:∀ m,(∀ i,i<m->m6 (f i))->∀ i j,i<m->j<3->(jG f m)[i*3+j]?=(f i).cells[j]?
 | 0,_,i,j,hi,_=>by omega
 | m+1,h,i,j,hi,hj=>by
  have hl:=kJ m fun i hi=>h i (by omega)
  rw[jG]
  by_cases e:i=m
  ·subst e
   rw[List.getElem?_append_right (by omega),hl,show i*3+j-i*3=j by omega]
   simp
  ·rw[List.getElem?_append_left (by omega)]
   exact oH m (fun i hi=>h i (by omega)) i j (by omega) hj
def eK (B:Nat) (w:World) (x:Value) (m:Nat) (f:Nat->Value):Prop:=w.ownsRow B 26 3 x m (jG f m)
theorem eK.nil (B:Nat) (w:World) (f:Nat->Value):eK B w (.slice none 0 0) 0 f:=⟨rfl,.inl ⟨rfl,rfl⟩⟩
theorem eK.of_block {B:Nat} {w w':World} {x:Value} {m:Nat} {f:Nat->Value} (h:eK B w x m f) (hb:∀ g,x.ownBlock=some g->w'.heap[g]?=w.heap[g]?):eK B w' x m f:=by
 refine⟨h.1,?_⟩
 rcases h.2 with hn|⟨g,cap,cur,rfl,hbb,hg,rest⟩
 ·exact .inl hn
 ·exact .inr ⟨g,cap,cur,rfl,hbb,(hb g rfl).trans hg,rest⟩
theorem eK.typed {B:Nat} {w:World} {x:Value} {m:Nat} {f:Nat->Value} (h:eK B w x m f) {g:Nat} (hg:x.ownBlock=some g):B<=g∧g<w.heap.size∧∃ cur z,w.heap[g]?=some (.cells cur 26 z):=by
 rcases h.2 with⟨rfl,_⟩|⟨g',cap,cur,rfl,hbb,hg',rest⟩
 ·simp[Value.ownBlock] at hg
 ·simp only[Value.ownBlock,Option.some.injEq] at hg;subst hg;exact⟨hbb,(aGe hg').1,cur,_,hg'⟩
theorem eK.keeps {B:Nat} {w w':World} {x:Value} {m:Nat} {f:Nat->Value} (h:eK B w x m f) (hb:Below w.heap.size w w'):eK B w' x m f:=h.of_block fun g hg=>hb.block g (h.typed hg).2.1
theorem eK.shape {B:Nat} {w:World} {x:Value} {m:Nat} {f:Nat->Value} (h:eK B w x m f):∃ xo xc,x=.slice xo m xc∧m<=xc∧(0<m->∃ g,xo=some ⟨g,0,none⟩):=by
 rcases h.2 with⟨rfl,rfl⟩|⟨g,cap,cur,rfl,hb,hg,hn,hm,_⟩
 ·exact⟨none,0,rfl,Nat.le_refl _,fun h=>by omega⟩
 ·exact⟨_,cap,rfl,hn,fun _=>⟨g,rfl⟩⟩
theorem eK.cell {B:Nat} {w:World} {xo:Option Addr} {m xc g:Nat} {f:Nat->Value} (h:eK B w (.slice xo m xc) m f) (ht:∀ i,i<m->m6 (f i)) (hx:xo=some ⟨g,0,none⟩) {i j:Nat} (hi:i<m) (hj:j<3):w.cell? ⟨g,i*3+j,none⟩=(f i).cells[j]?:=by
 rcases h.2 with⟨_,rfl⟩|⟨g',cap,cur,e,hb,hg,hn,hm,hs,ht'⟩
 ·omega
 ·simp only[Value.slice.injEq] at e
  obtain⟨rfl,_,rfl⟩:=e
  simp only[Option.some.injEq,Addr.mk.injEq] at hx
  obtain⟨rfl,_⟩:=hx
  rw[cell_of_row w g' (i*3+j) cur _ _ hg,<- oH m ht i j hi hj,<- ht',List.getElem?_take_of_lt (by omega)]
  simp
theorem cd.of_blocks {B:Nat} {w w':World} {V:Int} {v:Value} (h:cd B w V v) (hb:∀ (g:Nat) (cur:Array Value) z,w.heap[g]?=some (.cells cur 3 z)->w'.heap[g]?=w.heap[g]?):cd B w' V v:=by
 obtain⟨ng,s,m,e,h1,h2,t,d,hO,h3⟩:=h
 exact⟨ng,s,m,e,h1,h2,t,d,hO.of_block fun g hg=>by obtain⟨cur,z,hc⟩:=hO.typed hg;exact hb g cur z hc,h3⟩
structure LS (B:Nat) (w:World) (N:Nat) (X:Nat->Value) (M:Nat->Nat) (F:Nat->Nat->Value):Prop where
 own:∀ j,j<N->eK B w (X j) (M j) (F j)
 ne:∀ i j,i<N->j<N->i≠j->∀ g,(X i).ownBlock=some g->(X j).ownBlock≠some g
theorem LS.keeps {B:Nat} {w w':World} {N:Nat} {X:Nat->Value} {M:Nat->Nat} {F:Nat->Nat->Value} (h:LS B w N X M F) (hb:Below w.heap.size w w'):LS B w' N X M F:=⟨fun j hj=>(h.own j hj).keeps hb,h.ne⟩
theorem LS.put {B:Nat} {w w':World} {N:Nat} {X:Nat->Value} {M:Nat->Nat} {F:Nat->Nat->Value} (h:LS B w N X M F) (j0:Nat) {row:Option Nat} (hg:w.grownBy w' row) {v':Value} {M':Nat} {F':Nat->Value} (hO:eK B w' v' M' F') (h1:∀ j,j<N->j≠j0->∀ g,(X j).ownBlock=some g->row≠some g) (h2:∀ j,j<N->j≠j0->∀ g,(X j).ownBlock=some g->v'.ownBlock≠some g) :
  LS B w' N (mf X j0 v') (mf M j0 M') (mf F j0 F'):=by
 refine⟨fun j hj=>?_,fun i j hi hj hij g hgi=>?_⟩
 ·by_cases e:j=j0
  ·subst e;rw[hH,hH,hH];exact hO
  ·rw[fm _ _ e,fm _ _ e,fm _ _ e]
   exact(h.own j hj).of_block fun g hgx=>hg.block g ((h.own j hj).typed hgx).2.1 fun e'=>h1 j hj e g hgx e'.symm
 ·by_cases e:i=j0
  ·subst e
   rw[hH] at hgi
   rw[fm _ _ (Ne.symm hij)]
   exact fun hgj=>h2 j hj (Ne.symm hij) g hgj hgi
  ·rw[fm _ _ e] at hgi
   by_cases e2:j=j0
   ·subst e2
    rw[hH]
    exact h2 i hi e g hgi
   ·rw[fm _ _ e2]
    exact h.ne i j hi hj hij g hgi
theorem LS.row {B:Nat} {w:World} {N:Nat} {X:Nat->Value} {M:Nat->Nat} {F:Nat->Nat->Value} (h:LS B w N X M F) {j:Nat} (hj:j<N):∀ g,(X j).ownBlock=some g->∃ (cur:Array Value) (z:Nat × Nat),w.heap[g]?=some (Obj.cells cur 26 z):=fun g hg=>(((h.own j hj).typed hg).2.2)
theorem LS.ge {B:Nat} {w:World} {N:Nat} {X:Nat->Value} {M:Nat->Nat} {F:Nat->Nat->Value} (h:LS B w N X M F) {j:Nat} (hj:j<N):∀ g,(X j).ownBlock=some g->B<=g:=fun g hg=>((h.own j hj).typed hg).1
theorem eK.nums {B:Nat} {w:World} {xo:Option Addr} {m xc:Nat} {f:Nat->Value} {r:Nat->aE} (h:eK B w (.slice xo m xc) m f) (hm:m<=100000) (hr:∀ i,i<m->f i=(r i).v∧aG w (r i).ao (r i).n (r i).cap (r i).d):∃ c2,xc=c2∧eS w xo m xc r:=by
 have ht:∀ i,i<m->m6 (f i):=fun i hi=>⟨_,_,_,_,_,(hr i hi).1⟩
 refine⟨xc,rfl,?_⟩
 obtain⟨xo',xc',e,hle,hsp⟩:=h.shape
 simp only[Value.slice.injEq] at e
 obtain⟨rfl,_,rfl⟩:=e
 refine⟨hle,?_,fun hm0=>?_⟩
 ·rcases h.2 with⟨e,_⟩|⟨g,cap,cur,e,hb,hg,hn,hmx,hs,_⟩
  ·simp only[Value.slice.injEq] at e;omega
  ·simp only[Value.slice.injEq] at e
   obtain⟨_,_,rfl⟩:=e
   unfold maxLen at hmx
   omega
 ·obtain⟨g,rfl⟩:=hsp hm0
  have hlt:g<w.heap.size:=(h.typed (g:=g) rfl).2.1
  refine⟨g,0,rfl,hlt,fun i hi=>?_⟩
  obtain⟨h1,h2⟩:=hr i hi
  have c:=fun j (hj:j<3)=>h.cell ht rfl hi (j:=j) hj
  rw[h1] at c
  rw[Nat.zero_add]
  exact⟨c 0 (by decide),c 1 (by decide),c 2 (by decide),h2⟩
def EV (w:World) (v:Value) (a:En):Prop:=∃ g so sn sc e,v=.agg #[.int .i64 a.i,.bool g,.slice so sn sc,.int .i64 e]∧aX w (.agg #[.bool g,.slice so sn sc,.int .i64 e]) a.v
def EA (w:World) (v:Value) (a:En):Prop:=∃ g so sn sc e,v=.agg #[.int .i64 a.i,.bool g,.slice so sn sc,.int .i64 e]∧cd 0 w a.v (.agg #[.bool g,.slice so sn sc,.int .i64 e])
theorem EA.ev {w:World} {v:Value} {a:En} (h:EA w v a):EV w v a:=by
 obtain⟨g,so,sn,sc,e,h1,h2⟩:=h
 exact⟨g,so,sn,sc,e,h1,h2.num⟩
theorem EV.keeps {w w':World} {v:Value} {a:En} (h:EV w v a) (hb:Below w.heap.size w w'):EV w' v a:=by
 obtain⟨g,so,sn,sc,e,h1,h2⟩:=h
 exact⟨g,so,sn,sc,e,h1,h2.keeps hb⟩
theorem EA.keeps {w w':World} {v:Value} {a:En} (h:EA w v a) (hb:Below w.heap.size w w'):EA w' v a:=by
 obtain⟨g,so,sn,sc,e,h1,h2⟩:=h
 exact⟨g,so,sn,sc,e,h1,h2.keeps hb⟩
theorem cd.setT {B:Nat} {w:World} {V:Int} {v:Value} (h:cd B w V v) {g:Nat} {xs:Array Value} {t:TypeId} {z:Nat × Nat} (hg:w.heap[g]?=some (.cells xs t z)) (ht:t≠3) (o:Nat) (u:Value):cd B (w.setCell ⟨g,o,none⟩ u) V v :=
  h.of_blocks fun g' cur z' hc=>heap_setCell_other _ ⟨g,o,none⟩ g' u (by
    show g'≠g
    rintro rfl
    rw[hg] at hc
    simp at hc
    exact ht hc.2.1)
theorem gN (w:World):cd 0 w 0 (.agg #[.bool false,.slice none 0 0,.int .i64 0]):=((aZ.zero (aq w)).dan).lower (Nat.zero_le _)
theorem xT {b:Int} (h:nn b):aD b=3↔rg b=9218868437227405312:=by
 have hr:=fH h
 obtain⟨h0,h1⟩:=eN h.1
 have h2:=gU b
 have h3:=iM b
 have h4:=h.2
 unfold aD at h4 ⊢
 by_cases a:bk b=2047
 ·rw[if_pos a] at h4 ⊢
  by_cases c:bF b=0
  ·rw[if_pos c];omega
  ·rw[if_neg c] at h4;exact absurd rfl h4
 ·rw[if_neg a]
  split
  ·split<;>omega
  ·omega
theorem ff {b:Int} (hn:nn b) (w:World):Calls prog 40 #[.int .i64 b] w fun r w'=>∃ v,r=.returned v∧EA w' v (ah b)∧Below w.heap.size w w':=by
 have CC:Hid (∀ W,Calls prog 39 #[.int .i64 b] W fun e w'=>e=.returned (.int .i64 (aD b))∧w'=W):=fun W=>eT b W hn.1
 by_cases hi:rg b=9218868437227405312
 ·have h3:=(xT hn).2 hi
  rw[h3] at CC
  rw[dC hi]
  clear hi h3 hn
  by_cases h0:b<0
  ·rw[if_pos h0]
   have hb:=aq w
   go_enter func40,ntmps40
   have r_k:(w.alloc (.cells #[.int .i64 0,.bool false,.slice none 0 0,.int .i64 0] 68)).heap[w.heap.size]?=some (.cells #[.int .i64 0,.bool false,.slice none 0 0,.int .i64 0] 68):=av (.cells #[.int .i64 0,.bool false,.slice none 0 0,.int .i64 0] 68) (by simp only[ar])
   have hb:=aa hb (ae w (.cells #[.int .i64 0,.bool false,.slice none 0 0,.int .i64 0] 68))
   go_wp2_with fail
   generalize (w.alloc (.cells #[.int .i64 0,.bool false,.slice none 0 0,.int .i64 0] 68))=x1 at r_k hb ⊢
   refine(CC.out _).mono ?_
   rintro _ _ ⟨rfl,rfl⟩
   have f_r0:=ab r_k 0 rfl
   have z_r0:=ak r_k 0
   have d_r0:=ag r_k 0 (.int .i64 (-1))
   have f_r1:=ab r_k 1 rfl
   have z_r1:=ak r_k 1
   have d_r1:=ag d_r0 1 (.bool false)
   have f_r2:=ab r_k 2 rfl
   have z_r2:=ak r_k 2
   have d_r2:=ag d_r1 2 (.slice none 0 0)
   have f_r3:=ab r_k 3 rfl
   have z_r3:=ak r_k 3
   have d_r3:=ag d_r2 3 (.int .i64 0)
   have e_r0:=ab d_r3 0 rfl
   have e_r1:=ab d_r3 1 rfl
   have e_r2:=ab d_r3 2 rfl
   have e_r3:=ab d_r3 3 rfl
   have hbe:=((((hb.setCell (p:=⟨w.heap.size,0,none⟩) (show w.heap.size<=w.heap.size by omega) (.int .i64 (-1))).setCell (p:=⟨w.heap.size,1,none⟩) (show w.heap.size<=w.heap.size by omega) (.bool false)).setCell (p:=⟨w.heap.size,2,none⟩) (show w.heap.size<=w.heap.size by omega) (.slice none 0 0)).setCell (p:=⟨w.heap.size,3,none⟩) (show w.heap.size<=w.heap.size by omega) (.int .i64 0))
   clear r_k d_r0 d_r1 d_r2 d_r3
   go_wp2
   refine bodyPost_ret (v:=.agg #[.int .i64 (-1),.bool false,.slice none 0 0,.int .i64 0]) (by simp[results,results40,go_sem,e_r0,e_r1,e_r2,e_r3]) rfl ⟨_,rfl,⟨_,_,_,_,_,rfl,gN _⟩,hbe⟩
  ·rw[if_neg h0]
   have hb:=aq w
   go_enter func40,ntmps40
   have r_k:(w.alloc (.cells #[.int .i64 0,.bool false,.slice none 0 0,.int .i64 0] 68)).heap[w.heap.size]?=some (.cells #[.int .i64 0,.bool false,.slice none 0 0,.int .i64 0] 68):=av (.cells #[.int .i64 0,.bool false,.slice none 0 0,.int .i64 0] 68) (by simp only[ar])
   have hb:=aa hb (ae w (.cells #[.int .i64 0,.bool false,.slice none 0 0,.int .i64 0] 68))
   go_wp2_with fail
   generalize (w.alloc (.cells #[.int .i64 0,.bool false,.slice none 0 0,.int .i64 0] 68))=x1 at r_k hb ⊢
   refine(CC.out _).mono ?_
   rintro _ _ ⟨rfl,rfl⟩
   have f_r0:=ab r_k 0 rfl
   have z_r0:=ak r_k 0
   have d_r0:=ag r_k 0 (.int .i64 1)
   have f_r1:=ab r_k 1 rfl
   have z_r1:=ak r_k 1
   have d_r1:=ag d_r0 1 (.bool false)
   have f_r2:=ab r_k 2 rfl
   have z_r2:=ak r_k 2
   have d_r2:=ag d_r1 2 (.slice none 0 0)
   have f_r3:=ab r_k 3 rfl
   have z_r3:=ak r_k 3
   have d_r3:=ag d_r2 3 (.int .i64 0)
   have e_r0:=ab d_r3 0 rfl
   have e_r1:=ab d_r3 1 rfl
   have e_r2:=ab d_r3 2 rfl
   have e_r3:=ab d_r3 3 rfl
   have hbe:=((((hb.setCell (p:=⟨w.heap.size,0,none⟩) (show w.heap.size<=w.heap.size by omega) (.int .i64 1)).setCell (p:=⟨w.heap.size,1,none⟩) (show w.heap.size<=w.heap.size by omega) (.bool false)).setCell (p:=⟨w.heap.size,2,none⟩) (show w.heap.size<=w.heap.size by omega) (.slice none 0 0)).setCell (p:=⟨w.heap.size,3,none⟩) (show w.heap.size<=w.heap.size by omega) (.int .i64 0))
   clear r_k d_r0 d_r1 d_r2 d_r3
   go_wp2
   refine bodyPost_ret (v:=.agg #[.int .i64 1,.bool false,.slice none 0 0,.int .i64 0]) (by simp[results,results40,go_sem,e_r0,e_r1,e_r2,e_r3]) rfl ⟨_,rfl,⟨_,_,_,_,_,rfl,gN _⟩,hbe⟩
 ·have hp:=cy hn hi
  have h3:(aD b == 3)=false:=by
   have:=fun q=>hi ((xT hn).1 q)
   simp;exact this
  have CO:Hid (∀ W,Calls prog 62 #[.int .i64 b] W fun r w'=>∃ v,r=.returned v∧aZ W w' (aM b) v):=fun W=>zm b W hn.1 hp
  rw[dU hi]
  generalize aM b=V at *
  obtain⟨c,hc⟩:∃ c,aD b=c:=⟨_,rfl⟩
  rw[hc] at CC h3
  clear hi hn hp hc
  have hb:=aq w
  go_enter func40,ntmps40
  have r_k:(w.alloc (.cells #[.int .i64 0,.bool false,.slice none 0 0,.int .i64 0] 68)).heap[w.heap.size]?=some (.cells #[.int .i64 0,.bool false,.slice none 0 0,.int .i64 0] 68):=av (.cells #[.int .i64 0,.bool false,.slice none 0 0,.int .i64 0] 68) (by simp only[ar])
  have hb:=aa hb (ae w (.cells #[.int .i64 0,.bool false,.slice none 0 0,.int .i64 0] 68))
  go_wp2_with fail
  generalize (w.alloc (.cells #[.int .i64 0,.bool false,.slice none 0 0,.int .i64 0] 68))=x1 at r_k hb ⊢
  refine(CC.out _).mono ?_
  rintro _ _ ⟨rfl,rfl⟩
  go_wp2_with fail
  refine(CO.out _).mono ?_
  rintro _ y2 ⟨v,rfl,hD⟩
  obtain⟨n_g,n_o,n_n,n_c,n_e,rfl⟩:=mF hD
  have hw:=hD.below
  have n_D:=hD.dan.lower (Nat.zero_le _)
  have r_k:=ac hw r_k
  have hb:=aa hb hw
  have f_r0:=ab r_k 0 rfl
  have z_r0:=ak r_k 0
  have d_r0:=ag r_k 0 (.int .i64 0)
  have f_r1:=ab r_k 1 rfl
  have z_r1:=ak r_k 1
  have d_r1:=ag d_r0 1 (.bool n_g)
  have f_r2:=ab r_k 2 rfl
  have z_r2:=ak r_k 2
  have d_r2:=ag d_r1 2 (.slice n_o n_n n_c)
  have f_r3:=ab r_k 3 rfl
  have z_r3:=ak r_k 3
  have d_r3:=ag d_r2 3 (.int .i64 n_e)
  have e_r0:=ab d_r3 0 rfl
  have e_r1:=ab d_r3 1 rfl
  have e_r2:=ab d_r3 2 rfl
  have e_r3:=ab d_r3 3 rfl
  have hbe:=((((hb.setCell (p:=⟨w.heap.size,0,none⟩) (show w.heap.size<=w.heap.size by omega) (.int .i64 0)).setCell (p:=⟨w.heap.size,1,none⟩) (show w.heap.size<=w.heap.size by omega) (.bool n_g)).setCell (p:=⟨w.heap.size,2,none⟩) (show w.heap.size<=w.heap.size by omega) (.slice n_o n_n n_c)).setCell (p:=⟨w.heap.size,3,none⟩) (show w.heap.size<=w.heap.size by omega) (.int .i64 n_e))
  have n_E:=n_D
  replace n_E:=n_E.setT r_k (by decide) 0 (.int .i64 0)
  replace n_E:=n_E.setT d_r0 (by decide) 1 (.bool n_g)
  replace n_E:=n_E.setT d_r1 (by decide) 2 (.slice n_o n_n n_c)
  replace n_E:=n_E.setT d_r2 (by decide) 3 (.int .i64 n_e)
  clear r_k d_r0 d_r1 d_r2 d_r3
  go_wp2
  refine bodyPost_ret (v:=.agg #[.int .i64 0,.bool n_g,.slice n_o n_n n_c,.int .i64 n_e]) (by simp[results,results40,go_sem,e_r0,e_r1,e_r2,e_r3]) rfl ⟨_,rfl,⟨_,_,_,_,_,rfl,n_E⟩,hbe⟩
theorem fF {w:World} {v:Value} {a:En} (h:EV w v a):Calls prog 51 #[v] w fun r w'=>r=.returned (.int .i64 (aQ a))∧Below w.heap.size w w':=by
 obtain⟨a_g,a_o,a_n,a_c,a_e,rfl,a_D⟩:=h
 obtain⟨l0,lm⟩:=xu a_D
 have hsg:sgn a_g a_n=dH a.v:=by
  have hz:=l0
  obtain⟨ng,s,m,e',h1,hy,hN⟩:=a_D
  simp only[Value.agg.injEq,Array.mk.injEq,List.cons.injEq,Value.bool.injEq,Value.int.injEq,true_and,and_true] at h1
  obtain⟨rfl,_,_⟩:=h1
  have hn:=hy.neg_iff
  unfold sgn dH
  by_cases q:a_n=0
  ·rw[if_pos q,hz.1 q];rfl
  ·have qv:a.v≠0:=fun k=>q (hz.2 k)
   rw[if_neg q]
   cases a_g
   ·have:¬ a.v<0:=fun k=>by have:=hn.2 k;cases this
    rw[if_neg (by simp),if_neg this,if_pos (by omega)]
   ·rw[if_pos rfl,if_pos (hn.1 rfl)]
 have CS:Hid (∀ W,Calls prog 73 #[.agg #[.bool a_g,.slice a_o a_n a_c,.int .i64 a_e]] W fun r w'=>r=.returned (.int .i64 (dH a.v))∧Below W.heap.size W w'):=fun W=>by
  have:=kv a_g a_o a_n a_c a_e W lm
  rw[hsg] at this
  exact this
 unfold aQ
 generalize dH a.v=S at *
 obtain⟨ai,hai⟩:∃ ai,a.i=ai:=⟨_,rfl⟩
 rw[hai]
 clear l0 lm hsg a_D hai
 by_cases hi:ai=0
 ·rw[if_neg (fun k=>k hi)]
  subst hi
  have hb:=aq w
  go_enter func51,ntmps51
  have a_k:(w.alloc (.cells #[.int .i64 0,.bool a_g,.slice a_o a_n a_c,.int .i64 a_e] 68)).heap[w.heap.size]?=some (.cells #[.int .i64 0,.bool a_g,.slice a_o a_n a_c,.int .i64 a_e] 68):=av (.cells #[.int .i64 0,.bool a_g,.slice a_o a_n a_c,.int .i64 a_e] 68) (by simp only[ar])
  have hb:=aa hb (ae w (.cells #[.int .i64 0,.bool a_g,.slice a_o a_n a_c,.int .i64 a_e] 68))
  have f_a0:=ab a_k 0 rfl
  have f_a1:=ab a_k 1 rfl
  have f_a2:=ab a_k 2 rfl
  have f_a3:=ab a_k 3 rfl
  go_wp2_with fail
  clear f_a0 f_a1 f_a2 f_a3
  generalize (w.alloc (.cells #[.int .i64 0,.bool a_g,.slice a_o a_n a_c,.int .i64 a_e] 68))=x1 at a_k hb ⊢
  refine(CS.out _).mono ?_
  rintro _ y2 ⟨rfl,hw⟩
  have a_k:=ac hw a_k
  have hb:=aa hb hw
  go_wp2
  go_ret
  exact⟨rfl,hb⟩
 ·rw[if_pos hi]
  have hb:=aq w
  go_enter func51,ntmps51
  have a_k:=a9 w (.cells #[.int .i64 ai,.bool a_g,.slice a_o a_n a_c,.int .i64 a_e] 68)
  have f0:=ab a_k 0 rfl
  have hi2:(ai == 0)=false:=by simp;exact hi
  clear hi
  go_wp2
  go_ret
  exact⟨rfl,ae w _⟩
theorem Be (x y:aE) (w:World) (hx:aG w x.ao x.n x.cap x.d) (hy:aG w y.ao y.n y.cap y.d) (ox:bV x=true) (oy:bV y=true) {K:Nat} (hK:K<=560000) (bx:Bd K x.V) (bY:Bd K y.V) :
  Calls prog 63 #[x.v,y.v] w fun r w'=>r=.returned (.int .i64 (bq x.V y.V))∧Below w.heap.size w w':=by
 have nx:∀ W,Below w.heap.size w W->aX W x.v x.V:=fun W hb=>⟨_,_,_,_,rfl,(fC ox).1,_,_,_,_,rfl,hx.keeps hb,(a8 ox).1,rfl⟩
 have ny:∀ W,Below w.heap.size w W->aX W y.opp.v (-y.V):=fun W hb=>by
  obtain⟨e1,e2⟩:=oW oy
  rw[e1] at e2
  exact⟨_,_,_,_,rfl,e2,_,_,_,_,rfl,hy.keeps hb,(a8 oy).1,rfl⟩
 have C1:∀ W,Below w.heap.size w W->Calls prog 82 #[x.v,y.v] W fun r w'=>∃ ng so sn sc e,r=.returned (.agg #[.bool ng,.slice so sn sc,.int .i64 e])∧sgn ng sn=bq x.V y.V∧sn<=9223372036854775807∧Below W.heap.size W w':=fun W hb=>by
  refine(vv x y W (hx.keeps hb) (hy.keeps hb) ox oy hK bx bY).mono ?_
  rintro r w' ⟨v,rfl,h⟩
  obtain⟨ng,so,sn,sc,e,rfl⟩:=h.shape
  obtain⟨s1,s2⟩:=sC (h.num (nx W hb) (ny W hb))
  refine⟨_,_,_,_,_,rfl,?_,s2,h.1⟩
  rw[s1]
  have:=rQ x.V y.V
  rw[<- this]
  congr 1
 obtain⟨VV,hVV⟩:∃ V,V=bq x.V y.V:=⟨_,rfl⟩
 rw[<- hVV] at C1 ⊢
 clear nx ny bx bY hVV ox oy
 obtain⟨an,ao,n,ca,a,e⟩:=x
 obtain⟨bn,bo,m,cb,b,f⟩:=y
 unfold aE.v at *
 simp only at *
 go_enter func63,ntmps63
 go_wp2_with fail
 refine(C1 _ (ax _ _ _)).mono ?_
 rintro r w1 ⟨ng,so,sn,sc,e1,rfl,hs,hm,hb1⟩
 have HS:Hid (sgn ng sn=VV):=hs
 clear hs
 go_wp2_with fail
 refine(kv ng so sn sc e1 _ hm).mono ?_
 rintro r w2 ⟨rfl,hb2⟩
 go_wp2
 go_ret
 exact⟨bS HS.out,aa (aa (ax _ _ _) hb1) hb2⟩
theorem Bf {w:World} {x y:Value} {A B:Int} (hx:aX w x A) (hy:aX w y B) {K:Nat} (hK:K<=28000) (bA:Bd K A) (bB:Bd K B):Calls prog 63 #[x,y] w fun r w'=>r=.returned (.int .i64 (bq A B))∧Below w.heap.size w w':=by
 obtain⟨x,rfl,hR,ok,rfl⟩:=hx.open (bA.ok (by omega))
 obtain⟨y,rfl,hR',ok',rfl⟩:=hy.open (bB.ok (by omega))
 exact Be x y w hR hR' ok ok' (K:=K) (by omega) bA bB
theorem lv {w:World} {v u:Value} {a b:En} (h:EV w v a) (k:EV w u b) (CM:Hid (a.i=0->b.i=0->∀ (x y:Value) W,aX W x a.v->aX W y b.v->Calls prog 63 #[x,y] W fun r w'=>r=.returned (.int .i64 (bq a.v b.v))∧Below W.heap.size W w')):Calls prog 41 #[v,u] w fun r w'=>r=.returned (.int .i64 (ck a b))∧Below w.heap.size w w':=by
 obtain⟨a_g,a_o,a_n,a_c,a_e,rfl,a_D⟩:=h
 obtain⟨b_g,b_o,b_n,b_c,b_e,rfl,b_D⟩:=k
 unfold ck
 by_cases h1:a.i=b.i
 ·rw[if_neg (fun q=>q h1)]
  by_cases h2:a.i=0
  ·rw[if_neg (fun q=>q h2)]
   replace CM:=ay (CM.out h2 (h1 ▸ h2))
   have e2:b.i=0:=h1 ▸ h2
   rw[h2,e2]
   generalize bq a.v b.v=O at *
   have hb:=aq w
   go_enter func41,ntmps41
   have p_k:(w.alloc (.cells #[.int .i64 0,.bool a_g,.slice a_o a_n a_c,.int .i64 a_e] 68)).heap[w.heap.size]?=some (.cells #[.int .i64 0,.bool a_g,.slice a_o a_n a_c,.int .i64 a_e] 68):=av (.cells #[.int .i64 0,.bool a_g,.slice a_o a_n a_c,.int .i64 a_e] 68) (by simp only[ar])
   have a_D:=a_D.keeps (ae w (.cells #[.int .i64 0,.bool a_g,.slice a_o a_n a_c,.int .i64 a_e] 68))
   have b_D:=b_D.keeps (ae w (.cells #[.int .i64 0,.bool a_g,.slice a_o a_n a_c,.int .i64 a_e] 68))
   have hb:=aa hb (ae w (.cells #[.int .i64 0,.bool a_g,.slice a_o a_n a_c,.int .i64 a_e] 68))
   have p_k:=am (.cells #[.int .i64 0,.bool b_g,.slice b_o b_n b_c,.int .i64 b_e] 68) p_k
   have q_k:((w.alloc (.cells #[.int .i64 0,.bool a_g,.slice a_o a_n a_c,.int .i64 a_e] 68)).alloc (.cells #[.int .i64 0,.bool b_g,.slice b_o b_n b_c,.int .i64 b_e] 68)).heap[w.heap.size+1]?=some (.cells #[.int .i64 0,.bool b_g,.slice b_o b_n b_c,.int .i64 b_e] 68):=av (.cells #[.int .i64 0,.bool b_g,.slice b_o b_n b_c,.int .i64 b_e] 68) (by simp only[ar])
   have a_D:=a_D.keeps (ae (w.alloc (.cells #[.int .i64 0,.bool a_g,.slice a_o a_n a_c,.int .i64 a_e] 68)) (.cells #[.int .i64 0,.bool b_g,.slice b_o b_n b_c,.int .i64 b_e] 68))
   have b_D:=b_D.keeps (ae (w.alloc (.cells #[.int .i64 0,.bool a_g,.slice a_o a_n a_c,.int .i64 a_e] 68)) (.cells #[.int .i64 0,.bool b_g,.slice b_o b_n b_c,.int .i64 b_e] 68))
   have hb:=aa hb (ae (w.alloc (.cells #[.int .i64 0,.bool a_g,.slice a_o a_n a_c,.int .i64 a_e] 68)) (.cells #[.int .i64 0,.bool b_g,.slice b_o b_n b_c,.int .i64 b_e] 68))
   have f_p0:=ab p_k 0 rfl
   have f_p1:=ab p_k 1 rfl
   have f_p2:=ab p_k 2 rfl
   have f_p3:=ab p_k 3 rfl
   have f_q0:=ab q_k 0 rfl
   have f_q1:=ab q_k 1 rfl
   have f_q2:=ab q_k 2 rfl
   have f_q3:=ab q_k 3 rfl
   go_wp2_with fail
   clear f_p0 f_p1 f_p2 f_p3 f_q0 f_q1 f_q2 f_q3
   generalize ((w.alloc (.cells #[.int .i64 0,.bool a_g,.slice a_o a_n a_c,.int .i64 a_e] 68)).alloc (.cells #[.int .i64 0,.bool b_g,.slice b_o b_n b_c,.int .i64 b_e] 68))=x1 at p_k q_k a_D b_D hb ⊢
   refine(CM.out _ _ _ a_D b_D).mono ?_
   rintro _ y2 ⟨rfl,hw⟩
   have p_k:=ac hw p_k
   have q_k:=ac hw q_k
   have a_D:=a_D.keeps hw
   have b_D:=b_D.keeps hw
   have hb:=aa hb hw
   go_wp2
   go_ret
   exact⟨rfl,hb⟩
  ·rw[if_pos h2,<- h1]
   clear CM
   generalize a.i=ai at *
   have h2':(ai == 0)=false:=by simp;exact h2
   clear h1 h2
   have hb:=aq w
   go_enter func41,ntmps41
   have p_k:=bv w (.cells #[.int .i64 ai,.bool a_g,.slice a_o a_n a_c,.int .i64 a_e] 68) (.cells #[.int .i64 ai,.bool b_g,.slice b_o b_n b_c,.int .i64 b_e] 68)
   have q_k:=bh w (.cells #[.int .i64 ai,.bool a_g,.slice a_o a_n a_c,.int .i64 a_e] 68) (.cells #[.int .i64 ai,.bool b_g,.slice b_o b_n b_c,.int .i64 b_e] 68)
   have f0:=ab p_k 0 rfl
   have f1:=ab q_k 0 rfl
   clear p_k q_k a_D b_D
   go_wp2
   go_ret
   exact⟨rfl,ax w _ _⟩
 ·rw[if_pos h1]
  clear CM
  generalize a.i=ai at *
  generalize b.i=bi at *
  have h1':(ai == bi)=false:=by simp;exact h1
  clear h1
  by_cases h3:ai<bi
  ·rw[if_pos h3]
   have hb:=aq w
   go_enter func41,ntmps41
   have p_k:=bv w (.cells #[.int .i64 ai,.bool a_g,.slice a_o a_n a_c,.int .i64 a_e] 68) (.cells #[.int .i64 bi,.bool b_g,.slice b_o b_n b_c,.int .i64 b_e] 68)
   have q_k:=bh w (.cells #[.int .i64 ai,.bool a_g,.slice a_o a_n a_c,.int .i64 a_e] 68) (.cells #[.int .i64 bi,.bool b_g,.slice b_o b_n b_c,.int .i64 b_e] 68)
   have f0:=ab p_k 0 rfl
   have f1:=ab q_k 0 rfl
   clear p_k q_k a_D b_D
   go_wp2
   go_ret
   exact⟨rfl,ax w _ _⟩
  ·rw[if_neg h3]
   have hb:=aq w
   go_enter func41,ntmps41
   have p_k:=bv w (.cells #[.int .i64 ai,.bool a_g,.slice a_o a_n a_c,.int .i64 a_e] 68) (.cells #[.int .i64 bi,.bool b_g,.slice b_o b_n b_c,.int .i64 b_e] 68)
   have q_k:=bh w (.cells #[.int .i64 ai,.bool a_g,.slice a_o a_n a_c,.int .i64 a_e] 68) (.cells #[.int .i64 bi,.bool b_g,.slice b_o b_n b_c,.int .i64 b_e] 68)
   have f0:=ab p_k 0 rfl
   have f1:=ab q_k 0 rfl
   clear p_k q_k a_D b_D
   go_wp2
   go_ret
   exact⟨rfl,ax w _ _⟩
theorem nO {w:World} {v u:Value} {a b:En} (h:EV w v a) (k:EV w u b) {K:Nat} (hK:K<=28000) (bA:Bd K a.v) (bB:Bd K b.v):Calls prog 41 #[v,u] w fun r w'=>r=.returned (.int .i64 (ck a b))∧Below w.heap.size w w' :=
 lv h k (fun _ _ x y W hx hy=>Bf hx hy hK bA bB)
end Go.Proofs.YtkkpppgfoilgmaaGreatDoor
namespace Go.Proofs.YtkkpppgfoilgmaaGreatDoor
open Go Go.Proofs.Tryz Go.Proofs.YtkkpppgfoilgmaaGreatDoor.M
def cH (M:Nat) (low:Int):Bool:=decide (0<low)&&jV M (low-1).toNat
def cR (M:Nat) (more:Bool) (low:Int):Bool:=more||(decide (1<low)&&decide (M % 2^(low-1).toNat≠0))
theorem xv {M:Nat} {more:Bool} {low:Int} (hc:more=true->0<low):rL M more low=if cH M low then (if cR M more low then 3 else 2) else (if cR M more low then 1 else 0):=by
 by_cases h:low<=0
 ·have hm:more=false:=by
   cases more
   ·rfl
   ·have:=hc rfl;omega
  unfold rL cH cR
  rw[if_pos h,decide_eq_false (show ¬ 0<low by omega),decide_eq_false (show ¬ 1<low by omega),hm]
  rfl
 ·obtain⟨s,rfl⟩:∃ s:Nat,low=(s:Int)+1:=⟨(low-1).toNat,by omega⟩
  have e1:((s:Int)+1-1).toNat=s:=by omega
  have e2:((s:Int)+1).toNat=s+1:=by omega
  unfold rL cH cR
  rw[if_neg h,e1,e2,decide_eq_true (show(0:Int)<(s:Int)+1 by omega),Bool.true_and]
  have hb:jV (M:Int) s=decide (M/2^s % 2=1):=by
   unfold jV
   have:(M:Int)/2^s % 2=((M/2^s % 2:Nat):Int):=by simp
   rw[this]
   rcases Nat.mod_two_eq_zero_or_one (M/2^s) with q|q<;>rw[q]<;>rfl
  rw[hb]
  have hs:M % 2^(s+1)=M/2^s % 2*2^s+M % 2^s:=by
   rw[Nat.pow_succ,Nat.mod_mul]
   rw[Nat.mul_comm,Nat.add_comm]
  have hr:(decide ((1:Int)<(s:Int)+1)&&decide (M % 2^s≠0))=decide (M % 2^s≠0):=by
   cases s with
   | zero=>simp[Nat.mod_one]
   | succ k=>rw[decide_eq_true (show(1:Int)<((k+1:Nat):Int)+1 by omega),Bool.true_and]
  rw[hr,hs,Nat.pow_succ]
  have hlt:=Nat.mod_lt M (Nat.two_pow_pos s)
  generalize M % 2^s=t at *
  generalize 2^s=q at *
  rcases Nat.mod_two_eq_zero_or_one (M/q) with p|p
  ·rw[p]
   cases more
   ·by_cases t0:t=0
    ·simp[t0]
    ·simp[t0]
     omega
   ·simp
    omega
  ·rw[p]
   cases more
   ·by_cases t0:t=0
    ·subst t0
     simp
     omega
    ·simp[t0]
     omega
   ·simp
    omega
theorem xx {M:Nat} {l:Int} {s:Nat} (h:jT M l) (h0:M≠0):(0<=l∧l<s)↔M % 2^s≠0:=by
 rcases h with⟨h,_⟩|⟨k,rfl,m,hm⟩
 ·omega
 ·have hm0:0<=m:=by
   rcases Int.lt_or_le m 0 with q|q
   ·have h2:=aF k
    have:(2*m+1)*2^k<0:=Int.mul_neg_of_neg_of_pos (by omega) h2
    omega
   ·exact q
  obtain⟨c,rfl⟩:=Int.eq_ofNat_of_zero_le hm0
  have hM:M=(2*c+1)*2^k:=by
   have:((M:Nat):Int)=(((2*c+1)*2^k:Nat):Int):=by rw[hm];push_cast;rfl
   exact Int.ofNat.inj this
  constructor
  ·rintro⟨_,hk⟩ hz
   obtain⟨j,rfl⟩:∃ j,s=k+(j+1):=⟨s-k-1,by omega⟩
   have hd:2^(k+(j+1)) ∣ (2*c+1)*2^k:=by rw[<- hM];exact Nat.dvd_of_mod_eq_zero hz
   rw[Nat.pow_add,Nat.mul_comm (2*c+1)] at hd
   have hd2:=Nat.dvd_of_mul_dvd_mul_left (Nat.two_pow_pos k) hd
   obtain⟨x,hx⟩:=hd2
   rw[Nat.pow_succ,Nat.mul_assoc,Nat.mul_left_comm] at hx
   omega
  ·intro hz
   refine⟨by omega,?_⟩
   rcases Int.lt_or_le (k:Int) s with q|q
   ·exact q
   ·exfalso
    apply hz
    obtain⟨j,rfl⟩:∃ j,k=s+j:=⟨k-s,by omega⟩
    rw[hM,Nat.pow_add,Nat.mul_left_comm]
    exact Nat.mul_mod_right _ _
def cE (sz lowE:Int) (M:Nat) (exp:Int):Int:=max ((aC M:Int)+exp-sz) lowE
theorem kz {M:Nat} (h0:M≠0):1<=aC M∧2^(aC M-1)<=M∧M<2^aC M:=by
 obtain⟨h1,h2⟩:=fK (V:=(M:Int)) (by omega)
 have h3:=gE (M:Int)
 refine⟨h1,?_,?_⟩
 ·have:((2^(aC M-1):Nat):Int)<=(M:Int):=by simpa using h2
  exact Int.ofNat_le.1 this
 ·have:(M:Int)<((2^aC M:Nat):Int):=by simpa using h3
  exact Int.ofNat_lt.1 this
theorem sD {sz lowE:Int} {M:Nat} {exp:Int} (hs:0<sz) (h0:M≠0):rU M (cE sz lowE M exp-exp)<2^sz.toNat∧(lowE<cE sz lowE M exp->2^(sz.toNat-1)<=rU M (cE sz lowE M exp-exp)):=by
 obtain⟨b0,b1,b2⟩:=kz h0
 obtain⟨n,hn⟩:∃ n,aC M=n:=⟨_,rfl⟩
 obtain⟨z,rfl⟩:∃ z:Nat,sz=z:=⟨sz.toNat,by omega⟩
 unfold cE rU
 rw[hn] at b0 b1 b2 ⊢
 rw[Int.toNat_natCast]
 obtain⟨e,he⟩:∃ e,max ((n:Int)+exp-(z:Int)) lowE=e:=⟨_,rfl⟩
 have he1:(n:Int)+exp-z<=e:=by omega
 have he2:lowE<e->e=n+exp-z:=by omega
 rw[he]
 by_cases hse:e-exp<=0
 ·rw[if_pos hse]
  obtain⟨k,hk⟩:∃ k,(-(e-exp)).toNat=k:=⟨_,rfl⟩
  rw[hk]
  refine⟨?_,fun hl=>?_⟩
  ·calc M*2^k<2^n*2^k:=Nat.mul_lt_mul_of_pos_right b2 (Nat.two_pow_pos k)
    _=2^(n+k):=by rw[Nat.pow_add]
    _<=2^z:=Nat.pow_le_pow_right (by decide) (by omega)
  ·have:=he2 hl
   calc 2^(z-1)<=2^(n-1+k):=Nat.pow_le_pow_right (by decide) (by omega)
    _=2^(n-1)*2^k:=by rw[Nat.pow_add]
    _<=M*2^k:=Nat.mul_le_mul_right _ b1
 ·rw[if_neg hse]
  obtain⟨k,hk⟩:∃ k,(e-exp).toNat=k:=⟨_,rfl⟩
  rw[hk]
  refine⟨?_,fun hl=>?_⟩
  ·rw[Nat.div_lt_iff_lt_mul (Nat.two_pow_pos k),<- Nat.pow_add]
   exact Nat.lt_of_lt_of_le b2 (Nat.pow_le_pow_right (by decide) (by omega))
  ·have:=he2 hl
   rw[Nat.le_div_iff_mul_le (Nat.two_pow_pos k),<- Nat.pow_add]
   exact Nat.le_trans (Nat.pow_le_pow_right (by decide) (by omega)) b1
def cU (sz lowE way:Int) (ng:Bool) (M:Nat) (exp:Int) (more:Bool):Nat :=
 rU M (cE sz lowE M exp-exp)+(if aW way ng (decide (rU M (cE sz lowE M exp-exp) % 2=1)) (rL M more (cE sz lowE M exp-exp)) then 1 else 0)
def cO (sz lowE high way:Int) (ng:Bool) (M:Nat) (exp:Int) (more:Bool):Bool :=
 decide (2^(sz.toNat-1)<=cU sz lowE way ng M exp more)&&decide (high<(aC (cU sz lowE way ng M exp more):Int)+cE sz lowE M exp)
def cS (sgn:Int) (ng:Bool):Int:=if ng then sgn else 0
theorem xy {way:Int} {ng:Bool} {A:Int} {M:Nat} {exp:Int} {more:Bool} (hA:kO A M exp more) (h0:M≠0) (he:-4194304<=exp) (hc:more=true->2^60<=M) :
  ∃ (r0:Nat) (left:Int),co A r0 left∧(if cO 53 (-1074) 1024 way ng M exp more then cS (-9223372036854775808) ng+(if aW way ng true 3 then 9218868437227405312 else 9218868437227405311) else cS (-9223372036854775808) ng+jp false (cU 53 (-1074) way ng M exp more) (cE 53 (-1074) M exp))=aw ng (aN way ng r0 left) ∧
   (cO 53 (-1074) 1024 way ng M exp more||(decide (rL M more (cE 53 (-1074) M exp-exp)≠0)))=(decide (left≠0)||decide (9218868437227405312<=(r0:Int))):=by
 obtain⟨b0,b1,b2⟩:=kz h0
 have hbits:=sD (sz:=53) (lowE:=-1074) (exp:=exp) (by decide) h0
 have hE1:-1074<=cE 53 (-1074) M exp:=by unfold cE;omega
 have hcs:more=true->0<cE 53 (-1074) M exp-exp:=fun h=>by
  have h1:=hc h
  have h2:60<aC M:=by
   have:=(Nat.pow_lt_pow_iff_right (by decide:1<2)).1 (Nat.lt_of_le_of_lt h1 b2)
   exact this
  unfold cE
  omega
 have hL:=rz hA hcs (by omega) he
 unfold cO cU
 obtain⟨E,hE⟩:∃ E,cE 53 (-1074) M exp=E:=⟨_,rfl⟩
 rw[hE] at hbits hE1 hL ⊢
 obtain⟨u,hu⟩:∃ u,rU M (E-exp)=u:=⟨_,rfl⟩
 obtain⟨left,hl⟩:∃ l,rL M more (E-exp)=l:=⟨_,rfl⟩
 rw[hu] at hbits hL ⊢
 rw[hl] at hL ⊢
 obtain⟨a,ha⟩:∃ a,(E - -1074).toNat=a:=⟨_,rfl⟩
 have e53:(2:Nat)^(53:Int).toNat=9007199254740992:=by decide
 have e52:(2:Nat)^((53:Int).toNat-1)=4503599627370496:=by decide
 rw[e53,e52] at hbits
 rw[e52]
 have eB:Ieee.double.binade=4503599627370496:=by decide
 have hV:=jw Ieee.double a u (by rw[eB];omega) (fun h=>by rw[eB];exact hbits.2 (by omega))
 rw[eB] at hV
 have hpw:pw E=2^a*pw (-1074):=by rw[iN (e:=E) (low:=-1074) (by decide) hE1,ha]
 rw[hpw] at hL
 refine⟨a*4503599627370496+u,left,kX hL hV.1 hV.2,?_⟩
 have hodd:decide ((a*4503599627370496+u) % 2=1)=decide (u % 2=1):=by congr 1;apply propext;omega
 unfold aN
 rw[hodd]
 obtain⟨R,hR⟩:∃ R,aW way ng (decide (u % 2=1)) left=R:=⟨_,rfl⟩
 rw[hR]
 obtain⟨U,hU⟩:∃ U,u+(if R=true then 1 else 0)=U:=⟨_,rfl⟩
 rw[hU]
 have hR1:R=true->left≠0:=fun h hz=>by rw[hz,h] at hR;exact ef hR
 have hR2:R=true->aW way ng true 3=true:=fun h=>mi (hR.trans h)
 have hUle:U<=9007199254740992:=by rw[<- hU];split<;>omega
 have hcast:((a*4503599627370496+u:Nat):Int)+(if R=true then 1 else 0)=((a*4503599627370496+U:Nat):Int):=by
  rw[<- hU]
  cases R<;>simp only[if_true,if_false,Bool.false_eq_true]<;>omega
 rw[hcast]
 have huU:u<=U:=by rw[<- hU];omega
 have hO:(decide (4503599627370496<=U)&&decide (1024<(aC (U:Int):Int)+E))=decide (9218868437227405312<=((a*4503599627370496+U:Nat):Int)):=by
  have hsub:U<4503599627370496->a=0:=fun h=>by
   rcases Nat.eq_zero_or_pos a with q|q
   ·exact q
   ·have:=hbits.2 (by omega);omega
  have hEa:E=(a:Int)-1074:=by omega
  by_cases c1:4503599627370496<=U
  ·rw[decide_eq_true c1,Bool.true_and]
   by_cases c2:U=9007199254740992
   ·have:aC (U:Int)=54:=jy (k:=53) (by rw[show(2:Int)^53=9007199254740992 from rfl];omega) (by rw[show(2:Int)^(53+1)=18014398509481984 from rfl];omega)
    rw[this]
    congr 1
    apply propext
    omega
   ·have:aC (U:Int)=53:=jy (k:=52) (by rw[show(2:Int)^52=4503599627370496 from rfl];omega) (by rw[show(2:Int)^(52+1)=9007199254740992 from rfl];omega)
    rw[this]
    congr 1
    apply propext
    omega
  ·rw[decide_eq_false c1,Bool.false_and]
   have:=hsub (by omega)
   symm
   rw[decide_eq_false]
   omega
 rw[hO]
 by_cases hf:((a*4503599627370496+U:Nat):Int)<9218868437227405312
 ·have hf0:((a*4503599627370496+u:Nat):Int)<9218868437227405312:=by omega
  rw[decide_eq_false (show ¬ 9218868437227405312<=((a*4503599627370496+U:Nat):Int) by omega),if_neg (by decide),if_pos hf0,decide_eq_false (p:=9218868437227405312<=((a*4503599627370496+u:Nat):Int)) (by omega),Bool.or_false,Bool.false_or]
  refine⟨?_,rfl⟩
  have hjp:jp false (U:Int) E=((a*4503599627370496+U:Nat):Int):=by
   by_cases hU0:U=0
   ·have hu0:u=0:=by omega
    have ha0:a=0:=by
     rcases Nat.eq_zero_or_pos a with h|h
     ·exact h
     ·have:=hbits.2 (by omega);omega
    subst hU0 ha0
    rfl
   ·have hjr:=nV Ieee.double 52 (by decide) dB 2047 (-1074) (by decide) U E (by omega) (by rw[show(2:Nat)^(52+1)=9007199254740992 by decide];exact hUle) hE1 (fun h=>by rw[show(2:Nat)^52=4503599627370496 by decide];have:=hbits.2 h;omega)
    simp only at hjr
    rw[ha,show(2:Nat)^52=4503599627370496 by decide,show(2047:Int)*2^52=9218868437227405312 by decide] at hjr
    obtain⟨j1,j2⟩:=hjr
    rw[show jk ((52:Nat):Int) 2047 (-1074) (U:Int) E=jk 52 2047 (-1074) (U:Int) E from rfl,decide_eq_true hf] at j1
    have hjv:=j2 hf
    rw[show jv ((52:Nat):Int) 2047 (-1074) (U:Int) E=jv 52 2047 (-1074) (U:Int) E from rfl] at hjv
    unfold jp
    rw[j1,hjv]
    rfl
  rw[hjp]
  unfold cS aw
  cases ng<;>simp<;>omega
 ·rw[decide_eq_true (show 9218868437227405312<=((a*4503599627370496+U:Nat):Int) by omega),if_pos rfl,Bool.true_or]
  by_cases hf0:((a*4503599627370496+u:Nat):Int)<9218868437227405312
  ·have hRt:R=true:=by
    cases R
    ·exfalso;simp at hU;omega
    ·rfl
   have hUe:((a*4503599627370496+U:Nat):Int)=9218868437227405312:=by rw[hRt] at hU;simp at hU;omega
   rw[if_pos hf0,hUe,decide_eq_true (hR1 hRt),Bool.true_or,hR2 hRt,if_pos rfl]
   refine⟨?_,rfl⟩
   unfold cS aw
   cases ng<;>simp
  ·rw[if_neg hf0,decide_eq_true (p:=9218868437227405312<=((a*4503599627370496+u:Nat):Int)) (by omega),Bool.or_true]
   refine⟨?_,rfl⟩
   unfold cS aw ce
   cases ng<;>simp<;>split<;>omega
end Go.Proofs.YtkkpppgfoilgmaaGreatDoor
namespace Go.Proofs.YtkkpppgfoilgmaaGreatDoor
open Go Go.Proofs.Tryz Go.RowKit Go.Proofs.YtkkpppgfoilgmaaGreatDoor.M
theorem zn {p:Prop} (h:p):Hid p:=h
theorem m7 {k:IntKind} {a b:Int} (h:a=b):Value.int k a=.int k b:=by rw[h]
theorem lx (mag exp:Int) (w:World) (h0:0<mag) (h:mag<9223372036854775808) (e0:-2000<=exp) (e1:exp<=2000) :
  Calls prog 155 #[.int .i64 mag,.int .i64 exp,.int .i64 (-1074),.int .i64 53] w fun e w'=>e=.returned (.tuple #[.int .i64 (sm 52 (-1074) mag exp),.int .i64 (se 52 (-1074) mag exp),.bool (sk 52 (-1074) mag exp)])∧w'=w:=by
 have hj:=i6 h0 h
 have hL:=lz h0 h
 have hz63:jz mag<63:=by obtain⟨_,_,a,_⟩:=eG h0 h;exact a
 have hodd:=sR h0 h
 go_enter func155,ntmps155
 go_wp2
 go_loop [0,1] (fun a b=>∃ k:Nat,k<=jz mag∧a=.int .i64 (mag/2^k)∧b=.int .i64 (exp+k)) (fun _ b=>(exp+jz mag-intOf b).toNat)
 case atStart=>exact⟨0,Nat.zero_le _,by simp,by simp⟩
 case round=>
  obtain⟨k,hk,rfl,rfl⟩:=hrel
  by_cases hlt:k<jz mag
  ·obtain⟨a1,a2,a3,a4⟩:=zW h0 h k hlt
   have b1:(mag/2^k % 2 == 0)=true:=by simp[a1]
   have A2:=zn a2
   clear a2 a1
   go_wp2
   go_round
   case rel=>exact⟨k+1,hlt,m7 A2.out,m7 (by omega)⟩
   case measure=>simp[intOf];omega
  ·have hke:k=jz mag:=by omega
   subst hke
   have eo:mag/2^jz mag=jo mag:=rfl
   have b1:(jo mag % 2 == 0)=false:=by simp[hodd]
   have hd0:=lA (fr:=53) h0 h (by omega) 0
   have hd1:jo mag<9007199254740992↔0<=eM 52 mag:=by
    have e:jo mag*2^0=jo mag:=by simp
    rw[e,show(2:Int)^(53:Int).toNat=9007199254740992 by decide] at hd0
    rw[hd0];unfold eM;omega
   clear hd0 hodd
   by_cases s1:jo mag<9007199254740992
   ·have sp:=hd1.1 s1
    clear hd1
    by_cases s2:exp+jz mag < -1074
    ·have hk:Hid (sk 52 (-1074) mag exp=false):=by unfold Hid sk;simp;omega
     go_wp2
     go_ret3
     exact⟨iF (by simp[sm,hk.out]) (by simp[se,hk.out]) (by simp[hk.out]),rfl⟩
    ·have hk:Hid (sk 52 (-1074) mag exp=true):=by unfold Hid sk;simp;omega
     obtain⟨s,hs⟩:∃ s:Nat,b6 52 (-1074) mag exp=(s:Int):=⟨(b6 52 (-1074) mag exp).toNat,by unfold b6;omega⟩
     have hs':Hid (b6 52 (-1074) mag exp=(s:Int)):=hs
     have hsd:Hid ((s:Int)=min (eM 52 mag) (exp+jz mag+1074)):=by unfold Hid;rw[<- hs];unfold b6;omega
     clear hs
     go_wp2
     go_loop [0,1] (fun a b=>∃ j:Nat,j<=s∧a=.int .i64 (jo mag*2^j)∧b=.int .i64 (exp+jz mag-j)) (fun _ b=>(intOf b+1074).toNat)
     case atStart=>exact⟨0,Nat.zero_le _,by simp,by simp⟩
     case round=>
      obtain⟨j,hjs,rfl,rfl⟩:=hrel
      have hd:=lA (fr:=52) h0 h (by omega) j
      rw[show(2:Int)^(52:Int).toNat=4503599627370496 by decide] at hd
      have hb:=gW (fr:=52) h0 h (by omega) j (by have:=hsd.out;omega)
      have hb1:=hb.1
      have hb2:jo mag*2^j<9007199254740992:=hb.2
      clear hb
      by_cases hlt:j<s
      ·have c1:jo mag*2^j<4503599627370496:=hd.2 (by have:=hsd.out;omega)
       have c2:-1074<exp+jz mag-j:=by have:=hsd.out;omega
       have e2:Hid (jo mag*2^j+jo mag*2^j=jo mag*2^(j+1)):=by
        unfold Hid;rw[Int.pow_succ,<- Int.mul_assoc];omega
       clear hd
       go_wp2
       go_round
       case rel=>exact⟨j+1,hlt,m7 e2.out,m7 (by omega)⟩
       case measure=>simp[intOf];omega
      ·have hje:j=s:=by omega
       subst hje
       have fin:¬ (-1074<exp+jz mag-j∧jo mag*2^j<4503599627370496):=by
        rw[hd];have:=hsd.out;omega
       clear hd
       by_cases c2:-1074<exp+jz mag-j
       all_goals
        go_wp2
        go_ret3
        exact⟨iF (by simp[sm,hk.out,hs'.out]) (by simp[se,hk.out,hs'.out]) (by simp[hk.out]),rfl⟩
   ·have hk:Hid (sk 52 (-1074) mag exp=false):=by unfold Hid sk;simp;omega
    clear hd1
    go_wp2
    go_ret3
    exact⟨iF (by simp[sm,hk.out]) (by simp[se,hk.out]) (by simp[hk.out]),rfl⟩
theorem zo (neg:Bool) (mag exp:Int) (w:World) (hm:au mag) (he:au exp) :
  Calls prog 146 #[.bool neg,.int .i64 mag,.int .i64 exp] w fun e w'=>e=.returned (.tuple #[.int .i64 (jp neg mag exp),.bool (jk 52 2047 (-1074) mag exp)])∧w'=w:=by
 unfold au at hm he
 rcases Int.lt_trichotomy mag 0 with h|h|h
 ·have hk:Hid (jk 52 2047 (-1074) mag exp=false):=by unfold Hid jk;rw[if_pos h]
  have hv:Hid (jp neg mag exp=0):=by unfold Hid jp;rw[hk.out];simp[jv];omega
  cases neg
  all_goals
   go_enter func146,ntmps146
   go_wp2
   go_ret2
   exact⟨aS hv.out.symm hk.out.symm,rfl⟩
 ·subst h
  cases neg
  all_goals
   go_enter func146,ntmps146
   go_wp2
   all_goals go_ret2
   all_goals exact⟨aS (by simp[jp,jk,jv]) (by simp[jk]),rfl⟩
 ·have hn:(mag == 0)=false:=by simp;omega
  by_cases f1:2000<exp
  ·have hg:=nT h hm.2 (exp:=exp) (by omega)
   have hk:Hid (jk 52 2047 (-1074) mag exp=false):=by unfold Hid jk;rw[if_neg (by omega),if_neg (by omega),hg]
   have hv:Hid (jp neg mag exp=0):=by unfold Hid jp;rw[hk.out];simp[jv,hg]
   clear hg
   cases neg
   all_goals
    go_enter func146,ntmps146
    go_wp2
    go_ret2
    exact⟨aS hv.out.symm hk.out.symm,rfl⟩
  ·by_cases f2:exp < -2000
   ·have hg:=sS h hm.2 f2
    have hk:Hid (jk 52 2047 (-1074) mag exp=false):=by unfold Hid jk;rw[if_neg (by omega),if_neg (by omega),hg]
    have hv:Hid (jp neg mag exp=0):=by unfold Hid jp;rw[hk.out];simp[jv,hg]
    clear hg
    cases neg
    all_goals
     go_enter func146,ntmps146
     go_wp2
     go_ret2
     exact⟨aS hv.out.symm hk.out.symm,rfl⟩
   ·have hgs:=pl mag exp
    by_cases g1:sk 52 (-1074) mag exp=true
    ·by_cases g2:se 52 (-1074) mag exp<=971
     ·obtain⟨b1,b2,b3,b4⟩:=BC h hm.2 g1 g2
      have hk:Hid (jk 52 2047 (-1074) mag exp=true):=by unfold Hid jk;rw[if_neg (by omega),if_neg (by omega),hgs,g1];simpa using g2
      have hv:Hid (jv 52 2047 (-1074) mag exp=(if sm 52 (-1074) mag exp<4503599627370496 then sm 52 (-1074) mag exp else (se 52 (-1074) mag exp+1075)*4503599627370496+sm 52 (-1074) mag exp-4503599627370496)):=b4
      clear b4 hgs
      by_cases g3:sm 52 (-1074) mag exp<4503599627370496
      all_goals
       cases neg
       all_goals
        go_enter func146,ntmps146
        go_wp2_with (go_at_call 155;refine(lx mag exp _ h hm.2 (by omega) (by omega)).mono ?_;rintro e w1 ⟨rfl,rfl⟩)
        go_ret2
        refine⟨aS ?_ hk.out.symm,rfl⟩
        unfold jp
        rw[hk.out,hv.out]
        simp
        omega
     ·have hg:bI 52 2047 (-1074) mag exp=false:=by rw[hgs,g1];simpa using g2
      have hk:Hid (jk 52 2047 (-1074) mag exp=false):=by unfold Hid jk;rw[if_neg (by omega),if_neg (by omega),hg]
      have hv:Hid (jp neg mag exp=0):=by unfold Hid jp;rw[hk.out];simp[jv,hg]
      clear hg hgs
      cases neg
      all_goals
       go_enter func146,ntmps146
       go_wp2_with (go_at_call 155;refine(lx mag exp _ h hm.2 (by omega) (by omega)).mono ?_;rintro e w1 ⟨rfl,rfl⟩)
       go_ret2
       exact⟨aS hv.out.symm hk.out.symm,rfl⟩
    ·have g1':sk 52 (-1074) mag exp=false:=by simpa using g1
     have hg:bI 52 2047 (-1074) mag exp=false:=by rw[hgs,g1'];rfl
     have hk:Hid (jk 52 2047 (-1074) mag exp=false):=by unfold Hid jk;rw[if_neg (by omega),if_neg (by omega),hg]
     have hv:Hid (jp neg mag exp=0):=by unfold Hid jp;rw[hk.out];simp[jv,hg]
     clear hg hgs g1
     cases neg
     all_goals
      go_enter func146,ntmps146
      go_wp2_with (go_at_call 155;refine(lx mag exp _ h hm.2 (by omega) (by omega)).mono ?_;rintro e w1 ⟨rfl,rfl⟩)
      go_ret2
      exact⟨aS hv.out.symm hk.out.symm,rfl⟩
theorem iD {A W:Int} {a:Nat->Int} {m:Nat} (hd:aO a (m+1)) (h:W*P (m+1)+val a (m+1)=A) (h0:0<=W) (hA:A<9223372036854775808):W*1073741824+a m<=9223372036854775807∧(W*1073741824+a m)*P m+val a m=A:=by
 have e:(W*1073741824+a m)*P m+val a m=A:=by
  rw[<- h,eD,aI];grind
 refine⟨?_,e⟩
 have h1:=aJ (hd.le (Nat.le_succ m))
 have h2:=bp m
 have h3:=(hd m (by omega)).1
 have h4:(W*1073741824+a m)*1<=(W*1073741824+a m)*P m:=Int.mul_le_mul_of_nonneg_left (by omega) (by omega)
 omega
def gz:Value:=.agg #[.int .i64 53,.int .i64 (-1074),.int .i64 1024,.int .i64 9218868437227405312,.int .i64 (-9223372036854775808)]
theorem gT (m:Int) (w:World) (h0:0<=m) (h1:m<=9223372036854775807) :
  Calls prog 138 #[.int .i64 m] w fun e w'=>e=.returned (.int .i64 (aC m))∧w'=w:=by
 have hbl:aC m<=63:=cw (by show m<9223372036854775808;omega)
 go_enter func138,ntmps138
 go_wp2
 go_loop [0,3] (fun v s=>∃ (x:Int) (t:Nat),s=.int .i64 t∧v=.int .i64 x∧0<=x∧x<=9223372036854775807∧t<=63∧Hid (t+aC x=aC m)) (fun v _=>(intOf v).toNat)
 case atStart=>exact⟨m,0,by go_num,rfl,h0,h1,by omega,by show 0+_=_;omega⟩
 case round=>
  obtain⟨x,t,rfl,rfl,hx0,hx1,ht,HT⟩:=hrel
  by_cases hp:0<x
  ·have ht2:t+1<=63:=by have:=HT.out;have:=i9 hp;omega
   go_wp2
   go_round
   case rel=>exact⟨x/2,t+1,by go_num,rfl,by omega,by omega,ht2,by show _=_;have:=HT.out;have:=i9 hp;omega⟩
   case measure=>simp[intOf];omega
  ·obtain rfl:x=0:=by omega
   go_wp2
   go_ret
   exact⟨bS (by have:=HT.out;rw[kR] at this;omega),rfl⟩
theorem rd (m e:Int) (w:World) (hm:au m) (he:au e) :
  Calls prog 139 #[gz,.int .i64 m,.int .i64 e] w fun x w'=>x=.returned (.int .i64 (jp false m e))∧Below w.heap.size w w':=by
 have hJ:=fun W=>zo false m e W hm he
 generalize jp false m e=J at hJ ⊢
 generalize jk 52 2047 (-1074) m e=K at hJ
 unfold gz
 go_enter func139,ntmps139
 go_wp2_with fail
 refine(hJ _).mono ?_
 rintro r w1 ⟨rfl,rfl⟩
 go_wp2
 go_ret
 exact⟨rfl,ae _ _⟩
theorem xz (ao:Option Addr) (n cap:Nat) (i:Int) (w:World) (hi:i<0) (hi2:-9223372036854775808<=i) :
  Calls prog 137 #[.slice ao n cap,.int .i64 i] w fun e w'=>e=.returned (.bool false)∧w'=w:=by
 go_enter func137,ntmps137
 go_wp2
 go_ret
 exact⟨rfl,rfl⟩
def Pt (w:World) (ng na ni:Bool) (V:Int) (v:Value):Prop:=∃ xg xo xn xc xe,v=.agg #[.bool ng,.bool na,.bool ni,.bool xg,.slice xo xn xc,.int .i64 xe]∧aX w (.agg #[.bool xg,.slice xo xn xc,.int .i64 xe]) V
theorem cd.set {B:Nat} {w:World} {V:Int} {v:Value} (h:cd B w V v) {a:Addr} (ha:a.block<B) (u:Value):cd B (w.setCell a u) V v:=by
 obtain⟨ng,s,m,e,h1,h2,t,d,h3,h4,h5⟩:=h
 exact⟨ng,s,m,e,h1,h2,t,d,h3.set_below ha u,h4,h5⟩
theorem zr {b:Int} (hp:aB b≠true):(aD b=3∨aD b=4)∧aM b=0:=by
 unfold aB at hp
 simp at hp
 refine⟨?_,?_⟩
 ·unfold aD
  rw[if_pos hp]
  split<;>simp
 ·unfold aM bl
  rw[if_pos hp]
  have:sg (cl b) 0=0:=by unfold sg;split<;>rfl
  rw[this,Int.zero_mul]
end Go.Proofs.YtkkpppgfoilgmaaGreatDoor
