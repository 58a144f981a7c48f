/-
  Parts of the proof, one behind another.
-/
import Derived.Test.YtinccocmgkjalaaGreatDoorPart21
import Derived.Test.YtinccocmgkjalaaGreatDoorPart7
import Derived.Test.YtinccocmgkjalaaGreatDoorPart19
import Derived.Maps.AppendAt
import Derived.Laws.AppendOwnNone
import Derived.Test.YtinccocmgkjalaaGreatDoorPart17
import Derived.Deep.RegionHeld3
import Derived.Test.YtinccocmgkjalaaGreatDoorPart15
import Derived.Test.YtinccocmgkjalaaGreatDoorPart14
set_option linter.unusedVariables false
set_option linter.unusedSimpArgs false
namespace Go.Proofs.YtinccocmgkjalaaGreatDoor
open Go Go.RowKit Go.Proofs.YtinccocmgkjalaaGreatDoor.M
theorem opp_V {x:NumR} (ok:okR x=true):x.opp.V=-x.V∧Dy x.opp.V x.opp.ng (val x.opp.d x.opp.n) x.opp.e:=by
 have hy:=(okR_dy ok).1
 have hN:=(okR_sane ok).1
 by_cases h0:x.n=0
 ·have hv:val x.d x.n=0:=by rw [h0]; rfl
  have e:x.opp=x:=by unfold NumR.opp; rw [if_pos h0]
  rw [e]
  have:=hy.eq_zero.2 hv
  exact ⟨by omega,hy⟩
 ·have hp:=val_pos hN (show 0 < x.n by omega)
  have e:x.opp=⟨!x.ng,x.ao,x.n,x.cap,x.d,x.e⟩:=by unfold NumR.opp; rw [if_neg h0]
  rw [e]
  have h1:=hy.neg hp
  have hV:NumR.V ⟨!x.ng,x.ao,x.n,x.cap,x.d,x.e⟩=-x.V:=h1.val.symm
  rw [hV]
  exact ⟨rfl,h1⟩
theorem RSum.shape {w w':World} {A B:Int} {x y:NumR} {v:Value} (h:RSum w w' A B x.v y.v v):∃ ng so sn sc e,v=.agg #[.bool ng,.slice so sn sc,.int .i64 e]:=by
 rcases h.2 with ⟨ng,s,m,e,rfl,_,hA⟩ | ⟨_,rfl⟩ | ⟨_,rfl⟩
 ·obtain ⟨so,sn,sc,rfl⟩:=hA.num.shape
  exact ⟨_,_,_,_,_,rfl⟩
 ·exact ⟨_,_,_,_,_,rfl⟩
 ·exact ⟨_,_,_,_,_,rfl⟩
theorem rsum_res {w W w3:World} {A B:Int} {x y v:Value} (hv:RSum W w3 A B x y v) (hb:Below w.heap.size w W) {g:Nat} (h0:w.heap.size <= g) (h1:g < W.heap.size) (a b c:Value) :
  RSum w (((w3.setCell ⟨g,0,none⟩ a).setCell ⟨g,1,none⟩ b).setCell ⟨g,2,none⟩ c) A B x y v:=by
 refine ⟨bel_set3 (bel_trans hb hv.1) h0 _ _ _,?_⟩
 rcases hv.2 with h | h | h
 ·exact .inl (dans_res3 h hb h0 h1 a b c)
 ·exact .inr (.inl h)
 ·exact .inr (.inr h)
set_option maxRecDepth 100000 in
set_option maxHeartbeats 2000000 in
theorem rsub3_any (x y:NumR) (w:World) (hx:Row w x.ao x.n x.cap x.d) (hy:Row w y.ao y.n y.cap y.d) (ox:okR x=true) (oy:okR y=true) {K:Nat} (hK:K <= 560000) (bx:Bd K x.V) (bY:Bd K y.V) :
  Calls Tryz.prog 77 #[x.v,y.v] w fun r w'=>∃ v,r=.returned v∧RSum w w' x.V (-y.V) x.v y.opp.v v:=by
 obtain ⟨e1,e2⟩:=opp_V oy
 have hop:=fun W=>rneg3_any y W (by have:=hy.le; have:=hy.max; omega)
 have C2:∀ W,Below w.heap.size w W->Calls Tryz.prog 108 #[x.v,y.opp.v] W fun r w'=>∃ ng so sn sc e,r=.returned (.agg #[.bool ng,.slice so sn sc,.int .i64 e])∧RSum W w' x.V (-y.V) x.v y.opp.v (.agg #[.bool ng,.slice so sn sc,.int .i64 e])∧Below W.heap.size W w':=fun W hb=>by
  refine (radd3_any x y.opp W (hx.keeps hb) (hy.keeps hb) (okR_dy ox).1 (okR_sane ox).1 e2 (okR_sane oy).1 hK bx (by rw [e1]; exact bY.neg)).mono ?_
  rintro r w' ⟨v,rfl,h⟩
  rw [e1] at h
  obtain ⟨ng,so,sn,sc,e,rfl⟩:=h.shape
  exact ⟨_,_,_,_,_,rfl,h,h.1⟩
 have hmy:=hy.max
 have hly:=hy.le
 obtain ⟨VV,hVV⟩:∃ V,V=x.V:=⟨_,rfl⟩
 obtain ⟨UU,hUU⟩:∃ V,V=-y.V:=⟨_,rfl⟩
 rw [<- hVV,<- hUU] at C2 ⊢
 clear e1 e2 bx bY hVV hUU ox oy
 unfold NumR.opp at *
 obtain ⟨on,hon⟩:∃ V,V=(if y.n=0 then y.ng else !y.ng):=⟨_,rfl⟩
 rw [<- hon] at hop C2 ⊢
 clear hon
 obtain ⟨an,ao,n,ca,a,e⟩:=x
 obtain ⟨bn,bo,m,cb,b,f⟩:=y
 unfold NumR.v at *
 simp only at *
 have hb3:Below w.heap.size w (((w.alloc (.cells #[.bool an,.slice ao n ca,.int .i64 e] 34)).alloc (.cells #[.bool bn,.slice bo m cb,.int .i64 f] 34)).alloc (.cells #[.bool false,.slice none 0 0,.int .i64 0] 34)):=bel_a3 _ _ _ _
 have g0:=h3_0 w (.cells #[.bool an,.slice ao n ca,.int .i64 e] 34) (.cells #[.bool bn,.slice bo m cb,.int .i64 f] 34) (.cells #[.bool false,.slice none 0 0,.int .i64 0] 34)
 have g1:=h3_1 w (.cells #[.bool an,.slice ao n ca,.int .i64 e] 34) (.cells #[.bool bn,.slice bo m cb,.int .i64 f] 34) (.cells #[.bool false,.slice none 0 0,.int .i64 0] 34)
 have g2:=h3_2 w (.cells #[.bool an,.slice ao n ca,.int .i64 e] 34) (.cells #[.bool bn,.slice bo m cb,.int .i64 f] 34) (.cells #[.bool false,.slice none 0 0,.int .i64 0] 34)
 go_enter Tryz.func77,Tryz.ntmps77
 go_wp2_with fail
 generalize ((w.alloc (.cells #[.bool an,.slice ao n ca,.int .i64 e] 34)).alloc (.cells #[.bool bn,.slice bo m cb,.int .i64 f] 34)).alloc (.cells #[.bool false,.slice none 0 0,.int .i64 0] 34)=wx at hb3 g0 g1 g2 ⊢
 have k0:=blkC g0 0 rfl
 have k1:=blkC g0 1 rfl
 have k2:=blkC g0 2 rfl
 have j0:=blkC g1 0 rfl
 have j1:=blkC g1 1 rfl
 have j2:=blkC g1 2 rfl
 have hb1:=bel_refl wx
 have hs3:=(Array.getElem?_eq_some_iff.1 g2).1
 go_region_held3 (fun W=>(W.cell? ⟨w.heap.size,0,none⟩=some (.bool an)∧W.cell? ⟨w.heap.size,1,none⟩=some (.slice ao n ca)∧W.cell? ⟨w.heap.size,2,none⟩=some (.int .i64 e))∧W.cell? ⟨w.heap.size + 1,0,none⟩=some (.bool bn)∧W.cell? ⟨w.heap.size + 1,1,none⟩=some (.slice bo m cb)∧W.cell? ⟨w.heap.size + 1,2,none⟩=some (.int .i64 f))
  (first | assumption | exact ⟨⟨k0,k1,k2⟩,j0,j1,j2⟩ | exact keep66 (W:=wx.drew) hbv1 ⟨⟨k0,k1,k2⟩,j0,j1,j2⟩ | exact keep66 hbv2 (keep66 (W:=wx.drew) hbv1 ⟨⟨k0,k1,k2⟩,j0,j1,j2⟩) | exact ⟨keepS (keep66 hbv2 (keep66 (W:=wx.drew) hbv1 ⟨⟨k0,k1,k2⟩,j0,j1,j2⟩)).1 (by omega) _ _ _,keepS (keep66 hbv2 (keep66 (W:=wx.drew) hbv1 ⟨⟨k0,k1,k2⟩,j0,j1,j2⟩)).2 (by omega) _ _ _⟩)
  (first | (go_at_call 108; refine (C2 _ (bel_trans hb3 (bel_trans hb1.drew hbv1))).mono ?_; rintro y w4 ⟨ng4,o4,n4,c4,e4,rfl,hv2,hbv2⟩; have q0:=((bel_trans hbv1 hbv2).block (w.heap.size + 2) (by show _ < wx.heap.size; omega)).trans g2; have x0:=blkC q0 0 rfl; have x1:=blkC q0 1 rfl; have x2:=blkC q0 2 rfl; have z0:=blkF q0 0; have z1:=blkF q0 1; have z2:=blkF q0 2) | (go_at_call 109; refine (hop _).mono ?_; rintro y w3 ⟨rfl,hbv1⟩))
 all_goals go_wp2
 all_goals
  refine bodyPost_ret (v:=.agg #[.bool ng4,.slice o4 n4 c4,.int .i64 e4]) (by simp [results,Tryz.results77,go_sem,x0,x1,x2]) rfl ⟨_,rfl,?_⟩
  exact rsum_res (g:=w.heap.size + 2) hv2 (bel_trans hb3 (bel_trans hb1.drew hbv1)) (by omega) (Nat.lt_of_lt_of_le (show _ < wx.heap.size by omega) hbv1.size) _ _ _
theorem sgn_ord {w:World} {ng:Bool} {so:Option Addr} {sn sc:Nat} {e V:Int} (h:DNum w (.agg #[.bool ng,.slice so sn sc,.int .i64 e]) V):sgn ng sn=ord V 0∧sn <= 9223372036854775807:=by
 obtain ⟨ng',s,m,e',h1,hy,ao,n,cap,d,rfl,hR,hN,rfl⟩:=h
 simp only [Value.agg.injEq,Array.mk.injEq,List.cons.injEq,Value.bool.injEq,Value.int.injEq,Value.slice.injEq,and_true,true_and] at h1
 obtain ⟨rfl,⟨rfl,rfl,rfl⟩,rfl⟩:=h1
 refine ⟨?_,by have:=hR.le; have:=hR.max; omega⟩
 by_cases h0:sn=0
 ·have:=hy.eq_zero.2 (by rw [h0]; rfl)
  rw [this,ord_eq rfl]
  simp [sgn,h0]
 ·have hp:=val_pos hN (show 0 < sn by omega)
  cases ng
  ·have hn:¬ V < 0:=fun h=>by have:=hy.neg_iff.2 h; simp at this
   have hz:V ≠ 0:=fun h=>by have:=hy.eq_zero.1 h; omega
   rw [ord_gt (by omega)]
   simp [sgn,h0]
  ·have hn:=hy.neg_iff.1 rfl
   rw [ord_lt hn]
   simp [sgn,h0]
def cells3 (f:Nat->Value):Nat->List Value
 | 0=>[]
 | m + 1=>cells3 f m ++ (f m).cells.toList
def Three (v:Value):Prop:=∃ ng so sn sc e,v=.agg #[.bool ng,.slice so sn sc,.int .i64 e]
theorem DAn.three {B:Nat} {w:World} {V:Int} {v:Value} (h:DAn B w V v):Three v:=by
 obtain ⟨ng,s,m,e,rfl,_,hA⟩:=h
 obtain ⟨so,sn,sc,rfl⟩:=hA.shape
 exact ⟨_,_,_,_,_,rfl⟩
theorem cells3_length {f:Nat->Value}:∀ m,(∀ i,i < m->Three (f i))->(cells3 f m).length=m * 3
 | 0,_=>rfl
 | m + 1,h=>by
  obtain ⟨ng,so,sn,sc,e,he⟩:=h m (by omega)
  rw [cells3,List.length_append,cells3_length m fun i hi=>h i (by omega),he]
  simp [Value.cells]
  omega
theorem cells3_at {f:Nat->Value}:∀ m,(∀ i,i < m->Three (f i))->∀ i j,i < m->j < 3->(cells3 f m)[i * 3 + j]?=(f i).cells[j]?
 | 0,_,i,j,hi,_=>by omega
 | m + 1,h,i,j,hi,hj=>by
  have hl:=cells3_length m fun i hi=>h i (by omega)
  rw [cells3]
  by_cases e:i=m
  ·subst e
   rw [List.getElem?_append_right (by omega),hl,show i * 3 + j - i * 3=j by omega]
   simp
  ·rw [List.getElem?_append_left (by omega)]
   exact cells3_at m (fun i hi=>h i (by omega)) i j (by omega) hj
def OutN (B:Nat) (w:World) (x:Value) (m:Nat) (f:Nat->Value):Prop:=w.ownsRow B 34 3 x m (cells3 f m)
theorem OutN.nil (B:Nat) (w:World) (f:Nat->Value):OutN B w (.slice none 0 0) 0 f:=⟨rfl,.inl ⟨rfl,rfl⟩⟩
theorem OutN.of_block {B:Nat} {w w':World} {x:Value} {m:Nat} {f:Nat->Value} (h:OutN B w x m f) (hb:∀ g,x.ownBlock=some g->w'.heap[g]?=w.heap[g]?):OutN B w' x m f:=by
 refine ⟨h.1,?_⟩
 rcases h.2 with hn | ⟨g,cap,cur,rfl,hbb,hg,rest⟩
 ·exact .inl hn
 ·exact .inr ⟨g,cap,cur,rfl,hbb,(hb g rfl).trans hg,rest⟩
theorem OutN.typed {B:Nat} {w:World} {x:Value} {m:Nat} {f:Nat->Value} (h:OutN B w x m f) {g:Nat} (hg:x.ownBlock=some g):B <= g∧g < w.heap.size∧∃ cur z,w.heap[g]?=some (.cells cur 34 z):=by
 rcases h.2 with ⟨rfl,_⟩ | ⟨g',cap,cur,rfl,hbb,hg',rest⟩
 ·simp [Value.ownBlock] at hg
 ·simp only [Value.ownBlock,Option.some.injEq] at hg; subst hg; exact ⟨hbb,(Array.getElem?_eq_some_iff.1 hg').1,cur,_,hg'⟩
theorem OutN.keeps {B:Nat} {w w':World} {x:Value} {m:Nat} {f:Nat->Value} (h:OutN B w x m f) (hb:Below w.heap.size w w'):OutN B w' x m f:=h.of_block fun g hg=>hb.block g (h.typed hg).2.1
theorem OutN.shape {B:Nat} {w:World} {x:Value} {m:Nat} {f:Nat->Value} (h:OutN B w x m f):∃ xo xc,x=.slice xo m xc∧m <= xc∧(0 < m->∃ g,xo=some ⟨g,0,none⟩):=by
 rcases h.2 with ⟨rfl,rfl⟩ | ⟨g,cap,cur,rfl,hb,hg,hn,hm,_⟩
 ·exact ⟨none,0,rfl,Nat.le_refl _,fun h=>by omega⟩
 ·exact ⟨_,cap,rfl,hn,fun _=>⟨g,rfl⟩⟩
theorem OutN.cell {B:Nat} {w:World} {xo:Option Addr} {m xc g:Nat} {f:Nat->Value} (h:OutN B w (.slice xo m xc) m f) (ht:∀ i,i < m->Three (f i)) (hx:xo=some ⟨g,0,none⟩) {i j:Nat} (hi:i < m) (hj:j < 3):w.cell? ⟨g,i * 3 + j,none⟩=(f i).cells[j]?:=by
 rcases h.2 with ⟨_,rfl⟩ | ⟨g',cap,cur,e,hb,hg,hn,hm,hs,ht'⟩
 ·omega
 ·simp only [Value.slice.injEq] at e
  obtain ⟨rfl,_,rfl⟩:=e
  simp only [Option.some.injEq,Addr.mk.injEq] at hx
  obtain ⟨rfl,_⟩:=hx
  rw [cell_of_row w g' (i * 3 + j) cur _ _ hg,<- cells3_at m ht i j hi hj,<- ht',List.getElem?_take_of_lt (by omega)]
  simp
theorem DAn.of_blocks {B:Nat} {w w':World} {V:Int} {v:Value} (h:DAn B w V v) (hb:∀ (g:Nat) (cur:Array Value) z,w.heap[g]?=some (.cells cur 3 z)->w'.heap[g]?=w.heap[g]?):DAn B w' V v:=by
 obtain ⟨ng,s,m,e,h1,h2,t,d,hO,h3⟩:=h
 exact ⟨ng,s,m,e,h1,h2,t,d,hO.of_block fun g hg=>by obtain ⟨cur,z,hc⟩:=hO.typed hg; exact hb g cur z hc,h3⟩
structure LS (B:Nat) (w:World) (N:Nat) (X:Nat->Value) (M:Nat->Nat) (F:Nat->Nat->Value):Prop where
 own:∀ j,j < N->OutN B w (X j) (M j) (F j)
 ne:∀ i j,i < N->j < N->i ≠ j->∀ g,(X i).ownBlock=some g->(X j).ownBlock ≠ some g
theorem LS.keeps {B:Nat} {w w':World} {N:Nat} {X:Nat->Value} {M:Nat->Nat} {F:Nat->Nat->Value} (h:LS B w N X M F) (hb:Below w.heap.size w w'):LS B w' N X M F:=⟨fun j hj=>(h.own j hj).keeps hb,h.ne⟩
theorem LS.put {B:Nat} {w w':World} {N:Nat} {X:Nat->Value} {M:Nat->Nat} {F:Nat->Nat->Value} (h:LS B w N X M F) (j0:Nat) {row:Option Nat} (hg:w.grownBy w' row) {v':Value} {M':Nat} {F':Nat->Value} (hO:OutN B w' v' M' F') (h1:∀ j,j < N->j ≠ j0->∀ g,(X j).ownBlock=some g->row ≠ some g) (h2:∀ j,j < N->j ≠ j0->∀ g,(X j).ownBlock=some g->v'.ownBlock ≠ some g) :
  LS B w' N (updV X j0 v') (updV M j0 M') (updV F j0 F'):=by
 refine ⟨fun j hj=>?_,fun i j hi hj hij g hgi=>?_⟩
 ·by_cases e:j=j0
  ·subst e; rw [updV_same,updV_same,updV_same]; exact hO
  ·rw [updV_other _ _ e,updV_other _ _ e,updV_other _ _ e]
   exact (h.own j hj).of_block fun g hgx=>hg.block g ((h.own j hj).typed hgx).2.1 fun e'=>h1 j hj e g hgx e'.symm
 ·by_cases e:i=j0
  ·subst e
   rw [updV_same] at hgi
   rw [updV_other _ _ (Ne.symm hij)]
   exact fun hgj=>h2 j hj (Ne.symm hij) g hgj hgi
  ·rw [updV_other _ _ e] at hgi
   by_cases e2:j=j0
   ·subst e2
    rw [updV_same]
    exact h2 i hi e g hgi
   ·rw [updV_other _ _ e2]
    exact h.ne i j hi hj hij g hgi
theorem LS.row {B:Nat} {w:World} {N:Nat} {X:Nat->Value} {M:Nat->Nat} {F:Nat->Nat->Value} (h:LS B w N X M F) {j:Nat} (hj:j < N):∀ g,(X j).ownBlock=some g->∃ (cur:Array Value) (z:Nat × Nat),w.heap[g]?=some (Obj.cells cur 34 z):=fun g hg=>(((h.own j hj).typed hg).2.2)
theorem LS.ge {B:Nat} {w:World} {N:Nat} {X:Nat->Value} {M:Nat->Nat} {F:Nat->Nat->Value} (h:LS B w N X M F) {j:Nat} (hj:j < N):∀ g,(X j).ownBlock=some g->B <= g:=fun g hg=>((h.own j hj).typed hg).1
theorem OutN.nums {B:Nat} {w:World} {xo:Option Addr} {m xc:Nat} {f:Nat->Value} {r:Nat->NumR} (h:OutN B w (.slice xo m xc) m f) (hm:m <= 100000) (hr:∀ i,i < m->f i=(r i).v∧Row w (r i).ao (r i).n (r i).cap (r i).d):∃ c2,xc=c2∧Nums w xo m xc r:=by
 have ht:∀ i,i < m->Three (f i):=fun i hi=>⟨_,_,_,_,_,(hr i hi).1⟩
 refine ⟨xc,rfl,?_⟩
 obtain ⟨xo',xc',e,hle,hsp⟩:=h.shape
 simp only [Value.slice.injEq] at e
 obtain ⟨rfl,_,rfl⟩:=e
 refine ⟨hle,?_,fun hm0=>?_⟩
 ·rcases h.2 with ⟨e,_⟩ | ⟨g,cap,cur,e,hb,hg,hn,hmx,hs,_⟩
  ·simp only [Value.slice.injEq] at e; omega
  ·simp only [Value.slice.injEq] at e
   obtain ⟨_,_,rfl⟩:=e
   unfold maxLen at hmx
   omega
 ·obtain ⟨g,rfl⟩:=hsp hm0
  have hlt:g < w.heap.size:=(h.typed (g:=g) rfl).2.1
  refine ⟨g,0,rfl,hlt,fun i hi=>?_⟩
  obtain ⟨h1,h2⟩:=hr i hi
  have c:=fun j (hj:j < 3)=>h.cell ht rfl hi (j:=j) hj
  rw [h1] at c
  rw [Nat.zero_add]
  exact ⟨c 0 (by decide),c 1 (by decide),c 2 (by decide),h2⟩
def Src (B:Nat) (w:World) (n:Nat) (r:Nat->NumR) (V:Int) (v:Value):Prop:=DAn B w V v∨∃ i,i < n∧v=(r i).v∧V=(r i).V
theorem Src.keeps {B:Nat} {w w':World} {n:Nat} {r:Nat->NumR} {V:Int} {v:Value} (h:Src B w n r V v) (hb:Below w.heap.size w w'):Src B w' n r V v:=by
 rcases h with h | h
 ·exact .inl (h.keeps hb)
 ·exact .inr h
theorem ints_set3 {w:World} {g o0 o1 o2:Nat} {xs:Array Value} {z:Nat × Nat} (hg:w.heap[g]?=some (.cells xs 34 z)) (x y u:Value):∀ (g':Nat) (cur:Array Value) z',w.heap[g']?=some (.cells cur 3 z')->(((w.setCell ⟨g,o0,none⟩ x).setCell ⟨g,o1,none⟩ y).setCell ⟨g,o2,none⟩ u).heap[g']?=w.heap[g']?:=fun g' cur z' hc=>by
 refine (wr3 w g o0 o1 o2 x y u).block g' (Array.getElem?_eq_some_iff.1 hc).1 fun e=>?_
 subst e
 rw [hg] at hc
 simp at hc
theorem blk_on {W y:World} (hb:Below W.heap.size W y) {g:Nat} {X:Obj} (h:W.heap[g]?=some X):y.heap[g]?=some X:=(hb.block _ (Array.getElem?_eq_some_iff.1 h).1).trans h
theorem cellS {W:World} {p:Addr} {v:Value} {o:Nat} (h:W.cell? p=some v) (hp:p.block ≠ o) (x y z:Value):(((W.setCell ⟨o,0,none⟩ x).setCell ⟨o,1,none⟩ y).setCell ⟨o,2,none⟩ z).cell? p=some v :=
 ((((Wr.refl o W).setCell 0 x |>.setCell 1 y).setCell 2 z).cell (World.block_lt_of_cell? W _ h) hp).trans h
theorem dan_res3 {B:Nat} {w3:World} {V:Int} {v:Value} (hv:DAn B w3 V v) {g:Nat} {xs:Array Value} {z:Nat × Nat} (hg:w3.heap[g]?=some (.cells xs 34 z)) (a b c:Value) :
  DAn B (((w3.setCell ⟨g,0,none⟩ a).setCell ⟨g,1,none⟩ b).setCell ⟨g,2,none⟩ c) V v:=hv.of_blocks (ints_set3 hg a b c)
def Det (a1 a2 b1 b2 V:Int):Prop:=∃ C D,C * 2 ^ 4194304=a1 * b2∧D * 2 ^ 4194304=a2 * b1∧V=C - D
theorem Det.unique {a1 a2 b1 b2 V V':Int} (h:Det a1 a2 b1 b2 V) (k:Det a1 a2 b1 b2 V'):V=V':=by
 obtain ⟨C,D,h1,h2,rfl⟩:=h
 obtain ⟨C',D',k1,k2,rfl⟩:=k
 rw [scale_inj (h1.trans k1.symm),scale_inj (h2.trans k2.symm)]
set_option maxRecDepth 100000 in
set_option maxHeartbeats 8000000 in
theorem oexact_any {ax ay bx by' cx cy:Int} (pax:pok ax=true) (pay:pok ay=true) (pbx:pok bx=true) (pby:pok by'=true) (pcx:pok cx=true) (pcy:pok cy=true) (w:World) (H:Hold4 w) :
  Calls Tryz.prog 46 #[.agg #[.int .i64 ax,.int .i64 ay],.agg #[.int .i64 bx,.int .i64 by'],.agg #[.int .i64 cx,.int .i64 cy]] w fun r w'=>∃ v V,r=.returned v∧DAns w w' V v∧Det (patV ax - patV cx) (patV ay - patV cy) (patV bx - patV cx) (patV by' - patV cy) V∧Bd 8100 V:=by
 have A1:Hid (∀ W,Hold4 W->Calls Tryz.prog 51 #[.int .i64 ax,.int .i64 cx] W fun r w'=>∃ v,r=.returned v∧DAns W w' (patV ax - patV cx) v):=fun W h=>oapart_any pax pcx W h
 have A2:Hid (∀ W,Hold4 W->Calls Tryz.prog 51 #[.int .i64 by',.int .i64 cy] W fun r w'=>∃ v,r=.returned v∧DAns W w' (patV by' - patV cy) v):=fun W h=>oapart_any pby pcy W h
 have A3:Hid (∀ W,Hold4 W->Calls Tryz.prog 51 #[.int .i64 ay,.int .i64 cy] W fun r w'=>∃ v,r=.returned v∧DAns W w' (patV ay - patV cy) v):=fun W h=>oapart_any pay pcy W h
 have A4:Hid (∀ W,Hold4 W->Calls Tryz.prog 51 #[.int .i64 bx,.int .i64 cx] W fun r w'=>∃ v,r=.returned v∧DAns W w' (patV bx - patV cx) v):=fun W h=>oapart_any pbx pcx W h
 have B1:=(patV_bd pax).sub (patV_bd pcx) (by decide)
 have B2:=(patV_bd pby).sub (patV_bd pcy) (by decide)
 have B3:=(patV_bd pay).sub (patV_bd pcy) (by decide)
 have B4:=(patV_bd pbx).sub (patV_bd pcx) (by decide)
 generalize patV ax - patV cx=a1 at *
 generalize patV by' - patV cy=b2 at *
 generalize patV ay - patV cy=a2 at *
 generalize patV bx - patV cx=b1 at *
 clear pax pay pbx pby pcx pcy
 have hb0:=bel_a4 w (.cells #[.int .i64 ax,.int .i64 ay] 23) (.cells #[.int .i64 bx,.int .i64 by'] 23) (.cells #[.int .i64 cx,.int .i64 cy] 23) (.cells #[.bool false,.slice none 0 0,.int .i64 0] 34)
 have a_k:=h4_0 w (.cells #[.int .i64 ax,.int .i64 ay] 23) (.cells #[.int .i64 bx,.int .i64 by'] 23) (.cells #[.int .i64 cx,.int .i64 cy] 23) (.cells #[.bool false,.slice none 0 0,.int .i64 0] 34)
 have b_k:=h4_1 w (.cells #[.int .i64 ax,.int .i64 ay] 23) (.cells #[.int .i64 bx,.int .i64 by'] 23) (.cells #[.int .i64 cx,.int .i64 cy] 23) (.cells #[.bool false,.slice none 0 0,.int .i64 0] 34)
 have c_k:=h4_2 w (.cells #[.int .i64 ax,.int .i64 ay] 23) (.cells #[.int .i64 bx,.int .i64 by'] 23) (.cells #[.int .i64 cx,.int .i64 cy] 23) (.cells #[.bool false,.slice none 0 0,.int .i64 0] 34)
 have r_k:=h4_3 w (.cells #[.int .i64 ax,.int .i64 ay] 23) (.cells #[.int .i64 bx,.int .i64 by'] 23) (.cells #[.int .i64 cx,.int .i64 cy] 23) (.cells #[.bool false,.slice none 0 0,.int .i64 0] 34)
 go_enter Tryz.func46,Tryz.ntmps46
 go_wp2_with fail
 rename_i Q0 K00 hK00
 generalize (((w.alloc (.cells #[.int .i64 ax,.int .i64 ay] 23)).alloc (.cells #[.int .i64 bx,.int .i64 by'] 23)).alloc (.cells #[.int .i64 cx,.int .i64 cy] 23)).alloc (.cells #[.bool false,.slice none 0 0,.int .i64 0] 34)=x0 at hb0 a_k b_k c_k r_k ⊢
 have H:=H.keeps hb0
 have hK1:=hK00
 have HN1:∀ (g:Nat) (x1:World) (t:Array Value) (l_g:Bool) (l_o:Option Addr) (l_n l_c:Nat) (l_e:Int) (l_V:Int),#[t.getD 0 undef,t.getD 1 undef,t.getD 2 undef,.pointer (some ⟨w.heap.size,0,none⟩),.pointer (some ⟨w.heap.size + 1,0,none⟩),.pointer (some ⟨w.heap.size + 1 + 1,0,none⟩),.pointer (some ⟨w.heap.size + 1 + 1 + 1,0,none⟩),.pointer (some ⟨g,0,none⟩),t.getD 8 undef,t.getD 9 undef,t.getD 10 undef,t.getD 11 undef,t.getD 12 undef,t.getD 13 undef,t.getD 14 undef,t.getD 15 undef,t.getD 16 undef,t.getD 17 undef,t.getD 18 undef,t.getD 19 undef,t.getD 20 undef,t.getD 21 undef,t.getD 22 undef,t.getD 23 undef,t.getD 24 undef,t.getD 25 undef,t.getD 26 undef,t.getD 27 undef,t.getD 28 undef,t.getD 29 undef,t.getD 30 undef,t.getD 31 undef,t.getD 32 undef,t.getD 33 undef,t.getD 34 undef,t.getD 35 undef,t.getD 36 undef,t.getD 37 undef,t.getD 38 undef,t.getD 39 undef,t.getD 40 undef,t.getD 41 undef,t.getD 42 undef,t.getD 43 undef,t.getD 44 undef,t.getD 45 undef,t.getD 46 undef,t.getD 47 undef]=t->x0.heap.size <= g->x1.heap[g]?=some (.cells #[.bool l_g,.slice l_o l_n l_c,.int .i64 l_e] 34 (0,0))->Below x0.heap.size x0 x1->DAn w.heap.size x1 l_V (.agg #[.bool l_g,.slice l_o l_n l_c,.int .i64 l_e])->l_V * 2 ^ 4194304=a1 * b2->Bd (2 * (4000 + 1)) l_V->Exit.then K00 Q0 Exit.normal { tmps:=t,defers:=[] } x1:=by
  intro g_l x1 t l_g l_o l_n l_c l_e l_V ht l_ge l_k hw1 l_D l_E l_B
  obtain ⟨u1,hu⟩:∃ u:Nat->Value,t=#[u 0,u 1,u 2,.pointer (some ⟨w.heap.size,0,none⟩),.pointer (some ⟨w.heap.size + 1,0,none⟩),.pointer (some ⟨w.heap.size + 1 + 1,0,none⟩),.pointer (some ⟨w.heap.size + 1 + 1 + 1,0,none⟩),.pointer (some ⟨g_l,0,none⟩),u 8,u 9,u 10,u 11,u 12,u 13,u 14,u 15,u 16,u 17,u 18,u 19,u 20,u 21,u 22,u 23,u 24,u 25,u 26,u 27,u 28,u 29,u 30,u 31,u 32,u 33,u 34,u 35,u 36,u 37,u 38,u 39,u 40,u 41,u 42,u 43,u 44,u 45,u 46,u 47]:=⟨fun k=>t.getD k undef,ht.symm⟩
  clear ht
  subst hu
  have H:=H.keeps hw1
  have a_k:=(hw1.block _ (Array.getElem?_eq_some_iff.1 a_k).1).trans a_k
  have b_k:=(hw1.block _ (Array.getElem?_eq_some_iff.1 b_k).1).trans b_k
  have c_k:=(hw1.block _ (Array.getElem?_eq_some_iff.1 c_k).1).trans c_k
  have r_k:=(hw1.block _ (Array.getElem?_eq_some_iff.1 r_k).1).trans r_k
  have hb1:=bel_trans hb0 hw1
  go_wp2_with fail
  rename_i K2 hK2
  have HN2:∀ (g:Nat) (x2:World) (t:Array Value) (s_g:Bool) (s_o:Option Addr) (s_n s_c:Nat) (s_e:Int) (s_V:Int),#[t.getD 0 undef,t.getD 1 undef,t.getD 2 undef,.pointer (some ⟨w.heap.size,0,none⟩),.pointer (some ⟨w.heap.size + 1,0,none⟩),.pointer (some ⟨w.heap.size + 1 + 1,0,none⟩),.pointer (some ⟨w.heap.size + 1 + 1 + 1,0,none⟩),.pointer (some ⟨g_l,0,none⟩),t.getD 8 undef,.pointer (some ⟨g,0,none⟩),t.getD 10 undef,t.getD 11 undef,t.getD 12 undef,t.getD 13 undef,t.getD 14 undef,t.getD 15 undef,t.getD 16 undef,t.getD 17 undef,t.getD 18 undef,t.getD 19 undef,t.getD 20 undef,t.getD 21 undef,t.getD 22 undef,t.getD 23 undef,t.getD 24 undef,t.getD 25 undef,t.getD 26 undef,t.getD 27 undef,t.getD 28 undef,t.getD 29 undef,t.getD 30 undef,t.getD 31 undef,t.getD 32 undef,t.getD 33 undef,t.getD 34 undef,t.getD 35 undef,t.getD 36 undef,t.getD 37 undef,t.getD 38 undef,t.getD 39 undef,t.getD 40 undef,t.getD 41 undef,t.getD 42 undef,t.getD 43 undef,t.getD 44 undef,t.getD 45 undef,t.getD 46 undef,t.getD 47 undef]=t->x1.heap.size <= g->x2.heap[g]?=some (.cells #[.bool s_g,.slice s_o s_n s_c,.int .i64 s_e] 34 (0,0))->Below x1.heap.size x1 x2->DAn w.heap.size x2 s_V (.agg #[.bool s_g,.slice s_o s_n s_c,.int .i64 s_e])->s_V * 2 ^ 4194304=a2 * b1->Bd (2 * (4000 + 1)) s_V->Exit.then K2 Q0 Exit.normal { tmps:=t,defers:=[] } x2:=by
   intro g_s x2 t s_g s_o s_n s_c s_e s_V ht s_ge s_k hw2 s_D s_E s_B
   obtain ⟨u2,hu⟩:∃ u:Nat->Value,t=#[u 0,u 1,u 2,.pointer (some ⟨w.heap.size,0,none⟩),.pointer (some ⟨w.heap.size + 1,0,none⟩),.pointer (some ⟨w.heap.size + 1 + 1,0,none⟩),.pointer (some ⟨w.heap.size + 1 + 1 + 1,0,none⟩),.pointer (some ⟨g_l,0,none⟩),u 8,.pointer (some ⟨g_s,0,none⟩),u 10,u 11,u 12,u 13,u 14,u 15,u 16,u 17,u 18,u 19,u 20,u 21,u 22,u 23,u 24,u 25,u 26,u 27,u 28,u 29,u 30,u 31,u 32,u 33,u 34,u 35,u 36,u 37,u 38,u 39,u 40,u 41,u 42,u 43,u 44,u 45,u 46,u 47]:=⟨fun k=>t.getD k undef,ht.symm⟩
   clear ht
   subst hu
   have H:=H.keeps hw2
   have a_k:=(hw2.block _ (Array.getElem?_eq_some_iff.1 a_k).1).trans a_k
   have b_k:=(hw2.block _ (Array.getElem?_eq_some_iff.1 b_k).1).trans b_k
   have c_k:=(hw2.block _ (Array.getElem?_eq_some_iff.1 c_k).1).trans c_k
   have r_k:=(hw2.block _ (Array.getElem?_eq_some_iff.1 r_k).1).trans r_k
   have l_k:=(hw2.block _ (Array.getElem?_eq_some_iff.1 l_k).1).trans l_k
   have l_D:=l_D.keeps hw2
   have hb2:=bel_trans hb1 hw2
   have f_l0:=blkC l_k 0 rfl
   have f_l1:=blkC l_k 1 rfl
   have f_l2:=blkC l_k 2 rfl
   have f_s0:=blkC s_k 0 rfl
   have f_s1:=blkC s_k 1 rfl
   have f_s2:=blkC s_k 2 rfl
   go_wp2_with fail
   clear f_l0 f_l1 f_l2 f_s0 f_s1 f_s2
   have hs0:=(Array.getElem?_eq_some_iff.1 r_k).1
   refine (sub_B l_D.num s_D.num l_B s_B (by omega) H.tab).mono ?_
   rintro _ y3 ⟨v,rfl,h3⟩
   obtain ⟨n_g,n_o,n_n,n_c,n_e,rfl⟩:=dans_shape h3
   have hw3:=h3.below
   have n_D:=h3.num
   have H:=H.keeps hw3
   have a_k:=(hw3.block _ (Array.getElem?_eq_some_iff.1 a_k).1).trans a_k
   have b_k:=(hw3.block _ (Array.getElem?_eq_some_iff.1 b_k).1).trans b_k
   have c_k:=(hw3.block _ (Array.getElem?_eq_some_iff.1 c_k).1).trans c_k
   have r_k:=(hw3.block _ (Array.getElem?_eq_some_iff.1 r_k).1).trans r_k
   have l_k:=(hw3.block _ (Array.getElem?_eq_some_iff.1 l_k).1).trans l_k
   have l_D:=l_D.keeps hw3
   have s_k:=(hw3.block _ (Array.getElem?_eq_some_iff.1 s_k).1).trans s_k
   have s_D:=s_D.keeps hw3
   have hb3:=bel_trans hb2 hw3
   have r_k:=heap_past (.cells #[.bool n_g,.slice n_o n_n n_c,.int .i64 n_e] 34) r_k
   have k0:=blkC r_k 0 rfl
   have k1:=blkC r_k 1 rfl
   have k2:=blkC r_k 2 rfl
   have z0:=blkF r_k 0
   have z1:=blkF r_k 1
   have z2:=blkF r_k 2
   go_wp2
   refine bodyPost_ret (v:=.agg #[.bool n_g,.slice n_o n_n n_c,.int .i64 n_e]) (by simp [results,Tryz.results46,go_sem,k0,k1,k2]) rfl ⟨_,l_V - s_V,rfl,?_,⟨l_V,s_V,l_E,s_E,rfl⟩,?_⟩
   ·exact dans_res3 (g:=w.heap.size + 3) (dans_past h3 _) (by assumption) (by omega) hs0 _ _ _
   ·exact (l_B.sub s_B (by decide)).up (by decide) (by decide)
  have KK2:∀ W,Below x1.heap.size x1 W->W.cell? ⟨w.heap.size,1,none⟩=some (.int .i64 ay)∧W.cell? ⟨w.heap.size + 2,1,none⟩=some (.int .i64 cy)∧W.cell? ⟨w.heap.size + 1,0,none⟩=some (.int .i64 bx)∧W.cell? ⟨w.heap.size + 2,0,none⟩=some (.int .i64 cx):=fun W hb=>⟨q_cell (blkC a_k 1 rfl) hb,q_cell (blkC c_k 1 rfl) hb,q_cell (blkC b_k 0 rfl) hb,q_cell (blkC c_k 0 rfl) hb⟩
  have hC2_0:=(bel_refl x1).drew
  have hT2_0:Below w.heap.size w x1.drew:=hb1.drew
  have H_2_0:=H.keeps (bel_refl x1).drew
  have hs2_0:=(bel_refl x1).drew
  go_region_held3 (fun W=>W.cell? ⟨w.heap.size,1,none⟩=some (.int .i64 ay)∧W.cell? ⟨w.heap.size + 2,1,none⟩=some (.int .i64 cy)∧W.cell? ⟨w.heap.size + 1,0,none⟩=some (.int .i64 bx)∧W.cell? ⟨w.heap.size + 2,0,none⟩=some (.int .i64 cx))
   (first | assumption | exact KK2 _ hC2_0 | exact KK2 _ hC2_1 | exact KK2 _ hC2_2 | exact KK2 _ hC2_3 | exact KK2 _ (bel_trans hC2_0 (bel_alloc _ _)) | exact KK2 _ (bel_trans hC2_1 (bel_alloc _ _)) | exact KK2 _ (bel_trans hC2_2 (bel_alloc _ _)) | exact KK2 _ (bel_trans hC2_3 (bel_alloc _ _)) | exact KK2 _ (bel_set3' hC2_3 (Nat.le_refl _) _ _ _) | exact KK2 _ (bel_set3' hC2_3 hC2_1.size _ _ _) | exact KK2 _ (bel_set3' hC2_3 hC2_2.size _ _ _) | fail)
   (first
    | (go_at_call 54; have _t:=hs2_2; refine (mul_B (np2.keeps (by first | exact bel_refl _ | exact bel_alloc _ _)) (nb2.num.keeps (by first | exact bel_refl _ | exact bel_alloc _ _)) B3 B4 (by omega) (H_2_2.keeps (by first | exact bel_refl _ | exact bel_alloc _ _)).tab).mono ?_; rintro _ y2_3 ⟨v,s_V,rfl,nm2,s_E,s_B⟩; obtain ⟨s_g,s_o,s_n,s_c,s_e,rfl⟩:=dans_shape nm2; have hq2_3:=nm2.below; have s_A:=nm2.dan.lower (Nat.le_trans hT2_2.size (by first | exact Nat.le_refl _ | exact (bel_alloc _ _).size)); have hs2_3:Below y2_2.heap.size y2_2 y2_3:=(by first | exact hq2_3 | exact bel_trans (bel_alloc _ _) hq2_3); have hT2_3:=bel_trans hT2_2 hs2_3; have hC2_3:=bel_trans hC2_2 hs2_3; have H_2_3:=H_2_2.keeps hs2_3; first | (have qz2:y2_3.heap[x1.heap.size]?=some (.cells #[.bool false,.slice none 0 0,.int .i64 0] 34 (0,0)):=blk_on hq2_3 (blk_on hq2_2 (blk_on hq2_1 (heap_a1 x1 (.cells #[.bool false,.slice none 0 0,.int .i64 0] 34)))); have cz2_0:=blkC qz2 0 rfl; have zz2_0:=blkF qz2 0; have cz2_1:=blkC qz2 1 rfl; have zz2_1:=blkF qz2 1; have cz2_2:=blkC qz2 2 rfl; have zz2_2:=blkF qz2 2) | (have qz2:y2_3.heap[y2_1.heap.size]?=some (.cells #[.bool false,.slice none 0 0,.int .i64 0] 34 (0,0)):=blk_on hq2_3 (blk_on hq2_2 (heap_a1 _ _)); have cz2_0:=blkC qz2 0 rfl; have zz2_0:=blkF qz2 0; have cz2_1:=blkC qz2 1 rfl; have zz2_1:=blkF qz2 1; have cz2_2:=blkC qz2 2 rfl; have zz2_2:=blkF qz2 2) | (have qz2:y2_3.heap[y2_2.heap.size]?=some (.cells #[.bool false,.slice none 0 0,.int .i64 0] 34 (0,0)):=blk_on hq2_3 (heap_a1 _ _); have cz2_0:=blkC qz2 0 rfl; have zz2_0:=blkF qz2 0; have cz2_1:=blkC qz2 1 rfl; have zz2_1:=blkF qz2 1; have cz2_2:=blkC qz2 2 rfl; have zz2_2:=blkF qz2 2) | skip)
    | (go_at_call 51; have _t:=hs2_1; refine (A4.out _ (H_2_1.keeps (by first | exact bel_refl _ | exact bel_alloc _ _))).mono ?_; rintro _ y2_2 ⟨v,rfl,nb2⟩; obtain ⟨q_g,q_o,q_n,q_c,q_e,rfl⟩:=dans_shape nb2; have hq2_2:=nb2.below; have hs2_2:Below y2_1.heap.size y2_1 y2_2:=(by first | exact hq2_2 | exact bel_trans (bel_alloc _ _) hq2_2); have hT2_2:=bel_trans hT2_1 hs2_2; have hC2_2:=bel_trans hC2_1 hs2_2; have H_2_2:=H_2_1.keeps hs2_2; have np2:=na2.num.keeps hs2_2)
    | (go_at_call 51; refine (A3.out _ (H_2_0.keeps (by first | exact bel_refl _ | exact bel_alloc _ _))).mono ?_; rintro _ y2_1 ⟨v,rfl,na2⟩; obtain ⟨p_g,p_o,p_n,p_c,p_e,rfl⟩:=dans_shape na2; have hq2_1:=na2.below; have hs2_1:Below x1.drew.heap.size x1.drew y2_1:=(by first | exact hq2_1 | exact bel_trans (bel_alloc _ _) hq2_1); have hT2_1:=bel_trans hT2_0 hs2_1; have hC2_1:=bel_trans hC2_0 hs2_1; have H_2_1:=H_2_0.keeps hs2_1))
  ·exact HN2 y2_3.heap.size _ _ _ _ _ _ _ s_V (by kernel_rfl) ((bel_trans (bel_trans (bel_trans (hs2_0) hs2_1) hs2_2) hs2_3).size) (heap_a1 _ _) (bel_trans (bel_trans (bel_trans (bel_trans (hs2_0) hs2_1) hs2_2) hs2_3) (bel_alloc _ _)) (s_A.keeps (bel_alloc _ _)) s_E s_B
  ·exact HN2 y2_2.heap.size _ _ _ _ _ _ _ s_V (by kernel_rfl) ((bel_trans (bel_trans (hs2_0) hs2_1) hs2_2).size) (heap_set (heap_set (heap_set (blk_on hq2_3 (heap_a1 _ _)) 0 _) 1 _) 2 _) (bel_set3' (bel_trans (bel_trans (bel_trans (hs2_0) hs2_1) hs2_2) hs2_3) ((bel_trans (bel_trans (hs2_0) hs2_1) hs2_2).size) _ _ _) (dan_res3 s_A (blk_on hq2_3 (heap_a1 _ _)) _ _ _) s_E s_B
  ·exact HN2 y2_1.heap.size _ _ _ _ _ _ _ s_V (by kernel_rfl) ((bel_trans (hs2_0) hs2_1).size) (heap_set (heap_set (heap_set (blk_on hq2_3 (blk_on hq2_2 (heap_a1 _ _))) 0 _) 1 _) 2 _) (bel_set3' (bel_trans (bel_trans (bel_trans (hs2_0) hs2_1) hs2_2) hs2_3) ((bel_trans (hs2_0) hs2_1).size) _ _ _) (dan_res3 s_A (blk_on hq2_3 (blk_on hq2_2 (heap_a1 _ _))) _ _ _) s_E s_B
  ·exact HN2 x1.heap.size _ _ _ _ _ _ _ s_V (by kernel_rfl) (Nat.le_refl _) (heap_set (heap_set (heap_set (blk_on hq2_3 (blk_on hq2_2 (blk_on hq2_1 (heap_a1 x1 (.cells #[.bool false,.slice none 0 0,.int .i64 0] 34))))) 0 _) 1 _) 2 _) (bel_set3' (bel_trans (bel_trans (bel_trans (hs2_0) hs2_1) hs2_2) hs2_3) (Nat.le_refl _) _ _ _) (dan_res3 s_A (blk_on hq2_3 (blk_on hq2_2 (blk_on hq2_1 (heap_a1 x1 (.cells #[.bool false,.slice none 0 0,.int .i64 0] 34))))) _ _ _) s_E s_B
 have KK1:∀ W,Below x0.heap.size x0 W->W.cell? ⟨w.heap.size,0,none⟩=some (.int .i64 ax)∧W.cell? ⟨w.heap.size + 2,0,none⟩=some (.int .i64 cx)∧W.cell? ⟨w.heap.size + 1,1,none⟩=some (.int .i64 by')∧W.cell? ⟨w.heap.size + 2,1,none⟩=some (.int .i64 cy):=fun W hb=>⟨q_cell (blkC a_k 0 rfl) hb,q_cell (blkC c_k 0 rfl) hb,q_cell (blkC b_k 1 rfl) hb,q_cell (blkC c_k 1 rfl) hb⟩
 have hC1_0:=(bel_refl x0).drew
 have hT1_0:Below w.heap.size w x0.drew:=hb0.drew
 have H_1_0:=H.keeps (bel_refl x0).drew
 have hs1_0:=(bel_refl x0).drew
 go_region_held3 (fun W=>W.cell? ⟨w.heap.size,0,none⟩=some (.int .i64 ax)∧W.cell? ⟨w.heap.size + 2,0,none⟩=some (.int .i64 cx)∧W.cell? ⟨w.heap.size + 1,1,none⟩=some (.int .i64 by')∧W.cell? ⟨w.heap.size + 2,1,none⟩=some (.int .i64 cy))
  (first | assumption | exact KK1 _ hC1_0 | exact KK1 _ hC1_1 | exact KK1 _ hC1_2 | exact KK1 _ hC1_3 | exact KK1 _ (bel_trans hC1_0 (bel_alloc _ _)) | exact KK1 _ (bel_trans hC1_1 (bel_alloc _ _)) | exact KK1 _ (bel_trans hC1_2 (bel_alloc _ _)) | exact KK1 _ (bel_trans hC1_3 (bel_alloc _ _)) | exact KK1 _ (bel_set3' hC1_3 (Nat.le_refl _) _ _ _) | exact KK1 _ (bel_set3' hC1_3 hC1_1.size _ _ _) | exact KK1 _ (bel_set3' hC1_3 hC1_2.size _ _ _) | fail)
  (first
   | (go_at_call 54; have _t:=hs1_2; refine (mul_B (np1.keeps (by first | exact bel_refl _ | exact bel_alloc _ _)) (nb1.num.keeps (by first | exact bel_refl _ | exact bel_alloc _ _)) B1 B2 (by omega) (H_1_2.keeps (by first | exact bel_refl _ | exact bel_alloc _ _)).tab).mono ?_; rintro _ y1_3 ⟨v,l_V,rfl,nm1,l_E,l_B⟩; obtain ⟨l_g,l_o,l_n,l_c,l_e,rfl⟩:=dans_shape nm1; have hq1_3:=nm1.below; have l_A:=nm1.dan.lower (Nat.le_trans hT1_2.size (by first | exact Nat.le_refl _ | exact (bel_alloc _ _).size)); have hs1_3:Below y1_2.heap.size y1_2 y1_3:=(by first | exact hq1_3 | exact bel_trans (bel_alloc _ _) hq1_3); have hT1_3:=bel_trans hT1_2 hs1_3; have hC1_3:=bel_trans hC1_2 hs1_3; have H_1_3:=H_1_2.keeps hs1_3; first | (have qz1:y1_3.heap[x0.heap.size]?=some (.cells #[.bool false,.slice none 0 0,.int .i64 0] 34 (0,0)):=blk_on hq1_3 (blk_on hq1_2 (blk_on hq1_1 (heap_a1 x0 (.cells #[.bool false,.slice none 0 0,.int .i64 0] 34)))); have cz1_0:=blkC qz1 0 rfl; have zz1_0:=blkF qz1 0; have cz1_1:=blkC qz1 1 rfl; have zz1_1:=blkF qz1 1; have cz1_2:=blkC qz1 2 rfl; have zz1_2:=blkF qz1 2) | (have qz1:y1_3.heap[y1_1.heap.size]?=some (.cells #[.bool false,.slice none 0 0,.int .i64 0] 34 (0,0)):=blk_on hq1_3 (blk_on hq1_2 (heap_a1 _ _)); have cz1_0:=blkC qz1 0 rfl; have zz1_0:=blkF qz1 0; have cz1_1:=blkC qz1 1 rfl; have zz1_1:=blkF qz1 1; have cz1_2:=blkC qz1 2 rfl; have zz1_2:=blkF qz1 2) | (have qz1:y1_3.heap[y1_2.heap.size]?=some (.cells #[.bool false,.slice none 0 0,.int .i64 0] 34 (0,0)):=blk_on hq1_3 (heap_a1 _ _); have cz1_0:=blkC qz1 0 rfl; have zz1_0:=blkF qz1 0; have cz1_1:=blkC qz1 1 rfl; have zz1_1:=blkF qz1 1; have cz1_2:=blkC qz1 2 rfl; have zz1_2:=blkF qz1 2) | skip)
   | (go_at_call 51; have _t:=hs1_1; refine (A2.out _ (H_1_1.keeps (by first | exact bel_refl _ | exact bel_alloc _ _))).mono ?_; rintro _ y1_2 ⟨v,rfl,nb1⟩; obtain ⟨q_g,q_o,q_n,q_c,q_e,rfl⟩:=dans_shape nb1; have hq1_2:=nb1.below; have hs1_2:Below y1_1.heap.size y1_1 y1_2:=(by first | exact hq1_2 | exact bel_trans (bel_alloc _ _) hq1_2); have hT1_2:=bel_trans hT1_1 hs1_2; have hC1_2:=bel_trans hC1_1 hs1_2; have H_1_2:=H_1_1.keeps hs1_2; have np1:=na1.num.keeps hs1_2)
   | (go_at_call 51; refine (A1.out _ (H_1_0.keeps (by first | exact bel_refl _ | exact bel_alloc _ _))).mono ?_; rintro _ y1_1 ⟨v,rfl,na1⟩; obtain ⟨p_g,p_o,p_n,p_c,p_e,rfl⟩:=dans_shape na1; have hq1_1:=na1.below; have hs1_1:Below x0.drew.heap.size x0.drew y1_1:=(by first | exact hq1_1 | exact bel_trans (bel_alloc _ _) hq1_1); have hT1_1:=bel_trans hT1_0 hs1_1; have hC1_1:=bel_trans hC1_0 hs1_1; have H_1_1:=H_1_0.keeps hs1_1))
 ·exact HN1 y1_3.heap.size _ _ _ _ _ _ _ l_V (by kernel_rfl) ((bel_trans (bel_trans (bel_trans (hs1_0) hs1_1) hs1_2) hs1_3).size) (heap_a1 _ _) (bel_trans (bel_trans (bel_trans (bel_trans (hs1_0) hs1_1) hs1_2) hs1_3) (bel_alloc _ _)) (l_A.keeps (bel_alloc _ _)) l_E l_B
 ·exact HN1 y1_2.heap.size _ _ _ _ _ _ _ l_V (by kernel_rfl) ((bel_trans (bel_trans (hs1_0) hs1_1) hs1_2).size) (heap_set (heap_set (heap_set (blk_on hq1_3 (heap_a1 _ _)) 0 _) 1 _) 2 _) (bel_set3' (bel_trans (bel_trans (bel_trans (hs1_0) hs1_1) hs1_2) hs1_3) ((bel_trans (bel_trans (hs1_0) hs1_1) hs1_2).size) _ _ _) (dan_res3 l_A (blk_on hq1_3 (heap_a1 _ _)) _ _ _) l_E l_B
 ·exact HN1 y1_1.heap.size _ _ _ _ _ _ _ l_V (by kernel_rfl) ((bel_trans (hs1_0) hs1_1).size) (heap_set (heap_set (heap_set (blk_on hq1_3 (blk_on hq1_2 (heap_a1 _ _))) 0 _) 1 _) 2 _) (bel_set3' (bel_trans (bel_trans (bel_trans (hs1_0) hs1_1) hs1_2) hs1_3) ((bel_trans (hs1_0) hs1_1).size) _ _ _) (dan_res3 l_A (blk_on hq1_3 (blk_on hq1_2 (heap_a1 _ _))) _ _ _) l_E l_B
 ·exact HN1 x0.heap.size _ _ _ _ _ _ _ l_V (by kernel_rfl) (Nat.le_refl _) (heap_set (heap_set (heap_set (blk_on hq1_3 (blk_on hq1_2 (blk_on hq1_1 (heap_a1 x0 (.cells #[.bool false,.slice none 0 0,.int .i64 0] 34))))) 0 _) 1 _) 2 _) (bel_set3' (bel_trans (bel_trans (bel_trans (hs1_0) hs1_1) hs1_2) hs1_3) (Nat.le_refl _) _ _ _) (dan_res3 l_A (blk_on hq1_3 (blk_on hq1_2 (blk_on hq1_1 (heap_a1 x0 (.cells #[.bool false,.slice none 0 0,.int .i64 0] 34))))) _ _ _) l_E l_B
theorem blks3 (w:World) (o0 o1 o2:Obj):Below w.heap.size w (((w.alloc o0).alloc o1).alloc o2)∧(((w.alloc o0).alloc o1).alloc o2).heap[w.heap.size]?=some o0∧(((w.alloc o0).alloc o1).alloc o2).heap[w.heap.size + 1]?=some o1∧(((w.alloc o0).alloc o1).alloc o2).heap[w.heap.size + 1 + 1]?=some o2∧(((w.alloc o0).alloc o1).alloc o2).heap.size=w.heap.size + 1 + 1 + 1 :=
 ⟨bel_trans (bel_trans (bel_alloc w o0) (bel_alloc (w.alloc o0) o1)) (bel_alloc ((w.alloc o0).alloc o1) o2),heap_past o2 (heap_past o1 (heap_new o0 (by rfl))),heap_past o2 (heap_new o1 (by simp only [size_alloc])),heap_new o2 (by simp only [size_alloc]),by simp only [size_alloc]⟩
theorem blks4 (w:World) (o0 o1 o2 o3:Obj):Below w.heap.size w ((((w.alloc o0).alloc o1).alloc o2).alloc o3)∧((((w.alloc o0).alloc o1).alloc o2).alloc o3).heap[w.heap.size]?=some o0∧((((w.alloc o0).alloc o1).alloc o2).alloc o3).heap[w.heap.size + 1]?=some o1∧((((w.alloc o0).alloc o1).alloc o2).alloc o3).heap[w.heap.size + 1 + 1]?=some o2∧((((w.alloc o0).alloc o1).alloc o2).alloc o3).heap[w.heap.size + 1 + 1 + 1]?=some o3∧((((w.alloc o0).alloc o1).alloc o2).alloc o3).heap.size=w.heap.size + 1 + 1 + 1 + 1 :=
 ⟨bel_trans (bel_trans (bel_trans (bel_alloc w o0) (bel_alloc (w.alloc o0) o1)) (bel_alloc ((w.alloc o0).alloc o1) o2)) (bel_alloc (((w.alloc o0).alloc o1).alloc o2) o3),heap_past o3 (heap_past o2 (heap_past o1 (heap_new o0 (by rfl)))),heap_past o3 (heap_past o2 (heap_new o1 (by simp only [size_alloc]))),heap_past o3 (heap_new o2 (by simp only [size_alloc])),heap_new o3 (by simp only [size_alloc]),by simp only [size_alloc]⟩
theorem blks5 (w:World) (o0 o1 o2 o3 o4:Obj):Below w.heap.size w (((((w.alloc o0).alloc o1).alloc o2).alloc o3).alloc o4)∧(((((w.alloc o0).alloc o1).alloc o2).alloc o3).alloc o4).heap[w.heap.size]?=some o0∧(((((w.alloc o0).alloc o1).alloc o2).alloc o3).alloc o4).heap[w.heap.size + 1]?=some o1∧(((((w.alloc o0).alloc o1).alloc o2).alloc o3).alloc o4).heap[w.heap.size + 1 + 1]?=some o2∧(((((w.alloc o0).alloc o1).alloc o2).alloc o3).alloc o4).heap[w.heap.size + 1 + 1 + 1]?=some o3∧(((((w.alloc o0).alloc o1).alloc o2).alloc o3).alloc o4).heap[w.heap.size + 1 + 1 + 1 + 1]?=some o4∧(((((w.alloc o0).alloc o1).alloc o2).alloc o3).alloc o4).heap.size=w.heap.size + 1 + 1 + 1 + 1 + 1 :=
 ⟨bel_trans (bel_trans (bel_trans (bel_trans (bel_alloc w o0) (bel_alloc (w.alloc o0) o1)) (bel_alloc ((w.alloc o0).alloc o1) o2)) (bel_alloc (((w.alloc o0).alloc o1).alloc o2) o3)) (bel_alloc ((((w.alloc o0).alloc o1).alloc o2).alloc o3) o4),heap_past o4 (heap_past o3 (heap_past o2 (heap_past o1 (heap_new o0 (by rfl))))),heap_past o4 (heap_past o3 (heap_past o2 (heap_new o1 (by simp only [size_alloc])))),heap_past o4 (heap_past o3 (heap_new o2 (by simp only [size_alloc]))),heap_past o4 (heap_new o3 (by simp only [size_alloc])),heap_new o4 (by simp only [size_alloc]),by simp only [size_alloc]⟩
theorem wd_nil:wd 0=0:=by decide
def sgP (p:Int):Int:=ord (key p) 0
theorem order_self {p:Int} (hp:rng p) (h:pok p=true):FloatKind.f64.format.order (wd p) (wd p)=some .eq:=q_eq hp hp (q_fin h) (q_fin h) rfl
set_option maxRecDepth 100000 in
theorem cmpNaN {p:Int} (hp:rng p) (h:pok p=true) (w:World) :
  Calls Tryz.prog 67 #[.float .f64 (wd p)] w fun r w'=>r=.returned (.bool false)∧w'=w:=by
 have e:=order_self hp h
 go_enter Tryz.func67,Tryz.ntmps67
 go_wp2
 go_ret
 exact ⟨rfl,rfl⟩
set_option maxRecDepth 100000 in
theorem cmpFloat {p:Int} (hp:rng p) (h:pok p=true) (w:World) :
  Calls Tryz.prog 40 #[.float .f64 (wd p),.float .f64 0] w fun r w'=>r=.returned (.int .i64 (sgP p))∧w'=w:=by
 have r0:rng 0:=by unfold rng; decide
 have p0:pok 0=true:=by decide
 have C1:Hid (∀ W,Calls Tryz.prog 67 #[.float .f64 (wd p)] W fun r w'=>r=.returned (.bool false)∧w'=W):=fun W=>cmpNaN hp h W
 have C2:Hid (∀ W,Calls Tryz.prog 67 #[.float .f64 0] W fun r w'=>r=.returned (.bool false)∧w'=W):=fun W=>by
  have:=cmpNaN r0 p0 W
  rw [wd_nil] at this
  exact this
 have k0:key 0=0:=by decide
 have hord:(FloatKind.f64.format.order (wd p) 0=some .lt∧sgP p=-1)∨(FloatKind.f64.format.order (wd p) 0=some .gt∧sgP p=1)∨(FloatKind.f64.format.order (wd p) 0=some .eq∧sgP p=0):=by
  unfold sgP ord
  rcases Int.lt_trichotomy (key p) 0 with g | g | g
  ·exact .inl ⟨by have:=q_lt hp r0 (q_fin h) (q_fin p0) (by rw [k0]; exact g); rw [wd_nil] at this; exact this,by first | simp [g] | (rw [if_pos g])⟩
  ·exact .inr (.inr ⟨by have:=q_eq hp r0 (q_fin h) (q_fin p0) (by rw [k0]; exact g); rw [wd_nil] at this; exact this,by rw [g]; decide⟩)
  ·exact .inr (.inl ⟨by have:=q_gt hp r0 (q_fin h) (q_fin p0) (by rw [k0]; exact g); rw [wd_nil] at this; exact this,by
    have:¬ key p < 0:=by omega
    simp [this,g]⟩)
 clear hp h r0 p0 k0
 generalize sgP p=s at *
 generalize wd p=P at *
 rcases hord with ⟨ho,rfl⟩ | ⟨ho,rfl⟩ | ⟨ho,rfl⟩
 all_goals
  go_enter Tryz.func40,Tryz.ntmps40
  go_wp2_with fail
  refine (C1.out _).mono ?_
  rintro _ wz ⟨rfl,hwz⟩
  replace hwz:=hwz.symm
  subst hwz
  go_wp2_with fail
  refine (C2.out _).mono ?_
  rintro _ wz ⟨rfl,hwz⟩
  replace hwz:=hwz.symm
  subst hwz
  go_wp2
  go_ret
  exact ⟨rfl,rfl⟩
theorem XR.from {w0 w w':World} {ok:Bool} {s:Ls} {r:Ending} (h:XR w ok s r w') (hb:Below w0.heap.size w0 w):XR w0 ok s r w':=by
 obtain ⟨h1,h2⟩:=h
 refine ⟨?_,bel_trans hb h2⟩
 rcases h1 with ⟨a,v,b,c⟩ | h
 ·exact .inl ⟨a,v,b,c.lower hb.size⟩
 ·exact .inr h
def trn (f:Nat->Int) (k:Nat):Nat->Int:=fun i=>if i < k then neg (f i) else f i
theorem trn_upd (f:Nat->Int) (k:Nat):upd (trn f k) k (neg (f k))=trn f (k + 1):=by
 funext i
 by_cases e:i=k
 ·subst e; rw [upd_same]; unfold trn; rw [if_pos (by omega)]
 ·rw [upd_other _ _ e]; unfold trn
  by_cases h:i < k
  ·rw [if_pos h,if_pos (by omega)]
  ·rw [if_neg h,if_neg (by omega)]
set_option maxRecDepth 100000 in
set_option maxHeartbeats 1000000 in
theorem xdiff_any {eo fo:Option Addr} {n ec m fc:Nat} {d f:Nat->Int} (w:World) (h:Row w eo n ec d) (hf:Row w fo m fc f) (hd:∀ i,i < n->rng (d i)∧pok (d i)=true) (hff:∀ i,i < m->rng (f i)∧pok (f i)=true) (hn:n + m <= 600000) (H:Hold4 w) :
  Calls Tryz.prog 95 #[.slice eo n ec,.slice fo m fc] w fun r w'=>XR w (gaX ⟨n,d⟩ (fun i=>neg (f i)) m) (gaS ⟨n,d⟩ (fun i=>neg (f i)) m) r w':=by
 have CO:=xown_any w hf (by omega)
 have HF:Hid (∀ i,i < m->rng (f i)∧pok (f i)=true):=hff
 have HH:Hid (Hold4 w):=H
 have CS:Hid (∀ W vo vc,Below w.heap.size w W->Row W vo m vc (fun i=>neg (f i))->Calls Tryz.prog 135 #[.slice eo n ec,.slice vo m vc] W fun r w'=>XR w (gaX ⟨n,d⟩ (fun i=>neg (f i)) m) (gaS ⟨n,d⟩ (fun i=>neg (f i)) m) r w'):=fun W vo vc hW hR=>
  (xsum_any W (h.keeps hW) hR hd (fun i hi=>⟨neg_rng (hff i hi).1,(neg_facts (hff i hi).1 (hff i hi).2).2.1⟩) (by omega)).mono fun _ _ hx=>hx.from hW
 generalize gaX ⟨n,d⟩ (fun i=>neg (f i)) m=X at *
 generalize gaS ⟨n,d⟩ (fun i=>neg (f i)) m=S at *
 clear h hf hff H hd
 go_enter Tryz.func95,Tryz.ntmps95
 go_wp2_with fail
 refine CO.mono ?_
 rintro _ w1 ⟨v,rfl,hL,hg⟩
 obtain ⟨ao,cc,rfl,hRR⟩:=hL.row
 have hcm:=hRR.max
 have hcl:=hRR.le
 have HL:Hid (LsO w.heap.size w1 (.slice ao m cc) ⟨m,f⟩):=hL
 have HB1:Hid (Below w.heap.size w w1):=grown_below hg
 clear hL hg CO hRR
 go_wp2_with fail
 go_loopw [12] (fun iv wr=>∃ k:Nat,k <= m∧iv=.int .i64 k∧Hid (LsO w.heap.size wr (.slice ao m cc) ⟨m,trn f k⟩)∧Hid (Below w.heap.size w wr)) (fun iv _=>m - (intOf iv).toNat)
 case atStart=>
  refine ⟨0,Nat.zero_le _,rfl,?_,HB1⟩
  have e:trn f 0=f:=by funext i; unfold trn; rw [if_neg (by omega)]
  rw [e]
  exact HL
 case round=>
  obtain ⟨k,hk,rfl,HLk,HBW⟩:=hrel
  clear HL HB1
  have hsz:=HBW.out.size
  by_cases hlt:k < m
  ·have hO:Out w.heap.size wr (.slice ao m cc) m (trn f k):=by
    rcases HLk.out with h | ⟨h0,_⟩
    ·exact h
    ·have h0':m=0:=h0
     omega
   obtain ⟨g,rfl,hg1,hg2⟩:=hO.spot (by omega)
   have c0:=hO.cell hlt
   have e0:trn f k k=f k:=by unfold trn; rw [if_neg (by omega)]
   rw [e0] at c0
   obtain ⟨rk,pk⟩:=HF.out k hlt
   have CN:Hid (∀ W,Below w.heap.size w W->Calls Tryz.prog 134 #[.int .i64 (f k)] W fun e w'=>e=.returned (.int .i64 (neg (f k)))∧Below W.heap.size W w'):=fun W hW=>(bitsNeg _ W (HH.out.keeps hW).env.lays rk).mono fun _ _ ⟨h1,h2⟩=>⟨h1,h2.be⟩
   have HT:Hid (upd (trn f k) k (neg (f k))=trn f (k + 1)):=trn_upd f k
   have HO:Hid (Out w.heap.size wr (.slice (some ⟨g,0,none⟩) m cc) m (trn f k)):=hO
   clear hO e0 rk pk
   generalize neg (f k)=nk at *
   generalize f k=fk at *
   have i0:(0:Int) <= (k:Int):=by omega
   have i1:(k:Int) < (m:Int):=by omega
   go_wp2_with fail
   refine (CN.out _ HBW.out).mono ?_
   rintro _ w2 ⟨rfl,hb2⟩
   have hO2:=HO.out.stays hb2
   have c2:=hO2.cell hlt
   have fz:=hO2.frozen k
   have HO2:Hid (Out w.heap.size w2 (.slice (some ⟨g,0,none⟩) m cc) m (trn f k)):=hO2
   have HB2:Hid (Below w.heap.size w w2):=HBW.out.trans (hb2.mono hsz)
   clear hO2 hb2
   generalize trn f k k=tk at *
   go_wp2
   go_roundw
   case rel=>
    refine ⟨k + 1,by omega,by go_num,?_,HB2.out.setCell hg1 _⟩
    have:=HO2.out.store hlt nk
    rw [HT.out] at this
    exact .inl this
   case measure=>simp [intOf]; omega
  ·obtain rfl:k=m:=by omega
   obtain ⟨ao',cc',e1,hR⟩:=HLk.out.row
   simp only [Value.slice.injEq] at e1
   obtain ⟨rfl,_,rfl⟩:=e1
   have hR2:Row wr ao k cc (fun i=>neg (f i)):=hR.congr fun i hi=>by
    show trn f k i=_
    unfold trn
    rw [if_pos hi]
   clear hR
   go_wp2_with fail
   refine (CS.out _ _ _ HBW.out hR2).mono ?_
   rintro _ w2 ⟨(⟨h1,v',rfl,h3⟩ | ⟨h1,rfl⟩),h4⟩
   ·obtain ⟨ao',cc',rfl⟩:=h3.shape
    go_wp2
    go_ret
    exact ⟨.inl ⟨h1,_,rfl,h3⟩,h4⟩
   ·unfold gaveX
    go_wp2
    exact ⟨rfl,.inr ⟨h1,rfl⟩,h4⟩
set_option maxRecDepth 100000 in
theorem xDiff {eo fo:Option Addr} {n ec m fc:Nat} {d f:Nat->Int} (w:World) (h:Row w eo n ec d) (hf:Row w fo m fc f) (hr:∀ i,i < n->rng (d i)) (hrf:∀ i,i < m->rng (f i)) (hv:xval d n=true) (hu:xval f m=true) (hn:n + m <= 300000) (H:Hold4 w) :
  Calls Tryz.prog 65 #[.slice eo n ec,.slice fo m fc] w fun r w'=>XA w (gaX ⟨n,d⟩ (fun i=>neg (f i)) m) (gaS ⟨n,d⟩ (fun i=>neg (f i)) m) r w':=by
 have hEG:∀ (cap:Array Value) (w:World),(callFunc 95 cap).run Tryz.prog w=.ok (.enter 95 cap) w:=by
  intro cap w
  simp [go_sem]
 have hd:∀ i,i < n->rng (d i)∧pok (d i)=true:=fun i hi=>⟨hr i hi,xval_fin hv i hi⟩
 have hff:∀ i,i < m->rng (f i)∧pok (f i)=true:=fun i hi=>⟨hrf i hi,xval_fin hu i hi⟩
 have CW:=xwl_ok 95 w (gaX ⟨n,d⟩ (fun i=>neg (f i)) m) (gaS ⟨n,d⟩ (fun i=>neg (f i)) m) hEG h hf hv hu H (fun W hW=>xdiff_any W (h.keeps hW) (hf.keeps hW) hd hff (by omega) (H.keeps hW))
 generalize gaX ⟨n,d⟩ (fun i=>neg (f i)) m=X at *
 generalize gaS ⟨n,d⟩ (fun i=>neg (f i)) m=S at *
 go_enter Tryz.func65,Tryz.ntmps65
 go_wp2_with fail
 refine CW.mono ?_
 rintro _ w1 ⟨(⟨h1,v,rfl,h2⟩ | ⟨h1,rfl⟩),hb⟩
 ·obtain ⟨ao,cc,rfl⟩:=h2.shape
  go_wp2
  refine bodyPost_ret (v:=.tuple #[.slice ao S.n cc,.int .i64 0]) (by simp [results,Tryz.results65,go_sem]) rfl ⟨.inl ⟨h1,_,rfl,h2⟩,hb⟩
 ·go_wp2
  refine bodyPost_ret (v:=.tuple #[.slice none 0 0,.int .i64 14]) (by simp [results,Tryz.results65,go_sem]) rfl ⟨.inr ⟨h1,rfl⟩,hb⟩
set_option maxRecDepth 100000 in
theorem xProduct {eo fo:Option Addr} {n ec m fc:Nat} {d f:Nat->Int} (w:World) (h:Row w eo n ec d) (hf:Row w fo m fc f) (hr:∀ i,i < n->rng (d i)) (hrf:∀ i,i < m->rng (f i)) (hv:xval d n=true) (hu:xval f m=true) (hn:n <= 200) (hm:m <= 200) (H:Hold4 w) :
  Calls Tryz.prog 63 #[.slice eo n ec,.slice fo m fc] w fun r w'=>XA w (prX d n f m) (prS d n f m) r w':=by
 have hEG:∀ (cap:Array Value) (w:World),(callFunc 93 cap).run Tryz.prog w=.ok (.enter 93 cap) w:=by
  intro cap w
  simp [go_sem]
 have hd:∀ i,i < n->rng (d i)∧pok (d i)=true:=fun i hi=>⟨hr i hi,xval_fin hv i hi⟩
 have hff:∀ i,i < m->rng (f i)∧pok (f i)=true:=fun i hi=>⟨hrf i hi,xval_fin hu i hi⟩
 have CW:=xwl_ok 93 w (prX d n f m) (prS d n f m) hEG h hf hv hu H (fun W hW=>xproduct_any W (h.keeps hW) (hf.keeps hW) hd hff hn hm (H.keeps hW))
 generalize prX d n f m=X at *
 generalize prS d n f m=S at *
 go_enter Tryz.func63,Tryz.ntmps63
 go_wp2_with fail
 refine CW.mono ?_
 rintro _ w1 ⟨(⟨h1,v,rfl,h2⟩ | ⟨h1,rfl⟩),hb⟩
 ·obtain ⟨ao,cc,rfl⟩:=h2.shape
  go_wp2
  refine bodyPost_ret (v:=.tuple #[.slice ao S.n cc,.int .i64 0]) (by simp [results,Tryz.results63,go_sem]) rfl ⟨.inl ⟨h1,_,rfl,h2⟩,hb⟩
 ·go_wp2
  refine bodyPost_ret (v:=.tuple #[.slice none 0 0,.int .i64 14]) (by simp [results,Tryz.results63,go_sem]) rfl ⟨.inr ⟨h1,rfl⟩,hb⟩
end Go.Proofs.YtinccocmgkjalaaGreatDoor
