/- Parts of the proof. -/
import Derived.Test.YtjjihmnbdeeedaaGreatDoorKn4
import Derived.Test.YtjjihmnbdeeedaaGreatDoorKn10
import Derived.Maps.AppendAt
import Derived.Laws.AppendOwnNone
import Derived.Test.YtjjihmnbdeeedaaGreatDoorKn9
import Derived.Deep.RegionHeld3
import Derived.Test.YtjjihmnbdeeedaaGreatDoorKn8
import Derived.Test.YtjjihmnbdeeedaaGreatDoorKn7
import Derived.Test.YtjjihmnbdeeedaaGreatDoorKn6
import Derived.Test.YtjjihmnbdeeedaaGreatDoorKn5
set_option maxRecDepth 100000
set_option maxHeartbeats 40000000
set_option linter.unusedVariables false
set_option linter.unusedSimpArgs false
namespace Go.Proofs.YtjjihmnbdeeedaaGreatDoor
open Go Go.RowKit Go.Proofs.YtjjihmnbdeeedaaGreatDoor.M
def DAn (B:Nat) (w:World) (V:Int) (v:Value):Prop:=∃ ng s m e,v=.agg #[.bool ng,s,.int .i64 e]∧Dy V ng m e∧An B w s m
def DFitA (B:Nat) (w:World) (V:Int) (v:Value) (er:Int):Prop:=(Dok V∧er=0∧DAn B w V v)∨(¬ Dok V∧er=2∧v=zeroV)
theorem DAns.dan {w w':World} {V:Int} {v:Value} (h:DAns w w' V v):DAn w.heap.size w' V v:=by
 obtain ⟨ng,s,m,e,h1,h2,h3⟩:=h
 exact ⟨ng,s,m,e,h1,h2,h3.an⟩
theorem An.wr {B:Nat} {w w':World} {v:Value} {V:Int} {g:Nat} (h:An B w v V) (hw:Wr g w w') (hg:g<B):An B w' v V:=by
 obtain ⟨t,d,h1,h2⟩:=h
 exact ⟨t,d,h1.of_block fun g' hg'=>hw.block g' (h1.ge hg').2 (by have:=(h1.ge hg').1; omega),h2⟩
theorem DAn.wr {B:Nat} {w w':World} {v:Value} {V:Int} {g:Nat} (h:DAn B w V v) (hw:Wr g w w') (hg:g<B):DAn B w' V v:=by
 obtain ⟨ng,s,m,e,h1,h2,h3⟩:=h
 exact ⟨ng,s,m,e,h1,h2,h3.wr hw hg⟩
theorem DAn.keeps {B:Nat} {w w':World} {v:Value} {V:Int} (h:DAn B w V v) (k:Below w.heap.size w w'):DAn B w' V v:=by
 obtain ⟨ng,s,m,e,h1,h2,h3⟩:=h
 exact ⟨ng,s,m,e,h1,h2,h3.keeps k⟩
theorem DAn.lower {B B':Nat} {w:World} {v:Value} {V:Int} (h:DAn B w V v) (hB:B'<=B):DAn B' w V v:=by
 obtain ⟨ng,s,m,e,h1,h2,h3⟩:=h
 exact ⟨ng,s,m,e,h1,h2,h3.lower hB⟩
theorem DAn.num {B:Nat} {w:World} {v:Value} {V:Int} (h:DAn B w V v):DNum w v V:=by
 obtain ⟨ng,s,m,e,h1,h2,h3⟩:=h
 exact ⟨ng,s,m,e,h1,h2,h3.num⟩
theorem DFitA.wr {B:Nat} {w w':World} {v:Value} {V er:Int} {g:Nat} (h:DFitA B w V v er) (hw:Wr g w w') (hg:g<B):DFitA B w' V v er:=by
 rcases h with ⟨h1,h2,h3⟩ | h
 ·exact .inl ⟨h1,h2,h3.wr hw hg⟩
 ·exact .inr h
theorem DFitA.keeps {B:Nat} {w w':World} {v:Value} {V er:Int} (h:DFitA B w V v er) (k:Below w.heap.size w w'):DFitA B w' V v er:=by
 rcases h with ⟨h1,h2,h3⟩ | h
 ·exact .inl ⟨h1,h2,h3.keeps k⟩
 ·exact .inr h
theorem DFitA.lower {B B':Nat} {w:World} {v:Value} {V er:Int} (h:DFitA B w V v er) (hB:B'<=B):DFitA B' w V v er:=by
 rcases h with ⟨h1,h2,h3⟩ | h
 ·exact .inl ⟨h1,h2,h3.lower hB⟩
 ·exact .inr h
theorem DFitA.shape {B:Nat} {w:World} {v:Value} {V er:Int} (h:DFitA B w V v er):∃ ng so sn sc e,v=.agg #[.bool ng,.slice so sn sc,.int .i64 e]:=by
 rcases h with ⟨_,_,ng,s,m,e,h1,_,h3⟩ | ⟨_,_,rfl⟩
 ·obtain ⟨so,sn,sc,rfl⟩:=h3.shape
  exact ⟨_,_,_,_,_,h1⟩
 ·exact ⟨_,_,_,_,_,rfl⟩
theorem DFitA.ge {B:Nat} {w:World} {ng:Bool} {so:Option Addr} {sn sc:Nat} {e V er:Int} (h:DFitA B w V (.agg #[.bool ng,.slice so sn sc,.int .i64 e]) er):Lies (.slice so sn sc) B w.heap.size:=by
 intro g hg
 rcases h with ⟨_,_,ng',s,m,e',h1,_,h3⟩ | ⟨_,_,h1⟩
 ·simp only [Value.agg.injEq,Array.mk.injEq,List.cons.injEq,Value.bool.injEq,Value.int.injEq,and_true,true_and] at h1
  obtain ⟨_,h1,_⟩:=h1
  rw [<- h1] at h3
  exact h3.ge hg
 ·simp only [zeroV,Value.agg.injEq,Array.mk.injEq,List.cons.injEq,Value.bool.injEq,Value.int.injEq,Value.slice.injEq,and_true,true_and] at h1
  obtain ⟨_,⟨rfl,_,_⟩,_⟩:=h1
  simp [Value.ownBlock] at hg
theorem DAn.parts {B:Nat} {w:World} {ng:Bool} {so:Option Addr} {sn sc:Nat} {e V:Int} (h:DAn B w V (.agg #[.bool ng,.slice so sn sc,.int .i64 e])):∃ m,Dy V ng m e∧An B w (.slice so sn sc) m:=by
 obtain ⟨ng',s,m,e',h1,h2,h3⟩:=h
 simp only [Value.agg.injEq,Array.mk.injEq,List.cons.injEq,Value.bool.injEq,Value.int.injEq,and_true,true_and] at h1
 obtain ⟨rfl,rfl,rfl⟩:=h1
 exact ⟨m,h2,h3⟩
theorem RSum.shape {w w':World} {A B:Int} {x y:NumR} {v:Value} (h:RSum w w' A B x.v y.v v):∃ ng so sn sc e,v=.agg #[.bool ng,.slice so sn sc,.int .i64 e]:=by
 rcases h.2 with ⟨ng,s,m,e,rfl,_,hA⟩ | ⟨_,rfl⟩ | ⟨_,rfl⟩
 ·obtain ⟨so,sn,sc,rfl⟩:=hA.num.shape
  exact ⟨_,_,_,_,_,rfl⟩
 ·exact ⟨_,_,_,_,_,rfl⟩
 ·exact ⟨_,_,_,_,_,rfl⟩
def cells3 (f:Nat->Value):Nat->List Value
 | 0=>[]
 | m+1=>cells3 f m ++ (f m).cells.toList
def Three (v:Value):Prop:=∃ ng so sn sc e,v=.agg #[.bool ng,.slice so sn sc,.int .i64 e]
theorem DAn.three {B:Nat} {w:World} {V:Int} {v:Value} (h:DAn B w V v):Three v:=by
 obtain ⟨ng,s,m,e,rfl,_,hA⟩:=h
 obtain ⟨so,sn,sc,rfl⟩:=hA.shape
 exact ⟨_,_,_,_,_,rfl⟩
theorem cells3_length {f:Nat->Value}:∀ m,(∀ i,i<m->Three (f i))->(cells3 f m).length=m*3
 | 0,_=>rfl
 | m+1,h=>by
  obtain ⟨ng,so,sn,sc,e,he⟩:=h m (by omega)
  rw [cells3,List.length_append,cells3_length m fun i hi=>h i (by omega),he]
  simp [Value.cells]
  omega
theorem cells3_at {f:Nat->Value}:∀ m,(∀ i,i<m->Three (f i))->∀ i j,i<m->j<3->(cells3 f m)[i*3+j]?=(f i).cells[j]?
 | 0,_,i,j,hi,_=>by omega
 | m+1,h,i,j,hi,hj=>by
  have hl:=cells3_length m fun i hi=>h i (by omega)
  rw [cells3]
  by_cases e:i=m
  ·subst e
   rw [List.getElem?_append_right (by omega),hl,show i*3+j-i*3=j by omega]
   simp
  ·rw [List.getElem?_append_left (by omega)]
   exact cells3_at m (fun i hi=>h i (by omega)) i j (by omega) hj
def OutN (B:Nat) (w:World) (x:Value) (m:Nat) (f:Nat->Value):Prop:=w.ownsRow B 40 3 x m (cells3 f m)
theorem OutN.nil (B:Nat) (w:World) (f:Nat->Value):OutN B w (.slice none 0 0) 0 f:=⟨rfl,.inl ⟨rfl,rfl⟩⟩
theorem OutN.of_block {B:Nat} {w w':World} {x:Value} {m:Nat} {f:Nat->Value} (h:OutN B w x m f) (hb:∀ g,x.ownBlock=some g->w'.heap[g]?=w.heap[g]?):OutN B w' x m f:=by
 refine ⟨h.1,?_⟩
 rcases h.2 with hn | ⟨g,cap,cur,rfl,hbb,hg,rest⟩
 ·exact .inl hn
 ·exact .inr ⟨g,cap,cur,rfl,hbb,(hb g rfl).trans hg,rest⟩
theorem OutN.typed {B:Nat} {w:World} {x:Value} {m:Nat} {f:Nat->Value} (h:OutN B w x m f) {g:Nat} (hg:x.ownBlock=some g):B<=g∧g<w.heap.size∧∃ cur z,w.heap[g]?=some (.cells cur 40 z):=by
 rcases h.2 with ⟨rfl,_⟩ | ⟨g',cap,cur,rfl,hbb,hg',rest⟩
 ·simp [Value.ownBlock] at hg
 ·simp only [Value.ownBlock,Option.some.injEq] at hg; subst hg; exact ⟨hbb,(Array.getElem?_eq_some_iff.1 hg').1,cur,_,hg'⟩
theorem OutN.keeps {B:Nat} {w w':World} {x:Value} {m:Nat} {f:Nat->Value} (h:OutN B w x m f) (hb:Below w.heap.size w w'):OutN B w' x m f:=h.of_block fun g hg=>hb.block g (h.typed hg).2.1
theorem OutN.shape {B:Nat} {w:World} {x:Value} {m:Nat} {f:Nat->Value} (h:OutN B w x m f):∃ xo xc,x=.slice xo m xc∧m<=xc∧(0<m->∃ g,xo=some ⟨g,0,none⟩):=by
 rcases h.2 with ⟨rfl,rfl⟩ | ⟨g,cap,cur,rfl,hb,hg,hn,hm,_⟩
 ·exact ⟨none,0,rfl,Nat.le_refl _,fun h=>by omega⟩
 ·exact ⟨_,cap,rfl,hn,fun _=>⟨g,rfl⟩⟩
theorem OutN.cell {B:Nat} {w:World} {xo:Option Addr} {m xc g:Nat} {f:Nat->Value} (h:OutN B w (.slice xo m xc) m f) (ht:∀ i,i<m->Three (f i)) (hx:xo=some ⟨g,0,none⟩) {i j:Nat} (hi:i<m) (hj:j<3):w.cell? ⟨g,i*3+j,none⟩=(f i).cells[j]?:=by
 rcases h.2 with ⟨_,rfl⟩ | ⟨g',cap,cur,e,hb,hg,hn,hm,hs,ht'⟩
 ·omega
 ·simp only [Value.slice.injEq] at e
  obtain ⟨rfl,_,rfl⟩:=e
  simp only [Option.some.injEq,Addr.mk.injEq] at hx
  obtain ⟨rfl,_⟩:=hx
  rw [cell_of_row w g' (i*3+j) cur _ _ hg,<- cells3_at m ht i j hi hj,<- ht',List.getElem?_take_of_lt (by omega)]
  simp
theorem DAn.of_blocks {B:Nat} {w w':World} {V:Int} {v:Value} (h:DAn B w V v) (hb:∀ (g:Nat) (cur:Array Value) z,w.heap[g]?=some (.cells cur 3 z)->w'.heap[g]?=w.heap[g]?):DAn B w' V v:=by
 obtain ⟨ng,s,m,e,h1,h2,t,d,hO,h3⟩:=h
 exact ⟨ng,s,m,e,h1,h2,t,d,hO.of_block fun g hg=>by obtain ⟨cur,z,hc⟩:=hO.typed hg; exact hb g cur z hc,h3⟩
structure LS (B:Nat) (w:World) (N:Nat) (X:Nat->Value) (M:Nat->Nat) (F:Nat->Nat->Value):Prop where
 own:∀ j,j<N->OutN B w (X j) (M j) (F j)
 ne:∀ i j,i<N->j<N->i≠j->∀ g,(X i).ownBlock=some g->(X j).ownBlock≠some g
theorem LS.keeps {B:Nat} {w w':World} {N:Nat} {X:Nat->Value} {M:Nat->Nat} {F:Nat->Nat->Value} (h:LS B w N X M F) (hb:Below w.heap.size w w'):LS B w' N X M F:=⟨fun j hj=>(h.own j hj).keeps hb,h.ne⟩
theorem LS.put {B:Nat} {w w':World} {N:Nat} {X:Nat->Value} {M:Nat->Nat} {F:Nat->Nat->Value} (h:LS B w N X M F) (j0:Nat) {row:Option Nat} (hg:w.grownBy w' row) {v':Value} {M':Nat} {F':Nat->Value} (hO:OutN B w' v' M' F') (h1:∀ j,j<N->j≠j0->∀ g,(X j).ownBlock=some g->row≠some g) (h2:∀ j,j<N->j≠j0->∀ g,(X j).ownBlock=some g->v'.ownBlock≠some g) :
  LS B w' N (updV X j0 v') (updV M j0 M') (updV F j0 F'):=by
 refine ⟨fun j hj=>?_,fun i j hi hj hij g hgi=>?_⟩
 ·by_cases e:j=j0
  ·subst e; rw [updV_same,updV_same,updV_same]; exact hO
  ·rw [updV_other _ _ e,updV_other _ _ e,updV_other _ _ e]
   exact (h.own j hj).of_block fun g hgx=>hg.block g ((h.own j hj).typed hgx).2.1 fun e'=>h1 j hj e g hgx e'.symm
 ·by_cases e:i=j0
  ·subst e
   rw [updV_same] at hgi
   rw [updV_other _ _ (Ne.symm hij)]
   exact fun hgj=>h2 j hj (Ne.symm hij) g hgj hgi
  ·rw [updV_other _ _ e] at hgi
   by_cases e2:j=j0
   ·subst e2
    rw [updV_same]
    exact h2 i hi e g hgi
   ·rw [updV_other _ _ e2]
    exact h.ne i j hi hj hij g hgi
theorem LS.row {B:Nat} {w:World} {N:Nat} {X:Nat->Value} {M:Nat->Nat} {F:Nat->Nat->Value} (h:LS B w N X M F) {j:Nat} (hj:j<N):∀ g,(X j).ownBlock=some g->∃ (cur:Array Value) (z:Nat × Nat),w.heap[g]?=some (Obj.cells cur 40 z):=fun g hg=>(((h.own j hj).typed hg).2.2)
theorem LS.ge {B:Nat} {w:World} {N:Nat} {X:Nat->Value} {M:Nat->Nat} {F:Nat->Nat->Value} (h:LS B w N X M F) {j:Nat} (hj:j<N):∀ g,(X j).ownBlock=some g->B<=g:=fun g hg=>((h.own j hj).typed hg).1
theorem OutN.nums {B:Nat} {w:World} {xo:Option Addr} {m xc:Nat} {f:Nat->Value} {r:Nat->NumR} (h:OutN B w (.slice xo m xc) m f) (hm:m<=100000) (hr:∀ i,i<m->f i=(r i).v∧Row w (r i).ao (r i).n (r i).cap (r i).d):∃ c2,xc=c2∧Nums w xo m xc r:=by
 have ht:∀ i,i<m->Three (f i):=fun i hi=>⟨_,_,_,_,_,(hr i hi).1⟩
 refine ⟨xc,rfl,?_⟩
 obtain ⟨xo',xc',e,hle,hsp⟩:=h.shape
 simp only [Value.slice.injEq] at e
 obtain ⟨rfl,_,rfl⟩:=e
 refine ⟨hle,?_,fun hm0=>?_⟩
 ·rcases h.2 with ⟨e,_⟩ | ⟨g,cap,cur,e,hb,hg,hn,hmx,hs,_⟩
  ·simp only [Value.slice.injEq] at e; omega
  ·simp only [Value.slice.injEq] at e
   obtain ⟨_,_,rfl⟩:=e
   unfold maxLen at hmx
   omega
 ·obtain ⟨g,rfl⟩:=hsp hm0
  have hlt:g<w.heap.size:=(h.typed (g:=g) rfl).2.1
  refine ⟨g,0,rfl,hlt,fun i hi=>?_⟩
  obtain ⟨h1,h2⟩:=hr i hi
  have c:=fun j (hj:j<3)=>h.cell ht rfl hi (j:=j) hj
  rw [h1] at c
  rw [Nat.zero_add]
  exact ⟨c 0 (by decide),c 1 (by decide),c 2 (by decide),h2⟩
def Src (B:Nat) (w:World) (n:Nat) (r:Nat->NumR) (V:Int) (v:Value):Prop:=DAn B w V v∨∃ i,i<n∧v=(r i).v∧V=(r i).V
theorem Src.keeps {B:Nat} {w w':World} {n:Nat} {r:Nat->NumR} {V:Int} {v:Value} (h:Src B w n r V v) (hb:Below w.heap.size w w'):Src B w' n r V v:=by
 rcases h with h | h
 ·exact .inl (h.keeps hb)
 ·exact .inr h
theorem ints_set3 {w:World} {g o0 o1 o2:Nat} {xs:Array Value} {z:Nat × Nat} (hg:w.heap[g]?=some (.cells xs 40 z)) (x y u:Value):∀ (g':Nat) (cur:Array Value) z',w.heap[g']?=some (.cells cur 3 z')->(((w.setCell ⟨g,o0,none⟩ x).setCell ⟨g,o1,none⟩ y).setCell ⟨g,o2,none⟩ u).heap[g']?=w.heap[g']?:=fun g' cur z' hc=>by
 refine (wr3 w g o0 o1 o2 x y u).block g' (Array.getElem?_eq_some_iff.1 hc).1 fun e=>?_
 subst e
 rw [hg] at hc
 simp at hc
theorem blk_on {W y:World} (hb:Below W.heap.size W y) {g:Nat} {X:Obj} (h:W.heap[g]?=some X):y.heap[g]?=some X:=(hb.block _ (Array.getElem?_eq_some_iff.1 h).1).trans h
theorem dan_res3 {B:Nat} {w3:World} {V:Int} {v:Value} (hv:DAn B w3 V v) {g:Nat} {xs:Array Value} {z:Nat × Nat} (hg:w3.heap[g]?=some (.cells xs 40 z)) (a b c:Value) :
  DAn B (((w3.setCell ⟨g,0,none⟩ a).setCell ⟨g,1,none⟩ b).setCell ⟨g,2,none⟩ c) V v:=hv.of_blocks (ints_set3 hg a b c)
def Det (a1 a2 b1 b2 V:Int):Prop:=∃ C D,C*2^4194304=a1*b2∧D*2^4194304=a2*b1∧V=C-D
theorem Det.unique {a1 a2 b1 b2 V V':Int} (h:Det a1 a2 b1 b2 V) (k:Det a1 a2 b1 b2 V'):V=V':=by
 obtain ⟨C,D,h1,h2,rfl⟩:=h
 obtain ⟨C',D',k1,k2,rfl⟩:=k
 rw [scale_inj (h1.trans k1.symm),scale_inj (h2.trans k2.symm)]
theorem oexact_any {ax ay bx by' cx cy:Int} (pax:pok ax=true) (pay:pok ay=true) (pbx:pok bx=true) (pby:pok by'=true) (pcx:pok cx=true) (pcy:pok cy=true) (w:World) (H:Hold4 w) :
    Calls Tryz.prog 71 #[.agg #[.int .i64 ax,.int .i64 ay],.agg #[.int .i64 bx,.int .i64 by'],.agg #[.int .i64 cx,.int .i64 cy]] w fun r w'=>∃ v V,r=.returned v∧DAns w w' V v∧Det (patV ax-patV cx) (patV ay-patV cy) (patV bx-patV cx) (patV by'-patV cy) V∧Bd 8100 V:=by
  have A1:Hid (∀ W,Hold4 W->Calls Tryz.prog 78 #[.int .i64 ax,.int .i64 cx] W fun r w'=>∃ v,r=.returned v∧DAns W w' (patV ax-patV cx) v):=fun W h=>oapart_any pax pcx W h
  have A2:Hid (∀ W,Hold4 W->Calls Tryz.prog 78 #[.int .i64 by',.int .i64 cy] W fun r w'=>∃ v,r=.returned v∧DAns W w' (patV by'-patV cy) v):=fun W h=>oapart_any pby pcy W h
  have A3:Hid (∀ W,Hold4 W->Calls Tryz.prog 78 #[.int .i64 ay,.int .i64 cy] W fun r w'=>∃ v,r=.returned v∧DAns W w' (patV ay-patV cy) v):=fun W h=>oapart_any pay pcy W h
  have A4:Hid (∀ W,Hold4 W->Calls Tryz.prog 78 #[.int .i64 bx,.int .i64 cx] W fun r w'=>∃ v,r=.returned v∧DAns W w' (patV bx-patV cx) v):=fun W h=>oapart_any pbx pcx W h
  have B1:=(patV_bd pax).sub (patV_bd pcx) (by decide)
  have B2:=(patV_bd pby).sub (patV_bd pcy) (by decide)
  have B3:=(patV_bd pay).sub (patV_bd pcy) (by decide)
  have B4:=(patV_bd pbx).sub (patV_bd pcx) (by decide)
  generalize patV ax-patV cx=a1 at *
  generalize patV by'-patV cy=b2 at *
  generalize patV ay-patV cy=a2 at *
  generalize patV bx-patV cx=b1 at *
  clear pax pay pbx pby pcx pcy
  have hb0:=bel_a4 w (.cells #[.int .i64 ax,.int .i64 ay] 33) (.cells #[.int .i64 bx,.int .i64 by'] 33) (.cells #[.int .i64 cx,.int .i64 cy] 33) (.cells #[.bool false,.slice none 0 0,.int .i64 0] 40)
  have a_k:=h4_0 w (.cells #[.int .i64 ax,.int .i64 ay] 33) (.cells #[.int .i64 bx,.int .i64 by'] 33) (.cells #[.int .i64 cx,.int .i64 cy] 33) (.cells #[.bool false,.slice none 0 0,.int .i64 0] 40)
  have b_k:=h4_1 w (.cells #[.int .i64 ax,.int .i64 ay] 33) (.cells #[.int .i64 bx,.int .i64 by'] 33) (.cells #[.int .i64 cx,.int .i64 cy] 33) (.cells #[.bool false,.slice none 0 0,.int .i64 0] 40)
  have c_k:=h4_2 w (.cells #[.int .i64 ax,.int .i64 ay] 33) (.cells #[.int .i64 bx,.int .i64 by'] 33) (.cells #[.int .i64 cx,.int .i64 cy] 33) (.cells #[.bool false,.slice none 0 0,.int .i64 0] 40)
  have r_k:=h4_3 w (.cells #[.int .i64 ax,.int .i64 ay] 33) (.cells #[.int .i64 bx,.int .i64 by'] 33) (.cells #[.int .i64 cx,.int .i64 cy] 33) (.cells #[.bool false,.slice none 0 0,.int .i64 0] 40)
  go_enter Tryz.func71,Tryz.ntmps71
  go_wp2_with fail
  rename_i Q0 K00 hK00
  generalize (((w.alloc (.cells #[.int .i64 ax,.int .i64 ay] 33)).alloc (.cells #[.int .i64 bx,.int .i64 by'] 33)).alloc (.cells #[.int .i64 cx,.int .i64 cy] 33)).alloc (.cells #[.bool false,.slice none 0 0,.int .i64 0] 40)=x0 at hb0 a_k b_k c_k r_k ⊢
  have H:=H.keeps hb0
  have hK1:=hK00
  have HN1:∀ (g:Nat) (x1:World) (t:Array Value) (l_g:Bool) (l_o:Option Addr) (l_n l_c:Nat) (l_e:Int) (l_V:Int),#[t.getD 0 undef,t.getD 1 undef,t.getD 2 undef,.pointer (some ⟨w.heap.size,0,none⟩),.pointer (some ⟨w.heap.size+1,0,none⟩),.pointer (some ⟨w.heap.size+1+1,0,none⟩),.pointer (some ⟨w.heap.size+1+1+1,0,none⟩),.pointer (some ⟨g,0,none⟩),t.getD 8 undef,t.getD 9 undef,t.getD 10 undef,t.getD 11 undef,t.getD 12 undef,t.getD 13 undef,t.getD 14 undef,t.getD 15 undef,t.getD 16 undef,t.getD 17 undef,t.getD 18 undef,t.getD 19 undef,t.getD 20 undef,t.getD 21 undef,t.getD 22 undef,t.getD 23 undef,t.getD 24 undef,t.getD 25 undef,t.getD 26 undef,t.getD 27 undef,t.getD 28 undef,t.getD 29 undef,t.getD 30 undef,t.getD 31 undef,t.getD 32 undef,t.getD 33 undef,t.getD 34 undef,t.getD 35 undef,t.getD 36 undef,t.getD 37 undef,t.getD 38 undef,t.getD 39 undef,t.getD 40 undef,t.getD 41 undef,t.getD 42 undef,t.getD 43 undef,t.getD 44 undef,t.getD 45 undef,t.getD 46 undef,t.getD 47 undef]=t->x0.heap.size<=g->x1.heap[g]?=some (.cells #[.bool l_g,.slice l_o l_n l_c,.int .i64 l_e] 40 (0,0))->Below x0.heap.size x0 x1->DAn w.heap.size x1 l_V (.agg #[.bool l_g,.slice l_o l_n l_c,.int .i64 l_e])->l_V*2^4194304=a1*b2->Bd (2*(4000+1)) l_V->Exit.then K00 Q0 Exit.normal { tmps:=t,defers:=[] } x1:=by
    intro g_l x1 t l_g l_o l_n l_c l_e l_V ht l_ge l_k hw1 l_D l_E l_B
    obtain ⟨u1,hu⟩:∃ u:Nat->Value,t=#[u 0,u 1,u 2,.pointer (some ⟨w.heap.size,0,none⟩),.pointer (some ⟨w.heap.size+1,0,none⟩),.pointer (some ⟨w.heap.size+1+1,0,none⟩),.pointer (some ⟨w.heap.size+1+1+1,0,none⟩),.pointer (some ⟨g_l,0,none⟩),u 8,u 9,u 10,u 11,u 12,u 13,u 14,u 15,u 16,u 17,u 18,u 19,u 20,u 21,u 22,u 23,u 24,u 25,u 26,u 27,u 28,u 29,u 30,u 31,u 32,u 33,u 34,u 35,u 36,u 37,u 38,u 39,u 40,u 41,u 42,u 43,u 44,u 45,u 46,u 47]:=⟨fun k=>t.getD k undef,ht.symm⟩
    clear ht
    subst hu
    have H:=H.keeps hw1
    have a_k:=(hw1.block _ (Array.getElem?_eq_some_iff.1 a_k).1).trans a_k
    have b_k:=(hw1.block _ (Array.getElem?_eq_some_iff.1 b_k).1).trans b_k
    have c_k:=(hw1.block _ (Array.getElem?_eq_some_iff.1 c_k).1).trans c_k
    have r_k:=(hw1.block _ (Array.getElem?_eq_some_iff.1 r_k).1).trans r_k
    have hb1:=bel_trans hb0 hw1
    go_wp2_with fail
    rename_i K2 hK2
    have HN2:∀ (g:Nat) (x2:World) (t:Array Value) (s_g:Bool) (s_o:Option Addr) (s_n s_c:Nat) (s_e:Int) (s_V:Int),#[t.getD 0 undef,t.getD 1 undef,t.getD 2 undef,.pointer (some ⟨w.heap.size,0,none⟩),.pointer (some ⟨w.heap.size+1,0,none⟩),.pointer (some ⟨w.heap.size+1+1,0,none⟩),.pointer (some ⟨w.heap.size+1+1+1,0,none⟩),.pointer (some ⟨g_l,0,none⟩),t.getD 8 undef,.pointer (some ⟨g,0,none⟩),t.getD 10 undef,t.getD 11 undef,t.getD 12 undef,t.getD 13 undef,t.getD 14 undef,t.getD 15 undef,t.getD 16 undef,t.getD 17 undef,t.getD 18 undef,t.getD 19 undef,t.getD 20 undef,t.getD 21 undef,t.getD 22 undef,t.getD 23 undef,t.getD 24 undef,t.getD 25 undef,t.getD 26 undef,t.getD 27 undef,t.getD 28 undef,t.getD 29 undef,t.getD 30 undef,t.getD 31 undef,t.getD 32 undef,t.getD 33 undef,t.getD 34 undef,t.getD 35 undef,t.getD 36 undef,t.getD 37 undef,t.getD 38 undef,t.getD 39 undef,t.getD 40 undef,t.getD 41 undef,t.getD 42 undef,t.getD 43 undef,t.getD 44 undef,t.getD 45 undef,t.getD 46 undef,t.getD 47 undef]=t->x1.heap.size<=g->x2.heap[g]?=some (.cells #[.bool s_g,.slice s_o s_n s_c,.int .i64 s_e] 40 (0,0))->Below x1.heap.size x1 x2->DAn w.heap.size x2 s_V (.agg #[.bool s_g,.slice s_o s_n s_c,.int .i64 s_e])->s_V*2^4194304=a2*b1->Bd (2*(4000+1)) s_V->Exit.then K2 Q0 Exit.normal { tmps:=t,defers:=[] } x2:=by
      intro g_s x2 t s_g s_o s_n s_c s_e s_V ht s_ge s_k hw2 s_D s_E s_B
      obtain ⟨u2,hu⟩:∃ u:Nat->Value,t=#[u 0,u 1,u 2,.pointer (some ⟨w.heap.size,0,none⟩),.pointer (some ⟨w.heap.size+1,0,none⟩),.pointer (some ⟨w.heap.size+1+1,0,none⟩),.pointer (some ⟨w.heap.size+1+1+1,0,none⟩),.pointer (some ⟨g_l,0,none⟩),u 8,.pointer (some ⟨g_s,0,none⟩),u 10,u 11,u 12,u 13,u 14,u 15,u 16,u 17,u 18,u 19,u 20,u 21,u 22,u 23,u 24,u 25,u 26,u 27,u 28,u 29,u 30,u 31,u 32,u 33,u 34,u 35,u 36,u 37,u 38,u 39,u 40,u 41,u 42,u 43,u 44,u 45,u 46,u 47]:=⟨fun k=>t.getD k undef,ht.symm⟩
      clear ht
      subst hu
      have H:=H.keeps hw2
      have a_k:=(hw2.block _ (Array.getElem?_eq_some_iff.1 a_k).1).trans a_k
      have b_k:=(hw2.block _ (Array.getElem?_eq_some_iff.1 b_k).1).trans b_k
      have c_k:=(hw2.block _ (Array.getElem?_eq_some_iff.1 c_k).1).trans c_k
      have r_k:=(hw2.block _ (Array.getElem?_eq_some_iff.1 r_k).1).trans r_k
      have l_k:=(hw2.block _ (Array.getElem?_eq_some_iff.1 l_k).1).trans l_k
      have l_D:=l_D.keeps hw2
      have hb2:=bel_trans hb1 hw2
      have f_l0:=blkC l_k 0 rfl
      have f_l1:=blkC l_k 1 rfl
      have f_l2:=blkC l_k 2 rfl
      have f_s0:=blkC s_k 0 rfl
      have f_s1:=blkC s_k 1 rfl
      have f_s2:=blkC s_k 2 rfl
      go_wp2_with fail
      clear f_l0 f_l1 f_l2 f_s0 f_s1 f_s2
      have hs0:=(Array.getElem?_eq_some_iff.1 r_k).1
      refine (sub_B l_D.num s_D.num l_B s_B (by omega) H.tab).mono ?_
      rintro _ y3 ⟨v,rfl,h3⟩
      obtain ⟨n_g,n_o,n_n,n_c,n_e,rfl⟩:=dans_shape h3
      have hw3:=h3.below
      have n_D:=h3.num
      have H:=H.keeps hw3
      have a_k:=(hw3.block _ (Array.getElem?_eq_some_iff.1 a_k).1).trans a_k
      have b_k:=(hw3.block _ (Array.getElem?_eq_some_iff.1 b_k).1).trans b_k
      have c_k:=(hw3.block _ (Array.getElem?_eq_some_iff.1 c_k).1).trans c_k
      have r_k:=(hw3.block _ (Array.getElem?_eq_some_iff.1 r_k).1).trans r_k
      have l_k:=(hw3.block _ (Array.getElem?_eq_some_iff.1 l_k).1).trans l_k
      have l_D:=l_D.keeps hw3
      have s_k:=(hw3.block _ (Array.getElem?_eq_some_iff.1 s_k).1).trans s_k
      have s_D:=s_D.keeps hw3
      have hb3:=bel_trans hb2 hw3
      have r_k:=heap_past (.cells #[.bool n_g,.slice n_o n_n n_c,.int .i64 n_e] 40) r_k
      have k0:=blkC r_k 0 rfl
      have k1:=blkC r_k 1 rfl
      have k2:=blkC r_k 2 rfl
      have z0:=blkF r_k 0
      have z1:=blkF r_k 1
      have z2:=blkF r_k 2
      go_wp2
      refine bodyPost_ret (v:=.agg #[.bool n_g,.slice n_o n_n n_c,.int .i64 n_e]) (by simp [results,Tryz.results71,go_sem,k0,k1,k2]) rfl ⟨_,l_V-s_V,rfl,?_,⟨l_V,s_V,l_E,s_E,rfl⟩,?_⟩
      · exact dans_res3 (g:=w.heap.size+3) (dans_past h3 _) (by assumption) (by omega) hs0 _ _ _
      · exact (l_B.sub s_B (by decide)).up (by decide) (by decide)
    have KK2:∀ W,Below x1.heap.size x1 W->W.cell? ⟨w.heap.size,1,none⟩=some (.int .i64 ay)∧W.cell? ⟨w.heap.size+2,1,none⟩=some (.int .i64 cy)∧W.cell? ⟨w.heap.size+1,0,none⟩=some (.int .i64 bx)∧W.cell? ⟨w.heap.size+2,0,none⟩=some (.int .i64 cx):=fun W hb=>⟨q_cell (blkC a_k 1 rfl) hb,q_cell (blkC c_k 1 rfl) hb,q_cell (blkC b_k 0 rfl) hb,q_cell (blkC c_k 0 rfl) hb⟩
    have hC2_0:=(bel_refl x1).drew
    have hT2_0:Below w.heap.size w x1.drew:=hb1.drew
    have H_2_0:=H.keeps (bel_refl x1).drew
    have hs2_0:=(bel_refl x1).drew
    go_region_held3 (fun W=>W.cell? ⟨w.heap.size,1,none⟩=some (.int .i64 ay)∧W.cell? ⟨w.heap.size+2,1,none⟩=some (.int .i64 cy)∧W.cell? ⟨w.heap.size+1,0,none⟩=some (.int .i64 bx)∧W.cell? ⟨w.heap.size+2,0,none⟩=some (.int .i64 cx))
      (first | assumption | exact KK2 _ hC2_0 | exact KK2 _ hC2_1 | exact KK2 _ hC2_2 | exact KK2 _ hC2_3 | exact KK2 _ (bel_trans hC2_0 (bel_alloc _ _)) | exact KK2 _ (bel_trans hC2_1 (bel_alloc _ _)) | exact KK2 _ (bel_trans hC2_2 (bel_alloc _ _)) | exact KK2 _ (bel_trans hC2_3 (bel_alloc _ _)) | exact KK2 _ (bel_set3' hC2_3 (Nat.le_refl _) _ _ _) | exact KK2 _ (bel_set3' hC2_3 hC2_1.size _ _ _) | exact KK2 _ (bel_set3' hC2_3 hC2_2.size _ _ _) | fail)
      (first
        | (go_at_call 99; have _t:=hs2_2; refine (mul_B (np2.keeps (by first | exact bel_refl _ | exact bel_alloc _ _)) (nb2.num.keeps (by first | exact bel_refl _ | exact bel_alloc _ _)) B3 B4 (by omega) (H_2_2.keeps (by first | exact bel_refl _ | exact bel_alloc _ _)).tab).mono ?_; rintro _ y2_3 ⟨v,s_V,rfl,nm2,s_E,s_B⟩; obtain ⟨s_g,s_o,s_n,s_c,s_e,rfl⟩:=dans_shape nm2; have hq2_3:=nm2.below; have s_A:=nm2.dan.lower (Nat.le_trans hT2_2.size (by first | exact Nat.le_refl _ | exact (bel_alloc _ _).size)); have hs2_3:Below y2_2.heap.size y2_2 y2_3:=(by first | exact hq2_3 | exact bel_trans (bel_alloc _ _) hq2_3); have hT2_3:=bel_trans hT2_2 hs2_3; have hC2_3:=bel_trans hC2_2 hs2_3; have H_2_3:=H_2_2.keeps hs2_3; first | (have qz2:y2_3.heap[x1.heap.size]?=some (.cells #[.bool false,.slice none 0 0,.int .i64 0] 40 (0,0)):=blk_on hq2_3 (blk_on hq2_2 (blk_on hq2_1 (heap_a1 x1 (.cells #[.bool false,.slice none 0 0,.int .i64 0] 40)))); have cz2_0:=blkC qz2 0 rfl; have zz2_0:=blkF qz2 0; have cz2_1:=blkC qz2 1 rfl; have zz2_1:=blkF qz2 1; have cz2_2:=blkC qz2 2 rfl; have zz2_2:=blkF qz2 2) | (have qz2:y2_3.heap[y2_1.heap.size]?=some (.cells #[.bool false,.slice none 0 0,.int .i64 0] 40 (0,0)):=blk_on hq2_3 (blk_on hq2_2 (heap_a1 _ _)); have cz2_0:=blkC qz2 0 rfl; have zz2_0:=blkF qz2 0; have cz2_1:=blkC qz2 1 rfl; have zz2_1:=blkF qz2 1; have cz2_2:=blkC qz2 2 rfl; have zz2_2:=blkF qz2 2) | (have qz2:y2_3.heap[y2_2.heap.size]?=some (.cells #[.bool false,.slice none 0 0,.int .i64 0] 40 (0,0)):=blk_on hq2_3 (heap_a1 _ _); have cz2_0:=blkC qz2 0 rfl; have zz2_0:=blkF qz2 0; have cz2_1:=blkC qz2 1 rfl; have zz2_1:=blkF qz2 1; have cz2_2:=blkC qz2 2 rfl; have zz2_2:=blkF qz2 2) | skip)
        | (go_at_call 78; have _t:=hs2_1; refine (A4.out _ (H_2_1.keeps (by first | exact bel_refl _ | exact bel_alloc _ _))).mono ?_; rintro _ y2_2 ⟨v,rfl,nb2⟩; obtain ⟨q_g,q_o,q_n,q_c,q_e,rfl⟩:=dans_shape nb2; have hq2_2:=nb2.below; have hs2_2:Below y2_1.heap.size y2_1 y2_2:=(by first | exact hq2_2 | exact bel_trans (bel_alloc _ _) hq2_2); have hT2_2:=bel_trans hT2_1 hs2_2; have hC2_2:=bel_trans hC2_1 hs2_2; have H_2_2:=H_2_1.keeps hs2_2; have np2:=na2.num.keeps hs2_2)
        | (go_at_call 78; refine (A3.out _ (H_2_0.keeps (by first | exact bel_refl _ | exact bel_alloc _ _))).mono ?_; rintro _ y2_1 ⟨v,rfl,na2⟩; obtain ⟨p_g,p_o,p_n,p_c,p_e,rfl⟩:=dans_shape na2; have hq2_1:=na2.below; have hs2_1:Below x1.drew.heap.size x1.drew y2_1:=(by first | exact hq2_1 | exact bel_trans (bel_alloc _ _) hq2_1); have hT2_1:=bel_trans hT2_0 hs2_1; have hC2_1:=bel_trans hC2_0 hs2_1; have H_2_1:=H_2_0.keeps hs2_1))
    · exact HN2 y2_3.heap.size _ _ _ _ _ _ _ s_V (by kernel_rfl) ((bel_trans (bel_trans (bel_trans (hs2_0) hs2_1) hs2_2) hs2_3).size) (heap_a1 _ _) (bel_trans (bel_trans (bel_trans (bel_trans (hs2_0) hs2_1) hs2_2) hs2_3) (bel_alloc _ _)) (s_A.keeps (bel_alloc _ _)) s_E s_B
    · exact HN2 y2_2.heap.size _ _ _ _ _ _ _ s_V (by kernel_rfl) ((bel_trans (bel_trans (hs2_0) hs2_1) hs2_2).size) (heap_set (heap_set (heap_set (blk_on hq2_3 (heap_a1 _ _)) 0 _) 1 _) 2 _) (bel_set3' (bel_trans (bel_trans (bel_trans (hs2_0) hs2_1) hs2_2) hs2_3) ((bel_trans (bel_trans (hs2_0) hs2_1) hs2_2).size) _ _ _) (dan_res3 s_A (blk_on hq2_3 (heap_a1 _ _)) _ _ _) s_E s_B
    · exact HN2 y2_1.heap.size _ _ _ _ _ _ _ s_V (by kernel_rfl) ((bel_trans (hs2_0) hs2_1).size) (heap_set (heap_set (heap_set (blk_on hq2_3 (blk_on hq2_2 (heap_a1 _ _))) 0 _) 1 _) 2 _) (bel_set3' (bel_trans (bel_trans (bel_trans (hs2_0) hs2_1) hs2_2) hs2_3) ((bel_trans (hs2_0) hs2_1).size) _ _ _) (dan_res3 s_A (blk_on hq2_3 (blk_on hq2_2 (heap_a1 _ _))) _ _ _) s_E s_B
    · exact HN2 x1.heap.size _ _ _ _ _ _ _ s_V (by kernel_rfl) (Nat.le_refl _) (heap_set (heap_set (heap_set (blk_on hq2_3 (blk_on hq2_2 (blk_on hq2_1 (heap_a1 x1 (.cells #[.bool false,.slice none 0 0,.int .i64 0] 40))))) 0 _) 1 _) 2 _) (bel_set3' (bel_trans (bel_trans (bel_trans (hs2_0) hs2_1) hs2_2) hs2_3) (Nat.le_refl _) _ _ _) (dan_res3 s_A (blk_on hq2_3 (blk_on hq2_2 (blk_on hq2_1 (heap_a1 x1 (.cells #[.bool false,.slice none 0 0,.int .i64 0] 40))))) _ _ _) s_E s_B
  have KK1:∀ W,Below x0.heap.size x0 W->W.cell? ⟨w.heap.size,0,none⟩=some (.int .i64 ax)∧W.cell? ⟨w.heap.size+2,0,none⟩=some (.int .i64 cx)∧W.cell? ⟨w.heap.size+1,1,none⟩=some (.int .i64 by')∧W.cell? ⟨w.heap.size+2,1,none⟩=some (.int .i64 cy):=fun W hb=>⟨q_cell (blkC a_k 0 rfl) hb,q_cell (blkC c_k 0 rfl) hb,q_cell (blkC b_k 1 rfl) hb,q_cell (blkC c_k 1 rfl) hb⟩
  have hC1_0:=(bel_refl x0).drew
  have hT1_0:Below w.heap.size w x0.drew:=hb0.drew
  have H_1_0:=H.keeps (bel_refl x0).drew
  have hs1_0:=(bel_refl x0).drew
  go_region_held3 (fun W=>W.cell? ⟨w.heap.size,0,none⟩=some (.int .i64 ax)∧W.cell? ⟨w.heap.size+2,0,none⟩=some (.int .i64 cx)∧W.cell? ⟨w.heap.size+1,1,none⟩=some (.int .i64 by')∧W.cell? ⟨w.heap.size+2,1,none⟩=some (.int .i64 cy))
    (first | assumption | exact KK1 _ hC1_0 | exact KK1 _ hC1_1 | exact KK1 _ hC1_2 | exact KK1 _ hC1_3 | exact KK1 _ (bel_trans hC1_0 (bel_alloc _ _)) | exact KK1 _ (bel_trans hC1_1 (bel_alloc _ _)) | exact KK1 _ (bel_trans hC1_2 (bel_alloc _ _)) | exact KK1 _ (bel_trans hC1_3 (bel_alloc _ _)) | exact KK1 _ (bel_set3' hC1_3 (Nat.le_refl _) _ _ _) | exact KK1 _ (bel_set3' hC1_3 hC1_1.size _ _ _) | exact KK1 _ (bel_set3' hC1_3 hC1_2.size _ _ _) | fail)
    (first
      | (go_at_call 99; have _t:=hs1_2; refine (mul_B (np1.keeps (by first | exact bel_refl _ | exact bel_alloc _ _)) (nb1.num.keeps (by first | exact bel_refl _ | exact bel_alloc _ _)) B1 B2 (by omega) (H_1_2.keeps (by first | exact bel_refl _ | exact bel_alloc _ _)).tab).mono ?_; rintro _ y1_3 ⟨v,l_V,rfl,nm1,l_E,l_B⟩; obtain ⟨l_g,l_o,l_n,l_c,l_e,rfl⟩:=dans_shape nm1; have hq1_3:=nm1.below; have l_A:=nm1.dan.lower (Nat.le_trans hT1_2.size (by first | exact Nat.le_refl _ | exact (bel_alloc _ _).size)); have hs1_3:Below y1_2.heap.size y1_2 y1_3:=(by first | exact hq1_3 | exact bel_trans (bel_alloc _ _) hq1_3); have hT1_3:=bel_trans hT1_2 hs1_3; have hC1_3:=bel_trans hC1_2 hs1_3; have H_1_3:=H_1_2.keeps hs1_3; first | (have qz1:y1_3.heap[x0.heap.size]?=some (.cells #[.bool false,.slice none 0 0,.int .i64 0] 40 (0,0)):=blk_on hq1_3 (blk_on hq1_2 (blk_on hq1_1 (heap_a1 x0 (.cells #[.bool false,.slice none 0 0,.int .i64 0] 40)))); have cz1_0:=blkC qz1 0 rfl; have zz1_0:=blkF qz1 0; have cz1_1:=blkC qz1 1 rfl; have zz1_1:=blkF qz1 1; have cz1_2:=blkC qz1 2 rfl; have zz1_2:=blkF qz1 2) | (have qz1:y1_3.heap[y1_1.heap.size]?=some (.cells #[.bool false,.slice none 0 0,.int .i64 0] 40 (0,0)):=blk_on hq1_3 (blk_on hq1_2 (heap_a1 _ _)); have cz1_0:=blkC qz1 0 rfl; have zz1_0:=blkF qz1 0; have cz1_1:=blkC qz1 1 rfl; have zz1_1:=blkF qz1 1; have cz1_2:=blkC qz1 2 rfl; have zz1_2:=blkF qz1 2) | (have qz1:y1_3.heap[y1_2.heap.size]?=some (.cells #[.bool false,.slice none 0 0,.int .i64 0] 40 (0,0)):=blk_on hq1_3 (heap_a1 _ _); have cz1_0:=blkC qz1 0 rfl; have zz1_0:=blkF qz1 0; have cz1_1:=blkC qz1 1 rfl; have zz1_1:=blkF qz1 1; have cz1_2:=blkC qz1 2 rfl; have zz1_2:=blkF qz1 2) | skip)
      | (go_at_call 78; have _t:=hs1_1; refine (A2.out _ (H_1_1.keeps (by first | exact bel_refl _ | exact bel_alloc _ _))).mono ?_; rintro _ y1_2 ⟨v,rfl,nb1⟩; obtain ⟨q_g,q_o,q_n,q_c,q_e,rfl⟩:=dans_shape nb1; have hq1_2:=nb1.below; have hs1_2:Below y1_1.heap.size y1_1 y1_2:=(by first | exact hq1_2 | exact bel_trans (bel_alloc _ _) hq1_2); have hT1_2:=bel_trans hT1_1 hs1_2; have hC1_2:=bel_trans hC1_1 hs1_2; have H_1_2:=H_1_1.keeps hs1_2; have np1:=na1.num.keeps hs1_2)
      | (go_at_call 78; refine (A1.out _ (H_1_0.keeps (by first | exact bel_refl _ | exact bel_alloc _ _))).mono ?_; rintro _ y1_1 ⟨v,rfl,na1⟩; obtain ⟨p_g,p_o,p_n,p_c,p_e,rfl⟩:=dans_shape na1; have hq1_1:=na1.below; have hs1_1:Below x0.drew.heap.size x0.drew y1_1:=(by first | exact hq1_1 | exact bel_trans (bel_alloc _ _) hq1_1); have hT1_1:=bel_trans hT1_0 hs1_1; have hC1_1:=bel_trans hC1_0 hs1_1; have H_1_1:=H_1_0.keeps hs1_1))
  · exact HN1 y1_3.heap.size _ _ _ _ _ _ _ l_V (by kernel_rfl) ((bel_trans (bel_trans (bel_trans (hs1_0) hs1_1) hs1_2) hs1_3).size) (heap_a1 _ _) (bel_trans (bel_trans (bel_trans (bel_trans (hs1_0) hs1_1) hs1_2) hs1_3) (bel_alloc _ _)) (l_A.keeps (bel_alloc _ _)) l_E l_B
  · exact HN1 y1_2.heap.size _ _ _ _ _ _ _ l_V (by kernel_rfl) ((bel_trans (bel_trans (hs1_0) hs1_1) hs1_2).size) (heap_set (heap_set (heap_set (blk_on hq1_3 (heap_a1 _ _)) 0 _) 1 _) 2 _) (bel_set3' (bel_trans (bel_trans (bel_trans (hs1_0) hs1_1) hs1_2) hs1_3) ((bel_trans (bel_trans (hs1_0) hs1_1) hs1_2).size) _ _ _) (dan_res3 l_A (blk_on hq1_3 (heap_a1 _ _)) _ _ _) l_E l_B
  · exact HN1 y1_1.heap.size _ _ _ _ _ _ _ l_V (by kernel_rfl) ((bel_trans (hs1_0) hs1_1).size) (heap_set (heap_set (heap_set (blk_on hq1_3 (blk_on hq1_2 (heap_a1 _ _))) 0 _) 1 _) 2 _) (bel_set3' (bel_trans (bel_trans (bel_trans (hs1_0) hs1_1) hs1_2) hs1_3) ((bel_trans (hs1_0) hs1_1).size) _ _ _) (dan_res3 l_A (blk_on hq1_3 (blk_on hq1_2 (heap_a1 _ _))) _ _ _) l_E l_B
  · exact HN1 x0.heap.size _ _ _ _ _ _ _ l_V (by kernel_rfl) (Nat.le_refl _) (heap_set (heap_set (heap_set (blk_on hq1_3 (blk_on hq1_2 (blk_on hq1_1 (heap_a1 x0 (.cells #[.bool false,.slice none 0 0,.int .i64 0] 40))))) 0 _) 1 _) 2 _) (bel_set3' (bel_trans (bel_trans (bel_trans (hs1_0) hs1_1) hs1_2) hs1_3) (Nat.le_refl _) _ _ _) (dan_res3 l_A (blk_on hq1_3 (blk_on hq1_2 (blk_on hq1_1 (heap_a1 x0 (.cells #[.bool false,.slice none 0 0,.int .i64 0] 40))))) _ _ _) l_E l_B
theorem blks4 (w:World) (o0 o1 o2 o3:Obj):Below w.heap.size w ((((w.alloc o0).alloc o1).alloc o2).alloc o3)∧((((w.alloc o0).alloc o1).alloc o2).alloc o3).heap[w.heap.size]?=some o0∧((((w.alloc o0).alloc o1).alloc o2).alloc o3).heap[w.heap.size+1]?=some o1∧((((w.alloc o0).alloc o1).alloc o2).alloc o3).heap[w.heap.size+1+1]?=some o2∧((((w.alloc o0).alloc o1).alloc o2).alloc o3).heap[w.heap.size+1+1+1]?=some o3∧((((w.alloc o0).alloc o1).alloc o2).alloc o3).heap.size=w.heap.size+1+1+1+1 :=
 ⟨bel_trans (bel_trans (bel_trans (bel_alloc w o0) (bel_alloc (w.alloc o0) o1)) (bel_alloc ((w.alloc o0).alloc o1) o2)) (bel_alloc (((w.alloc o0).alloc o1).alloc o2) o3),heap_past o3 (heap_past o2 (heap_past o1 (heap_new o0 (by rfl)))),heap_past o3 (heap_past o2 (heap_new o1 (by simp only [size_alloc]))),heap_past o3 (heap_new o2 (by simp only [size_alloc])),heap_new o3 (by simp only [size_alloc]),by simp only [size_alloc]⟩
theorem blks5 (w:World) (o0 o1 o2 o3 o4:Obj):Below w.heap.size w (((((w.alloc o0).alloc o1).alloc o2).alloc o3).alloc o4)∧(((((w.alloc o0).alloc o1).alloc o2).alloc o3).alloc o4).heap[w.heap.size]?=some o0∧(((((w.alloc o0).alloc o1).alloc o2).alloc o3).alloc o4).heap[w.heap.size+1]?=some o1∧(((((w.alloc o0).alloc o1).alloc o2).alloc o3).alloc o4).heap[w.heap.size+1+1]?=some o2∧(((((w.alloc o0).alloc o1).alloc o2).alloc o3).alloc o4).heap[w.heap.size+1+1+1]?=some o3∧(((((w.alloc o0).alloc o1).alloc o2).alloc o3).alloc o4).heap[w.heap.size+1+1+1+1]?=some o4∧(((((w.alloc o0).alloc o1).alloc o2).alloc o3).alloc o4).heap.size=w.heap.size+1+1+1+1+1 :=
 ⟨bel_trans (bel_trans (bel_trans (bel_trans (bel_alloc w o0) (bel_alloc (w.alloc o0) o1)) (bel_alloc ((w.alloc o0).alloc o1) o2)) (bel_alloc (((w.alloc o0).alloc o1).alloc o2) o3)) (bel_alloc ((((w.alloc o0).alloc o1).alloc o2).alloc o3) o4),heap_past o4 (heap_past o3 (heap_past o2 (heap_past o1 (heap_new o0 (by rfl))))),heap_past o4 (heap_past o3 (heap_past o2 (heap_new o1 (by simp only [size_alloc])))),heap_past o4 (heap_past o3 (heap_new o2 (by simp only [size_alloc]))),heap_past o4 (heap_new o3 (by simp only [size_alloc])),heap_new o4 (by simp only [size_alloc]),by simp only [size_alloc]⟩
theorem wd_nil:wd 0=0:=by decide
def sgP (p:Int):Int:=ord (key p) 0
theorem order_self {p:Int} (hp:rng p) (h:pok p=true):FloatKind.f64.format.order (wd p) (wd p)=some .eq:=q_eq hp hp (q_fin h) (q_fin h) rfl
theorem cmpNaN {p:Int} (hp:rng p) (h:pok p=true) (w:World) :
  Calls Tryz.prog 127 #[.float .f64 (wd p)] w fun r w'=>r=.returned (.bool false)∧w'=w:=by
 have e:=order_self hp h
 go_enter Tryz.func127,Tryz.ntmps127
 go_wp2
 go_ret
 exact ⟨rfl,rfl⟩
theorem cmpFloat {p:Int} (hp:rng p) (h:pok p=true) (w:World) :
    Calls Tryz.prog 64 #[.float .f64 (wd p),.float .f64 0] w fun r w'=>r=.returned (.int .i64 (sgP p))∧w'=w:=by
  have r0:rng 0:=by unfold rng; decide
  have p0:pok 0=true:=by decide
  have C1:Hid (∀ W,Calls Tryz.prog 127 #[.float .f64 (wd p)] W fun r w'=>r=.returned (.bool false)∧w'=W):=fun W=>cmpNaN hp h W
  have C2:Hid (∀ W,Calls Tryz.prog 127 #[.float .f64 0] W fun r w'=>r=.returned (.bool false)∧w'=W):=fun W=>by
    have:=cmpNaN r0 p0 W
    rw [wd_nil] at this
    exact this
  have k0:key 0=0:=by decide
  have hord:(FloatKind.f64.format.order (wd p) 0=some .lt∧sgP p=-1)∨(FloatKind.f64.format.order (wd p) 0=some .gt∧sgP p=1)∨(FloatKind.f64.format.order (wd p) 0=some .eq∧sgP p=0):=by
    unfold sgP ord
    rcases Int.lt_trichotomy (key p) 0 with g | g | g
    · exact .inl ⟨by have:=q_lt hp r0 (q_fin h) (q_fin p0) (by rw [k0]; exact g); rw [wd_nil] at this; exact this,by first | simp [g] | (rw [if_pos g])⟩
    · exact .inr (.inr ⟨by have:=q_eq hp r0 (q_fin h) (q_fin p0) (by rw [k0]; exact g); rw [wd_nil] at this; exact this,by rw [g]; decide⟩)
    · exact .inr (.inl ⟨by have:=q_gt hp r0 (q_fin h) (q_fin p0) (by rw [k0]; exact g); rw [wd_nil] at this; exact this,by
        have:¬ key p<0:=by omega
        simp [this,g]⟩)
  clear hp h r0 p0 k0
  generalize sgP p=s at *
  generalize wd p=P at *
  rcases hord with ⟨ho,rfl⟩ | ⟨ho,rfl⟩ | ⟨ho,rfl⟩
  all_goals
    go_enter Tryz.func64,Tryz.ntmps64
    go_wp2_with fail
    refine (C1.out _).mono ?_
    rintro _ wz ⟨rfl,hwz⟩
    replace hwz:=hwz.symm
    subst hwz
    go_wp2_with fail
    refine (C2.out _).mono ?_
    rintro _ wz ⟨rfl,hwz⟩
    replace hwz:=hwz.symm
    subst hwz
    go_wp2
    go_ret
    exact ⟨rfl,rfl⟩
theorem XR.from {w0 w w':World} {ok:Bool} {s:Ls} {r:Ending} (h:XR w ok s r w') (hb:Below w0.heap.size w0 w):XR w0 ok s r w':=by
 obtain ⟨h1,h2⟩:=h
 refine ⟨?_,bel_trans hb h2⟩
 rcases h1 with ⟨a,v,b,c⟩ | h
 ·exact .inl ⟨a,v,b,c.lower hb.size⟩
 ·exact .inr h
def trn (f:Nat->Int) (k:Nat):Nat->Int:=fun i=>if i<k then neg (f i) else f i
theorem trn_upd (f:Nat->Int) (k:Nat):upd (trn f k) k (neg (f k))=trn f (k+1):=by
 funext i
 by_cases e:i=k
 ·subst e; rw [upd_same]; unfold trn; rw [if_pos (by omega)]
 ·rw [upd_other _ _ e]; unfold trn
  by_cases h:i<k
  ·rw [if_pos h,if_pos (by omega)]
  ·rw [if_neg h,if_neg (by omega)]
theorem xdiff_any {eo fo:Option Addr} {n ec m fc:Nat} {d f:Nat->Int} (w:World) (h:Row w eo n ec d) (hf:Row w fo m fc f) (hd:∀ i,i<n->rng (d i)∧pok (d i)=true) (hff:∀ i,i<m->rng (f i)∧pok (f i)=true) (hn:n+m<=600000) (H:Hold4 w) :
  Calls Tryz.prog 159 #[.slice eo n ec,.slice fo m fc] w fun r w'=>XR w (gaX ⟨n,d⟩ (fun i=>neg (f i)) m) (gaS ⟨n,d⟩ (fun i=>neg (f i)) m) r w':=by
 have CO:=xown_any w hf (by omega)
 have HF:Hid (∀ i,i<m->rng (f i)∧pok (f i)=true):=hff
 have HH:Hid (Hold4 w):=H
 have CS:Hid (∀ W vo vc,Below w.heap.size w W->Row W vo m vc (fun i=>neg (f i))->Calls Tryz.prog 158 #[.slice eo n ec,.slice vo m vc] W fun r w'=>XR w (gaX ⟨n,d⟩ (fun i=>neg (f i)) m) (gaS ⟨n,d⟩ (fun i=>neg (f i)) m) r w'):=fun W vo vc hW hR=>
  (xsum_any W (h.keeps hW) hR hd (fun i hi=>⟨neg_rng (hff i hi).1,(neg_facts (hff i hi).1 (hff i hi).2).2.1⟩) (by omega)).mono fun _ _ hx=>hx.from hW
 generalize gaX ⟨n,d⟩ (fun i=>neg (f i)) m=X at *
 generalize gaS ⟨n,d⟩ (fun i=>neg (f i)) m=S at *
 clear h hf hff H hd
 go_enter Tryz.func159,Tryz.ntmps159
 go_wp2_with fail
 refine CO.mono ?_
 rintro _ w1 ⟨v,rfl,hL,hg⟩
 obtain ⟨ao,cc,rfl,hRR⟩:=hL.row
 have hcm:=hRR.max
 have hcl:=hRR.le
 have HL:Hid (LsO w.heap.size w1 (.slice ao m cc) ⟨m,f⟩):=hL
 have HB1:Hid (Below w.heap.size w w1):=grown_below hg
 clear hL hg CO hRR
 go_wp2_with fail
 go_loopw [12] (fun iv wr=>∃ k:Nat,k<=m∧iv=.int .i64 k∧Hid (LsO w.heap.size wr (.slice ao m cc) ⟨m,trn f k⟩)∧Hid (Below w.heap.size w wr)) (fun iv _=>m-(intOf iv).toNat)
 case atStart=>
  refine ⟨0,Nat.zero_le _,rfl,?_,HB1⟩
  have e:trn f 0=f:=by funext i; unfold trn; rw [if_neg (by omega)]
  rw [e]
  exact HL
 case round=>
  obtain ⟨k,hk,rfl,HLk,HBW⟩:=hrel
  clear HL HB1
  have hsz:=HBW.out.size
  by_cases hlt:k<m
  ·have hO:Out w.heap.size wr (.slice ao m cc) m (trn f k):=by
    rcases HLk.out with h | ⟨h0,_⟩
    ·exact h
    ·have h0':m=0:=h0
     omega
   obtain ⟨g,rfl,hg1,hg2⟩:=hO.spot (by omega)
   have c0:=hO.cell hlt
   have e0:trn f k k=f k:=by unfold trn; rw [if_neg (by omega)]
   rw [e0] at c0
   obtain ⟨rk,pk⟩:=HF.out k hlt
   have CN:Hid (∀ W,Below w.heap.size w W->Calls Tryz.prog 215 #[.int .i64 (f k)] W fun e w'=>e=.returned (.int .i64 (neg (f k)))∧Below W.heap.size W w'):=fun W hW=>(bitsNeg _ W (HH.out.keeps hW).env.lays rk).mono fun _ _ ⟨h1,h2⟩=>⟨h1,h2.be⟩
   have HT:Hid (upd (trn f k) k (neg (f k))=trn f (k+1)):=trn_upd f k
   have HO:Hid (Out w.heap.size wr (.slice (some ⟨g,0,none⟩) m cc) m (trn f k)):=hO
   clear hO e0 rk pk
   generalize neg (f k)=nk at *
   generalize f k=fk at *
   have i0:(0:Int)<=(k:Int):=by omega
   have i1:(k:Int)<(m:Int):=by omega
   go_wp2_with fail
   refine (CN.out _ HBW.out).mono ?_
   rintro _ w2 ⟨rfl,hb2⟩
   have hO2:=HO.out.stays hb2
   have c2:=hO2.cell hlt
   have fz:=hO2.frozen k
   have HO2:Hid (Out w.heap.size w2 (.slice (some ⟨g,0,none⟩) m cc) m (trn f k)):=hO2
   have HB2:Hid (Below w.heap.size w w2):=HBW.out.trans (hb2.mono hsz)
   clear hO2 hb2
   generalize trn f k k=tk at *
   go_wp2
   go_roundw
   case rel=>
    refine ⟨k+1,by omega,by go_num,?_,HB2.out.setCell hg1 _⟩
    have:=HO2.out.store hlt nk
    rw [HT.out] at this
    exact .inl this
   case measure=>simp [intOf]; omega
  ·obtain rfl:k=m:=by omega
   obtain ⟨ao',cc',e1,hR⟩:=HLk.out.row
   simp only [Value.slice.injEq] at e1
   obtain ⟨rfl,_,rfl⟩:=e1
   have hR2:Row wr ao k cc (fun i=>neg (f i)):=hR.congr fun i hi=>by
    show trn f k i=_
    unfold trn
    rw [if_pos hi]
   clear hR
   go_wp2_with fail
   refine (CS.out _ _ _ HBW.out hR2).mono ?_
   rintro _ w2 ⟨(⟨h1,v',rfl,h3⟩ | ⟨h1,rfl⟩),h4⟩
   ·obtain ⟨ao',cc',rfl⟩:=h3.shape
    go_wp2
    go_ret
    exact ⟨.inl ⟨h1,_,rfl,h3⟩,h4⟩
   ·unfold gaveX
    go_wp2
    exact ⟨rfl,.inr ⟨h1,rfl⟩,h4⟩
theorem xDiff {eo fo:Option Addr} {n ec m fc:Nat} {d f:Nat->Int} (w:World) (h:Row w eo n ec d) (hf:Row w fo m fc f) (hr:∀ i,i<n->rng (d i)) (hrf:∀ i,i<m->rng (f i)) (hv:xval d n=true) (hu:xval f m=true) (hn:n+m<=300000) (H:Hold4 w) :
  Calls Tryz.prog 92 #[.slice eo n ec,.slice fo m fc] w fun r w'=>XA w (gaX ⟨n,d⟩ (fun i=>neg (f i)) m) (gaS ⟨n,d⟩ (fun i=>neg (f i)) m) r w':=by
 have hEG:∀ (cap:Array Value) (w:World),(callFunc 159 cap).run Tryz.prog w=.ok (.enter 159 cap) w:=by
  intro cap w
  simp [go_sem]
 have hd:∀ i,i<n->rng (d i)∧pok (d i)=true:=fun i hi=>⟨hr i hi,xval_fin hv i hi⟩
 have hff:∀ i,i<m->rng (f i)∧pok (f i)=true:=fun i hi=>⟨hrf i hi,xval_fin hu i hi⟩
 have CW:=xwl_ok 159 w (gaX ⟨n,d⟩ (fun i=>neg (f i)) m) (gaS ⟨n,d⟩ (fun i=>neg (f i)) m) hEG h hf hv hu H (fun W hW=>xdiff_any W (h.keeps hW) (hf.keeps hW) hd hff (by omega) (H.keeps hW))
 generalize gaX ⟨n,d⟩ (fun i=>neg (f i)) m=X at *
 generalize gaS ⟨n,d⟩ (fun i=>neg (f i)) m=S at *
 go_enter Tryz.func92,Tryz.ntmps92
 go_wp2_with fail
 refine CW.mono ?_
 rintro _ w1 ⟨(⟨h1,v,rfl,h2⟩ | ⟨h1,rfl⟩),hb⟩
 ·obtain ⟨ao,cc,rfl⟩:=h2.shape
  go_wp2
  refine bodyPost_ret (v:=.tuple #[.slice ao S.n cc,.int .i64 0]) (by simp [results,Tryz.results92,go_sem]) rfl ⟨.inl ⟨h1,_,rfl,h2⟩,hb⟩
 ·go_wp2
  refine bodyPost_ret (v:=.tuple #[.slice none 0 0,.int .i64 14]) (by simp [results,Tryz.results92,go_sem]) rfl ⟨.inr ⟨h1,rfl⟩,hb⟩
theorem xProduct {eo fo:Option Addr} {n ec m fc:Nat} {d f:Nat->Int} (w:World) (h:Row w eo n ec d) (hf:Row w fo m fc f) (hr:∀ i,i<n->rng (d i)) (hrf:∀ i,i<m->rng (f i)) (hv:xval d n=true) (hu:xval f m=true) (hn:n<=200) (hm:m<=200) (H:Hold4 w) :
  Calls Tryz.prog 93 #[.slice eo n ec,.slice fo m fc] w fun r w'=>XA w (prX d n f m) (prS d n f m) r w':=by
 have hEG:∀ (cap:Array Value) (w:World),(callFunc 160 cap).run Tryz.prog w=.ok (.enter 160 cap) w:=by
  intro cap w
  simp [go_sem]
 have hd:∀ i,i<n->rng (d i)∧pok (d i)=true:=fun i hi=>⟨hr i hi,xval_fin hv i hi⟩
 have hff:∀ i,i<m->rng (f i)∧pok (f i)=true:=fun i hi=>⟨hrf i hi,xval_fin hu i hi⟩
 have CW:=xwl_ok 160 w (prX d n f m) (prS d n f m) hEG h hf hv hu H (fun W hW=>xproduct_any W (h.keeps hW) (hf.keeps hW) hd hff hn hm (H.keeps hW))
 generalize prX d n f m=X at *
 generalize prS d n f m=S at *
 go_enter Tryz.func93,Tryz.ntmps93
 go_wp2_with fail
 refine CW.mono ?_
 rintro _ w1 ⟨(⟨h1,v,rfl,h2⟩ | ⟨h1,rfl⟩),hb⟩
 ·obtain ⟨ao,cc,rfl⟩:=h2.shape
  go_wp2
  refine bodyPost_ret (v:=.tuple #[.slice ao S.n cc,.int .i64 0]) (by simp [results,Tryz.results93,go_sem]) rfl ⟨.inl ⟨h1,_,rfl,h2⟩,hb⟩
 ·go_wp2
  refine bodyPost_ret (v:=.tuple #[.slice none 0 0,.int .i64 14]) (by simp [results,Tryz.results93,go_sem]) rfl ⟨.inr ⟨h1,rfl⟩,hb⟩
theorem told_finM {p:Int} (h:pok p=true):told p=p:=by unfold told; rw [if_neg (q_fin h)]
theorem aFloats {p q:Int} (hp:Mz p) (hq:Mz q) (w:World) (H:Hold4 w) :
  Calls Tryz.prog 156 #[.int .i64 p,.int .i64 q] w fun r w'=>r=.returned (.tuple #[.float .f64 (wd (fsum p (neg q))),.float .f64 (wd (sL p (neg q)))])∧Below w.heap.size w w':=by
 obtain ⟨n1,n2,n3⟩:=neg_facts hq.1 hq.2.1
 have CT:Hid (∀ W,Hold4 W->Calls Tryz.prog 210 #[.int .i64 p,.int .i64 q] W fun e w'=>e=.returned (.tuple #[.int .i64 (fsum p (neg q)),.int .i64 (sL p (neg q)),.bool (pok (sL p (neg q)))])∧Below W.heap.size W w'):=fun W h=>by
  have:=twoDiff_any hp.1 hq.1 W h.env.lays
  rw [told_finM hp.2.1,told_finM n2] at this
  exact this
 have C1:Hid (∀ W,Calls Tryz.prog 58 #[.int .i64 (fsum p (neg q))] W fun e w'=>e=.returned (.float .f64 (wd (fsum p (neg q))))∧w'=W):=fun W=>bitsFloat _ W
 have C2:Hid (∀ W,Calls Tryz.prog 58 #[.int .i64 (sL p (neg q))] W fun e w'=>e=.returned (.float .f64 (wd (sL p (neg q))))∧w'=W):=fun W=>bitsFloat _ W
 clear hp hq n1 n2 n3
 generalize wd (fsum p (neg q))=Wa at *
 generalize wd (sL p (neg q))=Wb at *
 generalize pok (sL p (neg q))=Wc at *
 generalize fsum p (neg q)=a at *
 generalize sL p (neg q)=b at *
 go_enter Tryz.func156,Tryz.ntmps156
 go_wp2_with fail
 refine (CT.out _ H).mono ?_
 rintro _ y1 ⟨rfl,hw1⟩
 go_wp2_with fail
 refine (C1.out _).mono ?_
 rintro _ wz ⟨rfl,hwz⟩
 replace hwz:=hwz.symm
 subst hwz
 go_wp2_with fail
 refine (C2.out _).mono ?_
 rintro _ wz ⟨rfl,hwz⟩
 replace hwz:=hwz.symm
 subst hwz
 go_wp2
 exact bodyPost_ret (v:=.tuple #[.float .f64 Wa,.float .f64 Wb]) (by simp [results,Tryz.results156,go_sem]) rfl ⟨rfl,hw1⟩
theorem nil_order {f:Int} (hf:rng f) (pf:pok f=true):(rg f=0->FloatKind.f64.format.order (wd f) 0=some .eq)∧(¬ rg f=0->FloatKind.f64.format.order (wd f) 0=some .lt∨FloatKind.f64.format.order (wd f) 0=some .gt):=by
 have r0:rng 0:=by unfold rng; decide
 have p0:pok 0=true:=by decide
 have k0:key 0=0:=by decide
 have kz:key f=0 ↔ rg f=0:=by
  unfold key rg
  unfold rng at hf
  split <;> omega
 refine ⟨fun h=>?_,fun h=>?_⟩
 ·have:=q_eq hf r0 (q_fin pf) (q_fin p0) (by rw [k0]; exact kz.2 h)
  rw [wd_nil] at this
  exact this
 ·rcases Int.lt_trichotomy (key f) 0 with g | g | g
  ·have:=q_lt hf r0 (q_fin pf) (q_fin p0) (by rw [k0]; exact g)
   rw [wd_nil] at this
   exact .inl this
  ·exact absurd (kz.1 g) h
  ·have:=q_gt hf r0 (q_fin pf) (q_fin p0) (by rw [k0]; exact g)
   rw [wd_nil] at this
   exact .inr this
def s0L:Ls:=⟨0,fun _=>0⟩
theorem grow_bel {N:Nat} {w w1:World} {o:Obj} {v:Value} {s:Nat} {d:Nat->Int} (h:Out N w v s d) (g:(w.alloc o).grownBy w1 v.ownBlock) (hN:N<=w.heap.size):Below N w w1:=by
 have ha:=bel_alloc w o
 refine ⟨g.os.trans ha.os,g.tape.trans ha.tape,g.output.trans ha.output,Nat.le_trans ha.size g.size,fun k hk=>?_⟩
 have hk':=Nat.lt_of_lt_of_le hk hN
 refine (g.block k (Nat.lt_of_lt_of_le hk' ha.size) fun e=>?_).trans (ha.block k hk')
 have:=(h.ge e.symm).1
 omega
theorem add_out {B:Nat} {w:World} {v:Value} {s:Ls} {b:Int} (h0:¬ rg b=0) (h:Out B w v (s.n+1) (cat s.d s.n (fun _=>b))):Out B w v (s.add b).n (s.add b).d:=by
 have e:s.add b=⟨s.n+1,upd s.d s.n b⟩:=by unfold Ls.add; rw [if_neg h0]
 rw [e]
 refine h.congr fun i hi=>?_
 by_cases e:i<s.n
 ·simp [cat,e,upd_other s.d _ (show i≠s.n by omega)]
 ·obtain rfl:i=s.n:=by omega
  simp [cat,upd_same]
def ptL (h t:Int):Nat->Ls
 | 0=>s0L
 | 1=>s0L.add t
 | _=>(s0L.add t).add h
def ptF (h t:Int) (k:Nat):Int:=if k=0 then t else h
theorem ptL_succ (h t:Int) {k:Nat} (hk:k<2):ptL h t (k+1)=(ptL h t k).add (ptF h t k):=by
 match k,hk with
 | 0,_=>rfl
 | 1,_=>rfl
theorem ptL_n (h t:Int):∀ {k:Nat},k<=2->(ptL h t k).n<=2:=fun {k} hk=>by
 have a1:∀ (s:Ls) (b:Int),(s.add b).n<=s.n+1:=fun s b=>(s.add_le b).2
 match k,hk with
 | 0,_=>exact Nat.zero_le _
 | 1,_=>exact Nat.le_trans (a1 _ _) (by show 0+1<=2; omega)
 | 2,_=>exact Nat.le_trans (a1 _ _) (Nat.succ_le_succ (a1 _ _))
theorem aParts {h t:Int} (rh:rng h) (ph:pok h=true) (rt:rng t) (pt:pok t=true) (w:World) :
    Calls Tryz.prog 155 #[.float .f64 (wd h),.float .f64 (wd t)] w fun r w'=>∃ v,r=.returned v∧Out w.heap.size w' v (ptL h t 2).n (ptL h t 2).d∧Below w.heap.size w w':=by
  have CO:Hid (∀ k W,k<2->Calls Tryz.prog 124 #[.float .f64 (wd (ptF h t k))] W fun e w'=>e=.returned (.int .i64 (ptF h t k))∧w'=W):=fun k W _=>by
    unfold ptF
    split
    · exact of_FW (FW.pat (q_fin pt) rt) W
    · exact of_FW (FW.pat (q_fin ph) rh) W
  have HN:Hid (∀ k,k<2->(rg (ptF h t k)=0->FloatKind.f64.format.order (wd (ptF h t k)) 0=some .eq)∧(¬ rg (ptF h t k)=0->FloatKind.f64.format.order (wd (ptF h t k)) 0=some .lt∨FloatKind.f64.format.order (wd (ptF h t k)) 0=some .gt)):=fun k _=>by
    unfold ptF
    split
    · exact nil_order rt pt
    · exact nil_order rh ph
  have HR:Hid (∀ k,k<2->rng (ptF h t k)):=fun k _=>by unfold ptF; split <;> assumption
  have hix0:∀ w,(Instr.index 227 (.agg #[.float .f64 (wd t),.float .f64 (wd h)]) (.int .i64 0)).run Tryz.prog w=.ok (.float .f64 (wd t)) w:=fun _=>by kernel_rfl
  have hix1:∀ w,(Instr.index 227 (.agg #[.float .f64 (wd t),.float .f64 (wd h)]) (.int .i64 1)).run Tryz.prog w=.ok (.float .f64 (wd h)) w:=fun _=>by kernel_rfl
  clear rh ph rt pt
  go_enter Tryz.func155,Tryz.ntmps155
  go_wp2_with fail
  go_loopw [5,11] (fun v i wr=>∃ k:Nat,k<=2∧i=.int .i64 k∧Hid (Out w.heap.size wr v (ptL h t k).n (ptL h t k).d)∧Below w.heap.size w wr) (fun _ i _=>2-(intOf i).toNat)
  case atStart=>exact ⟨0,by omega,rfl,Out.nil _ _ _,bel_refl _⟩
  case round=>
    obtain ⟨k,hk,rfl,HO,hbw⟩:=hrel
    by_cases hlt:k<2
    · rcases (show k=0∨k=1 by omega) with rfl | rfl
      · have CK:Hid (∀ W,Calls Tryz.prog 124 #[.float .f64 (wd t)] W fun e w'=>e=.returned (.int .i64 t)∧w'=W):=fun W=>CO.out 0 W (by omega)
        have HK:(rg t=0->FloatKind.f64.format.order (wd t) 0=some .eq)∧(¬ rg t=0->FloatKind.f64.format.order (wd t) 0=some .lt∨FloatKind.f64.format.order (wd t) 0=some .gt):=HN.out 0 (by omega)
        have rK:rng t:=HR.out 0 (by omega)
        have hN:=ptL_n h t (show 0<=2 by omega)
        by_cases h0:rg t=0
        · have ho:=HK.1 h0
          have HE:Hid (ptL h t (0+1)=ptL h t 0):=(ptL_succ h t (by omega)).trans (if_pos h0)
          clear HK h0 CK
          go_wp2
          go_roundw
          case rel=>exact ⟨0+1,by omega,by go_num,(show Out w.heap.size wr _ (ptL h t (0+1)).n (ptL h t (0+1)).d by rw [HE.out]; exact HO.out),hbw⟩
          case measure=>simp [intOf]
        · have ho:=HK.2 h0
          have HE:Hid (ptL h t (0+1)=(ptL h t 0).add t):=ptL_succ h t (by omega)
          have H0:Hid (¬ rg t=0):=h0
          clear HK h0
          rcases ho with ho | ho
          all_goals
            go_wp2_with (first
              | (go_at_call 124; refine (CK.out _).mono ?_; rintro _ wz ⟨rfl,hwz⟩; replace hwz:=hwz.symm; subst hwz)
              | (at_builtin; refine wpList_app rfl _ _ rfl w.heap.size _ (ptL h t 0).n (ptL h t 0).d rfl (HO.out.stays (bel_alloc _ _)) _ 1 1 (fun _=>t) rfl (row1 _ _ rfl) (by omega) (Nat.le_trans hbw.size (bel_alloc _ _).size) ?_; intro v' w1 hO1 hg1))
            go_roundw
            case rel=>exact ⟨0+1,by omega,by go_num,(show Out w.heap.size _ _ (ptL h t (0+1)).n (ptL h t (0+1)).d by rw [HE.out]; exact add_out H0.out hO1),hbw.trans (grow_bel HO.out hg1 hbw.size)⟩
            case measure=>simp [intOf]
      · have CK:Hid (∀ W,Calls Tryz.prog 124 #[.float .f64 (wd h)] W fun e w'=>e=.returned (.int .i64 h)∧w'=W):=fun W=>CO.out 1 W (by omega)
        have HK:(rg h=0->FloatKind.f64.format.order (wd h) 0=some .eq)∧(¬ rg h=0->FloatKind.f64.format.order (wd h) 0=some .lt∨FloatKind.f64.format.order (wd h) 0=some .gt):=HN.out 1 (by omega)
        have rK:rng h:=HR.out 1 (by omega)
        have hN:=ptL_n h t (show 1<=2 by omega)
        by_cases h0:rg h=0
        · have ho:=HK.1 h0
          have HE:Hid (ptL h t (1+1)=ptL h t 1):=(ptL_succ h t (by omega)).trans (if_pos h0)
          clear HK h0 CK
          go_wp2
          go_roundw
          case rel=>exact ⟨1+1,by omega,by go_num,(show Out w.heap.size wr _ (ptL h t (1+1)).n (ptL h t (1+1)).d by rw [HE.out]; exact HO.out),hbw⟩
          case measure=>simp [intOf]
        · have ho:=HK.2 h0
          have HE:Hid (ptL h t (1+1)=(ptL h t 1).add h):=ptL_succ h t (by omega)
          have H0:Hid (¬ rg h=0):=h0
          clear HK h0
          rcases ho with ho | ho
          all_goals
            go_wp2_with (first
              | (go_at_call 124; refine (CK.out _).mono ?_; rintro _ wz ⟨rfl,hwz⟩; replace hwz:=hwz.symm; subst hwz)
              | (at_builtin; refine wpList_app rfl _ _ rfl w.heap.size _ (ptL h t 1).n (ptL h t 1).d rfl (HO.out.stays (bel_alloc _ _)) _ 1 1 (fun _=>h) rfl (row1 _ _ rfl) (by omega) (Nat.le_trans hbw.size (bel_alloc _ _).size) ?_; intro v' w1 hO1 hg1))
            go_roundw
            case rel=>exact ⟨1+1,by omega,by go_num,(show Out w.heap.size _ _ (ptL h t (1+1)).n (ptL h t (1+1)).d by rw [HE.out]; exact add_out H0.out hO1),hbw.trans (grow_bel HO.out hg1 hbw.size)⟩
            case measure=>simp [intOf]
    · obtain rfl:k=2:=by omega
      go_wp2
      go_ret
      exact ⟨_,rfl,HO.out,hbw⟩
def XLs (w:World) (v:Value) (s:Ls):Prop:=∃ ao cap,v=.slice ao s.n cap∧Row w ao s.n cap s.d
theorem XLs.keeps {w w':World} {v:Value} {s:Ls} (h:XLs w v s) (hb:Below w.heap.size w w'):XLs w' v s:=by
 obtain ⟨ao,cap,e,hR⟩:=h
 exact ⟨ao,cap,e,hR.keeps hb⟩
theorem iV_lt {p:Int} (hp:rng p) (h:iV p≠0):iV p<0 ↔ p<0:=by
 obtain ⟨k1,k2⟩:=iV_key hp
 rw [k1]
 have hz:key p≠0:=fun e=>by
  have a:=mt k1.1
  rcases Int.lt_trichotomy (iV p) 0 with g | g | g
  ·have:=k1.1 g; omega
  ·exact h g
  ·have:=k2.1 g; omega
 unfold rng at hp
 by_cases c:p<0
 ·have e:key p=-(p+9223372036854775808):=by unfold key; rw [if_pos c]
  rw [e] at hz ⊢
  omega
 ·have e:key p=p:=by unfold key; rw [if_neg c]
  rw [e]
theorem xSign {v:Value} {s:Ls} (w:World) (h:XLs w v s) (hx:XV s.d s.n) (H:Hold4 w) :
  Calls Tryz.prog 126 #[v] w fun r w'=>r=.returned (.tuple #[.int .i64 (ord (lsm s.d s.n) 0),.int .i64 0])∧Below w.heap.size w w':=by
 obtain ⟨ao,cap,rfl,hR⟩:=h
 obtain ⟨n,d⟩:=s
 simp only at *
 have hle:=hR.le
 have hmx:=hR.max
 have CV:Hid (∀ W,Below w.heap.size w W->Calls Tryz.prog 185 #[.slice ao n cap] W fun e w'=>e=.returned (.bool true)∧Below W.heap.size W w'):=fun W hb=>by
  have:=xvalid_any W (hR.keeps hb) (H.keeps hb)
  rw [xval_of hx] at this
  exact this
 cases n with
 | zero=>
  have e:ord (lsm d 0) 0=0:=by show ord 0 0=0; decide
  rw [e]
  go_enter Tryz.func126,Tryz.ntmps126
  go_wp2_with fail
  refine (CV.out _ (bel_refl _)).mono ?_
  rintro _ y1 ⟨rfl,hw1⟩
  go_wp2
  exact bodyPost_ret (v:=.tuple #[.int .i64 0,.int .i64 0]) (by simp [results,Tryz.results126,go_sem]) rfl ⟨rfl,hw1⟩
 | succ n=>
  obtain ⟨s1,s2⟩:=lsm_sign hx
  have hr:=(hx.fin n (by omega)).1
  have hne:=hx.ne (show n<n+1 by omega)
  have hl:=iV_lt hr hne
  obtain ⟨b,off,rfl,hb,hc⟩:=hR.spot (by omega)
  have i0:(0:Int)<=(n:Int):=by omega
  have i1:(n:Int)<((n+1:Nat):Int):=by omega
  have hidx:((n+1:Nat):Int)-1=(n:Int):=by omega
  by_cases hd:d n<0
  ·have e:ord (lsm d (n+1)) 0=-1:=by
    have:lsm d (n+1)<0:=s2.2 (hl.2 hd)
    unfold ord; rw [if_pos this]
   rw [e]
   have hdd:decide (d n<0)=true:=decide_eq_true hd
   clear s1 s2 hl hne hr e
   have HC:Hid (∀ W,Below w.heap.size w W->W.cell? ⟨b,off+n,none⟩=some (.int .i64 (d n))):=fun W hw=>(hw.cell (p:=⟨b,off+n,none⟩) hb).trans (hc n (by omega))
   clear hc hx hd
   go_enter Tryz.func126,Tryz.ntmps126
   go_wp2_with fail
   refine (CV.out _ (bel_refl _)).mono ?_
   rintro _ y1 ⟨rfl,hw1⟩
   have c1:=HC.out _ hw1
   go_wp2
   exact bodyPost_ret (v:=.tuple #[.int .i64 (-1),.int .i64 0]) (by simp [results,Tryz.results126,go_sem]) rfl ⟨rfl,hw1⟩
  ·have e:ord (lsm d (n+1)) 0=1:=by
    have h1:¬ iV (d n)<0:=fun q=>hd (hl.1 q)
    have:0<lsm d (n+1):=s1.2 (by omega)
    have h2:¬ lsm d (n+1)<0:=by omega
    unfold ord; rw [if_neg h2]; first | rw [if_pos this] | (simp [this]; omega)
   rw [e]
   have hdd:decide (d n<0)=false:=decide_eq_false hd
   clear s1 s2 hl hne hr e
   have HC:Hid (∀ W,Below w.heap.size w W->W.cell? ⟨b,off+n,none⟩=some (.int .i64 (d n))):=fun W hw=>(hw.cell (p:=⟨b,off+n,none⟩) hb).trans (hc n (by omega))
   clear hc hx hd
   go_enter Tryz.func126,Tryz.ntmps126
   go_wp2_with fail
   refine (CV.out _ (bel_refl _)).mono ?_
   rintro _ y1 ⟨rfl,hw1⟩
   have c1:=HC.out _ hw1
   go_wp2
   exact bodyPost_ret (v:=.tuple #[.int .i64 1,.int .i64 0]) (by simp [results,Tryz.results126,go_sem]) rfl ⟨rfl,hw1⟩
def pL (a b c:Int):Ls:=prS (dfL a b).d (dfL a b).n (dfL c b).d (dfL c b).n
def dL (ax ay bx by' cx cy:Int):Ls:=gaS ⟨(pL ax bx cx).n,(pL ax bx cx).d⟩ (pL ay by' cy).d (pL ay by' cy).n
def cLo (V:Int):Int:=if V=0 then 0 else canon (rdP 1 V)
def cHi (V:Int):Int:=if V=0 then 0 else canon (rdP 2 V)
theorem canon_patS {g:Bool} {r:Int} (h0:0<=r) (h1:r<=9218868437227405312):canon (patS g r)=patS (g && decide (0<r)) r:=by
 obtain ⟨a,b,c⟩:=patS_parts (ng:=g) h0 h1
 obtain ⟨d1,d2⟩:=cls_rg a
 rw [b] at d1 d2
 unfold canon
 have n4:¬ cls (patS g r)=4:=fun q=>by have:=d1.1 q; omega
 rw [if_neg n4]
 by_cases hr:r=0
 ·rw [if_pos (d2.2 hr),hr]
  cases g <;> decide
 ·rw [if_neg (fun q=>hr (d2.1 q)),decide_eq_true (show 0<r by omega),Bool.and_true]
theorem c_rung {V:Int} (h0:V≠0):∃ (g:Bool) (A:Int) (r0:Nat) (left:Int),V=sg g A∧0<A∧Rung A r0 left∧cLo V=patS (g && decide (0<rTo 1 g r0 left)) (rTo 1 g r0 left)∧cHi V=patS (g && decide (0<rTo 2 g r0 left)) (rTo 2 g r0 left):=by
 obtain ⟨g,A,r0,left,e,hA,hR,_,e1,e2⟩:=dir_cases h0
 have r1:=rTo_range 1 g r0 left
 have r2:=rTo_range 2 g r0 left
 refine ⟨g,A,r0,left,e,hA,hR,?_,?_⟩
 ·unfold cLo; rw [if_neg h0,e1,canon_patS r1.1 r1.2]
 ·unfold cHi; rw [if_neg h0,e2,canon_patS r2.1 r2.2]
theorem around_c {V:Int} {ng:Bool} {f:Int->Int × Bool} (h:RdOf V ng f):(f 1).1=cLo V∧(f 2).1=cHi V:=by
 obtain ⟨A,r0,left,e,hng,hR,hf⟩:=h
 rw [hf 1,hf 2]
 by_cases h0:V=0
 ·have hA:A=0:=by
   rw [h0] at e
   cases ng
   ·exact e.symm
   ·have:(0:Int)=-A:=e
    omega
  have hn:ng=false:=by
   cases ng
   ·rfl
   ·have:=hng rfl; omega
  subst hn
  rw [hA] at hR
  obtain ⟨u1,u2⟩:=hR.unique rung_zero
  subst u1 u2
  unfold cLo cHi
  rw [if_pos h0,if_pos h0]
  have t1:=rTo_zero 1
  have t2:=rTo_zero 2
  refine ⟨?_,?_⟩
  ·simp only [t1]; rfl
  ·simp only [t2]; rfl
 ·obtain ⟨g,B,s0,l,e',hB,hR',c1,c2⟩:=c_rung h0
  have hA:0<A:=by
   have hA0:0<=A:=by
    have:=hR.lo
    have hv:0<=vS r0:=Int.mul_nonneg (by omega) (Int.le_of_lt (pw_pos _))
    omega
   have:A≠0:=fun q=>h0 (by rw [e,q]; cases ng <;> rfl)
   omega
  have s1:decide (V<0)=ng:=by rw [e]; exact sg_lt hA
  have s2:decide (V<0)=g:=by rw [e']; exact sg_lt hB
  have hg:ng=g:=s1.symm.trans s2
  subst hg
  have hAB:=sg_inj (e.symm.trans e')
  subst hAB
  obtain ⟨u1,u2⟩:=hR.unique hR'
  subst u1 u2
  exact ⟨c1.symm,c2.symm⟩
theorem prod_c {p q:Int} (rp:rng p) (rq:rng q) (hp:pok p=true) (hq:pok q=true):canon (prLo p q)=cLo (prV p q)∧canon (prHi p q)=cHi (prV p q):=by
 have h1:=(pok_rg rp).1 hp
 have h2:=(pok_rg rq).1 hq
 have i2:¬ (rg p=9218868437227405312∨rg q=9218868437227405312):=by omega
 by_cases h0:rg p=0∨rg q=0
 ·have hz:prV p q=0:=by
   obtain ⟨_,_,_,_,hC⟩:=prV_parts rp rq hp hq
   have:patV p*patV q=0:=by
    rcases h0 with h | h
    ·have:patV p=0:=by rw [patV_iV rp hp]; unfold iV; rw [h]; cases decide (p<0) <;> exact Int.zero_mul _
     rw [this,Int.zero_mul]
    ·have:patV q=0:=by rw [patV_iV rq hq]; unfold iV; rw [h]; cases decide (q<0) <;> exact Int.zero_mul _
     rw [this,Int.mul_zero]
   rw [this] at hC
   rcases Int.mul_eq_zero.1 hC with k | k
   ·exact k
   ·exact absurd k (Int.ne_of_gt (two_pos 4194304))
  unfold prLo prHi cLo cHi
  rw [if_pos h0,if_pos h0,if_pos hz,if_pos hz]
  exact ⟨by decide,by decide⟩
 ·have hz:=prV_nz rp rq hp hq (fun k=>h0 (.inl k)) (fun k=>h0 (.inr k))
  unfold prLo prHi cLo cHi
  rw [if_neg h0,if_neg h0,if_neg i2,if_neg i2,if_neg hz,if_neg hz]
  exact ⟨rfl,rfl⟩
theorem suN_near {p q:Int} (rp:rng p) (rq:rng q) (hp:pok p=true) (hq:pok q=true):suN p q=if patV p+patV q=0 then patS (decide (hiM p q<0) && decide (loM p q<0)) 0 else nearP (patV p+patV q):=by
 unfold suN hiM loM
 by_cases h:rg p<rg q
 ·rw [if_pos h,if_pos h,fsum_eqn rq rp hq hp,Int.add_comm]
 ·rw [if_neg h,if_neg h,fsum_eqn rp rq hp hq]
theorem sum_c {p q:Int} (rp:rng p) (rq:rng q) (hp:pok p=true) (hq:pok q=true):nn (suN p q)∧canon (beLo (suN p q) (suL p q))=cLo (patV p+patV q)∧canon (beHi (suN p q) (suL p q))=cHi (patV p+patV q):=by
 have hN:=suN_near rp rq hp hq
 have hVi:patV p+patV q=(iV p+iV q)*pw (-1074):=by rw [patV_iV rp hp,patV_iV rq hq,Int.add_mul]
 have hq0:=pw_pos (-1074)
 by_cases h0:patV p+patV q=0
 ·rw [if_pos h0] at hN
  have hnn:nn (suN p q):=by rw [hN]; exact patS_nn (by decide) (by decide)
  have hz:iV p+iV q=0:=by
   rcases Int.mul_eq_zero.1 (hVi.symm.trans h0) with k | k
   ·exact k
   ·omega
  have hpok:pok (suN p q)=true:=by rw [hN]; cases (decide (hiM p q<0) && decide (loM p q<0)) <;> decide
  have hi0:iV (suN p q)=0:=by rw [hN]; cases (decide (hiM p q<0) && decide (loM p q<0)) <;> decide
  obtain ⟨_,_,hc⟩:=su_btw rp rq hp hq hpok hnn
  rw [hi0,hz] at hc
  refine ⟨hnn,?_⟩
  rcases hc with ⟨_,b1,b2⟩ | ⟨k,_⟩ | ⟨k,_⟩
  ·rw [b1,b2]
   unfold cLo cHi
   rw [if_pos h0,if_pos h0,hN]
   exact ⟨by cases (decide (hiM p q<0) && decide (loM p q<0)) <;> decide,by cases (decide (hiM p q<0) && decide (loM p q<0)) <;> decide⟩
  ·omega
  ·omega
 ·rw [if_neg h0] at hN
  obtain ⟨g1,g2⟩:=nearP_pat h0
  have hnn:nn (suN p q):=by rw [hN]; exact ⟨g1,g2⟩
  refine ⟨hnn,?_⟩
  unfold cLo cHi
  rw [if_neg h0,if_neg h0]
  cases hf:pok (nearP (patV p+patV q))
  ·have hi:=dir_inf h0 hf
   have hr:rg (suN p q)=9218868437227405312:=by
    rw [hN]
    have k1:=nn_rg (show nn (nearP (patV p+patV q)) from ⟨g1,g2⟩)
    rcases Int.lt_or_le (rg (nearP (patV p+patV q))) 9218868437227405312 with k | k
    ·rw [(pok_rg g1).2 k] at hf; cases hf
    ·omega
   have h1:=(pok_rg rp).1 hp
   have h2:=(pok_rg rq).1 hq
   obtain ⟨o1,o2⟩:=su_over ⟨rp,pok_clsF rp hp⟩ ⟨rq,pok_clsF rq hq⟩ (by omega) (by omega) hnn hr
   rcases Int.lt_or_gt_of_ne h0 with k | k
   ·obtain ⟨e0,e1,e2⟩:=hi.2 k
    obtain ⟨b1,b2⟩:=o2 (by rw [hN,e0]; decide)
    rw [b1,b2,hN,e0,e1,e2]
    exact ⟨by decide,by decide⟩
   ·obtain ⟨e0,e1,e2⟩:=hi.1 k
    obtain ⟨b1,b2⟩:=o1 (by rw [hN,e0]; decide)
    rw [b1,b2,hN,e0,e1,e2]
    exact ⟨by decide,by decide⟩
  ·obtain ⟨d1,d2,d3⟩:=dir_fin h0 hf
   rw [<- hN] at d1 d2 d3 hf
   obtain ⟨_,_,hc⟩:=su_btw rp rq hp hq hf hnn
   have hvn:=patV_iV hnn.1 hf
   rw [hvn,hVi] at d1 d2 d3
   rw [hVi]
   generalize pw (-1074)=w at *
   rcases hc with ⟨k,b1,b2⟩ | ⟨k,b1,b2⟩ | ⟨k,b1,b2⟩
   ·rw [b1,b2]
    obtain ⟨f1,f2⟩:=d3 (by rw [k])
    rw [<- f1,<- f2]
    exact ⟨rfl,rfl⟩
   ·rw [b1,b2]
    obtain ⟨f1,f2⟩:=d1 (Int.mul_lt_mul_of_pos_right k hq0)
    rw [<- f1,<- f2]
    exact ⟨rfl,rfl⟩
   ·rw [b1,b2]
    obtain ⟨f1,f2⟩:=d2 (Int.mul_lt_mul_of_pos_right k hq0)
    rw [<- f1,<- f2]
    exact ⟨rfl,rfl⟩
theorem rung_at (r:Nat):Rung (vS r) r 0:=by
 have h:=vS_lt (show r<r+1 by omega)
 refine ⟨Int.le_refl _,h,⟨fun _=>rfl,fun _=>rfl⟩,⟨fun q=>by omega,fun q=>by omega⟩,⟨fun q=>by omega,fun q=>by omega⟩,⟨fun q=>by omega,fun q=>by omega⟩⟩
theorem rTo_at (way:Int) (g:Bool) {r:Nat} (h:(r:Int)<9218868437227405312):rTo way g r 0=(r:Int):=by
 rw [rTo_low way h,(rUp_dn (decide (r % 2=1)) 0).2.2.2.2 way g rfl]
 simp
theorem c_at {g:Bool} {r:Nat} (h:(r:Int)<9218868437227405312) (h0:0<r):cLo (sg g (vS r))=patS g (r:Int)∧cHi (sg g (vS r))=patS g (r:Int):=by
 have hp:0<vS r:=by
  have:=vS_lt h0
  have hz:vS 0=0:=by unfold vS; rw [V_zero]; exact Int.zero_mul _
  omega
 have hn:sg g (vS r)≠0:=fun q=>by
  generalize vS r=y at *
  cases g
  ·rw [sgFF] at q; omega
  ·rw [sgTT] at q; omega
 obtain ⟨g',A,r0,left,e,hA,hR,c1,c2⟩:=c_rung hn
 have s1:decide (sg g (vS r)<0)=g:=sg_lt hp
 have s2:decide (sg g (vS r)<0)=g':=by rw [e]; exact sg_lt hA
 have hg:g=g':=s1.symm.trans s2
 subst hg
 have hAB:=sg_inj e
 rw [<- hAB] at hR
 obtain ⟨u1,u2⟩:=hR.unique (rung_at r)
 subst u1 u2
 rw [c1,c2,rTo_at 1 g h,rTo_at 2 g h,decide_eq_true (show (0:Int)<(r0:Int) by omega),Bool.and_true]
 exact ⟨rfl,rfl⟩
theorem q_two_keep {p B:Nat} {x0 x1:Value} {W W':World} (h:p<B∧B<=W.heap.size∧W.cell? ⟨p,0,none⟩=some x0∧W.cell? ⟨p,1,none⟩=some x1) (hb:Below W.heap.size W W') :
  p<B∧B<=W'.heap.size∧W'.cell? ⟨p,0,none⟩=some x0∧W'.cell? ⟨p,1,none⟩=some x1 :=
 ⟨h.1,Nat.le_trans h.2.1 hb.size,q_cell h.2.2.1 hb,q_cell h.2.2.2 hb⟩
theorem Lays.below' {w w':World} (h:Lays w) (hb:Below w.heap.size w w'):Lays w' :=
 ⟨q_cell h.a0 hb,q_cell h.a1 hb,q_cell h.a2 hb,trivial,trivial,trivial⟩
theorem spanTold {lo hi:Int} (hl:nn lo) (hh:nn hi) (w:World) (L:Lays w) :
    Calls Tryz.prog 187 #[ivl lo hi] w fun e w'=>e=.returned (spn (canon lo) (canon hi))∧Below w.heap.size w w':=by
  unfold ivl spn
  have CO1:Hid (∀ W,Calls Tryz.prog 124 #[.float .f64 (wd lo)] W fun e w'=>e=.returned (.int .i64 lo)∧w'=W):=fun W=>by
    have:=bitsOf lo W hl.1
    rw [show told lo=lo from if_neg hl.2] at this
    exact this
  have CO2:Hid (∀ W,Calls Tryz.prog 124 #[.float .f64 (wd hi)] W fun e w'=>e=.returned (.int .i64 hi)∧w'=W):=fun W=>by
    have:=bitsOf hi W hh.1
    rw [show told hi=hi from if_neg hh.2] at this
    exact this
  have CX':Hid (∀ W,Lays W->Calls Tryz.prog 246 #[.int .i64 lo] W fun e w'=>e=.returned (.int .i64 (canon lo))∧Gr W w'):=fun W LW=>bitsCanon lo W LW
  have CY':Hid (∀ W,Lays W->Calls Tryz.prog 246 #[.int .i64 hi] W fun e w'=>e=.returned (.int .i64 (canon hi))∧Gr W w'):=fun W LW=>bitsCanon hi W LW
  generalize canon lo=X at *
  generalize canon hi=Y at *
  generalize wd lo=A at *
  generalize wd hi=B at *
  have hb2:=bel_alloc2 w (.cells #[.float .f64 A,.float .f64 B] 160) (.cells #[.int .i64 0,.int .i64 0] 72)
  have p0:=heap_a2 w (.cells #[.float .f64 A,.float .f64 B] 160) (.cells #[.int .i64 0,.int .i64 0] 72)
  have p1:=heap_b2 w (.cells #[.float .f64 A,.float .f64 B] 160) (.cells #[.int .i64 0,.int .i64 0] 72)
  have hs:=size2 w (.cells #[.float .f64 A,.float .f64 B] 160) (.cells #[.int .i64 0,.int .i64 0] 72)
  have c0:=blkC p0 0 rfl
  have c1:=blkC p0 1 rfl
  have hbd:=hb2.drew
  have L1:=L.below' hbd
  clear hl hh
  go_enter Tryz.func187,Tryz.ntmps187
  go_wp2_with fail
  generalize (w.alloc (.cells #[.float .f64 A,.float .f64 B] 160)).alloc (.cells #[.int .i64 0,.int .i64 0] 72)=w1 at *
  have hc:w.heap.size<w.heap.size+1∧w.heap.size+1<=w1.drew.heap.size∧w1.drew.cell? ⟨w.heap.size,0,none⟩=some (.float .f64 A)∧w1.drew.cell? ⟨w.heap.size,1,none⟩=some (.float .f64 B):=⟨by omega,by show _<=w1.heap.size; omega,c0,c1⟩
  have hd:w1.drew.heap[w.heap.size+1]?=some (.cells #[.int .i64 0,.int .i64 0] 72 (0,0)):=p1
  go_region_held3 (fun W=>w.heap.size<w.heap.size+1∧w.heap.size+1<=W.heap.size∧W.cell? ⟨w.heap.size,0,none⟩=some (.float .f64 A)∧W.cell? ⟨w.heap.size,1,none⟩=some (.float .f64 B))
    (first | assumption | (repeat (first | exact hc | exact hc1 | exact hc2 | refine q_two_set (by omega) ?_)))
    (first
      | (go_at_call 124; have _t:=LA; refine (CO2.out _).mono ?_; rintro _ _ ⟨rfl,rfl⟩)
      | (go_at_call 124; refine (CO1.out _).mono ?_; rintro _ _ ⟨rfl,rfl⟩)
      | (go_at_call 246; have _t:=LA; refine (CY'.out _ LA).mono ?_; rintro _ w3 ⟨rfl,g3⟩; have hc2:=q_two_keep hc1 g3.be; have d2:=(g3.be.block _ (Array.getElem?_eq_some_iff.1 d1).1).trans d1; have d3:=q_heap_set d2 0 (.int .i64 X); have d4:=q_heap_set d3 1 (.int .i64 Y); have f0:=blkC d2 0 rfl; have z0:=blkF d2 0; have f1:=blkC d3 1 rfl; have z1:=blkF d3 1)
      | (go_at_call 246; refine (CX'.out _ L1).mono ?_; rintro _ w2 ⟨rfl,g2⟩; have LA:=L1.grown g2; have hc1:=q_two_keep hc g2.be; have d1:=(g2.be.block _ (Array.getElem?_eq_some_iff.1 hd).1).trans hd))
  have e0:=blkC d4 0 rfl
  have e1:=blkC d4 1 rfl
  have hbe:Below w.heap.size w ((w3.setCell ⟨w.heap.size+1,0,none⟩ (.int .i64 X)).setCell ⟨w.heap.size+1,1,none⟩ (.int .i64 Y)):=((bel_trans hbd (bel_trans g2.be g3.be)).setCell (p:=⟨w.heap.size+1,0,none⟩) (Nat.le_succ _) _).setCell (p:=⟨w.heap.size+1,1,none⟩) (Nat.le_succ _) _
  clear d1 d2 d3 d4 f0 f1 z0 z1 hd hc hc1 hc2
  generalize (w3.setCell ⟨w.heap.size+1,0,none⟩ (.int .i64 X)).setCell ⟨w.heap.size+1,1,none⟩ (.int .i64 Y)=wy at *
  go_wp2
  refine bodyPost_ret (v:=.agg #[.int .i64 X,.int .i64 Y]) (by simp [results,Tryz.results187,go_sem,e0,e1]) rfl ⟨rfl,hbe⟩
def twoV (ok:Bool) (v:Value):Value:=if ok then v else .agg #[.int .i64 0,.int .i64 0]
def errA (ok:Bool):Int:=if ok then 0 else 1
theorem hl_last {n:Nat} (w:World) (o:Obj) (h:n=w.heap.size):(w.alloc o).heap[n]?=some o:=by
 subst h
 show (w.heap.push o)[w.heap.size]?=_
 simp
theorem hl6 (w:World) (o0 o1 o2 o3 o4 o5:Obj):((((((w.alloc o0).alloc o1).alloc o2).alloc o3).alloc o4).alloc o5).drew.drew.drew.heap=(((((w.heap.push o0).push o1).push o2).push o3).push o4).push o5:=rfl
theorem hl6_0 {n m:Nat} {w:World} {o0 o1 o2 o3 o4 o5:Obj} (hs:w.heap.size=m) (h:n=m+0):(((((((w.alloc o0).alloc o1).alloc o2).alloc o3).alloc o4).alloc o5).drew.drew.drew).heap[n]?=some o0:=by
 subst hs
 subst h
 rw [hl6]
 rw [Array.getElem?_push,if_neg (by first | (simp; done) | (simp; omega))]
 rw [Array.getElem?_push,if_neg (by first | (simp; done) | (simp; omega))]
 rw [Array.getElem?_push,if_neg (by first | (simp; done) | (simp; omega))]
 rw [Array.getElem?_push,if_neg (by first | (simp; done) | (simp; omega))]
 rw [Array.getElem?_push,if_neg (by first | (simp; done) | (simp; omega))]
 rw [Array.getElem?_push,if_pos (by simp)]
theorem hl6_1 {n m:Nat} {w:World} {o0 o1 o2 o3 o4 o5:Obj} (hs:w.heap.size=m) (h:n=m+1):(((((((w.alloc o0).alloc o1).alloc o2).alloc o3).alloc o4).alloc o5).drew.drew.drew).heap[n]?=some o1:=by
 subst hs
 subst h
 rw [hl6]
 rw [Array.getElem?_push,if_neg (by first | (simp; done) | (simp; omega))]
 rw [Array.getElem?_push,if_neg (by first | (simp; done) | (simp; omega))]
 rw [Array.getElem?_push,if_neg (by first | (simp; done) | (simp; omega))]
 rw [Array.getElem?_push,if_neg (by first | (simp; done) | (simp; omega))]
 rw [Array.getElem?_push,if_pos (by simp)]
theorem hl6_2 {n m:Nat} {w:World} {o0 o1 o2 o3 o4 o5:Obj} (hs:w.heap.size=m) (h:n=m+2):(((((((w.alloc o0).alloc o1).alloc o2).alloc o3).alloc o4).alloc o5).drew.drew.drew).heap[n]?=some o2:=by
 subst hs
 subst h
 rw [hl6]
 rw [Array.getElem?_push,if_neg (by first | (simp; done) | (simp; omega))]
 rw [Array.getElem?_push,if_neg (by first | (simp; done) | (simp; omega))]
 rw [Array.getElem?_push,if_neg (by first | (simp; done) | (simp; omega))]
 rw [Array.getElem?_push,if_pos (by simp)]
theorem hl6_3 {n m:Nat} {w:World} {o0 o1 o2 o3 o4 o5:Obj} (hs:w.heap.size=m) (h:n=m+3):(((((((w.alloc o0).alloc o1).alloc o2).alloc o3).alloc o4).alloc o5).drew.drew.drew).heap[n]?=some o3:=by
 subst hs
 subst h
 rw [hl6]
 rw [Array.getElem?_push,if_neg (by first | (simp; done) | (simp; omega))]
 rw [Array.getElem?_push,if_neg (by first | (simp; done) | (simp; omega))]
 rw [Array.getElem?_push,if_pos (by simp)]
theorem hl6_4 {n m:Nat} {w:World} {o0 o1 o2 o3 o4 o5:Obj} (hs:w.heap.size=m) (h:n=m+4):(((((((w.alloc o0).alloc o1).alloc o2).alloc o3).alloc o4).alloc o5).drew.drew.drew).heap[n]?=some o4:=by
 subst hs
 subst h
 rw [hl6]
 rw [Array.getElem?_push,if_neg (by first | (simp; done) | (simp; omega))]
 rw [Array.getElem?_push,if_pos (by simp)]
theorem hl6_5 {n m:Nat} {w:World} {o0 o1 o2 o3 o4 o5:Obj} (hs:w.heap.size=m) (h:n=m+5):(((((((w.alloc o0).alloc o1).alloc o2).alloc o3).alloc o4).alloc o5).drew.drew.drew).heap[n]?=some o5:=by
 subst hs
 subst h
 rw [hl6]
 rw [Array.getElem?_push,if_pos (by simp)]
theorem hl6_b {w:World} {o0 o1 o2 o3 o4 o5:Obj}:Below w.heap.size w (((((((w.alloc o0).alloc o1).alloc o2).alloc o3).alloc o4).alloc o5).drew.drew.drew) :=
 (bel_trans (bel_alloc2 w o0 o1) (bel_trans (bel_alloc2 _ o2 o3) (bel_alloc2 _ o4 o5))).drew.drew.drew
theorem s4_keep {a b B:Nat} {x0 x1 x2 x3:Value} {W W':World} (h:(a<B∧b<B∧B<=W.heap.size)∧W.cell? ⟨a,0,none⟩=some x0∧W.cell? ⟨a,1,none⟩=some x1∧W.cell? ⟨b,0,none⟩=some x2∧W.cell? ⟨b,1,none⟩=some x3) (hb:Below W.heap.size W W') :
  (a<B∧b<B∧B<=W'.heap.size)∧W'.cell? ⟨a,0,none⟩=some x0∧W'.cell? ⟨a,1,none⟩=some x1∧W'.cell? ⟨b,0,none⟩=some x2∧W'.cell? ⟨b,1,none⟩=some x3 :=
 ⟨⟨h.1.1,h.1.2.1,Nat.le_trans h.1.2.2 hb.size⟩,q_cell h.2.1 hb,q_cell h.2.2.1 hb,q_cell h.2.2.2.1 hb,q_cell h.2.2.2.2 hb⟩
theorem s4_alloc {a b B:Nat} {x0 x1 x2 x3:Value} {W:World} (o:Obj) (h:(a<B∧b<B∧B<=W.heap.size)∧W.cell? ⟨a,0,none⟩=some x0∧W.cell? ⟨a,1,none⟩=some x1∧W.cell? ⟨b,0,none⟩=some x2∧W.cell? ⟨b,1,none⟩=some x3) :
  (a<B∧b<B∧B<=(W.alloc o).heap.size)∧(W.alloc o).cell? ⟨a,0,none⟩=some x0∧(W.alloc o).cell? ⟨a,1,none⟩=some x1∧(W.alloc o).cell? ⟨b,0,none⟩=some x2∧(W.alloc o).cell? ⟨b,1,none⟩=some x3:=s4_keep h (bel_alloc _ _)
theorem s4_drew {a b B:Nat} {x0 x1 x2 x3:Value} {W:World} (h:(a<B∧b<B∧B<=W.heap.size)∧W.cell? ⟨a,0,none⟩=some x0∧W.cell? ⟨a,1,none⟩=some x1∧W.cell? ⟨b,0,none⟩=some x2∧W.cell? ⟨b,1,none⟩=some x3) :
  (a<B∧b<B∧B<=W.drew.heap.size)∧W.drew.cell? ⟨a,0,none⟩=some x0∧W.drew.cell? ⟨a,1,none⟩=some x1∧W.drew.cell? ⟨b,0,none⟩=some x2∧W.drew.cell? ⟨b,1,none⟩=some x3:=h
theorem mulP_dir {p q way:Int} (rp:rng p) (rq:rng q) (hp:pok p=true) (hq:pok q=true) (h:prV p q≠0) (hw:way≠0):mulP way p q=rdP way (prV p q):=by
 unfold mulP
 have n1:¬ (way=0∨(pok p && pok q)=false):=fun k=>by
  rcases k with k | k
  ·exact hw k
  ·rw [hp,hq] at k; cases k
 rw [if_neg n1,if_pos h]
theorem prLo_nn {p q:Int} (hp:nn p) (hq:nn q):nn (prLo p q)∧nn (prHi p q):=by
 unfold prLo prHi
 by_cases h0:rg p=0∨rg q=0
 ·rw [if_pos h0,if_pos h0]; exact ⟨nn0.1,nn0.1⟩
 ·rw [if_neg h0,if_neg h0]
  by_cases hi:rg p=9218868437227405312∨rg q=9218868437227405312
  ·rw [if_pos hi,if_pos hi]; exact ⟨patS_nn (by decide) (by decide),patS_nn (by decide) (by decide)⟩
  ·rw [if_neg hi,if_neg hi]
   have pp:=rg_pat0 hp (fun k=>hi (.inl k))
   have pq:=rg_pat0 hq (fun k=>hi (.inr k))
   have hz:=prV_nz hp.1 hq.1 pp pq (fun k=>h0 (.inl k)) (fun k=>h0 (.inr k))
   exact ⟨⟨(rdP_pat 1 hz).1,(rdP_pat 1 hz).2⟩,⟨(rdP_pat 2 hz).1,(rdP_pat 2 hz).2⟩⟩
theorem spProduct {p q:Int} (hp:nn p) (hq:nn q) (w:World) (H:Hold4 w) :
  Calls Tryz.prog 188 #[.float .f64 (wd p),.float .f64 (wd q)] w fun e w'=>e=.returned (ivl (prLo p q) (prHi p q))∧Below w.heap.size w w':=by
 by_cases h0:rg p=0∨rg q=0
 ·have e1:prLo p q=0:=by unfold prLo; rw [if_pos h0]
  have e2:prHi p q=0:=by unfold prHi; rw [if_pos h0]
  rw [e1,e2]
  exact product_zero hp hq h0 w
 ·have p0:rg p≠0:=fun k=>h0 (.inl k)
  have q0:rg q≠0:=fun k=>h0 (.inr k)
  by_cases hi:rg p=9218868437227405312∨rg q=9218868437227405312
  ·obtain ⟨f1,f2⟩:=pr_infE hp hq p0 q0 hi
   have hn:nn (fprod p q):=by rw [f1]; exact patS_nn (by decide) (by decide)
   have hd:283726776524341248<=rg (fprod p q):=by rw [f1,(patS_parts (by decide) (by decide)).2.1]; decide
   have:=product_be hp hq p0 q0 hn hd w
   rw [f2,f1] at this
   have e1:prLo p q=patS (xsg p q) 9218868437227405312:=by unfold prLo; rw [if_neg h0,if_pos hi]
   have e2:prHi p q=patS (xsg p q) 9218868437227405312:=by unfold prHi; rw [if_neg h0,if_pos hi]
   have b1:beLo (patS (xsg p q) 9218868437227405312) 9221120237041090561=patS (xsg p q) 9218868437227405312:=by unfold beLo; rw [show less 9221120237041090561 0=false by decide]; rfl
   have b2:beHi (patS (xsg p q) 9218868437227405312) 9221120237041090561=patS (xsg p q) 9218868437227405312:=by unfold beHi; rw [show less 9221120237041090561 0=false by decide,show less 0 9221120237041090561=false by decide]; rfl
   rw [b1,b2] at this
   rw [e1,e2]
   exact this
  ·have pp:=rg_pat0 hp (fun k=>hi (.inl k))
   have pq:=rg_pat0 hq (fun k=>hi (.inr k))
   have hz:=prV_nz hp.1 hq.1 pp pq p0 q0
   have e1:prLo p q=rdP 1 (prV p q):=by unfold prLo; rw [if_neg h0,if_neg hi]
   have e2:prHi p q=rdP 2 (prV p q):=by unfold prHi; rw [if_neg h0,if_neg hi]
   have hN:=fprod_fin hp.1 hq.1 pp pq hz
   have hn:nn (fprod p q):=by rw [hN]; exact ⟨(nearP_pat hz).1,(nearP_pat hz).2⟩
   rw [e1,e2]
   by_cases hd:rg (fprod p q)<283726776524341248
   ·have:=product_deep hp hq p0 q0 hn hd w H
    rwa [mulP_dir hp.1 hq.1 pp pq hz (by decide),mulP_dir hp.1 hq.1 pp pq hz (by decide)] at this
   ·have:=product_be hp hq p0 q0 hn (by omega) w
    obtain ⟨b1,b2⟩:=pr_fin hp.1 hq.1 pp pq p0 q0 (by omega)
    rwa [b1,b2] at this
theorem al1 {w W:World} (h:Below w.heap.size w W) (o:Obj):Below w.heap.size w (W.alloc o):=h.alloc h.size o
theorem blk_up {w W:World} (h:Below w.heap.size w W) {g:Nat} {X:Obj} (k:w.heap[g]?=some X):W.heap[g]?=some X:=(h.block _ (Array.getElem?_eq_some_iff.1 k).1).trans k
end Go.Proofs.YtjjihmnbdeeedaaGreatDoor
