/- Parts of the proof. -/
import Derived.Test.YtcklaogdjpbagaaGreatDoorPart7
import Derived.Test.YtcklaogdjpbagaaGreatDoorPart12
import Derived.Maps.AppendAt
import Derived.Laws.AppendOwnNone
import Derived.Test.YtcklaogdjpbagaaGreatDoorPart6
import Derived.Test.YtcklaogdjpbagaaGreatDoorPart9
import Derived.Test.YtcklaogdjpbagaaGreatDoorPart10
import Derived.Deep.RegionHeld3
set_option linter.unusedVariables false
set_option linter.unusedSimpArgs false
namespace Go.Proofs.YtcklaogdjpbagaaGreatDoor
open Go Go.RowKit Go.Proofs.YtcklaogdjpbagaaGreatDoor.M
def DAn (B:Nat) (w:World) (V:Int) (v:Value):Prop:=∃ ng s m e,v=.agg #[.bool ng,s,.int .i64 e]∧Dy V ng m e∧An B w s m
def DFitA (B:Nat) (w:World) (V:Int) (v:Value) (er:Int):Prop:=(Dok V∧er=0∧DAn B w V v)∨(¬ Dok V∧er=2∧v=zeroV)
theorem DAns.dan {w w':World} {V:Int} {v:Value} (h:DAns w w' V v):DAn w.heap.size w' V v:=by
  obtain ⟨ng,s,m,e,h1,h2,h3⟩:=h
  exact ⟨ng,s,m,e,h1,h2,h3.an⟩
theorem An.wr {B:Nat} {w w':World} {v:Value} {V:Int} {g:Nat} (h:An B w v V) (hw:Wr g w w') (hg:g<B):An B w' v V:=by
  obtain ⟨t,d,h1,h2⟩:=h
  exact ⟨t,d,h1.of_block fun g' hg'=>hw.block g' (h1.ge hg').2 (by have:=(h1.ge hg').1; omega),h2⟩
theorem DAn.wr {B:Nat} {w w':World} {v:Value} {V:Int} {g:Nat} (h:DAn B w V v) (hw:Wr g w w') (hg:g<B):DAn B w' V v:=by
  obtain ⟨ng,s,m,e,h1,h2,h3⟩:=h
  exact ⟨ng,s,m,e,h1,h2,h3.wr hw hg⟩
theorem DAn.keeps {B:Nat} {w w':World} {v:Value} {V:Int} (h:DAn B w V v) (k:Below w.heap.size w w'):DAn B w' V v:=by
  obtain ⟨ng,s,m,e,h1,h2,h3⟩:=h
  exact ⟨ng,s,m,e,h1,h2,h3.keeps k⟩
theorem DAn.lower {B B':Nat} {w:World} {v:Value} {V:Int} (h:DAn B w V v) (hB:B'<=B):DAn B' w V v:=by
  obtain ⟨ng,s,m,e,h1,h2,h3⟩:=h
  exact ⟨ng,s,m,e,h1,h2,h3.lower hB⟩
theorem DAn.num {B:Nat} {w:World} {v:Value} {V:Int} (h:DAn B w V v):DNum w v V:=by
  obtain ⟨ng,s,m,e,h1,h2,h3⟩:=h
  exact ⟨ng,s,m,e,h1,h2,h3.num⟩
theorem DFitA.wr {B:Nat} {w w':World} {v:Value} {V er:Int} {g:Nat} (h:DFitA B w V v er) (hw:Wr g w w') (hg:g<B):DFitA B w' V v er:=by
  rcases h with ⟨h1,h2,h3⟩ | h
  . exact .inl ⟨h1,h2,h3.wr hw hg⟩
  . exact .inr h
theorem DFitA.keeps {B:Nat} {w w':World} {v:Value} {V er:Int} (h:DFitA B w V v er) (k:Below w.heap.size w w'):DFitA B w' V v er:=by
  rcases h with ⟨h1,h2,h3⟩ | h
  . exact .inl ⟨h1,h2,h3.keeps k⟩
  . exact .inr h
theorem DFitA.lower {B B':Nat} {w:World} {v:Value} {V er:Int} (h:DFitA B w V v er) (hB:B'<=B):DFitA B' w V v er:=by
  rcases h with ⟨h1,h2,h3⟩ | h
  . exact .inl ⟨h1,h2,h3.lower hB⟩
  . exact .inr h
theorem DFitA.shape {B:Nat} {w:World} {v:Value} {V er:Int} (h:DFitA B w V v er):∃ ng so sn sc e,v=.agg #[.bool ng,.slice so sn sc,.int .i64 e]:=by
  rcases h with ⟨_,_,ng,s,m,e,h1,_,h3⟩ | ⟨_,_,rfl⟩
  . obtain ⟨so,sn,sc,rfl⟩:=h3.shape
    exact ⟨_,_,_,_,_,h1⟩
  . exact ⟨_,_,_,_,_,rfl⟩
theorem DFitA.ge {B:Nat} {w:World} {ng:Bool} {so:Option Addr} {sn sc:Nat} {e V er:Int} (h:DFitA B w V (.agg #[.bool ng,.slice so sn sc,.int .i64 e]) er):Lies (.slice so sn sc) B w.heap.size:=by
  intro g hg
  rcases h with ⟨_,_,ng',s,m,e',h1,_,h3⟩ | ⟨_,_,h1⟩
  . simp only [Value.agg.injEq,Array.mk.injEq,List.cons.injEq,Value.bool.injEq,Value.int.injEq,and_true,true_and] at h1
    obtain ⟨_,h1,_⟩:=h1
    rw [<- h1] at h3
    exact h3.ge hg
  . simp only [zeroV,Value.agg.injEq,Array.mk.injEq,List.cons.injEq,Value.bool.injEq,Value.int.injEq,Value.slice.injEq,and_true,true_and] at h1
    obtain ⟨_,⟨rfl,_,_⟩,_⟩:=h1
    simp [Value.ownBlock] at hg
theorem DAn.parts {B:Nat} {w:World} {ng:Bool} {so:Option Addr} {sn sc:Nat} {e V:Int} (h:DAn B w V (.agg #[.bool ng,.slice so sn sc,.int .i64 e])):∃ m,Dy V ng m e∧An B w (.slice so sn sc) m:=by
  obtain ⟨ng',s,m,e',h1,h2,h3⟩:=h
  simp only [Value.agg.injEq,Array.mk.injEq,List.cons.injEq,Value.bool.injEq,Value.int.injEq,and_true,true_and] at h1
  obtain ⟨rfl,rfl,rfl⟩:=h1
  exact ⟨m,h2,h3⟩
def cells3 (f:Nat->Value):Nat->List Value
  | 0=>[]
  | m+1=>cells3 f m ++ (f m).cells.toList
def Three (v:Value):Prop:=∃ ng so sn sc e,v=.agg #[.bool ng,.slice so sn sc,.int .i64 e]
theorem DAn.three {B:Nat} {w:World} {V:Int} {v:Value} (h:DAn B w V v):Three v:=by
  obtain ⟨ng,s,m,e,rfl,_,hA⟩:=h
  obtain ⟨so,sn,sc,rfl⟩:=hA.shape
  exact ⟨_,_,_,_,_,rfl⟩
theorem cells3_length {f:Nat->Value}:∀ m,(∀ i,i<m->Three (f i))->(cells3 f m).length=m*3
  | 0,_=>rfl
  | m+1,h=>by
    obtain ⟨ng,so,sn,sc,e,he⟩:=h m (by omega)
    rw [cells3,List.length_append,cells3_length m fun i hi=>h i (by omega),he]
    simp [Value.cells]
    omega
theorem cells3_at {f:Nat->Value}:∀ m,(∀ i,i<m->Three (f i))->∀ i j,i<m->j<3->(cells3 f m)[i*3+j]?=(f i).cells[j]?
  | 0,_,i,j,hi,_=>by omega
  | m+1,h,i,j,hi,hj=>by
    have hl:=cells3_length m fun i hi=>h i (by omega)
    rw [cells3]
    by_cases e:i=m
    . subst e
      rw [List.getElem?_append_right (by omega),hl,show i*3+j-i*3=j by omega]
      simp
    . rw [List.getElem?_append_left (by omega)]
      exact cells3_at m (fun i hi=>h i (by omega)) i j (by omega) hj
def OutN (B:Nat) (w:World) (x:Value) (m:Nat) (f:Nat->Value):Prop:=w.ownsRow B 33 3 x m (cells3 f m)
theorem OutN.nil (B:Nat) (w:World) (f:Nat->Value):OutN B w (.slice none 0 0) 0 f:=⟨rfl,.inl ⟨rfl,rfl⟩⟩
theorem OutN.of_block {B:Nat} {w w':World} {x:Value} {m:Nat} {f:Nat->Value} (h:OutN B w x m f) (hb:∀ g,x.ownBlock=some g->w'.heap[g]?=w.heap[g]?):OutN B w' x m f:=by
  refine ⟨h.1,?_⟩
  rcases h.2 with hn | ⟨g,cap,cur,rfl,hbb,hg,rest⟩
  . exact .inl hn
  . exact .inr ⟨g,cap,cur,rfl,hbb,(hb g rfl).trans hg,rest⟩
theorem OutN.typed {B:Nat} {w:World} {x:Value} {m:Nat} {f:Nat->Value} (h:OutN B w x m f) {g:Nat} (hg:x.ownBlock=some g):B<=g∧g<w.heap.size∧∃ cur z,w.heap[g]?=some (.cells cur 33 z):=by
  rcases h.2 with ⟨rfl,_⟩ | ⟨g',cap,cur,rfl,hbb,hg',rest⟩
  . simp [Value.ownBlock] at hg
  . simp only [Value.ownBlock,Option.some.injEq] at hg; subst hg; exact ⟨hbb,(Array.getElem?_eq_some_iff.1 hg').1,cur,_,hg'⟩
theorem OutN.keeps {B:Nat} {w w':World} {x:Value} {m:Nat} {f:Nat->Value} (h:OutN B w x m f) (hb:Below w.heap.size w w'):OutN B w' x m f:=h.of_block fun g hg=>hb.block g (h.typed hg).2.1
theorem OutN.shape {B:Nat} {w:World} {x:Value} {m:Nat} {f:Nat->Value} (h:OutN B w x m f):∃ xo xc,x=.slice xo m xc∧m<=xc∧(0<m->∃ g,xo=some ⟨g,0,none⟩):=by
  rcases h.2 with ⟨rfl,rfl⟩ | ⟨g,cap,cur,rfl,hb,hg,hn,hm,_⟩
  . exact ⟨none,0,rfl,Nat.le_refl _,fun h=>by omega⟩
  . exact ⟨_,cap,rfl,hn,fun _=>⟨g,rfl⟩⟩
theorem OutN.cell {B:Nat} {w:World} {xo:Option Addr} {m xc g:Nat} {f:Nat->Value} (h:OutN B w (.slice xo m xc) m f) (ht:∀ i,i<m->Three (f i)) (hx:xo=some ⟨g,0,none⟩) {i j:Nat} (hi:i<m) (hj:j<3):w.cell? ⟨g,i*3+j,none⟩=(f i).cells[j]?:=by
  rcases h.2 with ⟨_,rfl⟩ | ⟨g',cap,cur,e,hb,hg,hn,hm,hs,ht'⟩
  . omega
  . simp only [Value.slice.injEq] at e
    obtain ⟨rfl,_,rfl⟩:=e
    simp only [Option.some.injEq,Addr.mk.injEq] at hx
    obtain ⟨rfl,_⟩:=hx
    rw [cell_of_row w g' (i*3+j) cur _ _ hg,<- cells3_at m ht i j hi hj,<- ht',List.getElem?_take_of_lt (by omega)]
    simp
theorem DAn.of_blocks {B:Nat} {w w':World} {V:Int} {v:Value} (h:DAn B w V v) (hb:∀ (g:Nat) (cur:Array Value) z,w.heap[g]?=some (.cells cur 3 z)->w'.heap[g]?=w.heap[g]?):DAn B w' V v:=by
  obtain ⟨ng,s,m,e,h1,h2,t,d,hO,h3⟩:=h
  exact ⟨ng,s,m,e,h1,h2,t,d,hO.of_block fun g hg=>by obtain ⟨cur,z,hc⟩:=hO.typed hg; exact hb g cur z hc,h3⟩
structure LS (B:Nat) (w:World) (N:Nat) (X:Nat->Value) (M:Nat->Nat) (F:Nat->Nat->Value):Prop where
  own:∀ j,j<N->OutN B w (X j) (M j) (F j)
  ne:∀ i j,i<N->j<N->i≠j->∀ g,(X i).ownBlock=some g->(X j).ownBlock≠some g
theorem LS.keeps {B:Nat} {w w':World} {N:Nat} {X:Nat->Value} {M:Nat->Nat} {F:Nat->Nat->Value} (h:LS B w N X M F) (hb:Below w.heap.size w w'):LS B w' N X M F:=⟨fun j hj=>(h.own j hj).keeps hb,h.ne⟩
theorem LS.put {B:Nat} {w w':World} {N:Nat} {X:Nat->Value} {M:Nat->Nat} {F:Nat->Nat->Value} (h:LS B w N X M F) (j0:Nat) {row:Option Nat} (hg:w.grownBy w' row) {v':Value} {M':Nat} {F':Nat->Value} (hO:OutN B w' v' M' F') (h1:∀ j,j<N->j≠j0->∀ g,(X j).ownBlock=some g->row≠some g) (h2:∀ j,j<N->j≠j0->∀ g,(X j).ownBlock=some g->v'.ownBlock≠some g) :
    LS B w' N (updV X j0 v') (updV M j0 M') (updV F j0 F'):=by
  refine ⟨fun j hj=>?_,fun i j hi hj hij g hgi=>?_⟩
  . by_cases e:j=j0
    . subst e; rw [updV_same,updV_same,updV_same]; exact hO
    . rw [updV_other _ _ e,updV_other _ _ e,updV_other _ _ e]
      exact (h.own j hj).of_block fun g hgx=>hg.block g ((h.own j hj).typed hgx).2.1 fun e'=>h1 j hj e g hgx e'.symm
  . by_cases e:i=j0
    . subst e
      rw [updV_same] at hgi
      rw [updV_other _ _ (Ne.symm hij)]
      exact fun hgj=>h2 j hj (Ne.symm hij) g hgj hgi
    . rw [updV_other _ _ e] at hgi
      by_cases e2:j=j0
      . subst e2
        rw [updV_same]
        exact h2 i hi e g hgi
      . rw [updV_other _ _ e2]
        exact h.ne i j hi hj hij g hgi
theorem LS.row {B:Nat} {w:World} {N:Nat} {X:Nat->Value} {M:Nat->Nat} {F:Nat->Nat->Value} (h:LS B w N X M F) {j:Nat} (hj:j<N):∀ g,(X j).ownBlock=some g->∃ (cur:Array Value) (z:Nat × Nat),w.heap[g]?=some (Obj.cells cur 33 z):=fun g hg=>(((h.own j hj).typed hg).2.2)
theorem LS.ge {B:Nat} {w:World} {N:Nat} {X:Nat->Value} {M:Nat->Nat} {F:Nat->Nat->Value} (h:LS B w N X M F) {j:Nat} (hj:j<N):∀ g,(X j).ownBlock=some g->B<=g:=fun g hg=>((h.own j hj).typed hg).1
theorem OutN.nums {B:Nat} {w:World} {xo:Option Addr} {m xc:Nat} {f:Nat->Value} {r:Nat->NumR} (h:OutN B w (.slice xo m xc) m f) (hm:m<=100000) (hr:∀ i,i<m->f i=(r i).v∧Row w (r i).ao (r i).n (r i).cap (r i).d):∃ c2,xc=c2∧Nums w xo m xc r:=by
  have ht:∀ i,i<m->Three (f i):=fun i hi=>⟨_,_,_,_,_,(hr i hi).1⟩
  refine ⟨xc,rfl,?_⟩
  obtain ⟨xo',xc',e,hle,hsp⟩:=h.shape
  simp only [Value.slice.injEq] at e
  obtain ⟨rfl,_,rfl⟩:=e
  refine ⟨hle,?_,fun hm0=>?_⟩
  . rcases h.2 with ⟨e,_⟩ | ⟨g,cap,cur,e,hb,hg,hn,hmx,hs,_⟩
    . simp only [Value.slice.injEq] at e; omega
    . simp only [Value.slice.injEq] at e
      obtain ⟨_,_,rfl⟩:=e
      unfold maxLen at hmx
      omega
  . obtain ⟨g,rfl⟩:=hsp hm0
    have hlt:g<w.heap.size:=(h.typed (g:=g) rfl).2.1
    refine ⟨g,0,rfl,hlt,fun i hi=>?_⟩
    obtain ⟨h1,h2⟩:=hr i hi
    have c:=fun j (hj:j<3)=>h.cell ht rfl hi (j:=j) hj
    rw [h1] at c
    rw [Nat.zero_add]
    exact ⟨c 0 (by decide),c 1 (by decide),c 2 (by decide),h2⟩
set_option maxRecDepth 100000 in
set_option maxHeartbeats 4000000 in
theorem rmul3_any (x y:NumR) (w:World) (hx:Row w x.ao x.n x.cap x.d) (hy:Row w y.ao y.n y.cap y.d) (sx:Sane x) (sy:Sane y) :
    Calls Tryz.prog 62 #[x.v,y.v] w fun r w'=>∃ v,r=.returned v∧DAns w w' (mulV x y) v:=by
  have hV:mulV x y=sg (x.ng != y.ng) (val x.d x.n*val y.d y.n)*pw (x.e+y.e):=rfl
  have he:-4194304<=x.e+y.e∧x.e+y.e<=4194304:=by have:=sx.2.2.1; have:=sy.2.2.1; have:=sx.2.2.2; have:=sy.2.2.2; omega
  have hlen:val x.d x.n*val y.d y.n<P 10000:=by
    have a1:=val_lt sx.1.1
    have a2:=val_lt sy.1.1
    have b1:=val_nonneg sx.1.1
    have b2:=val_nonneg sy.1.1
    have c1:val x.d x.n*val y.d y.n<=P x.n*val y.d y.n:=Int.mul_le_mul_of_nonneg_right (by omega) b2
    have c2:P x.n*val y.d y.n<P x.n*P y.n:=Int.mul_lt_mul_of_pos_left a2 (P_pos _)
    rw [<- P_add] at c2
    have:=P_le (show x.n+y.n<=10000 by have:=sx.2.1; have:=sy.2.1; omega)
    omega
  obtain ⟨an,ao,n,ca,a,e⟩:=x
  obtain ⟨bn,bo,m,cb,b,f⟩:=y
  obtain ⟨s1,s2,s3,s4⟩:=sx
  obtain ⟨t1,t2,t3,t4⟩:=sy
  unfold NumR.v
  simp only at *
  rw [hV]
  clear hV
  generalize hVV:sg (an != bn) (val a n*val b m)*pw (e+f)=V
  have HVV:Hid (sg (an != bn) (val a n*val b m)*pw (e+f)=V):=hVV
  clear hVV
  have hw:IntKind.i64.wrap (e+f)=e+f:=by rw [wrap_i64_eq]; omega
  have hb3:=bel_a3 w (.cells #[.bool an,.slice ao n ca,.int .i64 e] 33) (.cells #[.bool bn,.slice bo m cb,.int .i64 f] 33) (.cells #[.bool false,.slice none 0 0,.int .i64 0] 33)
  have g0:=h3_0 w (.cells #[.bool an,.slice ao n ca,.int .i64 e] 33) (.cells #[.bool bn,.slice bo m cb,.int .i64 f] 33) (.cells #[.bool false,.slice none 0 0,.int .i64 0] 33)
  have g1:=h3_1 w (.cells #[.bool an,.slice ao n ca,.int .i64 e] 33) (.cells #[.bool bn,.slice bo m cb,.int .i64 f] 33) (.cells #[.bool false,.slice none 0 0,.int .i64 0] 33)
  have g2:=h3_2 w (.cells #[.bool an,.slice ao n ca,.int .i64 e] 33) (.cells #[.bool bn,.slice bo m cb,.int .i64 f] 33) (.cells #[.bool false,.slice none 0 0,.int .i64 0] 33)
  have hs3:=size3 w (.cells #[.bool an,.slice ao n ca,.int .i64 e] 33) (.cells #[.bool bn,.slice bo m cb,.int .i64 f] 33) (.cells #[.bool false,.slice none 0 0,.int .i64 0] 33)
  go_enter Tryz.func62,Tryz.ntmps62
  go_wp2_with fail
  have HX:=hx.keeps hb3
  have HY:=hy.keeps hb3
  generalize ((w.alloc (.cells #[.bool an,.slice ao n ca,.int .i64 e] 33)).alloc (.cells #[.bool bn,.slice bo m cb,.int .i64 f] 33)).alloc (.cells #[.bool false,.slice none 0 0,.int .i64 0] 33)=wx at hb3 g0 g1 g2 hs3 HX HY ⊢
  have k0:=blkC g0 0 rfl
  have k1:=blkC g0 1 rfl
  have k2:=blkC g0 2 rfl
  have j0:=blkC g1 0 rfl
  have j1:=blkC g1 1 rfl
  have j2:=blkC g1 2 rfl
  have hb1:=bel_refl wx
  have C1:∀ W,Below wx.heap.size wx W->Calls Tryz.prog 93 #[.slice ao n ca,.slice bo m cb] W fun r w'=>∃ so sn sc,r=.returned (.slice so sn sc)∧Ans W w' (val a n*val b m) (.slice so sn sc)∧Below W.heap.size W w':=fun W h=>by
    refine (rmul_any ao bo n m ca cb a b W (HX.keeps h) (HY.keeps h) s1 t1 (by omega) (by omega)).mono ?_
    rintro r w' ⟨v,rfl,hA⟩
    obtain ⟨so,sn,sc,rfl⟩:=hA.num.shape
    exact ⟨so,sn,sc,rfl,hA,hA.below⟩
  have C2:∀ W so sn sc,Num W (.slice so sn sc) (val a n*val b m)->Calls Tryz.prog 92 #[.bool (!(an == bn)),.slice so sn sc,.int .i64 (e+f)] W fun r w'=>∃ ng s1 s2 s3 e1,r=.returned (.agg #[.bool ng,.slice s1 s2 s3,.int .i64 e1])∧DAns W w' V (.agg #[.bool ng,.slice s1 s2 s3,.int .i64 e1])∧Below W.heap.size W w':=fun W so sn sc hN=>by
    have hsn:sn<=10000:=hN.len hlen
    obtain ⟨ao',n',ca',d,e1,hR,h2,h3⟩:=hN
    simp only [Value.slice.injEq] at e1
    obtain ⟨rfl,rfl,rfl⟩:=e1
    refine (rnorm_any (an != bn) _ _ _ d (e+f) W hR h2.1 (by omega) (by omega) (by omega)).mono ?_
    rw [h3,HVV.out]
    rintro r w' ⟨v,rfl,hD⟩
    obtain ⟨ng,s,m',e1,rfl,_,hA⟩:=id hD
    obtain ⟨q1,q2,q3,rfl⟩:=hA.num.shape
    exact ⟨ng,q1,q2,q3,e1,rfl,hD,hD.below⟩
  clear hlen
  go_region_held3 (fun W=>(W.cell? ⟨w.heap.size,0,none⟩=some (.bool an)∧W.cell? ⟨w.heap.size,1,none⟩=some (.slice ao n ca)∧W.cell? ⟨w.heap.size,2,none⟩=some (.int .i64 e))∧W.cell? ⟨w.heap.size+1,0,none⟩=some (.bool bn)∧W.cell? ⟨w.heap.size+1,1,none⟩=some (.slice bo m cb)∧W.cell? ⟨w.heap.size+1,2,none⟩=some (.int .i64 f))
    (first | assumption | exact ⟨⟨k0,k1,k2⟩,j0,j1,j2⟩ | exact keep66 (W:=wx.drew) hbv1 ⟨⟨k0,k1,k2⟩,j0,j1,j2⟩ | exact keep66 hbv2 (keep66 (W:=wx.drew) hbv1 ⟨⟨k0,k1,k2⟩,j0,j1,j2⟩) | exact ⟨keepS (keep66 hbv2 (keep66 (W:=wx.drew) hbv1 ⟨⟨k0,k1,k2⟩,j0,j1,j2⟩)).1 (by omega) _ _ _,keepS (keep66 hbv2 (keep66 (W:=wx.drew) hbv1 ⟨⟨k0,k1,k2⟩,j0,j1,j2⟩)).2 (by omega) _ _ _⟩)
    (first | (go_at_call 92; refine (C2 _ _ _ _ hv1.num).mono ?_; rintro y w4 ⟨ng4,o4,n4,c4,e4,rfl,hv2,hbv2⟩; have q0:=((bel_trans hbv1 hbv2).block (w.heap.size+2) (by show _<wx.heap.size; omega)).trans g2; have x0:=blkC q0 0 rfl; have x1:=blkC q0 1 rfl; have x2:=blkC q0 2 rfl; have z0:=blkF q0 0; have z1:=blkF q0 1; have z2:=blkF q0 2) | (go_at_call 93; refine (C1 _ hb1.drew).mono ?_; rintro y w3 ⟨so,sn,sc,rfl,hv1,hbv1⟩))
  all_goals go_wp2
  all_goals
    refine bodyPost_ret (v:=.agg #[.bool ng4,.slice o4 n4 c4,.int .i64 e4]) (by simp [results,Tryz.results62,go_sem,x0,x1,x2]) rfl ⟨_,rfl,?_⟩
    exact dans_res3 (g:=w.heap.size+2) hv2 (bel_trans hb3 (bel_trans hb1.drew hbv1)) (by omega) (Nat.lt_of_lt_of_le (show _<wx.heap.size by omega) hbv1.size) _ _ _
theorem bd_form {K:Nat} {A:Int} {ng:Bool} {m e:Int} (h:Bd K A) (hy:Dy A ng m e) (hK:K<=4194304) (h0:0<m):-(K:Int)<=e∧e<=K∧m*2^(e+K).toNat<2^(2*K):=by
  obtain ⟨c,hc,c1,c2⟩:=h
  have key:∀ (b:Bool) (C:Int),0<C->C<2^(2*K)->A=sg b C*pw (-(K:Int))->-(K:Int)<=e∧e<=K∧m*2^(e+K).toNat<2^(2*K):=fun b C hC hlt hA=>by
    obtain ⟨l,hl⟩:=isLow_ex hC
    have hy2:=Dy.of b hl hC (show -4194304 <= -(K:Int) by omega)
    rw [<- hA] at hy2
    obtain ⟨_,rfl,rfl⟩:=hy.unique hy2
    obtain ⟨d1,d2,d3⟩:=isLow_odd hl hC
    have hl2:l<2*K:=by
      have h3:(1:Int)*2^l<=C/2^l*2^l:=Int.mul_le_mul_of_nonneg_right (by omega) (Int.le_of_lt (two_pos l))
      rw [d3] at h3
      exact two_lt_iff (by omega)
    refine ⟨by omega,by omega,?_⟩
    rw [show (-(K:Int)+l+K).toNat=l by omega,d3]
    exact hlt
  by_cases hz:c=0
  . exfalso
    rw [hz,Int.zero_mul] at hc
    have:=hy.eq_zero.1 hc
    omega
  . by_cases hp:0<c
    . exact key false c hp c2 (by simpa [sg] using hc)
    . exact key true (-c) (by omega) (by omega) (by simpa [sg] using hc)
theorem bd_shift {K:Nat} {A:Int} {ng:Bool} {m e low:Int} (h:Bd K A) (hy:Dy A ng m e) (hK:K<=4194304) (h0:0<m) (h1:-(K:Int)<=low) (h2:low<=e):m*2^(e-low).toNat<2^(2*K):=by
  obtain ⟨a,b,c⟩:=bd_form h hy hK h0
  have h3:(2:Int)^(e-low).toNat<=2^(e+K).toNat:=two_le (by omega)
  have h4:m*2^(e-low).toNat<=m*2^(e+K).toNat:=Int.mul_le_mul_of_nonneg_left h3 (by omega)
  omega
theorem bd_self {K:Nat} {A:Int} {ng:Bool} {m e:Int} (h:Bd K A) (hy:Dy A ng m e) (hK:K<=4194304) (h0:0<m):m<2^(2*K):=by
  obtain ⟨a,b,c⟩:=bd_form h hy hK h0
  have h3:(1:Int)<=2^(e+K).toNat:=two_pos _
  have h4:m*1<=m*2^(e+K).toNat:=Int.mul_le_mul_of_nonneg_left h3 (by omega)
  omega
theorem bd_digits {K:Nat} {d:Nat->Int} {n:Nat} (hK:K<=560000) (hN:Nrm d n) (h:val d n<2^(2*K)):n<=37400:=by
  by_cases h1:n<=37400
  . exact h1
  . exfalso
    have a:=val_top hN.1 (by omega) hN.2
    have b:=P_le (show 37400<=n-1 by omega)
    have c:(2:Int)^(2*K)<=2^(30*37400):=two_le (by omega)
    rw [<- P_two] at c
    generalize P 37400=Y at *
    omega
def RSum (w w':World) (A B:Int) (x y v:Value):Prop:=Below w.heap.size w w'∧(DAns w w' (A+B) v∨(A=0∧v=y)∨(B=0∧v=x))
theorem RSum.num {w w':World} {A B:Int} {x y v:Value} (h:RSum w w' A B x y v) (hx:DNum w x A) (hy:DNum w y B):DNum w' v (A+B):=by
  rcases h.2 with h1 | ⟨rfl,rfl⟩ | ⟨rfl,rfl⟩
  . exact h1.num
  . rw [Int.zero_add]; exact hy.keeps h.1
  . rw [Int.add_zero]; exact hx.keeps h.1
set_option maxRecDepth 100000 in
set_option maxHeartbeats 2000000 in
theorem radd3_left (x y:NumR) (w:World) (hm:x.n<=9223372036854775807) (hm':y.n<=9223372036854775807) (h:x.n=0) :
    Calls Tryz.prog 63 #[x.v,y.v] w fun r w'=>r=.returned y.v∧Below w.heap.size w w':=by
  obtain ⟨an,ao,n,ca,a,e⟩:=x
  obtain ⟨bn,bo,m,cb,b,f⟩:=y
  unfold NumR.v at *
  simp only at *
  subst h
  go_enter Tryz.func63,Tryz.ntmps63
  go_wp2
  refine bodyPost_ret (v:=.agg #[.bool bn,.slice bo m cb,.int .i64 f]) (by simp [results,Tryz.results63,go_sem]) rfl ⟨rfl,?_⟩
  exact bel_a3 _ _ _ _
set_option maxRecDepth 100000 in
set_option maxHeartbeats 2000000 in
theorem radd3_right (x y:NumR) (w:World) (hm:x.n<=9223372036854775807) (hm':y.n<=9223372036854775807) (h0:0<x.n) (h:y.n=0) :
    Calls Tryz.prog 63 #[x.v,y.v] w fun r w'=>r=.returned x.v∧Below w.heap.size w w':=by
  obtain ⟨an,ao,n,ca,a,e⟩:=x
  obtain ⟨bn,bo,m,cb,b,f⟩:=y
  unfold NumR.v at *
  simp only at *
  have hn0:((n:Int) == 0)=false:=by simp; omega
  subst h
  go_enter Tryz.func63,Tryz.ntmps63
  go_wp2
  refine bodyPost_ret (v:=.agg #[.bool an,.slice ao n ca,.int .i64 e]) (by simp [results,Tryz.results63,go_sem]) rfl ⟨rfl,?_⟩
  exact bel_a3 _ _ _ _
set_option maxRecDepth 100000 in
set_option maxHeartbeats 2000000 in
theorem radd3_walk (x y:NumR) (w:World) (hx:Row w x.ao x.n x.cap x.d) (hy:Row w y.ao y.n y.cap y.d) (n0:0<x.n) (m0:0<y.n) (low A B V:Int)
    (hlow:low=min x.e y.e) (hl0:-600000<=low) (he:x.e<=600000) (hf:y.e<=600000)
    (H1:∀ W,Below w.heap.size w W->Calls Tryz.prog 94 #[.slice x.ao x.n x.cap,.int .i64 (x.e-low)] W fun r w'=>∃ so sn sc,r=.returned (.slice so sn sc)∧Num w' (.slice so sn sc) A∧Below W.heap.size W w')
    (H2:∀ W,Below w.heap.size w W->Calls Tryz.prog 94 #[.slice y.ao y.n y.cap,.int .i64 (y.e-low)] W fun r w'=>∃ so sn sc,r=.returned (.slice so sn sc)∧Num w' (.slice so sn sc) B∧Below W.heap.size W w')
    (H3:∀ W p q,Num W p A->Num W q B->Calls Tryz.prog 95 #[p,q] W fun r w'=>∃ so sn sc,r=.returned (.slice so sn sc)∧Num w' (.slice so sn sc) (A+B)∧Below W.heap.size W w')
    (H4:∀ W p q,Num W p A->Num W q B->Calls Tryz.prog 96 #[p,q] W fun r w'=>r=.returned (.int .i64 (ord A B))∧Below W.heap.size W w')
    (H5:∀ W p q,Num W p A->Num W q B->B<=A->Calls Tryz.prog 97 #[p,q] W fun r w'=>∃ so sn sc,r=.returned (.slice so sn sc)∧Num w' (.slice so sn sc) (A-B)∧Below W.heap.size W w')
    (H6:∀ W p q,Num W p A->Num W q B->A<=B->Calls Tryz.prog 97 #[q,p] W fun r w'=>∃ so sn sc,r=.returned (.slice so sn sc)∧Num w' (.slice so sn sc) (B-A)∧Below W.heap.size W w')
    (H7:∀ W ng s M,Num W s M->((x.ng=y.ng∧ng=x.ng∧M=A+B)∨(x.ng≠y.ng∧B<=A∧ng=x.ng∧M=A-B)∨(x.ng≠y.ng∧A<B∧ng=y.ng∧M=B-A))->Calls Tryz.prog 92 #[.bool ng,s,.int .i64 low] W fun r w'=>∃ ng s1 s2 s3 e1,r=.returned (.agg #[.bool ng,.slice s1 s2 s3,.int .i64 e1])∧DAns W w' V (.agg #[.bool ng,.slice s1 s2 s3,.int .i64 e1])∧Below W.heap.size W w') :
    Calls Tryz.prog 63 #[x.v,y.v] w fun r w'=>∃ v,r=.returned v∧DAns w w' V v:=by
  have hmin:∀ (ts:Array TypeId) (t:TypeId) (w:World),(Builtin.min_ ts t #[.int .i64 x.e,.int .i64 y.e]).run Tryz.prog w=.ok (.int .i64 low) w:=fun ts t w=>by rw [run_min_int2,hlow]; congr 2; omega
  have hl1:low<=x.e:=by omega
  have hl2:low<=y.e:=by omega
  have HH7:Hid _:=H7
  have hm:=hx.max
  have hm':=hy.max
  clear hlow H7
  obtain ⟨an,ao,n,ca,a,e⟩:=x
  obtain ⟨bn,bo,m,cb,b,f⟩:=y
  unfold NumR.v
  simp only at *
  have hn0:((n:Int) == 0)=false:=by simp; omega
  have hm0:((m:Int) == 0)=false:=by simp; omega
  have hb3:Below w.heap.size w (((w.alloc (.cells #[.bool an,.slice ao n ca,.int .i64 e] 33)).alloc (.cells #[.bool bn,.slice bo m cb,.int .i64 f] 33)).alloc (.cells #[.bool false,.slice none 0 0,.int .i64 0] 33)):=bel_a3 _ _ _ _
  have g0:=h3_0 w (.cells #[.bool an,.slice ao n ca,.int .i64 e] 33) (.cells #[.bool bn,.slice bo m cb,.int .i64 f] 33) (.cells #[.bool false,.slice none 0 0,.int .i64 0] 33)
  have g1:=h3_1 w (.cells #[.bool an,.slice ao n ca,.int .i64 e] 33) (.cells #[.bool bn,.slice bo m cb,.int .i64 f] 33) (.cells #[.bool false,.slice none 0 0,.int .i64 0] 33)
  have g2:=h3_2 w (.cells #[.bool an,.slice ao n ca,.int .i64 e] 33) (.cells #[.bool bn,.slice bo m cb,.int .i64 f] 33) (.cells #[.bool false,.slice none 0 0,.int .i64 0] 33)
  go_enter Tryz.func63,Tryz.ntmps63
  go_wp2_with fail
  generalize ((w.alloc (.cells #[.bool an,.slice ao n ca,.int .i64 e] 33)).alloc (.cells #[.bool bn,.slice bo m cb,.int .i64 f] 33)).alloc (.cells #[.bool false,.slice none 0 0,.int .i64 0] 33)=wx at hb3 g0 g1 g2 ⊢
  refine (H1 _ hb3).mono ?_
  rintro r w1 ⟨po,pn,pc,rfl,hP,hb1⟩
  have hbx1:=bel_trans hb3 hb1
  replace g0:=(hb1.block _ (Array.getElem?_eq_some_iff.1 g0).1).trans g0
  replace g1:=(hb1.block _ (Array.getElem?_eq_some_iff.1 g1).1).trans g1
  replace g2:=(hb1.block _ (Array.getElem?_eq_some_iff.1 g2).1).trans g2
  have j1:=blkC g1 1 rfl
  have j2:=blkC g1 2 rfl
  go_wp2_with fail
  clear j1 j2
  refine (H2 _ hbx1).mono ?_
  rintro r w2 ⟨qo,qn,qc,rfl,hQ,hb2⟩
  have hbx2:=bel_trans hbx1 hb2
  replace hP:=hP.keeps hb2
  replace g0:=(hb2.block _ (Array.getElem?_eq_some_iff.1 g0).1).trans g0
  replace g1:=(hb2.block _ (Array.getElem?_eq_some_iff.1 g1).1).trans g1
  replace g2:=(hb2.block _ (Array.getElem?_eq_some_iff.1 g2).1).trans g2
  have k0:=blkC g0 0 rfl
  have k1:=blkC g0 1 rfl
  have k2:=blkC g0 2 rfl
  have j0:=blkC g1 0 rfl
  have j1:=blkC g1 1 rfl
  have j2:=blkC g1 2 rfl
  by_cases hng:an=bn
  . subst hng
    have C1:∀ W,Below w2.heap.size w2 W->Calls Tryz.prog 95 #[.slice po pn pc,.slice qo qn qc] W fun r w'=>∃ so sn sc,r=.returned (.slice so sn sc)∧Num w' (.slice so sn sc) (A+B)∧Below W.heap.size W w':=fun W h=>H3 W _ _ (hP.keeps h) (hQ.keeps h)
    have C2:∀ W so sn sc,Num W (.slice so sn sc) (A+B)->Calls Tryz.prog 92 #[.bool an,.slice so sn sc,.int .i64 low] W fun r w'=>∃ ng s1 s2 s3 e1,r=.returned (.agg #[.bool ng,.slice s1 s2 s3,.int .i64 e1])∧DAns W w' V (.agg #[.bool ng,.slice s1 s2 s3,.int .i64 e1])∧Below W.heap.size W w':=fun W so sn sc hN=>HH7.out W an _ _ hN (.inl ⟨rfl,rfl,rfl⟩)
    clear H1 H2 H3 H4 H5 H6 HH7
    have hs3:=(Array.getElem?_eq_some_iff.1 g2).1
    go_wp2_with fail
    have hb1:=bel_refl w2
    go_region_held3 (fun W=>(W.cell? ⟨w.heap.size,0,none⟩=some (.bool an)∧W.cell? ⟨w.heap.size,1,none⟩=some (.slice ao n ca)∧W.cell? ⟨w.heap.size,2,none⟩=some (.int .i64 e))∧W.cell? ⟨w.heap.size+1,0,none⟩=some (.bool an)∧W.cell? ⟨w.heap.size+1,1,none⟩=some (.slice bo m cb)∧W.cell? ⟨w.heap.size+1,2,none⟩=some (.int .i64 f))
      (first | assumption | exact ⟨⟨k0,k1,k2⟩,j0,j1,j2⟩ | exact keep66 (W:=w2.drew) hbv1 ⟨⟨k0,k1,k2⟩,j0,j1,j2⟩ | exact keep66 hbv2 (keep66 (W:=w2.drew) hbv1 ⟨⟨k0,k1,k2⟩,j0,j1,j2⟩) | exact ⟨keepS (keep66 hbv2 (keep66 (W:=w2.drew) hbv1 ⟨⟨k0,k1,k2⟩,j0,j1,j2⟩)).1 (by omega) _ _ _,keepS (keep66 hbv2 (keep66 (W:=w2.drew) hbv1 ⟨⟨k0,k1,k2⟩,j0,j1,j2⟩)).2 (by omega) _ _ _⟩)
      (first | (go_at_call 92; refine (C2 _ _ _ _ hv1).mono ?_; rintro y w4 ⟨ng4,o4,n4,c4,e4,rfl,hv2,hbv2⟩; have q0:=((bel_trans hbv1 hbv2).block (w.heap.size+2) (by show _<w2.heap.size; omega)).trans g2; have x0:=blkC q0 0 rfl; have x1:=blkC q0 1 rfl; have x2:=blkC q0 2 rfl; have z0:=blkF q0 0; have z1:=blkF q0 1; have z2:=blkF q0 2) | (go_at_call 95; refine (C1 _ hb1.drew).mono ?_; rintro y w3 ⟨so,sn,sc,rfl,hv1,hbv1⟩))
    all_goals go_wp2
    all_goals
      refine bodyPost_ret (v:=.agg #[.bool ng4,.slice o4 n4 c4,.int .i64 e4]) (by simp [results,Tryz.results63,go_sem,x0,x1,x2]) rfl ⟨_,rfl,?_⟩
      exact dans_res3 (g:=w.heap.size+2) hv2 (bel_trans hbx2 (bel_trans hb1.drew hbv1)) (by omega) (Nat.lt_of_lt_of_le (show _<w2.heap.size by omega) hbv1.size) _ _ _
  . have hng':(an == bn)=false:=by simp [hng]
    go_wp2_with fail
    refine (H4 _ _ _ hP hQ).mono ?_
    rintro r w3 ⟨rfl,hb3'⟩
    have hbx3:=bel_trans hbx2 hb3'
    replace hP:=hP.keeps hb3'
    replace hQ:=hQ.keeps hb3'
    replace g0:=(hb3'.block _ (Array.getElem?_eq_some_iff.1 g0).1).trans g0
    replace g1:=(hb3'.block _ (Array.getElem?_eq_some_iff.1 g1).1).trans g1
    replace g2:=(hb3'.block _ (Array.getElem?_eq_some_iff.1 g2).1).trans g2
    replace k0:=blkC g0 0 rfl
    replace k1:=blkC g0 1 rfl
    replace k2:=blkC g0 2 rfl
    replace j0:=blkC g1 0 rfl
    replace j1:=blkC g1 1 rfl
    replace j2:=blkC g1 2 rfl
    have hs3:=(Array.getElem?_eq_some_iff.1 g2).1
    by_cases hAB:B<=A
    . have ho:(0:Int)<=ord A B:=by
        rcases Int.lt_trichotomy A B with h | h | h
        . omega
        . rw [ord_eq h]; decide
        . rw [ord_gt h]; decide
      have C1:∀ W,Below w3.heap.size w3 W->Calls Tryz.prog 97 #[.slice po pn pc,.slice qo qn qc] W fun r w'=>∃ so sn sc,r=.returned (.slice so sn sc)∧Num w' (.slice so sn sc) (A-B)∧Below W.heap.size W w':=fun W h=>H5 W _ _ (hP.keeps h) (hQ.keeps h) hAB
      have C2:∀ W so sn sc,Num W (.slice so sn sc) (A-B)->Calls Tryz.prog 92 #[.bool an,.slice so sn sc,.int .i64 low] W fun r w'=>∃ ng s1 s2 s3 e1,r=.returned (.agg #[.bool ng,.slice s1 s2 s3,.int .i64 e1])∧DAns W w' V (.agg #[.bool ng,.slice s1 s2 s3,.int .i64 e1])∧Below W.heap.size W w':=fun W so sn sc hN=>HH7.out W an _ _ hN (.inr (.inl ⟨hng,hAB,rfl,rfl⟩))
      generalize ord A B=oAB at ho ⊢
      clear H1 H2 H3 H4 H5 H6 HH7 hAB
      go_wp2_with fail
      have hb1:=bel_refl w3
      go_region_held3 (fun W=>(W.cell? ⟨w.heap.size,0,none⟩=some (.bool an)∧W.cell? ⟨w.heap.size,1,none⟩=some (.slice ao n ca)∧W.cell? ⟨w.heap.size,2,none⟩=some (.int .i64 e))∧W.cell? ⟨w.heap.size+1,0,none⟩=some (.bool bn)∧W.cell? ⟨w.heap.size+1,1,none⟩=some (.slice bo m cb)∧W.cell? ⟨w.heap.size+1,2,none⟩=some (.int .i64 f))
        (first | assumption | exact ⟨⟨k0,k1,k2⟩,j0,j1,j2⟩ | exact keep66 (W:=w3.drew) hbv1 ⟨⟨k0,k1,k2⟩,j0,j1,j2⟩ | exact keep66 hbv2 (keep66 (W:=w3.drew) hbv1 ⟨⟨k0,k1,k2⟩,j0,j1,j2⟩) | exact ⟨keepS (keep66 hbv2 (keep66 (W:=w3.drew) hbv1 ⟨⟨k0,k1,k2⟩,j0,j1,j2⟩)).1 (by omega) _ _ _,keepS (keep66 hbv2 (keep66 (W:=w3.drew) hbv1 ⟨⟨k0,k1,k2⟩,j0,j1,j2⟩)).2 (by omega) _ _ _⟩)
        (first | (go_at_call 92; refine (C2 _ _ _ _ hv1).mono ?_; rintro y w4 ⟨ng4,o4,n4,c4,e4,rfl,hv2,hbv2⟩; have q0:=((bel_trans hbv1 hbv2).block (w.heap.size+2) (by show _<w3.heap.size; omega)).trans g2; have x0:=blkC q0 0 rfl; have x1:=blkC q0 1 rfl; have x2:=blkC q0 2 rfl; have z0:=blkF q0 0; have z1:=blkF q0 1; have z2:=blkF q0 2) | (go_at_call 97; refine (C1 _ hb1.drew).mono ?_; rintro y w3' ⟨so,sn,sc,rfl,hv1,hbv1⟩))
      all_goals go_wp2
      all_goals
        refine bodyPost_ret (v:=.agg #[.bool ng4,.slice o4 n4 c4,.int .i64 e4]) (by simp [results,Tryz.results63,go_sem,x0,x1,x2]) rfl ⟨_,rfl,?_⟩
        exact dans_res3 (g:=w.heap.size+2) hv2 (bel_trans hbx3 (bel_trans hb1.drew hbv1)) (by omega) (Nat.lt_of_lt_of_le (show _<w3.heap.size by omega) hbv1.size) _ _ _
    . have ho:ord A B<(0:Int):=by rw [ord_lt (by omega)]; decide
      have C1:∀ W,Below w3.heap.size w3 W->Calls Tryz.prog 97 #[.slice qo qn qc,.slice po pn pc] W fun r w'=>∃ so sn sc,r=.returned (.slice so sn sc)∧Num w' (.slice so sn sc) (B-A)∧Below W.heap.size W w':=fun W h=>H6 W _ _ (hP.keeps h) (hQ.keeps h) (by omega)
      have C2:∀ W so sn sc,Num W (.slice so sn sc) (B-A)->Calls Tryz.prog 92 #[.bool bn,.slice so sn sc,.int .i64 low] W fun r w'=>∃ ng s1 s2 s3 e1,r=.returned (.agg #[.bool ng,.slice s1 s2 s3,.int .i64 e1])∧DAns W w' V (.agg #[.bool ng,.slice s1 s2 s3,.int .i64 e1])∧Below W.heap.size W w':=fun W so sn sc hN=>HH7.out W bn _ _ hN (.inr (.inr ⟨hng,by omega,rfl,rfl⟩))
      generalize ord A B=oAB at ho ⊢
      clear H1 H2 H3 H4 H5 H6 HH7 hAB
      go_wp2_with fail
      have hb1:=bel_refl w3
      go_region_held3 (fun W=>(W.cell? ⟨w.heap.size,0,none⟩=some (.bool an)∧W.cell? ⟨w.heap.size,1,none⟩=some (.slice ao n ca)∧W.cell? ⟨w.heap.size,2,none⟩=some (.int .i64 e))∧W.cell? ⟨w.heap.size+1,0,none⟩=some (.bool bn)∧W.cell? ⟨w.heap.size+1,1,none⟩=some (.slice bo m cb)∧W.cell? ⟨w.heap.size+1,2,none⟩=some (.int .i64 f))
        (first | assumption | exact ⟨⟨k0,k1,k2⟩,j0,j1,j2⟩ | exact keep66 (W:=w3.drew) hbv1 ⟨⟨k0,k1,k2⟩,j0,j1,j2⟩ | exact keep66 hbv2 (keep66 (W:=w3.drew) hbv1 ⟨⟨k0,k1,k2⟩,j0,j1,j2⟩) | exact ⟨keepS (keep66 hbv2 (keep66 (W:=w3.drew) hbv1 ⟨⟨k0,k1,k2⟩,j0,j1,j2⟩)).1 (by omega) _ _ _,keepS (keep66 hbv2 (keep66 (W:=w3.drew) hbv1 ⟨⟨k0,k1,k2⟩,j0,j1,j2⟩)).2 (by omega) _ _ _⟩)
        (first | (go_at_call 92; refine (C2 _ _ _ _ hv1).mono ?_; rintro y w4 ⟨ng4,o4,n4,c4,e4,rfl,hv2,hbv2⟩; have q0:=((bel_trans hbv1 hbv2).block (w.heap.size+2) (by show _<w3.heap.size; omega)).trans g2; have x0:=blkC q0 0 rfl; have x1:=blkC q0 1 rfl; have x2:=blkC q0 2 rfl; have z0:=blkF q0 0; have z1:=blkF q0 1; have z2:=blkF q0 2) | (go_at_call 97; refine (C1 _ hb1.drew).mono ?_; rintro y w3' ⟨so,sn,sc,rfl,hv1,hbv1⟩))
      all_goals go_wp2
      all_goals
        refine bodyPost_ret (v:=.agg #[.bool ng4,.slice o4 n4 c4,.int .i64 e4]) (by simp [results,Tryz.results63,go_sem,x0,x1,x2]) rfl ⟨_,rfl,?_⟩
        exact dans_res3 (g:=w.heap.size+2) hv2 (bel_trans hbx3 (bel_trans hb1.drew hbv1)) (by omega) (Nat.lt_of_lt_of_le (show _<w3.heap.size by omega) hbv1.size) _ _ _
theorem rsum_V {an bn:Bool} {A B low:Int} {ng:Bool} {M:Int} (h:(an=bn∧ng=an∧M=A+B)∨(an≠bn∧B<=A∧ng=an∧M=A-B)∨(an≠bn∧A<B∧ng=bn∧M=B-A)) :
    sg ng M*pw low=sg an A*pw low+sg bn B*pw low:=by
  rw [<- Int.add_mul]
  congr 1
  rcases h with ⟨rfl,rfl,rfl⟩ | ⟨h1,h2,rfl,rfl⟩ | ⟨h1,h2,rfl,rfl⟩
  . cases ng <;> simp [sg] <;> omega
  . cases ng <;> cases bn <;> simp [sg] at * <;> omega
  . cases an <;> cases ng <;> simp [sg] at * <;> omega
theorem Num.digits {w:World} {so:Option Addr} {sn sc:Nat} {M:Int} (h:Num w (.slice so sn sc) M) {K:Nat} (hK:K<=560000) (hM:M<2^(2*K)+2^(2*K)):∃ d,Row w so sn sc d∧Nrm d sn∧val d sn=M∧sn<=37500:=by
  obtain ⟨ao,n,ca,d,e,hR,hN,hv⟩:=h
  simp only [Value.slice.injEq] at e
  obtain ⟨rfl,rfl,rfl⟩:=e
  refine ⟨d,hR,hN,hv,?_⟩
  by_cases h1:sn<=37500
  . exact h1
  . exfalso
    have a:=val_top hN.1 (by omega) hN.2
    have b:=P_le (show 37500<=sn-1 by omega)
    have c:(2:Int)^(2*K)<=2^(30*37400):=two_le (by omega)
    have c2:(2:Int)^(30*37400)*2<=2^(30*37500):=by
      rw [<- Int.pow_succ]
      exact two_le (by omega)
    rw [<- P_two 37500] at c2
    generalize P 37500=Y at *
    generalize (2:Int)^(30*37400)=Z at *
    omega
theorem radd3_any (x y:NumR) (w:World) (hx:Row w x.ao x.n x.cap x.d) (hy:Row w y.ao y.n y.cap y.d) (dx:Dy x.V x.ng (val x.d x.n) x.e) (nx:Nrm x.d x.n) (dy:Dy y.V y.ng (val y.d y.n) y.e) (ny:Nrm y.d y.n) {K:Nat} (hK:K<=560000) (bx:Bd K x.V) (bY:Bd K y.V) :
    Calls Tryz.prog 63 #[x.v,y.v] w fun r w'=>∃ v,r=.returned v∧RSum w w' x.V y.V x.v y.v v:=by
  by_cases h0:x.n=0
  . refine (radd3_left x y w (Nat.le_trans hx.le hx.max) (Nat.le_trans hy.le hy.max) h0).mono ?_
    rintro r w' ⟨rfl,hb⟩
    exact ⟨_,rfl,hb,.inr (.inl ⟨dx.eq_zero.2 (by rw [h0]; rfl),rfl⟩)⟩
  . by_cases h1:y.n=0
    . refine (radd3_right x y w (Nat.le_trans hx.le hx.max) (Nat.le_trans hy.le hy.max) (by omega) h1).mono ?_
      rintro r w' ⟨rfl,hb⟩
      exact ⟨_,rfl,hb,.inr (.inr ⟨dy.eq_zero.2 (by rw [h1]; rfl),rfl⟩)⟩
    . have px:=val_pos nx (show 0<x.n by omega)
      have py:=val_pos ny (show 0<y.n by omega)
      obtain ⟨a1,a2,_⟩:=bd_form bx dx (by omega) px
      obtain ⟨b1,b2,_⟩:=bd_form bY dy (by omega) py
      obtain ⟨low,hlow⟩:∃ low:Int,low=min x.e y.e:=⟨_,rfl⟩
      have hl0:-(K:Int)<=low:=by omega
      have s1:=bd_shift bx dx (by omega) px hl0 (by omega)
      have s2:=bd_shift bY dy (by omega) py hl0 (by omega)
      have v1:=dx.at (low:=low) (by omega) (by omega)
      have v2:=dy.at (low:=low) (by omega) (by omega)
      have dgx:=bd_digits hK nx (bd_self bx dx (by omega) px)
      have dgy:=bd_digits hK ny (bd_self bY dy (by omega) py)
      have q1:0<=val x.d x.n*2^(x.e-low).toNat:=Int.mul_nonneg (by omega) (Int.le_of_lt (two_pos _))
      have q2:0<=val y.d y.n*2^(y.e-low).toNat:=Int.mul_nonneg (by omega) (Int.le_of_lt (two_pos _))
      have e1:x.e-low=((x.e-low).toNat:Int):=by omega
      have e2:y.e-low=((y.e-low).toNat:Int):=by omega
      have H1:∀ W,Below w.heap.size w W->Calls Tryz.prog 94 #[.slice x.ao x.n x.cap,.int .i64 (x.e-low)] W fun r w'=>∃ so sn sc,r=.returned (.slice so sn sc)∧Num w' (.slice so sn sc) (val x.d x.n*2^(x.e-low).toNat)∧Below W.heap.size W w':=fun W hb=>by
        rw [e1]
        refine (rshl_any x.ao x.n x.cap _ x.d W (hx.keeps hb) nx.1 (by omega) (by omega)).mono ?_
        rintro r w' ⟨v,rfl,hA⟩
        obtain ⟨so,sn,sc,rfl⟩:=hA.num.shape
        exact ⟨so,sn,sc,rfl,by rw [<- e1]; exact hA.num,hA.below⟩
      have H2:∀ W,Below w.heap.size w W->Calls Tryz.prog 94 #[.slice y.ao y.n y.cap,.int .i64 (y.e-low)] W fun r w'=>∃ so sn sc,r=.returned (.slice so sn sc)∧Num w' (.slice so sn sc) (val y.d y.n*2^(y.e-low).toNat)∧Below W.heap.size W w':=fun W hb=>by
        rw [e2]
        refine (rshl_any y.ao y.n y.cap _ y.d W (hy.keeps hb) ny.1 (by omega) (by omega)).mono ?_
        rintro r w' ⟨v,rfl,hA⟩
        obtain ⟨so,sn,sc,rfl⟩:=hA.num.shape
        exact ⟨so,sn,sc,rfl,by rw [<- e2]; exact hA.num,hA.below⟩
      generalize val x.d x.n*2^(x.e-low).toNat=A at *
      generalize val y.d y.n*2^(y.e-low).toNat=B at *
      have dg:=fun W so sn sc M (h:Num W (.slice so sn sc) M) hM=>h.digits hK hM
      have key:∀ W p M,Num W p M->M<2^(2*K)+2^(2*K)->∃ so sn sc d,p=.slice so sn sc∧Row W so sn sc d∧Nrm d sn∧val d sn=M∧sn<=37500:=fun W p M h hM=>by
        obtain ⟨so,sn,sc,rfl⟩:=h.shape
        obtain ⟨d,h1,h2,h3,h4⟩:=h.digits hK hM
        exact ⟨so,sn,sc,d,rfl,h1,h2,h3,h4⟩
      refine (radd3_walk x y w hx hy (by omega) (by omega) low A B (x.V+y.V) hlow (by omega) (by omega) (by omega) H1 H2 ?_ ?_ ?_ ?_ ?_).mono ?_
      . intro W p q hp hq
        obtain ⟨po,pn,pc,d,rfl,r1,r2,r3,r4⟩:=key W p A hp (by omega)
        obtain ⟨qo,qn,qc,d',rfl,u1,u2,u3,u4⟩:=key W q B hq (by omega)
        refine (radd_any _ _ _ _ _ _ d d' W r1 u1 r2 u2 (by omega) (by omega)).mono ?_
        rw [r3,u3]
        rintro r w' ⟨v,rfl,hA⟩
        obtain ⟨so,sn,sc,rfl⟩:=hA.num.shape
        exact ⟨so,sn,sc,rfl,hA.num,hA.below⟩
      . intro W p q hp hq
        obtain ⟨po,pn,pc,d,rfl,r1,r2,r3,r4⟩:=key W p A hp (by omega)
        obtain ⟨qo,qn,qc,d',rfl,u1,u2,u3,u4⟩:=key W q B hq (by omega)
        have:=rcmp_any po qo pn qn pc qc d d' W r1 u1 r2 u2
        rwa [r3,u3] at this
      . intro W p q hp hq hle
        obtain ⟨po,pn,pc,d,rfl,r1,r2,r3,r4⟩:=key W p A hp (by omega)
        obtain ⟨qo,qn,qc,d',rfl,u1,u2,u3,u4⟩:=key W q B hq (by omega)
        refine (rsub_any _ _ _ _ _ _ d d' W r1 u1 r2 u2 (by omega) (by rw [r3,u3]; exact hle)).mono ?_
        rw [r3,u3]
        rintro r w' ⟨v,rfl,hA⟩
        obtain ⟨so,sn,sc,rfl⟩:=hA.num.shape
        exact ⟨so,sn,sc,rfl,hA.num,hA.below⟩
      . intro W p q hp hq hle
        obtain ⟨po,pn,pc,d,rfl,r1,r2,r3,r4⟩:=key W p A hp (by omega)
        obtain ⟨qo,qn,qc,d',rfl,u1,u2,u3,u4⟩:=key W q B hq (by omega)
        refine (rsub_any _ _ _ _ _ _ d' d W u1 r1 u2 r2 (by omega) (by rw [r3,u3]; exact hle)).mono ?_
        rw [r3,u3]
        rintro r w' ⟨v,rfl,hA⟩
        obtain ⟨so,sn,sc,rfl⟩:=hA.num.shape
        exact ⟨so,sn,sc,rfl,hA.num,hA.below⟩
      . intro W ng s M hs hc
        have hM:M<2^(2*K)+2^(2*K):=by rcases hc with ⟨_,_,h⟩ | ⟨_,_,_,h⟩ | ⟨_,_,_,h⟩ <;> omega
        obtain ⟨po,pn,pc,d,rfl,r1,r2,r3,r4⟩:=key W s M hs hM
        have hV:=rsum_V (low:=low) hc
        rw [<- v1,<- v2] at hV
        refine (rnorm_any ng po pn pc d low W r1 r2.1 (by omega) (by omega) (by omega)).mono ?_
        rw [r3,hV]
        rintro r w' ⟨v,rfl,hD⟩
        obtain ⟨ng',s,m',e1,rfl,_,hA⟩:=id hD
        obtain ⟨q1,q2,q3,rfl⟩:=hA.num.shape
        exact ⟨ng',q1,q2,q3,e1,rfl,hD,hD.below⟩
      . rintro r w' ⟨v,rfl,hD⟩
        exact ⟨v,rfl,hD.below,.inl hD⟩
theorem radd_D {w:World} {x y:Value} {A B:Int} (hx:DNum w x A) (hy:DNum w y B) {K:Nat} (hK:K<=560000) (bx:Bd K A) (bY:Bd K B) :
    Calls Tryz.prog 63 #[x,y] w fun r w'=>∃ v,r=.returned v∧RSum w w' A B x y v:=by
  obtain ⟨ng,s,m,e,rfl,dx,ao,n,cap,d,rfl,hR,hN,rfl⟩:=hx
  obtain ⟨ng',s',m',e',rfl,dy,ao',n',cap',d',rfl,hR',hN',rfl⟩:=hy
  obtain rfl:A=(⟨ng,ao,n,cap,d,e⟩:NumR).V:=dx.val
  obtain rfl:B=(⟨ng',ao',n',cap',d',e'⟩:NumR).V:=dy.val
  exact radd3_any ⟨ng,ao,n,cap,d,e⟩ ⟨ng',ao',n',cap',d',e'⟩ w hR hR' dx hN dy hN' hK bx bY
def sumF (V:Nat->Int):Nat->Int | 0=>0 | m+1=>sumF V m+V m
theorem bd_zero (K:Nat):Bd K 0:=⟨0,by rw [Int.zero_mul],by have:=two_pos (2*K); omega,by have:=two_pos (2*K); omega⟩
theorem dotV_F {a b:Nat->NumR} {V W:Nat->Int}:∀ m,(∀ i,i<m->(a i).V=V i∧Half (a i))->(∀ i,i<m->(b i).V=W i∧Half (b i))->dotV a b m*2^4194304=sumF (fun i=>V i*W i) m
  | 0,_,_=>by show 0*_=(0:Int); rw [Int.zero_mul]
  | m+1,h,k=>by
    have h1:=h m (by omega)
    have k1:=k m (by omega)
    unfold Half at h1 k1
    show (dotV a b m+mulV (a m) (b m))*2^4194304=sumF (fun i=>V i*W i) m+V m*W m
    rw [Int.add_mul,dotV_F m (fun i hi=>h i (by omega)) (fun i hi=>k i (by omega)),mulV_eq (by omega) (by omega),h1.1,k1.1]
theorem bd_dotV {a b:Nat->NumR} {V W:Nat->Int} {K:Nat} (hK:K<=10000):∀ m,m<=1000->(∀ i,i<m->(a i).V=V i∧Half (a i)∧Bd K (V i))->(∀ i,i<m->(b i).V=W i∧Half (b i)∧Bd K (W i))->Bd (2*K+m) (dotV a b m)
  | 0,_,_,_=>bd_zero _
  | m+1,hm,h,k=>by
    obtain ⟨h1,h2,h3⟩:=h m (by omega)
    obtain ⟨k1,k2,k3⟩:=k m (by omega)
    unfold Half at h2 k2
    have e:=mulV_eq (x:=a m) (y:=b m) (by omega) (by omega)
    rw [h1,k1] at e
    exact (bd_dotV hK m (by omega) (fun i hi=>h i (by omega)) (fun i hi=>k i (by omega))).add ((h3.mul k3 e (by omega)).up (by omega) (by omega)) (by omega)
theorem dans_past {w w':World} {V:Int} {v:Value} (h:DAns w w' V v) (o:Obj):DAns w (w'.alloc o) V v:=h.stays (bel_alloc _ _)
set_option maxRecDepth 100000 in
set_option maxHeartbeats 2000000 in
theorem oapart_any {p q:Int} (pp:pok p=true) (pq:pok q=true) (w:World) (H:Hold4 w) :
    Calls Tryz.prog 46 #[.int .i64 p,.int .i64 q] w fun r w'=>∃ v,r=.returned v∧DAns w w' (patV p-patV q) v:=by
  have r_k:=heap_a1 w (.cells #[.bool false,.slice none 0 0,.int .i64 0] 33)
  have hb0:=bel_alloc w (.cells #[.bool false,.slice none 0 0,.int .i64 0] 33)
  have B1:=patV_bd pp
  have B2:=patV_bd pq
  go_enter Tryz.func46,Tryz.ntmps46
  go_wp2_with fail
  generalize w.alloc (.cells #[.bool false,.slice none 0 0,.int .i64 0] 33)=x0 at r_k hb0 ⊢
  have H:=H.keeps hb0
  refine (of_ok pp H).mono ?_
  rintro _ y1 ⟨v,rfl,h1⟩
  obtain ⟨x_g,x_o,x_n,x_c,x_e,rfl⟩:=dans_shape h1
  have hw1:=h1.below
  have x_D:=h1.num
  have H:=H.keeps hw1
  have r_k:=(hw1.block _ (Array.getElem?_eq_some_iff.1 r_k).1).trans r_k
  have hb1:=bel_trans hb0 hw1
  have r_k:=heap_past (.cells #[.bool x_g,.slice x_o x_n x_c,.int .i64 x_e] 33) r_k
  have x_k:=heap_a1 y1 (.cells #[.bool x_g,.slice x_o x_n x_c,.int .i64 x_e] 33)
  have x_D:=x_D.keeps (bel_alloc y1 (.cells #[.bool x_g,.slice x_o x_n x_c,.int .i64 x_e] 33))
  have H:=H.keeps (bel_alloc y1 (.cells #[.bool x_g,.slice x_o x_n x_c,.int .i64 x_e] 33))
  have hb2':=bel_trans hb1 (bel_alloc y1 (.cells #[.bool x_g,.slice x_o x_n x_c,.int .i64 x_e] 33))
  go_wp2_with fail
  generalize y1.alloc (.cells #[.bool x_g,.slice x_o x_n x_c,.int .i64 x_e] 33)=x2 at r_k x_k x_D H hb2' ⊢
  refine (of_ok pq H).mono ?_
  rintro _ y2 ⟨v,rfl,h2⟩
  obtain ⟨y_g,y_o,y_n,y_c,y_e,rfl⟩:=dans_shape h2
  have hw2:=h2.below
  have y_D:=h2.num
  have H:=H.keeps hw2
  have r_k:=(hw2.block _ (Array.getElem?_eq_some_iff.1 r_k).1).trans r_k
  have x_k:=(hw2.block _ (Array.getElem?_eq_some_iff.1 x_k).1).trans x_k
  have x_D:=x_D.keeps hw2
  have hb2:=bel_trans hb2' hw2
  have r_k:=heap_past (.cells #[.bool y_g,.slice y_o y_n y_c,.int .i64 y_e] 33) r_k
  have x_k:=heap_past (.cells #[.bool y_g,.slice y_o y_n y_c,.int .i64 y_e] 33) x_k
  have y_k:=heap_a1 y2 (.cells #[.bool y_g,.slice y_o y_n y_c,.int .i64 y_e] 33)
  have x_D:=x_D.keeps (bel_alloc y2 (.cells #[.bool y_g,.slice y_o y_n y_c,.int .i64 y_e] 33))
  have y_D:=y_D.keeps (bel_alloc y2 (.cells #[.bool y_g,.slice y_o y_n y_c,.int .i64 y_e] 33))
  have H:=H.keeps (bel_alloc y2 (.cells #[.bool y_g,.slice y_o y_n y_c,.int .i64 y_e] 33))
  have hb3':=bel_trans hb2 (bel_alloc y2 (.cells #[.bool y_g,.slice y_o y_n y_c,.int .i64 y_e] 33))
  have f_x0:=blkC x_k 0 rfl
  have f_x1:=blkC x_k 1 rfl
  have f_x2:=blkC x_k 2 rfl
  go_wp2_with fail
  clear f_x0 f_x1 f_x2
  generalize y2.alloc (.cells #[.bool y_g,.slice y_o y_n y_c,.int .i64 y_e] 33)=x3 at r_k x_k y_k x_D y_D H hb3' ⊢
  have hs0:=(Array.getElem?_eq_some_iff.1 r_k).1
  refine (sub_B x_D y_D B1 B2 (by omega) H.tab).mono ?_
  rintro _ y3 ⟨v,rfl,h3⟩
  obtain ⟨n_g,n_o,n_n,n_c,n_e,rfl⟩:=dans_shape h3
  have hw3:=h3.below
  have n_D:=h3.num
  have H:=H.keeps hw3
  have r_k:=(hw3.block _ (Array.getElem?_eq_some_iff.1 r_k).1).trans r_k
  have x_k:=(hw3.block _ (Array.getElem?_eq_some_iff.1 x_k).1).trans x_k
  have x_D:=x_D.keeps hw3
  have y_k:=(hw3.block _ (Array.getElem?_eq_some_iff.1 y_k).1).trans y_k
  have y_D:=y_D.keeps hw3
  have hb3:=bel_trans hb3' hw3
  have r_k:=heap_past (.cells #[.bool n_g,.slice n_o n_n n_c,.int .i64 n_e] 33) r_k
  have k0:=blkC r_k 0 rfl
  have k1:=blkC r_k 1 rfl
  have k2:=blkC r_k 2 rfl
  have z0:=blkF r_k 0
  have z1:=blkF r_k 1
  have z2:=blkF r_k 2
  go_wp2
  refine bodyPost_ret (v:=.agg #[.bool n_g,.slice n_o n_n n_c,.int .i64 n_e]) (by simp [results,Tryz.results46,go_sem,k0,k1,k2]) rfl ⟨_,rfl,?_⟩
  exact dans_res3 (g:=w.heap.size) (dans_past h3 _) (by assumption) (Nat.le_refl _) hs0 _ _ _
structure NumC (w:World) (b o:Nat) (V:Int):Prop where
  x:∃ ng so sn sc e,w.cell? ⟨b,o,none⟩=some (.bool ng)∧w.cell? ⟨b,o+1,none⟩=some (.slice so sn sc)∧w.cell? ⟨b,o+2,none⟩=some (.int .i64 e)∧DNum w (.agg #[.bool ng,.slice so sn sc,.int .i64 e]) V
theorem numsC {w:World} {b off n c K:Nat} {V:Nat->Int} (h:∀ i,i<n->NumC w b (off+i*3) (V i)∧Bd K (V i)) (hK:K<=20000) (hn:n<=c) (hc:c<=9223372036854775807) :
    ∃ r,Nums w (some ⟨b,off,none⟩) n c r∧allOk r n=true∧∀ i,i<n->(r i).V=V i∧Half (r i):=by
  have hx:∀ i,i<n->∃ y:NumR,At3 w b (off+i*3) y∧okR y=true∧y.V=V i∧Half y:=fun i hi=>by
    obtain ⟨⟨ng,so,sn,sc,e,c0,c1,c2,hD⟩,hB⟩:=h i hi
    obtain ⟨d,hR,ok,hV⟩:=hD.open2 (hB.ok (by omega))
    refine ⟨⟨ng,so,sn,sc,d,e⟩,⟨c0,c1,c2,hR⟩,ok,hV,?_⟩
    have hy:=(okR_dy ok).1
    unfold Half
    rcases hy.form with ⟨_,_,h0⟩ | ⟨h0,_⟩
    . simp only at h0 ⊢; omega
    . rw [hV] at hy
      have:=bd_form hB hy (by omega) h0
      simp only at this ⊢
      omega
  have hr:∀ i,i<n->At3 w b (off+i*3) (if hi:i<n then Classical.choose (hx i hi) else default)∧okR (if hi:i<n then Classical.choose (hx i hi) else default)=true∧(if hi:i<n then Classical.choose (hx i hi) else default:NumR).V=V i∧Half (if hi:i<n then Classical.choose (hx i hi) else default):=fun i hi=>by
    rw [dif_pos hi]
    exact Classical.choose_spec (hx i hi)
  generalize hrr:(fun i=>(if hi:i<n then Classical.choose (hx i hi) else default:NumR))=r
  have hr2:∀ i,i<n->At3 w b (off+i*3) (r i)∧okR (r i)=true∧(r i).V=V i∧Half (r i):=fun i hi=>by rw [<- hrr]; exact hr i hi
  refine ⟨r,⟨hn,hc,fun h0=>⟨b,off,rfl,?_,fun i hi=>(hr2 i hi).1⟩⟩,decide_eq_true fun i hi=>(hr2 i hi).2.1,fun i hi=>(hr2 i hi).2.2⟩
  exact World.block_lt_of_cell? w _ (hr2 0 h0).1.c0
set_option maxRecDepth 100000 in
set_option maxHeartbeats 1000000 in
theorem sdot_any {w:World} {b off b' off' n c c' K:Nat} {V W:Nat->Int} (h:∀ i,i<n->NumC w b (off+i*3) (V i)∧Bd K (V i)) (h':∀ i,i<n->NumC w b' (off'+i*3) (W i)∧Bd K (W i)) (hK:K<=9000) (n10:n<=10) (hn:n<=c) (hc:c<=100) (hn':n<=c') (hc':c'<=100) (hT:Tab w) :
    Calls Tryz.prog 89 #[.slice (some ⟨b,off,none⟩) n c,.slice (some ⟨b',off',none⟩) n c'] w fun r w'=>∃ v D,r=.returned v∧DAns w w' D v∧D*2^4194304=sumF (fun i=>V i*W i) n∧Bd (2*K+n) D:=by
  obtain ⟨r,hN,hA,hr⟩:=numsC h (by omega) hn (by omega)
  obtain ⟨q,hN',hA',hq⟩:=numsC h' (by omega) hn' (by omega)
  have hb:=bd_dotV (by omega) n (by omega) (fun i hi=>⟨(hr i hi).1,(hr i hi).2,(h i hi).2⟩) (fun i hi=>⟨(hq i hi).1,(hq i hi).2,(h' i hi).2⟩)
  have CD:Hid (∀ W',Below w.heap.size w W'->Calls Tryz.prog 113 #[.slice (some ⟨b,off,none⟩) n c,.slice (some ⟨b',off',none⟩) n c'] W' fun x w'=>∃ v,x=.returned (.tuple #[v,.int .i64 0])∧DAns W' w' (dotV r q n) v):=fun W' hW=>by
    refine (ddot_ok _ _ n c c' r q W' (hN.keeps hW) (hN'.keeps hW) hA hA' (fun i hi=>(hr i hi).2) (fun i hi=>(hq i hi).2) (by omega) (hT.keeps hW)).mono ?_
    rintro z w' ⟨v,er,rfl,hF⟩
    obtain ⟨rfl,hD⟩:=hF.yes (hb.ok (by omega))
    exact ⟨v,rfl,hD⟩
  have hE:=dotV_F n (fun i hi=>⟨(hr i hi).1,(hr i hi).2⟩) (fun i hi=>⟨(hq i hi).1,(hq i hi).2⟩)
  generalize dotV r q n=D at *
  clear hN hN' hA hA' hr hq h h'
  have r_k:=heap_a1 w (.cells #[.bool false,.slice none 0 0,.int .i64 0] 33)
  have hb0:=bel_alloc w (.cells #[.bool false,.slice none 0 0,.int .i64 0] 33)
  go_enter Tryz.func89,Tryz.ntmps89
  go_wp2_with fail
  generalize w.alloc (.cells #[.bool false,.slice none 0 0,.int .i64 0] 33)=x0 at r_k hb0 ⊢
  have hs0:=(Array.getElem?_eq_some_iff.1 r_k).1
  refine (CD.out _ hb0).mono ?_
  rintro _ y1 ⟨v,rfl,h1⟩
  obtain ⟨n_g,n_o,n_n,n_c,n_e,rfl⟩:=dans_shape h1
  have r_k:=blk_us h1.below r_k
  have r_k:=heap_past (.cells #[.bool n_g,.slice n_o n_n n_c,.int .i64 n_e] 33) r_k
  have k0:=blkC r_k 0 rfl
  have k1:=blkC r_k 1 rfl
  have k2:=blkC r_k 2 rfl
  have z0:=blkF r_k 0
  have z1:=blkF r_k 1
  have z2:=blkF r_k 2
  go_wp2
  refine bodyPost_ret (v:=.agg #[.bool n_g,.slice n_o n_n n_c,.int .i64 n_e]) (by simp [results,Tryz.results89,go_sem,k0,k1,k2]) rfl ⟨_,D,rfl,?_,hE,hb⟩
  exact dans_res3 (g:=w.heap.size) (dans_past h1 _) hb0 (Nat.le_refl _) hs0 _ _ _
set_option maxRecDepth 100000 in
set_option maxHeartbeats 1000000 in
theorem sturn_any {w:World} {x_g:Bool} {x_o:Option Addr} {x_n x_c:Nat} {x_e A:Int} (hx:DNum w (.agg #[.bool x_g,.slice x_o x_n x_c,.int .i64 x_e]) A) (oA:Dok A) :
    Calls Tryz.prog 90 #[.agg #[.bool x_g,.slice x_o x_n x_c,.int .i64 x_e]] w fun r w'=>∃ v,r=.returned v∧DAns w w' (-A) v:=by
  have CD:Hid (∀ W',Below w.heap.size w W'->Calls Tryz.prog 114 #[.agg #[.bool x_g,.slice x_o x_n x_c,.int .i64 x_e]] W' fun x w'=>∃ v,x=.returned (.tuple #[v,.int .i64 0])∧DAns W' w' (-A) v):=fun W' hW=>neg_D (hx.keeps hW) oA
  clear hx
  have r_k:=heap_b2 w (.cells #[.bool x_g,.slice x_o x_n x_c,.int .i64 x_e] 33) (.cells #[.bool false,.slice none 0 0,.int .i64 0] 33)
  have hb0:=bel_alloc2 w (.cells #[.bool x_g,.slice x_o x_n x_c,.int .i64 x_e] 33) (.cells #[.bool false,.slice none 0 0,.int .i64 0] 33)
  go_enter Tryz.func90,Tryz.ntmps90
  go_wp2_with fail
  generalize (w.alloc (.cells #[.bool x_g,.slice x_o x_n x_c,.int .i64 x_e] 33)).alloc (.cells #[.bool false,.slice none 0 0,.int .i64 0] 33)=x0 at r_k hb0 ⊢
  have hs0:=(Array.getElem?_eq_some_iff.1 r_k).1
  refine (CD.out _ hb0).mono ?_
  rintro _ y1 ⟨v,rfl,h1⟩
  obtain ⟨n_g,n_o,n_n,n_c,n_e,rfl⟩:=dans_shape h1
  have r_k:=blk_us h1.below r_k
  have r_k:=heap_past (.cells #[.bool n_g,.slice n_o n_n n_c,.int .i64 n_e] 33) r_k
  have k0:=blkC r_k 0 rfl
  have k1:=blkC r_k 1 rfl
  have k2:=blkC r_k 2 rfl
  have z0:=blkF r_k 0
  have z1:=blkF r_k 1
  have z2:=blkF r_k 2
  go_wp2
  refine bodyPost_ret (v:=.agg #[.bool n_g,.slice n_o n_n n_c,.int .i64 n_e]) (by simp [results,Tryz.results90,go_sem,k0,k1,k2]) rfl ⟨_,rfl,?_⟩
  exact dans_res3 (g:=w.heap.size+1) (dans_past h1 _) hb0 (by omega) hs0 _ _ _
end Go.Proofs.YtcklaogdjpbagaaGreatDoor
