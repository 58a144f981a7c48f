/- Parts of the proof. -/
import Derived.Test.YtjjihmnbdeeedaaGreatDoorCe10
import Derived.Test.YtjjihmnbdeeedaaGreatDoorCe6
import Derived.Test.YtjjihmnbdeeedaaGreatDoorCe8
import Derived.Laws.MakeOwn
import Derived.Maps.AppendAt
import Derived.Laws.AppendOwnNone
import Derived.Test.YtjjihmnbdeeedaaGreatDoorCe9
import Derived.Deep.RegionHeld3
import Derived.Test.YtjjihmnbdeeedaaGreatDoorCe5
import Derived.ScopeJumps
import Derived.Test.YtjjihmnbdeeedaaGreatDoorCe3
import Derived.Test.YtjjihmnbdeeedaaGreatDoorCe7
set_option linter.unusedVariables false
set_option linter.unusedSimpArgs false
namespace Go.Proofs.YtjjihmnbdeeedaaGreatDoor
open Go Go.RowKit Go.Proofs.YtjjihmnbdeeedaaGreatDoor.M
theorem opp_V {x:NumR} (ok:okR x=true):x.opp.V=-x.V∧Dy x.opp.V x.opp.ng (val x.opp.d x.opp.n) x.opp.e:=by
  have hy:=(okR_dy ok).1
  have hN:=(okR_sane ok).1
  by_cases h0:x.n=0
  . have hv:val x.d x.n=0:=by rw [h0]; rfl
    have e:x.opp=x:=by unfold NumR.opp; rw [if_pos h0]
    rw [e]
    have:=hy.eq_zero.2 hv
    exact ⟨by omega,hy⟩
  . have hp:=val_pos hN (show 0<x.n by omega)
    have e:x.opp=⟨!x.ng,x.ao,x.n,x.cap,x.d,x.e⟩:=by unfold NumR.opp; rw [if_neg h0]
    rw [e]
    have h1:=hy.neg hp
    have hV:NumR.V ⟨!x.ng,x.ao,x.n,x.cap,x.d,x.e⟩=-x.V:=h1.val.symm
    rw [hV]
    exact ⟨rfl,h1⟩
theorem RSum.shape {w w':World} {A B:Int} {x y:NumR} {v:Value} (h:RSum w w' A B x.v y.v v):∃ ng so sn sc e,v=.agg #[.bool ng,.slice so sn sc,.int .i64 e]:=by
  rcases h.2 with ⟨ng,s,m,e,rfl,_,hA⟩ | ⟨_,rfl⟩ | ⟨_,rfl⟩
  . obtain ⟨so,sn,sc,rfl⟩:=hA.num.shape
    exact ⟨_,_,_,_,_,rfl⟩
  . exact ⟨_,_,_,_,_,rfl⟩
  . exact ⟨_,_,_,_,_,rfl⟩
theorem rsum_res {w W w3:World} {A B:Int} {x y v:Value} (hv:RSum W w3 A B x y v) (hb:Below w.heap.size w W) {g:Nat} (h0:w.heap.size<=g) (h1:g<W.heap.size) (a b c:Value) :
    RSum w (((w3.setCell ⟨g,0,none⟩ a).setCell ⟨g,1,none⟩ b).setCell ⟨g,2,none⟩ c) A B x y v:=by
  refine ⟨bel_set3 (bel_trans hb hv.1) h0 _ _ _,?_⟩
  rcases hv.2 with h | h | h
  . exact .inl (dans_res3 h hb h0 h1 a b c)
  . exact .inr (.inl h)
  . exact .inr (.inr h)
set_option maxRecDepth 100000 in
set_option maxHeartbeats 2000000 in
theorem rsub3_any (x y:NumR) (w:World) (hx:Row w x.ao x.n x.cap x.d) (hy:Row w y.ao y.n y.cap y.d) (ox:okR x=true) (oy:okR y=true) {K:Nat} (hK:K<=560000) (bx:Bd K x.V) (bY:Bd K y.V) :
    Calls Tryz.prog 153 #[x.v,y.v] w fun r w'=>∃ v,r=.returned v∧RSum w w' x.V (-y.V) x.v y.opp.v v:=by
  obtain ⟨e1,e2⟩:=opp_V oy
  have hop:=fun W=>rneg3_any y W (by have:=hy.le; have:=hy.max; omega)
  have C2:∀ W,Below w.heap.size w W->Calls Tryz.prog 152 #[x.v,y.opp.v] W fun r w'=>∃ ng so sn sc e,r=.returned (.agg #[.bool ng,.slice so sn sc,.int .i64 e])∧RSum W w' x.V (-y.V) x.v y.opp.v (.agg #[.bool ng,.slice so sn sc,.int .i64 e])∧Below W.heap.size W w':=fun W hb=>by
    refine (radd3_any x y.opp W (hx.keeps hb) (hy.keeps hb) (okR_dy ox).1 (okR_sane ox).1 e2 (okR_sane oy).1 hK bx (by rw [e1]; exact bY.neg)).mono ?_
    rintro r w' ⟨v,rfl,h⟩
    rw [e1] at h
    obtain ⟨ng,so,sn,sc,e,rfl⟩:=h.shape
    exact ⟨_,_,_,_,_,rfl,h,h.1⟩
  have hmy:=hy.max
  have hly:=hy.le
  obtain ⟨VV,hVV⟩:∃ V,V=x.V:=⟨_,rfl⟩
  obtain ⟨UU,hUU⟩:∃ V,V=-y.V:=⟨_,rfl⟩
  rw [<- hVV,<- hUU] at C2 ⊢
  clear e1 e2 bx bY hVV hUU ox oy
  unfold NumR.opp at *
  obtain ⟨on,hon⟩:∃ V,V=(if y.n=0 then y.ng else !y.ng):=⟨_,rfl⟩
  rw [<- hon] at hop C2 ⊢
  clear hon
  obtain ⟨an,ao,n,ca,a,e⟩:=x
  obtain ⟨bn,bo,m,cb,b,f⟩:=y
  unfold NumR.v at *
  simp only at *
  have hb3:Below w.heap.size w (((w.alloc (.cells #[.bool an,.slice ao n ca,.int .i64 e] 40)).alloc (.cells #[.bool bn,.slice bo m cb,.int .i64 f] 40)).alloc (.cells #[.bool false,.slice none 0 0,.int .i64 0] 40)):=bel_a3 _ _ _ _
  have g0:=h3_0 w (.cells #[.bool an,.slice ao n ca,.int .i64 e] 40) (.cells #[.bool bn,.slice bo m cb,.int .i64 f] 40) (.cells #[.bool false,.slice none 0 0,.int .i64 0] 40)
  have g1:=h3_1 w (.cells #[.bool an,.slice ao n ca,.int .i64 e] 40) (.cells #[.bool bn,.slice bo m cb,.int .i64 f] 40) (.cells #[.bool false,.slice none 0 0,.int .i64 0] 40)
  have g2:=h3_2 w (.cells #[.bool an,.slice ao n ca,.int .i64 e] 40) (.cells #[.bool bn,.slice bo m cb,.int .i64 f] 40) (.cells #[.bool false,.slice none 0 0,.int .i64 0] 40)
  go_enter Tryz.func153,Tryz.ntmps153
  go_wp2_with fail
  generalize ((w.alloc (.cells #[.bool an,.slice ao n ca,.int .i64 e] 40)).alloc (.cells #[.bool bn,.slice bo m cb,.int .i64 f] 40)).alloc (.cells #[.bool false,.slice none 0 0,.int .i64 0] 40)=wx at hb3 g0 g1 g2 ⊢
  have k0:=blkC g0 0 rfl
  have k1:=blkC g0 1 rfl
  have k2:=blkC g0 2 rfl
  have j0:=blkC g1 0 rfl
  have j1:=blkC g1 1 rfl
  have j2:=blkC g1 2 rfl
  have hb1:=bel_refl wx
  have hs3:=(Array.getElem?_eq_some_iff.1 g2).1
  go_region_held3 (fun W=>(W.cell? ⟨w.heap.size,0,none⟩=some (.bool an)∧W.cell? ⟨w.heap.size,1,none⟩=some (.slice ao n ca)∧W.cell? ⟨w.heap.size,2,none⟩=some (.int .i64 e))∧W.cell? ⟨w.heap.size+1,0,none⟩=some (.bool bn)∧W.cell? ⟨w.heap.size+1,1,none⟩=some (.slice bo m cb)∧W.cell? ⟨w.heap.size+1,2,none⟩=some (.int .i64 f))
    (first | assumption | exact ⟨⟨k0,k1,k2⟩,j0,j1,j2⟩ | exact keep66 (W:=wx.drew) hbv1 ⟨⟨k0,k1,k2⟩,j0,j1,j2⟩ | exact keep66 hbv2 (keep66 (W:=wx.drew) hbv1 ⟨⟨k0,k1,k2⟩,j0,j1,j2⟩) | exact ⟨keepS (keep66 hbv2 (keep66 (W:=wx.drew) hbv1 ⟨⟨k0,k1,k2⟩,j0,j1,j2⟩)).1 (by omega) _ _ _,keepS (keep66 hbv2 (keep66 (W:=wx.drew) hbv1 ⟨⟨k0,k1,k2⟩,j0,j1,j2⟩)).2 (by omega) _ _ _⟩)
    (first | (go_at_call 152; refine (C2 _ (bel_trans hb3 (bel_trans hb1.drew hbv1))).mono ?_; rintro y w4 ⟨ng4,o4,n4,c4,e4,rfl,hv2,hbv2⟩; have q0:=((bel_trans hbv1 hbv2).block (w.heap.size+2) (by show _<wx.heap.size; omega)).trans g2; have x0:=blkC q0 0 rfl; have x1:=blkC q0 1 rfl; have x2:=blkC q0 2 rfl; have z0:=blkF q0 0; have z1:=blkF q0 1; have z2:=blkF q0 2) | (go_at_call 180; refine (hop _).mono ?_; rintro y w3 ⟨rfl,hbv1⟩))
  all_goals go_wp2
  all_goals
    refine bodyPost_ret (v:=.agg #[.bool ng4,.slice o4 n4 c4,.int .i64 e4]) (by simp [results,Tryz.results153,go_sem,x0,x1,x2]) rfl ⟨_,rfl,?_⟩
    exact rsum_res (g:=w.heap.size+2) hv2 (bel_trans hb3 (bel_trans hb1.drew hbv1)) (by omega) (Nat.lt_of_lt_of_le (show _<wx.heap.size by omega) hbv1.size) _ _ _
def BlkN (w:World) (g N k:Nat) (q:Nat->NumR):Prop :=
  ∃ cur:Array Value,w.heap[g]?=some (.cells cur 40 (0,0))∧cur.size=N*3∧∀ i,i<k->(cur[i*3]?=some (.bool (q i).ng)∧cur[i*3+1]?=some (.slice (q i).ao (q i).n (q i).cap)∧cur[i*3+2]?=some (.int .i64 (q i).e))∧Row w (q i).ao (q i).n (q i).cap (q i).d
def updN (q:Nat->NumR) (k:Nat) (x:NumR):Nat->NumR:=fun j=>if j=k then x else q j
theorem updN_same (q:Nat->NumR) (k:Nat) (x:NumR):updN q k x k=x:=by simp [updN]
theorem updN_other (q:Nat->NumR) {k j:Nat} (x:NumR) (h:j≠k):updN q k x j=q j:=by simp [updN,h]
theorem wr3 (W:World) (g o0 o1 o2:Nat) (x y z:Value):Wr g W (((W.setCell ⟨g,o0,none⟩ x).setCell ⟨g,o1,none⟩ y).setCell ⟨g,o2,none⟩ z):=(((Wr.refl g W).setCell o0 x).setCell o1 y).setCell o2 z
theorem Row.wrN {w w':World} {g:Nat} {ao:Option Addr} {n cap:Nat} {d:Nat->Int} (h:Row w ao n cap d) (hw:Wr g w w') {cur:Array Value} {z:Nat × Nat} (hg:w.heap[g]?=some (.cells cur 40 z)) (ht:∀ b off,ao=some ⟨b,off,none⟩->0<n->b≠g):Row w' ao n cap d :=
  ⟨h.le,h.max,h.nl,fun hn=>by
    obtain ⟨b,off,rfl,hlt,hc⟩:=h.spot hn
    exact ⟨b,off,rfl,Nat.lt_of_lt_of_le hlt hw.size,fun i hi=>(hw.cell (p:=⟨b,off+i,none⟩) hlt (ht b off rfl hn)).trans (hc i hi)⟩⟩
theorem Ans.open {w w':World} {V:Int} {so:Option Addr} {sn sc:Nat} (h:Ans w w' V (.slice so sn sc)):∃ d,Row w' so sn sc d∧Nrm d sn∧val d sn=V∧∀ b off,so=some ⟨b,off,none⟩->w.heap.size<=b:=by
  obtain ⟨t,d,hO,hN,hV,_⟩:=h
  have hge:=own_ge hO
  obtain ⟨so',sc',e,hR⟩:=hO.row
  simp only [Value.slice.injEq] at e
  obtain ⟨rfl,rfl,rfl⟩:=e
  exact ⟨d,hR,hN,hV,fun b off hb=>hge b (by rw [hb]; rfl)⟩
theorem bel_set3' {w0 w:World} {g o0 o1 o2:Nat} (h:Below w0.heap.size w0 w) (hg:w0.heap.size<=g) (x y z:Value):Below w0.heap.size w0 (((w.setCell ⟨g,o0,none⟩ x).setCell ⟨g,o1,none⟩ y).setCell ⟨g,o2,none⟩ z):=((h.setCell (p:=⟨g,o0,none⟩) hg x).setCell (p:=⟨g,o1,none⟩) hg y).setCell (p:=⟨g,o2,none⟩) hg z
theorem set3_get {cur:Array Value} {k:Nat} {x y z:Value} (h:k*3+2<cur.size) (i:Nat) :
    let c:=((cur.setIfInBounds (k*3) x).setIfInBounds (k*3+1) y).setIfInBounds (k*3+2) z
    (i=k->c[i*3]?=some x∧c[i*3+1]?=some y∧c[i*3+2]?=some z)∧(i≠k->c[i*3]?=cur[i*3]?∧c[i*3+1]?=cur[i*3+1]?∧c[i*3+2]?=cur[i*3+2]?):=by
  intro c
  refine ⟨fun e=>?_,fun e=>?_⟩
  . subst e
    refine ⟨?_,?_,?_⟩
    . show (((cur.setIfInBounds (i*3) x).setIfInBounds (i*3+1) y).setIfInBounds (i*3+2) z)[i*3]?=some x
      rw [Array.getElem?_setIfInBounds_ne (by omega),Array.getElem?_setIfInBounds_ne (by omega),Array.getElem?_setIfInBounds_self_of_lt (by omega)]
    . show (((cur.setIfInBounds (i*3) x).setIfInBounds (i*3+1) y).setIfInBounds (i*3+2) z)[i*3+1]?=some y
      rw [Array.getElem?_setIfInBounds_ne (by omega),Array.getElem?_setIfInBounds_self_of_lt (by simp; omega)]
    . show (((cur.setIfInBounds (i*3) x).setIfInBounds (i*3+1) y).setIfInBounds (i*3+2) z)[i*3+2]?=some z
      rw [Array.getElem?_setIfInBounds_self_of_lt (by simp; omega)]
  . refine ⟨?_,?_,?_⟩
    all_goals
      show (((cur.setIfInBounds (k*3) x).setIfInBounds (k*3+1) y).setIfInBounds (k*3+2) z)[_]?=_
      rw [Array.getElem?_setIfInBounds_ne (by omega),Array.getElem?_setIfInBounds_ne (by omega),Array.getElem?_setIfInBounds_ne (by omega)]
theorem BlkN.step {wr w3:World} {g N k:Nat} {q:Nat->NumR} (h:BlkN wr g N k q) (hb:Below wr.heap.size wr w3) (x:NumR) (hx:Row w3 x.ao x.n x.cap x.d) (hk:k<N) (hg:∀ i b' off,i<k->(q i).ao=some ⟨b',off,none⟩->0<(q i).n->g<b') (hg2:∀ b' off,x.ao=some ⟨b',off,none⟩->0<x.n->g<b') :
    BlkN (((w3.setCell ⟨g,k*3,none⟩ (.bool x.ng)).setCell ⟨g,k*3+1,none⟩ (.slice x.ao x.n x.cap)).setCell ⟨g,k*3+2,none⟩ (.int .i64 x.e)) g N (k+1) (updN q k x):=by
  obtain ⟨cur,hcur,hsz,hc⟩:=h
  have q0:=(hb.block g (Array.getElem?_eq_some_iff.1 hcur).1).trans hcur
  have q1:=heap_set (heap_set (heap_set q0 (k*3) (.bool x.ng)) (k*3+1) (.slice x.ao x.n x.cap)) (k*3+2) (.int .i64 x.e)
  have hw:=wr3 w3 g (k*3) (k*3+1) (k*3+2) (.bool x.ng) (.slice x.ao x.n x.cap) (.int .i64 x.e)
  refine ⟨_,q1,by simp [hsz],fun i hi=>?_⟩
  have hs:=set3_get (cur:=cur) (k:=k) (x:=.bool x.ng) (y:=.slice x.ao x.n x.cap) (z:=.int .i64 x.e) (by omega) i
  by_cases e:i=k
  . subst e
    rw [updN_same]
    exact ⟨hs.1 rfl,hx.wrN hw q0 fun b' off he hn=>by have:=hg2 b' off he hn; omega⟩
  . rw [updN_other q x e]
    obtain ⟨s0,s1,s2⟩:=hs.2 e
    obtain ⟨⟨c0,c1,c2⟩,hR⟩:=hc i (by omega)
    refine ⟨⟨s0.trans c0,s1.trans c1,s2.trans c2⟩,(hR.keeps hb).wrN hw q0 fun b' off he hn=>?_⟩
    have:=hg i b' off (by omega) he hn
    omega
def cells3 (f:Nat->Value):Nat->List Value
  | 0=>[]
  | m+1=>cells3 f m ++ (f m).cells.toList
def Three (v:Value):Prop:=∃ ng so sn sc e,v=.agg #[.bool ng,.slice so sn sc,.int .i64 e]
theorem DAn.three {B:Nat} {w:World} {V:Int} {v:Value} (h:DAn B w V v):Three v:=by
  obtain ⟨ng,s,m,e,rfl,_,hA⟩:=h
  obtain ⟨so,sn,sc,rfl⟩:=hA.shape
  exact ⟨_,_,_,_,_,rfl⟩
theorem cells3_length {f:Nat->Value}:∀ m,(∀ i,i<m->Three (f i))->(cells3 f m).length=m*3
  | 0,_=>rfl
  | m+1,h=>by
    obtain ⟨ng,so,sn,sc,e,he⟩:=h m (by omega)
    rw [cells3,List.length_append,cells3_length m fun i hi=>h i (by omega),he]
    simp [Value.cells]
    omega
theorem cells3_at {f:Nat->Value}:∀ m,(∀ i,i<m->Three (f i))->∀ i j,i<m->j<3->(cells3 f m)[i*3+j]?=(f i).cells[j]?
  | 0,_,i,j,hi,_=>by omega
  | m+1,h,i,j,hi,hj=>by
    have hl:=cells3_length m fun i hi=>h i (by omega)
    rw [cells3]
    by_cases e:i=m
    . subst e
      rw [List.getElem?_append_right (by omega),hl,show i*3+j-i*3=j by omega]
      simp
    . rw [List.getElem?_append_left (by omega)]
      exact cells3_at m (fun i hi=>h i (by omega)) i j (by omega) hj
def OutN (B:Nat) (w:World) (x:Value) (m:Nat) (f:Nat->Value):Prop:=w.ownsRow B 40 3 x m (cells3 f m)
theorem OutN.nil (B:Nat) (w:World) (f:Nat->Value):OutN B w (.slice none 0 0) 0 f:=⟨rfl,.inl ⟨rfl,rfl⟩⟩
theorem OutN.of_block {B:Nat} {w w':World} {x:Value} {m:Nat} {f:Nat->Value} (h:OutN B w x m f) (hb:∀ g,x.ownBlock=some g->w'.heap[g]?=w.heap[g]?):OutN B w' x m f:=by
  refine ⟨h.1,?_⟩
  rcases h.2 with hn | ⟨g,cap,cur,rfl,hbb,hg,rest⟩
  . exact .inl hn
  . exact .inr ⟨g,cap,cur,rfl,hbb,(hb g rfl).trans hg,rest⟩
theorem OutN.typed {B:Nat} {w:World} {x:Value} {m:Nat} {f:Nat->Value} (h:OutN B w x m f) {g:Nat} (hg:x.ownBlock=some g):B<=g∧g<w.heap.size∧∃ cur z,w.heap[g]?=some (.cells cur 40 z):=by
  rcases h.2 with ⟨rfl,_⟩ | ⟨g',cap,cur,rfl,hbb,hg',rest⟩
  . simp [Value.ownBlock] at hg
  . simp only [Value.ownBlock,Option.some.injEq] at hg; subst hg; exact ⟨hbb,(Array.getElem?_eq_some_iff.1 hg').1,cur,_,hg'⟩
theorem OutN.keeps {B:Nat} {w w':World} {x:Value} {m:Nat} {f:Nat->Value} (h:OutN B w x m f) (hb:Below w.heap.size w w'):OutN B w' x m f:=h.of_block fun g hg=>hb.block g (h.typed hg).2.1
theorem OutN.shape {B:Nat} {w:World} {x:Value} {m:Nat} {f:Nat->Value} (h:OutN B w x m f):∃ xo xc,x=.slice xo m xc∧m<=xc∧(0<m->∃ g,xo=some ⟨g,0,none⟩):=by
  rcases h.2 with ⟨rfl,rfl⟩ | ⟨g,cap,cur,rfl,hb,hg,hn,hm,_⟩
  . exact ⟨none,0,rfl,Nat.le_refl _,fun h=>by omega⟩
  . exact ⟨_,cap,rfl,hn,fun _=>⟨g,rfl⟩⟩
theorem OutN.cell {B:Nat} {w:World} {xo:Option Addr} {m xc g:Nat} {f:Nat->Value} (h:OutN B w (.slice xo m xc) m f) (ht:∀ i,i<m->Three (f i)) (hx:xo=some ⟨g,0,none⟩) {i j:Nat} (hi:i<m) (hj:j<3):w.cell? ⟨g,i*3+j,none⟩=(f i).cells[j]?:=by
  rcases h.2 with ⟨_,rfl⟩ | ⟨g',cap,cur,e,hb,hg,hn,hm,hs,ht'⟩
  . omega
  . simp only [Value.slice.injEq] at e
    obtain ⟨rfl,_,rfl⟩:=e
    simp only [Option.some.injEq,Addr.mk.injEq] at hx
    obtain ⟨rfl,_⟩:=hx
    rw [cell_of_row w g' (i*3+j) cur _ _ hg,<- cells3_at m ht i j hi hj,<- ht',List.getElem?_take_of_lt (by omega)]
    simp
theorem DAn.of_blocks {B:Nat} {w w':World} {V:Int} {v:Value} (h:DAn B w V v) (hb:∀ (g:Nat) (cur:Array Value) z,w.heap[g]?=some (.cells cur 3 z)->w'.heap[g]?=w.heap[g]?):DAn B w' V v:=by
  obtain ⟨ng,s,m,e,h1,h2,t,d,hO,h3⟩:=h
  exact ⟨ng,s,m,e,h1,h2,t,d,hO.of_block fun g hg=>by obtain ⟨cur,z,hc⟩:=hO.typed hg; exact hb g cur z hc,h3⟩
structure LS (B:Nat) (w:World) (N:Nat) (X:Nat->Value) (M:Nat->Nat) (F:Nat->Nat->Value):Prop where
  own:∀ j,j<N->OutN B w (X j) (M j) (F j)
  ne:∀ i j,i<N->j<N->i≠j->∀ g,(X i).ownBlock=some g->(X j).ownBlock≠some g
theorem LS.keeps {B:Nat} {w w':World} {N:Nat} {X:Nat->Value} {M:Nat->Nat} {F:Nat->Nat->Value} (h:LS B w N X M F) (hb:Below w.heap.size w w'):LS B w' N X M F:=⟨fun j hj=>(h.own j hj).keeps hb,h.ne⟩
theorem LS.put {B:Nat} {w w':World} {N:Nat} {X:Nat->Value} {M:Nat->Nat} {F:Nat->Nat->Value} (h:LS B w N X M F) (j0:Nat) {row:Option Nat} (hg:w.grownBy w' row) {v':Value} {M':Nat} {F':Nat->Value} (hO:OutN B w' v' M' F') (h1:∀ j,j<N->j≠j0->∀ g,(X j).ownBlock=some g->row≠some g) (h2:∀ j,j<N->j≠j0->∀ g,(X j).ownBlock=some g->v'.ownBlock≠some g) :
    LS B w' N (updV X j0 v') (updV M j0 M') (updV F j0 F'):=by
  refine ⟨fun j hj=>?_,fun i j hi hj hij g hgi=>?_⟩
  . by_cases e:j=j0
    . subst e; rw [updV_same,updV_same,updV_same]; exact hO
    . rw [updV_other _ _ e,updV_other _ _ e,updV_other _ _ e]
      exact (h.own j hj).of_block fun g hgx=>hg.block g ((h.own j hj).typed hgx).2.1 fun e'=>h1 j hj e g hgx e'.symm
  . by_cases e:i=j0
    . subst e
      rw [updV_same] at hgi
      rw [updV_other _ _ (Ne.symm hij)]
      exact fun hgj=>h2 j hj (Ne.symm hij) g hgj hgi
    . rw [updV_other _ _ e] at hgi
      by_cases e2:j=j0
      . subst e2
        rw [updV_same]
        exact h2 i hi e g hgi
      . rw [updV_other _ _ e2]
        exact h.ne i j hi hj hij g hgi
theorem LS.row {B:Nat} {w:World} {N:Nat} {X:Nat->Value} {M:Nat->Nat} {F:Nat->Nat->Value} (h:LS B w N X M F) {j:Nat} (hj:j<N):∀ g,(X j).ownBlock=some g->∃ (cur:Array Value) (z:Nat × Nat),w.heap[g]?=some (Obj.cells cur 40 z):=fun g hg=>(((h.own j hj).typed hg).2.2)
theorem LS.ge {B:Nat} {w:World} {N:Nat} {X:Nat->Value} {M:Nat->Nat} {F:Nat->Nat->Value} (h:LS B w N X M F) {j:Nat} (hj:j<N):∀ g,(X j).ownBlock=some g->B<=g:=fun g hg=>((h.own j hj).typed hg).1
def Src (B:Nat) (w:World) (n:Nat) (r:Nat->NumR) (V:Int) (v:Value):Prop:=DAn B w V v∨∃ i,i<n∧v=(r i).v∧V=(r i).V
theorem Src.keeps {B:Nat} {w w':World} {n:Nat} {r:Nat->NumR} {V:Int} {v:Value} (h:Src B w n r V v) (hb:Below w.heap.size w w'):Src B w' n r V v:=by
  rcases h with h | h
  . exact .inl (h.keeps hb)
  . exact .inr h
theorem ints_set3 {w:World} {g o0 o1 o2:Nat} {xs:Array Value} {z:Nat × Nat} (hg:w.heap[g]?=some (.cells xs 40 z)) (x y u:Value):∀ (g':Nat) (cur:Array Value) z',w.heap[g']?=some (.cells cur 3 z')->(((w.setCell ⟨g,o0,none⟩ x).setCell ⟨g,o1,none⟩ y).setCell ⟨g,o2,none⟩ u).heap[g']?=w.heap[g']?:=fun g' cur z' hc=>by
  refine (wr3 w g o0 o1 o2 x y u).block g' (Array.getElem?_eq_some_iff.1 hc).1 fun e=>?_
  subst e
  rw [hg] at hc
  simp at hc
theorem blk_on {W y:World} (hb:Below W.heap.size W y) {g:Nat} {X:Obj} (h:W.heap[g]?=some X):y.heap[g]?=some X:=(hb.block _ (Array.getElem?_eq_some_iff.1 h).1).trans h
theorem dan_res3 {B:Nat} {w3:World} {V:Int} {v:Value} (hv:DAn B w3 V v) {g:Nat} {xs:Array Value} {z:Nat × Nat} (hg:w3.heap[g]?=some (.cells xs 40 z)) (a b c:Value) :
    DAn B (((w3.setCell ⟨g,0,none⟩ a).setCell ⟨g,1,none⟩ b).setCell ⟨g,2,none⟩ c) V v:=hv.of_blocks (ints_set3 hg a b c)
def Det (a1 a2 b1 b2 V:Int):Prop:=∃ C D,C*2^4194304=a1*b2∧D*2^4194304=a2*b1∧V=C-D
theorem Det.unique {a1 a2 b1 b2 V V':Int} (h:Det a1 a2 b1 b2 V) (k:Det a1 a2 b1 b2 V'):V=V':=by
  obtain ⟨C,D,h1,h2,rfl⟩:=h
  obtain ⟨C',D',k1,k2,rfl⟩:=k
  rw [scale_inj (h1.trans k1.symm),scale_inj (h2.trans k2.symm)]
set_option maxRecDepth 100000 in
set_option maxHeartbeats 1000000 in
theorem rof_any (b:Int) (w:World) (hb:rng b) (hp:pok b=true) :
    Calls Tryz.prog 154 #[.int .i64 b] w fun r w'=>∃ v,r=.returned v∧DAns w w' (sg (pneg b) (pmag b)*pw (pexp b)) v:=by
  obtain ⟨i0,i1,i2,i3⟩:=pmag_in hp
  have hF:=fun W=>rfrom_any (pmag b) W i0 (by omega)
  have hN:=fun W ao n cap d (h:Row W ao n cap d) (hd:Dig d n) (hn:n<=40000)=>rnorm_any (pneg b) ao n cap d (pexp b) W h hd hn (by omega) (by omega)
  have hP:=fun W=>refParts b W hb
  generalize pneg b=ng at *
  generalize pexp b=ex at *
  generalize pmag b=mg at *
  rw [hp] at hP
  go_enter Tryz.func154,Tryz.ntmps154
  go_wp2_with fail
  refine (hP _).mono ?_
  rintro r w1 ⟨rfl,rfl⟩
  go_wp2_with fail
  refine (hF _).mono ?_
  rintro r w2 ⟨v,rfl,hA⟩
  obtain ⟨so,sn,sc,d,rfl,hR,hNr,hv⟩:=hA.num
  have hsn:sn<=100:=hA.num.len (k:=100) (by have:=P_le (show 3<=100 by omega); have:P 3=1237940039285380274899124224:=rfl; omega)
  have hbw:=bel_trans (bel_alloc w _) hA.below
  go_wp2_with fail
  refine (hN _ _ _ _ _ hR hNr.1 (by omega)).mono ?_
  rw [hv]
  rintro r w3 ⟨v,rfl,hD⟩
  obtain ⟨ng',s',m',e',rfl,hyy,hA2⟩:=id hD
  obtain ⟨so',sn',sc',rfl⟩:=hA2.num.shape
  have q0:=((bel_trans hA.below hD.below).block w.heap.size (by rw [size1]; omega)).trans (heap_a1 _ _)
  have x0:=blkC q0 0 rfl
  have x1:=blkC q0 1 rfl
  have x2:=blkC q0 2 rfl
  have z0:=blkF q0 0
  have z1:=blkF q0 1
  have z2:=blkF q0 2
  go_wp2
  refine bodyPost_ret (v:=.agg #[.bool ng',.slice so' sn' sc',.int .i64 e']) (by simp [results,Tryz.results154,go_sem,x0,x1,x2]) rfl ⟨_,rfl,?_⟩
  exact dans_res3 (g:=w.heap.size) hD hbw (Nat.le_refl _) (Nat.lt_of_lt_of_le (by rw [size1]; omega) hA.below.size) _ _ _
set_option maxRecDepth 100000 in
theorem r3exact_any (b:Int) (w:World) (hb:rng b) (hp:pok b=true) :
    Calls Tryz.prog 84 #[.int .i64 b] w fun r w'=>∃ v,r=.returned v∧DAns w w' (patV b) v:=by
  have r_k:=heap_a1 w (.cells #[.bool false,.slice none 0 0,.int .i64 0] 40)
  have hb0:=bel_alloc w (.cells #[.bool false,.slice none 0 0,.int .i64 0] 40)
  have CO:Hid (∀ W,Calls Tryz.prog 154 #[.int .i64 b] W fun r w'=>∃ v,r=.returned v∧DAns W w' (patV b) v):=fun W=>rof_any b W hb hp
  go_enter Tryz.func84,Tryz.ntmps84
  go_wp2_with fail
  generalize w.alloc (.cells #[.bool false,.slice none 0 0,.int .i64 0] 40)=x0 at r_k hb0 ⊢
  have hs0:=(Array.getElem?_eq_some_iff.1 r_k).1
  refine (CO.out _).mono ?_
  rintro _ y1 ⟨v,rfl,h1⟩
  obtain ⟨n_g,n_o,n_n,n_c,n_e,rfl⟩:=dans_shape h1
  have hw:=h1.below
  have r_k:=(hw.block _ (Array.getElem?_eq_some_iff.1 r_k).1).trans r_k
  have k0:=blkC r_k 0 rfl
  have k1:=blkC r_k 1 rfl
  have k2:=blkC r_k 2 rfl
  have z0:=blkF r_k 0
  have z1:=blkF r_k 1
  have z2:=blkF r_k 2
  go_wp2
  refine bodyPost_ret (v:=.agg #[.bool n_g,.slice n_o n_n n_c,.int .i64 n_e]) (by simp [results,Tryz.results84,go_sem,k0,k1,k2]) rfl ⟨_,rfl,?_⟩
  exact dans_res3 (g:=w.heap.size) h1 hb0 (Nat.le_refl _) hs0 _ _ _
theorem dan_opp {B:Nat} {w:World} {y:NumR} (h:DAn B w y.V y.v) (ok:okR y=true):DAn B w (-y.V) y.opp.v:=by
  obtain ⟨m,h1,h2⟩:=DAn.parts h
  obtain ⟨e1,e2⟩:=opp_V ok
  rw [e1] at e2
  obtain ⟨_,rfl,_⟩:=h1.unique (okR_dy ok).1
  exact ⟨_,_,_,_,rfl,e2,h2⟩
theorem DAn.shape {B:Nat} {w:World} {V:Int} {v:Value} (h:DAn B w V v):∃ ng so sn sc e,v=.agg #[.bool ng,.slice so sn sc,.int .i64 e]:=h.three
set_option maxRecDepth 100000 in
theorem r3minus_any {B:Nat} {w:World} {x y:Value} {A C:Int} {K:Nat} (hx:DAn B w A x) (hy:DAn B w C y) (hB:B<=w.heap.size) (bA:Bd K A) (bC:Bd K C) (hK:K<=28000) :
    Calls Tryz.prog 83 #[x,y] w fun r w'=>∃ v,r=.returned v∧DAn B w' (A-C) v∧Below w.heap.size w w':=by
  have CS:∀ W,Below w.heap.size w W->Calls Tryz.prog 153 #[x,y] W fun r w'=>∃ v,r=.returned v∧DAn B w' (A-C) v∧Below W.heap.size W w':=fun W hW=>by
    have hx':=hx.keeps hW
    have hy':=hy.keeps hW
    obtain ⟨x,rfl,hR,ok,rfl⟩:=hx'.num.open (bA.ok (by omega))
    obtain ⟨y,rfl,hR',ok',rfl⟩:=hy'.num.open (bC.ok (by omega))
    refine (rsub3_any x y W hR hR' ok ok' (K:=K) (by omega) bA bC).mono ?_
    rintro r w' ⟨v,rfl,h⟩
    refine ⟨v,rfl,?_,h.1⟩
    rw [Int.sub_eq_add_neg]
    rcases h.2 with h1 | ⟨h1,rfl⟩ | ⟨h1,rfl⟩
    . exact h1.dan.lower (Nat.le_trans hB hW.size)
    . rw [h1,Int.zero_add]; exact (dan_opp hy' ok').keeps h.1
    . rw [h1,Int.add_zero]; exact hx'.keeps h.1
  obtain ⟨p_g,p_o,p_n,p_c,p_e,rfl⟩:=hx.shape
  obtain ⟨q_g,q_o,q_n,q_c,q_e,rfl⟩:=hy.shape
  clear hx hy bA bC
  have hb0:=bel_a3 w (.cells #[.bool p_g,.slice p_o p_n p_c,.int .i64 p_e] 40) (.cells #[.bool q_g,.slice q_o q_n q_c,.int .i64 q_e] 40) (.cells #[.bool false,.slice none 0 0,.int .i64 0] 40)
  have r_k:=h3_2 w (.cells #[.bool p_g,.slice p_o p_n p_c,.int .i64 p_e] 40) (.cells #[.bool q_g,.slice q_o q_n q_c,.int .i64 q_e] 40) (.cells #[.bool false,.slice none 0 0,.int .i64 0] 40)
  go_enter Tryz.func83,Tryz.ntmps83
  go_wp2_with fail
  generalize ((w.alloc (.cells #[.bool p_g,.slice p_o p_n p_c,.int .i64 p_e] 40)).alloc (.cells #[.bool q_g,.slice q_o q_n q_c,.int .i64 q_e] 40)).alloc (.cells #[.bool false,.slice none 0 0,.int .i64 0] 40)=x0 at r_k hb0 ⊢
  refine (CS _ hb0).mono ?_
  rintro _ y1 ⟨v,rfl,h1,hw⟩
  obtain ⟨n_g,n_o,n_n,n_c,n_e,rfl⟩:=h1.shape
  have r_k:=(hw.block _ (Array.getElem?_eq_some_iff.1 r_k).1).trans r_k
  have k0:=blkC r_k 0 rfl
  have k1:=blkC r_k 1 rfl
  have k2:=blkC r_k 2 rfl
  have z0:=blkF r_k 0
  have z1:=blkF r_k 1
  have z2:=blkF r_k 2
  go_wp2
  refine bodyPost_ret (v:=.agg #[.bool n_g,.slice n_o n_n n_c,.int .i64 n_e]) (by simp [results,Tryz.results83,go_sem,k0,k1,k2]) rfl ⟨_,rfl,dan_res3 h1 r_k _ _ _,bel_set3 (bel_trans hb0 hw) (by omega) _ _ _⟩
set_option maxRecDepth 100000 in
theorem r3times_any {w:World} {x y:Value} {A C:Int} {K:Nat} (hx:DNum w x A) (hy:DNum w y C) (bA:Bd K A) (bC:Bd K C) (hK:K<=14000) :
    Calls Tryz.prog 80 #[x,y] w fun r w'=>∃ v V,r=.returned v∧DAns w w' V v∧V*2^4194304=A*C∧Bd (2*K) V:=by
  have CS:∀ W,Below w.heap.size w W->Calls Tryz.prog 151 #[x,y] W fun r w'=>∃ v V,r=.returned v∧DAns W w' V v∧V*2^4194304=A*C∧Bd (2*K) V:=fun W hW=>by
    have hx':=hx.keeps hW
    have hy':=hy.keeps hW
    obtain ⟨x,rfl,hR,ok,rfl⟩:=hx'.open (bA.ok (by omega))
    obtain ⟨y,rfl,hR',ok',rfl⟩:=hy'.open (bC.ok (by omega))
    refine (rmul3_any x y W hR hR' (okR_sane ok) (okR_sane ok')).mono ?_
    rintro r w' ⟨v,rfl,h⟩
    have hC:=mulV_eq (x:=x) (y:=y) (by have:=(okR_sane ok).2.2.1; omega) (by have:=(okR_sane ok').2.2.1; omega)
    exact ⟨v,_,rfl,h,hC,bA.mul bC hC (by omega)⟩
  obtain ⟨p,rfl,_,_,_⟩:=hx.open (bA.ok (by omega))
  obtain ⟨q,rfl,_,_,_⟩:=hy.open (bC.ok (by omega))
  obtain ⟨p_g,p_o,p_n,p_c,p_d,p_e⟩:=p
  obtain ⟨q_g,q_o,q_n,q_c,q_d,q_e⟩:=q
  unfold NumR.v at *
  simp only at *
  clear hx hy bA bC
  have hb0:=bel_a3 w (.cells #[.bool p_g,.slice p_o p_n p_c,.int .i64 p_e] 40) (.cells #[.bool q_g,.slice q_o q_n q_c,.int .i64 q_e] 40) (.cells #[.bool false,.slice none 0 0,.int .i64 0] 40)
  have r_k:=h3_2 w (.cells #[.bool p_g,.slice p_o p_n p_c,.int .i64 p_e] 40) (.cells #[.bool q_g,.slice q_o q_n q_c,.int .i64 q_e] 40) (.cells #[.bool false,.slice none 0 0,.int .i64 0] 40)
  go_enter Tryz.func80,Tryz.ntmps80
  go_wp2_with fail
  generalize ((w.alloc (.cells #[.bool p_g,.slice p_o p_n p_c,.int .i64 p_e] 40)).alloc (.cells #[.bool q_g,.slice q_o q_n q_c,.int .i64 q_e] 40)).alloc (.cells #[.bool false,.slice none 0 0,.int .i64 0] 40)=x0 at r_k hb0 ⊢
  have hs0:=(Array.getElem?_eq_some_iff.1 r_k).1
  refine (CS _ hb0).mono ?_
  rintro _ y1 ⟨v,V,rfl,h1,hE,hBd⟩
  obtain ⟨n_g,n_o,n_n,n_c,n_e,rfl⟩:=dans_shape h1
  have hw:=h1.below
  have r_k:=(hw.block _ (Array.getElem?_eq_some_iff.1 r_k).1).trans r_k
  have k0:=blkC r_k 0 rfl
  have k1:=blkC r_k 1 rfl
  have k2:=blkC r_k 2 rfl
  have z0:=blkF r_k 0
  have z1:=blkF r_k 1
  have z2:=blkF r_k 2
  go_wp2
  refine bodyPost_ret (v:=.agg #[.bool n_g,.slice n_o n_n n_c,.int .i64 n_e]) (by simp [results,Tryz.results80,go_sem,k0,k1,k2]) rfl ⟨_,V,rfl,?_,hE,hBd⟩
  exact dans_res3 (g:=w.heap.size+2) h1 hb0 (by omega) hs0 _ _ _
theorem blks2 (w:World) (o0 o1:Obj):Below w.heap.size w ((w.alloc o0).alloc o1)∧((w.alloc o0).alloc o1).heap[w.heap.size]?=some o0∧((w.alloc o0).alloc o1).heap[w.heap.size+1]?=some o1∧((w.alloc o0).alloc o1).heap.size=w.heap.size+1+1 :=
  ⟨bel_trans (bel_alloc w o0) (bel_alloc (w.alloc o0) o1),heap_past o1 (heap_new o0 (by rfl)),heap_new o1 (by simp only [size_alloc]),by simp only [size_alloc]⟩
theorem blks3 (w:World) (o0 o1 o2:Obj):Below w.heap.size w (((w.alloc o0).alloc o1).alloc o2)∧(((w.alloc o0).alloc o1).alloc o2).heap[w.heap.size]?=some o0∧(((w.alloc o0).alloc o1).alloc o2).heap[w.heap.size+1]?=some o1∧(((w.alloc o0).alloc o1).alloc o2).heap[w.heap.size+1+1]?=some o2∧(((w.alloc o0).alloc o1).alloc o2).heap.size=w.heap.size+1+1+1 :=
  ⟨bel_trans (bel_trans (bel_alloc w o0) (bel_alloc (w.alloc o0) o1)) (bel_alloc ((w.alloc o0).alloc o1) o2),heap_past o2 (heap_past o1 (heap_new o0 (by rfl))),heap_past o2 (heap_new o1 (by simp only [size_alloc])),heap_new o2 (by simp only [size_alloc]),by simp only [size_alloc]⟩
theorem blks4 (w:World) (o0 o1 o2 o3:Obj):Below w.heap.size w ((((w.alloc o0).alloc o1).alloc o2).alloc o3)∧((((w.alloc o0).alloc o1).alloc o2).alloc o3).heap[w.heap.size]?=some o0∧((((w.alloc o0).alloc o1).alloc o2).alloc o3).heap[w.heap.size+1]?=some o1∧((((w.alloc o0).alloc o1).alloc o2).alloc o3).heap[w.heap.size+1+1]?=some o2∧((((w.alloc o0).alloc o1).alloc o2).alloc o3).heap[w.heap.size+1+1+1]?=some o3∧((((w.alloc o0).alloc o1).alloc o2).alloc o3).heap.size=w.heap.size+1+1+1+1 :=
  ⟨bel_trans (bel_trans (bel_trans (bel_alloc w o0) (bel_alloc (w.alloc o0) o1)) (bel_alloc ((w.alloc o0).alloc o1) o2)) (bel_alloc (((w.alloc o0).alloc o1).alloc o2) o3),heap_past o3 (heap_past o2 (heap_past o1 (heap_new o0 (by rfl)))),heap_past o3 (heap_past o2 (heap_new o1 (by simp only [size_alloc]))),heap_past o3 (heap_new o2 (by simp only [size_alloc])),heap_new o3 (by simp only [size_alloc]),by simp only [size_alloc]⟩
theorem blks5 (w:World) (o0 o1 o2 o3 o4:Obj):Below w.heap.size w (((((w.alloc o0).alloc o1).alloc o2).alloc o3).alloc o4)∧(((((w.alloc o0).alloc o1).alloc o2).alloc o3).alloc o4).heap[w.heap.size]?=some o0∧(((((w.alloc o0).alloc o1).alloc o2).alloc o3).alloc o4).heap[w.heap.size+1]?=some o1∧(((((w.alloc o0).alloc o1).alloc o2).alloc o3).alloc o4).heap[w.heap.size+1+1]?=some o2∧(((((w.alloc o0).alloc o1).alloc o2).alloc o3).alloc o4).heap[w.heap.size+1+1+1]?=some o3∧(((((w.alloc o0).alloc o1).alloc o2).alloc o3).alloc o4).heap[w.heap.size+1+1+1+1]?=some o4∧(((((w.alloc o0).alloc o1).alloc o2).alloc o3).alloc o4).heap.size=w.heap.size+1+1+1+1+1 :=
  ⟨bel_trans (bel_trans (bel_trans (bel_trans (bel_alloc w o0) (bel_alloc (w.alloc o0) o1)) (bel_alloc ((w.alloc o0).alloc o1) o2)) (bel_alloc (((w.alloc o0).alloc o1).alloc o2) o3)) (bel_alloc ((((w.alloc o0).alloc o1).alloc o2).alloc o3) o4),heap_past o4 (heap_past o3 (heap_past o2 (heap_past o1 (heap_new o0 (by rfl))))),heap_past o4 (heap_past o3 (heap_past o2 (heap_new o1 (by simp only [size_alloc])))),heap_past o4 (heap_past o3 (heap_new o2 (by simp only [size_alloc]))),heap_past o4 (heap_new o3 (by simp only [size_alloc])),heap_new o4 (by simp only [size_alloc]),by simp only [size_alloc]⟩
structure Pts (w:World) (ao:Option Addr) (n cap:Nat) (px py:Nat->Int):Prop where
  le:n<=cap
  max:cap<=9223372036854775807
  spot:0<n->∃ b off,ao=some ⟨b,off,none⟩∧b<w.heap.size∧∀ i,i<n->w.cell? ⟨b,off+i*2,none⟩=some (.int .i64 (px i))∧w.cell? ⟨b,off+i*2+1,none⟩=some (.int .i64 (py i))
theorem Pts.keeps {w w':World} {ao:Option Addr} {n cap:Nat} {px py:Nat->Int} (h:Pts w ao n cap px py) (hb:Below w.heap.size w w'):Pts w' ao n cap px py :=
  ⟨h.le,h.max,fun hn=>by
    obtain ⟨b,off,rfl,hlt,hc⟩:=h.spot hn
    exact ⟨b,off,rfl,Nat.lt_of_lt_of_le hlt hb.size,fun i hi=>⟨(hb.cell (p:=⟨b,off+i*2,none⟩) hlt).trans (hc i hi).1,(hb.cell (p:=⟨b,off+i*2+1,none⟩) hlt).trans (hc i hi).2⟩⟩⟩
def allB (f:Nat->Bool) (n:Nat):Bool:=decide (∀ i,i<n->f i=true)
theorem allB_succ (f:Nat->Bool) (n:Nat):allB f (n+1)=(allB f n && f n):=by
  unfold allB
  by_cases h:f n=true
  . rw [h,Bool.and_true]
    congr 1
    exact propext ⟨fun k i hi=>k i (by omega),fun k i hi=>by by_cases e:i=n; (· subst e; exact h); (· exact k i (by omega))⟩
  . have h':f n=false:=by simpa using h
    rw [h',Bool.and_false]
    exact decide_eq_false fun k=>h (k n (by omega))
theorem allB_zero (f:Nat->Bool):allB f 0=true:=decide_eq_true fun i hi=>absurd hi (Nat.not_lt_zero _)
def l2 (a b:Int) (i:Nat):Int:=if i=0 then a else b
def l3 (a b c:Int) (i:Nat):Int:=if i=0 then a else if i=1 then b else c
def l4 (a b c d:Int) (i:Nat):Int:=if i=0 then a else if i=1 then b else if i=2 then c else d
theorem allB4 (P:Int->Int->Bool) (ax ay bx by' cx cy dx dy:Int):allB (fun i=>P (l4 ax bx cx dx i) (l4 ay by' cy dy i)) 4=(P ax ay && P bx by' && P cx cy && P dx dy):=by
  rw [allB_succ,allB_succ,allB_succ,allB_succ,allB_zero,Bool.true_and]; rfl
theorem rng4 {a b c d:Int} (ha:rng a) (hb:rng b) (hc:rng c) (hd:rng d) (i:Nat):rng (l4 a b c d i):=by unfold l4; split; assumption; split; assumption; split <;> assumption
def ptok (x y:Int):Bool:=pok x && pok y
theorem cc_b {B:Nat} {w W:World} {p:Addr} {v:Value} (h:w.cell? p=some v) (hb:Below B w W) (hp:p.block<B):W.cell? p=some v:=(hb.cell hp).trans h
theorem cc_s3 {B:Nat} {w W:World} (h:Below B w W) {g:Nat} (hg:B<=g) (o0 o1 o2:Nat) (x y z:Value):Below B w (((W.setCell ⟨g,o0,none⟩ x).setCell ⟨g,o1,none⟩ y).setCell ⟨g,o2,none⟩ z) :=
  ((h.setCell (p:=⟨g,o0,none⟩) hg x).setCell (p:=⟨g,o1,none⟩) hg y).setCell (p:=⟨g,o2,none⟩) hg z
theorem cc_ne {W:World} {g k:Nat} {X:Obj} (h:W.heap[k]?=some X) (hn:k≠g) (o:Nat) (v:Value):(W.setCell ⟨g,o,none⟩ v).heap[k]?=some X:=by
  have:=(Wr.refl g W).setCell o v
  exact (this.block k (Array.getElem?_eq_some_iff.1 h).1 hn).trans h
theorem cc_n3 {W:World} {g k:Nat} {X:Obj} (h:W.heap[k]?=some X) (hn:k≠g) (o0 o1 o2:Nat) (x y z:Value):(((W.setCell ⟨g,o0,none⟩ x).setCell ⟨g,o1,none⟩ y).setCell ⟨g,o2,none⟩ z).heap[k]?=some X:=cc_ne (cc_ne (cc_ne h hn o0 x) hn o1 y) hn o2 z
theorem cc_dan {B:Nat} {w:World} {V:Int} {v:Value} (h:DAn B w V v) {g:Nat} {xs:Array Value} {t:TypeId} {z:Nat × Nat} (hg:w.heap[g]?=some (.cells xs t z)) (ht:t≠3) (o0 o1 o2:Nat) (x y u:Value):DAn B (((w.setCell ⟨g,o0,none⟩ x).setCell ⟨g,o1,none⟩ y).setCell ⟨g,o2,none⟩ u) V v :=
  h.of_blocks fun k cur z' hk=>by
    have hne:k≠g:=fun e=>by
      subst e
      rw [hg] at hk
      simp only [Option.some.injEq,Obj.cells.injEq] at hk
      exact ht hk.2.1
    exact (wr3 w g _ _ _ _ _ _).block k (Array.getElem?_eq_some_iff.1 hk).1 hne
def cdet (X Y:Nat->Int):Int:=(X 0*X 0+Y 0*Y 0)*(X 1*Y 2-X 2*Y 1)+(X 1*X 1+Y 1*Y 1)*(X 2*Y 0-X 0*Y 2)+(X 2*X 2+Y 2*Y 2)*(X 0*Y 1-X 1*Y 0)
def cwX (p:Nat->Int) (i:Nat):Int:=patV (p i)-patV (p 3)
set_option maxRecDepth 100000 in
set_option maxHeartbeats 1000000 in
theorem csure_any (x_g:Bool) (x_o:Option Addr) (x_n x_c:Nat) (x_e e:Int) (w:World) :
    Calls Tryz.prog 149 #[.agg #[.bool x_g,.slice x_o x_n x_c,.int .i64 x_e],.int .i64 e] w fun r w'=>r=.returned (.agg #[.bool x_g,.slice x_o x_n x_c,.int .i64 x_e])∧Below w.heap.size w w':=by
  have hb0:=bel_alloc2 w (.cells #[.bool x_g,.slice x_o x_n x_c,.int .i64 x_e] 40) (.cells #[.bool false,.slice none 0 0,.int .i64 0] 40)
  have x_k:=heap_a2 w (.cells #[.bool x_g,.slice x_o x_n x_c,.int .i64 x_e] 40) (.cells #[.bool false,.slice none 0 0,.int .i64 0] 40)
  have r_k:=heap_b2 w (.cells #[.bool x_g,.slice x_o x_n x_c,.int .i64 x_e] 40) (.cells #[.bool false,.slice none 0 0,.int .i64 0] 40)
  go_enter Tryz.func149,Tryz.ntmps149
  go_wp2_with fail
  have r_j:=heap_b2 w (.cells #[.bool x_g,.slice x_o x_n x_c,.int .i64 x_e] 40) (.cells #[.bool x_g,.slice x_o x_n x_c,.int .i64 x_e] 40)
  have k0:=blkC r_j 0 rfl
  have k1:=blkC r_j 1 rfl
  have k2:=blkC r_j 2 rfl
  exact bodyPost_ret (v:=.agg #[.bool x_g,.slice x_o x_n x_c,.int .i64 x_e]) (by simp [results,Tryz.results149,go_sem,k0,k1,k2]) rfl ⟨rfl,bel_alloc2 _ _ _⟩
set_option maxRecDepth 100000 in
theorem cnums (w:World) :
    Calls Tryz.prog 75 #[] w fun r w'=>r=.returned (.agg #[.func (.func 97) #[] #[],.func (.func 98) #[] #[],.func (.func 99) #[] #[],.func (.func 148) #[] #[]])∧Below w.heap.size w w':=by
  have hst:∀ p F m w,(store p (.func (.func F) #[] #[]) m).run Tryz.prog w=stored Tryz.prog w p (.func (.func F) #[] #[]) m:=fun p F m w=>run_store _ w p _ m rfl
  go_enter Tryz.func75,Tryz.ntmps75
  go_wp2_with fail
  have r_j:=heap_a1 w (.cells #[.func (.func 97) #[] #[],.func (.func 98) #[] #[],.func (.func 99) #[] #[],.func (.func 148) #[] #[]] 116)
  have k0:=blkC r_j 0 rfl
  have k1:=blkC r_j 1 rfl
  have k2:=blkC r_j 2 rfl
  have k3:=blkC r_j 3 rfl
  exact bodyPost_ret (v:=.agg #[.func (.func 97) #[] #[],.func (.func 98) #[] #[],.func (.func 99) #[] #[],.func (.func 148) #[] #[]]) (by simp [results,Tryz.results75,go_sem,k0,k1,k2,k3]) rfl ⟨rfl,bel_alloc _ _⟩
set_option maxRecDepth 100000 in
set_option maxHeartbeats 2000000 in
theorem csq_any {w:World} {x_g:Bool} {x_o:Option Addr} {x_n x_c:Nat} {x_e A:Int} {K:Nat} (hx:DNum w (.agg #[.bool x_g,.slice x_o x_n x_c,.int .i64 x_e]) A) (bA:Bd K A) (hK:K<=14000) (hT:Tab w) :
    Calls Tryz.prog 148 #[.agg #[.bool x_g,.slice x_o x_n x_c,.int .i64 x_e]] w fun r w'=>∃ v C,r=.returned (.tuple #[v,.int .i64 0])∧DAns w w' C v∧C*2^4194304=A*A∧Bd (2*K) C:=by
  have CM:Hid (∀ W,Below w.heap.size w W->Calls Tryz.prog 99 #[.agg #[.bool x_g,.slice x_o x_n x_c,.int .i64 x_e],.agg #[.bool x_g,.slice x_o x_n x_c,.int .i64 x_e]] W fun r w'=>∃ v C,r=.returned (.tuple #[v,.int .i64 0])∧DAns W w' C v∧C*2^4194304=A*A∧Bd (2*K) C):=fun W hW=>mul_B (hx.keeps hW) (hx.keeps hW) bA bA hK (hT.keeps hW)
  clear hx bA hT
  obtain ⟨hb0,x_k,r_k,hsz0⟩:=blks2 w (.cells #[.bool x_g,.slice x_o x_n x_c,.int .i64 x_e] 40) (.cells #[.bool false,.slice none 0 0,.int .i64 0] 40)
  clear hsz0
  have f0:=blkC x_k 0 rfl
  have f1:=blkC x_k 1 rfl
  have f2:=blkC x_k 2 rfl
  go_enter Tryz.func148,Tryz.ntmps148
  go_wp2_with fail
  clear f0 f1 f2
  generalize (w.alloc (.cells #[.bool x_g,.slice x_o x_n x_c,.int .i64 x_e] 40)).alloc (.cells #[.bool false,.slice none 0 0,.int .i64 0] 40)=x0 at hb0 x_k r_k ⊢
  have hs0:=(Array.getElem?_eq_some_iff.1 r_k).1
  refine (CM.out _ hb0).mono ?_
  rintro _ y1 ⟨v,C,rfl,h1,hE,hB⟩
  obtain ⟨n_g,n_o,n_n,n_c,n_e,rfl⟩:=dans_shape h1
  have hw1:=h1.below
  replace r_k:=blk_on hw1 r_k
  have k0:=blkC r_k 0 rfl
  have k1:=blkC r_k 1 rfl
  have k2:=blkC r_k 2 rfl
  have z0:=blkF r_k 0
  have z1:=blkF r_k 1
  have z2:=blkF r_k 2
  go_wp2
  exact bodyPost_ret (v:=.tuple #[.agg #[.bool n_g,.slice n_o n_n n_c,.int .i64 n_e],.int .i64 0]) (by simp [results,Tryz.results148,go_sem,k0,k1,k2]) rfl ⟨_,C,rfl,dans_res3 (g:=w.heap.size+1) h1 hb0 (by omega) hs0 _ _ _,hE,hB⟩
theorem cc_pts {W:World} {g:Nat} {t:TypeId} {px py:Nat->Int} (h:W.heap[g]?=some (.cells #[.int .i64 (px 0),.int .i64 (py 0),.int .i64 (px 1),.int .i64 (py 1),.int .i64 (px 2),.int .i64 (py 2),.int .i64 (px 3),.int .i64 (py 3)] t (0,0))) {i:Nat} (hi:i<4):W.cell? ⟨g,i*2,none⟩=some (.int .i64 (px i))∧W.cell? ⟨g,i*2+1,none⟩=some (.int .i64 (py i)) :=
  match i,hi with
  | 0,_=>⟨blkC h 0 rfl,blkC h 1 rfl⟩
  | 1,_=>⟨blkC h 2 rfl,blkC h 3 rfl⟩
  | 2,_=>⟨blkC h 4 rfl,blkC h 5 rfl⟩
  | 3,_=>⟨blkC h 6 rfl,blkC h 7 rfl⟩
set_option maxRecDepth 100000 in
set_option maxHeartbeats 4000000 in
theorem cex1_any {px py:Nat->Int} {i g:Nat} {t:TypeId} (hi:i<3) (hpx:∀ i,i<4->pok (px i)=true) (hpy:∀ i,i<4->pok (py i)=true) (w:World) (hg:w.heap[g]?=some (.cells #[.int .i64 (px 0),.int .i64 (py 0),.int .i64 (px 1),.int .i64 (py 1),.int .i64 (px 2),.int .i64 (py 2),.int .i64 (px 3),.int .i64 (py 3)] t (0,0))) (H:Hold4 w) :
    Calls Tryz.prog 77 #[.int .i64 i,.pointer (some ⟨g,0,none⟩)] w fun r w'=>∃ x y,r=.returned (.tuple #[x,y])∧DAn w.heap.size w' (patV (px i)-patV (px 3)) x∧DAn w.heap.size w' (patV (py i)-patV (py 3)) y∧Below w.heap.size w w':=by
  have C1:Hid (∀ W,Below w.heap.size w W->Calls Tryz.prog 78 #[.int .i64 (px i),.int .i64 (px 3)] W fun r w'=>∃ v,r=.returned v∧DAns W w' (patV (px i)-patV (px 3)) v):=fun W hW=>oapart_any (hpx i (by omega)) (hpx 3 (by decide)) W (H.keeps hW)
  have C2:Hid (∀ W,Below w.heap.size w W->Calls Tryz.prog 78 #[.int .i64 (py i),.int .i64 (py 3)] W fun r w'=>∃ v,r=.returned v∧DAns W w' (patV (py i)-patV (py 3)) v):=fun W hW=>oapart_any (hpy i (by omega)) (hpy 3 (by decide)) W (H.keeps hW)
  obtain ⟨c0,c1⟩:=cc_pts hg (show i<4 by omega)
  have c2:w.cell? ⟨g,6,none⟩=_:=(cc_pts hg (show 3<4 by decide)).1
  have c3:w.cell? ⟨g,7,none⟩=_:=(cc_pts hg (show 3<4 by decide)).2
  have hgl:=(Array.getElem?_eq_some_iff.1 hg).1
  have i4:(i:Int)<4:=by omega
  have i0:(0:Int)<=(i:Int):=by omega
  clear hg H hpx hpy hi
  generalize px i=a0 at *
  generalize py i=a1 at *
  generalize px 3=d0 at *
  generalize py 3=d1 at *
  generalize patV a0-patV d0=X at *
  generalize patV a1-patV d1=Y at *
  have KK:∀ W,Below w.heap.size w W->W.cell? ⟨g,i*2,none⟩=some (.int .i64 a0)∧W.cell? ⟨g,i*2+1,none⟩=some (.int .i64 a1)∧W.cell? ⟨g,6,none⟩=some (.int .i64 d0)∧W.cell? ⟨g,7,none⟩=some (.int .i64 d1):=fun W hb=>⟨cc_b c0 hb hgl,cc_b c1 hb hgl,cc_b c2 hb hgl,cc_b c3 hb hgl⟩
  obtain ⟨hb0,a_k,b_k,hsz0⟩:=blks2 w (.cells #[.bool false,.slice none 0 0,.int .i64 0] 40) (.cells #[.bool false,.slice none 0 0,.int .i64 0] 40)
  have hz1:w.heap.size+1+1=((w.alloc (.cells #[.bool false,.slice none 0 0,.int .i64 0] 40)).alloc (.cells #[.bool false,.slice none 0 0,.int .i64 0] 40)).heap.size:=hsz0.symm
  clear hsz0 c0 c1 c2 c3
  go_enter Tryz.func77,Tryz.ntmps77
  go_wp2_with fail
  generalize (w.alloc (.cells #[.bool false,.slice none 0 0,.int .i64 0] 40)).alloc (.cells #[.bool false,.slice none 0 0,.int .i64 0] 40)=x0 at hb0 a_k b_k hz1 ⊢
  have hC0:=hb0.drew
  have hn:w.heap.size+1≠w.heap.size:=by omega
  have hn':w.heap.size≠w.heap.size+1:=by omega
  have hC0r:=(bel_refl x0).drew
  go_region_held3 (fun W=>W.cell? ⟨g,i*2,none⟩=some (.int .i64 a0)∧W.cell? ⟨g,i*2+1,none⟩=some (.int .i64 a1)∧W.cell? ⟨g,6,none⟩=some (.int .i64 d0)∧W.cell? ⟨g,7,none⟩=some (.int .i64 d1))
    (with_reducible first | assumption | exact KK _ hC0 | exact KK _ hC1 | exact KK _ hC2 | exact KK _ (cc_s3 hC2 (Nat.le_refl _) _ _ _ _ _ _) | exact KK _ (cc_s3 (cc_s3 hC2 (Nat.le_refl _) _ _ _ _ _ _) (Nat.le_succ _) _ _ _ _ _ _) | fail)
    (first
      | (go_at_call 78; have _t:=hs1; refine (C2.out _ hC1).mono ?_; rintro _ y2 ⟨v,rfl,h2⟩; obtain ⟨y_g,y_o,y_n,y_c,y_e,rfl⟩:=dans_shape h2; have hs2:=h2.below; have hC2:=bel_trans hC1 hs2; have xA:=(h1.dan.lower hC0.size).keeps hs2; have yA:=h2.dan.lower hC1.size; have r_a:=blk_on (bel_trans (bel_trans hC0r hs1) hs2) a_k; have r_b:=cc_n3 (blk_on (bel_trans (bel_trans hC0r hs1) hs2) b_k) hn 0 1 2 (.bool x_g) (.slice x_o x_n x_c) (.int .i64 x_e); have ea0:=blkC r_a 0 rfl; have za0:=blkF r_a 0; have ea1:=blkC r_a 1 rfl; have za1:=blkF r_a 1; have ea2:=blkC r_a 2 rfl; have za2:=blkF r_a 2; have eb0:=blkC r_b 0 rfl; have zb0:=blkF r_b 0; have eb1:=blkC r_b 1 rfl; have zb1:=blkF r_b 1; have eb2:=blkC r_b 2 rfl; have zb2:=blkF r_b 2)
      | (go_at_call 78; refine (C1.out _ hC0).mono ?_; rintro _ y1 ⟨v,rfl,h1⟩; obtain ⟨x_g,x_o,x_n,x_c,x_e,rfl⟩:=dans_shape h1; have hs1:=h1.below; have hC1:=bel_trans hC0 hs1))
  go_wp2
  have r_a2:=cc_n3 (heap_set (heap_set (heap_set r_a 0 (.bool x_g)) 1 (.slice x_o x_n x_c)) 2 (.int .i64 x_e)) hn' 0 1 2 (.bool y_g) (.slice y_o y_n y_c) (.int .i64 y_e)
  have r_b2:=heap_set (heap_set (heap_set r_b 0 (.bool y_g)) 1 (.slice y_o y_n y_c)) 2 (.int .i64 y_e)
  have q0:=blkC r_a2 0 rfl
  have q1:=blkC r_a2 1 rfl
  have q2:=blkC r_a2 2 rfl
  have q3:=blkC r_b2 0 rfl
  have q4:=blkC r_b2 1 rfl
  have q5:=blkC r_b2 2 rfl
  exact bodyPost_ret (v:=.tuple #[.agg #[.bool x_g,.slice x_o x_n x_c,.int .i64 x_e],.agg #[.bool y_g,.slice y_o y_n y_c,.int .i64 y_e]]) (by simp [results,Tryz.results77,go_sem,q0,q1,q2,q3,q4,q5]) rfl ⟨_,_,rfl,cc_dan (cc_dan xA r_a (by decide) _ _ _ _ _ _) r_b (by decide) _ _ _ _ _ _,cc_dan (cc_dan yA r_a (by decide) _ _ _ _ _ _) r_b (by decide) _ _ _ _ _ _,cc_s3 (cc_s3 hC2 (Nat.le_refl _) _ _ _ _ _ _) (Nat.le_succ _) _ _ _ _ _ _⟩
end Go.Proofs.YtjjihmnbdeeedaaGreatDoor
