/- Parts of the proof. -/
import Derived.Test.YtcklaogdjpbagaaGreatDoorPart8
import Derived.Test.YtcklaogdjpbagaaGreatDoorPart6
import Derived.Laws.MakeOwn
import Derived.Test.YtcklaogdjpbagaaGreatDoorPart11
import Derived.Test.YtcklaogdjpbagaaGreatDoorPart7
import Derived.Test.YtcklaogdjpbagaaGreatDoorPart9
import Derived.BigQuiet
import Derived.Laws.Rows
import Derived.Laws.Tables
import Derived.Test.YtcklaogdjpbagaaGreatDoorPart5
set_option maxRecDepth 100000
set_option maxHeartbeats 8000000
set_option linter.unusedVariables false
set_option linter.unusedSimpArgs false
namespace Go.Proofs.YtcklaogdjpbagaaGreatDoor
open Go Go.Proofs.Tryz Go.RowKit Go.Proofs.YtcklaogdjpbagaaGreatDoor.M
def kA (w:World) (g N k:Nat) (q:Nat->aA):Prop :=
 ∃ cur:Array Value,w.heap[g]?=some (.cells cur 33 (0,0))∧cur.size=N*3∧∀ i,i<k->(cur[i*3]?=some (.bool (q i).ng)∧cur[i*3+1]?=some (.slice (q i).ao (q i).n (q i).cap)∧cur[i*3+2]?=some (.int .i64 (q i).e))∧aE w (q i).ao (q i).n (q i).cap (q i).d
theorem vY:∃ i,prog.info? 33=some i∧i.zero=some (.agg #[.bool false,.slice none 0 0,.int .i64 0])∧i.size=3∧i.bytes=40:=by
 have h:(prog.info? 33).map (fun i=>(i.zero,i.size,i.bytes))=some (some (.agg #[.bool false,.slice none 0 0,.int .i64 0]),3,40):=by kernel_rfl
 obtain⟨i,hi,hzz⟩:=Option.map_eq_some_iff.1 h
 simp only[Prod.mk.injEq] at hzz
 exact⟨i,hi,hzz⟩
theorem uh (n:Nat) (hn:n<=100000) (w:World) :
  (Instr.makeSlice 128 (.int .i64 (n:Int)) (.int .i64 (n:Int))).run prog w=.ok (.slice (some ⟨w.heap.size,0,none⟩) n n) (w.alloc (.cells (madeCells #[.bool false,.slice none 0 0,.int .i64 0] (n*3)) 33)):=by
 obtain⟨i,hi,hz,hs,hb⟩:=vY
 have:=run_make (P:=prog) w 128 33 i _ underlying128 hi hz .i64 .i64 n n (by omega) (Int.le_refl _) (by rw[hb];omega) (by omega)
 simp only[Int.toNat_natCast,hs] at this
 exact this
def mN (q:Nat->aA) (k:Nat) (x:aA):Nat->aA:=fun j=>if j=k then x else q j
theorem kB (q:Nat->aA) (k:Nat) (x:aA):mN q k x k=x:=by simp[mN]
theorem jR (q:Nat->aA) {k j:Nat} (x:aA) (h:j≠k):mN q k x j=q j:=by simp[mN,h]
theorem ui {W w':World} {b g o0 o1 o2:Nat} {x y z:Value} (h:W.cell? ⟨b,o0,none⟩=some x∧W.cell? ⟨b,o1,none⟩=some y∧W.cell? ⟨b,o2,none⟩=some z) (hw:Wr g W w') (hg:b≠g) :
  w'.cell? ⟨b,o0,none⟩=some x∧w'.cell? ⟨b,o1,none⟩=some y∧w'.cell? ⟨b,o2,none⟩=some z :=
 ⟨(hw.cell (World.block_lt_of_cell? W _ h.1) hg).trans h.1,(hw.cell (World.block_lt_of_cell? W _ h.2.1) hg).trans h.2.1,(hw.cell (World.block_lt_of_cell? W _ h.2.2) hg).trans h.2.2⟩
theorem uj {W w':World} {b o0 o1 o2:Nat} {x y z:Value} (h:W.cell? ⟨b,o0,none⟩=some x∧W.cell? ⟨b,o1,none⟩=some y∧W.cell? ⟨b,o2,none⟩=some z) (hb:Below W.heap.size W w') :
  w'.cell? ⟨b,o0,none⟩=some x∧w'.cell? ⟨b,o1,none⟩=some y∧w'.cell? ⟨b,o2,none⟩=some z:=⟨aG h.1 hb,aG h.2.1 hb,aG h.2.2 hb⟩
theorem nN (W:World) (g o0 o1 o2:Nat) (x y z:Value):Wr g W (((W.setCell ⟨g,o0,none⟩ x).setCell ⟨g,o1,none⟩ y).setCell ⟨g,o2,none⟩ z):=(((Wr.refl g W).setCell o0 x).setCell o1 y).setCell o2 z
theorem aE.wrN {w w':World} {g:Nat} {ao:Option Addr} {n cap:Nat} {d:Nat->Int} (h:aE w ao n cap d) (hw:Wr g w w') {cur:Array Value} {z:Nat × Nat} (hg:w.heap[g]?=some (.cells cur 33 z)) (ht:∀ b off,ao=some ⟨b,off,none⟩->0<n->b≠g):aE w' ao n cap d :=
  ⟨h.le,h.max,h.nl,fun hn=>by
    obtain⟨b,off,rfl,hlt,hc⟩:=h.spot hn
    exact ⟨b,off,rfl,Nat.lt_of_lt_of_le hlt hw.size,fun i hi=>(hw.cell (p:=⟨b,off+i,none⟩) hlt (ht b off rfl hn)).trans (hc i hi)⟩⟩
theorem cn.open {w w':World} {V:Int} {so:Option Addr} {sn sc:Nat} (h:cn w w' V (.slice so sn sc)):∃ d,aE w' so sn sc d∧bK d sn∧val d sn=V∧∀ b off,so=some ⟨b,off,none⟩->w.heap.size<=b:=by
 obtain⟨t,d,hO,hN,hV,_⟩:=h
 have hge:=dn hO
 obtain⟨so',sc',e,hR⟩:=hO.row
 simp only[Value.slice.injEq] at e
 obtain⟨rfl,rfl,rfl⟩:=e
 exact⟨d,hR,hN,hV,fun b off hb=>hge b (by rw[hb];rfl)⟩
theorem cx {w0 w:World} {g o0 o1 o2:Nat} (h:Below w0.heap.size w0 w) (hg:w0.heap.size<=g) (x y z:Value):Below w0.heap.size w0 (((w.setCell ⟨g,o0,none⟩ x).setCell ⟨g,o1,none⟩ y).setCell ⟨g,o2,none⟩ z):=((h.setCell (p:=⟨g,o0,none⟩) hg x).setCell (p:=⟨g,o1,none⟩) hg y).setCell (p:=⟨g,o2,none⟩) hg z
theorem vZ {cur:Array Value} {k:Nat} {x y z:Value} (h:k*3+2<cur.size) (i:Nat) :
  let c:=((cur.setIfInBounds (k*3) x).setIfInBounds (k*3+1) y).setIfInBounds (k*3+2) z
  (i=k->c[i*3]?=some x∧c[i*3+1]?=some y∧c[i*3+2]?=some z)∧(i≠k->c[i*3]?=cur[i*3]?∧c[i*3+1]?=cur[i*3+1]?∧c[i*3+2]?=cur[i*3+2]?):=by
 intro c
 refine⟨fun e=>?_,fun e=>?_⟩
 ·subst e
  refine⟨?_,?_,?_⟩
  ·show(((cur.setIfInBounds (i*3) x).setIfInBounds (i*3+1) y).setIfInBounds (i*3+2) z)[i*3]?=some x
   rw[Array.getElem?_setIfInBounds_ne (by omega),Array.getElem?_setIfInBounds_ne (by omega),Array.getElem?_setIfInBounds_self_of_lt (by omega)]
  ·show(((cur.setIfInBounds (i*3) x).setIfInBounds (i*3+1) y).setIfInBounds (i*3+2) z)[i*3+1]?=some y
   rw[Array.getElem?_setIfInBounds_ne (by omega),Array.getElem?_setIfInBounds_self_of_lt (by simp;omega)]
  ·show(((cur.setIfInBounds (i*3) x).setIfInBounds (i*3+1) y).setIfInBounds (i*3+2) z)[i*3+2]?=some z
   rw[Array.getElem?_setIfInBounds_self_of_lt (by simp;omega)]
 ·refine⟨?_,?_,?_⟩
  all_goals
   show(((cur.setIfInBounds (k*3) x).setIfInBounds (k*3+1) y).setIfInBounds (k*3+2) z)[_]?=_
   rw[Array.getElem?_setIfInBounds_ne (by omega),Array.getElem?_setIfInBounds_ne (by omega),Array.getElem?_setIfInBounds_ne (by omega)]
theorem kA.step {wr w3:World} {g N k:Nat} {q:Nat->aA} (h:kA wr g N k q) (hb:Below wr.heap.size wr w3) (x:aA) (hx:aE w3 x.ao x.n x.cap x.d) (hk:k<N) (hg:∀ i b' off,i<k->(q i).ao=some ⟨b',off,none⟩->0<(q i).n->g<b') (hg2:∀ b' off,x.ao=some ⟨b',off,none⟩->0<x.n->g<b') :
  kA (((w3.setCell ⟨g,k*3,none⟩ (.bool x.ng)).setCell ⟨g,k*3+1,none⟩ (.slice x.ao x.n x.cap)).setCell ⟨g,k*3+2,none⟩ (.int .i64 x.e)) g N (k+1) (mN q k x):=by
 obtain⟨cur,hcur,hsz,hc⟩:=h
 have q0:=(hb.block g (aGe hcur).1).trans hcur
 have q1:=am (am (am q0 (k*3) (.bool x.ng)) (k*3+1) (.slice x.ao x.n x.cap)) (k*3+2) (.int .i64 x.e)
 have hw:=nN w3 g (k*3) (k*3+1) (k*3+2) (.bool x.ng) (.slice x.ao x.n x.cap) (.int .i64 x.e)
 refine⟨_,q1,by simp[hsz],fun i hi=>?_⟩
 have hs:=vZ (cur:=cur) (k:=k) (x:=.bool x.ng) (y:=.slice x.ao x.n x.cap) (z:=.int .i64 x.e) (by omega) i
 by_cases e:i=k
 ·subst e
  rw[kB]
  exact⟨hs.1 rfl,hx.wrN hw q0 fun b' off he hn=>by have:=hg2 b' off he hn;omega⟩
 ·rw[jR q x e]
  obtain⟨s0,s1,s2⟩:=hs.2 e
  obtain⟨⟨c0,c1,c2⟩,hR⟩:=hc i (by omega)
  refine⟨⟨s0.trans c0,s1.trans c1,s2.trans c2⟩,(hR.keeps hb).wrN hw q0 fun b' off he hn=>?_⟩
  have:=hg i b' off (by omega) he hn
  omega
theorem kA.nums {w:World} {g N:Nat} {q:Nat->aA} (h:kA w g N N q) (hN:N<=100000):ef w (some ⟨g,0,none⟩) N N q:=by
 obtain⟨cur,hcur,hsz,hc⟩:=h
 refine⟨Nat.le_refl _,by omega,fun _=>⟨g,0,rfl,(aGe hcur).1,fun i hi=>?_⟩⟩
 obtain⟨⟨c0,c1,c2⟩,hR⟩:=hc i hi
 rw[Nat.zero_add]
 exact⟨ac hcur _ c0,ac hcur _ c1,ac hcur _ c2,hR⟩
theorem pl (ao bo:Option Addr) (n ca cb:Nat) (a b:Nat->aA) (w:World) (ha:ef w ao n ca a) (hb:ef w bo n cb b) (hn:n<=100000) (sa:∀ i,i<n->df (a i)) (sb:∀ i,i<n->df (b i)) :
  Calls prog 137 #[.slice ao n ca,.slice bo n cb] w fun x w'=>∃ g q,x=.returned (.slice (some ⟨g,0,none⟩) n n)∧w.heap.size<=g∧ef w' (some ⟨g,0,none⟩) n n q∧Below w.heap.size w w'∧∀ i,i<n->bK (q i).d (q i).n∧(q i).ng=((a i).ng != (b i).ng)∧val (q i).d (q i).n=val (a i).d (a i).n*val (b i).d (b i).n∧(q i).e=(a i).e+(b i).e:=by
 have hla:=ha.le
 have hma:=ha.max
 have hlb:=hb.le
 have hmb:=hb.max
 have hmake:=uh n hn
 go_enter func137,ntmps137
 go_wp2_with fail
 have hb0:=ah w (.cells (madeCells #[.bool false,.slice none 0 0,.int .i64 0] (n*3)) 33)
 have g0:=aK w (.cells (madeCells #[.bool false,.slice none 0 0,.int .i64 0] (n*3)) 33)
 have HB0:Hid (kA (w.alloc (.cells (madeCells #[.bool false,.slice none 0 0,.int .i64 0] (n*3)) 33)) w.heap.size n 0 a):=⟨_,g0,by rw[size_madeCells],fun i hi=>by omega⟩
 clear g0 hmake
 generalize w.alloc (.cells (madeCells #[.bool false,.slice none 0 0,.int .i64 0] (n*3)) 33)=wx at hb0 HB0 ⊢
 go_loopw [12] (fun iv wr=>∃ (k:Nat) (q:Nat->aA),k<=n∧iv=.int .i64 k∧Hid (kA wr w.heap.size n k q)∧Hid (∀ i,i<k->bK (q i).d (q i).n∧(q i).ng=((a i).ng != (b i).ng)∧val (q i).d (q i).n=val (a i).d (a i).n*val (b i).d (b i).n∧(q i).e=(a i).e+(b i).e)∧Hid (∀ i b' off,i<k->(q i).ao=some ⟨b',off,none⟩->0<(q i).n->w.heap.size<b')∧Below w.heap.size w wr) (fun iv _=>n-(intOf iv).toNat)
 case atStart=>exact⟨0,a,Nat.zero_le _,rfl,HB0,fun i hi=>by omega,fun i b' off hi=>by omega,hb0⟩
 case round=>
  obtain⟨k,q,hk,rfl,HQ,HF,HG,hbw⟩:=hrel
  clear HB0 hb0
  by_cases hlt:k<n
  ·obtain⟨ba,oa,rfl,hba,hca⟩:=ha.spot (by omega)
   obtain⟨bb,ob,rfl,hbb,hcb⟩:=hb.spot (by omega)
   obtain⟨c0,c1,c2,ra⟩:=(hca k hlt).keeps hbw hba
   obtain⟨d0,d1,d2,rb⟩:=(hcb k hlt).keeps hbw hbb
   have CP:=fun W (h:Below wr.heap.size wr W)=>oJ (a k) (b k) W (ra.keeps h) (rb.keeps h) (sa k hlt) (sb k hlt)
   have hea:Hid (-1100000<=(a k).e∧(a k).e<=1100000):=(sa k hlt).2.2
   have heb:Hid (-1100000<=(b k).e∧(b k).e<=1100000):=(sb k hlt).2.2
   have HAK:Hid (∀ x,a k=x->a k=x):=fun _ h=>h
   clear hca hcb ra rb
   obtain⟨xa,hxa⟩:∃ x,a k=x:=⟨_,rfl⟩
   obtain⟨xb,hxb⟩:∃ x,b k=x:=⟨_,rfl⟩
   rw[hxa] at c0 c1 c2 CP hea
   rw[hxb] at d0 d1 d2 CP heb
   have HXA:Hid (a k=xa):=hxa
   have HXB:Hid (b k=xb):=hxb
   clear hxa hxb HAK
   unfold aA.v at CP
   obtain⟨ag,aao,an,aca,ad,ae⟩:=xa
   obtain⟨bg,bao,bn,bca,bd,be⟩:=xb
   simp only at c0 c1 c2 d0 d1 d2 CP hea heb
   obtain⟨cur,hcur,hsz,hcells⟩:=HQ.out
   have HCL:Hid _:=hcells
   have e0:k*3<cur.size:=by omega
   have e1:k*3+1<cur.size:=by omega
   have e2:k*3+2<cur.size:=by omega
   obtain⟨v0,hv0⟩:∃ v,cur[k*3]?=some v:=⟨_,Array.getElem?_eq_getElem e0⟩
   obtain⟨v1,hv1⟩:∃ v,cur[k*3+1]?=some v:=⟨_,Array.getElem?_eq_getElem e1⟩
   obtain⟨v2,hv2⟩:∃ v,cur[k*3+2]?=some v:=⟨_,Array.getElem?_eq_getElem e2⟩
   have HV:Hid (cur[k*3]?=some v0∧cur[k*3+1]?=some v1∧cur[k*3+2]?=some v2):=⟨hv0,hv1,hv2⟩
   have HSZ:Hid (cur.size=n*3):=hsz
   have HCUR:Hid (wr.heap[w.heap.size]?=some (.cells cur 33 (0,0))):=hcur
   have hgs:w.heap.size<wr.heap.size:=(aGe hcur).1
   clear hcells hv0 hv1 hv2 hcur hsz e0 e1 e2
   have i0:(0:Int)<=(k:Int):=by omega
   have i1:(k:Int)<(n:Int):=by omega
   have kc0:(wr.drew.cell? ⟨ba,oa+k*3,none⟩=some (.bool ag)∧wr.drew.cell? ⟨ba,oa+k*3+1,none⟩=some (.slice aao an aca)∧wr.drew.cell? ⟨ba,oa+k*3+2,none⟩=some (.int .i64 ae))∧wr.drew.cell? ⟨bb,ob+k*3,none⟩=some (.bool bg)∧wr.drew.cell? ⟨bb,ob+k*3+1,none⟩=some (.slice bao bn bca)∧wr.drew.cell? ⟨bb,ob+k*3+2,none⟩=some (.int .i64 be):=⟨⟨c0,c1,c2⟩,d0,d1,d2⟩
   have hb1:=ap wr
   go_wp2_with fail
   go_region_held3 (fun W=>(W.cell? ⟨ba,oa+k*3,none⟩=some (.bool ag)∧W.cell? ⟨ba,oa+k*3+1,none⟩=some (.slice aao an aca)∧W.cell? ⟨ba,oa+k*3+2,none⟩=some (.int .i64 ae))∧W.cell? ⟨bb,ob+k*3,none⟩=some (.bool bg)∧W.cell? ⟨bb,ob+k*3+1,none⟩=some (.slice bao bn bca)∧W.cell? ⟨bb,ob+k*3+2,none⟩=some (.int .i64 be))
    (first|assumption|exact⟨ui kc1.1 (nN _ _ _ _ _ _ _ _) (by omega),ui kc1.2 (nN _ _ _ _ _ _ _ _) (by omega)⟩)
    ((go_at_call 155;refine(CP _ hb1.drew).mono ?_;rintro y w3 ⟨s,rfl,hA⟩;have hbv1:=hA.below;have kc1:=And.intro (uj kc0.1 hbv1) (uj kc0.2 hbv1);obtain⟨so,sn,sc,rfl⟩:=hA.num.shape;have q0:=(hbv1.block w.heap.size hgs).trans HCUR.out;have x0:=ac q0 (k*3) HV.out.1;have x1:=ac q0 (k*3+1) HV.out.2.1;have x2:=ac q0 (k*3+2) HV.out.2.2;have z0:=aq q0 (k*3);have z1:=aq q0 (k*3+1);have z2:=aq q0 (k*3+2)))
   all_goals go_wp2
   all_goals
    go_roundw
    case rel=>
     obtain⟨dd,hRd,hNd,hVd,hgd⟩:=hA.open
     have hgs2:∀ b' off,so=some ⟨b',off,none⟩->0<sn->w.heap.size<b':=fun b' off he _=>by
      have h9:=hgd b' off he
      have h8:w.heap.size<wr.drew.heap.size:=hgs
      omega
     refine⟨k+1,mN q k ⟨ag != bg,so,sn,sc,dd,ae+be⟩,by omega,by go_num,kA.step (x:=⟨ag != bg,so,sn,sc,dd,ae+be⟩) HQ.out (af hb1.drew hbv1) hRd hlt HG.out hgs2,fun i hi=>?_,fun i b' off hi he hn'=>?_,cx (af hbw (af hb1.drew hbv1)) (Nat.le_refl _) _ _ _⟩
     ·by_cases e:i=k
      ·subst e
       rw[kB,HXA.out,HXB.out]
       exact⟨hNd,rfl,hVd,rfl⟩
      ·rw[jR _ _ e]
       exact HF.out i (by omega)
     ·by_cases e:i=k
      ·subst e
       rw[kB] at he hn'
       exact hgs2 b' off he hn'
      ·rw[jR _ _ e] at he hn'
       exact HG.out i b' off (by omega) he hn'
    case measure=>simp[intOf];omega
  ·obtain rfl:k=n:=by omega
   go_wp2
   go_ret
   exact⟨_,q,rfl,Nat.le_refl _,HQ.out.nums hn,hbw,HF.out⟩
def ga (a b:Nat->aA):Nat->Int|0=>0|k+1=>ga a b k+km (a k) (b k)
theorem pt {a b q:Nat->aA}:∀ n,(∀ i,i<n->(q i).ng=((a i).ng != (b i).ng)∧val (q i).d (q i).n=val (a i).d (a i).n*val (b i).d (b i).n∧(q i).e=(a i).e+(b i).e)->fH q n=ga a b n
 | 0,_=>rfl
 | k+1,h=>by
  obtain⟨h1,h2,h3⟩:=h k (by omega)
  show fH q k+sg (q k).ng (val (q k).d (q k).n)*pw (q k).e=ga a b k+sg ((a k).ng != (b k).ng) (val (a k).d (a k).n*val (b k).d (b k).n)*pw ((a k).e+(b k).e)
  rw[pt k fun i hi=>h i (by omega),h1,h2,h3]
def eE (x:aA):Prop:=-500000<=x.e∧x.e<=500000
theorem uk {x y q:aA} (ox:cQ x=true) (oy:cQ y=true) (hx:eE x) (hy:eE y) (h0:bK q.d q.n) (h2:val q.d q.n=val x.d x.n*val y.d y.n) (h3:q.e=x.e+y.e):df q:=by
 refine⟨h0,?_,?_,?_⟩
 ·have a:=(im ox).2.1
  have b:=(im oy).2.1
  have a0:=aP (cd ox).1.1
  have b0:=aP (cd oy).1.1
  by_cases hq:q.n<=5000
  ·exact hq
  ·exfalso
   have c:=dF h0.1 (by omega) h0.2
   have d:=fF (show 4000<=q.n-1 by omega)
   have e:val x.d x.n*val y.d y.n<P 2000*P 2000:=by
    by_cases hz:val x.d x.n=0
    ·rw[hz,Int.zero_mul];exact Int.mul_pos (bH _) (bH _)
    ·exact Int.lt_of_lt_of_le (Int.mul_lt_mul_of_pos_left b (by omega)) (Int.mul_le_mul_of_nonneg_right (by omega) (Int.le_of_lt (bH _)))
   have f:P 2000*P 2000=P 4000:=by rw[cP 2000,cP 4000,<- Int.pow_add,show 30*2000+30*2000=30*4000 from rfl]
   rw[f] at e
   rw[h2] at c
   generalize P 4000=Y at *
   omega
 ·unfold eE at *;omega
 ·unfold eE at *;omega
theorem v5 (ao bo:Option Addr) (n ca cb:Nat) (a b:Nat->aA) (p p2:Addr) (w:World) (c:w.cell? p=some (.slice ao n ca)) (c2:w.cell? p2=some (.slice bo n cb)) (ha:ef w ao n ca a) (hb:ef w bo n cb b) (oa:∀ i,i<n->cQ (a i)=true) (ob:∀ i,i<n->cQ (b i)=true) (la:∀ i,i<n->eE (a i)) (lb:∀ i,i<n->eE (b i)) (hn:n<=100000) (hT:dU w) :
  Calls prog 136 #[.pointer (some p),.pointer (some p2)] w (ls w (ga a b n)):=by
 have hbe:=ah w (.cells #[.bool false,.slice none 0 0,.int .i64 0] 33)
 have k0:=aG c hbe
 have k1:=aG c2 hbe
 have g0:=aK w (.cells #[.bool false,.slice none 0 0,.int .i64 0] 33)
 have CP:=pl ao bo n ca cb a b _ (ha.keeps hbe) (hb.keeps hbe) hn (fun i hi=>cd (oa i hi)) (fun i hi=>cd (ob i hi))
 have hTx:=hT.keeps hbe
 have HSUM:Hid (∀ W g q,ef W (some ⟨g,0,none⟩) n n q->(∀ i,i<n->bK (q i).d (q i).n∧(q i).ng=((a i).ng != (b i).ng)∧val (q i).d (q i).n=val (a i).d (a i).n*val (b i).d (b i).n∧(q i).e=(a i).e+(b i).e)->dU W->Calls prog 107 #[.slice (some ⟨g,0,none⟩) n n] W (ls W (ga a b n))):=fun W g q hN hF hTW=>by
  have:=nk (some ⟨g,0,none⟩) n n q W hN (fun i hi=>uk (oa i hi) (ob i hi) (la i hi) (lb i hi) (hF i hi).1 (hF i hi).2.2.1 (hF i hi).2.2.2) hn hTW
  rwa [pt n fun i hi=>(hF i hi).2] at this
 generalize ga a b n=V at HSUM ⊢
 clear oa ob la lb ha hb
 go_enter func136,ntmps136
 go_wp2_with fail
 generalize w.alloc (.cells #[.bool false,.slice none 0 0,.int .i64 0] 33)=wx at *
 refine CP.mono ?_
 rintro x w1 ⟨g,q,rfl,hg,hN,hb1,hF⟩
 have HF:Hid _:=hF
 clear hF
 go_wp2_with fail
 refine(HSUM.out _ _ _ hN HF.out (hTx.keeps hb1)).mono ?_
 rintro x w7 (⟨hok,v,rfl,hD⟩|⟨hno,rfl,hb7⟩)
 ·have hb7:=hD.below
  obtain⟨ng',s',m',e',rfl,hyy,hA2⟩:=id hD
  obtain⟨so',sn',sc',rfl⟩:=hA2.num.shape
  have hlt:=(aGe g0).1
  have q0:=((af hb1 hb7).block w.heap.size hlt).trans g0
  have x0:=ac q0 0 rfl
  have x1:=ac q0 1 rfl
  have x2:=ac q0 2 rfl
  have z0:=aq q0 0
  have z1:=aq q0 1
  have z2:=aq q0 2
  go_wp2
  refine bodyPost_ret (v:=.agg #[.bool ng',.slice so' sn' sc',.int .i64 e']) (by simp[results,results136,go_sem,x0,x1,x2]) rfl ?_
  exact .inl ⟨hok,_,rfl,bD (g:=w.heap.size) hD (af hbe hb1) (Nat.le_refl _) (Nat.lt_of_lt_of_le hlt hb1.size) _ _ _⟩
 ·exact⟨rfl,.inr ⟨hno,rfl,af (af hbe hb1) hb7⟩⟩
theorem x6 (ao bo:Option Addr) (n ca cb:Nat) (a b:Nat->aA) (w:World) (ha:ef w ao n ca a) (hb:ef w bo n cb b) (oa:jD a n=true) (ob:jD b n=true) (la:∀ i,i<n->eE (a i)) (lb:∀ i,i<n->eE (b i)) (hn:n<=100000) (hT:dU w) :
  Calls prog 113 #[.slice ao n ca,.slice bo n cb] w fun x w'=>∃ v er,x=.returned (.tuple #[v,.int .i64 er])∧fG w w' (ga a b n) v er:=by
 have hmf:∀ (fn:Fn) (first cap:Array Value) (w:World),(Instr.makeFunc fn first cap).run prog w=.ok (.func fn first cap) w:=fun _ _ _ _=>rfl
 have hE:∀ (cap:Array Value) (w:World),(callFunc 136 cap).run prog w=.ok (.enter 136 cap) w:=by
  intro cap w
  simp[go_sem]
 have hla:=ha.le
 have hma:=ha.max
 have hlb:=hb.le
 have hmb:=hb.max
 have CA:=fun W (h:Below w.heap.size w W)=>iS ao n ca a W (ha.keeps h)
 have CB:=fun W (h:Below w.heap.size w W)=>iS bo n cb b W (hb.keeps h)
 have CD:Hid (∀ W p p2,Below w.heap.size w W->W.cell? p=some (.slice ao n ca)->W.cell? p2=some (.slice bo n cb)->Calls prog 136 #[.pointer (some p),.pointer (some p2)] W (ls W (ga a b n))):=fun W p p2 h c1 c2=>v5 ao bo n ca cb a b p p2 W c1 c2 (ha.keeps h) (hb.keeps h) (nC oa) (nC ob) la lb hn (hT.keeps h)
 generalize ga a b n=V at CD ⊢
 rw[oa] at CA
 rw[ob] at CB
 clear ha hb oa ob la lb hT
 have hb3:=cB w (.cells #[.slice ao n ca] 128) (.cells #[.slice bo n cb] 128) (.cells #[.bool false,.slice none 0 0,.int .i64 0] 33)
 have g0:=kh w (.cells #[.slice ao n ca] 128) (.cells #[.slice bo n cb] 128) (.cells #[.bool false,.slice none 0 0,.int .i64 0] 33)
 have g1:=ki w (.cells #[.slice ao n ca] 128) (.cells #[.slice bo n cb] 128) (.cells #[.bool false,.slice none 0 0,.int .i64 0] 33)
 have g2:=il w (.cells #[.slice ao n ca] 128) (.cells #[.slice bo n cb] 128) (.cells #[.bool false,.slice none 0 0,.int .i64 0] 33)
 go_enter func113,ntmps113
 go_wp2_with fail
 generalize ((w.alloc (.cells #[.slice ao n ca] 128)).alloc (.cells #[.slice bo n cb] 128)).alloc (.cells #[.bool false,.slice none 0 0,.int .i64 0] 33)=wx at hb3 g0 g1 g2 ⊢
 refine(CA _ hb3).mono ?_
 rintro x w1 ⟨rfl,hb1⟩
 have hbw:=af hb3 hb1
 replace g0:=(hb1.block _ (aGe g0).1).trans g0
 replace g1:=(hb1.block _ (aGe g1).1).trans g1
 replace g2:=(hb1.block _ (aGe g2).1).trans g2
 have k1:=ac g1 0 rfl
 go_wp2_with fail
 clear k1
 refine(CB _ hbw).mono ?_
 rintro x w2 ⟨rfl,hb2⟩
 have hbw2:=af hbw hb2
 replace g0:=(hb2.block _ (aGe g0).1).trans g0
 replace g1:=(hb2.block _ (aGe g1).1).trans g1
 replace g2:=(hb2.block _ (aGe g2).1).trans g2
 have hs3:=(aGe g2).1
 go_wp2_with fail
 refine(oH (V:=V) (hE _) (fun W hW=>CD.out W _ _ (af hbw2 hW) (ac ((hW.block _ (by omega)).trans g0) 0 rfl) (ac ((hW.block _ (by omega)).trans g1) 0 rfl))).mono ?_
 rintro x w3 ⟨v,er,rfl,hF⟩
 obtain⟨ng',so,sn,sc,e',rfl⟩:=hF.shape
 have q0:=(hF.1.block (w.heap.size+2) hs3).trans g2
 have x0:=ac q0 0 rfl
 have x1:=ac q0 1 rfl
 have x2:=ac q0 2 rfl
 have z0:=aq q0 0
 have z1:=aq q0 1
 have z2:=aq q0 2
 go_wp2
 refine bodyPost_ret (v:=.tuple #[.agg #[.bool ng',.slice so sn sc,.int .i64 e'],.int .i64 er]) (by simp[results,results113,go_sem,x0,x1,x2]) rfl ⟨_,_,rfl,?_⟩
 exact oG (g:=w.heap.size+2) hF hbw2 (by omega) (by omega) _ _ _
theorem ef.at {w:World} {g n:Nat} {q:Nat->aA} (h:ef w (some ⟨g,0,none⟩) n n q) (i:Nat) (hi:i<n):m7 w g (i*3) (q i):=by
 obtain⟨b,off,he,hlt,hc⟩:=h.spot (by omega)
 cases he
 have:=hc i hi
 rwa [Nat.zero_add] at this
theorem kC {P:Program} (t:TypeId) {p q:Int} {x y:Nat} (hx:FW p x) (hy:FW q y) (h:aF (aw p q)≠4) (w:World):(binOp .mul t (.float .f64 x) (.float .f64 y)).run P w=.ok (.float .f64 (wd (aw p q))) w:=by
 obtain⟨z,w',hrun,hz⟩:=jK (P:=P) .mul (.inr (.inr (.inl rfl))) t x y w
 have hf:floatBits .mul .f64 x y=Ieee.double.mul x y:=rfl
 rw[hf] at hz
 rcases tQ hx hy with⟨z',e1,e2⟩|⟨_,e2⟩
 ·rcases hz with⟨h1,h2⟩|⟨h1,_⟩
  ·rw[e1] at h1
   cases h1
   rw[hrun,h2,(e2.of h).2.1]
  ·rw[e1] at h1;cases h1
 ·exact absurd (by rw[e2];decide) h
theorem kV {a b:Nat} {x:Int} (h:Fx a b x):FW x (wd x):=FW.pat (ct h.p) h.r
theorem Aw {p q:Int} (hp:Mz p) (hq:Mz q) (w:World) :
  Calls prog 42 #[.int .i64 p,.int .i64 q] w fun r w'=>r=.returned (.float .f64 (wd (az p (neg q))))∧w'=w:=by
 have hd:=fun W=>nM (P:=prog) 54 (FW.pat (ct hp.2.1) hp.1) (FW.pat (ct hq.2.1) hq.1) (ct (zc hp hq).1) W
 have C1:Hid (∀ W,Calls prog 74 #[.int .i64 p] W fun e w'=>e=.returned (.float .f64 (wd p))∧w'=W):=fun W=>cZ p W
 have C2:Hid (∀ W,Calls prog 74 #[.int .i64 q] W fun e w'=>e=.returned (.float .f64 (wd q))∧w'=W):=fun W=>cZ q W
 clear hp hq
 generalize wd p=P at *
 generalize wd q=Q at *
 generalize wd (az p (neg q))=R at *
 go_enter func42,ntmps42
 go_wp2_with fail
 refine(C1.out _).mono ?_
 rintro _ wz ⟨rfl,hwz⟩
 replace hwz:=hwz.symm
 subst hwz
 go_wp2_with fail
 refine(C2.out _).mono ?_
 rintro _ wz ⟨rfl,hwz⟩
 replace hwz:=hwz.symm
 subst hwz
 go_wp2
 go_ret
 exact⟨rfl,rfl⟩
theorem Un.neg {S h:Int} (u:Un S h):Un (-S) (-h):=by
 unfold Un at *
 have e:-h - -S=-(h-S):=by omega
 rw[e,Int.natAbs_neg,Int.natAbs_neg,Int.natAbs_neg]
 exact u
def pL (u:Nat->Nat->Int) (p q:Nat):Int:=aw (u p 0) (u q 1)
def mn (u:Nat->Nat->Int) (p q:Nat):Int:=az (pL u p q) (neg (pL u q p))
def sz (u:Nat->Nat->Int) (p q:Nat):Int:=az (rg (pL u p q)) (rg (pL u q p))
def dt (u:Nat->Nat->Int) (p q r:Nat):Int:=az (az (aw (u p 2) (mn u q r)) (neg (aw (u q 2) (mn u p r)))) (aw (u r 2) (mn u p q))
def cm (u:Nat->Nat->Int) (p q r:Nat):Int:=az (az (aw (sz u q r) (rg (u p 2))) (aw (sz u r p) (rg (u q 2)))) (aw (sz u p q) (rg (u r 2)))
def lf (u:Nat->Nat->Int) (p:Nat):Int:=az (az (az 0 (aw (u p 0) (u p 0))) (aw (u p 1) (u p 1))) (aw (u p 2) (u p 2))
def mX (X:Nat->Nat->Int) (p q:Nat):Int:=X p 0*X q 1-X q 0*X p 1
def dX (X:Nat->Nat->Int) (p q r:Nat):Int:=X p 2*mX X q r-X q 2*mX X p r+X r 2*mX X p q
def lX (X:Nat->Nat->Int) (p:Nat):Int:=X p 0*X p 0+X p 1*X p 1+X p 2*X p 2
structure Lg (X u:Nat->Nat->Int) (p:Nat):Prop where
 f:∀ k,k<3->Fx 872 1226 (u p k)
 n:∀ k,k<3->Un (X p k) (iV (u p k))
theorem gG {X u:Nat->Nat->Int} {p q:Nat} (hp:Lg X u p) (hq:Lg X u q):Fx 670 1379 (pL u p q)∧Un (iV (u p 0)*iV (u q 1)) (2^1074*iV (pL u p q)):=by
 obtain⟨l,lu,_⟩:=(hp.f 0 (by decide)).prod (hq.f 1 (by decide)) (by decide) (by decide) (by decide)
 exact⟨l,lu⟩
def wQ (u:Nat->Nat->Int) (p q:Nat):Int:=((2^1074*iV (pL u p q)).natAbs:Int)+((2^1074*iV (pL u q p)).natAbs:Int)
theorem x7 (u:Nat->Nat->Int) (p q:Nat):wQ u p q=wQ u q p:=Int.add_comm _ _
theorem iK {X u:Nat->Nat->Int} {p q:Nat} (hp:Lg X u p) (hq:Lg X u q) :
  Fx 670 1381 (mn u p q)∧Dv 4611686018427388289 1152921504606847104 (mX X p q) (2^1074*iV (mn u p q)) (wQ u p q):=by
 obtain⟨l,lu⟩:=gG hp hq
 obtain⟨r,ru⟩:=gG hq hp
 obtain⟨nr,ne⟩:=r.neg
 obtain⟨d,du⟩:=l.sum nr (by decide)
 rw[ne,<- Int.sub_eq_add_neg] at du
 have du:=du.scale (Int.le_of_lt (p2 1074))
 rw[Int.mul_sub] at du
 exact⟨d,uc (pf (hp.n 0 (by decide)) (hq.n 1 (by decide)) lu) (pf (hq.n 0 (by decide)) (hp.n 1 (by decide)) ru) du (by decide) (by decide)⟩
theorem md {X u:Nat->Nat->Int} {p q:Nat} (hp:Lg X u p) (hq:Lg X u q) :
  Fx 670 1381 (sz u p q)∧Sz 1152921504606847104 (wQ u p q) (2^1074*iV (sz u p q)):=by
 obtain⟨l,lu⟩:=gG hp hq
 obtain⟨r,ru⟩:=gG hq hp
 obtain⟨la,le⟩:=l.abs
 obtain⟨ra,re⟩:=r.abs
 obtain⟨d,du⟩:=la.sum ra (by decide)
 rw[le,re] at du
 have p0:=Int.le_of_lt (p2 1074)
 have du:=du.scale p0
 rw[Int.mul_add,<- mc p0,<- mc p0] at du
 exact⟨d,pj (pg _) (pg _) du (by decide) (by decide)⟩
theorem x8 {X u:Nat->Nat->Int} {p q:Nat} (hp:Lg X u p) (hq:Lg X u q):sz u p q=sz u q p:=by
 obtain⟨l,lu⟩:=gG hp hq
 obtain⟨r,ru⟩:=gG hq hp
 obtain⟨la,le⟩:=l.abs
 obtain⟨ra,re⟩:=r.abs
 exact nJ la.r ra.r la.p ra.p
def aQ (u:Nat->Nat->Int) (p k:Nat):Int:=((iV (u p k)).natAbs:Int)
theorem gH {X u:Nat->Nat->Int} {p q r:Nat} (hp:Lg X u p) (hq:Lg X u q) (hr:Lg X u r) :
  Fx 468 1534 (aw (u p 2) (mn u q r))∧Dv 6917529027641083010 1152921504606847233 (X p 2*mX X q r) (2^1074*(2^1074*iV (aw (u p 2) (mn u q r)))) (aQ u p 2*wQ u q r):=by
 obtain⟨m,d⟩:=iK hq hr
 obtain⟨t,tu,_⟩:=(hp.f 2 (by decide)).prod m (by decide) (by decide) (by decide)
 have tu:=tu.scale (Int.le_of_lt (p2 1074))
 rw[Int.mul_left_comm] at tu
 exact⟨t,zg (At (hp.n 2 (by decide))) d tu (by decide) (by decide)⟩
theorem kW {X u:Nat->Nat->Int} {p q r:Nat} (hp:Lg X u p) (hq:Lg X u q) (hr:Lg X u r) :
  Fx 468 1534 (aw (sz u q r) (rg (u p 2)))∧Sz 1152921504606847233 (aQ u p 2*wQ u q r) (2^1074*(2^1074*iV (aw (sz u q r) (rg (u p 2))))):=by
 obtain⟨m,d⟩:=md hq hr
 obtain⟨a,ae⟩:=(hp.f 2 (by decide)).abs
 obtain⟨t,tu,_⟩:=m.prod a (by decide) (by decide) (by decide)
 have tu:=tu.scale (Int.le_of_lt (p2 1074))
 rw[<- Int.mul_assoc,ae] at tu
 rw[Int.mul_comm (aQ u p 2)]
 exact⟨t,zj d (pg _) tu (by decide) (by decide)⟩
def dQ (u:Nat->Nat->Int) (p q r:Nat):Int:=aQ u p 2*wQ u q r+aQ u q 2*wQ u p r+aQ u r 2*wQ u p q
theorem jS {X u:Nat->Nat->Int} {p q r:Nat} (hp:Lg X u p) (hq:Lg X u q) (hr:Lg X u r) :
  Fx 468 1538 (dt u p q r)∧∃ Z,Un Z (2^1074*(2^1074*iV (dt u p q r)))∧Dv 8070450532247930243 1152921504606847362 (dX X p q r) Z (dQ u p q r):=by
 obtain⟨f1,d1⟩:=gH hp hq hr
 obtain⟨f2,d2⟩:=gH hq hp hr
 obtain⟨f3,d3⟩:=gH hr hp hq
 obtain⟨n2,e2⟩:=f2.neg
 obtain⟨s,su⟩:=f1.sum n2 (by decide)
 rw[e2,<- Int.sub_eq_add_neg] at su
 obtain⟨t,tu⟩:=s.sum (f3.up (show 1534<=1536 by decide)) (by decide)
 have p0:=Int.le_of_lt (p2 1074)
 have su:=(su.scale p0).scale p0
 have tu:=(tu.scale p0).scale p0
 rw[Int.mul_sub,Int.mul_sub] at su
 rw[Int.mul_add,Int.mul_add] at tu
 exact⟨t,_,tu,qR (uc d1 d2 su (by decide) (by decide)) (d3.up (by decide) (by decide))⟩
theorem kD {X u:Nat->Nat->Int} {p q r:Nat} (hp:Lg X u p) (hq:Lg X u q) (hr:Lg X u r) :
  Fx 468 1538 (cm u p q r)∧Sz 1152921504606847491 (dQ u p q r) (2^1074*(2^1074*iV (cm u p q r))):=by
 obtain⟨f1,d1⟩:=kW hp hq hr
 obtain⟨f2,d2⟩:=kW hq hr hp
 obtain⟨f3,d3⟩:=kW hr hp hq
 obtain⟨s,su⟩:=f1.sum f2 (by decide)
 obtain⟨t,tu⟩:=s.sum (f3.up (show 1534<=1536 by decide)) (by decide)
 have p0:=Int.le_of_lt (p2 1074)
 have su:=(su.scale p0).scale p0
 have tu:=(tu.scale p0).scale p0
 rw[Int.mul_add,Int.mul_add] at su tu
 have d3':Sz 1152921504606847362 (aQ u r 2*wQ u p q) (2^1074*(2^1074*iV (aw (sz u p q) (rg (u r 2))))):=⟨d3.q,d3.s,Int.le_trans d3.l (Int.mul_le_mul_of_nonneg_right (by decide) d3.s)⟩
 have:=pj (pj d1 d2 su (G:=1152921504606847362) (by decide) (by decide)) d3' tu (G:=1152921504606847491) (by decide) (by decide)
 rw[x7 u r p] at this
 exact⟨t,this⟩
def sA:Int:=4380876537524649991
theorem x9 {p m:Int} {n:Nat} (hr:ar p) (hp:ay p=true) (h0:0<=p) (hm:bl p=m) (he:bs p+1074=n):iV p=m*2^n:=by
 have e:=jd hr hp
 rw[hm,he,Int.toNat_natCast] at e
 have s:0<=iV p:=by
  rw[iV,decide_eq_false (by omega)]
  exact Int.natCast_nonneg _
 omega
theorem eI:ar sA:=by unfold ar sA;omega
theorem r6:iV sA=7881299347898375*2^971:=x9 (n:=971) eI (by decide) (by decide) (by decide) (by decide)
theorem Ax:Fx 971 1024 sA:=by
 refine⟨eI,by decide,⟨7881299347898375,by rw[r6,Int.mul_comm]⟩,?_⟩
 rw[r6,Int.natAbs_mul,Int.natCast_mul]
 have e:(((2:Int)^971).natAbs:Int)=2^971:=by have:=p2 971;omega
 rw[e,show(2:Int)^1024=2^53*2^971 by rw[<- Int.pow_add]]
 exact Int.mul_le_mul_of_nonneg_right (by decide) (Int.le_of_lt (p2 971))
theorem um {X u:Nat->Nat->Int} {p q r:Nat} (hp:Lg X u p) (hq:Lg X u q) (hr:Lg X u r) (h:iV (aw sA (cm u p q r))<((iV (dt u p q r)).natAbs:Int)) :
  (0<dX X p q r↔0<iV (dt u p q r))∧(dX X p q r<0↔iV (dt u p q r)<0):=by
 obtain⟨fd,Z,uZ,dv⟩:=jS hp hq hr
 obtain⟨fs,hs⟩:=kD hp hq hr
 obtain⟨_,_,T,hT,uT⟩:=Ax.prod fs (by decide) (by decide) (by decide)
 have p0:=Int.le_of_lt (p2 1074)
 have hT':10141204801825835211973625643008*T=7881299347898375*iV (cm u p q r):=by
  rw[r6,show(2:Int)^1074=2^103*2^971 by rw[<- Int.pow_add],show(2:Int)^103=10141204801825835211973625643008 by decide] at hT
  refine Int.eq_of_mul_eq_mul_left (Int.ne_of_gt (p2 971)) ?_
  rw[<- Int.mul_assoc,Int.mul_comm (2^971),hT,Int.mul_comm 7881299347898375 (2^971),Int.mul_assoc]
 have b1:=Int.le_of_eq hT'.symm
 have b2:7881299347898375*(2^1074*(2^1074*iV (cm u p q r)))<=10141204801825835211973625643008*(2^1074*(2^1074*T)):=by
  have:=Int.mul_le_mul_of_nonneg_left (Int.mul_le_mul_of_nonneg_left b1 p0) p0
  rwa [Int.mul_left_comm _ 7881299347898375,Int.mul_left_comm _ 7881299347898375,Int.mul_left_comm _ 10141204801825835211973625643008,Int.mul_left_comm _ 10141204801825835211973625643008] at this
 have s0:=hs.s
 have t0:0<=2^1074*(2^1074*T):=by
  generalize 2^1074*(2^1074*T)=t at *
  generalize 2^1074*(2^1074*iV (cm u p q r))=s at *
  omega
 have h':2^1074*(2^1074*iV (aw sA (cm u p q r)))<(((2^1074*(2^1074*iV (dt u p q r)):Int)).natAbs:Int):=by
  rw[mc p0,mc p0]
  exact Int.mul_lt_mul_of_pos_left (Int.mul_lt_mul_of_pos_left h (p2 1074)) (p2 1074)
 obtain⟨r1,r2⟩:=xY dv uZ hs b2 ((uT.scale p0).scale p0) h' t0 (by decide) (by decide) (by decide)
 have g1:=uf (x:=iV (dt u p q r)) (p2 1074)
 have g2:=uf (x:=2^1074*iV (dt u p q r)) (p2 1074)
 exact⟨r1.trans (g2.1.trans g1.1),r2.trans (g2.2.trans g1.2)⟩
def ts (u:Nat->Nat->Int) (i p q r:Nat):Int:=aw (cm u r p q) (lf u i)
def sX (X:Nat->Nat->Int):Int:=(lX X 3*dX X 0 1 2-lX X 2*dX X 3 0 1)+(lX X 1*dX X 2 3 0-lX X 0*dX X 1 2 3)
theorem mO {a b:Nat}:Fx a b 0:=⟨by unfold ar;omega,by decide,by rw[show iV 0=0 by decide];exact⟨0,by omega⟩,by rw[show iV 0=0 by decide];exact Int.le_of_lt (p2 b)⟩
theorem ak {w W:World} (h:Below w.heap.size w W) {g:Nat} {X:Obj} (k:w.heap[g]?=some X):W.heap[g]?=some X:=(h.block _ (aGe k).1).trans k
structure pz (arr:Array Value) (u:Nat->Nat->Int):Prop where
 n:arr.size=44
 o:arr.all (·.oneCell')=true
 l:∀ p,p<4->∀ k,k<3->arr[p*3+k]?=some (.float .f64 (wd (u p k)))
 m:∀ p,p<4->∀ q,q<4->p≠q->arr[12+p*8+q*2]?=some (.float .f64 (wd (mn u p q)))
 s:∀ p,p<4->∀ q,q<4->p≠q->arr[12+p*8+q*2+1]?=some (.float .f64 (wd (sz u p q)))
def Lf (u:Nat->Nat->Int):Prop:=∀ p,p<4->∀ k,k<3->Fx 872 1226 (u p k)
theorem Lf.lg {u:Nat->Nat->Int} (h:Lf u) {p:Nat} (hp:p<4):Lg (fun p k=>iV (u p k)) u p:=⟨fun k hk=>h p hp k hk,fun k hk=>by unfold Un;rw[Int.sub_self];simp⟩
theorem fN {a b c d:Nat} {x y:Int} (hx:Fx a b x) (hy:Fx c d y) (hz:ay (aw x y)=true):∀ W,(binOp .mul 54 (.float .f64 (wd x)) (.float .f64 (wd y))).run prog W=.ok (.float .f64 (wd (aw x y))) W:=fun W=>kC _ (kV hx) (kV hy) (ct hz) W
theorem kX {a b c d:Nat} {x y:Int} (hx:Fx a b x) (hy:Fx c d y) (hz:ay (az x y)=true):∀ W,(binOp .add 54 (.float .f64 (wd x)) (.float .f64 (wd y))).run prog W=.ok (.float .f64 (wd (az x y))) W:=fun W=>vX _ (kV hx) (kV hy) (ct hz) W
theorem mP {a b c d:Nat} {x y:Int} (hx:Fx a b x) (hy:Fx c d y) (hz:ay (az x (neg y))=true):∀ W,(binOp .sub 54 (.float .f64 (wd x)) (.float .f64 (wd y))).run prog W=.ok (.float .f64 (wd (az x (neg y)))) W:=fun W=>nM _ (kV hx) (kV hy) (ct hz) W
theorem v6 {u:Nat->Nat->Int} (hL:Lf u) {p q r:Nat} (hp:p<4) (hq:q<4) (hr:r<4) (pq:p≠q) (pr:p≠r) (qr:q≠r) {arr:Array Value} (hA:pz arr u) (g:Nat) (w:World) (hg:w.heap[g]?=some (.cells arr 103 (0,0))) :
  Calls prog 67 #[.pointer (some ⟨g,0,none⟩),.int .i64 p,.int .i64 q,.int .i64 r] w fun e w'=>e=.returned (.float .f64 (wd (dt u p q r)))∧Below w.heap.size w w':=by
 have gp:=hL.lg hp
 have gq:=hL.lg hq
 have gr:=hL.lg hr
 have m1:=(iK gq gr).1
 have m2:=(iK gp gr).1
 have m3:=(iK gp gq).1
 have t1:=(gH gp gq gr).1
 have t2:=(gH gq gp gr).1
 have t3:=(gH gr gp gq).1
 obtain⟨s1,-⟩:=t1.sum t2.neg.1 (by decide)
 have h1:=fN (gp.f 2 (by decide)) m1 t1.p
 have h2:=fN (gq.f 2 (by decide)) m2 t2.p
 have h3:=fN (gr.f 2 (by decide)) m3 t3.p
 have h4:=mP t1 t2 s1.p
 have h5:=kX s1 t3 (jS gp gq gr).1.p
 have c1:=ac hg _ (hA.l p hp 2 (by decide))
 have c2:=ac hg _ (hA.l q hq 2 (by decide))
 have c3:=ac hg _ (hA.l r hr 2 (by decide))
 have c4:=ac hg _ (hA.m q hq r hr qr)
 have c5:=ac hg _ (hA.m p hp r hr pr)
 have c6:=ac hg _ (hA.m p hp q hq pq)
 have p3:(p:Int)<4:=by omega
 have q3:(q:Int)<4:=by omega
 have r3:(r:Int)<4:=by omega
 unfold dt
 clear gp gq gr m1 m2 m3 t1 t2 t3 s1 hL hA hg
 generalize az (az (aw (u p 2) (mn u q r)) (neg (aw (u q 2) (mn u p r)))) (aw (u r 2) (mn u p q))=D at *
 generalize az (aw (u p 2) (mn u q r)) (neg (aw (u q 2) (mn u p r)))=S at *
 generalize aw (u p 2) (mn u q r)=A at *
 generalize aw (u q 2) (mn u p r)=B at *
 generalize aw (u r 2) (mn u p q)=C at *
 generalize mn u q r=x1 at *
 generalize mn u p r=x2 at *
 generalize mn u p q=x3 at *
 go_enter func67,ntmps67
 go_wp2_with fail
 go_quiet (fail)
 go_wp2_with fail
 have hd:=aI (ap w) nq
 replace c2:=aj c2 hd
 replace c3:=aj c3 hd
 replace c5:=aj c5 hd
 replace c6:=aj c6 hd
 clear c1 c4
 generalize w.drewN nq=w1 at *
 go_quiet (fail)
 go_wp2_with fail
 have hd2:=aI (ap w1) nq
 replace c3:=aj c3 hd2
 replace c6:=aj c6 hd2
 clear c2 c5
 generalize w1.drewN nq=w2 at *
 go_quiet (fail)
 go_wp2
 go_ret
 exact⟨rfl,af (af hd hd2) (aI (ap w2) _)⟩
theorem un {u:Nat->Nat->Int} (hL:Lf u) {p q r:Nat} (hp:p<4) (hq:q<4) (hr:r<4) (pq:p≠q) (pr:p≠r) (qr:q≠r) {arr:Array Value} (hA:pz arr u) (g:Nat) (w:World) (hg:w.heap[g]?=some (.cells arr 103 (0,0))) :
  Calls prog 68 #[.pointer (some ⟨g,0,none⟩),.int .i64 p,.int .i64 q,.int .i64 r] w fun e w'=>e=.returned (.float .f64 (wd (cm u p q r)))∧Below w.heap.size w w':=by
 have gp:=hL.lg hp
 have gq:=hL.lg hq
 have gr:=hL.lg hr
 have m1:=(md gq gr).1
 have m2:=(md gr gp).1
 have m3:=(md gp gq).1
 have t1:=(kW gp gq gr).1
 have t2:=(kW gq gr gp).1
 have t3:=(kW gr gp gq).1
 obtain⟨s1,-⟩:=t1.sum t2 (by decide)
 have h1:=fN m1 (gp.f 2 (by decide)).abs.1 t1.p
 have h2:=fN m2 (gq.f 2 (by decide)).abs.1 t2.p
 have h3:=fN m3 (gr.f 2 (by decide)).abs.1 t3.p
 have h4:=kX t1 t2 s1.p
 have h5:=kX s1 t3 (kD gp gq gr).1.p
 have a1:Hid (∀ W,Calls prog 43 #[.float .f64 (wd (u p 2))] W fun e w'=>e=.returned (.float .f64 (wd (rg (u p 2))))∧w'=W):=fun W=>cG (gp.f 2 (by decide)).r W
 have a2:Hid (∀ W,Calls prog 43 #[.float .f64 (wd (u q 2))] W fun e w'=>e=.returned (.float .f64 (wd (rg (u q 2))))∧w'=W):=fun W=>cG (gq.f 2 (by decide)).r W
 have a3:Hid (∀ W,Calls prog 43 #[.float .f64 (wd (u r 2))] W fun e w'=>e=.returned (.float .f64 (wd (rg (u r 2))))∧w'=W):=fun W=>cG (gr.f 2 (by decide)).r W
 have c1:=ac hg _ (hA.l p hp 2 (by decide))
 have c2:=ac hg _ (hA.l q hq 2 (by decide))
 have c3:=ac hg _ (hA.l r hr 2 (by decide))
 have c4:=ac hg _ (hA.s q hq r hr qr)
 have c5:=ac hg _ (hA.s r hr p hp (Ne.symm pr))
 have c6:=ac hg _ (hA.s p hp q hq pq)
 have p3:(p:Int)<4:=by omega
 have q3:(q:Int)<4:=by omega
 have r3:(r:Int)<4:=by omega
 unfold cm
 clear gp gq gr m1 m2 m3 t1 t2 t3 s1 hL hA hg
 generalize az (az (aw (sz u q r) (rg (u p 2))) (aw (sz u r p) (rg (u q 2)))) (aw (sz u p q) (rg (u r 2)))=D at *
 generalize az (aw (sz u q r) (rg (u p 2))) (aw (sz u r p) (rg (u q 2)))=S at *
 generalize aw (sz u q r) (rg (u p 2))=A at *
 generalize aw (sz u r p) (rg (u q 2))=B at *
 generalize aw (sz u p q) (rg (u r 2))=C at *
 generalize sz u q r=x1 at *
 generalize sz u r p=x2 at *
 generalize sz u p q=x3 at *
 generalize rg (u p 2)=y1 at *
 generalize rg (u q 2)=y2 at *
 generalize rg (u r 2)=y3 at *
 go_enter func68,ntmps68
 go_wp2_with fail
 go_quiet (first|(go_at_call 43;with_reducible exact Calls.quiet_of_same (a1.out _)))
 go_wp2_with fail
 have hd:=aI (ap w) nq
 replace c2:=aj c2 hd
 replace c3:=aj c3 hd
 replace c5:=aj c5 hd
 replace c6:=aj c6 hd
 clear c1 c4
 generalize w.drewN nq=w1 at *
 go_quiet (first|(go_at_call 43;with_reducible exact Calls.quiet_of_same (a2.out _)))
 go_wp2_with fail
 have hd2:=aI (ap w1) nq
 replace c3:=aj c3 hd2
 replace c6:=aj c6 hd2
 clear c2 c5
 generalize w1.drewN nq=w2 at *
 go_quiet (first|(go_at_call 43;with_reducible exact Calls.quiet_of_same (a3.out _)))
 go_wp2
 go_ret
 exact⟨rfl,af (af hd hd2) (aI (ap w2) _)⟩
theorem Bb:wd 0=0:=by decide
def Bc (v:Value) (x y:Nat):Prop:=∀ g,v.ownBlock=some g->x<=g∧g<y
theorem r7 (ng:Bool) (ao:Option Addr) (n cap:Nat) (e:Int) (w:World) (hm:n<=9223372036854775807) :
  Calls prog 50 #[.agg #[.bool ng,.slice ao n cap,.int .i64 e]] w fun r w'=>r=.returned (.int .i64 (sgn ng n))∧Below w.heap.size w w':=by
 by_cases h0:n=0
 ·subst h0
  go_enter func50,ntmps50
  go_wp2
  go_ret
  exact⟨rfl,ah _ _⟩
 ·have hn0:((n:Int) == 0)=false:=by simp;omega
  cases ng
  ·go_enter func50,ntmps50
   go_wp2
   go_ret
   exact⟨bZ (by simp[sgn,h0]),ah _ _⟩
  ·go_enter func50,ntmps50
   go_wp2
   go_ret
   exact⟨bZ (by simp[sgn,h0]),ah _ _⟩
def aA.opp (x:aA):aA:=⟨if x.n=0 then x.ng else !x.ng,x.ao,x.n,x.cap,x.d,x.e⟩
theorem nO (x:aA) (w:World) (hm:x.n<=9223372036854775807) :
  Calls prog 91 #[x.v] w fun r w'=>r=.returned x.opp.v∧Below w.heap.size w w':=by
 obtain⟨ng,ao,n,cap,d,e⟩:=x
 unfold aA.v aA.opp
 simp only at *
 by_cases h0:n=0
 ·subst h0
  go_enter func91,ntmps91
  go_wp2
  refine bodyPost_ret (v:=.agg #[.bool ng,.slice ao 0 cap,.int .i64 e]) (by simp[results,results91,go_sem]) rfl ⟨rfl,?_⟩
  exact aL _ _ _
 ·have hn0:(0:Int)<n:=by omega
  rw[if_neg h0]
  go_enter func91,ntmps91
  go_wp2
  refine bodyPost_ret (v:=.agg #[.bool (!ng),.slice ao n cap,.int .i64 e]) (by simp[results,results91,go_sem]) rfl ⟨rfl,?_⟩
  exact aL _ _ _
def zm (w w':World) (V:Int) (v:Value) (er:Int):Prop:=fG w w' V v er
theorem zm.shape {w w':World} {V er:Int} {v:Value} (h:zm w w' V v er):∃ ng so sn sc e,v=.agg #[.bool ng,.slice so sn sc,.int .i64 e]:=by
 exact fG.shape h
def bJ (B:Nat) (w:World) (V:Int) (v:Value):Prop:=∃ ng s m e,v=.agg #[.bool ng,s,.int .i64 e]∧Dy V ng m e∧An B w s m
def fu (B:Nat) (w:World) (V:Int) (v:Value) (er:Int):Prop:=(cK V∧er=0∧bJ B w V v)∨(¬ cK V∧er=2∧v=dc)
theorem aR.dan {w w':World} {V:Int} {v:Value} (h:aR w w' V v):bJ w.heap.size w' V v:=by
 obtain⟨ng,s,m,e,h1,h2,h3⟩:=h
 exact⟨ng,s,m,e,h1,h2,h3.an⟩
theorem An.wr {B:Nat} {w w':World} {v:Value} {V:Int} {g:Nat} (h:An B w v V) (hw:Wr g w w') (hg:g<B):An B w' v V:=by
 obtain⟨t,d,h1,h2⟩:=h
 exact⟨t,d,h1.of_block fun g' hg'=>hw.block g' (h1.ge hg').2 (by have:=(h1.ge hg').1;omega),h2⟩
theorem bJ.wr {B:Nat} {w w':World} {v:Value} {V:Int} {g:Nat} (h:bJ B w V v) (hw:Wr g w w') (hg:g<B):bJ B w' V v:=by
 obtain⟨ng,s,m,e,h1,h2,h3⟩:=h
 exact⟨ng,s,m,e,h1,h2,h3.wr hw hg⟩
theorem bJ.keeps {B:Nat} {w w':World} {v:Value} {V:Int} (h:bJ B w V v) (k:Below w.heap.size w w'):bJ B w' V v:=by
 obtain⟨ng,s,m,e,h1,h2,h3⟩:=h
 exact⟨ng,s,m,e,h1,h2,h3.keeps k⟩
theorem bJ.lower {B B':Nat} {w:World} {v:Value} {V:Int} (h:bJ B w V v) (hB:B'<=B):bJ B' w V v:=by
 obtain⟨ng,s,m,e,h1,h2,h3⟩:=h
 exact⟨ng,s,m,e,h1,h2,h3.lower hB⟩
theorem bJ.num {B:Nat} {w:World} {v:Value} {V:Int} (h:bJ B w V v):aM w v V:=by
 obtain⟨ng,s,m,e,h1,h2,h3⟩:=h
 exact⟨ng,s,m,e,h1,h2,h3.num⟩
theorem fu.wr {B:Nat} {w w':World} {v:Value} {V er:Int} {g:Nat} (h:fu B w V v er) (hw:Wr g w w') (hg:g<B):fu B w' V v er:=by
 rcases h with⟨h1,h2,h3⟩|h
 ·exact .inl ⟨h1,h2,h3.wr hw hg⟩
 ·exact .inr h
theorem fu.keeps {B:Nat} {w w':World} {v:Value} {V er:Int} (h:fu B w V v er) (k:Below w.heap.size w w'):fu B w' V v er:=by
 rcases h with⟨h1,h2,h3⟩|h
 ·exact .inl ⟨h1,h2,h3.keeps k⟩
 ·exact .inr h
theorem fu.lower {B B':Nat} {w:World} {v:Value} {V er:Int} (h:fu B w V v er) (hB:B'<=B):fu B' w V v er:=by
 rcases h with⟨h1,h2,h3⟩|h
 ·exact .inl ⟨h1,h2,h3.lower hB⟩
 ·exact .inr h
theorem fu.shape {B:Nat} {w:World} {v:Value} {V er:Int} (h:fu B w V v er):∃ ng so sn sc e,v=.agg #[.bool ng,.slice so sn sc,.int .i64 e]:=by
 rcases h with⟨_,_,ng,s,m,e,h1,_,h3⟩|⟨_,_,rfl⟩
 ·obtain⟨so,sn,sc,rfl⟩:=h3.shape
  exact⟨_,_,_,_,_,h1⟩
 ·exact⟨_,_,_,_,_,rfl⟩
theorem fu.ge {B:Nat} {w:World} {ng:Bool} {so:Option Addr} {sn sc:Nat} {e V er:Int} (h:fu B w V (.agg #[.bool ng,.slice so sn sc,.int .i64 e]) er):Bc (.slice so sn sc) B w.heap.size:=by
 intro g hg
 rcases h with⟨_,_,ng',s,m,e',h1,_,h3⟩|⟨_,_,h1⟩
 ·simp only[Value.agg.injEq,Array.mk.injEq,List.cons.injEq,Value.bool.injEq,Value.int.injEq,and_true,true_and] at h1
  obtain⟨_,h1,_⟩:=h1
  rw[<- h1] at h3
  exact h3.ge hg
 ·simp only[dc,Value.agg.injEq,Array.mk.injEq,List.cons.injEq,Value.bool.injEq,Value.int.injEq,Value.slice.injEq,and_true,true_and] at h1
  obtain⟨_,⟨rfl,_,_⟩,_⟩:=h1
  simp[Value.ownBlock] at hg
theorem bJ.parts {B:Nat} {w:World} {ng:Bool} {so:Option Addr} {sn sc:Nat} {e V:Int} (h:bJ B w V (.agg #[.bool ng,.slice so sn sc,.int .i64 e])):∃ m,Dy V ng m e∧An B w (.slice so sn sc) m:=by
 obtain⟨ng',s,m,e',h1,h2,h3⟩:=h
 simp only[Value.agg.injEq,Array.mk.injEq,List.cons.injEq,Value.bool.injEq,Value.int.injEq,and_true,true_and] at h1
 obtain⟨rfl,rfl,rfl⟩:=h1
 exact⟨m,h2,h3⟩
end Go.Proofs.YtcklaogdjpbagaaGreatDoor
