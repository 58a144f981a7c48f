/- Parts of the proof. -/
import Derived.Test.YtcjfonaolcokbaaGreatDoorPart9
import Derived.Laws.MakeOwn
import Derived.Maps.AppendAt
set_option maxRecDepth 100000
set_option maxHeartbeats 8000000
set_option linter.unusedVariables false
set_option linter.unusedSimpArgs false
namespace Go.Proofs.YtcjfonaolcokbaaGreatDoor
open Go Go.RowKit Go.Proofs.YtcjfonaolcokbaaGreatDoor.M
def iX (w:World) (g N k:Nat) (q:Nat->aL):Prop :=
 ∃ cur:Array Value,w.heap[g]?=some (.cells cur 34 (0,0))∧cur.size=N*3∧∀ i,i<k->(cur[i*3]?=some (.bool (q i).ng)∧cur[i*3+1]?=some (.slice (q i).ao (q i).n (q i).cap)∧cur[i*3+2]?=some (.int .i64 (q i).e))∧aQ w (q i).ao (q i).n (q i).cap (q i).d
theorem G7:∃ i,Tryz.prog.info? 34=some i∧i.zero=some (.agg #[.bool false,.slice none 0 0,.int .i64 0])∧i.size=3∧i.bytes=40:=by
 have h:(Tryz.prog.info? 34).map (fun i=>(i.zero,i.size,i.bytes))=some (some (.agg #[.bool false,.slice none 0 0,.int .i64 0]),3,40):=by kernel_rfl
 obtain ⟨i,hi,hzz⟩:=Option.map_eq_some_iff.1 h
 simp only [Prod.mk.injEq] at hzz
 exact ⟨i,hi,hzz⟩
theorem mS (n:Nat) (hn:n<=100000) (w:World) :
  (Instr.makeSlice 120 (.int .i64 (n:Int)) (.int .i64 (n:Int))).run Tryz.prog w=.ok (.slice (some ⟨w.heap.size,0,none⟩) n n) (w.alloc (.cells (madeCells #[.bool false,.slice none 0 0,.int .i64 0] (n*3)) 34)):=by
 obtain ⟨i,hi,hz,hs,hb⟩:=G7
 have:=run_make (P:=Tryz.prog) w 120 34 i _ Tryz.underlying120 hi hz .i64 .i64 n n (by omega) (Int.le_refl _) (by rw [hb]; omega) (by omega)
 simp only [Int.toNat_natCast,hs] at this
 exact this
def o9 (q:Nat->aL) (k:Nat) (x:aL):Nat->aL:=fun j=>if j=k then x else q j
theorem gC (q:Nat->aL) (k:Nat) (x:aL):o9 q k x k=x:=by simp [o9]
theorem fq (q:Nat->aL) {k j:Nat} (x:aL) (h:j≠k):o9 q k x j=q j:=by simp [o9,h]
theorem EF {W w':World} {b g o0 o1 o2:Nat} {x y z:Value} (h:W.cell? ⟨b,o0,none⟩=some x∧W.cell? ⟨b,o1,none⟩=some y∧W.cell? ⟨b,o2,none⟩=some z) (hw:Wr g W w') (hg:b≠g) :
  w'.cell? ⟨b,o0,none⟩=some x∧w'.cell? ⟨b,o1,none⟩=some y∧w'.cell? ⟨b,o2,none⟩=some z :=
 ⟨(hw.cell (World.block_lt_of_cell? W _ h.1) hg).trans h.1,(hw.cell (World.block_lt_of_cell? W _ h.2.1) hg).trans h.2.1,(hw.cell (World.block_lt_of_cell? W _ h.2.2) hg).trans h.2.2⟩
theorem EG {W w':World} {b o0 o1 o2:Nat} {x y z:Value} (h:W.cell? ⟨b,o0,none⟩=some x∧W.cell? ⟨b,o1,none⟩=some y∧W.cell? ⟨b,o2,none⟩=some z) (hb:Below W.heap.size W w') :
  w'.cell? ⟨b,o0,none⟩=some x∧w'.cell? ⟨b,o1,none⟩=some y∧w'.cell? ⟨b,o2,none⟩=some z:=⟨aT h.1 hb,aT h.2.1 hb,aT h.2.2 hb⟩
theorem EI (W:World) (g o0 o1 o2:Nat) (x y z:Value):Wr g W (((W.setCell ⟨g,o0,none⟩ x).setCell ⟨g,o1,none⟩ y).setCell ⟨g,o2,none⟩ z):=(((Wr.refl g W).setCell o0 x).setCell o1 y).setCell o2 z
theorem aQ.wrN {w w':World} {g:Nat} {ao:Option Addr} {n cap:Nat} {d:Nat->Int} (h:aQ w ao n cap d) (hw:Wr g w w') {cur:Array Value} {z:Nat × Nat} (hg:w.heap[g]?=some (.cells cur 34 z)) (ht:∀ b off,ao=some ⟨b,off,none⟩->0<n->b≠g):aQ w' ao n cap d :=
  ⟨h.le,h.max,h.nl,fun hn=>by
    obtain ⟨b,off,rfl,hlt,hc⟩:=h.spot hn
    exact ⟨b,off,rfl,Nat.lt_of_lt_of_le hlt hw.size,fun i hi=>(hw.cell (p:=⟨b,off+i,none⟩) hlt (ht b off rfl hn)).trans (hc i hi)⟩⟩
theorem dm.open {w w':World} {V:Int} {so:Option Addr} {sn sc:Nat} (h:dm w w' V (.slice so sn sc)):∃ d,aQ w' so sn sc d∧cT d sn∧val d sn=V∧∀ b off,so=some ⟨b,off,none⟩->w.heap.size<=b:=by
 obtain ⟨t,d,hO,hN,hV,_⟩:=h
 have hge:=wX hO
 obtain ⟨so',sc',e,hR⟩:=hO.row
 simp only [Value.slice.injEq] at e
 obtain ⟨rfl,rfl,rfl⟩:=e
 exact ⟨d,hR,hN,hV,fun b off hb=>hge b (by rw [hb]; rfl)⟩
theorem bC {w0 w:World} {g o0 o1 o2:Nat} (h:Below w0.heap.size w0 w) (hg:w0.heap.size<=g) (x y z:Value):Below w0.heap.size w0 (((w.setCell ⟨g,o0,none⟩ x).setCell ⟨g,o1,none⟩ y).setCell ⟨g,o2,none⟩ z):=((h.setCell (p:=⟨g,o0,none⟩) hg x).setCell (p:=⟨g,o1,none⟩) hg y).setCell (p:=⟨g,o2,none⟩) hg z
theorem G8 {cur:Array Value} {k:Nat} {x y z:Value} (h:k*3+2<cur.size) (i:Nat) :
  let c:=((cur.setIfInBounds (k*3) x).setIfInBounds (k*3+1) y).setIfInBounds (k*3+2) z
  (i=k->c[i*3]?=some x∧c[i*3+1]?=some y∧c[i*3+2]?=some z)∧(i≠k->c[i*3]?=cur[i*3]?∧c[i*3+1]?=cur[i*3+1]?∧c[i*3+2]?=cur[i*3+2]?):=by
 intro c
 refine ⟨fun e=>?_,fun e=>?_⟩
 ·subst e
  refine ⟨?_,?_,?_⟩
  ·show (((cur.setIfInBounds (i*3) x).setIfInBounds (i*3+1) y).setIfInBounds (i*3+2) z)[i*3]?=some x
   rw [Array.getElem?_setIfInBounds_ne (by omega),Array.getElem?_setIfInBounds_ne (by omega),Array.getElem?_setIfInBounds_self_of_lt (by omega)]
  ·show (((cur.setIfInBounds (i*3) x).setIfInBounds (i*3+1) y).setIfInBounds (i*3+2) z)[i*3+1]?=some y
   rw [Array.getElem?_setIfInBounds_ne (by omega),Array.getElem?_setIfInBounds_self_of_lt (by simp; omega)]
  ·show (((cur.setIfInBounds (i*3) x).setIfInBounds (i*3+1) y).setIfInBounds (i*3+2) z)[i*3+2]?=some z
   rw [Array.getElem?_setIfInBounds_self_of_lt (by simp; omega)]
 ·refine ⟨?_,?_,?_⟩
  all_goals
   show (((cur.setIfInBounds (k*3) x).setIfInBounds (k*3+1) y).setIfInBounds (k*3+2) z)[_]?=_
   rw [Array.getElem?_setIfInBounds_ne (by omega),Array.getElem?_setIfInBounds_ne (by omega),Array.getElem?_setIfInBounds_ne (by omega)]
theorem iX.step {wr w3:World} {g N k:Nat} {q:Nat->aL} (h:iX wr g N k q) (hb:Below wr.heap.size wr w3) (x:aL) (hx:aQ w3 x.ao x.n x.cap x.d) (hk:k<N) (hg:∀ i b' off,i<k->(q i).ao=some ⟨b',off,none⟩->0<(q i).n->g<b') (hg2:∀ b' off,x.ao=some ⟨b',off,none⟩->0<x.n->g<b') :
  iX (((w3.setCell ⟨g,k*3,none⟩ (.bool x.ng)).setCell ⟨g,k*3+1,none⟩ (.slice x.ao x.n x.cap)).setCell ⟨g,k*3+2,none⟩ (.int .i64 x.e)) g N (k+1) (o9 q k x):=by
 obtain ⟨cur,hcur,hsz,hc⟩:=h
 have q0:=(hb.block g (Array.getElem?_eq_some_iff.1 hcur).1).trans hcur
 have q1:=aE (aE (aE q0 (k*3) (.bool x.ng)) (k*3+1) (.slice x.ao x.n x.cap)) (k*3+2) (.int .i64 x.e)
 have hw:=EI w3 g (k*3) (k*3+1) (k*3+2) (.bool x.ng) (.slice x.ao x.n x.cap) (.int .i64 x.e)
 refine ⟨_,q1,by simp [hsz],fun i hi=>?_⟩
 have hs:=G8 (cur:=cur) (k:=k) (x:=.bool x.ng) (y:=.slice x.ao x.n x.cap) (z:=.int .i64 x.e) (by omega) i
 by_cases e:i=k
 ·subst e
  rw [gC]
  exact ⟨hs.1 rfl,hx.wrN hw q0 fun b' off he hn=>by have:=hg2 b' off he hn; omega⟩
 ·rw [fq q x e]
  obtain ⟨s0,s1,s2⟩:=hs.2 e
  obtain ⟨⟨c0,c1,c2⟩,hR⟩:=hc i (by omega)
  refine ⟨⟨s0.trans c0,s1.trans c1,s2.trans c2⟩,(hR.keeps hb).wrN hw q0 fun b' off he hn=>?_⟩
  have:=hg i b' off (by omega) he hn
  omega
theorem iX.nums {w:World} {g N:Nat} {q:Nat->aL} (h:iX w g N N q) (hN:N<=100000):cN w (some ⟨g,0,none⟩) N N q:=by
 obtain ⟨cur,hcur,hsz,hc⟩:=h
 refine ⟨Nat.le_refl _,by omega,fun _=>⟨g,0,rfl,(Array.getElem?_eq_some_iff.1 hcur).1,fun i hi=>?_⟩⟩
 obtain ⟨⟨c0,c1,c2⟩,hR⟩:=hc i hi
 rw [Nat.zero_add]
 exact ⟨ac hcur _ c0,ac hcur _ c1,ac hcur _ c2,hR⟩
theorem yB (ao bo:Option Addr) (n ca cb:Nat) (a b:Nat->aL) (w:World) (ha:cN w ao n ca a) (hb:cN w bo n cb b) (hn:n<=100000) (sa:∀ i,i<n->fP (a i)) (sb:∀ i,i<n->fP (b i)) :
  Calls Tryz.prog 148 #[.slice ao n ca,.slice bo n cb] w fun x w'=>∃ g q,x=.returned (.slice (some ⟨g,0,none⟩) n n)∧w.heap.size<=g∧cN w' (some ⟨g,0,none⟩) n n q∧Below w.heap.size w w'∧∀ i,i<n->cT (q i).d (q i).n∧(q i).ng=((a i).ng != (b i).ng)∧val (q i).d (q i).n=val (a i).d (a i).n*val (b i).d (b i).n∧(q i).e=(a i).e+(b i).e:=by
 have hla:=ha.le
 have hma:=ha.max
 have hlb:=hb.le
 have hmb:=hb.max
 have hmake:=mS n hn
 go_enter Tryz.func148,Tryz.ntmps148
 go_wp2_with fail
 have hb0:=ah w (.cells (madeCells #[.bool false,.slice none 0 0,.int .i64 0] (n*3)) 34)
 have g0:=aB w (.cells (madeCells #[.bool false,.slice none 0 0,.int .i64 0] (n*3)) 34)
 have HB0:Hid (iX (w.alloc (.cells (madeCells #[.bool false,.slice none 0 0,.int .i64 0] (n*3)) 34)) w.heap.size n 0 a):=⟨_,g0,by rw [size_madeCells],fun i hi=>by omega⟩
 clear g0 hmake
 generalize w.alloc (.cells (madeCells #[.bool false,.slice none 0 0,.int .i64 0] (n*3)) 34)=wx at hb0 HB0 ⊢
 go_loopw [12] (fun iv wr=>∃ (k:Nat) (q:Nat->aL),k<=n∧iv=.int .i64 k∧Hid (iX wr w.heap.size n k q)∧Hid (∀ i,i<k->cT (q i).d (q i).n∧(q i).ng=((a i).ng != (b i).ng)∧val (q i).d (q i).n=val (a i).d (a i).n*val (b i).d (b i).n∧(q i).e=(a i).e+(b i).e)∧Hid (∀ i b' off,i<k->(q i).ao=some ⟨b',off,none⟩->0<(q i).n->w.heap.size<b')∧Below w.heap.size w wr) (fun iv _=>n-(intOf iv).toNat)
 case atStart=>exact ⟨0,a,Nat.zero_le _,rfl,HB0,fun i hi=>by omega,fun i b' off hi=>by omega,hb0⟩
 case round=>
  obtain ⟨k,q,hk,rfl,HQ,HF,HG,hbw⟩:=hrel
  clear HB0 hb0
  by_cases hlt:k<n
  ·obtain ⟨ba,oa,rfl,hba,hca⟩:=ha.spot (by omega)
   obtain ⟨bb,ob,rfl,hbb,hcb⟩:=hb.spot (by omega)
   obtain ⟨c0,c1,c2,ra⟩:=(hca k hlt).keeps hbw hba
   obtain ⟨d0,d1,d2,rb⟩:=(hcb k hlt).keeps hbw hbb
   have CP:=fun W (h:Below wr.heap.size wr W)=>p7 (a k) (b k) W (ra.keeps h) (rb.keeps h) (sa k hlt) (sb k hlt)
   have hea:Hid (-1100000<=(a k).e∧(a k).e<=1100000):=(sa k hlt).2.2
   have heb:Hid (-1100000<=(b k).e∧(b k).e<=1100000):=(sb k hlt).2.2
   have HAK:Hid (∀ x,a k=x->a k=x):=fun _ h=>h
   clear hca hcb ra rb
   obtain ⟨xa,hxa⟩:∃ x,a k=x:=⟨_,rfl⟩
   obtain ⟨xb,hxb⟩:∃ x,b k=x:=⟨_,rfl⟩
   rw [hxa] at c0 c1 c2 CP hea
   rw [hxb] at d0 d1 d2 CP heb
   have HXA:Hid (a k=xa):=hxa
   have HXB:Hid (b k=xb):=hxb
   clear hxa hxb HAK
   unfold aL.v at CP
   obtain ⟨ag,aao,an,aca,ad,ae⟩:=xa
   obtain ⟨bg,bao,bn,bca,bd,be⟩:=xb
   simp only at c0 c1 c2 d0 d1 d2 CP hea heb
   obtain ⟨cur,hcur,hsz,hcells⟩:=HQ.out
   have HCL:Hid _:=hcells
   have e0:k*3<cur.size:=by omega
   have e1:k*3+1<cur.size:=by omega
   have e2:k*3+2<cur.size:=by omega
   obtain ⟨v0,hv0⟩:∃ v,cur[k*3]?=some v:=⟨_,Array.getElem?_eq_getElem e0⟩
   obtain ⟨v1,hv1⟩:∃ v,cur[k*3+1]?=some v:=⟨_,Array.getElem?_eq_getElem e1⟩
   obtain ⟨v2,hv2⟩:∃ v,cur[k*3+2]?=some v:=⟨_,Array.getElem?_eq_getElem e2⟩
   have HV:Hid (cur[k*3]?=some v0∧cur[k*3+1]?=some v1∧cur[k*3+2]?=some v2):=⟨hv0,hv1,hv2⟩
   have HSZ:Hid (cur.size=n*3):=hsz
   have HCUR:Hid (wr.heap[w.heap.size]?=some (.cells cur 34 (0,0))):=hcur
   have hgs:w.heap.size<wr.heap.size:=(Array.getElem?_eq_some_iff.1 hcur).1
   clear hcells hv0 hv1 hv2 hcur hsz e0 e1 e2
   have i0:(0:Int)<=(k:Int):=by omega
   have i1:(k:Int)<(n:Int):=by omega
   have kc0:(wr.drew.cell? ⟨ba,oa+k*3,none⟩=some (.bool ag)∧wr.drew.cell? ⟨ba,oa+k*3+1,none⟩=some (.slice aao an aca)∧wr.drew.cell? ⟨ba,oa+k*3+2,none⟩=some (.int .i64 ae))∧wr.drew.cell? ⟨bb,ob+k*3,none⟩=some (.bool bg)∧wr.drew.cell? ⟨bb,ob+k*3+1,none⟩=some (.slice bao bn bca)∧wr.drew.cell? ⟨bb,ob+k*3+2,none⟩=some (.int .i64 be):=⟨⟨c0,c1,c2⟩,d0,d1,d2⟩
   have hb1:=aA wr
   go_wp2_with fail
   go_region_held3 (fun W=>(W.cell? ⟨ba,oa+k*3,none⟩=some (.bool ag)∧W.cell? ⟨ba,oa+k*3+1,none⟩=some (.slice aao an aca)∧W.cell? ⟨ba,oa+k*3+2,none⟩=some (.int .i64 ae))∧W.cell? ⟨bb,ob+k*3,none⟩=some (.bool bg)∧W.cell? ⟨bb,ob+k*3+1,none⟩=some (.slice bao bn bca)∧W.cell? ⟨bb,ob+k*3+2,none⟩=some (.int .i64 be))
    (first | assumption | exact ⟨EF kc1.1 (EI _ _ _ _ _ _ _ _) (by omega),EF kc1.2 (EI _ _ _ _ _ _ _ _) (by omega)⟩)
    ((go_at_call 61; refine (CP _ hb1.drew).mono ?_; rintro y w3 ⟨s,rfl,hA⟩; have hbv1:=hA.below; have kc1:=And.intro (EG kc0.1 hbv1) (EG kc0.2 hbv1); obtain ⟨so,sn,sc,rfl⟩:=hA.num.shape; have q0:=(hbv1.block w.heap.size hgs).trans HCUR.out; have x0:=ac q0 (k*3) HV.out.1; have x1:=ac q0 (k*3+1) HV.out.2.1; have x2:=ac q0 (k*3+2) HV.out.2.2; have z0:=aw q0 (k*3); have z1:=aw q0 (k*3+1); have z2:=aw q0 (k*3+2)))
   all_goals go_wp2
   all_goals
    go_roundw
    case rel=>
     obtain ⟨dd,hRd,hNd,hVd,hgd⟩:=hA.open
     have hgs2:∀ b' off,so=some ⟨b',off,none⟩->0<sn->w.heap.size<b':=fun b' off he _=>by
      have h9:=hgd b' off he
      have h8:w.heap.size<wr.drew.heap.size:=hgs
      omega
     refine ⟨k+1,o9 q k ⟨ag != bg,so,sn,sc,dd,ae+be⟩,by omega,by go_num,iX.step (x:=⟨ag != bg,so,sn,sc,dd,ae+be⟩) HQ.out (aa hb1.drew hbv1) hRd hlt HG.out hgs2,fun i hi=>?_,fun i b' off hi he hn'=>?_,bC (aa hbw (aa hb1.drew hbv1)) (Nat.le_refl _) _ _ _⟩
     ·by_cases e:i=k
      ·subst e
       rw [gC,HXA.out,HXB.out]
       exact ⟨hNd,rfl,hVd,rfl⟩
      ·rw [fq _ _ e]
       exact HF.out i (by omega)
     ·by_cases e:i=k
      ·subst e
       rw [gC] at he hn'
       exact hgs2 b' off he hn'
      ·rw [fq _ _ e] at he hn'
       exact HG.out i b' off (by omega) he hn'
    case measure=>simp [intOf]; omega
  ·obtain rfl:k=n:=by omega
   go_wp2
   go_ret
   exact ⟨_,q,rfl,Nat.le_refl _,HQ.out.nums hn,hbw,HF.out⟩
def kP (a b:Nat->aL):Nat->Int | 0=>0 | k+1=>kP a b k+oz (a k) (b k)
theorem yC {a b q:Nat->aL}:∀ n,(∀ i,i<n->(q i).ng=((a i).ng != (b i).ng)∧val (q i).d (q i).n=val (a i).d (a i).n*val (b i).d (b i).n∧(q i).e=(a i).e+(b i).e)->jE q n=kP a b n
 | 0,_=>rfl
 | k+1,h=>by
  obtain ⟨h1,h2,h3⟩:=h k (by omega)
  show jE q k+sg (q k).ng (val (q k).d (q k).n)*pw (q k).e=kP a b k+sg ((a k).ng != (b k).ng) (val (a k).d (a k).n*val (b k).d (b k).n)*pw ((a k).e+(b k).e)
  rw [yC k fun i hi=>h i (by omega),h1,h2,h3]
def fs (x:aL):Prop:=-500000<=x.e∧x.e<=500000
theorem EJ {x y q:aL} (ox:cB x=true) (oy:cB y=true) (hx:fs x) (hy:fs y) (h0:cT q.d q.n) (h2:val q.d q.n=val x.d x.n*val y.d y.n) (h3:q.e=x.e+y.e):fP q:=by
 refine ⟨h0,?_,?_,?_⟩
 ·have a:=(th ox).2.1
  have b:=(th oy).2.1
  have a0:=bc (cY ox).1.1
  have b0:=bc (cY oy).1.1
  by_cases hq:q.n<=5000
  ·exact hq
  ·exfalso
   have c:=jL h0.1 (by omega) h0.2
   have d:=lx (show 4000<=q.n-1 by omega)
   have e:val x.d x.n*val y.d y.n<P 2000*P 2000:=by
    by_cases hz:val x.d x.n=0
    ·rw [hz,Int.zero_mul]; exact Int.mul_pos (cw _) (cw _)
    ·exact Int.lt_of_lt_of_le (Int.mul_lt_mul_of_pos_left b (by omega)) (Int.mul_le_mul_of_nonneg_right (by omega) (Int.le_of_lt (cw _)))
   have f:P 2000*P 2000=P 4000:=by rw [eC 2000,eC 4000,<- Int.pow_add,show 30*2000+30*2000=30*4000 from rfl]
   rw [f] at e
   rw [h2] at c
   generalize P 4000=Y at *
   omega
 ·unfold fs at *; omega
 ·unfold fs at *; omega
theorem G9 (ao bo:Option Addr) (n ca cb:Nat) (a b:Nat->aL) (p p2:Addr) (w:World) (c:w.cell? p=some (.slice ao n ca)) (c2:w.cell? p2=some (.slice bo n cb)) (ha:cN w ao n ca a) (hb:cN w bo n cb b) (oa:∀ i,i<n->cB (a i)=true) (ob:∀ i,i<n->cB (b i)=true) (la:∀ i,i<n->fs (a i)) (lb:∀ i,i<n->fs (b i)) (hn:n<=100000) (hT:dV w) :
  Calls Tryz.prog 147 #[.pointer (some p),.pointer (some p2)] w (pW w (kP a b n)):=by
 have hbe:=ah w (.cells #[.bool false,.slice none 0 0,.int .i64 0] 34)
 have k0:=aT c hbe
 have k1:=aT c2 hbe
 have g0:=aB w (.cells #[.bool false,.slice none 0 0,.int .i64 0] 34)
 have CP:=yB ao bo n ca cb a b _ (ha.keeps hbe) (hb.keeps hbe) hn (fun i hi=>cY (oa i hi)) (fun i hi=>cY (ob i hi))
 have hTx:=hT.keeps hbe
 have HSUM:Hid (∀ W g q,cN W (some ⟨g,0,none⟩) n n q->(∀ i,i<n->cT (q i).d (q i).n∧(q i).ng=((a i).ng != (b i).ng)∧val (q i).d (q i).n=val (a i).d (a i).n*val (b i).d (b i).n∧(q i).e=(a i).e+(b i).e)->dV W->Calls Tryz.prog 64 #[.slice (some ⟨g,0,none⟩) n n] W (pW W (kP a b n))):=fun W g q hN hF hTW=>by
  have:=vv (some ⟨g,0,none⟩) n n q W hN (fun i hi=>EJ (oa i hi) (ob i hi) (la i hi) (lb i hi) (hF i hi).1 (hF i hi).2.2.1 (hF i hi).2.2.2) hn hTW
  rwa [yC n fun i hi=>(hF i hi).2] at this
 generalize kP a b n=V at HSUM ⊢
 clear oa ob la lb ha hb
 go_enter Tryz.func147,Tryz.ntmps147
 go_wp2_with fail
 generalize w.alloc (.cells #[.bool false,.slice none 0 0,.int .i64 0] 34)=wx at *
 refine CP.mono ?_
 rintro x w1 ⟨g,q,rfl,hg,hN,hb1,hF⟩
 have HF:Hid _:=hF
 clear hF
 go_wp2_with fail
 refine (HSUM.out _ _ _ hN HF.out (hTx.keeps hb1)).mono ?_
 rintro x w7 (⟨hok,v,rfl,hD⟩ | ⟨hno,rfl,hb7⟩)
 ·have hb7:=hD.below
  obtain ⟨ng',s',m',e',rfl,hyy,hA2⟩:=id hD
  obtain ⟨so',sn',sc',rfl⟩:=hA2.num.shape
  have hlt:=(Array.getElem?_eq_some_iff.1 g0).1
  have q0:=((aa hb1 hb7).block w.heap.size hlt).trans g0
  have x0:=ac q0 0 rfl
  have x1:=ac q0 1 rfl
  have x2:=ac q0 2 rfl
  have z0:=aw q0 0
  have z1:=aw q0 1
  have z2:=aw q0 2
  go_wp2
  refine bodyPost_ret (v:=.agg #[.bool ng',.slice so' sn' sc',.int .i64 e']) (by simp [results,Tryz.results147,go_sem,x0,x1,x2]) rfl ?_
  exact .inl ⟨hok,_,rfl,dY (g:=w.heap.size) hD (aa hbe hb1) (Nat.le_refl _) (Nat.lt_of_lt_of_le hlt hb1.size) _ _ _⟩
 ·exact ⟨rfl,.inr ⟨hno,rfl,aa (aa hbe hb1) hb7⟩⟩
theorem JX (ao bo:Option Addr) (n ca cb:Nat) (a b:Nat->aL) (w:World) (ha:cN w ao n ca a) (hb:cN w bo n cb b) (oa:qI a n=true) (ob:qI b n=true) (la:∀ i,i<n->fs (a i)) (lb:∀ i,i<n->fs (b i)) (hn:n<=100000) (hT:dV w) :
  Calls Tryz.prog 125 #[.slice ao n ca,.slice bo n cb] w fun x w'=>∃ v er,x=.returned (.tuple #[v,.int .i64 er])∧iN w w' (kP a b n) v er:=by
 have hmf:∀ (fn:Fn) (first cap:Array Value) (w:World),(Instr.makeFunc fn first cap).run Tryz.prog w=.ok (.func fn first cap) w:=fun _ _ _ _=>rfl
 have hE:∀ (cap:Array Value) (w:World),(callFunc 147 cap).run Tryz.prog w=.ok (.enter 147 cap) w:=by
  intro cap w
  simp [go_sem]
 have hla:=ha.le
 have hma:=ha.max
 have hlb:=hb.le
 have hmb:=hb.max
 have CA:=fun W (h:Below w.heap.size w W)=>kW ao n ca a W (ha.keeps h)
 have CB:=fun W (h:Below w.heap.size w W)=>kW bo n cb b W (hb.keeps h)
 have CD:Hid (∀ W p p2,Below w.heap.size w W->W.cell? p=some (.slice ao n ca)->W.cell? p2=some (.slice bo n cb)->Calls Tryz.prog 147 #[.pointer (some p),.pointer (some p2)] W (pW W (kP a b n))):=fun W p p2 h c1 c2=>G9 ao bo n ca cb a b p p2 W c1 c2 (ha.keeps h) (hb.keeps h) (vB oa) (vB ob) la lb hn (hT.keeps h)
 generalize kP a b n=V at CD ⊢
 rw [oa] at CA
 rw [ob] at CB
 clear ha hb oa ob la lb hT
 have hb3:=nI w (.cells #[.slice ao n ca] 120) (.cells #[.slice bo n cb] 120) (.cells #[.bool false,.slice none 0 0,.int .i64 0] 34)
 have g0:=xk w (.cells #[.slice ao n ca] 120) (.cells #[.slice bo n cb] 120) (.cells #[.bool false,.slice none 0 0,.int .i64 0] 34)
 have g1:=xl w (.cells #[.slice ao n ca] 120) (.cells #[.slice bo n cb] 120) (.cells #[.bool false,.slice none 0 0,.int .i64 0] 34)
 have g2:=xm w (.cells #[.slice ao n ca] 120) (.cells #[.slice bo n cb] 120) (.cells #[.bool false,.slice none 0 0,.int .i64 0] 34)
 go_enter Tryz.func125,Tryz.ntmps125
 go_wp2_with fail
 generalize ((w.alloc (.cells #[.slice ao n ca] 120)).alloc (.cells #[.slice bo n cb] 120)).alloc (.cells #[.bool false,.slice none 0 0,.int .i64 0] 34)=wx at hb3 g0 g1 g2 ⊢
 refine (CA _ hb3).mono ?_
 rintro x w1 ⟨rfl,hb1⟩
 have hbw:=aa hb3 hb1
 replace g0:=(hb1.block _ (Array.getElem?_eq_some_iff.1 g0).1).trans g0
 replace g1:=(hb1.block _ (Array.getElem?_eq_some_iff.1 g1).1).trans g1
 replace g2:=(hb1.block _ (Array.getElem?_eq_some_iff.1 g2).1).trans g2
 have k1:=ac g1 0 rfl
 go_wp2_with fail
 clear k1
 refine (CB _ hbw).mono ?_
 rintro x w2 ⟨rfl,hb2⟩
 have hbw2:=aa hbw hb2
 replace g0:=(hb2.block _ (Array.getElem?_eq_some_iff.1 g0).1).trans g0
 replace g1:=(hb2.block _ (Array.getElem?_eq_some_iff.1 g1).1).trans g1
 replace g2:=(hb2.block _ (Array.getElem?_eq_some_iff.1 g2).1).trans g2
 have hs3:=(Array.getElem?_eq_some_iff.1 g2).1
 go_wp2_with fail
 refine (sm (V:=V) (hE _) (fun W hW=>CD.out W _ _ (aa hbw2 hW) (ac ((hW.block _ (by omega)).trans g0) 0 rfl) (ac ((hW.block _ (by omega)).trans g1) 0 rfl))).mono ?_
 rintro x w3 ⟨v,er,rfl,hF⟩
 obtain ⟨ng',so,sn,sc,e',rfl⟩:=hF.shape
 have q0:=(hF.1.block (w.heap.size+2) hs3).trans g2
 have x0:=ac q0 0 rfl
 have x1:=ac q0 1 rfl
 have x2:=ac q0 2 rfl
 have z0:=aw q0 0
 have z1:=aw q0 1
 have z2:=aw q0 2
 go_wp2
 refine bodyPost_ret (v:=.tuple #[.agg #[.bool ng',.slice so sn sc,.int .i64 e'],.int .i64 er]) (by simp [results,Tryz.results125,go_sem,x0,x1,x2]) rfl ⟨_,_,rfl,?_⟩
 exact sj (g:=w.heap.size+2) hF hbw2 (by omega) (by omega) _ _ _
theorem EK (F G:Nat) (oo:Option Addr) (n cap:Nat) (d V:Nat->Int) (w:World) (hR:aQ w oo n cap d) (hn:n<=100000)
  (hEF:∀ (cap:Array Value) (w:World),(callFunc F cap).run Tryz.prog w=.ok (.enter F cap) w)
  (C:∀ i,i<n->∀ W,Below w.heap.size w W->Calls Tryz.prog F #[.int .i64 (d i)] W fun r w'=>∃ v,r=.returned (.tuple #[v,.int .i64 0])∧bG W w' (V i) v) :
  Calls Tryz.prog 170 #[.agg #[.func (.func F) #[] #[],.func (.func G) #[] #[]],.slice oo n cap] w fun x w'=>∃ g q,x=.returned (.tuple #[.slice (some ⟨g,0,none⟩) n n,.bool true])∧w.heap.size<=g∧cN w' (some ⟨g,0,none⟩) n n q∧Below w.heap.size w w'∧∀ i,i<n->cT (q i).d (q i).n∧Dy (V i) (q i).ng (val (q i).d (q i).n) (q i).e:=by
 have hle:=hR.le
 have hma:=hR.max
 have hmake:=mS n hn
 have hst:∀ (p:Addr) (F:Nat) (m:Mode) (w:World),(store p (.func (.func F) #[] #[]) m).run Tryz.prog w=stored Tryz.prog w p (.func (.func F) #[] #[]) m:=fun p F m w=>run_store _ w p _ m rfl
 have ha1:=ah w (.cells #[.func (.func F) #[] #[],.func (.func G) #[] #[]] 178)
 have q1:=heap_alloc_new w (.cells #[.func (.func F) #[] #[],.func (.func G) #[] #[]] 178)
 have k0:=ac q1 0 rfl
 have k1:=ac q1 1 rfl
 go_enter Tryz.func170,Tryz.ntmps170
 go_wp2_with fail
 have hb0:=aP w (.cells #[.func (.func F) #[] #[],.func (.func G) #[] #[]] 178) (.cells (madeCells #[.bool false,.slice none 0 0,.int .i64 0] (n*3)) 34)
 have g1:=cR w (.cells #[.func (.func F) #[] #[],.func (.func G) #[] #[]] 178) (.cells (madeCells #[.bool false,.slice none 0 0,.int .i64 0] (n*3)) 34)
 have g0:=dJ w (.cells #[.func (.func F) #[] #[],.func (.func G) #[] #[]] 178) (.cells (madeCells #[.bool false,.slice none 0 0,.int .i64 0] (n*3)) 34)
 have HB0:Hid (iX ((w.alloc (.cells #[.func (.func F) #[] #[],.func (.func G) #[] #[]] 178)).alloc (.cells (madeCells #[.bool false,.slice none 0 0,.int .i64 0] (n*3)) 34)) (w.heap.size+1) n 0 (fun _=>⟨false,none,0,0,fun _=>0,0⟩)):=⟨_,g1,by rw [size_madeCells],fun i hi=>by omega⟩
 clear g1 hmake q1 k0 k1 ha1
 generalize (w.alloc (.cells #[.func (.func F) #[] #[],.func (.func G) #[] #[]] 178)).alloc (.cells (madeCells #[.bool false,.slice none 0 0,.int .i64 0] (n*3)) 34)=wx at hb0 HB0 g0 ⊢
 go_loopw [16] (fun iv wr=>∃ (k:Nat) (q:Nat->aL),k<=n∧iv=.int .i64 k∧Hid (iX wr (w.heap.size+1) n k q)∧Hid (∀ i,i<k->cT (q i).d (q i).n∧Dy (V i) (q i).ng (val (q i).d (q i).n) (q i).e)∧Hid (∀ i b' off,i<k->(q i).ao=some ⟨b',off,none⟩->0<(q i).n->w.heap.size+1<b')∧Hid (wr.heap[w.heap.size]?=some (.cells #[.func (.func F) #[] #[],.func (.func G) #[] #[]] 178 (0,0)))∧Below w.heap.size w wr) (fun iv _=>n-(intOf iv).toNat)
 case atStart=>exact ⟨0,_,Nat.zero_le _,rfl,HB0,fun i hi=>by omega,fun i b' off hi=>by omega,g0,hb0⟩
 case round=>
  obtain ⟨k,q,hk,rfl,HQ,HF,HG,HK,hbw⟩:=hrel
  clear HB0 hb0 g0
  by_cases hlt:k<n
  ·obtain ⟨ba,oa,rfl,hba,hca⟩:=hR.spot (by omega)
   have c0:=(hbw.cell (p:=⟨ba,oa+k,none⟩) hba).trans (hca k hlt)
   have CF:=C k hlt
   have kf:=ac HK.out 0 rfl
   obtain ⟨cur,hcur,hsz,hcells⟩:=HQ.out
   have e0:k*3<cur.size:=by omega
   have e1:k*3+1<cur.size:=by omega
   have e2:k*3+2<cur.size:=by omega
   obtain ⟨v0,hv0⟩:∃ v,cur[k*3]?=some v:=⟨_,Array.getElem?_eq_getElem e0⟩
   obtain ⟨v1,hv1⟩:∃ v,cur[k*3+1]?=some v:=⟨_,Array.getElem?_eq_getElem e1⟩
   obtain ⟨v2,hv2⟩:∃ v,cur[k*3+2]?=some v:=⟨_,Array.getElem?_eq_getElem e2⟩
   have HV:Hid (cur[k*3]?=some v0∧cur[k*3+1]?=some v1∧cur[k*3+2]?=some v2):=⟨hv0,hv1,hv2⟩
   have HCUR:Hid (wr.heap[w.heap.size+1]?=some (.cells cur 34 (0,0))):=hcur
   have hgs:w.heap.size+1<wr.heap.size:=(Array.getElem?_eq_some_iff.1 hcur).1
   clear hcells hv0 hv1 hv2 hcur hsz e0 e1 e2 hca C
   have i0:(0:Int)<=(k:Int):=by omega
   have i1:(k:Int)<(n:Int):=by omega
   generalize d k=x at *
   go_wp2_with fail
   refine (CF _ hbw).mono ?_
   rintro _ w3 ⟨v,rfl,hD⟩
   have hb3:=hD.below
   have HD:Hid (bG wr w3 (V k) v):=hD
   obtain ⟨g,s0,m0,e,rfl,_,hA0⟩:=id hD
   obtain ⟨so,sn,sc,rfl⟩:=hA0.num.shape
   clear hD CF hA0
   have hb4:=aa hb3 (ah w3 (.cells #[.bool g,.slice so sn sc,.int .i64 e] 34))
   have q0:=(hb4.block (w.heap.size+1) hgs).trans HCUR.out
   have HK4:Hid ((w3.alloc (.cells #[.bool g,.slice so sn sc,.int .i64 e] 34)).heap[w.heap.size]?=some (.cells #[.func (.func F) #[] #[],.func (.func G) #[] #[]] 178 (0,0))):=(hb4.block _ (Array.getElem?_eq_some_iff.1 HK.out).1).trans HK.out
   have qx:=aB w3 (.cells #[.bool g,.slice so sn sc,.int .i64 e] 34)
   have t0:=ac qx 0 rfl
   have t1:=ac qx 1 rfl
   have t2:=ac qx 2 rfl
   have x0:=ac q0 (k*3) HV.out.1
   have x1:=ac q0 (k*3+1) HV.out.2.1
   have x2:=ac q0 (k*3+2) HV.out.2.2
   have f0:=aw q0 (k*3)
   have f1:=aw q0 (k*3+1)
   have f2:=aw q0 (k*3+2)
   have hn1:w.heap.size+1≠w.heap.size:=by omega
   clear q0 qx kf
   go_wp2
   all_goals
    go_roundw
    case rel=>
     obtain ⟨ng,s,m,e',h1,hyy,hA⟩:=HD.out
     simp only [Value.agg.injEq,Array.mk.injEq,List.cons.injEq,Value.bool.injEq,Value.int.injEq,true_and,and_true] at h1
     obtain ⟨rfl,rfl,rfl⟩:=h1
     obtain ⟨dd,hRd,hNd,hVd,hgd⟩:=hA.open
     have hgs2:∀ b' off,so=some ⟨b',off,none⟩->0<sn->w.heap.size+1<b':=fun b' off he _=>by
      have h9:=hgd b' off he
      omega
     refine ⟨k+1,o9 q k ⟨g,so,sn,sc,dd,e⟩,by omega,by go_num,iX.step (x:=⟨g,so,sn,sc,dd,e⟩) HQ.out hb4 (hRd.keeps (ah _ _)) hlt HG.out hgs2,fun i hi=>?_,fun i b' off hi he hn'=>?_,?_,bC (aa hbw hb4) (by omega) _ _ _⟩
     ·by_cases ei:i=k
      ·subst ei
       rw [gC]
       exact ⟨hNd,by rw [hVd]; exact hyy⟩
      ·rw [fq _ _ ei]
       exact HF.out i (by omega)
     ·by_cases ei:i=k
      ·subst ei
       rw [gC] at he hn'
       exact hgs2 b' off he hn'
      ·rw [fq _ _ ei] at he hn'
       exact HG.out i b' off (by omega) he hn'
     ·show _=_
      rw [heap_setCell_other _ ⟨w.heap.size+1,_,none⟩ w.heap.size _ (Ne.symm hn1),heap_setCell_other _ ⟨w.heap.size+1,_,none⟩ w.heap.size _ (Ne.symm hn1),heap_setCell_other _ ⟨w.heap.size+1,_,none⟩ w.heap.size _ (Ne.symm hn1)]
      exact HK4.out
    case measure=>simp [intOf]; omega
  ·obtain rfl:k=n:=by omega
   go_wp2
   all_goals refine bodyPost_ret (v:=.tuple #[.slice (some ⟨w.heap.size+1,0,none⟩) k k,.bool true]) (by simp [results,Tryz.results170,go_sem]) rfl ⟨_,q,rfl,by omega,HQ.out.nums hn,hbw,HF.out⟩
theorem EM (F G:Nat) (oo:Option Addr) (n cap:Nat) (d V:Nat->Int) (w:World) (hR:aQ w oo n cap d) (hn:n<=100000) (K:Nat) (hK:K<n)
  (hEF:∀ (cap:Array Value) (w:World),(callFunc F cap).run Tryz.prog w=.ok (.enter F cap) w)
  (C:∀ i,i<K->∀ W,Below w.heap.size w W->Calls Tryz.prog F #[.int .i64 (d i)] W fun r w'=>∃ v,r=.returned (.tuple #[v,.int .i64 0])∧bG W w' (V i) v)
  (CN:∀ W,Below w.heap.size w W->Calls Tryz.prog F #[.int .i64 (d K)] W fun r w'=>r=.returned (.tuple #[.agg #[.bool false,.slice none 0 0,.int .i64 0],.int .i64 10])∧Below W.heap.size W w') :
  Calls Tryz.prog 170 #[.agg #[.func (.func F) #[] #[],.func (.func G) #[] #[]],.slice oo n cap] w fun x w'=>x=.returned (.tuple #[.slice none 0 0,.bool false])∧Below w.heap.size w w':=by
 have hle:=hR.le
 have hma:=hR.max
 have hmake:=mS n hn
 have hst:∀ (p:Addr) (F:Nat) (m:Mode) (w:World),(store p (.func (.func F) #[] #[]) m).run Tryz.prog w=stored Tryz.prog w p (.func (.func F) #[] #[]) m:=fun p F m w=>run_store _ w p _ m rfl
 have ha1:=ah w (.cells #[.func (.func F) #[] #[],.func (.func G) #[] #[]] 178)
 have q1:=heap_alloc_new w (.cells #[.func (.func F) #[] #[],.func (.func G) #[] #[]] 178)
 have k0:=ac q1 0 rfl
 have k1:=ac q1 1 rfl
 go_enter Tryz.func170,Tryz.ntmps170
 go_wp2_with fail
 have hb0:=aP w (.cells #[.func (.func F) #[] #[],.func (.func G) #[] #[]] 178) (.cells (madeCells #[.bool false,.slice none 0 0,.int .i64 0] (n*3)) 34)
 have g1:=cR w (.cells #[.func (.func F) #[] #[],.func (.func G) #[] #[]] 178) (.cells (madeCells #[.bool false,.slice none 0 0,.int .i64 0] (n*3)) 34)
 have g0:=dJ w (.cells #[.func (.func F) #[] #[],.func (.func G) #[] #[]] 178) (.cells (madeCells #[.bool false,.slice none 0 0,.int .i64 0] (n*3)) 34)
 have HB0:Hid (iX ((w.alloc (.cells #[.func (.func F) #[] #[],.func (.func G) #[] #[]] 178)).alloc (.cells (madeCells #[.bool false,.slice none 0 0,.int .i64 0] (n*3)) 34)) (w.heap.size+1) n 0 (fun _=>⟨false,none,0,0,fun _=>0,0⟩)):=⟨_,g1,by rw [size_madeCells],fun i hi=>by omega⟩
 clear g1 hmake q1 k0 k1 ha1
 generalize (w.alloc (.cells #[.func (.func F) #[] #[],.func (.func G) #[] #[]] 178)).alloc (.cells (madeCells #[.bool false,.slice none 0 0,.int .i64 0] (n*3)) 34)=wx at hb0 HB0 g0 ⊢
 go_loopw [16] (fun iv wr=>∃ (k:Nat) (q:Nat->aL),k<=K∧iv=.int .i64 k∧Hid (iX wr (w.heap.size+1) n k q)∧Hid (∀ i,i<k->cT (q i).d (q i).n∧Dy (V i) (q i).ng (val (q i).d (q i).n) (q i).e)∧Hid (∀ i b' off,i<k->(q i).ao=some ⟨b',off,none⟩->0<(q i).n->w.heap.size+1<b')∧Hid (wr.heap[w.heap.size]?=some (.cells #[.func (.func F) #[] #[],.func (.func G) #[] #[]] 178 (0,0)))∧Below w.heap.size w wr) (fun iv _=>n-(intOf iv).toNat)
 case atStart=>exact ⟨0,_,Nat.zero_le _,rfl,HB0,fun i hi=>by omega,fun i b' off hi=>by omega,g0,hb0⟩
 case round=>
  obtain ⟨k,q,hk,rfl,HQ,HF,HG,HK,hbw⟩:=hrel
  clear HB0 hb0 g0
  have hlt:k<n:=by omega
  by_cases hltK:k<K
  ·obtain ⟨ba,oa,rfl,hba,hca⟩:=hR.spot (by omega)
   have c0:=(hbw.cell (p:=⟨ba,oa+k,none⟩) hba).trans (hca k hlt)
   have CF:=C k hltK
   have kf:=ac HK.out 0 rfl
   obtain ⟨cur,hcur,hsz,hcells⟩:=HQ.out
   have e0:k*3<cur.size:=by omega
   have e1:k*3+1<cur.size:=by omega
   have e2:k*3+2<cur.size:=by omega
   obtain ⟨v0,hv0⟩:∃ v,cur[k*3]?=some v:=⟨_,Array.getElem?_eq_getElem e0⟩
   obtain ⟨v1,hv1⟩:∃ v,cur[k*3+1]?=some v:=⟨_,Array.getElem?_eq_getElem e1⟩
   obtain ⟨v2,hv2⟩:∃ v,cur[k*3+2]?=some v:=⟨_,Array.getElem?_eq_getElem e2⟩
   have HV:Hid (cur[k*3]?=some v0∧cur[k*3+1]?=some v1∧cur[k*3+2]?=some v2):=⟨hv0,hv1,hv2⟩
   have HCUR:Hid (wr.heap[w.heap.size+1]?=some (.cells cur 34 (0,0))):=hcur
   have hgs:w.heap.size+1<wr.heap.size:=(Array.getElem?_eq_some_iff.1 hcur).1
   clear hcells hv0 hv1 hv2 hcur hsz e0 e1 e2 hca C
   have i0:(0:Int)<=(k:Int):=by omega
   have i1:(k:Int)<(n:Int):=by omega
   generalize d k=x at *
   go_wp2_with fail
   refine (CF _ hbw).mono ?_
   rintro _ w3 ⟨v,rfl,hD⟩
   have hb3:=hD.below
   have HD:Hid (bG wr w3 (V k) v):=hD
   obtain ⟨g,s0,m0,e,rfl,_,hA0⟩:=id hD
   obtain ⟨so,sn,sc,rfl⟩:=hA0.num.shape
   clear hD CF hA0
   have hb4:=aa hb3 (ah w3 (.cells #[.bool g,.slice so sn sc,.int .i64 e] 34))
   have q0:=(hb4.block (w.heap.size+1) hgs).trans HCUR.out
   have HK4:Hid ((w3.alloc (.cells #[.bool g,.slice so sn sc,.int .i64 e] 34)).heap[w.heap.size]?=some (.cells #[.func (.func F) #[] #[],.func (.func G) #[] #[]] 178 (0,0))):=(hb4.block _ (Array.getElem?_eq_some_iff.1 HK.out).1).trans HK.out
   have qx:=aB w3 (.cells #[.bool g,.slice so sn sc,.int .i64 e] 34)
   have t0:=ac qx 0 rfl
   have t1:=ac qx 1 rfl
   have t2:=ac qx 2 rfl
   have x0:=ac q0 (k*3) HV.out.1
   have x1:=ac q0 (k*3+1) HV.out.2.1
   have x2:=ac q0 (k*3+2) HV.out.2.2
   have f0:=aw q0 (k*3)
   have f1:=aw q0 (k*3+1)
   have f2:=aw q0 (k*3+2)
   have hn1:w.heap.size+1≠w.heap.size:=by omega
   clear q0 qx kf
   go_wp2
   all_goals
    go_roundw
    case rel=>
     obtain ⟨ng,s,m,e',h1,hyy,hA⟩:=HD.out
     simp only [Value.agg.injEq,Array.mk.injEq,List.cons.injEq,Value.bool.injEq,Value.int.injEq,true_and,and_true] at h1
     obtain ⟨rfl,rfl,rfl⟩:=h1
     obtain ⟨dd,hRd,hNd,hVd,hgd⟩:=hA.open
     have hgs2:∀ b' off,so=some ⟨b',off,none⟩->0<sn->w.heap.size+1<b':=fun b' off he _=>by
      have h9:=hgd b' off he
      omega
     refine ⟨k+1,o9 q k ⟨g,so,sn,sc,dd,e⟩,by omega,by go_num,iX.step (x:=⟨g,so,sn,sc,dd,e⟩) HQ.out hb4 (hRd.keeps (ah _ _)) hlt HG.out hgs2,fun i hi=>?_,fun i b' off hi he hn'=>?_,?_,bC (aa hbw hb4) (by omega) _ _ _⟩
     ·by_cases ei:i=k
      ·subst ei
       rw [gC]
       exact ⟨hNd,by rw [hVd]; exact hyy⟩
      ·rw [fq _ _ ei]
       exact HF.out i (by omega)
     ·by_cases ei:i=k
      ·subst ei
       rw [gC] at he hn'
       exact hgs2 b' off he hn'
      ·rw [fq _ _ ei] at he hn'
       exact HG.out i b' off (by omega) he hn'
     ·show _=_
      rw [heap_setCell_other _ ⟨w.heap.size+1,_,none⟩ w.heap.size _ (Ne.symm hn1),heap_setCell_other _ ⟨w.heap.size+1,_,none⟩ w.heap.size _ (Ne.symm hn1),heap_setCell_other _ ⟨w.heap.size+1,_,none⟩ w.heap.size _ (Ne.symm hn1)]
      exact HK4.out
    case measure=>simp [intOf]; omega
  ·obtain rfl:k=K:=by omega
   obtain ⟨ba,oa,rfl,hba,hca⟩:=hR.spot (by omega)
   have c0:=(hbw.cell (p:=⟨ba,oa+k,none⟩) hba).trans (hca k hlt)
   have kf:=ac HK.out 0 rfl
   clear hca C
   have i0:(0:Int)<=(k:Int):=by omega
   have i1:(k:Int)<(n:Int):=by omega
   generalize d k=x at *
   go_wp2_with fail
   refine (CN _ hbw).mono ?_
   rintro _ w3 ⟨rfl,hb3⟩
   go_wp2
   all_goals refine bodyPost_ret (v:=.tuple #[.slice none 0 0,.bool false]) (by simp [results,Tryz.results170,go_sem]) rfl ⟨rfl,aa hbw (aa hb3 (ah _ _))⟩
def IA (ng:Bool) (m e:Int) (sd:Bool):Value:=dK ng (m/2^vK m).toNat (e+vK m) (decide (m % 2^vK m≠0)) sd
theorem EN {w:World} {v:Value} {V:Int} {ng:Bool} {m e:Int} (hx:df w v V) (ok:fi V) (hy:Dy V ng m e) (hT:dV w) :
  Calls Tryz.prog 153 #[v] w fun r w'=>r=.returned (IA ng m e false)∧Below w.heap.size w w':=by
 obtain ⟨x,rfl,hR,hok,rfl⟩:=hx.open ok
 obtain ⟨na,hn,he0,he1⟩:=cY hok
 obtain ⟨rfl,rfl,rfl⟩:=(th hok).1.unique hy
 exact ro _ _ _ _ _ _ _ hR na hn ⟨he0,he1⟩ hT
def vZ (er:Int) (mag:Nat) (sd:Bool) (b near:Int):Int:=if er≠0∨(mag=0∧sd=false) then near else b
theorem BZ (way:Int) (hw:1<=way∧way<=3) (near:Int) (F G Rf:Nat) (rc:Array Value) (oo:Option Addr) (n cap:Nat) (w:World) (V:Nat->Int) (ng:Bool) (mag:Nat) (exp:Int) (cut sd:Bool) (er b:Int) (o:Bool)
  (hEG:∀ (cap:Array Value) (w:World),(callFunc G cap).run Tryz.prog w=.ok (.enter G cap) w)
  (hER:∀ (cap:Array Value) (w:World),(callFunc Rf cap).run Tryz.prog w=.ok (.enter Rf cap) w)
  (CV:∀ W,Below w.heap.size w W->Calls Tryz.prog 170 #[.agg #[.func (.func F) #[] #[],.func (.func G) #[] #[]],.slice oo n cap] W fun x w'=>∃ g q,x=.returned (.tuple #[.slice (some ⟨g,0,none⟩) n n,.bool true])∧W.heap.size<=g∧cN w' (some ⟨g,0,none⟩) n n q∧Below W.heap.size W w'∧∀ i,i<n->cT (q i).d (q i).n∧Dy (V i) (q i).ng (val (q i).d (q i).n) (q i).e)
  (CR:∀ W g q,Below w.heap.size w W->cN W (some ⟨g,0,none⟩) n n q->(∀ i,i<n->cT (q i).d (q i).n∧Dy (V i) (q i).ng (val (q i).d (q i).n) (q i).e)->Calls Tryz.prog Rf (#[.slice (some ⟨g,0,none⟩) n n] ++ rc) W fun e w'=>e=.returned (.tuple #[dK ng mag exp cut sd,.int .i64 er])∧Below W.heap.size W w')
  (CT:∀ W,Below w.heap.size w W->Calls Tryz.prog G #[dK ng mag exp cut true,jq way] W fun e w'=>e=.returned (.tuple #[.int .i64 b,.bool o])∧Below W.heap.size W w') :
  Calls Tryz.prog 157 #[.agg #[.func (.func F) #[] #[],.func (.func G) #[] #[]],.int .i64 near,.int .i64 way,.func (.func Rf) #[] rc,.slice oo n cap] w fun e w'=>e=.returned (.tuple #[.int .i64 (vZ er mag sd b near),.int .i64 0])∧Below w.heap.size w w':=by
 have hst:∀ (p:Addr) (F:Nat) (m:Mode) (w:World),(store p (.func (.func F) #[] #[]) m).run Tryz.prog w=stored Tryz.prog w p (.func (.func F) #[] #[]) m:=fun p F m w=>run_store _ w p _ m rfl
 have hw0:0<=way∧way<=3:=by omega
 have hne:way≠0:=by omega
 unfold dK jq at *
 have CW:=fun W=>mJ way W
 rw [if_pos hw0,decide_eq_true hw0] at CW
 unfold jq at CW
 generalize jn way=K at *
 have HV:Hid _:=CV
 have HR:Hid _:=CR
 have HT:Hid _:=CT
 clear CV CR CT
 have hb1:=ah w (.cells #[.func (.func F) #[] #[],.func (.func G) #[] #[]] 178)
 have q1:=heap_alloc_new w (.cells #[.func (.func F) #[] #[],.func (.func G) #[] #[]] 178)
 go_enter Tryz.func157,Tryz.ntmps157
 go_wp2_with fail
 generalize w.alloc (.cells #[.func (.func F) #[] #[],.func (.func G) #[] #[]] 178)=x0 at hb1 q1 ⊢
 refine (CW _).mono ?_
 rintro _ w2 ⟨rfl,hb2⟩
 have q2:=heap_alloc_new w2 (.cells #[.nilFunc] 166)
 have y0:=ac q2 0 rfl
 have y1:=aw q2 0
 have p1:=(hb2.block _ (Array.getElem?_eq_some_iff.1 q1).1).trans q1
 have hb3:=ah w2 (.cells #[.func (.func K) #[] #[]] 166)
 have p2:=(hb3.block _ (Array.getElem?_eq_some_iff.1 p1).1).trans p1
 have q3:=heap_alloc_new w2 (.cells #[.func (.func K) #[] #[]] 166)
 have c0:=ac p2 0 rfl
 have c1:=ac p2 1 rfl
 have hbx:=aa (aa hb1 hb2) hb3
 clear CW q1 p1
 go_wp2_with fail
 generalize w2.alloc (.cells #[.func (.func K) #[] #[]] 166)=x3 at hb3 p2 q3 c0 c1 hbx ⊢
 refine (HV.out _ hbx).mono ?_
 rintro _ w4 ⟨g,q,rfl,hg,hN,hb4,hf⟩
 have hb5:=aa hbx hb4
 have p2:=(hb4.block _ (Array.getElem?_eq_some_iff.1 p2).1).trans p2
 have q3:=(hb4.block _ (Array.getElem?_eq_some_iff.1 q3).1).trans q3
 clear c0 c1 y0 y1 q2
 go_wp2_with fail
 refine (HR.out _ g q hb5 hN hf).mono ?_
 rintro _ w6 ⟨rfl,hb6⟩
 have hb7:=aa hb5 hb6
 have p2:=(hb6.block _ (Array.getElem?_eq_some_iff.1 p2).1).trans p2
 have q3:=(hb6.block _ (Array.getElem?_eq_some_iff.1 q3).1).trans q3
 clear HV HR hN hf
 have hb8:=ah w6 (.cells #[.bool ng,.int .u64 mag,.int .i64 exp,.bool cut,.bool sd] 153)
 have q8:=heap_alloc_new w6 (.cells #[.bool ng,.int .u64 mag,.int .i64 exp,.bool cut,.bool sd] 153)
 have x1':=ac q8 1 rfl
 have x4':=ac q8 4 rfl
 have z4':=aw q8 4
 have hb9:=aa hb7 hb8
 have hbX:=ah w6 (.cells #[.bool ng,.int .u64 mag,.int .i64 exp,.bool cut,.bool true] 153)
 have qX:=heap_alloc_new w6 (.cells #[.bool ng,.int .u64 mag,.int .i64 exp,.bool cut,.bool true] 153)
 have pX:=(hbX.block _ (Array.getElem?_eq_some_iff.1 p2).1).trans p2
 have rX:=(hbX.block _ (Array.getElem?_eq_some_iff.1 q3).1).trans q3
 have u1:=ac pX 1 rfl
 have u2:=ac rX 0 rfl
 have v0:=ac qX 0 rfl
 have v1:=ac qX 1 rfl
 have v2:=ac qX 2 rfl
 have v3:=ac qX 3 rfl
 have v4:=ac qX 4 rfl
 have hbY:=aa hb7 hbX
 clear q8 qX pX rX p2 q3 hb8 hbX
 by_cases he:er=0
 ·subst he
  by_cases hm:mag=0
  ·subst hm
   cases sd
   ·go_wp2
    all_goals refine bodyPost_ret (v:=.tuple #[.int .i64 near,.int .i64 0]) (by simp [results,Tryz.results157,go_sem]) rfl ⟨by simp [vZ],hb9⟩
   ·have e0:((0:Nat):Int)=0:=rfl
    have HT:=HT.out
    simp only [e0] at HT hbY u1 u2 v0 v1 v2 v3 v4
    go_wp2_with fail
    refine (HT _ hbY).mono ?_
    rintro _ w10 ⟨rfl,hb10⟩
    go_wp2
    all_goals refine bodyPost_ret (v:=.tuple #[.int .i64 b,.int .i64 0]) (by simp [results,Tryz.results157,go_sem]) rfl ⟨by simp [vZ],aa hbY hb10⟩
  ·have hm':¬ ((mag:Int)=0):=by omega
   go_wp2_with fail
   refine (HT.out _ hbY).mono ?_
   rintro _ w10 ⟨rfl,hb10⟩
   go_wp2
   all_goals refine bodyPost_ret (v:=.tuple #[.int .i64 b,.int .i64 0]) (by simp [results,Tryz.results157,go_sem]) rfl ⟨by simp [vZ,hm],aa hbY hb10⟩
 ·go_wp2
  all_goals refine bodyPost_ret (v:=.tuple #[.int .i64 near,.int .i64 0]) (by simp [results,Tryz.results157,go_sem]) rfl ⟨by simp [vZ,he],hb9⟩
theorem zL (way:Int) (hw:1<=way∧way<=3) (near:Int) (F G Rf:Nat) (rc:Array Value) (oo:Option Addr) (n cap:Nat) (w:World)
  (CV:∀ W,Below w.heap.size w W->Calls Tryz.prog 170 #[.agg #[.func (.func F) #[] #[],.func (.func G) #[] #[]],.slice oo n cap] W fun x w'=>x=.returned (.tuple #[.slice none 0 0,.bool false])∧Below W.heap.size W w') :
  Calls Tryz.prog 157 #[.agg #[.func (.func F) #[] #[],.func (.func G) #[] #[]],.int .i64 near,.int .i64 way,.func (.func Rf) #[] rc,.slice oo n cap] w fun e w'=>e=.returned (.tuple #[.int .i64 near,.int .i64 0])∧Below w.heap.size w w':=by
 have hst:∀ (p:Addr) (F:Nat) (m:Mode) (w:World),(store p (.func (.func F) #[] #[]) m).run Tryz.prog w=stored Tryz.prog w p (.func (.func F) #[] #[]) m:=fun p F m w=>run_store _ w p _ m rfl
 have hw0:0<=way∧way<=3:=by omega
 have hne:way≠0:=by omega
 have CW:=fun W=>mJ way W
 rw [if_pos hw0,decide_eq_true hw0] at CW
 unfold jq at CW
 generalize jn way=K at *
 have HV:Hid _:=CV
 clear CV
 have hb1:=ah w (.cells #[.func (.func F) #[] #[],.func (.func G) #[] #[]] 178)
 have q1:=heap_alloc_new w (.cells #[.func (.func F) #[] #[],.func (.func G) #[] #[]] 178)
 go_enter Tryz.func157,Tryz.ntmps157
 go_wp2_with fail
 generalize w.alloc (.cells #[.func (.func F) #[] #[],.func (.func G) #[] #[]] 178)=x0 at hb1 q1 ⊢
 refine (CW _).mono ?_
 rintro _ w2 ⟨rfl,hb2⟩
 have q2:=heap_alloc_new w2 (.cells #[.nilFunc] 166)
 have y0:=ac q2 0 rfl
 have y1:=aw q2 0
 have p1:=(hb2.block _ (Array.getElem?_eq_some_iff.1 q1).1).trans q1
 have hb3:=ah w2 (.cells #[.func (.func K) #[] #[]] 166)
 have p2:=(hb3.block _ (Array.getElem?_eq_some_iff.1 p1).1).trans p1
 have c0:=ac p2 0 rfl
 have c1:=ac p2 1 rfl
 have hbx:=aa (aa hb1 hb2) hb3
 clear CW q1 p1
 go_wp2_with fail
 refine (HV.out _ hbx).mono ?_
 rintro _ w4 ⟨rfl,hb4⟩
 go_wp2
 all_goals refine bodyPost_ret (v:=.tuple #[.int .i64 near,.int .i64 0]) (by simp [results,Tryz.results157,go_sem]) rfl ⟨rfl,aa hbx hb4⟩
theorem cN.at {w:World} {g n:Nat} {q:Nat->aL} (h:cN w (some ⟨g,0,none⟩) n n q) (i:Nat) (hi:i<n):Dc w g (i*3) (q i):=by
 obtain ⟨b,off,he,hlt,hc⟩:=h.spot (by omega)
 cases he
 have:=hc i hi
 rwa [Nat.zero_add] at this
theorem EO {w:World} {g n:Nat} {q:Nat->aL} {V:Nat->Int} (h:cN w (some ⟨g,0,none⟩) n n q) (hf:∀ i,i<n->cT (q i).d (q i).n∧Dy (V i) (q i).ng (val (q i).d (q i).n) (q i).e) (i:Nat) (hi:i<n):df w (q i).v (V i) :=
 ⟨_,_,_,_,rfl,(hf i hi).2,_,_,_,_,rfl,(h.at i hi).row,(hf i hi).1,rfl⟩
theorem B5 {C D A B:Int} (h:C*2^4194304=A*B) (k:D*2^4194304=A*B):C=D:=Int.eq_of_mul_eq_mul_right (Int.ne_of_gt (aO 4194304)) (h.trans k.symm)
theorem Lr {W w':World} {g:Nat} {a b c d e f:Value} (h:W.cell? ⟨g,0,none⟩=some a∧W.cell? ⟨g,1,none⟩=some b∧W.cell? ⟨g,2,none⟩=some c∧W.cell? ⟨g,3,none⟩=some d∧W.cell? ⟨g,4,none⟩=some e∧W.cell? ⟨g,5,none⟩=some f) (hb:Below W.heap.size W w') :
  w'.cell? ⟨g,0,none⟩=some a∧w'.cell? ⟨g,1,none⟩=some b∧w'.cell? ⟨g,2,none⟩=some c∧w'.cell? ⟨g,3,none⟩=some d∧w'.cell? ⟨g,4,none⟩=some e∧w'.cell? ⟨g,5,none⟩=some f :=
 ⟨aT h.1 hb,aT h.2.1 hb,aT h.2.2.1 hb,aT h.2.2.2.1 hb,aT h.2.2.2.2.1 hb,aT h.2.2.2.2.2 hb⟩
theorem EP (g:Nat) (w:World) (q:Nat->aL) (A B C:Int) (ng:Bool) (m e:Int) (hN:cN w (some ⟨g,0,none⟩) 2 2 q) (h0:df w (q 0).v A) (h1:df w (q 1).v B) (oA:fi A) (oB:fi B) (hC:C*2^4194304=A*B) (oC:fi C) (hy:Dy C ng m e) (hT:dV w) :
  Calls Tryz.prog 158 #[.slice (some ⟨g,0,none⟩) 2 2] w fun r w'=>r=.returned (.tuple #[IA ng m e false,.int .i64 0])∧Below w.heap.size w w':=by
 have CM:Hid (∀ W,Below w.heap.size w W->Calls Tryz.prog 34 #[(q 0).v,(q 1).v] W fun r w'=>∃ v,r=.returned (.tuple #[v,.int .i64 0])∧bG W w' C v):=fun W hb=>by
  refine (Id (h0.keeps hb) (h1.keeps hb) oA oB (hT.keeps hb)).mono ?_
  rintro r w' ⟨v,er,C',rfl,hC',hF⟩
  obtain rfl:=B5 hC' hC
  obtain ⟨rfl,hA⟩:=hF.yes oC
  exact ⟨v,rfl,hA⟩
 have CV:Hid (∀ W v,Below w.heap.size w W->df W v C->Calls Tryz.prog 153 #[v] W fun r w'=>r=.returned (IA ng m e false)∧Below W.heap.size W w'):=fun W v hb hv=>EN hv oC hy (hT.keeps hb)
 obtain ⟨c0,c1,c2,_⟩:=hN.at 0 (by decide)
 obtain ⟨c3,c4,c5,_⟩:=hN.at 1 (by decide)
 unfold IA dK aL.v at *
 generalize (m/2^vK m).toNat=Q at CV ⊢
 generalize e+vK m=E at CV ⊢
 generalize decide (m % 2^vK m≠0)=R at CV ⊢
 clear h0 h1 hN oA oB hC oC hy hT
 generalize q 0=x at *
 generalize q 1=y at *
 obtain ⟨x_g,x_o,x_n,x_c,x_d,x_e⟩:=x
 obtain ⟨y_g,y_o,y_n,y_c,y_d,y_e⟩:=y
 simp only [Nat.zero_mul,Nat.zero_add,Nat.one_mul] at c0 c1 c2 c3 c4 c5 CM
 have q0:=heap_alloc_new w (.cells #[.bool false,.int .u64 0,.int .i64 0,.bool false,.bool false] 153)
 have hb1:=ah w (.cells #[.bool false,.int .u64 0,.int .i64 0,.bool false,.bool false] 153)
 have d0:=aT c0 hb1
 have d1:=aT c1 hb1
 have d2:=aT c2 hb1
 have d3:=aT c3 hb1
 have d4:=aT c4 hb1
 have d5:=aT c5 hb1
 clear c0 c1 c2 c3 c4 c5
 go_enter Tryz.func158,Tryz.ntmps158
 go_wp2_with fail
 generalize w.alloc (.cells #[.bool false,.int .u64 0,.int .i64 0,.bool false,.bool false] 153)=x1 at q0 hb1 d0 d1 d2 d3 d4 d5 ⊢
 have KK:∀ W,Below x1.heap.size x1 W->W.cell? ⟨g,0,none⟩=some (.bool x_g)∧W.cell? ⟨g,1,none⟩=some (.slice x_o x_n x_c)∧W.cell? ⟨g,2,none⟩=some (.int .i64 x_e)∧W.cell? ⟨g,3,none⟩=some (.bool y_g)∧W.cell? ⟨g,4,none⟩=some (.slice y_o y_n y_c)∧W.cell? ⟨g,5,none⟩=some (.int .i64 y_e):=fun W hb=>Lr (W:=x1) ⟨d0,d1,d2,d3,d4,d5⟩ hb
 clear d0 d1 d2 d3 d4 d5
 have i0:(0:Int)<2:=by decide
 have i1:(1:Int)<2:=by decide
 have hx0:=(aA x1).drew
 have hx1:=(ah x1 (.cells #[.bool false,.slice none 0 0,.int .i64 0] 34)).drew
 go_region_held3 (fun W=>W.cell? ⟨g,0,none⟩=some (.bool x_g)∧W.cell? ⟨g,1,none⟩=some (.slice x_o x_n x_c)∧W.cell? ⟨g,2,none⟩=some (.int .i64 x_e)∧W.cell? ⟨g,3,none⟩=some (.bool y_g)∧W.cell? ⟨g,4,none⟩=some (.slice y_o y_n y_c)∧W.cell? ⟨g,5,none⟩=some (.int .i64 y_e))
  (first | assumption | exact KK _ hx0 | exact KK _ hx1 | exact KK _ hw3 | exact KK _ (aa hw3 (ah _ _)) | exact KK _ (bC hw3 (Nat.le_refl _) _ _ _) | fail)
  ((go_at_call 34; refine (CM.out _ (by first | exact hb1.drew | exact aa hb1 hx1)).mono ?_; rintro _ w3 ⟨v,rfl,hD⟩; obtain ⟨n_g,n_o,n_n,n_c,n_e,rfl⟩:=bW hD; have hw3:Below x1.heap.size x1 w3:=(by first | exact aa hx0 hD.below | exact aa hx1 hD.below); first | (have qz:w3.heap[x1.heap.size]?=some (.cells #[.bool false,.slice none 0 0,.int .i64 0] 34 (0,0)):=(hD.below.block _ (by first | exact (Array.getElem?_eq_some_iff.1 (aB x1 (.cells #[.bool false,.slice none 0 0,.int .i64 0] 34))).1)).trans (aB x1 (.cells #[.bool false,.slice none 0 0,.int .i64 0] 34)); have cz0:=ac qz 0 rfl; have cz1:=ac qz 1 rfl; have cz2:=ac qz 2 rfl; have zz0:=aw qz 0; have zz1:=aw qz 1; have zz2:=aw qz 2) | skip))
 ·have hb4:=ah w3 (.cells #[.bool n_g,.slice n_o n_n n_c,.int .i64 n_e] 34)
  have qn:=aB w3 (.cells #[.bool n_g,.slice n_o n_n n_c,.int .i64 n_e] 34)
  have hw4:=aa hw3 hb4
  have q4:=(hw4.block _ (Array.getElem?_eq_some_iff.1 q0).1).trans q0
  have hD4:=hD.num.keeps hb4
  have hb5:=aa hb1 hw4
  have c0:=ac qn 0 rfl
  have c1:=ac qn 1 rfl
  have c2:=ac qn 2 rfl
  go_wp2_with fail
  refine (CV.out _ _ hb5 hD4).mono ?_
  rintro _ w6 ⟨rfl,hb6⟩
  have p1:=(hb6.block _ (Array.getElem?_eq_some_iff.1 q4).1).trans q4
  have hbw:=aa hb5 hb6
  have x0:=ac p1 0 rfl
  have x1':=ac p1 1 rfl
  have x2:=ac p1 2 rfl
  have x3:=ac p1 3 rfl
  have x4:=ac p1 4 rfl
  have z0:=aw p1 0
  have z1:=aw p1 1
  have z2:=aw p1 2
  have z3:=aw p1 3
  have z4:=aw p1 4
  go_wp2
  all_goals refine bodyPost_ret (v:=.tuple #[.agg #[.bool ng,.int .u64 Q,.int .i64 E,.bool R,.bool false],.int .i64 0]) (by simp [results,Tryz.results158,go_sem,x0,x1',x2,x3,x4]) rfl ⟨rfl,?_⟩
  all_goals exact (Ib w6 w.heap.size _ _ _ _ _).below hbw hbw.size (Nat.le_refl _)
 ·have hw4:=bC (o0:=0) (o1:=1) (o2:=2) hw3 (Nat.le_refl _) (.bool n_g) (.slice n_o n_n n_c) (.int .i64 n_e)
  have qn:=aE (aE (aE qz 0 (.bool n_g)) 1 (.slice n_o n_n n_c)) 2 (.int .i64 n_e)
  have q4:=(hw4.block _ (Array.getElem?_eq_some_iff.1 q0).1).trans q0
  have hD4:=(dY hD hx1 (Nat.le_refl _) (Array.getElem?_eq_some_iff.1 (aB x1 (.cells #[.bool false,.slice none 0 0,.int .i64 0] 34))).1 (.bool n_g) (.slice n_o n_n n_c) (.int .i64 n_e)).num
  have hb5:=aa hb1 hw4
  clear cz0 cz1 cz2 zz0 zz1 zz2 qz
  have c0:=ac qn 0 rfl
  have c1:=ac qn 1 rfl
  have c2:=ac qn 2 rfl
  go_wp2_with fail
  refine (CV.out _ _ hb5 hD4).mono ?_
  rintro _ w6 ⟨rfl,hb6⟩
  have p1:=(hb6.block _ (Array.getElem?_eq_some_iff.1 q4).1).trans q4
  have hbw:=aa hb5 hb6
  have x0:=ac p1 0 rfl
  have x1':=ac p1 1 rfl
  have x2:=ac p1 2 rfl
  have x3:=ac p1 3 rfl
  have x4:=ac p1 4 rfl
  have z0:=aw p1 0
  have z1:=aw p1 1
  have z2:=aw p1 2
  have z3:=aw p1 3
  have z4:=aw p1 4
  go_wp2
  all_goals refine bodyPost_ret (v:=.tuple #[.agg #[.bool ng,.int .u64 Q,.int .i64 E,.bool R,.bool false],.int .i64 0]) (by simp [results,Tryz.results158,go_sem,x0,x1',x2,x3,x4]) rfl ⟨rfl,?_⟩
  all_goals exact (Ib w6 w.heap.size _ _ _ _ _).below hbw hbw.size (Nat.le_refl _)
theorem zM (way:Int) (hw:1<=way∧way<=3) (near:Int) (Rf:Nat) (rc:Array Value) (g n:Nat) (hn:n<=100) (d:Nat->Int) (w:World) (hR:aQ w (some ⟨g,0,none⟩) n n d) (hp:∀ i,i<n->ak (d i)=true) (H:aD w) (ng:Bool) (mag:Nat) (exp:Int) (cut sd:Bool) (hm:mag<18446744073709551616) (he:-4500000<=exp∧exp<=4500000)
    (hER:∀ (cap:Array Value) (w:World),(callFunc Rf cap).run Tryz.prog w=.ok (.enter Rf cap) w)
    (CR:∀ W g q,Below w.heap.size w W->cN W (some ⟨g,0,none⟩) n n q->(∀ i,i<n->cT (q i).d (q i).n∧Dy (ar (d i)) (q i).ng (val (q i).d (q i).n) (q i).e)->Calls Tryz.prog Rf (#[.slice (some ⟨g,0,none⟩) n n] ++ rc) W fun e w'=>e=.returned (.tuple #[dK ng mag exp cut sd,.int .i64 0])∧Below W.heap.size W w') :
    Calls Tryz.prog 157 #[.agg #[.func (.func 62) #[] #[],.func (.func 127) #[] #[]],.int .i64 near,.int .i64 way,.func (.func Rf) #[] rc,.slice (some ⟨g,0,none⟩) n n] w fun e w'=>e=.returned (.tuple #[.int .i64 (vZ 0 mag sd (jO way ng true mag exp cut).1 near),.int .i64 0])∧Below w.heap.size w w':=by
  have hEF:∀ (cap:Array Value) (w:World),(callFunc 62 cap).run Tryz.prog w=.ok (.enter 62 cap) w:=by
    intro cap w
    simp [go_sem]
  have hEG:∀ (cap:Array Value) (w:World),(callFunc 127 cap).run Tryz.prog w=.ok (.enter 127 cap) w:=by
    intro cap w
    simp [go_sem]
  exact BZ way hw near _ _ Rf rc _ n n w (fun i=>ar (d i)) ng mag exp cut sd 0 _ _ hEG hER
    (fun W hb=>(EK _ _ _ n n d _ W (hR.keeps hb) (by omega) hEF (fun i hi W' hb'=>tn (hp i hi) ((H.keeps hb).keeps hb'))).mono fun r w' h=>by
      obtain ⟨g,q,e1,e2,e3,e4,e5⟩:=h
      exact ⟨g,q,e1,e2,e3,e4,e5⟩)
    CR (fun W hb=>pZ way (by omega) ng true mag exp cut W (H.keeps hb).env hm he)
theorem rG (way:Int) (hw:1<=way∧way<=3) (near:Int) (Rf:Nat) (rc:Array Value) (g n:Nat) (hn:n<=100) (d:Nat->Int) (w:World) (hR:aQ w (some ⟨g,0,none⟩) n n d) (K:Nat) (hK:K<n) (hp:∀ i,i<K->ak (d i)=true) (hq:ak (d K)=false) (H:aD w) :
  Calls Tryz.prog 157 #[.agg #[.func (.func 62) #[] #[],.func (.func 127) #[] #[]],.int .i64 near,.int .i64 way,.func (.func Rf) #[] rc,.slice (some ⟨g,0,none⟩) n n] w fun e w'=>e=.returned (.tuple #[.int .i64 near,.int .i64 0])∧Below w.heap.size w w':=by
 have hEF:∀ (cap:Array Value) (w:World),(callFunc 62 cap).run Tryz.prog w=.ok (.enter 62 cap) w:=by
  intro cap w
  simp [go_sem]
 exact zL way hw near _ _ Rf rc _ n n w (fun W hb=>EM _ _ _ n n d (fun i=>ar (d i)) W (hR.keeps hb) (by omega) K hK hEF (fun i hi W' hb'=>tn (hp i hi) ((H.keeps hb).keeps hb')) (fun W' hb'=>Ms hq ((H.keeps hb).keeps hb')))
theorem Ha {w:World} {g:Nat} {a b:Int} (h:w.heap[g]?=some (.cells #[.int .i64 a,.int .i64 b] 3 (0,0))):aQ w (some ⟨g,0,none⟩) 2 2 (fun i=>if i=0 then a else b) :=
  ⟨Nat.le_refl _,by decide,(fun h=>nomatch h),fun _=>⟨g,0,rfl,(Array.getElem?_eq_some_iff.1 h).1,fun i hi=>by
    match i,hi with
    | 0,_=>exact ac h 0 rfl
    | 1,_=>exact ac h 1 rfl⟩⟩
theorem JY {m:Int} (h:0<m):(m/2^vK m).toNat≠0:=by
 have hb:=iP h
 have hp:=aO (vK m)
 have h1:2^vK m<=m:=Int.le_trans (ga (by unfold vK; omega)) hb.2
 have h2:1<=m/2^vK m:=by rw [Int.le_ediv_iff_mul_le hp,Int.one_mul]; exact h1
 omega
theorem Lt {m:Int} (h:0<=m):(m/2^vK m).toNat<18446744073709551616:=by
 have:=mi h
 omega
theorem Lu {V:Int} {ng:Bool} {m e:Int} (hy:Dy V ng m e) (ok:fi V):-4500000<=e+vK m∧e+vK m<=4500000:=by
 obtain ⟨h1,h2,h3⟩:=hy.ok.1 ok
 have h4:bh m<=30*2000:=i9 (by rw [<- eC]; exact h1)
 unfold vK
 omega
theorem EQ (way:Int) (hw:1<=way∧way<=3) (near a b:Int) (Rf:Nat) (rc:Array Value) (hp:(ak a && ak b)=false) (w:World) (go:Nat) (ko:w.heap[go]?=some (.cells #[.int .i64 a,.int .i64 b] 3 (0,0))) (H:aD w) :
    Calls Tryz.prog 157 #[.agg #[.func (.func 62) #[] #[],.func (.func 127) #[] #[]],.int .i64 near,.int .i64 way,.func (.func Rf) #[] rc,.slice (some ⟨go,0,none⟩) 2 2] w fun e w'=>e=.returned (.tuple #[.int .i64 near,.int .i64 0])∧Below w.heap.size w w':=by
  cases h1:ak a
  · exact rG way hw near Rf rc go 2 (by decide) (fun i=>if i=0 then a else b) w (Ha ko) 0 (by decide) (fun i hi=>by omega) h1 H
  · rw [h1] at hp
    exact rG way hw near Rf rc go 2 (by decide) (fun i=>if i=0 then a else b) w (Ha ko) 1 (by decide) (fun i hi=>by
      obtain rfl:i=0:=by omega
      exact h1) hp H
theorem MP (way:Int) (hw:1<=way∧way<=3) (near a b:Int) (ra:aj a) (rb:aj b) (w:World) (go:Nat) (ko:w.heap[go]?=some (.cells #[.int .i64 a,.int .i64 b] 3 (0,0))) (H:aD w) :
  Calls Tryz.prog 157 #[.agg #[.func (.func 62) #[] #[],.func (.func 127) #[] #[]],.int .i64 near,.int .i64 way,.func (.func 158) #[] #[],.slice (some ⟨go,0,none⟩) 2 2] w fun e w'=>e=.returned (.tuple #[.int .i64 (if (ak a && ak b)=true∧ce a b≠0 then dW way (ce a b) else near),.int .i64 0])∧Below w.heap.size w w':=by
 have hER:∀ (cap:Array Value) (w:World),(callFunc 158 cap).run Tryz.prog w=.ok (.enter 158 cap) w:=by
  intro cap w
  simp [go_sem]
 cases hpp:(ak a && ak b)
 ·have n1:¬ (false=true∧ce a b≠0):=fun q=>by cases q.1
  rw [if_neg n1]
  exact EQ way hw near a b _ _ hpp w go ko H
 ·simp only [Bool.and_eq_true] at hpp
  obtain ⟨pa,pb⟩:=hpp
  obtain ⟨_,_,_,_,hC⟩:=mR ra rb pa pb
  have ok:fi (ce a b):=((dN pa).mul (dN pb) hC (by omega)).ok (by omega)
  obtain ⟨ng,m,e,hy,hm⟩:=id ok
  clear hm
  have hp:∀ i,i<2->ak (if i=0 then a else b)=true:=fun i hi=>by split <;> assumption
  have:=zM way hw near _ #[] go 2 (by decide) (fun i=>if i=0 then a else b) w (Ha ko) hp H ng _ _ _ false (Lt hy.nonneg) (Lu hy ok) hER (fun W g q hb hN hf=>EP g W q (ar a) (ar b) (ce a b) ng m e hN (EO hN hf 0 (by decide)) (EO hN hf 1 (by decide)) (xu pa) (xu pb) hC ok hy (H.keeps hb).tab)
  have hA:(if true=true∧ce a b≠0 then dW way (ce a b) else near)=vZ 0 (m/2^vK m).toNat false (jO way ng true (m/2^vK m).toNat (e+vK m) (decide (m % 2^vK m≠0))).1 near:=by
   unfold vZ
   by_cases h0:ce a b=0
   ·have hm0:=hy.eq_zero.1 h0
    have n1:¬ (true=true∧ce a b≠0):=fun q=>q.2 h0
    have n3:(0:Int)≠0∨((m/2^vK m).toNat=0∧false=false):=.inr ⟨by rw [hm0,Int.zero_ediv]; rfl,rfl⟩
    rw [if_neg n1,if_pos n3]
   ·have hm0:0<m:=by
     have:=hy.nonneg
     have:m≠0:=fun q=>h0 (hy.eq_zero.2 q)
     omega
    have n1:true=true∧ce a b≠0:=⟨rfl,h0⟩
    have n3:¬ ((0:Int)≠0∨((m/2^vK m).toNat=0∧false=false)):=fun q=>by
     rcases q with q | q
     ·exact q rfl
     ·exact JY hm0 q.1
    rw [if_pos n1,if_neg n3,Lk hy h0 (by have:=(hy.ok.1 ok).2.1; omega)]
  rw [hA]
  exact this
theorem IB {a b way:Int} {w:World} (ra:aj a) (rb:aj b) (hw:0<=way∧way<=3) (H:aD w) :
  Calls Tryz.prog 140 #[.int .i64 a,.int .i64 b,.int .i64 way] w fun e w'=>e=.returned (.tuple #[.int .i64 (gK way a b),.int .i64 0])∧Below w.heap.size w w':=by
 have CK:Hid (∀ W go,W.heap[go]?=some (.cells #[.int .i64 a,.int .i64 b] 3 (0,0))->aD W->Calls Tryz.prog 157 #[.agg #[.func (.func 62) #[] #[],.func (.func 127) #[] #[]],.int .i64 (aq (aR a) (aR b)),.int .i64 way,.func (.func 158) #[] #[],.slice (some ⟨go,0,none⟩) 2 2] W fun e w'=>e=.returned (.tuple #[.int .i64 (gK way a b),.int .i64 0])∧Below W.heap.size W w'):=fun W go ko H=>by
  by_cases h0:way=0
  ·have e:gK way a b=aq (aR a) (aR b):=by unfold gK; rw [if_pos (.inl h0)]
   rw [e,h0]
   exact xt _ _ ⟨_,rfl⟩ ⟨_,rfl⟩ _ _ _ _ _ W
  ·have e:gK way a b=if (ak a && ak b)=true∧ce a b≠0 then dW way (ce a b) else aq (aR a) (aR b):=by
    unfold gK
    cases hp:(ak a && ak b)
    ·have n1:way=0∨false=false:=.inr rfl
     have n2:¬ (false=true∧ce a b≠0):=fun q=>by cases q.1
     rw [if_pos n1,if_neg n2]
    ·have n1:¬ (way=0∨true=false):=fun q=>by rcases q with q | q; exact h0 q; cases q
     rw [if_neg n1]
     by_cases h:ce a b≠0
     ·have n2:true=true∧ce a b≠0:=⟨rfl,h⟩
      rw [if_pos h,if_pos n2]
     ·have n2:¬ (true=true∧ce a b≠0):=fun q=>h q.2
      rw [if_neg h,if_neg n2]
   rw [e]
   exact MP way (by omega) _ a b ra rb W go ko H
 generalize gK way a b=R at CK ⊢
 have hcv:=sG
 have hmf:∀ (fn:Fn) (first cap:Array Value) (w:World),(Instr.makeFunc fn first cap).run Tryz.prog w=.ok (.func fn first cap) w:=fun _ _ _ _=>rfl
 have CF:Hid (∀ W,Calls Tryz.prog 20 #[.int .i64 a] W fun e w'=>e=.returned (.float .f64 (wd a))∧w'=W):=fun W=>aW a W
 have CG:Hid (∀ W,Calls Tryz.prog 20 #[.int .i64 b] W fun e w'=>e=.returned (.float .f64 (wd b))∧w'=W):=fun W=>aW b W
 have RS:Hid (∀ W,_):=fun W=>fF (P:=Tryz.prog) 47 (jQ ra) (jQ rb) W
 go_enter Tryz.func140,Tryz.ntmps140
 go_wp2_with fail
 refine (Bw _).mono ?_
 rintro _ w1 ⟨rfl,hb1⟩
 obtain ⟨z,w2,hrun,hz,hw2⟩:=RS.out w1
 clear RS
 generalize wd a=x at *
 generalize wd b=y at *
 generalize aq (aR a) (aR b)=near at *
 go_wp2_with fail
 refine (CF.out _).mono ?_
 rintro _ _ ⟨rfl,rfl⟩
 go_wp2_with fail
 refine (CG.out _).mono ?_
 rintro _ _ ⟨rfl,rfl⟩
 go_wp2_with fail
 have hb2:Below w.heap.size w w2:=by rcases hw2 with rfl | rfl; exact hb1; exact hb1.drew
 refine (je hz _).mono ?_
 rintro _ _ ⟨rfl,rfl⟩
 have hb3:=aa hb2 (ah _ (.cells #[.int .i64 a,.int .i64 b] 3))
 go_wp2_with fail
 refine (CK.out _ _ (aB _ (.cells #[.int .i64 a,.int .i64 b] 3)) (H.keeps hb3)).mono ?_
 rintro _ w5 ⟨rfl,hb5⟩
 go_wp2
 all_goals refine bodyPost_ret (v:=.tuple #[.int .i64 R,.int .i64 0]) (by simp [results,Tryz.results140,go_sem]) rfl ⟨rfl,aa hb3 hb5⟩
theorem B6 {w w3:World} (h3:Below (w.alloc (.cells #[.float .f64 0,.float .f64 0] 87)).heap.size (w.alloc (.cells #[.float .f64 0,.float .f64 0] 87)) w3) (U V:Nat) :
  (store ⟨w.heap.size,0,none⟩ (.float .f64 U)).run Tryz.prog w3=.ok () (w3.setCell ⟨w.heap.size,0,none⟩ (.float .f64 U))∧(store ⟨w.heap.size,1,none⟩ (.float .f64 V)).run Tryz.prog (w3.setCell ⟨w.heap.size,0,none⟩ (.float .f64 U))=.ok () ((w3.setCell ⟨w.heap.size,0,none⟩ (.float .f64 U)).setCell ⟨w.heap.size,1,none⟩ (.float .f64 V))∧((w3.setCell ⟨w.heap.size,0,none⟩ (.float .f64 U)).setCell ⟨w.heap.size,1,none⟩ (.float .f64 V)).cell? ⟨w.heap.size,0,none⟩=some (.float .f64 U)∧((w3.setCell ⟨w.heap.size,0,none⟩ (.float .f64 U)).setCell ⟨w.heap.size,1,none⟩ (.float .f64 V)).cell? ⟨w.heap.size,1,none⟩=some (.float .f64 V)∧Below w.heap.size w ((w3.setCell ⟨w.heap.size,0,none⟩ (.float .f64 U)).setCell ⟨w.heap.size,1,none⟩ (.float .f64 V)):=by
 have hg:=rD w (.cells #[.float .f64 0,.float .f64 0] 87)
 have hba:=ah w (.cells #[.float .f64 0,.float .f64 0] 87)
 have d2:=(h3.block _ (Array.getElem?_eq_some_iff.1 hg).1).trans hg
 have d3:=aM d2 0 (.float .f64 U)
 have d4:=aM d3 1 (.float .f64 V)
 have f0:=ac d2 0 rfl
 have z0:=aw d2 0
 have f1:=ac d3 1 rfl
 have z1:=aw d3 1
 refine ⟨?_,?_,ac d4 0 rfl,ac d4 1 rfl,?_⟩
 ·rw [run_store _ _ _ _ _ rfl,f0]; simp only [z0]; rfl
 ·rw [run_store _ _ _ _ _ rfl,f1]; simp only [z1]; rfl
 ·exact ((aa hba h3).setCell (p:=⟨w.heap.size,0,none⟩) (Nat.le_refl _) _).setCell (p:=⟨w.heap.size,1,none⟩) (Nat.le_refl _) _
theorem yD {a b:Int} (ra:aj a) (rb:aj b) (w:World) (H:aD w) :
  Calls Tryz.prog 111 #[.int .i64 a,.int .i64 b] w fun e w'=>e=.returned (eJ (gK 1 a b) (gK 2 a b))∧Below w.heap.size w w':=by
 have C1:Hid (∀ W,aD W->Calls Tryz.prog 140 #[.int .i64 a,.int .i64 b,.int .i64 1] W fun e w'=>e=.returned (.tuple #[.int .i64 (gK 1 a b),.int .i64 0])∧Below W.heap.size W w'):=fun W h=>IB ra rb (by omega) h
 have C2:Hid (∀ W,aD W->Calls Tryz.prog 140 #[.int .i64 a,.int .i64 b,.int .i64 2] W fun e w'=>e=.returned (.tuple #[.int .i64 (gK 2 a b),.int .i64 0])∧Below W.heap.size W w'):=fun W h=>IB ra rb (by omega) h
 unfold eJ
 generalize gK 1 a b=l at *
 generalize gK 2 a b=h at *
 have hba:=ah w (.cells #[.float .f64 0,.float .f64 0] 87)
 go_enter Tryz.func111,Tryz.ntmps111
 go_wp2_with fail
 refine (C1.out _ (H.keeps hba)).mono ?_
 rintro _ w1 ⟨rfl,hb1⟩
 have hw1:=aa hba hb1
 go_wp2_with fail
 refine (C2.out _ (H.keeps hw1)).mono ?_
 rintro _ w2 ⟨rfl,hb2⟩
 have hb3:=aa hb1 hb2
 obtain ⟨s0,s1,e0,e1,hbe⟩:=B6 hb3 (wd l) (wd h)
 have CF:Hid (∀ W,Calls Tryz.prog 20 #[.int .i64 l] W fun e w'=>e=.returned (.float .f64 (wd l))∧w'=W):=fun W=>aW l W
 have CG:Hid (∀ W,Calls Tryz.prog 20 #[.int .i64 h] W fun e w'=>e=.returned (.float .f64 (wd h))∧w'=W):=fun W=>aW h W
 go_wp2_with fail
 refine (CF.out _).mono ?_
 rintro _ wz ⟨rfl,hwz⟩
 replace hwz:=hwz.symm
 subst hwz
 go_wp2_with fail
 refine (CG.out _).mono ?_
 rintro _ wz ⟨rfl,hwz⟩
 replace hwz:=hwz.symm
 subst hwz
 go_wp2
 refine bodyPost_ret (v:=.agg #[.float .f64 (wd l),.float .f64 (wd h)]) (by simp [results,Tryz.results111,go_sem,e0,e1]) rfl ⟨rfl,hbe⟩
theorem dD {P:Program} (t:TypeId) {p q:Int} {x y:Nat} (hx:FW p x) (hy:FW q y) (h:aG (aq p q)≠4) (w:World):(binOp .mul t (.float .f64 x) (.float .f64 y)).run P w=.ok (.float .f64 (wd (aq p q))) w:=by
 obtain ⟨z,w',hrun,hz⟩:=jd (P:=P) .mul (.inr (.inr (.inl rfl))) t x y w
 have hf:floatBits .mul .f64 x y=Ieee.double.mul x y:=rfl
 rw [hf] at hz
 rcases DI hx hy with ⟨z',e1,e2⟩ | ⟨_,e2⟩
 ·rcases hz with ⟨h1,h2⟩ | ⟨h1,_⟩
  ·rw [e1] at h1
   cases h1
   rw [hrun,h2,(e2.of h).2.1]
  ·rw [e1] at h1; cases h1
 ·exact absurd (by rw [e2]; decide) h
theorem mA {p:Int} (h:nn p) (h0:rg p≠0):FloatKind.f64.format.order (wd p) 0=some .lt∨FloatKind.f64.format.order (wd p) 0=some .gt:=by
 have n0:=jx.1
 have w0:wd 0=0:=by decide
 have k0:au 0=0:=by decide
 have hk:au p≠0:=by
  have:=kB h
  unfold au
  unfold rg at h0 this
  split at h0 <;> simp_all <;> omega
 rcases Int.lt_or_gt_of_ne hk with q | q
 ·left
  have:=fR h.1 n0.1 h.2 n0.2 (by rw [k0]; exact q)
  rwa [w0] at this
 ·right
  have:=fU h.1 n0.1 h.2 n0.2 (by rw [k0]; exact q)
  rwa [w0] at this
theorem v8 {p:Int} (h:nn p) (h0:rg p=0):FloatKind.f64.format.order (wd p) 0=some .eq:=by
 have n0:=jx.1
 have w0:wd 0=0:=by decide
 have k0:au 0=0:=by decide
 have hk:au p=0:=by
  unfold au
  unfold rg at h0
  split at h0 <;> simp_all
 have:=fJ h.1 n0.1 h.2 n0.2 (by rw [k0]; exact hk)
 rwa [w0] at this
theorem yE {p q:Int} (hp:nn p) (hq:nn q) (h0:rg p=0∨rg q=0) (w:World) :
  Calls Tryz.prog 76 #[.float .f64 (wd p),.float .f64 (wd q)] w fun e w'=>e=.returned (eJ 0 0)∧Below w.heap.size w w':=by
 have hcv:=sG
 have w0:wd 0=0:=by decide
 unfold eJ
 rw [w0]
 have hba:=ah w (.cells #[.float .f64 0,.float .f64 0] 87)
 obtain ⟨z,w1,hrun,hz,hw1⟩:=fF (P:=Tryz.prog) 47 (FW.pat hp.2 hp.1) (FW.pat hq.2 hq.1) (w.alloc (.cells #[.float .f64 0,.float .f64 0] 87))
 have hb1:Below (w.alloc (.cells #[.float .f64 0,.float .f64 0] 87)).heap.size (w.alloc (.cells #[.float .f64 0,.float .f64 0] 87)) w1:=by
  rcases hw1 with rfl | rfl
  ·exact aA _
  ·exact (aA _).drew
 obtain ⟨s0,s1,e0,e1,hbe⟩:=B6 hb1 0 0
 by_cases hp0:rg p=0
 ·have o:=v8 hp hp0
  generalize wd p=x at *
  generalize wd q=y at *
  clear hw1
  go_enter Tryz.func76,Tryz.ntmps76
  go_wp2
  refine bodyPost_ret (v:=.agg #[.float .f64 0,.float .f64 0]) (by simp [results,Tryz.results76,go_sem,e0,e1]) rfl ⟨rfl,hbe⟩
 ·have hq0:rg q=0:=by omega
  have o2:=v8 hq hq0
  rcases mA hp hp0 with o | o
  all_goals
   generalize wd p=x at *
   generalize wd q=y at *
   clear hw1
   go_enter Tryz.func76,Tryz.ntmps76
   go_wp2
   refine bodyPost_ret (v:=.agg #[.float .f64 0,.float .f64 0]) (by simp [results,Tryz.results76,go_sem,e0,e1]) rfl ⟨rfl,hbe⟩
theorem yF {p q:Int} (hp:nn p) (hq:nn q) (p0:rg p≠0) (q0:rg q≠0) (hn:nn (aq p q)) (hd:rg (aq p q)<283726776524341248) (w:World) (H:aD w) :
  Calls Tryz.prog 76 #[.float .f64 (wd p),.float .f64 (wd q)] w fun e w'=>e=.returned (eJ (gK 1 p q) (gK 2 p q))∧Below w.heap.size w w':=by
 have hcv:=sG
 have hba:=ah w (.cells #[.float .f64 0,.float .f64 0] 87)
 have CD:Hid (∀ W,aD W->Calls Tryz.prog 111 #[.int .i64 p,.int .i64 q] W fun e w'=>e=.returned (.agg #[.float .f64 (wd (gK 1 p q)),.float .f64 (wd (gK 2 p q))])∧Below W.heap.size W w'):=fun W h=>yD hp.1 hq.1 W h
 have CP:Hid (∀ W,Calls Tryz.prog 42 #[.float .f64 (wd p)] W fun e w'=>e=.returned (.int .i64 p)∧w'=W):=fun W=>je (FW.pat hp.2 hp.1) W
 have CQ:Hid (∀ W,Calls Tryz.prog 42 #[.float .f64 (wd q)] W fun e w'=>e=.returned (.int .i64 q)∧w'=W):=fun W=>je (FW.pat hq.2 hq.1) W
 have CA:Hid (∀ W,Calls Tryz.prog 21 #[.float .f64 (wd (aq p q))] W fun e w'=>e=.returned (.float .f64 (wd (rg (aq p q))))∧w'=W):=fun W=>cr hn.1 W
 have hrun:∀ W,(binOp .mul 47 (.float .f64 (wd p)) (.float .f64 (wd q))).run Tryz.prog W=.ok (.float .f64 (wd (aq p q))) W:=fun W=>dD _ (FW.pat hp.2 hp.1) (FW.pat hq.2 hq.1) hn.2 W
 have od:FloatKind.f64.format.order (wd (rg (aq p q))) 283726776524341248=some .lt:=by
  obtain ⟨a1,a2⟩:=fQ hn.1
  have ca:¬ aG (rg (aq p q))=4:=by rw [mO hn.1]; exact hn.2
  have:=fR a1 (show aj 283726776524341248 by unfold aj; omega) ca (by decide) (by rw [lL a2,show au 283726776524341248=283726776524341248 by decide]; exact hd)
  rwa [show wd 283726776524341248=283726776524341248 by decide] at this
 have o1:=mA hp p0
 have o2:=mA hq q0
 unfold eJ
 generalize wd (gK 1 p q)=U at *
 generalize wd (gK 2 p q)=V at *
 generalize wd (rg (aq p q))=A at *
 generalize wd (aq p q)=N at *
 generalize wd p=x at *
 generalize wd q=y at *
 rcases o1 with o1 | o1 <;> rcases o2 with o2 | o2
 all_goals
  go_enter Tryz.func76,Tryz.ntmps76
  go_wp2_with fail
  refine (CA.out _).mono ?_
  rintro _ wz ⟨rfl,hwz⟩
  replace hwz:=hwz.symm
  subst hwz
  go_wp2_with fail
  refine (CP.out _).mono ?_
  rintro _ wz ⟨rfl,hwz⟩
  replace hwz:=hwz.symm
  subst hwz
  go_wp2_with fail
  refine (CQ.out _).mono ?_
  rintro _ wz ⟨rfl,hwz⟩
  replace hwz:=hwz.symm
  subst hwz
  go_wp2_with fail
  refine (CD.out _ (H.keeps hba)).mono ?_
  rintro _ w3 ⟨rfl,hb3⟩
  obtain ⟨s0,s1,e0,e1,hbe⟩:=B6 hb3 U V
  go_wp2
  refine bodyPost_ret (v:=.agg #[.float .f64 U,.float .f64 V]) (by simp [results,Tryz.results76,go_sem,e0,e1]) rfl ⟨rfl,hbe⟩
theorem tS {p q:Int} (hp:nn p) (hq:nn q) (p0:rg p≠0) (q0:rg q≠0) (hn:nn (aq p q)) (hd:283726776524341248<=rg (aq p q)) (w:World) :
  Calls Tryz.prog 76 #[.float .f64 (wd p),.float .f64 (wd q)] w fun e w'=>e=.returned (eJ (dw (aq p q) (fp p q (neg (aq p q)))) (dz (aq p q) (fp p q (neg (aq p q)))))∧Below w.heap.size w w':=by
 have hcv:=sG
 have hba:=ah w (.cells #[.float .f64 0,.float .f64 0] 87)
 have CA:Hid (∀ W,Calls Tryz.prog 21 #[.float .f64 (wd (aq p q))] W fun e w'=>e=.returned (.float .f64 (wd (rg (aq p q))))∧w'=W):=fun W=>cr hn.1 W
 have hrun:∀ W,(binOp .mul 47 (.float .f64 (wd p)) (.float .f64 (wd q))).run Tryz.prog W=.ok (.float .f64 (wd (aq p q))) W:=fun W=>dD _ (FW.pat hp.2 hp.1) (FW.pat hq.2 hq.1) hn.2 W
 have hneg:∀ W,(Op.unary UnOp.neg (.float .f64 (wd (aq p q)))).run Tryz.prog W=.ok (.float .f64 (wd (neg (aq p q)))) W:=fun W=>mx hn W
 have nm:=(fj hn).1
 obtain ⟨L,w1,rF,hL,hw1⟩:=G6 (FW.pat hp.2 hp.1) (FW.pat hq.2 hq.1) (FW.pat nm.2 nm.1) (w.alloc (.cells #[.float .f64 0,.float .f64 0] 87))
 have hb1:Below (w.alloc (.cells #[.float .f64 0,.float .f64 0] 87)).heap.size (w.alloc (.cells #[.float .f64 0,.float .f64 0] 87)) w1:=by
  rcases hw1 with rfl | rfl
  ·exact aA _
  ·exact (aA _).drew
 have CB:Hid (∀ W,Calls Tryz.prog 112 #[.float .f64 (wd (aq p q)),.float .f64 L] W fun e w'=>e=.returned (.agg #[.float .f64 (wd (dw (aq p q) (fp p q (neg (aq p q))))),.float .f64 (wd (dz (aq p q) (fp p q (neg (aq p q)))))])∧Below W.heap.size W w'):=fun W=>tO hn hL W
 have od:FloatKind.f64.format.order (wd (rg (aq p q))) 283726776524341248=some .gt∨FloatKind.f64.format.order (wd (rg (aq p q))) 283726776524341248=some .eq:=by
  obtain ⟨a1,a2⟩:=fQ hn.1
  have ca:¬ aG (rg (aq p q))=4:=by rw [mO hn.1]; exact hn.2
  have w9:wd 283726776524341248=283726776524341248:=by decide
  have k9:au 283726776524341248=283726776524341248:=by decide
  by_cases e:rg (aq p q)=283726776524341248
  ·right
   have:=fJ a1 (show aj 283726776524341248 by unfold aj; omega) ca (by decide) (by rw [lL a2,k9]; exact e)
   rwa [w9] at this
  ·left
   have:=fU a1 (show aj 283726776524341248 by unfold aj; omega) ca (by decide) (by rw [lL a2,k9]; omega)
   rwa [w9] at this
 have o1:=mA hp p0
 have o2:=mA hq q0
 unfold eJ
 generalize wd (dw (aq p q) (fp p q (neg (aq p q))))=U at *
 generalize wd (dz (aq p q) (fp p q (neg (aq p q))))=V at *
 generalize wd (rg (aq p q))=A at *
 generalize wd (neg (aq p q))=M at *
 generalize wd (aq p q)=N at *
 generalize wd p=x at *
 generalize wd q=y at *
 clear hw1 hL hd
 rcases o1 with o1 | o1 <;> rcases o2 with o2 | o2 <;> rcases od with od | od
 all_goals
  go_enter Tryz.func76,Tryz.ntmps76
  go_wp2_with fail
  refine (CA.out _).mono ?_
  rintro _ wz ⟨rfl,hwz⟩
  replace hwz:=hwz.symm
  subst hwz
  go_wp2_with fail
  refine (CB.out _).mono ?_
  rintro _ w3 ⟨rfl,hb3⟩
  obtain ⟨s0,s1,e0,e1,hbe⟩:=B6 (aa hb1 hb3) U V
  go_wp2
  refine bodyPost_ret (v:=.agg #[.float .f64 U,.float .f64 V]) (by simp [results,Tryz.results76,go_sem,e0,e1]) rfl ⟨rfl,hbe⟩
theorem bU {a b:Nat} {x:Int} (h:Fx a b x):FW x (wd x):=FW.pat (aS h.p) h.r
theorem v9 {w w':World} {V:Int} {v:Value} (h:bG w w' V v) (o:Obj):bG w (w'.alloc o) V v:=h.stays (ah _ _)
theorem lQ {p q:Int} (pp:ak p=true) (pq:ak q=true) (w:World) (H:aD w) :
  Calls Tryz.prog 35 #[.int .i64 p,.int .i64 q] w fun r w'=>∃ v,r=.returned v∧bG w w' (ar p-ar q) v:=by
 have r_k:=aB w (.cells #[.bool false,.slice none 0 0,.int .i64 0] 34)
 have hb0:=ah w (.cells #[.bool false,.slice none 0 0,.int .i64 0] 34)
 have B1:=dN pp
 have B2:=dN pq
 go_enter Tryz.func35,Tryz.ntmps35
 go_wp2_with fail
 generalize w.alloc (.cells #[.bool false,.slice none 0 0,.int .i64 0] 34)=x0 at r_k hb0 ⊢
 have H:=H.keeps hb0
 refine (tn pp H).mono ?_
 rintro _ y1 ⟨v,rfl,h1⟩
 obtain ⟨x_g,x_o,x_n,x_c,x_e,rfl⟩:=bW h1
 have hw1:=h1.below
 have x_D:=h1.num
 have H:=H.keeps hw1
 have r_k:=(hw1.block _ (Array.getElem?_eq_some_iff.1 r_k).1).trans r_k
 have hb1:=aa hb0 hw1
 have r_k:=az (.cells #[.bool x_g,.slice x_o x_n x_c,.int .i64 x_e] 34) r_k
 have x_k:=aB y1 (.cells #[.bool x_g,.slice x_o x_n x_c,.int .i64 x_e] 34)
 have x_D:=x_D.keeps (ah y1 (.cells #[.bool x_g,.slice x_o x_n x_c,.int .i64 x_e] 34))
 have H:=H.keeps (ah y1 (.cells #[.bool x_g,.slice x_o x_n x_c,.int .i64 x_e] 34))
 have hb2':=aa hb1 (ah y1 (.cells #[.bool x_g,.slice x_o x_n x_c,.int .i64 x_e] 34))
 go_wp2_with fail
 generalize y1.alloc (.cells #[.bool x_g,.slice x_o x_n x_c,.int .i64 x_e] 34)=x2 at r_k x_k x_D H hb2' ⊢
 refine (tn pq H).mono ?_
 rintro _ y2 ⟨v,rfl,h2⟩
 obtain ⟨y_g,y_o,y_n,y_c,y_e,rfl⟩:=bW h2
 have hw2:=h2.below
 have y_D:=h2.num
 have H:=H.keeps hw2
 have r_k:=(hw2.block _ (Array.getElem?_eq_some_iff.1 r_k).1).trans r_k
 have x_k:=(hw2.block _ (Array.getElem?_eq_some_iff.1 x_k).1).trans x_k
 have x_D:=x_D.keeps hw2
 have hb2:=aa hb2' hw2
 have r_k:=az (.cells #[.bool y_g,.slice y_o y_n y_c,.int .i64 y_e] 34) r_k
 have x_k:=az (.cells #[.bool y_g,.slice y_o y_n y_c,.int .i64 y_e] 34) x_k
 have y_k:=aB y2 (.cells #[.bool y_g,.slice y_o y_n y_c,.int .i64 y_e] 34)
 have x_D:=x_D.keeps (ah y2 (.cells #[.bool y_g,.slice y_o y_n y_c,.int .i64 y_e] 34))
 have y_D:=y_D.keeps (ah y2 (.cells #[.bool y_g,.slice y_o y_n y_c,.int .i64 y_e] 34))
 have H:=H.keeps (ah y2 (.cells #[.bool y_g,.slice y_o y_n y_c,.int .i64 y_e] 34))
 have hb3':=aa hb2 (ah y2 (.cells #[.bool y_g,.slice y_o y_n y_c,.int .i64 y_e] 34))
 have f_x0:=ac x_k 0 rfl
 have f_x1:=ac x_k 1 rfl
 have f_x2:=ac x_k 2 rfl
 go_wp2_with fail
 clear f_x0 f_x1 f_x2
 generalize y2.alloc (.cells #[.bool y_g,.slice y_o y_n y_c,.int .i64 y_e] 34)=x3 at r_k x_k y_k x_D y_D H hb3' ⊢
 have hs0:=(Array.getElem?_eq_some_iff.1 r_k).1
 refine (If x_D y_D B1 B2 (by omega) H.tab).mono ?_
 rintro _ y3 ⟨v,rfl,h3⟩
 obtain ⟨n_g,n_o,n_n,n_c,n_e,rfl⟩:=bW h3
 have hw3:=h3.below
 have n_D:=h3.num
 have H:=H.keeps hw3
 have r_k:=(hw3.block _ (Array.getElem?_eq_some_iff.1 r_k).1).trans r_k
 have x_k:=(hw3.block _ (Array.getElem?_eq_some_iff.1 x_k).1).trans x_k
 have x_D:=x_D.keeps hw3
 have y_k:=(hw3.block _ (Array.getElem?_eq_some_iff.1 y_k).1).trans y_k
 have y_D:=y_D.keeps hw3
 have hb3:=aa hb3' hw3
 have r_k:=az (.cells #[.bool n_g,.slice n_o n_n n_c,.int .i64 n_e] 34) r_k
 have k0:=ac r_k 0 rfl
 have k1:=ac r_k 1 rfl
 have k2:=ac r_k 2 rfl
 have z0:=aw r_k 0
 have z1:=aw r_k 1
 have z2:=aw r_k 2
 go_wp2
 refine bodyPost_ret (v:=.agg #[.bool n_g,.slice n_o n_n n_c,.int .i64 n_e]) (by simp [results,Tryz.results35,go_sem,k0,k1,k2]) rfl ⟨_,rfl,?_⟩
 exact dY (g:=w.heap.size) (v9 h3 _) (by assumption) (Nat.le_refl _) hs0 _ _ _
def Lv (w w':World) (V:Int) (v:Value) (er:Int):Prop:=iN w w' V v er
theorem Lv.shape {w w':World} {V er:Int} {v:Value} (h:Lv w w' V v er):∃ ng so sn sc e,v=.agg #[.bool ng,.slice so sn sc,.int .i64 e]:=by
 exact iN.shape h
theorem JZ {K:Nat} {A:Int} {ng:Bool} {m e:Int} (h:Bd K A) (hy:Dy A ng m e) (hK:K<=4194304) (h0:0<m):-(K:Int)<=e∧e<=K∧m*2^(e+K).toNat<2^(2*K):=by
 obtain ⟨c,hc,c1,c2⟩:=h
 have au:∀ (b:Bool) (C:Int),0<C->C<2^(2*K)->A=sg b C*pw (-(K:Int))->-(K:Int)<=e∧e<=K∧m*2^(e+K).toNat<2^(2*K):=fun b C hC hlt hA=>by
  obtain ⟨l,hl⟩:=mh hC
  have hy2:=Dy.of b hl hC (show -4194304 <= -(K:Int) by omega)
  rw [<- hA] at hy2
  obtain ⟨_,rfl,rfl⟩:=hy.unique hy2
  obtain ⟨d1,d2,d3⟩:=iL hl hC
  have hl2:l<2*K:=by
   have h3:(1:Int)*2^l<=C/2^l*2^l:=Int.mul_le_mul_of_nonneg_right (by omega) (Int.le_of_lt (aO l))
   rw [d3] at h3
   exact i8 (by omega)
  refine ⟨by omega,by omega,?_⟩
  rw [show (-(K:Int)+l+K).toNat=l by omega,d3]
  exact hlt
 by_cases hz:c=0
 ·exfalso
  rw [hz,Int.zero_mul] at hc
  have:=hy.eq_zero.1 hc
  omega
 ·by_cases hp:0<c
  ·exact au false c hp c2 (by simpa [sg] using hc)
  ·exact au true (-c) (by omega) (by omega) (by simpa [sg] using hc)
def B8 (w w':World) (A B:Int) (x y v:Value):Prop:=Below w.heap.size w w'∧(bG w w' (A+B) v∨(A=0∧v=y)∨(B=0∧v=x))
theorem B8.num {w w':World} {A B:Int} {x y v:Value} (h:B8 w w' A B x y v) (hx:df w x A) (hy:df w y B):df w' v (A+B):=by
 rcases h.2 with h1 | ⟨rfl,rfl⟩ | ⟨rfl,rfl⟩
 ·exact h1.num
 ·rw [Int.zero_add]; exact hy.keeps h.1
 ·rw [Int.add_zero]; exact hx.keeps h.1
theorem iF.digits {w:World} {so:Option Addr} {sn sc:Nat} {M:Int} (h:iF w (.slice so sn sc) M) {K:Nat} (hK:K<=560000) (hM:M<2^(2*K)+2^(2*K)):∃ d,aQ w so sn sc d∧cT d sn∧val d sn=M∧sn<=37500:=by
 obtain ⟨ao,n,ca,d,e,hR,hN,hv⟩:=h
 simp only [Value.slice.injEq] at e
 obtain ⟨rfl,rfl,rfl⟩:=e
 refine ⟨d,hR,hN,hv,?_⟩
 by_cases h1:sn<=37500
 ·exact h1
 ·exfalso
  have a:=jL hN.1 (by omega) hN.2
  have b:=lx (show 37500<=sn-1 by omega)
  have c:(2:Int)^(2*K)<=2^(30*37400):=ga (by omega)
  have c2:(2:Int)^(30*37400)*2<=2^(30*37500):=by
   rw [<- Int.pow_succ]
   exact ga (by omega)
  rw [<- eC 37500] at c2
  generalize P 37500=Y at *
  generalize (2:Int)^(30*37400)=Z at *
  omega
def Ob (v:Value) (x y:Nat):Prop:=∀ g,v.ownBlock=some g->x<=g∧g<y
def fG (B:Nat) (w:World) (V:Int) (v:Value):Prop:=∃ ng s m e,v=.agg #[.bool ng,s,.int .i64 e]∧Dy V ng m e∧An B w s m
def jh (B:Nat) (w:World) (V:Int) (v:Value) (er:Int):Prop:=(fi V∧er=0∧fG B w V v)∨(¬ fi V∧er=2∧v=fO)
theorem bG.dan {w w':World} {V:Int} {v:Value} (h:bG w w' V v):fG w.heap.size w' V v:=by
 obtain ⟨ng,s,m,e,h1,h2,h3⟩:=h
 exact ⟨ng,s,m,e,h1,h2,h3.an⟩
theorem An.wr {B:Nat} {w w':World} {v:Value} {V:Int} {g:Nat} (h:An B w v V) (hw:Wr g w w') (hg:g<B):An B w' v V:=by
 obtain ⟨t,d,h1,h2⟩:=h
 exact ⟨t,d,h1.of_block fun g' hg'=>hw.block g' (h1.ge hg').2 (by have:=(h1.ge hg').1; omega),h2⟩
theorem fG.wr {B:Nat} {w w':World} {v:Value} {V:Int} {g:Nat} (h:fG B w V v) (hw:Wr g w w') (hg:g<B):fG B w' V v:=by
 obtain ⟨ng,s,m,e,h1,h2,h3⟩:=h
 exact ⟨ng,s,m,e,h1,h2,h3.wr hw hg⟩
theorem fG.keeps {B:Nat} {w w':World} {v:Value} {V:Int} (h:fG B w V v) (k:Below w.heap.size w w'):fG B w' V v:=by
 obtain ⟨ng,s,m,e,h1,h2,h3⟩:=h
 exact ⟨ng,s,m,e,h1,h2,h3.keeps k⟩
theorem fG.lower {B B':Nat} {w:World} {v:Value} {V:Int} (h:fG B w V v) (hB:B'<=B):fG B' w V v:=by
 obtain ⟨ng,s,m,e,h1,h2,h3⟩:=h
 exact ⟨ng,s,m,e,h1,h2,h3.lower hB⟩
theorem fG.num {B:Nat} {w:World} {v:Value} {V:Int} (h:fG B w V v):df w v V:=by
 obtain ⟨ng,s,m,e,h1,h2,h3⟩:=h
 exact ⟨ng,s,m,e,h1,h2,h3.num⟩
theorem jh.wr {B:Nat} {w w':World} {v:Value} {V er:Int} {g:Nat} (h:jh B w V v er) (hw:Wr g w w') (hg:g<B):jh B w' V v er:=by
 rcases h with ⟨h1,h2,h3⟩ | h
 ·exact .inl ⟨h1,h2,h3.wr hw hg⟩
 ·exact .inr h
theorem jh.keeps {B:Nat} {w w':World} {v:Value} {V er:Int} (h:jh B w V v er) (k:Below w.heap.size w w'):jh B w' V v er:=by
 rcases h with ⟨h1,h2,h3⟩ | h
 ·exact .inl ⟨h1,h2,h3.keeps k⟩
 ·exact .inr h
theorem jh.lower {B B':Nat} {w:World} {v:Value} {V er:Int} (h:jh B w V v er) (hB:B'<=B):jh B' w V v er:=by
 rcases h with ⟨h1,h2,h3⟩ | h
 ·exact .inl ⟨h1,h2,h3.lower hB⟩
 ·exact .inr h
theorem jh.shape {B:Nat} {w:World} {v:Value} {V er:Int} (h:jh B w V v er):∃ ng so sn sc e,v=.agg #[.bool ng,.slice so sn sc,.int .i64 e]:=by
 rcases h with ⟨_,_,ng,s,m,e,h1,_,h3⟩ | ⟨_,_,rfl⟩
 ·obtain ⟨so,sn,sc,rfl⟩:=h3.shape
  exact ⟨_,_,_,_,_,h1⟩
 ·exact ⟨_,_,_,_,_,rfl⟩
theorem jh.ge {B:Nat} {w:World} {ng:Bool} {so:Option Addr} {sn sc:Nat} {e V er:Int} (h:jh B w V (.agg #[.bool ng,.slice so sn sc,.int .i64 e]) er):Ob (.slice so sn sc) B w.heap.size:=by
 intro g hg
 rcases h with ⟨_,_,ng',s,m,e',h1,_,h3⟩ | ⟨_,_,h1⟩
 ·simp only [Value.agg.injEq,Array.mk.injEq,List.cons.injEq,Value.bool.injEq,Value.int.injEq,and_true,true_and] at h1
  obtain ⟨_,h1,_⟩:=h1
  rw [<- h1] at h3
  exact h3.ge hg
 ·simp only [fO,Value.agg.injEq,Array.mk.injEq,List.cons.injEq,Value.bool.injEq,Value.int.injEq,Value.slice.injEq,and_true,true_and] at h1
  obtain ⟨_,⟨rfl,_,_⟩,_⟩:=h1
  simp [Value.ownBlock] at hg
theorem fG.parts {B:Nat} {w:World} {ng:Bool} {so:Option Addr} {sn sc:Nat} {e V:Int} (h:fG B w V (.agg #[.bool ng,.slice so sn sc,.int .i64 e])):∃ m,Dy V ng m e∧An B w (.slice so sn sc) m:=by
 obtain ⟨ng',s,m,e',h1,h2,h3⟩:=h
 simp only [Value.agg.injEq,Array.mk.injEq,List.cons.injEq,Value.bool.injEq,Value.int.injEq,and_true,true_and] at h1
 obtain ⟨rfl,rfl,rfl⟩:=h1
 exact ⟨m,h2,h3⟩
theorem B8.shape {w w':World} {A B:Int} {x y:aL} {v:Value} (h:B8 w w' A B x.v y.v v):∃ ng so sn sc e,v=.agg #[.bool ng,.slice so sn sc,.int .i64 e]:=by
 rcases h.2 with ⟨ng,s,m,e,rfl,_,hA⟩ | ⟨_,rfl⟩ | ⟨_,rfl⟩
 ·obtain ⟨so,sn,sc,rfl⟩:=hA.num.shape
  exact ⟨_,_,_,_,_,rfl⟩
 ·exact ⟨_,_,_,_,_,rfl⟩
 ·exact ⟨_,_,_,_,_,rfl⟩
def nR (f:Nat->Value):Nat->List Value
 | 0=>[]
 | m+1=>nR f m ++ (f m).cells.toList
def tT (v:Value):Prop:=∃ ng so sn sc e,v=.agg #[.bool ng,.slice so sn sc,.int .i64 e]
theorem fG.three {B:Nat} {w:World} {V:Int} {v:Value} (h:fG B w V v):tT v:=by
 obtain ⟨ng,s,m,e,rfl,_,hA⟩:=h
 obtain ⟨so,sn,sc,rfl⟩:=hA.shape
 exact ⟨_,_,_,_,_,rfl⟩
theorem pz {f:Nat->Value}:∀ m,(∀ i,i<m->tT (f i))->(nR f m).length=m*3
 | 0,_=>rfl
 | m+1,h=>by
  obtain ⟨ng,so,sn,sc,e,he⟩:=h m (by omega)
  rw [nR,List.length_append,pz m fun i hi=>h i (by omega),he]
  simp [Value.cells]
  omega
theorem wc {f:Nat->Value}:∀ m,(∀ i,i<m->tT (f i))->∀ i j,i<m->j<3->(nR f m)[i*3+j]?=(f i).cells[j]?
 | 0,_,i,j,hi,_=>by omega
 | m+1,h,i,j,hi,hj=>by
  have hl:=pz m fun i hi=>h i (by omega)
  rw [nR]
  by_cases e:i=m
  ·subst e
   rw [List.getElem?_append_right (by omega),hl,show i*3+j-i*3=j by omega]
   simp
  ·rw [List.getElem?_append_left (by omega)]
   exact wc m (fun i hi=>h i (by omega)) i j (by omega) hj
def iE (B:Nat) (w:World) (x:Value) (m:Nat) (f:Nat->Value):Prop:=w.ownsRow B 34 3 x m (nR f m)
theorem iE.nil (B:Nat) (w:World) (f:Nat->Value):iE B w (.slice none 0 0) 0 f:=⟨rfl,.inl ⟨rfl,rfl⟩⟩
theorem iE.of_block {B:Nat} {w w':World} {x:Value} {m:Nat} {f:Nat->Value} (h:iE B w x m f) (hb:∀ g,x.ownBlock=some g->w'.heap[g]?=w.heap[g]?):iE B w' x m f:=by
 refine ⟨h.1,?_⟩
 rcases h.2 with hn | ⟨g,cap,cur,rfl,hbb,hg,rest⟩
 ·exact .inl hn
 ·exact .inr ⟨g,cap,cur,rfl,hbb,(hb g rfl).trans hg,rest⟩
theorem iE.typed {B:Nat} {w:World} {x:Value} {m:Nat} {f:Nat->Value} (h:iE B w x m f) {g:Nat} (hg:x.ownBlock=some g):B<=g∧g<w.heap.size∧∃ cur z,w.heap[g]?=some (.cells cur 34 z):=by
 rcases h.2 with ⟨rfl,_⟩ | ⟨g',cap,cur,rfl,hbb,hg',rest⟩
 ·simp [Value.ownBlock] at hg
 ·simp only [Value.ownBlock,Option.some.injEq] at hg; subst hg; exact ⟨hbb,(Array.getElem?_eq_some_iff.1 hg').1,cur,_,hg'⟩
theorem iE.keeps {B:Nat} {w w':World} {x:Value} {m:Nat} {f:Nat->Value} (h:iE B w x m f) (hb:Below w.heap.size w w'):iE B w' x m f:=h.of_block fun g hg=>hb.block g (h.typed hg).2.1
theorem iE.shape {B:Nat} {w:World} {x:Value} {m:Nat} {f:Nat->Value} (h:iE B w x m f):∃ xo xc,x=.slice xo m xc∧m<=xc∧(0<m->∃ g,xo=some ⟨g,0,none⟩):=by
 rcases h.2 with ⟨rfl,rfl⟩ | ⟨g,cap,cur,rfl,hb,hg,hn,hm,_⟩
 ·exact ⟨none,0,rfl,Nat.le_refl _,fun h=>by omega⟩
 ·exact ⟨_,cap,rfl,hn,fun _=>⟨g,rfl⟩⟩
theorem iE.cell {B:Nat} {w:World} {xo:Option Addr} {m xc g:Nat} {f:Nat->Value} (h:iE B w (.slice xo m xc) m f) (ht:∀ i,i<m->tT (f i)) (hx:xo=some ⟨g,0,none⟩) {i j:Nat} (hi:i<m) (hj:j<3):w.cell? ⟨g,i*3+j,none⟩=(f i).cells[j]?:=by
 rcases h.2 with ⟨_,rfl⟩ | ⟨g',cap,cur,e,hb,hg,hn,hm,hs,ht'⟩
 ·omega
 ·simp only [Value.slice.injEq] at e
  obtain ⟨rfl,_,rfl⟩:=e
  simp only [Option.some.injEq,Addr.mk.injEq] at hx
  obtain ⟨rfl,_⟩:=hx
  rw [cell_of_row w g' (i*3+j) cur _ _ hg,<- wc m ht i j hi hj,<- ht',List.getElem?_take_of_lt (by omega)]
  simp
theorem fG.of_blocks {B:Nat} {w w':World} {V:Int} {v:Value} (h:fG B w V v) (hb:∀ (g:Nat) (cur:Array Value) z,w.heap[g]?=some (.cells cur 3 z)->w'.heap[g]?=w.heap[g]?):fG B w' V v:=by
 obtain ⟨ng,s,m,e,h1,h2,t,d,hO,h3⟩:=h
 exact ⟨ng,s,m,e,h1,h2,t,d,hO.of_block fun g hg=>by obtain ⟨cur,z,hc⟩:=hO.typed hg; exact hb g cur z hc,h3⟩
structure LS (B:Nat) (w:World) (N:Nat) (X:Nat->Value) (M:Nat->Nat) (F:Nat->Nat->Value):Prop where
 own:∀ j,j<N->iE B w (X j) (M j) (F j)
 ne:∀ i j,i<N->j<N->i≠j->∀ g,(X i).ownBlock=some g->(X j).ownBlock≠some g
theorem LS.keeps {B:Nat} {w w':World} {N:Nat} {X:Nat->Value} {M:Nat->Nat} {F:Nat->Nat->Value} (h:LS B w N X M F) (hb:Below w.heap.size w w'):LS B w' N X M F:=⟨fun j hj=>(h.own j hj).keeps hb,h.ne⟩
theorem LS.put {B:Nat} {w w':World} {N:Nat} {X:Nat->Value} {M:Nat->Nat} {F:Nat->Nat->Value} (h:LS B w N X M F) (j0:Nat) {row:Option Nat} (hg:w.grownBy w' row) {v':Value} {M':Nat} {F':Nat->Value} (hO:iE B w' v' M' F') (h1:∀ j,j<N->j≠j0->∀ g,(X j).ownBlock=some g->row≠some g) (h2:∀ j,j<N->j≠j0->∀ g,(X j).ownBlock=some g->v'.ownBlock≠some g) :
  LS B w' N (sr X j0 v') (sr M j0 M') (sr F j0 F'):=by
 refine ⟨fun j hj=>?_,fun i j hi hj hij g hgi=>?_⟩
 ·by_cases e:j=j0
  ·subst e; rw [lp,lp,lp]; exact hO
  ·rw [ja _ _ e,ja _ _ e,ja _ _ e]
   exact (h.own j hj).of_block fun g hgx=>hg.block g ((h.own j hj).typed hgx).2.1 fun e'=>h1 j hj e g hgx e'.symm
 ·by_cases e:i=j0
  ·subst e
   rw [lp] at hgi
   rw [ja _ _ (Ne.symm hij)]
   exact fun hgj=>h2 j hj (Ne.symm hij) g hgj hgi
  ·rw [ja _ _ e] at hgi
   by_cases e2:j=j0
   ·subst e2
    rw [lp]
    exact h2 i hi e g hgi
   ·rw [ja _ _ e2]
    exact h.ne i j hi hj hij g hgi
theorem LS.row {B:Nat} {w:World} {N:Nat} {X:Nat->Value} {M:Nat->Nat} {F:Nat->Nat->Value} (h:LS B w N X M F) {j:Nat} (hj:j<N):∀ g,(X j).ownBlock=some g->∃ (cur:Array Value) (z:Nat × Nat),w.heap[g]?=some (Obj.cells cur 34 z):=fun g hg=>(((h.own j hj).typed hg).2.2)
theorem LS.ge {B:Nat} {w:World} {N:Nat} {X:Nat->Value} {M:Nat->Nat} {F:Nat->Nat->Value} (h:LS B w N X M F) {j:Nat} (hj:j<N):∀ g,(X j).ownBlock=some g->B<=g:=fun g hg=>((h.own j hj).typed hg).1
theorem iE.nums {B:Nat} {w:World} {xo:Option Addr} {m xc:Nat} {f:Nat->Value} {r:Nat->aL} (h:iE B w (.slice xo m xc) m f) (hm:m<=100000) (hr:∀ i,i<m->f i=(r i).v∧aQ w (r i).ao (r i).n (r i).cap (r i).d):∃ c2,xc=c2∧cN w xo m xc r:=by
 have ht:∀ i,i<m->tT (f i):=fun i hi=>⟨_,_,_,_,_,(hr i hi).1⟩
 refine ⟨xc,rfl,?_⟩
 obtain ⟨xo',xc',e,hle,hsp⟩:=h.shape
 simp only [Value.slice.injEq] at e
 obtain ⟨rfl,_,rfl⟩:=e
 refine ⟨hle,?_,fun hm0=>?_⟩
 ·rcases h.2 with ⟨e,_⟩ | ⟨g,cap,cur,e,hb,hg,hn,hmx,hs,_⟩
  ·simp only [Value.slice.injEq] at e; omega
  ·simp only [Value.slice.injEq] at e
   obtain ⟨_,_,rfl⟩:=e
   unfold maxLen at hmx
   omega
 ·obtain ⟨g,rfl⟩:=hsp hm0
  have hlt:g<w.heap.size:=(h.typed (g:=g) rfl).2.1
  refine ⟨g,0,rfl,hlt,fun i hi=>?_⟩
  obtain ⟨h1,h2⟩:=hr i hi
  have c:=fun j (hj:j<3)=>h.cell ht rfl hi (j:=j) hj
  rw [h1] at c
  rw [Nat.zero_add]
  exact ⟨c 0 (by decide),c 1 (by decide),c 2 (by decide),h2⟩
def Lw (B:Nat) (w:World) (n:Nat) (r:Nat->aL) (V:Int) (v:Value):Prop:=fG B w V v∨∃ i,i<n∧v=(r i).v∧V=(r i).V
theorem Lw.keeps {B:Nat} {w w':World} {n:Nat} {r:Nat->aL} {V:Int} {v:Value} (h:Lw B w n r V v) (hb:Below w.heap.size w w'):Lw B w' n r V v:=by
 rcases h with h | h
 ·exact .inl (h.keeps hb)
 ·exact .inr h
theorem ER {w:World} {g o0 o1 o2:Nat} {xs:Array Value} {z:Nat × Nat} (hg:w.heap[g]?=some (.cells xs 34 z)) (x y u:Value):∀ (g':Nat) (cur:Array Value) z',w.heap[g']?=some (.cells cur 3 z')->(((w.setCell ⟨g,o0,none⟩ x).setCell ⟨g,o1,none⟩ y).setCell ⟨g,o2,none⟩ u).heap[g']?=w.heap[g']?:=fun g' cur z' hc=>by
 refine (EI w g o0 o1 o2 x y u).block g' (Array.getElem?_eq_some_iff.1 hc).1 fun e=>?_
 subst e
 rw [hg] at hc
 simp at hc
end Go.Proofs.YtcjfonaolcokbaaGreatDoor
