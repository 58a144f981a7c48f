/- Parts of the proof. -/
import Derived.Test.YtobofhgpidbpmaaDoorSt7
import Derived.Test.YtobofhgpidbpmaaDoorSt6
import Derived.Laws.MakeOwn
import Derived.Test.YtobofhgpidbpmaaDoorSt5
import Derived.Test.YtobofhgpidbpmaaDoorSt10
import Derived.Test.YtobofhgpidbpmaaDoorSt9
set_option linter.unusedVariables false
set_option linter.unusedSimpArgs false
namespace Go.Proofs.YtobofhgpidbpmaaDoor
open Go Go.RowKit Go.Proofs.YtobofhgpidbpmaaDoor.M
def BlkN (w:World) (g N k:Nat) (q:Nat->NumR):Prop :=
  ∃ cur:Array Value,w.heap[g]?=some (.cells cur 35 (0,0))∧cur.size=N*3∧∀ i,i<k->(cur[i*3]?=some (.bool (q i).ng)∧cur[i*3+1]?=some (.slice (q i).ao (q i).n (q i).cap)∧cur[i*3+2]?=some (.int .i64 (q i).e))∧Row w (q i).ao (q i).n (q i).cap (q i).d
theorem info_num:∃ i,Tryd.prog.info? 35=some i∧i.zero=some (.agg #[.bool false,.slice none 0 0,.int .i64 0])∧i.size=3∧i.bytes=40:=by
  have h:(Tryd.prog.info? 35).map (fun i=>(i.zero,i.size,i.bytes))=some (some (.agg #[.bool false,.slice none 0 0,.int .i64 0]),3,40):=by kernel_rfl
  obtain ⟨i,hi,hzz⟩:=Option.map_eq_some_iff.1 h
  simp only [Prod.mk.injEq] at hzz
  exact ⟨i,hi,hzz⟩
theorem make_nums (n:Nat) (hn:n<=100000) (w:World) :
    (Instr.makeSlice 94 (.int .i64 (n:Int)) (.int .i64 (n:Int))).run Tryd.prog w=.ok (.slice (some ⟨w.heap.size,0,none⟩) n n) (w.alloc (.cells (madeCells #[.bool false,.slice none 0 0,.int .i64 0] (n*3)) 35)):=by
  obtain ⟨i,hi,hz,hs,hb⟩:=info_num
  have:=run_make (P:=Tryd.prog) w 94 35 i _ Tryd.underlying94 hi hz .i64 .i64 n n (by omega) (Int.le_refl _) (by rw [hb]; omega) (by omega)
  simp only [Int.toNat_natCast,hs] at this
  exact this
def updN (q:Nat->NumR) (k:Nat) (x:NumR):Nat->NumR:=fun j=>if j=k then x else q j
theorem updN_same (q:Nat->NumR) (k:Nat) (x:NumR):updN q k x k=x:=by simp [updN]
theorem updN_other (q:Nat->NumR) {k j:Nat} (x:NumR) (h:j≠k):updN q k x j=q j:=by simp [updN,h]
theorem keep3W {W w':World} {b g o0 o1 o2:Nat} {x y z:Value} (h:W.cell? ⟨b,o0,none⟩=some x∧W.cell? ⟨b,o1,none⟩=some y∧W.cell? ⟨b,o2,none⟩=some z) (hw:Wr g W w') (hg:b≠g) :
    w'.cell? ⟨b,o0,none⟩=some x∧w'.cell? ⟨b,o1,none⟩=some y∧w'.cell? ⟨b,o2,none⟩=some z :=
  ⟨(hw.cell (World.block_lt_of_cell? W _ h.1) hg).trans h.1,(hw.cell (World.block_lt_of_cell? W _ h.2.1) hg).trans h.2.1,(hw.cell (World.block_lt_of_cell? W _ h.2.2) hg).trans h.2.2⟩
theorem keep3B {W w':World} {b o0 o1 o2:Nat} {x y z:Value} (h:W.cell? ⟨b,o0,none⟩=some x∧W.cell? ⟨b,o1,none⟩=some y∧W.cell? ⟨b,o2,none⟩=some z) (hb:Below W.heap.size W w') :
    w'.cell? ⟨b,o0,none⟩=some x∧w'.cell? ⟨b,o1,none⟩=some y∧w'.cell? ⟨b,o2,none⟩=some z:=⟨cell_keeps h.1 hb,cell_keeps h.2.1 hb,cell_keeps h.2.2 hb⟩
theorem wr3 (W:World) (g o0 o1 o2:Nat) (x y z:Value):Wr g W (((W.setCell ⟨g,o0,none⟩ x).setCell ⟨g,o1,none⟩ y).setCell ⟨g,o2,none⟩ z):=(((Wr.refl g W).setCell o0 x).setCell o1 y).setCell o2 z
theorem Row.wrN {w w':World} {g:Nat} {ao:Option Addr} {n cap:Nat} {d:Nat->Int} (h:Row w ao n cap d) (hw:Wr g w w') {cur:Array Value} {z:Nat × Nat} (hg:w.heap[g]?=some (.cells cur 35 z)) (ht:∀ b off,ao=some ⟨b,off,none⟩->0<n->b≠g):Row w' ao n cap d :=
  ⟨h.le,h.max,h.nl,fun hn=>by
    obtain ⟨b,off,rfl,hlt,hc⟩:=h.spot hn
    exact ⟨b,off,rfl,Nat.lt_of_lt_of_le hlt hw.size,fun i hi=>(hw.cell (p:=⟨b,off+i,none⟩) hlt (ht b off rfl hn)).trans (hc i hi)⟩⟩
theorem Ans.open {w w':World} {V:Int} {so:Option Addr} {sn sc:Nat} (h:Ans w w' V (.slice so sn sc)):∃ d,Row w' so sn sc d∧Nrm d sn∧val d sn=V∧∀ b off,so=some ⟨b,off,none⟩->w.heap.size<=b:=by
  obtain ⟨t,d,hO,hN,hV,_⟩:=h
  have hge:=own_ge hO
  obtain ⟨so',sc',e,hR⟩:=hO.row
  simp only [Value.slice.injEq] at e
  obtain ⟨rfl,rfl,rfl⟩:=e
  exact ⟨d,hR,hN,hV,fun b off hb=>hge b (by rw [hb]; rfl)⟩
theorem bel_set3' {w0 w:World} {g o0 o1 o2:Nat} (h:Below w0.heap.size w0 w) (hg:w0.heap.size<=g) (x y z:Value):Below w0.heap.size w0 (((w.setCell ⟨g,o0,none⟩ x).setCell ⟨g,o1,none⟩ y).setCell ⟨g,o2,none⟩ z):=((h.setCell (p:=⟨g,o0,none⟩) hg x).setCell (p:=⟨g,o1,none⟩) hg y).setCell (p:=⟨g,o2,none⟩) hg z
theorem set3_get {cur:Array Value} {k:Nat} {x y z:Value} (h:k*3+2<cur.size) (i:Nat) :
    let c:=((cur.setIfInBounds (k*3) x).setIfInBounds (k*3+1) y).setIfInBounds (k*3+2) z
    (i=k->c[i*3]?=some x∧c[i*3+1]?=some y∧c[i*3+2]?=some z)∧(i≠k->c[i*3]?=cur[i*3]?∧c[i*3+1]?=cur[i*3+1]?∧c[i*3+2]?=cur[i*3+2]?):=by
  intro c
  refine ⟨fun e=>?_,fun e=>?_⟩
  . subst e
    refine ⟨?_,?_,?_⟩
    . show (((cur.setIfInBounds (i*3) x).setIfInBounds (i*3+1) y).setIfInBounds (i*3+2) z)[i*3]?=some x
      rw [Array.getElem?_setIfInBounds_ne (by omega),Array.getElem?_setIfInBounds_ne (by omega),Array.getElem?_setIfInBounds_self_of_lt (by omega)]
    . show (((cur.setIfInBounds (i*3) x).setIfInBounds (i*3+1) y).setIfInBounds (i*3+2) z)[i*3+1]?=some y
      rw [Array.getElem?_setIfInBounds_ne (by omega),Array.getElem?_setIfInBounds_self_of_lt (by simp; omega)]
    . show (((cur.setIfInBounds (i*3) x).setIfInBounds (i*3+1) y).setIfInBounds (i*3+2) z)[i*3+2]?=some z
      rw [Array.getElem?_setIfInBounds_self_of_lt (by simp; omega)]
  . refine ⟨?_,?_,?_⟩
    all_goals
      show (((cur.setIfInBounds (k*3) x).setIfInBounds (k*3+1) y).setIfInBounds (k*3+2) z)[_]?=_
      rw [Array.getElem?_setIfInBounds_ne (by omega),Array.getElem?_setIfInBounds_ne (by omega),Array.getElem?_setIfInBounds_ne (by omega)]
theorem BlkN.step {wr w3:World} {g N k:Nat} {q:Nat->NumR} (h:BlkN wr g N k q) (hb:Below wr.heap.size wr w3) (x:NumR) (hx:Row w3 x.ao x.n x.cap x.d) (hk:k<N) (hg:∀ i b' off,i<k->(q i).ao=some ⟨b',off,none⟩->0<(q i).n->g<b') (hg2:∀ b' off,x.ao=some ⟨b',off,none⟩->0<x.n->g<b') :
    BlkN (((w3.setCell ⟨g,k*3,none⟩ (.bool x.ng)).setCell ⟨g,k*3+1,none⟩ (.slice x.ao x.n x.cap)).setCell ⟨g,k*3+2,none⟩ (.int .i64 x.e)) g N (k+1) (updN q k x):=by
  obtain ⟨cur,hcur,hsz,hc⟩:=h
  have q0:=(hb.block g (Array.getElem?_eq_some_iff.1 hcur).1).trans hcur
  have q1:=heap_set (heap_set (heap_set q0 (k*3) (.bool x.ng)) (k*3+1) (.slice x.ao x.n x.cap)) (k*3+2) (.int .i64 x.e)
  have hw:=wr3 w3 g (k*3) (k*3+1) (k*3+2) (.bool x.ng) (.slice x.ao x.n x.cap) (.int .i64 x.e)
  refine ⟨_,q1,by simp [hsz],fun i hi=>?_⟩
  have hs:=set3_get (cur:=cur) (k:=k) (x:=.bool x.ng) (y:=.slice x.ao x.n x.cap) (z:=.int .i64 x.e) (by omega) i
  by_cases e:i=k
  . subst e
    rw [updN_same]
    exact ⟨hs.1 rfl,hx.wrN hw q0 fun b' off he hn=>by have:=hg2 b' off he hn; omega⟩
  . rw [updN_other q x e]
    obtain ⟨s0,s1,s2⟩:=hs.2 e
    obtain ⟨⟨c0,c1,c2⟩,hR⟩:=hc i (by omega)
    refine ⟨⟨s0.trans c0,s1.trans c1,s2.trans c2⟩,(hR.keeps hb).wrN hw q0 fun b' off he hn=>?_⟩
    have:=hg i b' off (by omega) he hn
    omega
theorem BlkN.nums {w:World} {g N:Nat} {q:Nat->NumR} (h:BlkN w g N N q) (hN:N<=100000):Nums w (some ⟨g,0,none⟩) N N q:=by
  obtain ⟨cur,hcur,hsz,hc⟩:=h
  refine ⟨Nat.le_refl _,by omega,fun _=>⟨g,0,rfl,(Array.getElem?_eq_some_iff.1 hcur).1,fun i hi=>?_⟩⟩
  obtain ⟨⟨c0,c1,c2⟩,hR⟩:=hc i hi
  rw [Nat.zero_add]
  exact ⟨blkC hcur _ c0,blkC hcur _ c1,blkC hcur _ c2,hR⟩
set_option maxRecDepth 100000 in
set_option maxHeartbeats 2000000 in
theorem products_any (ao bo:Option Addr) (n ca cb:Nat) (a b:Nat->NumR) (w:World) (ha:Nums w ao n ca a) (hb:Nums w bo n cb b) (hn:n<=100000) (sa:∀ i,i<n->Sane (a i)) (sb:∀ i,i<n->Sane (b i)) :
    Calls Tryd.prog 71 #[.slice ao n ca,.slice bo n cb] w fun x w'=>∃ g q,x=.returned (.slice (some ⟨g,0,none⟩) n n)∧w.heap.size<=g∧Nums w' (some ⟨g,0,none⟩) n n q∧Below w.heap.size w w'∧∀ i,i<n->Nrm (q i).d (q i).n∧(q i).ng=((a i).ng != (b i).ng)∧val (q i).d (q i).n=val (a i).d (a i).n*val (b i).d (b i).n∧(q i).e=(a i).e+(b i).e:=by
  have hla:=ha.le
  have hma:=ha.max
  have hlb:=hb.le
  have hmb:=hb.max
  have hmake:=make_nums n hn
  go_enter Tryd.func71,Tryd.ntmps71
  go_wp2_with fail
  have hb0:=bel_alloc w (.cells (madeCells #[.bool false,.slice none 0 0,.int .i64 0] (n*3)) 35)
  have g0:=heap_a1 w (.cells (madeCells #[.bool false,.slice none 0 0,.int .i64 0] (n*3)) 35)
  have HB0:Hid (BlkN (w.alloc (.cells (madeCells #[.bool false,.slice none 0 0,.int .i64 0] (n*3)) 35)) w.heap.size n 0 a):=⟨_,g0,by rw [size_madeCells],fun i hi=>by omega⟩
  clear g0 hmake
  generalize w.alloc (.cells (madeCells #[.bool false,.slice none 0 0,.int .i64 0] (n*3)) 35)=wx at hb0 HB0 ⊢
  go_loopw [12] (fun iv wr=>∃ (k:Nat) (q:Nat->NumR),k<=n∧iv=.int .i64 k∧Hid (BlkN wr w.heap.size n k q)∧Hid (∀ i,i<k->Nrm (q i).d (q i).n∧(q i).ng=((a i).ng != (b i).ng)∧val (q i).d (q i).n=val (a i).d (a i).n*val (b i).d (b i).n∧(q i).e=(a i).e+(b i).e)∧Hid (∀ i b' off,i<k->(q i).ao=some ⟨b',off,none⟩->0<(q i).n->w.heap.size<b')∧Below w.heap.size w wr) (fun iv _=>n-(intOf iv).toNat)
  case atStart=>exact ⟨0,a,Nat.zero_le _,rfl,HB0,fun i hi=>by omega,fun i b' off hi=>by omega,hb0⟩
  case round=>
    obtain ⟨k,q,hk,rfl,HQ,HF,HG,hbw⟩:=hrel
    clear HB0 hb0
    by_cases hlt:k<n
    . obtain ⟨ba,oa,rfl,hba,hca⟩:=ha.spot (by omega)
      obtain ⟨bb,ob,rfl,hbb,hcb⟩:=hb.spot (by omega)
      obtain ⟨c0,c1,c2,ra⟩:=(hca k hlt).keeps hbw hba
      obtain ⟨d0,d1,d2,rb⟩:=(hcb k hlt).keeps hbw hbb
      have CP:=fun W (h:Below wr.heap.size wr W)=>dproduct_any (a k) (b k) W (ra.keeps h) (rb.keeps h) (sa k hlt) (sb k hlt)
      have hea:Hid (-1100000<=(a k).e∧(a k).e<=1100000):=(sa k hlt).2.2
      have heb:Hid (-1100000<=(b k).e∧(b k).e<=1100000):=(sb k hlt).2.2
      have HAK:Hid (∀ x,a k=x->a k=x):=fun _ h=>h
      clear hca hcb ra rb
      obtain ⟨xa,hxa⟩:∃ x,a k=x:=⟨_,rfl⟩
      obtain ⟨xb,hxb⟩:∃ x,b k=x:=⟨_,rfl⟩
      rw [hxa] at c0 c1 c2 CP hea
      rw [hxb] at d0 d1 d2 CP heb
      have HXA:Hid (a k=xa):=hxa
      have HXB:Hid (b k=xb):=hxb
      clear hxa hxb HAK
      unfold NumR.v at CP
      obtain ⟨ag,aao,an,aca,ad,ae⟩:=xa
      obtain ⟨bg,bao,bn,bca,bd,be⟩:=xb
      simp only at c0 c1 c2 d0 d1 d2 CP hea heb
      obtain ⟨cur,hcur,hsz,hcells⟩:=HQ.out
      have HCL:Hid _:=hcells
      have e0:k*3<cur.size:=by omega
      have e1:k*3+1<cur.size:=by omega
      have e2:k*3+2<cur.size:=by omega
      obtain ⟨v0,hv0⟩:∃ v,cur[k*3]?=some v:=⟨_,Array.getElem?_eq_getElem e0⟩
      obtain ⟨v1,hv1⟩:∃ v,cur[k*3+1]?=some v:=⟨_,Array.getElem?_eq_getElem e1⟩
      obtain ⟨v2,hv2⟩:∃ v,cur[k*3+2]?=some v:=⟨_,Array.getElem?_eq_getElem e2⟩
      have HV:Hid (cur[k*3]?=some v0∧cur[k*3+1]?=some v1∧cur[k*3+2]?=some v2):=⟨hv0,hv1,hv2⟩
      have HSZ:Hid (cur.size=n*3):=hsz
      have HCUR:Hid (wr.heap[w.heap.size]?=some (.cells cur 35 (0,0))):=hcur
      have hgs:w.heap.size<wr.heap.size:=(Array.getElem?_eq_some_iff.1 hcur).1
      clear hcells hv0 hv1 hv2 hcur hsz e0 e1 e2
      have i0:(0:Int)<=(k:Int):=by omega
      have i1:(k:Int)<(n:Int):=by omega
      have kc0:(wr.drew.cell? ⟨ba,oa+k*3,none⟩=some (.bool ag)∧wr.drew.cell? ⟨ba,oa+k*3+1,none⟩=some (.slice aao an aca)∧wr.drew.cell? ⟨ba,oa+k*3+2,none⟩=some (.int .i64 ae))∧wr.drew.cell? ⟨bb,ob+k*3,none⟩=some (.bool bg)∧wr.drew.cell? ⟨bb,ob+k*3+1,none⟩=some (.slice bao bn bca)∧wr.drew.cell? ⟨bb,ob+k*3+2,none⟩=some (.int .i64 be):=⟨⟨c0,c1,c2⟩,d0,d1,d2⟩
      have hb1:=bel_refl wr
      go_wp2_with fail
      go_region_held3 (fun W=>(W.cell? ⟨ba,oa+k*3,none⟩=some (.bool ag)∧W.cell? ⟨ba,oa+k*3+1,none⟩=some (.slice aao an aca)∧W.cell? ⟨ba,oa+k*3+2,none⟩=some (.int .i64 ae))∧W.cell? ⟨bb,ob+k*3,none⟩=some (.bool bg)∧W.cell? ⟨bb,ob+k*3+1,none⟩=some (.slice bao bn bca)∧W.cell? ⟨bb,ob+k*3+2,none⟩=some (.int .i64 be))
        (first | assumption | exact ⟨keep3W kc1.1 (wr3 _ _ _ _ _ _ _ _) (by omega),keep3W kc1.2 (wr3 _ _ _ _ _ _ _ _) (by omega)⟩)
        ((go_at_call 81; refine (CP _ hb1.drew).mono ?_; rintro y w3 ⟨s,rfl,hA⟩; have hbv1:=hA.below; have kc1:=And.intro (keep3B kc0.1 hbv1) (keep3B kc0.2 hbv1); obtain ⟨so,sn,sc,rfl⟩:=hA.num.shape; have q0:=(hbv1.block w.heap.size hgs).trans HCUR.out; have x0:=blkC q0 (k*3) HV.out.1; have x1:=blkC q0 (k*3+1) HV.out.2.1; have x2:=blkC q0 (k*3+2) HV.out.2.2; have z0:=blkF q0 (k*3); have z1:=blkF q0 (k*3+1); have z2:=blkF q0 (k*3+2)))
      all_goals go_wp2
      all_goals
        go_roundw
        case rel=>
          obtain ⟨dd,hRd,hNd,hVd,hgd⟩:=hA.open
          have hgs2:∀ b' off,so=some ⟨b',off,none⟩->0<sn->w.heap.size<b':=fun b' off he _=>by
            have h9:=hgd b' off he
            have h8:w.heap.size<wr.drew.heap.size:=hgs
            omega
          refine ⟨k+1,updN q k ⟨ag != bg,so,sn,sc,dd,ae+be⟩,by omega,by go_num,BlkN.step (x:=⟨ag != bg,so,sn,sc,dd,ae+be⟩) HQ.out (bel_trans hb1.drew hbv1) hRd hlt HG.out hgs2,fun i hi=>?_,fun i b' off hi he hn'=>?_,bel_set3' (bel_trans hbw (bel_trans hb1.drew hbv1)) (Nat.le_refl _) _ _ _⟩
          . by_cases e:i=k
            . subst e
              rw [updN_same,HXA.out,HXB.out]
              exact ⟨hNd,rfl,hVd,rfl⟩
            . rw [updN_other _ _ e]
              exact HF.out i (by omega)
          . by_cases e:i=k
            . subst e
              rw [updN_same] at he hn'
              exact hgs2 b' off he hn'
            . rw [updN_other _ _ e] at he hn'
              exact HG.out i b' off (by omega) he hn'
        case measure=>simp [intOf]; omega
    . obtain rfl:k=n:=by omega
      go_wp2
      go_ret
      exact ⟨_,q,rfl,Nat.le_refl _,HQ.out.nums hn,hbw,HF.out⟩
def dotV (a b:Nat->NumR):Nat->Int | 0=>0 | k+1=>dotV a b k+mulV (a k) (b k)
theorem sumV_dot {a b q:Nat->NumR}:∀ n,(∀ i,i<n->(q i).ng=((a i).ng != (b i).ng)∧val (q i).d (q i).n=val (a i).d (a i).n*val (b i).d (b i).n∧(q i).e=(a i).e+(b i).e)->sumV q n=dotV a b n
  | 0,_=>rfl
  | k+1,h=>by
    obtain ⟨h1,h2,h3⟩:=h k (by omega)
    show sumV q k+sg (q k).ng (val (q k).d (q k).n)*pw (q k).e=dotV a b k+sg ((a k).ng != (b k).ng) (val (a k).d (a k).n*val (b k).d (b k).n)*pw ((a k).e+(b k).e)
    rw [sumV_dot k fun i hi=>h i (by omega),h1,h2,h3]
def Half (x:NumR):Prop:=-500000<=x.e∧x.e<=500000
theorem prod_sane {x y q:NumR} (ox:okR x=true) (oy:okR y=true) (hx:Half x) (hy:Half y) (h0:Nrm q.d q.n) (h2:val q.d q.n=val x.d x.n*val y.d y.n) (h3:q.e=x.e+y.e):Sane q:=by
  refine ⟨h0,?_,?_,?_⟩
  . have a:=(okR_dy ox).2.1
    have b:=(okR_dy oy).2.1
    have a0:=val_nonneg (okR_sane ox).1.1
    have b0:=val_nonneg (okR_sane oy).1.1
    by_cases hq:q.n<=5000
    . exact hq
    . exfalso
      have c:=val_top h0.1 (by omega) h0.2
      have d:=P_le (show 4000<=q.n-1 by omega)
      have e:val x.d x.n*val y.d y.n<P 2000*P 2000:=by
        by_cases hz:val x.d x.n=0
        . rw [hz,Int.zero_mul]; exact Int.mul_pos (P_pos _) (P_pos _)
        . exact Int.lt_of_lt_of_le (Int.mul_lt_mul_of_pos_left b (by omega)) (Int.mul_le_mul_of_nonneg_right (by omega) (Int.le_of_lt (P_pos _)))
      have f:P 2000*P 2000=P 4000:=by rw [P_two 2000,P_two 4000,<- Int.pow_add,show 30*2000+30*2000=30*4000 from rfl]
      rw [f] at e
      rw [h2] at c
      generalize P 4000=Y at *
      omega
  . unfold Half at *; omega
  . unfold Half at *; omega
set_option maxRecDepth 100000 in
set_option maxHeartbeats 2000000 in
theorem dot1_any (ao bo:Option Addr) (n ca cb:Nat) (a b:Nat->NumR) (p p2:Addr) (w:World) (c:w.cell? p=some (.slice ao n ca)) (c2:w.cell? p2=some (.slice bo n cb)) (ha:Nums w ao n ca a) (hb:Nums w bo n cb b) (oa:∀ i,i<n->okR (a i)=true) (ob:∀ i,i<n->okR (b i)=true) (la:∀ i,i<n->Half (a i)) (lb:∀ i,i<n->Half (b i)) (hn:n<=100000) (hT:Tab w) :
    Calls Tryd.prog 70 #[.pointer (some p),.pointer (some p2)] w (DOut w (dotV a b n)):=by
  have hbe:=bel_alloc w (.cells #[.bool false,.slice none 0 0,.int .i64 0] 35)
  have k0:=cell_keeps c hbe
  have k1:=cell_keeps c2 hbe
  have g0:=heap_a1 w (.cells #[.bool false,.slice none 0 0,.int .i64 0] 35)
  have CP:=products_any ao bo n ca cb a b _ (ha.keeps hbe) (hb.keeps hbe) hn (fun i hi=>okR_sane (oa i hi)) (fun i hi=>okR_sane (ob i hi))
  have hTx:=hT.keeps hbe
  have HSUM:Hid (∀ W g q,Nums W (some ⟨g,0,none⟩) n n q->(∀ i,i<n->Nrm (q i).d (q i).n∧(q i).ng=((a i).ng != (b i).ng)∧val (q i).d (q i).n=val (a i).d (a i).n*val (b i).d (b i).n∧(q i).e=(a i).e+(b i).e)->Tab W->Calls Tryd.prog 58 #[.slice (some ⟨g,0,none⟩) n n] W (DOut W (dotV a b n))):=fun W g q hN hF hTW=>by
    have:=total_any (some ⟨g,0,none⟩) n n q W hN (fun i hi=>prod_sane (oa i hi) (ob i hi) (la i hi) (lb i hi) (hF i hi).1 (hF i hi).2.2.1 (hF i hi).2.2.2) hn hTW
    rwa [sumV_dot n fun i hi=>(hF i hi).2] at this
  generalize dotV a b n=V at HSUM ⊢
  clear oa ob la lb ha hb
  go_enter Tryd.func70,Tryd.ntmps70
  go_wp2_with fail
  generalize w.alloc (.cells #[.bool false,.slice none 0 0,.int .i64 0] 35)=wx at *
  refine CP.mono ?_
  rintro x w1 ⟨g,q,rfl,hg,hN,hb1,hF⟩
  have HF:Hid _:=hF
  clear hF
  go_wp2_with fail
  refine (HSUM.out _ _ _ hN HF.out (hTx.keeps hb1)).mono ?_
  rintro x w7 (⟨hok,v,rfl,hD⟩ | ⟨hno,rfl,hb7⟩)
  . have hb7:=hD.below
    obtain ⟨ng',s',m',e',rfl,hyy,hA2⟩:=id hD
    obtain ⟨so',sn',sc',rfl⟩:=hA2.num.shape
    have hlt:=(Array.getElem?_eq_some_iff.1 g0).1
    have q0:=((bel_trans hb1 hb7).block w.heap.size hlt).trans g0
    have x0:=blkC q0 0 rfl
    have x1:=blkC q0 1 rfl
    have x2:=blkC q0 2 rfl
    have z0:=blkF q0 0
    have z1:=blkF q0 1
    have z2:=blkF q0 2
    go_wp2
    refine bodyPost_ret (v:=.agg #[.bool ng',.slice so' sn' sc',.int .i64 e']) (by simp [results,Tryd.results70,go_sem,x0,x1,x2]) rfl ?_
    exact .inl ⟨hok,_,rfl,dans_res3 (g:=w.heap.size) hD (bel_trans hbe hb1) (Nat.le_refl _) (Nat.lt_of_lt_of_le hlt hb1.size) _ _ _⟩
  . exact ⟨rfl,.inr ⟨hno,rfl,bel_trans (bel_trans hbe hb1) hb7⟩⟩
set_option maxRecDepth 100000 in
set_option maxHeartbeats 2000000 in
theorem ddot_ok (ao bo:Option Addr) (n ca cb:Nat) (a b:Nat->NumR) (w:World) (ha:Nums w ao n ca a) (hb:Nums w bo n cb b) (oa:allOk a n=true) (ob:allOk b n=true) (la:∀ i,i<n->Half (a i)) (lb:∀ i,i<n->Half (b i)) (hn:n<=100000) (hT:Tab w) :
    Calls Tryd.prog 59 #[.slice ao n ca,.slice bo n cb] w fun x w'=>∃ v er,x=.returned (.tuple #[v,.int .i64 er])∧DFit w w' (dotV a b n) v er:=by
  have hmf:∀ (fn:Fn) (first cap:Array Value) (w:World),(Instr.makeFunc fn first cap).run Tryd.prog w=.ok (.func fn first cap) w:=fun _ _ _ _=>rfl
  have hE:∀ (cap:Array Value) (w:World),(callFunc 70 cap).run Tryd.prog w=.ok (.enter 70 cap) w:=by
    intro cap w
    simp [go_sem]
  have hla:=ha.le
  have hma:=ha.max
  have hlb:=hb.le
  have hmb:=hb.max
  have CA:=fun W (h:Below w.heap.size w W)=>dvalids_any ao n ca a W (ha.keeps h)
  have CB:=fun W (h:Below w.heap.size w W)=>dvalids_any bo n cb b W (hb.keeps h)
  have CD:Hid (∀ W p p2,Below w.heap.size w W->W.cell? p=some (.slice ao n ca)->W.cell? p2=some (.slice bo n cb)->Calls Tryd.prog 70 #[.pointer (some p),.pointer (some p2)] W (DOut W (dotV a b n))):=fun W p p2 h c1 c2=>dot1_any ao bo n ca cb a b p p2 W c1 c2 (ha.keeps h) (hb.keeps h) (allOk_out oa) (allOk_out ob) la lb hn (hT.keeps h)
  generalize dotV a b n=V at CD ⊢
  rw [oa] at CA
  rw [ob] at CB
  clear ha hb oa ob la lb hT
  have hb3:=bel_a3 w (.cells #[.slice ao n ca] 94) (.cells #[.slice bo n cb] 94) (.cells #[.bool false,.slice none 0 0,.int .i64 0] 35)
  have g0:=h3_0 w (.cells #[.slice ao n ca] 94) (.cells #[.slice bo n cb] 94) (.cells #[.bool false,.slice none 0 0,.int .i64 0] 35)
  have g1:=h3_1 w (.cells #[.slice ao n ca] 94) (.cells #[.slice bo n cb] 94) (.cells #[.bool false,.slice none 0 0,.int .i64 0] 35)
  have g2:=h3_2 w (.cells #[.slice ao n ca] 94) (.cells #[.slice bo n cb] 94) (.cells #[.bool false,.slice none 0 0,.int .i64 0] 35)
  go_enter Tryd.func59,Tryd.ntmps59
  go_wp2_with fail
  generalize ((w.alloc (.cells #[.slice ao n ca] 94)).alloc (.cells #[.slice bo n cb] 94)).alloc (.cells #[.bool false,.slice none 0 0,.int .i64 0] 35)=wx at hb3 g0 g1 g2 ⊢
  refine (CA _ hb3).mono ?_
  rintro x w1 ⟨rfl,hb1⟩
  have hbw:=bel_trans hb3 hb1
  replace g0:=(hb1.block _ (Array.getElem?_eq_some_iff.1 g0).1).trans g0
  replace g1:=(hb1.block _ (Array.getElem?_eq_some_iff.1 g1).1).trans g1
  replace g2:=(hb1.block _ (Array.getElem?_eq_some_iff.1 g2).1).trans g2
  have k1:=blkC g1 0 rfl
  go_wp2_with fail
  clear k1
  refine (CB _ hbw).mono ?_
  rintro x w2 ⟨rfl,hb2⟩
  have hbw2:=bel_trans hbw hb2
  replace g0:=(hb2.block _ (Array.getElem?_eq_some_iff.1 g0).1).trans g0
  replace g1:=(hb2.block _ (Array.getElem?_eq_some_iff.1 g1).1).trans g1
  replace g2:=(hb2.block _ (Array.getElem?_eq_some_iff.1 g2).1).trans g2
  have hs3:=(Array.getElem?_eq_some_iff.1 g2).1
  go_wp2_with fail
  refine (told_any (V:=V) (hE _) (fun W hW=>CD.out W _ _ (bel_trans hbw2 hW) (blkC ((hW.block _ (by omega)).trans g0) 0 rfl) (blkC ((hW.block _ (by omega)).trans g1) 0 rfl))).mono ?_
  rintro x w3 ⟨v,er,rfl,hF⟩
  obtain ⟨ng',so,sn,sc,e',rfl⟩:=hF.shape
  have q0:=(hF.1.block (w.heap.size+2) hs3).trans g2
  have x0:=blkC q0 0 rfl
  have x1:=blkC q0 1 rfl
  have x2:=blkC q0 2 rfl
  have z0:=blkF q0 0
  have z1:=blkF q0 1
  have z2:=blkF q0 2
  go_wp2
  refine bodyPost_ret (v:=.tuple #[.agg #[.bool ng',.slice so sn sc,.int .i64 e'],.int .i64 er]) (by simp [results,Tryd.results59,go_sem,x0,x1,x2]) rfl ⟨_,_,rfl,?_⟩
  exact dfit_res (g:=w.heap.size+2) hF hbw2 (by omega) (by omega) _ _ _
theorem Nums.at {w:World} {g n:Nat} {q:Nat->NumR} (h:Nums w (some ⟨g,0,none⟩) n n q) (i:Nat) (hi:i<n):At3 w g (i*3) (q i):=by
  obtain ⟨b,off,he,hlt,hc⟩:=h.spot (by omega)
  cases he
  have:=hc i hi
  rwa [Nat.zero_add] at this
theorem run_prodN {P:Program} (t:TypeId) {p q:Int} {x y:Nat} (hx:FW p x) (hy:FW q y) (h:cls (fprod p q)≠4) (w:World):(binOp .mul t (.float .f64 x) (.float .f64 y)).run P w=.ok (.float .f64 (wd (fprod p q))) w:=by
  obtain ⟨z,w',hrun,hz⟩:=run_farith (P:=P) .mul (.inr (.inr (.inl rfl))) t x y w
  have hf:floatBits .mul .f64 x y=Ieee.double.mul x y:=rfl
  rw [hf] at hz
  rcases mul_FW hx hy with ⟨z',e1,e2⟩ | ⟨_,e2⟩
  . rcases hz with ⟨h1,h2⟩ | ⟨h1,_⟩
    . rw [e1] at h1
      cases h1
      rw [hrun,h2,(e2.of h).2.1]
    . rw [e1] at h1; cases h1
  . exact absurd (by rw [e2]; decide) h
theorem fx_fw {a b:Nat} {x:Int} (h:Fx a b x):FW x (wd x):=FW.pat (q_fin h.p) h.r
set_option maxRecDepth 100000 in
theorem aNear {p q:Int} (hp:Mz p) (hq:Mz q) (w:World) :
    Calls Tryd.prog 24 #[.int .i64 p,.int .i64 q] w fun r w'=>r=.returned (.float .f64 (wd (fsum p (neg q))))∧w'=w:=by
  have hd:=fun W=>run_diffN (P:=Tryd.prog) 45 (FW.pat (q_fin hp.2.1) hp.1) (FW.pat (q_fin hq.2.1) hq.1) (q_fin (df_fin hp hq).1) W
  have C1:Hid (∀ W,Calls Tryd.prog 39 #[.int .i64 p] W fun e w'=>e=.returned (.float .f64 (wd p))∧w'=W):=fun W=>bitsFloat p W
  have C2:Hid (∀ W,Calls Tryd.prog 39 #[.int .i64 q] W fun e w'=>e=.returned (.float .f64 (wd q))∧w'=W):=fun W=>bitsFloat q W
  clear hp hq
  generalize wd p=P at *
  generalize wd q=Q at *
  generalize wd (fsum p (neg q))=R at *
  go_enter Tryd.func24,Tryd.ntmps24
  go_wp2_with fail
  refine (C1.out _).mono ?_
  rintro _ wz ⟨rfl,hwz⟩
  replace hwz:=hwz.symm
  subst hwz
  go_wp2_with fail
  refine (C2.out _).mono ?_
  rintro _ wz ⟨rfl,hwz⟩
  replace hwz:=hwz.symm
  subst hwz
  go_wp2
  go_ret
  exact ⟨rfl,rfl⟩
theorem Un.neg {S h:Int} (u:Un S h):Un (-S) (-h):=by
  unfold Un at *
  have e:-h - -S=-(h-S):=by omega
  rw [e,Int.natAbs_neg,Int.natAbs_neg,Int.natAbs_neg]
  exact u
def m49:Int:=4386506037058863104
theorem rng_m49:rng m49:=by unfold rng m49; omega
theorem iV_m49:iV m49=1125899906842624*2^975:=iV_posO (n:=973) rng_m49 (by decide) (by decide) (by decide) (by decide) (by decide)
def pL (u:Nat->Nat->Int) (p q:Nat):Int:=fprod (u p 0) (u q 1)
def mn (u:Nat->Nat->Int) (p q:Nat):Int:=fsum (pL u p q) (neg (pL u q p))
def sz (u:Nat->Nat->Int) (p q:Nat):Int:=fsum (rg (pL u p q)) (rg (pL u q p))
def dt (u:Nat->Nat->Int) (p q r:Nat):Int:=fsum (fsum (fprod (u p 2) (mn u q r)) (neg (fprod (u q 2) (mn u p r)))) (fprod (u r 2) (mn u p q))
def sxz (u:Nat->Nat->Int) (p q r:Nat):Int:=fsum (fsum (fprod (sz u q r) (rg (u p 2))) (fprod (sz u r p) (rg (u q 2)))) (fprod (sz u p q) (rg (u r 2)))
def lf (u:Nat->Nat->Int) (p:Nat):Int:=fsum (fsum (fsum 0 (fprod (u p 0) (u p 0))) (fprod (u p 1) (u p 1))) (fprod (u p 2) (u p 2))
def mX (X:Nat->Nat->Int) (p q:Nat):Int:=X p 0*X q 1-X q 0*X p 1
def dX (X:Nat->Nat->Int) (p q r:Nat):Int:=X p 2*mX X q r-X q 2*mX X p r+X r 2*mX X p q
def lX (X:Nat->Nat->Int) (p:Nat):Int:=X p 0*X p 0+X p 1*X p 1+X p 2*X p 2
structure Lg (X u:Nat->Nat->Int) (p:Nat):Prop where
  f:∀ k,k<3->Fx 872 1226 (u p k)
  n:∀ k,k<3->Un (X p k) (iV (u p k))
theorem pL_fx {X u:Nat->Nat->Int} {p q:Nat} (hp:Lg X u p) (hq:Lg X u q):Fx 670 1379 (pL u p q)∧Un (iV (u p 0)*iV (u q 1)) (2^1074*iV (pL u p q)):=by
  obtain ⟨l,lu,_⟩:=(hp.f 0 (by decide)).prod (hq.f 1 (by decide)) (by decide) (by decide) (by decide)
  exact ⟨l,lu⟩
def wQ (u:Nat->Nat->Int) (p q:Nat):Int:=((2^1074*iV (pL u p q)).natAbs:Int)+((2^1074*iV (pL u q p)).natAbs:Int)
theorem wQ_comm (u:Nat->Nat->Int) (p q:Nat):wQ u p q=wQ u q p:=Int.add_comm _ _
theorem mn_dv {X u:Nat->Nat->Int} {p q:Nat} (hp:Lg X u p) (hq:Lg X u q) :
    Fx 670 1381 (mn u p q)∧Dv 4611686018427388289 1152921504606847104 (mX X p q) (2^1074*iV (mn u p q)) (wQ u p q):=by
  obtain ⟨l,lu⟩:=pL_fx hp hq
  obtain ⟨r,ru⟩:=pL_fx hq hp
  obtain ⟨nr,ne⟩:=r.neg
  obtain ⟨d,du⟩:=l.sum nr (by decide)
  rw [ne,<- Int.sub_eq_add_neg] at du
  have du:=du.scale (Int.le_of_lt (p2 1074))
  rw [Int.mul_sub] at du
  exact ⟨d,dv_sub (dv_prod0 (hp.n 0 (by decide)) (hq.n 1 (by decide)) lu) (dv_prod0 (hq.n 0 (by decide)) (hp.n 1 (by decide)) ru) du (by decide) (by decide)⟩
theorem sz_sz {X u:Nat->Nat->Int} {p q:Nat} (hp:Lg X u p) (hq:Lg X u q) :
    Fx 670 1381 (sz u p q)∧Sz 1152921504606847104 (wQ u p q) (2^1074*iV (sz u p q)):=by
  obtain ⟨l,lu⟩:=pL_fx hp hq
  obtain ⟨r,ru⟩:=pL_fx hq hp
  obtain ⟨la,le⟩:=l.abs
  obtain ⟨ra,re⟩:=r.abs
  obtain ⟨d,du⟩:=la.sum ra (by decide)
  rw [le,re] at du
  have p0:=Int.le_of_lt (p2 1074)
  have du:=du.scale p0
  rw [Int.mul_add,<- sc_abs p0,<- sc_abs p0] at du
  exact ⟨d,sz_add (sz_abs _) (sz_abs _) du (by decide) (by decide)⟩
theorem sz_comm {X u:Nat->Nat->Int} {p q:Nat} (hp:Lg X u p) (hq:Lg X u q):sz u p q=sz u q p:=by
  obtain ⟨l,lu⟩:=pL_fx hp hq
  obtain ⟨r,ru⟩:=pL_fx hq hp
  obtain ⟨la,le⟩:=l.abs
  obtain ⟨ra,re⟩:=r.abs
  exact fsum_comm la.r ra.r la.p ra.p
def aQ (u:Nat->Nat->Int) (p k:Nat):Int:=((iV (u p k)).natAbs:Int)
theorem tm_dv {X u:Nat->Nat->Int} {p q r:Nat} (hp:Lg X u p) (hq:Lg X u q) (hr:Lg X u r) :
    Fx 468 1534 (fprod (u p 2) (mn u q r))∧Dv 6917529027641083010 1152921504606847233 (X p 2*mX X q r) (2^1074*(2^1074*iV (fprod (u p 2) (mn u q r)))) (aQ u p 2*wQ u q r):=by
  obtain ⟨m,d⟩:=mn_dv hq hr
  obtain ⟨t,tu,_⟩:=(hp.f 2 (by decide)).prod m (by decide) (by decide) (by decide)
  have tu:=tu.scale (Int.le_of_lt (p2 1074))
  rw [Int.mul_left_comm] at tu
  exact ⟨t,dv_mul (dv_un (hp.n 2 (by decide))) d tu (by decide) (by decide)⟩
theorem ts_sz {X u:Nat->Nat->Int} {p q r:Nat} (hp:Lg X u p) (hq:Lg X u q) (hr:Lg X u r) :
    Fx 468 1534 (fprod (sz u q r) (rg (u p 2)))∧Sz 1152921504606847233 (aQ u p 2*wQ u q r) (2^1074*(2^1074*iV (fprod (sz u q r) (rg (u p 2))))):=by
  obtain ⟨m,d⟩:=sz_sz hq hr
  obtain ⟨a,ae⟩:=(hp.f 2 (by decide)).abs
  obtain ⟨t,tu,_⟩:=m.prod a (by decide) (by decide) (by decide)
  have tu:=tu.scale (Int.le_of_lt (p2 1074))
  rw [<- Int.mul_assoc,ae] at tu
  rw [Int.mul_comm (aQ u p 2)]
  exact ⟨t,sz_mul d (sz_abs _) tu (by decide) (by decide)⟩
def dQ (u:Nat->Nat->Int) (p q r:Nat):Int:=aQ u p 2*wQ u q r+aQ u q 2*wQ u p r+aQ u r 2*wQ u p q
theorem dt_dv {X u:Nat->Nat->Int} {p q r:Nat} (hp:Lg X u p) (hq:Lg X u q) (hr:Lg X u r) :
    Fx 468 1538 (dt u p q r)∧∃ Z,Un Z (2^1074*(2^1074*iV (dt u p q r)))∧Dv 8070450532247930243 1152921504606847362 (dX X p q r) Z (dQ u p q r):=by
  obtain ⟨f1,d1⟩:=tm_dv hp hq hr
  obtain ⟨f2,d2⟩:=tm_dv hq hp hr
  obtain ⟨f3,d3⟩:=tm_dv hr hp hq
  obtain ⟨n2,e2⟩:=f2.neg
  obtain ⟨s,su⟩:=f1.sum n2 (by decide)
  rw [e2,<- Int.sub_eq_add_neg] at su
  obtain ⟨t,tu⟩:=s.sum (f3.up (show 1534<=1536 by decide)) (by decide)
  have p0:=Int.le_of_lt (p2 1074)
  have su:=(su.scale p0).scale p0
  have tu:=(tu.scale p0).scale p0
  rw [Int.mul_sub,Int.mul_sub] at su
  rw [Int.mul_add,Int.mul_add] at tu
  exact ⟨t,_,tu,dv_sum0 (dv_sub d1 d2 su (by decide) (by decide)) (d3.up (by decide) (by decide))⟩
theorem sxz_sz {X u:Nat->Nat->Int} {p q r:Nat} (hp:Lg X u p) (hq:Lg X u q) (hr:Lg X u r) :
    Fx 468 1538 (sxz u p q r)∧Sz 1152921504606847491 (dQ u p q r) (2^1074*(2^1074*iV (sxz u p q r))):=by
  obtain ⟨f1,d1⟩:=ts_sz hp hq hr
  obtain ⟨f2,d2⟩:=ts_sz hq hr hp
  obtain ⟨f3,d3⟩:=ts_sz hr hp hq
  obtain ⟨s,su⟩:=f1.sum f2 (by decide)
  obtain ⟨t,tu⟩:=s.sum (f3.up (show 1534<=1536 by decide)) (by decide)
  have p0:=Int.le_of_lt (p2 1074)
  have su:=(su.scale p0).scale p0
  have tu:=(tu.scale p0).scale p0
  rw [Int.mul_add,Int.mul_add] at su tu
  have d3':Sz 1152921504606847362 (aQ u r 2*wQ u p q) (2^1074*(2^1074*iV (fprod (sz u p q) (rg (u r 2))))):=⟨d3.q,d3.s,Int.le_trans d3.l (Int.mul_le_mul_of_nonneg_right (by decide) d3.s)⟩
  have:=sz_add (sz_add d1 d2 su (G:=1152921504606847362) (by decide) (by decide)) d3' tu (G:=1152921504606847491) (by decide) (by decide)
  rw [wQ_comm u r p] at this
  exact ⟨t,this⟩
def sA:Int:=4380876537524649991
theorem iV_posS {p m:Int} {n:Nat} (hr:rng p) (hp:pok p=true) (h0:0<=p) (hm:pmag p=m) (he:pexp p+1074=n):iV p=m*2^n:=by
  have e:=iV_form hr hp
  rw [hm,he,Int.toNat_natCast] at e
  have s:0<=iV p:=by
    rw [iV,decide_eq_false (by omega)]
    exact Int.natCast_nonneg _
  omega
theorem rng_sA:rng sA:=by unfold rng sA; omega
theorem iV_sA:iV sA=7881299347898375*2^971:=iV_posS (n:=971) rng_sA (by decide) (by decide) (by decide) (by decide)
theorem fx_sA:Fx 971 1024 sA:=by
  refine ⟨rng_sA,by decide,⟨7881299347898375,by rw [iV_sA,Int.mul_comm]⟩,?_⟩
  rw [iV_sA,Int.natAbs_mul,Int.natCast_mul]
  have e:(((2:Int)^971).natAbs:Int)=2^971:=by have:=p2 971; omega
  rw [e,show (2:Int)^1024=2^53*2^971 by rw [<- Int.pow_add]]
  exact Int.mul_le_mul_of_nonneg_right (by decide) (Int.le_of_lt (p2 971))
theorem side_sign {X u:Nat->Nat->Int} {p q r:Nat} (hp:Lg X u p) (hq:Lg X u q) (hr:Lg X u r) (h:iV (fprod sA (sxz u p q r))<((iV (dt u p q r)).natAbs:Int)) :
    (0<dX X p q r ↔ 0<iV (dt u p q r))∧(dX X p q r<0 ↔ iV (dt u p q r)<0):=by
  obtain ⟨fd,Z,uZ,dv⟩:=dt_dv hp hq hr
  obtain ⟨fs,hs⟩:=sxz_sz hp hq hr
  obtain ⟨_,_,T,hT,uT⟩:=fx_sA.prod fs (by decide) (by decide) (by decide)
  have p0:=Int.le_of_lt (p2 1074)
  have hT':10141204801825835211973625643008*T=7881299347898375*iV (sxz u p q r):=by
    rw [iV_sA,show (2:Int)^1074=2^103*2^971 by rw [<- Int.pow_add],show (2:Int)^103=10141204801825835211973625643008 by decide] at hT
    refine Int.eq_of_mul_eq_mul_left (Int.ne_of_gt (p2 971)) ?_
    rw [<- Int.mul_assoc,Int.mul_comm (2^971),hT,Int.mul_comm 7881299347898375 (2^971),Int.mul_assoc]
  have b1:=Int.le_of_eq hT'.symm
  have b2:7881299347898375*(2^1074*(2^1074*iV (sxz u p q r)))<=10141204801825835211973625643008*(2^1074*(2^1074*T)):=by
    have:=Int.mul_le_mul_of_nonneg_left (Int.mul_le_mul_of_nonneg_left b1 p0) p0
    rwa [Int.mul_left_comm _ 7881299347898375,Int.mul_left_comm _ 7881299347898375,Int.mul_left_comm _ 10141204801825835211973625643008,Int.mul_left_comm _ 10141204801825835211973625643008] at this
  have s0:=hs.s
  have t0:0<=2^1074*(2^1074*T):=by
    generalize 2^1074*(2^1074*T)=t at *
    generalize 2^1074*(2^1074*iV (sxz u p q r))=s at *
    omega
  have h':2^1074*(2^1074*iV (fprod sA (sxz u p q r)))<(((2^1074*(2^1074*iV (dt u p q r)):Int)).natAbs:Int):=by
    rw [sc_abs p0,sc_abs p0]
    exact Int.mul_lt_mul_of_pos_left (Int.mul_lt_mul_of_pos_left h (p2 1074)) (p2 1074)
  obtain ⟨r1,r2⟩:=dv_sign dv uZ hs b2 ((uT.scale p0).scale p0) h' t0 (by decide) (by decide) (by decide)
  have g1:=sc_sgn (x:=iV (dt u p q r)) (p2 1074)
  have g2:=sc_sgn (x:=2^1074*iV (dt u p q r)) (p2 1074)
  exact ⟨r1.trans (g2.1.trans g1.1),r2.trans (g2.2.trans g1.2)⟩
def tt (u:Nat->Nat->Int) (i p q r:Nat):Int:=fprod (lf u i) (dt u p q r)
def ts (u:Nat->Nat->Int) (i p q r:Nat):Int:=fprod (sxz u r p q) (lf u i)
def fD (u:Nat->Nat->Int):Int:=fsum (fsum (tt u 3 0 1 2) (neg (tt u 2 3 0 1))) (fsum (tt u 1 2 3 0) (neg (tt u 0 1 2 3)))
def fS (u:Nat->Nat->Int):Int:=fsum (fsum (fsum (fsum 0 (ts u 0 1 2 3)) (ts u 1 2 3 0)) (ts u 2 3 0 1)) (ts u 3 0 1 2)
def sX (X:Nat->Nat->Int):Int:=(lX X 3*dX X 0 1 2-lX X 2*dX X 3 0 1)+(lX X 1*dX X 2 3 0-lX X 0*dX X 1 2 3)
theorem fx_zero {a b:Nat}:Fx a b 0:=⟨by unfold rng; omega,by decide,by rw [show iV 0=0 by decide]; exact ⟨0,by omega⟩,by rw [show iV 0=0 by decide]; exact Int.le_of_lt (p2 b)⟩
theorem sum0_fx {a b:Nat} {x:Int} (hx:Fx a b x) (hb:b+1<=2097):Fx a b (fsum 0 x)∧iV (fsum 0 x)=iV x:=by
  obtain ⟨f1,f2⟩:=sum_fin (fx_zero (a:=a) (b:=b)).r hx.r (fx_zero (a:=a) (b:=b)).p hx.p (h_fin (b:=0) (fx_zero (a:=a) (b:=b)).b hb maxV_ge) (h_fin (b:=0) hx.b hb maxV_ge)
  have nr:=fsum_nr (fx_zero (a:=a) (b:=b)).r hx.r f2
  rw [show iV 0=0 by decide,Int.zero_add] at nr
  have e:=nr_self (iV_fl x) nr
  exact ⟨⟨fsum_rng (fx_zero (a:=a) (b:=b)).r hx.r,f1,by rw [e]; exact hx.d,by rw [e]; exact hx.b⟩,e⟩
def sQ (u:Nat->Nat->Int) (p k:Nat):Int:=((2^1074*iV (fprod (u p k) (u p k))).natAbs:Int)
def lQ (u:Nat->Nat->Int) (p:Nat):Int:=sQ u p 0+sQ u p 1+sQ u p 2
theorem sq_fx {X u:Nat->Nat->Int} {p:Nat} (hp:Lg X u p) (k:Nat) (hk:k<3):Fx 670 1379 (fprod (u p k) (u p k))∧Un (iV (u p k)*iV (u p k)) (2^1074*iV (fprod (u p k) (u p k)))∧0<=2^1074*iV (fprod (u p k) (u p k)):=by
  obtain ⟨l,lu,_⟩:=(hp.f k hk).prod (hp.f k hk) (by decide) (by decide) (by decide)
  have:0<=iV (u p k)*iV (u p k):=by
    rcases Int.le_total 0 (iV (u p k)) with c | c
    . exact Int.mul_nonneg c c
    . exact Int.mul_nonneg_of_nonpos_of_nonpos c c
  exact ⟨l,lu,(un_nn lu this).1⟩
theorem lf_dv {X u:Nat->Nat->Int} {p:Nat} (hp:Lg X u p) :
    Fx 670 1383 (lf u p)∧Dv 5764607523034235393 1152921504606847233 (lX X p) (2^1074*iV (lf u p)) (lQ u p)∧Sz 1152921504606847233 (lQ u p) (2^1074*iV (lf u p)):=by
  obtain ⟨f0,u0,n0⟩:=sq_fx hp 0 (by decide)
  obtain ⟨f1,u1,n1⟩:=sq_fx hp 1 (by decide)
  obtain ⟨f2,u2,n2⟩:=sq_fx hp 2 (by decide)
  obtain ⟨g0,e0⟩:=sum0_fx f0 (by decide)
  obtain ⟨s,su⟩:=g0.sum f1 (by decide)
  obtain ⟨t,tu⟩:=s.sum (f2.up (show 1379<=1381 by decide)) (by decide)
  have p0:=Int.le_of_lt (p2 1074)
  rw [e0] at su
  have su:=su.scale p0
  have tu:=tu.scale p0
  rw [Int.mul_add] at su tu
  have a0:(2^1074*iV (fprod (u p 0) (u p 0)))=sQ u p 0:=(Int.natAbs_of_nonneg n0).symm
  have a1:(2^1074*iV (fprod (u p 1) (u p 1)))=sQ u p 1:=(Int.natAbs_of_nonneg n1).symm
  have a2:(2^1074*iV (fprod (u p 2) (u p 2)))=sQ u p 2:=(Int.natAbs_of_nonneg n2).symm
  have z0:=sz_abs (2^1074*iV (fprod (u p 0) (u p 0)))
  have z1:=sz_abs (2^1074*iV (fprod (u p 1) (u p 1)))
  have z2:=sz_abs (2^1074*iV (fprod (u p 2) (u p 2)))
  rw [show ((2^1074*iV (fprod (u p 0) (u p 0)):Int).natAbs:Int)=sQ u p 0 from rfl,<- a0] at z0
  rw [show ((2^1074*iV (fprod (u p 1) (u p 1)):Int).natAbs:Int)=sQ u p 1 from rfl,<- a1] at z1
  rw [show ((2^1074*iV (fprod (u p 2) (u p 2)):Int).natAbs:Int)=sQ u p 2 from rfl,<- a2] at z2
  have z2':Sz 1152921504606847104 (2^1074*iV (fprod (u p 2) (u p 2))) (2^1074*iV (fprod (u p 2) (u p 2))):=⟨z2.q,z2.s,Int.le_trans z2.l (Int.mul_le_mul_of_nonneg_right (by decide) z2.s)⟩
  have z3:=sz_add (sz_add z0 z1 su (G:=1152921504606847104) (by decide) (by decide)) z2' tu (G:=1152921504606847233) (by decide) (by decide)
  rw [a0,a1,a2] at z3
  exact ⟨t,dv_add (dv_add (dv_prod0 (hp.n 0 (by decide)) (hp.n 0 (by decide)) u0) (dv_prod0 (hp.n 1 (by decide)) (hp.n 1 (by decide)) u1) su (K:=4611686018427388289) (C:=1152921504606847104) (by decide) (by decide)) ((dv_prod0 (hp.n 2 (by decide)) (hp.n 2 (by decide)) u2).up (by decide) (by decide)) tu (by decide) (by decide),z3⟩
theorem dQ_rot (u:Nat->Nat->Int) (p q r:Nat):dQ u r p q=dQ u p q r:=by
  unfold dQ
  rw [wQ_comm u r q,wQ_comm u r p]
  omega
theorem tt_dv {X u:Nat->Nat->Int} {i p q r:Nat} (hi:Lg X u i) (hp:Lg X u p) (hq:Lg X u q) (hr:Lg X u r) :
    Fx 64 1848 (tt u i p q r)∧Dv 16140901064495870498 1152921504606847877 (lX X i*dX X p q r) (2^1074*(2^1074*(2^1074*(2^1074*iV (tt u i p q r))))) (lQ u i*dQ u p q r):=by
  obtain ⟨fl,dl,_⟩:=lf_dv hi
  obtain ⟨fd,Z,uZ,dd⟩:=dt_dv hp hq hr
  have dd:=dv_rnd dd uZ (K:=9223372036854777605) (C:=1152921504606847491) (by decide) (by decide)
  obtain ⟨t,tu,_⟩:=fl.prod fd (by decide) (by decide) (by decide)
  have p0:=Int.le_of_lt (p2 1074)
  have tu:=((tu.scale p0).scale p0).scale p0
  have e:(2:Int)^1074*(2^1074*(2^1074*(iV (lf u i)*iV (dt u p q r))))=2^1074*iV (lf u i)*(2^1074*(2^1074*iV (dt u p q r))):=by
    generalize (2:Int)^1074=c
    grind
  rw [e] at tu
  exact ⟨t,dv_mul dl dd tu (by decide) (by decide)⟩
theorem ts_sp {X u:Nat->Nat->Int} {i p q r:Nat} (hi:Lg X u i) (hp:Lg X u p) (hq:Lg X u q) (hr:Lg X u r) :
    Fx 64 1848 (ts u i p q r)∧Sz 1152921504606847877 (lQ u i*dQ u p q r) (2^1074*(2^1074*(2^1074*(2^1074*iV (ts u i p q r))))):=by
  obtain ⟨fl,_,dl⟩:=lf_dv hi
  obtain ⟨fd,dd⟩:=sxz_sz hr hp hq
  obtain ⟨t,tu,_⟩:=fd.prod fl (by decide) (by decide) (by decide)
  have p0:=Int.le_of_lt (p2 1074)
  have tu:=((tu.scale p0).scale p0).scale p0
  have e:(2:Int)^1074*(2^1074*(2^1074*(iV (sxz u r p q)*iV (lf u i))))=2^1074*(2^1074*iV (sxz u r p q))*(2^1074*iV (lf u i)):=by
    generalize (2:Int)^1074=c
    grind
  rw [e] at tu
  have:=sz_mul dd dl tu (G:=1152921504606847877) (by decide) (by decide)
  rw [dQ_rot,Int.mul_comm] at this
  exact ⟨t,this⟩
def sB:Int:=4386506037058863111
set_option maxRecDepth 100000 in
theorem rng_sB:rng sB:=by unfold rng sB; omega
set_option maxRecDepth 100000 in
theorem iV_sB:iV sB=4503599627370503*2^973:=iV_posS (n:=973) rng_sB (by decide) (by decide) (by decide) (by decide)
set_option maxRecDepth 100000 in
theorem nearP_up {A B:Int} (h0:0<A) (h:A<=B):nearP A<=nearP B∧0<=nearP A:=by
  obtain ⟨a,r,l,ea,RA,pa⟩:=nearP_rung (S:=A) (by omega)
  obtain ⟨b,s,k,eb,RB,pb⟩:=nearP_rung (S:=B) (by omega)
  rw [decide_eq_false (show ¬ A<0 by omega)] at ea pa
  rw [decide_eq_false (show ¬ B<0 by omega)] at eb pb
  have ab:a<=b:=by
    have e1:A=a:=ea
    have e2:B=b:=eb
    omega
  have m:=rTo_mono (way:=0) (ng:=false) RA RB ab
  have n:0<=rTo 0 false r l:=by
    unfold rTo bRung
    split
    . split <;> omega
    . split <;> omega
  rw [pa,pb]
  unfold patS
  rw [if_neg (by decide),if_neg (by decide)]
  exact ⟨m,n⟩
theorem iV_up {p q:Int} (hp:rng p) (hq:rng q) (p0:0<=p) (h:p<=q):iV p<=iV q:=by
  rcases Int.lt_or_eq_of_le h with c | c
  . exact Int.le_of_lt (iV_mono hp hq (by rw [q_key p0,q_key (by omega)]; exact c))
  . rw [c]; exact Int.le_refl _
theorem fx_m49':Fx 1025 1025 m49:=by
  refine ⟨rng_m49,by decide,?_,?_⟩
  . rw [iV_m49,show (1125899906842624:Int)*2^975=2^50*2^975 by rfl,<- Int.pow_add]
    exact ⟨1,by rw [Int.mul_one]⟩
  . rw [iV_m49,show (1125899906842624:Int)*2^975=2^50*2^975 by rfl,<- Int.pow_add]
    have:=p2 (50+975)
    rw [show (50+975:Nat)=1025 by rfl] at this ⊢
    omega
theorem bd_low {a b:Nat} {S:Int} (h64:64<=a) (hS:Fx a b S) (s0:0<=iV S):iV (fprod m49 S)<=iV (fprod sB S):=by
  obtain ⟨a1,a2⟩:=fin_cls rng_sB (show pok sB=true by decide)
  obtain ⟨b1,b2⟩:=fin_cls hS.r hS.p
  obtain ⟨c1,c2⟩:=fin_cls rng_m49 (show pok m49=true by decide)
  rcases Int.lt_or_eq_of_le s0 with c | c
  . have sp:¬ S<0:=fun h=>by
      have:=(iV_key hS.r).2.1 c
      unfold key at this
      rw [if_pos h] at this
      have:=(q_rg hS.r).2
      unfold rg at this
      rw [if_pos h] at this
      omega
    have xs:xsg sB S=false:=by unfold xsg; rw [decide_eq_false sp]; decide
    have xm:xsg m49 S=false:=by unfold xsg; rw [decide_eq_false sp]; decide
    have w0:=pw_pos (-1074)
    have vS:0<patV S:=by rw [patV_iV hS.r hS.p]; exact Int.mul_pos c w0
    have vB:patV m49<=patV sB:=by
      rw [patV_iV rng_m49 (by decide),patV_iV rng_sB (by decide),iV_m49,iV_sB,show (2:Int)^975=4*2^973 by rw [show (4:Int)=2^2 by rfl,<- Int.pow_add]]
      have q:=Int.le_of_lt (p2 973)
      refine Int.mul_le_mul_of_nonneg_right ?_ (Int.le_of_lt w0)
      generalize (2:Int)^973=z at *
      omega
    have le:fsize m49 S<=fsize sB S:=by
      unfold fsize
      rw [xs,xm]
      exact Int.ediv_le_ediv (two_pos _) (Int.mul_le_mul_of_nonneg_right vB (Int.le_of_lt vS))
    have pos:0<fsize m49 S:=by
      obtain ⟨k,hk⟩:=hS.d
      obtain ⟨T,hT⟩:∃ T,2^1074*T=iV m49*iV S:=⟨2^15*(2^(a-64)*k),by
        rw [iV_m49,hk,show (1125899906842624:Int)*2^975=2^50*2^975 by rfl,<- Int.pow_add]
        have e:(2:Int)^a=2^64*2^(a-64):=by rw [<- Int.pow_add,show 64+(a-64)=a by omega]
        rw [e,show (2:Int)^(50+975)*(2^64*2^(a-64)*k)=(2^(50+975)*2^64)*(2^(a-64)*k) by rw [Int.mul_assoc,Int.mul_assoc],<- Int.pow_add,<- Int.mul_assoc,<- Int.pow_add]⟩
      have e2:=pw_mul (a:=-1074) (b:=-1074) (by decide) (by decide)
      rw [show (-1074 + -1074:Int)=-2148 by decide] at e2
      have e3:=pw_add (e:=-2148) (by decide) 1074
      rw [show (-2148+((1074:Nat):Int))=-1074 by decide] at e3
      have hs:=k_fs (two_pos 4194304) e2 e3 hT
      rw [<- patV_iV rng_m49 (by decide),<- patV_iV hS.r hS.p] at hs
      have tp:0<T:=by
        have:0<iV m49*iV S:=Int.mul_pos (by rw [iV_m49]; exact Int.mul_pos (by decide) (p2 975)) c
        rw [<- hT,Int.mul_comm] at this
        exact Int.pos_of_mul_pos_left this (p2 1074)
      unfold fsize
      rw [xm,hs]
      exact Int.mul_pos tp w0
    have e1:fprod m49 S=nearP (fsize m49 S):=by
      unfold fprod
      rw [if_neg (fun h=>h.elim c1 b1),if_neg (fun h=>h.elim c2 b2),if_neg (by omega),xm]
      rfl
    have e2:fprod sB S=nearP (fsize sB S):=by
      unfold fprod
      rw [if_neg (fun h=>h.elim a1 b1),if_neg (fun h=>h.elim a2 b2),if_neg (by omega),xs]
      rfl
    obtain ⟨m1,m2⟩:=nearP_up pos le
    rw [e1,e2]
    exact iV_up (by rw [<- e1]; exact fprod_rng rng_m49 hS.r) (by rw [<- e2]; exact fprod_rng rng_sB hS.r) m2 m1
  . have z:∀ x,rng x->pok x=true->iV (fprod x S)=0:=fun x rx px=>by
      have s:=stp_prod (T:=0) rx hS.r px hS.p (by rw [<- c,Int.mul_zero,Int.mul_zero])
      have f:pok (fprod x S)=true:=s.fin (by have:=maxV_ge; have:=p2 2097; omega)
      exact nr_self fl_zero (s.nr f)
    rw [z _ rng_m49 (by decide),z _ rng_sB (by decide)]
    exact Int.le_refl _
theorem fS_sz {X u:Nat->Nat->Int} (h:∀ p,p<4->Lg X u p) :
    Fx 64 1854 (fS u)∧Sz 1152921504606848264 (lQ u 0*dQ u 1 2 3+lQ u 1*dQ u 2 3 0+lQ u 2*dQ u 3 0 1+lQ u 3*dQ u 0 1 2) (2^1074*(2^1074*(2^1074*(2^1074*iV (fS u))))):=by
  have l0:=h 0 (by decide)
  have l1:=h 1 (by decide)
  have l2:=h 2 (by decide)
  have l3:=h 3 (by decide)
  obtain ⟨f0,z0⟩:=ts_sp l0 l1 l2 l3
  obtain ⟨f1,z1⟩:=ts_sp l1 l2 l3 l0
  obtain ⟨f2,z2⟩:=ts_sp l2 l3 l0 l1
  obtain ⟨f3,z3⟩:=ts_sp l3 l0 l1 l2
  obtain ⟨g0,e0⟩:=sum0_fx f0 (by decide)
  obtain ⟨a,au⟩:=g0.sum f1 (by decide)
  obtain ⟨b,bu⟩:=a.sum (f2.up (show 1848<=1850 by decide)) (by decide)
  obtain ⟨c,cu⟩:=b.sum (f3.up (show 1848<=1852 by decide)) (by decide)
  have p0:=Int.le_of_lt (p2 1074)
  rw [e0] at au
  have au:=(((au.scale p0).scale p0).scale p0).scale p0
  have bu:=(((bu.scale p0).scale p0).scale p0).scale p0
  have cu:=(((cu.scale p0).scale p0).scale p0).scale p0
  rw [Int.mul_add,Int.mul_add,Int.mul_add,Int.mul_add] at au bu cu
  have z2':Sz 1152921504606848006 _ _:=⟨z2.q,z2.s,Int.le_trans z2.l (Int.mul_le_mul_of_nonneg_right (by decide) z2.s)⟩
  have z3':Sz 1152921504606848135 _ _:=⟨z3.q,z3.s,Int.le_trans z3.l (Int.mul_le_mul_of_nonneg_right (by decide) z3.s)⟩
  exact ⟨c,sz_add (sz_add (sz_add z0 z1 au (G:=1152921504606848006) (by decide) (by decide)) z2' bu (G:=1152921504606848135) (by decide) (by decide)) z3' cu (by decide) (by decide)⟩
theorem fD_dv {X u:Nat->Nat->Int} (h:∀ p,p<4->Lg X u p) :
    Fx 64 1852 (fD u)∧∃ Z,Un Z (2^1074*(2^1074*(2^1074*(2^1074*iV (fD u)))))∧Dv 17293822569102718375 1152921504606848006 (sX X) Z ((lQ u 3*dQ u 0 1 2+lQ u 2*dQ u 3 0 1)+(lQ u 1*dQ u 2 3 0+lQ u 0*dQ u 1 2 3)):=by
  have l0:=h 0 (by decide)
  have l1:=h 1 (by decide)
  have l2:=h 2 (by decide)
  have l3:=h 3 (by decide)
  obtain ⟨f0,d0⟩:=tt_dv l0 l1 l2 l3
  obtain ⟨f1,d1⟩:=tt_dv l1 l2 l3 l0
  obtain ⟨f2,d2⟩:=tt_dv l2 l3 l0 l1
  obtain ⟨f3,d3⟩:=tt_dv l3 l0 l1 l2
  obtain ⟨n2,e2⟩:=f2.neg
  obtain ⟨n0,e0⟩:=f0.neg
  obtain ⟨a,au⟩:=f3.sum n2 (by decide)
  obtain ⟨b,bu⟩:=f1.sum n0 (by decide)
  obtain ⟨c,cu⟩:=a.sum b (by decide)
  rw [e2,<- Int.sub_eq_add_neg] at au
  rw [e0,<- Int.sub_eq_add_neg] at bu
  have p0:=Int.le_of_lt (p2 1074)
  have au:=(((au.scale p0).scale p0).scale p0).scale p0
  have bu:=(((bu.scale p0).scale p0).scale p0).scale p0
  have cu:=(((cu.scale p0).scale p0).scale p0).scale p0
  rw [Int.mul_sub,Int.mul_sub,Int.mul_sub,Int.mul_sub] at au bu
  rw [Int.mul_add,Int.mul_add,Int.mul_add,Int.mul_add] at cu
  exact ⟨c,_,cu,dv_sum0 (dv_sub d3 d2 au (by decide) (by decide)) (dv_sub d1 d0 bu (by decide) (by decide))⟩
theorem sphere_sign {X u:Nat->Nat->Int} (h:∀ p,p<4->Lg X u p) (hb:iV (fprod sB (fS u))<((iV (fD u)).natAbs:Int)) :
    (0<sX X ↔ 0<iV (fD u))∧(sX X<0 ↔ iV (fD u)<0):=by
  obtain ⟨fd,Z,uZ,dv⟩:=fD_dv h
  obtain ⟨fs,hs⟩:=fS_sz h
  have eQ:lQ u 0*dQ u 1 2 3+lQ u 1*dQ u 2 3 0+lQ u 2*dQ u 3 0 1+lQ u 3*dQ u 0 1 2=(lQ u 3*dQ u 0 1 2+lQ u 2*dQ u 3 0 1)+(lQ u 1*dQ u 2 3 0+lQ u 0*dQ u 1 2 3):=by
    generalize lQ u 0*dQ u 1 2 3=x0
    generalize lQ u 1*dQ u 2 3 0=x1
    generalize lQ u 2*dQ u 3 0 1=x2
    generalize lQ u 3*dQ u 0 1 2=x3
    omega
  rw [eQ] at hs
  have p0:=Int.le_of_lt (p2 1074)
  have s0:0<=iV (fS u):=by
    have:=hs.s
    have q:∀ x:Int,0<=2^1074*x->0<=x:=fun x hx=>Int.nonneg_of_mul_nonneg_right hx (p2 1074)
    exact q _ (q _ (q _ (q _ this)))
  obtain ⟨_,_,T,hT,uT⟩:=fx_m49'.prod fs (by decide) (by decide) (by decide)
  have hT':9007199254740992*T=16*iV (fS u):=by
    rw [iV_m49,show (1125899906842624:Int)*2^975=2^1025 by rw [show (1125899906842624:Int)=2^50 by rfl,<- Int.pow_add],show (2:Int)^1074=2^1025*2^49 by rw [<- Int.pow_add],Int.mul_assoc] at hT
    have:=Int.eq_of_mul_eq_mul_left (Int.ne_of_gt (p2 1025)) hT
    rw [show (2:Int)^49=562949953421312 by rfl] at this
    omega
  have b1:=Int.le_of_eq hT'.symm
  have b2:16*(2^1074*(2^1074*(2^1074*(2^1074*iV (fS u)))))<=9007199254740992*(2^1074*(2^1074*(2^1074*(2^1074*T)))):=by
    have:=Int.mul_le_mul_of_nonneg_left (Int.mul_le_mul_of_nonneg_left (Int.mul_le_mul_of_nonneg_left (Int.mul_le_mul_of_nonneg_left b1 p0) p0) p0) p0
    have e:∀ m x:Int,(2:Int)^1074*(2^1074*(2^1074*(2^1074*(m*x))))=m*(2^1074*(2^1074*(2^1074*(2^1074*x)))):=fun m x=>by
      generalize (2:Int)^1074=c
      grind
    rwa [e,e] at this
  have t0:0<=2^1074*(2^1074*(2^1074*(2^1074*T))):=Int.mul_nonneg p0 (Int.mul_nonneg p0 (Int.mul_nonneg p0 (Int.mul_nonneg p0 (by omega))))
  have h':2^1074*(2^1074*(2^1074*(2^1074*iV (fprod m49 (fS u)))))<(((2^1074*(2^1074*(2^1074*(2^1074*iV (fD u)))):Int)).natAbs:Int):=by
    rw [sc_abs p0,sc_abs p0,sc_abs p0,sc_abs p0]
    exact Int.mul_lt_mul_of_pos_left (Int.mul_lt_mul_of_pos_left (Int.mul_lt_mul_of_pos_left (Int.mul_lt_mul_of_pos_left (Int.lt_of_le_of_lt (bd_low (by decide) fs s0) hb) (p2 1074)) (p2 1074)) (p2 1074)) (p2 1074)
  obtain ⟨r1,r2⟩:=dv_sign dv uZ hs b2 ((((uT.scale p0).scale p0).scale p0).scale p0) h' t0 (by decide) (by decide) (by decide)
  have g:∀ x:Int,(0<2^1074*x ↔ 0<x)∧(2^1074*x<0 ↔ x<0):=fun x=>sc_sgn (p2 1074)
  exact ⟨r1.trans ((g _).1.trans ((g _).1.trans ((g _).1.trans (g _).1))),r2.trans ((g _).2.trans ((g _).2.trans ((g _).2.trans (g _).2)))⟩
end Go.Proofs.YtobofhgpidbpmaaDoor
