/- Parts of the proof. -/
import Derived.Test.YtkajoieoggajiaaDoorPart3
import Derived.Laws.MakeOwn
import Derived.Maps.AppendAt
import Ieee.Arith
import GoSem.Core.Float
import Derived.WideLaws
set_option linter.unusedVariables false
set_option linter.unusedSimpArgs false
namespace Go.Proofs.YtkajoieoggajiaaDoor
open Go Go.RowKit Go.Proofs.YtkajoieoggajiaaDoor.M
theorem allOk_out {r:Nat->NumR} {n:Nat} (h:allOk r n=true):∀ i,i < n->okR (r i)=true:=of_decide_eq_true h
set_option maxRecDepth 100000 in
set_option maxHeartbeats 1000000 in
theorem sum1_any (ao:Option Addr) (n cap:Nat) (r:Nat->NumR) (p:Addr) (w:World) (c:w.cell? p=some (.slice ao n cap)) (h:Nums w ao n cap r) (hs:∀ i,i < n->Sane (r i)) (hn:n <= 100000) (hT:Tab w) :
    Calls Tryd.prog 42 #[.pointer (some p)] w (DOut w (sumV r n)):=by
  have hb:=bel_alloc w (.cells #[.bool false,.slice none 0 0,.int .i64 0] 30)
  have k0:=cell_keeps c hb
  go_enter Tryd.func42,Tryd.ntmps42
  go_wp2_with fail
  refine (total_any _ _ _ _ _ (h.keeps hb) hs hn (hT.keeps hb)).mono ?_
  rintro x w7 (⟨hok,v,rfl,hD⟩ | ⟨hno,rfl,hb7⟩)
  . have hb7:=hD.below
    obtain ⟨ng',s',m',e',rfl,hyy,hA2⟩:=id hD
    obtain ⟨so',sn',sc',rfl⟩:=hA2.num.shape
    have q0:=(hb7.block w.heap.size (by rw [size1]; omega)).trans (heap_a1 _ _)
    have x0:=blkC q0 0 rfl
    have x1:=blkC q0 1 rfl
    have x2:=blkC q0 2 rfl
    have z0:=blkF q0 0
    have z1:=blkF q0 1
    have z2:=blkF q0 2
    go_wp2
    refine bodyPost_ret (v:=.agg #[.bool ng',.slice so' sn' sc',.int .i64 e']) (by simp [results,Tryd.results42,go_sem,x0,x1,x2]) rfl ?_
    exact .inl ⟨hok,_,rfl,dans_res3 (g:=w.heap.size) hD hb (Nat.le_refl _) (by rw [size1]; omega) _ _ _⟩
  . exact ⟨rfl,.inr ⟨hno,rfl,bel_trans hb hb7⟩⟩
set_option maxRecDepth 100000 in
set_option maxHeartbeats 1000000 in
theorem dsum_ok (ao:Option Addr) (n cap:Nat) (r:Nat->NumR) (w:World) (h:Nums w ao n cap r) (ok:allOk r n=true) (hn:n <= 100000) (hT:Tab w) :
    Calls Tryd.prog 20 #[.slice ao n cap] w fun x w'=>∃ v er,x=.returned (.tuple #[v,.int .i64 er])∧DFit w w' (sumV r n) v er:=by
  have hmf:∀ (fn:Fn) (first cap:Array Value) (w:World),(Instr.makeFunc fn first cap).run Tryd.prog w=.ok (.func fn first cap) w:=fun _ _ _ _=>rfl
  have hE:∀ (cap:Array Value) (w:World),(callFunc 42 cap).run Tryd.prog w=.ok (.enter 42 cap) w:=by
    intro cap w
    simp [go_sem]
  have hs:∀ i,i < n->Sane (r i):=fun i hi=>okR_sane (allOk_out ok i hi)
  go_enter Tryd.func20,Tryd.ntmps20
  go_wp2_with fail
  refine (dvalids_any _ _ _ _ _ (h.keeps (bel_alloc2 _ _ _))).mono ?_
  rw [ok]
  rintro x w1 ⟨rfl,hb1⟩
  have hbw:=bel_trans (bel_alloc2 w _ _) hb1
  have g0:=(hb1.block w.heap.size (by rw [size2]; omega)).trans (heap_a2 _ _ _)
  have g1:=(hb1.block (w.heap.size + 1) (by rw [size2]; omega)).trans (heap_b2 _ _ _)
  have hs2:w.heap.size + 2 <= w1.heap.size:=by have:=hb1.size; rw [size2] at this; exact this
  go_wp2_with fail
  refine (told_any (V:=sumV r n) (hE _) (fun W hW=>sum1_any ao n cap r _ W (blkC ((hW.block _ (by omega)).trans g0) 0 rfl) (h.keeps (bel_trans hbw hW)) hs hn (hT.keeps (bel_trans hbw hW)))).mono ?_
  rintro x w2 ⟨v,er,rfl,hF⟩
  obtain ⟨ng',so,sn,sc,e',rfl⟩:=hF.shape
  have q0:=(hF.1.block (w.heap.size + 1) (by omega)).trans g1
  have x0:=blkC q0 0 rfl
  have x1:=blkC q0 1 rfl
  have x2:=blkC q0 2 rfl
  have z0:=blkF q0 0
  have z1:=blkF q0 1
  have z2:=blkF q0 2
  go_wp2
  refine bodyPost_ret (v:=.tuple #[.agg #[.bool ng',.slice so sn sc,.int .i64 e'],.int .i64 er]) (by simp [results,Tryd.results20,go_sem,x0,x1,x2]) rfl ⟨_,_,rfl,?_⟩
  exact dfit_res (g:=w.heap.size + 1) hF hbw (by omega) (by omega) _ _ _
def BlkN (w:World) (g N k:Nat) (q:Nat->NumR):Prop :=
  ∃ cur:Array Value,w.heap[g]?=some (.cells cur 30 (0,0))∧cur.size=N * 3∧∀ i,i < k->(cur[i * 3]?=some (.bool (q i).ng)∧cur[i * 3 + 1]?=some (.slice (q i).ao (q i).n (q i).cap)∧cur[i * 3 + 2]?=some (.int .i64 (q i).e))∧Row w (q i).ao (q i).n (q i).cap (q i).d
theorem info_num:∃ i,Tryd.prog.info? 30=some i∧i.zero=some (.agg #[.bool false,.slice none 0 0,.int .i64 0])∧i.size=3∧i.bytes=40:=by
  have h:(Tryd.prog.info? 30).map (fun i=>(i.zero,i.size,i.bytes))=some (some (.agg #[.bool false,.slice none 0 0,.int .i64 0]),3,40):=by kernel_rfl
  obtain ⟨i,hi,hzz⟩:=Option.map_eq_some_iff.1 h
  simp only [Prod.mk.injEq] at hzz
  exact ⟨i,hi,hzz⟩
theorem make_nums (n:Nat) (hn:n <= 100000) (w:World) :
    (Instr.makeSlice 54 (.int .i64 (n:Int)) (.int .i64 (n:Int))).run Tryd.prog w=.ok (.slice (some ⟨w.heap.size,0,none⟩) n n) (w.alloc (.cells (madeCells #[.bool false,.slice none 0 0,.int .i64 0] (n * 3)) 30)):=by
  obtain ⟨i,hi,hz,hs,hb⟩:=info_num
  have:=run_make (P:=Tryd.prog) w 54 30 i _ Tryd.underlying54 hi hz .i64 .i64 n n (by omega) (Int.le_refl _) (by rw [hb]; omega) (by omega)
  simp only [Int.toNat_natCast,hs] at this
  exact this
def updN (q:Nat->NumR) (k:Nat) (x:NumR):Nat->NumR:=fun j=>if j=k then x else q j
theorem updN_same (q:Nat->NumR) (k:Nat) (x:NumR):updN q k x k=x:=by simp [updN]
theorem updN_other (q:Nat->NumR) {k j:Nat} (x:NumR) (h:j ≠ k):updN q k x j=q j:=by simp [updN,h]
theorem keep3W {W w':World} {b g o0 o1 o2:Nat} {x y z:Value} (h:W.cell? ⟨b,o0,none⟩=some x∧W.cell? ⟨b,o1,none⟩=some y∧W.cell? ⟨b,o2,none⟩=some z) (hw:Wr g W w') (hg:b ≠ g) :
    w'.cell? ⟨b,o0,none⟩=some x∧w'.cell? ⟨b,o1,none⟩=some y∧w'.cell? ⟨b,o2,none⟩=some z :=
  ⟨(hw.cell (World.block_lt_of_cell? W _ h.1) hg).trans h.1,(hw.cell (World.block_lt_of_cell? W _ h.2.1) hg).trans h.2.1,(hw.cell (World.block_lt_of_cell? W _ h.2.2) hg).trans h.2.2⟩
theorem keep3B {W w':World} {b o0 o1 o2:Nat} {x y z:Value} (h:W.cell? ⟨b,o0,none⟩=some x∧W.cell? ⟨b,o1,none⟩=some y∧W.cell? ⟨b,o2,none⟩=some z) (hb:Below W.heap.size W w') :
    w'.cell? ⟨b,o0,none⟩=some x∧w'.cell? ⟨b,o1,none⟩=some y∧w'.cell? ⟨b,o2,none⟩=some z:=⟨cell_keeps h.1 hb,cell_keeps h.2.1 hb,cell_keeps h.2.2 hb⟩
theorem wr3 (W:World) (g o0 o1 o2:Nat) (x y z:Value):Wr g W (((W.setCell ⟨g,o0,none⟩ x).setCell ⟨g,o1,none⟩ y).setCell ⟨g,o2,none⟩ z):=(((Wr.refl g W).setCell o0 x).setCell o1 y).setCell o2 z
theorem Row.wrN {w w':World} {g:Nat} {ao:Option Addr} {n cap:Nat} {d:Nat->Int} (h:Row w ao n cap d) (hw:Wr g w w') {cur:Array Value} {z:Nat × Nat} (hg:w.heap[g]?=some (.cells cur 30 z)) (ht:∀ b off,ao=some ⟨b,off,none⟩->0 < n->b ≠ g):Row w' ao n cap d :=
  ⟨h.le,h.max,h.nl,fun hn=>by
    obtain ⟨b,off,rfl,hlt,hc⟩:=h.spot hn
    exact ⟨b,off,rfl,Nat.lt_of_lt_of_le hlt hw.size,fun i hi=>(hw.cell (p:=⟨b,off + i,none⟩) hlt (ht b off rfl hn)).trans (hc i hi)⟩⟩
theorem Ans.open {w w':World} {V:Int} {so:Option Addr} {sn sc:Nat} (h:Ans w w' V (.slice so sn sc)):∃ d,Row w' so sn sc d∧Nrm d sn∧val d sn=V∧∀ b off,so=some ⟨b,off,none⟩->w.heap.size <= b:=by
  obtain ⟨t,d,hO,hN,hV,_⟩:=h
  have hge:=own_ge hO
  obtain ⟨so',sc',e,hR⟩:=hO.row
  simp only [Value.slice.injEq] at e
  obtain ⟨rfl,rfl,rfl⟩:=e
  exact ⟨d,hR,hN,hV,fun b off hb=>hge b (by rw [hb]; rfl)⟩
theorem bel_set3' {w0 w:World} {g o0 o1 o2:Nat} (h:Below w0.heap.size w0 w) (hg:w0.heap.size <= g) (x y z:Value):Below w0.heap.size w0 (((w.setCell ⟨g,o0,none⟩ x).setCell ⟨g,o1,none⟩ y).setCell ⟨g,o2,none⟩ z):=((h.setCell (p:=⟨g,o0,none⟩) hg x).setCell (p:=⟨g,o1,none⟩) hg y).setCell (p:=⟨g,o2,none⟩) hg z
theorem set3_get {cur:Array Value} {k:Nat} {x y z:Value} (h:k * 3 + 2 < cur.size) (i:Nat) :
    let c:=((cur.setIfInBounds (k * 3) x).setIfInBounds (k * 3 + 1) y).setIfInBounds (k * 3 + 2) z
    (i=k->c[i * 3]?=some x∧c[i * 3 + 1]?=some y∧c[i * 3 + 2]?=some z)∧(i ≠ k->c[i * 3]?=cur[i * 3]?∧c[i * 3 + 1]?=cur[i * 3 + 1]?∧c[i * 3 + 2]?=cur[i * 3 + 2]?):=by
  intro c
  refine ⟨fun e=>?_,fun e=>?_⟩
  . subst e
    refine ⟨?_,?_,?_⟩
    . show (((cur.setIfInBounds (i * 3) x).setIfInBounds (i * 3 + 1) y).setIfInBounds (i * 3 + 2) z)[i * 3]?=some x
      rw [Array.getElem?_setIfInBounds_ne (by omega),Array.getElem?_setIfInBounds_ne (by omega),Array.getElem?_setIfInBounds_self_of_lt (by omega)]
    . show (((cur.setIfInBounds (i * 3) x).setIfInBounds (i * 3 + 1) y).setIfInBounds (i * 3 + 2) z)[i * 3 + 1]?=some y
      rw [Array.getElem?_setIfInBounds_ne (by omega),Array.getElem?_setIfInBounds_self_of_lt (by simp; omega)]
    . show (((cur.setIfInBounds (i * 3) x).setIfInBounds (i * 3 + 1) y).setIfInBounds (i * 3 + 2) z)[i * 3 + 2]?=some z
      rw [Array.getElem?_setIfInBounds_self_of_lt (by simp; omega)]
  . refine ⟨?_,?_,?_⟩
    all_goals
      show (((cur.setIfInBounds (k * 3) x).setIfInBounds (k * 3 + 1) y).setIfInBounds (k * 3 + 2) z)[_]?=_
      rw [Array.getElem?_setIfInBounds_ne (by omega),Array.getElem?_setIfInBounds_ne (by omega),Array.getElem?_setIfInBounds_ne (by omega)]
theorem BlkN.step {wr w3:World} {g N k:Nat} {q:Nat->NumR} (h:BlkN wr g N k q) (hb:Below wr.heap.size wr w3) (x:NumR) (hx:Row w3 x.ao x.n x.cap x.d) (hk:k < N) (hg:∀ i b' off,i < k->(q i).ao=some ⟨b',off,none⟩->0 < (q i).n->g < b') (hg2:∀ b' off,x.ao=some ⟨b',off,none⟩->0 < x.n->g < b') :
    BlkN (((w3.setCell ⟨g,k * 3,none⟩ (.bool x.ng)).setCell ⟨g,k * 3 + 1,none⟩ (.slice x.ao x.n x.cap)).setCell ⟨g,k * 3 + 2,none⟩ (.int .i64 x.e)) g N (k + 1) (updN q k x):=by
  obtain ⟨cur,hcur,hsz,hc⟩:=h
  have q0:=(hb.block g (Array.getElem?_eq_some_iff.1 hcur).1).trans hcur
  have q1:=heap_set (heap_set (heap_set q0 (k * 3) (.bool x.ng)) (k * 3 + 1) (.slice x.ao x.n x.cap)) (k * 3 + 2) (.int .i64 x.e)
  have hw:=wr3 w3 g (k * 3) (k * 3 + 1) (k * 3 + 2) (.bool x.ng) (.slice x.ao x.n x.cap) (.int .i64 x.e)
  refine ⟨_,q1,by simp [hsz],fun i hi=>?_⟩
  have hs:=set3_get (cur:=cur) (k:=k) (x:=.bool x.ng) (y:=.slice x.ao x.n x.cap) (z:=.int .i64 x.e) (by omega) i
  by_cases e:i=k
  . subst e
    rw [updN_same]
    exact ⟨hs.1 rfl,hx.wrN hw q0 fun b' off he hn=>by have:=hg2 b' off he hn; omega⟩
  . rw [updN_other q x e]
    obtain ⟨s0,s1,s2⟩:=hs.2 e
    obtain ⟨⟨c0,c1,c2⟩,hR⟩:=hc i (by omega)
    refine ⟨⟨s0.trans c0,s1.trans c1,s2.trans c2⟩,(hR.keeps hb).wrN hw q0 fun b' off he hn=>?_⟩
    have:=hg i b' off (by omega) he hn
    omega
theorem BlkN.nums {w:World} {g N:Nat} {q:Nat->NumR} (h:BlkN w g N N q) (hN:N <= 100000):Nums w (some ⟨g,0,none⟩) N N q:=by
  obtain ⟨cur,hcur,hsz,hc⟩:=h
  refine ⟨Nat.le_refl _,by omega,fun _=>⟨g,0,rfl,(Array.getElem?_eq_some_iff.1 hcur).1,fun i hi=>?_⟩⟩
  obtain ⟨⟨c0,c1,c2⟩,hR⟩:=hc i hi
  rw [Nat.zero_add]
  exact ⟨blkC hcur _ c0,blkC hcur _ c1,blkC hcur _ c2,hR⟩
set_option maxRecDepth 100000 in
set_option maxHeartbeats 2000000 in
theorem products_any (ao bo:Option Addr) (n ca cb:Nat) (a b:Nat->NumR) (w:World) (ha:Nums w ao n ca a) (hb:Nums w bo n cb b) (hn:n <= 100000) (sa:∀ i,i < n->Sane (a i)) (sb:∀ i,i < n->Sane (b i)) :
    Calls Tryd.prog 76 #[.slice ao n ca,.slice bo n cb] w fun x w'=>∃ g q,x=.returned (.slice (some ⟨g,0,none⟩) n n)∧w.heap.size <= g∧Nums w' (some ⟨g,0,none⟩) n n q∧Below w.heap.size w w'∧∀ i,i < n->Nrm (q i).d (q i).n∧(q i).ng=((a i).ng != (b i).ng)∧val (q i).d (q i).n=val (a i).d (a i).n * val (b i).d (b i).n∧(q i).e=(a i).e + (b i).e:=by
  have hla:=ha.le
  have hma:=ha.max
  have hlb:=hb.le
  have hmb:=hb.max
  have hmake:=make_nums n hn
  go_enter Tryd.func76,Tryd.ntmps76
  go_wp2_with fail
  have hb0:=bel_alloc w (.cells (madeCells #[.bool false,.slice none 0 0,.int .i64 0] (n * 3)) 30)
  have g0:=heap_a1 w (.cells (madeCells #[.bool false,.slice none 0 0,.int .i64 0] (n * 3)) 30)
  have HB0:Hid (BlkN (w.alloc (.cells (madeCells #[.bool false,.slice none 0 0,.int .i64 0] (n * 3)) 30)) w.heap.size n 0 a):=⟨_,g0,by rw [size_madeCells],fun i hi=>by omega⟩
  clear g0 hmake
  generalize w.alloc (.cells (madeCells #[.bool false,.slice none 0 0,.int .i64 0] (n * 3)) 30)=wx at hb0 HB0 ⊢
  go_loopw [12] (fun iv wr=>∃ (k:Nat) (q:Nat->NumR),k <= n∧iv=.int .i64 k∧Hid (BlkN wr w.heap.size n k q)∧Hid (∀ i,i < k->Nrm (q i).d (q i).n∧(q i).ng=((a i).ng != (b i).ng)∧val (q i).d (q i).n=val (a i).d (a i).n * val (b i).d (b i).n∧(q i).e=(a i).e + (b i).e)∧Hid (∀ i b' off,i < k->(q i).ao=some ⟨b',off,none⟩->0 < (q i).n->w.heap.size < b')∧Below w.heap.size w wr) (fun iv _=>n - (intOf iv).toNat)
  case atStart=>exact ⟨0,a,Nat.zero_le _,rfl,HB0,fun i hi=>by omega,fun i b' off hi=>by omega,hb0⟩
  case round=>
    obtain ⟨k,q,hk,rfl,HQ,HF,HG,hbw⟩:=hrel
    clear HB0 hb0
    by_cases hlt:k < n
    . obtain ⟨ba,oa,rfl,hba,hca⟩:=ha.spot (by omega)
      obtain ⟨bb,ob,rfl,hbb,hcb⟩:=hb.spot (by omega)
      obtain ⟨c0,c1,c2,ra⟩:=(hca k hlt).keeps hbw hba
      obtain ⟨d0,d1,d2,rb⟩:=(hcb k hlt).keeps hbw hbb
      have CP:=fun W (h:Below wr.heap.size wr W)=>dproduct_any (a k) (b k) W (ra.keeps h) (rb.keeps h) (sa k hlt) (sb k hlt)
      have hea:Hid (-1100000 <= (a k).e∧(a k).e <= 1100000):=(sa k hlt).2.2
      have heb:Hid (-1100000 <= (b k).e∧(b k).e <= 1100000):=(sb k hlt).2.2
      have HAK:Hid (∀ x,a k=x->a k=x):=fun _ h=>h
      clear hca hcb ra rb
      obtain ⟨xa,hxa⟩:∃ x,a k=x:=⟨_,rfl⟩
      obtain ⟨xb,hxb⟩:∃ x,b k=x:=⟨_,rfl⟩
      rw [hxa] at c0 c1 c2 CP hea
      rw [hxb] at d0 d1 d2 CP heb
      have HXA:Hid (a k=xa):=hxa
      have HXB:Hid (b k=xb):=hxb
      clear hxa hxb HAK
      unfold NumR.v at CP
      obtain ⟨ag,aao,an,aca,ad,ae⟩:=xa
      obtain ⟨bg,bao,bn,bca,bd,be⟩:=xb
      simp only at c0 c1 c2 d0 d1 d2 CP hea heb
      obtain ⟨cur,hcur,hsz,hcells⟩:=HQ.out
      have HCL:Hid _:=hcells
      have e0:k * 3 < cur.size:=by omega
      have e1:k * 3 + 1 < cur.size:=by omega
      have e2:k * 3 + 2 < cur.size:=by omega
      obtain ⟨v0,hv0⟩:∃ v,cur[k * 3]?=some v:=⟨_,Array.getElem?_eq_getElem e0⟩
      obtain ⟨v1,hv1⟩:∃ v,cur[k * 3 + 1]?=some v:=⟨_,Array.getElem?_eq_getElem e1⟩
      obtain ⟨v2,hv2⟩:∃ v,cur[k * 3 + 2]?=some v:=⟨_,Array.getElem?_eq_getElem e2⟩
      have HV:Hid (cur[k * 3]?=some v0∧cur[k * 3 + 1]?=some v1∧cur[k * 3 + 2]?=some v2):=⟨hv0,hv1,hv2⟩
      have HSZ:Hid (cur.size=n * 3):=hsz
      have HCUR:Hid (wr.heap[w.heap.size]?=some (.cells cur 30 (0,0))):=hcur
      have hgs:w.heap.size < wr.heap.size:=(Array.getElem?_eq_some_iff.1 hcur).1
      clear hcells hv0 hv1 hv2 hcur hsz e0 e1 e2
      have i0:(0:Int) <= (k:Int):=by omega
      have i1:(k:Int) < (n:Int):=by omega
      have kc0:(wr.drew.cell? ⟨ba,oa + k * 3,none⟩=some (.bool ag)∧wr.drew.cell? ⟨ba,oa + k * 3 + 1,none⟩=some (.slice aao an aca)∧wr.drew.cell? ⟨ba,oa + k * 3 + 2,none⟩=some (.int .i64 ae))∧wr.drew.cell? ⟨bb,ob + k * 3,none⟩=some (.bool bg)∧wr.drew.cell? ⟨bb,ob + k * 3 + 1,none⟩=some (.slice bao bn bca)∧wr.drew.cell? ⟨bb,ob + k * 3 + 2,none⟩=some (.int .i64 be):=⟨⟨c0,c1,c2⟩,d0,d1,d2⟩
      have hb1:=bel_refl wr
      go_wp2_with fail
      go_region_held3 (fun W=>(W.cell? ⟨ba,oa + k * 3,none⟩=some (.bool ag)∧W.cell? ⟨ba,oa + k * 3 + 1,none⟩=some (.slice aao an aca)∧W.cell? ⟨ba,oa + k * 3 + 2,none⟩=some (.int .i64 ae))∧W.cell? ⟨bb,ob + k * 3,none⟩=some (.bool bg)∧W.cell? ⟨bb,ob + k * 3 + 1,none⟩=some (.slice bao bn bca)∧W.cell? ⟨bb,ob + k * 3 + 2,none⟩=some (.int .i64 be))
        (first | assumption | exact ⟨keep3W kc1.1 (wr3 _ _ _ _ _ _ _ _) (by omega),keep3W kc1.2 (wr3 _ _ _ _ _ _ _ _) (by omega)⟩)
        ((go_at_call 93; refine (CP _ hb1.drew).mono ?_; rintro y w3 ⟨s,rfl,hA⟩; have hbv1:=hA.below; have kc1:=And.intro (keep3B kc0.1 hbv1) (keep3B kc0.2 hbv1); obtain ⟨so,sn,sc,rfl⟩:=hA.num.shape; have q0:=(hbv1.block w.heap.size hgs).trans HCUR.out; have x0:=blkC q0 (k * 3) HV.out.1; have x1:=blkC q0 (k * 3 + 1) HV.out.2.1; have x2:=blkC q0 (k * 3 + 2) HV.out.2.2; have z0:=blkF q0 (k * 3); have z1:=blkF q0 (k * 3 + 1); have z2:=blkF q0 (k * 3 + 2)))
      all_goals go_wp2
      all_goals
        go_roundw
        case rel=>
          obtain ⟨dd,hRd,hNd,hVd,hgd⟩:=hA.open
          have hgs2:∀ b' off,so=some ⟨b',off,none⟩->0 < sn->w.heap.size < b':=fun b' off he _=>by
            have h9:=hgd b' off he
            have h8:w.heap.size < wr.drew.heap.size:=hgs
            omega
          refine ⟨k + 1,updN q k ⟨ag != bg,so,sn,sc,dd,ae + be⟩,by omega,by go_num,BlkN.step (x:=⟨ag != bg,so,sn,sc,dd,ae + be⟩) HQ.out (bel_trans hb1.drew hbv1) hRd hlt HG.out hgs2,fun i hi=>?_,fun i b' off hi he hn'=>?_,bel_set3' (bel_trans hbw (bel_trans hb1.drew hbv1)) (Nat.le_refl _) _ _ _⟩
          . by_cases e:i=k
            . subst e
              rw [updN_same,HXA.out,HXB.out]
              exact ⟨hNd,rfl,hVd,rfl⟩
            . rw [updN_other _ _ e]
              exact HF.out i (by omega)
          . by_cases e:i=k
            . subst e
              rw [updN_same] at he hn'
              exact hgs2 b' off he hn'
            . rw [updN_other _ _ e] at he hn'
              exact HG.out i b' off (by omega) he hn'
        case measure=>simp [intOf]; omega
    . obtain rfl:k=n:=by omega
      go_wp2
      go_ret
      exact ⟨_,q,rfl,Nat.le_refl _,HQ.out.nums hn,hbw,HF.out⟩
def dotV (a b:Nat->NumR):Nat->Int | 0=>0 | k + 1=>dotV a b k + mulV (a k) (b k)
theorem sumV_dot {a b q:Nat->NumR}:∀ n,(∀ i,i < n->(q i).ng=((a i).ng != (b i).ng)∧val (q i).d (q i).n=val (a i).d (a i).n * val (b i).d (b i).n∧(q i).e=(a i).e + (b i).e)->sumV q n=dotV a b n
  | 0,_=>rfl
  | k + 1,h=>by
    obtain ⟨h1,h2,h3⟩:=h k (by omega)
    show sumV q k + sg (q k).ng (val (q k).d (q k).n) * pw (q k).e=dotV a b k + sg ((a k).ng != (b k).ng) (val (a k).d (a k).n * val (b k).d (b k).n) * pw ((a k).e + (b k).e)
    rw [sumV_dot k fun i hi=>h i (by omega),h1,h2,h3]
def Half (x:NumR):Prop:=-500000 <= x.e∧x.e <= 500000
theorem prod_sane {x y q:NumR} (ox:okR x=true) (oy:okR y=true) (hx:Half x) (hy:Half y) (h0:Nrm q.d q.n) (h2:val q.d q.n=val x.d x.n * val y.d y.n) (h3:q.e=x.e + y.e):Sane q:=by
  refine ⟨h0,?_,?_,?_⟩
  . have a:=(okR_dy ox).2.1
    have b:=(okR_dy oy).2.1
    have a0:=val_nonneg (okR_sane ox).1.1
    have b0:=val_nonneg (okR_sane oy).1.1
    by_cases hq:q.n <= 5000
    . exact hq
    . exfalso
      have c:=val_top h0.1 (by omega) h0.2
      have d:=P_le (show 4000 <= q.n - 1 by omega)
      have e:val x.d x.n * val y.d y.n < P 2000 * P 2000:=by
        by_cases hz:val x.d x.n=0
        . rw [hz,Int.zero_mul]; exact Int.mul_pos (P_pos _) (P_pos _)
        . exact Int.lt_of_lt_of_le (Int.mul_lt_mul_of_pos_left b (by omega)) (Int.mul_le_mul_of_nonneg_right (by omega) (Int.le_of_lt (P_pos _)))
      have f:P 2000 * P 2000=P 4000:=by rw [P_two 2000,P_two 4000,<- Int.pow_add,show 30 * 2000 + 30 * 2000=30 * 4000 from rfl]
      rw [f] at e
      rw [h2] at c
      generalize P 4000=Y at *
      omega
  . unfold Half at *; omega
  . unfold Half at *; omega
set_option maxRecDepth 100000 in
set_option maxHeartbeats 2000000 in
theorem dot1_any (ao bo:Option Addr) (n ca cb:Nat) (a b:Nat->NumR) (p p2:Addr) (w:World) (c:w.cell? p=some (.slice ao n ca)) (c2:w.cell? p2=some (.slice bo n cb)) (ha:Nums w ao n ca a) (hb:Nums w bo n cb b) (oa:∀ i,i < n->okR (a i)=true) (ob:∀ i,i < n->okR (b i)=true) (la:∀ i,i < n->Half (a i)) (lb:∀ i,i < n->Half (b i)) (hn:n <= 100000) (hT:Tab w) :
    Calls Tryd.prog 75 #[.pointer (some p),.pointer (some p2)] w (DOut w (dotV a b n)):=by
  have hbe:=bel_alloc w (.cells #[.bool false,.slice none 0 0,.int .i64 0] 30)
  have k0:=cell_keeps c hbe
  have k1:=cell_keeps c2 hbe
  have g0:=heap_a1 w (.cells #[.bool false,.slice none 0 0,.int .i64 0] 30)
  have CP:=products_any ao bo n ca cb a b _ (ha.keeps hbe) (hb.keeps hbe) hn (fun i hi=>okR_sane (oa i hi)) (fun i hi=>okR_sane (ob i hi))
  have hTx:=hT.keeps hbe
  have HSUM:Hid (∀ W g q,Nums W (some ⟨g,0,none⟩) n n q->(∀ i,i < n->Nrm (q i).d (q i).n∧(q i).ng=((a i).ng != (b i).ng)∧val (q i).d (q i).n=val (a i).d (a i).n * val (b i).d (b i).n∧(q i).e=(a i).e + (b i).e)->Tab W->Calls Tryd.prog 43 #[.slice (some ⟨g,0,none⟩) n n] W (DOut W (dotV a b n))):=fun W g q hN hF hTW=>by
    have:=total_any (some ⟨g,0,none⟩) n n q W hN (fun i hi=>prod_sane (oa i hi) (ob i hi) (la i hi) (lb i hi) (hF i hi).1 (hF i hi).2.2.1 (hF i hi).2.2.2) hn hTW
    rwa [sumV_dot n fun i hi=>(hF i hi).2] at this
  generalize dotV a b n=V at HSUM ⊢
  clear oa ob la lb ha hb
  go_enter Tryd.func75,Tryd.ntmps75
  go_wp2_with fail
  generalize w.alloc (.cells #[.bool false,.slice none 0 0,.int .i64 0] 30)=wx at *
  refine CP.mono ?_
  rintro x w1 ⟨g,q,rfl,hg,hN,hb1,hF⟩
  have HF:Hid _:=hF
  clear hF
  go_wp2_with fail
  refine (HSUM.out _ _ _ hN HF.out (hTx.keeps hb1)).mono ?_
  rintro x w7 (⟨hok,v,rfl,hD⟩ | ⟨hno,rfl,hb7⟩)
  . have hb7:=hD.below
    obtain ⟨ng',s',m',e',rfl,hyy,hA2⟩:=id hD
    obtain ⟨so',sn',sc',rfl⟩:=hA2.num.shape
    have hlt:=(Array.getElem?_eq_some_iff.1 g0).1
    have q0:=((bel_trans hb1 hb7).block w.heap.size hlt).trans g0
    have x0:=blkC q0 0 rfl
    have x1:=blkC q0 1 rfl
    have x2:=blkC q0 2 rfl
    have z0:=blkF q0 0
    have z1:=blkF q0 1
    have z2:=blkF q0 2
    go_wp2
    refine bodyPost_ret (v:=.agg #[.bool ng',.slice so' sn' sc',.int .i64 e']) (by simp [results,Tryd.results75,go_sem,x0,x1,x2]) rfl ?_
    exact .inl ⟨hok,_,rfl,dans_res3 (g:=w.heap.size) hD (bel_trans hbe hb1) (Nat.le_refl _) (Nat.lt_of_lt_of_le hlt hb1.size) _ _ _⟩
  . exact ⟨rfl,.inr ⟨hno,rfl,bel_trans (bel_trans hbe hb1) hb7⟩⟩
set_option maxRecDepth 100000 in
set_option maxHeartbeats 2000000 in
theorem ddot_ok (ao bo:Option Addr) (n ca cb:Nat) (a b:Nat->NumR) (w:World) (ha:Nums w ao n ca a) (hb:Nums w bo n cb b) (oa:allOk a n=true) (ob:allOk b n=true) (la:∀ i,i < n->Half (a i)) (lb:∀ i,i < n->Half (b i)) (hn:n <= 100000) (hT:Tab w) :
    Calls Tryd.prog 49 #[.slice ao n ca,.slice bo n cb] w fun x w'=>∃ v er,x=.returned (.tuple #[v,.int .i64 er])∧DFit w w' (dotV a b n) v er:=by
  have hmf:∀ (fn:Fn) (first cap:Array Value) (w:World),(Instr.makeFunc fn first cap).run Tryd.prog w=.ok (.func fn first cap) w:=fun _ _ _ _=>rfl
  have hE:∀ (cap:Array Value) (w:World),(callFunc 75 cap).run Tryd.prog w=.ok (.enter 75 cap) w:=by
    intro cap w
    simp [go_sem]
  have hla:=ha.le
  have hma:=ha.max
  have hlb:=hb.le
  have hmb:=hb.max
  have CA:=fun W (h:Below w.heap.size w W)=>dvalids_any ao n ca a W (ha.keeps h)
  have CB:=fun W (h:Below w.heap.size w W)=>dvalids_any bo n cb b W (hb.keeps h)
  have CD:Hid (∀ W p p2,Below w.heap.size w W->W.cell? p=some (.slice ao n ca)->W.cell? p2=some (.slice bo n cb)->Calls Tryd.prog 75 #[.pointer (some p),.pointer (some p2)] W (DOut W (dotV a b n))):=fun W p p2 h c1 c2=>dot1_any ao bo n ca cb a b p p2 W c1 c2 (ha.keeps h) (hb.keeps h) (allOk_out oa) (allOk_out ob) la lb hn (hT.keeps h)
  generalize dotV a b n=V at CD ⊢
  rw [oa] at CA
  rw [ob] at CB
  clear ha hb oa ob la lb hT
  have hb3:=bel_a3 w (.cells #[.slice ao n ca] 54) (.cells #[.slice bo n cb] 54) (.cells #[.bool false,.slice none 0 0,.int .i64 0] 30)
  have g0:=h3_0 w (.cells #[.slice ao n ca] 54) (.cells #[.slice bo n cb] 54) (.cells #[.bool false,.slice none 0 0,.int .i64 0] 30)
  have g1:=h3_1 w (.cells #[.slice ao n ca] 54) (.cells #[.slice bo n cb] 54) (.cells #[.bool false,.slice none 0 0,.int .i64 0] 30)
  have g2:=h3_2 w (.cells #[.slice ao n ca] 54) (.cells #[.slice bo n cb] 54) (.cells #[.bool false,.slice none 0 0,.int .i64 0] 30)
  go_enter Tryd.func49,Tryd.ntmps49
  go_wp2_with fail
  generalize ((w.alloc (.cells #[.slice ao n ca] 54)).alloc (.cells #[.slice bo n cb] 54)).alloc (.cells #[.bool false,.slice none 0 0,.int .i64 0] 30)=wx at hb3 g0 g1 g2 ⊢
  refine (CA _ hb3).mono ?_
  rintro x w1 ⟨rfl,hb1⟩
  have hbw:=bel_trans hb3 hb1
  replace g0:=(hb1.block _ (Array.getElem?_eq_some_iff.1 g0).1).trans g0
  replace g1:=(hb1.block _ (Array.getElem?_eq_some_iff.1 g1).1).trans g1
  replace g2:=(hb1.block _ (Array.getElem?_eq_some_iff.1 g2).1).trans g2
  have k1:=blkC g1 0 rfl
  go_wp2_with fail
  clear k1
  refine (CB _ hbw).mono ?_
  rintro x w2 ⟨rfl,hb2⟩
  have hbw2:=bel_trans hbw hb2
  replace g0:=(hb2.block _ (Array.getElem?_eq_some_iff.1 g0).1).trans g0
  replace g1:=(hb2.block _ (Array.getElem?_eq_some_iff.1 g1).1).trans g1
  replace g2:=(hb2.block _ (Array.getElem?_eq_some_iff.1 g2).1).trans g2
  have hs3:=(Array.getElem?_eq_some_iff.1 g2).1
  go_wp2_with fail
  refine (told_any (V:=V) (hE _) (fun W hW=>CD.out W _ _ (bel_trans hbw2 hW) (blkC ((hW.block _ (by omega)).trans g0) 0 rfl) (blkC ((hW.block _ (by omega)).trans g1) 0 rfl))).mono ?_
  rintro x w3 ⟨v,er,rfl,hF⟩
  obtain ⟨ng',so,sn,sc,e',rfl⟩:=hF.shape
  have q0:=(hF.1.block (w.heap.size + 2) hs3).trans g2
  have x0:=blkC q0 0 rfl
  have x1:=blkC q0 1 rfl
  have x2:=blkC q0 2 rfl
  have z0:=blkF q0 0
  have z1:=blkF q0 1
  have z2:=blkF q0 2
  go_wp2
  refine bodyPost_ret (v:=.tuple #[.agg #[.bool ng',.slice so sn sc,.int .i64 e'],.int .i64 er]) (by simp [results,Tryd.results49,go_sem,x0,x1,x2]) rfl ⟨_,_,rfl,?_⟩
  exact dfit_res (g:=w.heap.size + 2) hF hbw2 (by omega) (by omega) _ _ _
def cells3 (f:Nat->Value):Nat->List Value
  | 0=>[]
  | m + 1=>cells3 f m ++ (f m).cells.toList
def Three (v:Value):Prop:=∃ ng so sn sc e,v=.agg #[.bool ng,.slice so sn sc,.int .i64 e]
theorem DAn.three {B:Nat} {w:World} {V:Int} {v:Value} (h:DAn B w V v):Three v:=by
  obtain ⟨ng,s,m,e,rfl,_,hA⟩:=h
  obtain ⟨so,sn,sc,rfl⟩:=hA.shape
  exact ⟨_,_,_,_,_,rfl⟩
theorem cells3_length {f:Nat->Value}:∀ m,(∀ i,i < m->Three (f i))->(cells3 f m).length=m * 3
  | 0,_=>rfl
  | m + 1,h=>by
    obtain ⟨ng,so,sn,sc,e,he⟩:=h m (by omega)
    rw [cells3,List.length_append,cells3_length m fun i hi=>h i (by omega),he]
    simp [Value.cells]
    omega
theorem cells3_congr {f f':Nat->Value}:∀ m,(∀ i,i < m->f i=f' i)->cells3 f m=cells3 f' m
  | 0,_=>rfl
  | m + 1,h=>by rw [cells3,cells3,cells3_congr m fun i hi=>h i (by omega),h m (by omega)]
theorem cells3_add (f:Nat->Value) (a:Nat):∀ b,cells3 f (a + b)=cells3 f a ++ cells3 (fun i=>f (a + i)) b
  | 0=>by simp [cells3]
  | b + 1=>by
    show cells3 f (a + b) ++ (f (a + b)).cells.toList=cells3 f a ++ (cells3 (fun i=>f (a + i)) b ++ (f (a + b)).cells.toList)
    rw [cells3_add f a b,List.append_assoc]
theorem cells3_at {f:Nat->Value}:∀ m,(∀ i,i < m->Three (f i))->∀ i j,i < m->j < 3->(cells3 f m)[i * 3 + j]?=(f i).cells[j]?
  | 0,_,i,j,hi,_=>by omega
  | m + 1,h,i,j,hi,hj=>by
    have hl:=cells3_length m fun i hi=>h i (by omega)
    rw [cells3]
    by_cases e:i=m
    . subst e
      rw [List.getElem?_append_right (by omega),hl,show i * 3 + j - i * 3=j by omega]
      simp
    . rw [List.getElem?_append_left (by omega)]
      exact cells3_at m (fun i hi=>h i (by omega)) i j (by omega) hj
def OutN (B:Nat) (w:World) (x:Value) (m:Nat) (f:Nat->Value):Prop:=w.ownsRow B 30 3 x m (cells3 f m)
theorem OutN.nil (B:Nat) (w:World) (f:Nat->Value):OutN B w (.slice none 0 0) 0 f:=⟨rfl,.inl ⟨rfl,rfl⟩⟩
theorem OutN.of_block {B:Nat} {w w':World} {x:Value} {m:Nat} {f:Nat->Value} (h:OutN B w x m f) (hb:∀ g,x.ownBlock=some g->w'.heap[g]?=w.heap[g]?):OutN B w' x m f:=by
  refine ⟨h.1,?_⟩
  rcases h.2 with hn | ⟨g,cap,cur,rfl,hbb,hg,rest⟩
  . exact .inl hn
  . exact .inr ⟨g,cap,cur,rfl,hbb,(hb g rfl).trans hg,rest⟩
theorem OutN.typed {B:Nat} {w:World} {x:Value} {m:Nat} {f:Nat->Value} (h:OutN B w x m f) {g:Nat} (hg:x.ownBlock=some g):B <= g∧g < w.heap.size∧∃ cur z,w.heap[g]?=some (.cells cur 30 z):=by
  rcases h.2 with ⟨rfl,_⟩ | ⟨g',cap,cur,rfl,hbb,hg',rest⟩
  . simp [Value.ownBlock] at hg
  . simp only [Value.ownBlock,Option.some.injEq] at hg; subst hg; exact ⟨hbb,(Array.getElem?_eq_some_iff.1 hg').1,cur,_,hg'⟩
theorem OutN.keeps {B:Nat} {w w':World} {x:Value} {m:Nat} {f:Nat->Value} (h:OutN B w x m f) (hb:Below w.heap.size w w'):OutN B w' x m f:=h.of_block fun g hg=>hb.block g (h.typed hg).2.1
theorem OutN.shape {B:Nat} {w:World} {x:Value} {m:Nat} {f:Nat->Value} (h:OutN B w x m f):∃ xo xc,x=.slice xo m xc∧m <= xc∧(0 < m->∃ g,xo=some ⟨g,0,none⟩):=by
  rcases h.2 with ⟨rfl,rfl⟩ | ⟨g,cap,cur,rfl,hb,hg,hn,hm,_⟩
  . exact ⟨none,0,rfl,Nat.le_refl _,fun h=>by omega⟩
  . exact ⟨_,cap,rfl,hn,fun _=>⟨g,rfl⟩⟩
theorem OutN.cell {B:Nat} {w:World} {xo:Option Addr} {m xc g:Nat} {f:Nat->Value} (h:OutN B w (.slice xo m xc) m f) (ht:∀ i,i < m->Three (f i)) (hx:xo=some ⟨g,0,none⟩) {i j:Nat} (hi:i < m) (hj:j < 3):w.cell? ⟨g,i * 3 + j,none⟩=(f i).cells[j]?:=by
  rcases h.2 with ⟨_,rfl⟩ | ⟨g',cap,cur,e,hb,hg,hn,hm,hs,ht'⟩
  . omega
  . simp only [Value.slice.injEq] at e
    obtain ⟨rfl,_,rfl⟩:=e
    simp only [Option.some.injEq,Addr.mk.injEq] at hx
    obtain ⟨rfl,_⟩:=hx
    rw [cell_of_row w g' (i * 3 + j) cur _ _ hg,<- cells3_at m ht i j hi hj,<- ht',List.getElem?_take_of_lt (by omega)]
    simp
theorem DAn.of_blocks {B:Nat} {w w':World} {V:Int} {v:Value} (h:DAn B w V v) (hb:∀ (g:Nat) (cur:Array Value) z,w.heap[g]?=some (.cells cur 3 z)->w'.heap[g]?=w.heap[g]?):DAn B w' V v:=by
  obtain ⟨ng,s,m,e,h1,h2,t,d,hO,h3⟩:=h
  exact ⟨ng,s,m,e,h1,h2,t,d,hO.of_block fun g hg=>by obtain ⟨cur,z,hc⟩:=hO.typed hg; exact hb g cur z hc,h3⟩
theorem grown_ints {w w':World} {row:Option Nat} (hg:w.grownBy w' row) (hr:∀ g,row=some g->∃ (cur:Array Value) (z:Nat × Nat),w.heap[g]?=some (Obj.cells cur 30 z)):∀ (g:Nat) (cur:Array Value) z,w.heap[g]?=some (.cells cur 3 z)->w'.heap[g]?=w.heap[g]?:=fun g cur z hc=>by
  refine hg.block g (Array.getElem?_eq_some_iff.1 hc).1 fun e=>?_
  obtain ⟨cur',z',hc'⟩:=hr g e.symm
  rw [hc] at hc'
  simp at hc'
theorem wpList_appN {w:World} {ops:Array Oper} {rest:List Oper} {o:Oper} {a:Act} {Q:Exit->Act->World->Prop} (hgd:o.guard=none) (s x:Operand)
    (ho:o.op=.call { callee:=.builtin .append,args:=#[s,x],argTypes:=#[54,54] }) (B:Nat) (v:Value) (m:Nat) (f:Nat->Value) (hs:a.eval s=v) (hO:OutN B w v m f)
    (g k cap:Nat) (f2:Nat->Value) (h3:∀ i,i < k->Three (f2 i)) (hx:a.eval x=.slice (some ⟨g,0,none⟩) k cap) (hy:∀ i j,i < k->j < 3->w.cell? ⟨g,i * 3 + j,none⟩=(f2 i).cells[j]?) (hlen:m + k <= 100000) (hB:B <= w.heap.size)
    (h:∀ v' w',OutN B w' v' (m + k) (fun i=>if i < m then f i else f2 (i - m))->w.grownBy w' v.ownBlock->(v'.ownBlock=v.ownBlock∨v'.ownBlock=some w.heap.size)->wpList Tryd.prog ops Q rest (a.put o.dst v') w'):wpList Tryd.prog ops Q (o :: rest) a w:=by
  obtain ⟨i0,hi,hz0,hz1,hz2⟩:=info_num
  refine wpList_append_own_at w hgd s x 54 ho B 30 i0 (.agg #[.bool false,.slice none 0 0,.int .i64 0]) 3 40 Tryd.underlying54 hi hz0 hz1 hz2 rfl (by decide) v m (cells3 f m) hs hO ⟨g,0,none⟩ k cap (cells3 f2 k) hx (cells3_length k h3) ?_ ?_ (by unfold maxLen; omega) (by omega) hB ?_
  . intro j u hu
    have hj:j < k * 3:=by have:=(List.getElem?_eq_some_iff.1 hu).1; rw [cells3_length k h3] at this; exact this
    rw [add_none,Nat.zero_add]
    have e:j=j / 3 * 3 + j % 3:=by omega
    have h1:=cells3_at k h3 (j / 3) (j % 3) (by omega) (by omega)
    have h2:=hy (j / 3) (j % 3) (by omega) (by omega)
    rw [<- e] at h1 h2
    rw [h2,<- h1,hu]
  . intro u hu
    obtain ⟨j,hj,hu2⟩:=List.mem_iff_getElem.1 hu
    have hj':j < k * 3:=by rw [cells3_length k h3] at hj; exact hj
    have e:j=j / 3 * 3 + j % 3:=by omega
    have h1:=cells3_at k h3 (j / 3) (j % 3) (by omega) (by omega)
    rw [<- e,List.getElem?_eq_getElem hj,hu2] at h1
    obtain ⟨ng,so,sn,sc,ee,he⟩:=h3 (j / 3) (by omega)
    rw [he] at h1
    have h5:j % 3=0∨j % 3=1∨j % 3=2:=by omega
    rcases h5 with h5 | h5 | h5 <;> rw [h5] at h1 <;> simp [Value.cells] at h1 <;> subst h1 <;> rfl
  . intro v' w' h1 h2 _ h4
    refine h v' w' ?_ h2 h4
    unfold OutN
    rw [cells3_add,cells3_congr (f:=fun i=>if i < m then f i else f2 (i - m)) (f':=f) m (fun i hi=>if_pos hi),cells3_congr (f:=fun i=>(fun i=>if i < m then f i else f2 (i - m)) (m + i)) (f':=f2) k (fun i hi=>by simp [show ¬ (m + i < m) by omega,show m + i - m=i by omega])]
    exact h1
theorem lit_cells {w:World} {g:Nat} {v:Value} {ng:Bool} {so:Option Addr} {sn sc:Nat} {e:Int} (hv:v=.agg #[.bool ng,.slice so sn sc,.int .i64 e]) (hg:w.heap[g]?=some (.cells #[.bool ng,.slice so sn sc,.int .i64 e] 30 (0,0))):∀ i j,i < 1->j < 3->w.cell? ⟨g,i * 3 + j,none⟩=((fun _=>v) i).cells[j]?:=fun i j hi hj=>by
  obtain rfl:i=0:=by omega
  rw [Nat.zero_mul,Nat.zero_add,hv]
  match j,hj with
  | 0,_=>exact blkC hg 0 rfl
  | 1,_=>exact blkC hg 1 rfl
  | 2,_=>exact blkC hg 2 rfl
structure LS (B:Nat) (w:World) (N:Nat) (X:Nat->Value) (M:Nat->Nat) (F:Nat->Nat->Value):Prop where
  own:∀ j,j < N->OutN B w (X j) (M j) (F j)
  ne:∀ i j,i < N->j < N->i ≠ j->∀ g,(X i).ownBlock=some g->(X j).ownBlock ≠ some g
theorem LS.keeps {B:Nat} {w w':World} {N:Nat} {X:Nat->Value} {M:Nat->Nat} {F:Nat->Nat->Value} (h:LS B w N X M F) (hb:Below w.heap.size w w'):LS B w' N X M F:=⟨fun j hj=>(h.own j hj).keeps hb,h.ne⟩
theorem LS.put {B:Nat} {w w':World} {N:Nat} {X:Nat->Value} {M:Nat->Nat} {F:Nat->Nat->Value} (h:LS B w N X M F) (j0:Nat) {row:Option Nat} (hg:w.grownBy w' row) {v':Value} {M':Nat} {F':Nat->Value} (hO:OutN B w' v' M' F') (h1:∀ j,j < N->j ≠ j0->∀ g,(X j).ownBlock=some g->row ≠ some g) (h2:∀ j,j < N->j ≠ j0->∀ g,(X j).ownBlock=some g->v'.ownBlock ≠ some g) :
    LS B w' N (updV X j0 v') (updV M j0 M') (updV F j0 F'):=by
  refine ⟨fun j hj=>?_,fun i j hi hj hij g hgi=>?_⟩
  . by_cases e:j=j0
    . subst e; rw [updV_same,updV_same,updV_same]; exact hO
    . rw [updV_other _ _ e,updV_other _ _ e,updV_other _ _ e]
      exact (h.own j hj).of_block fun g hgx=>hg.block g ((h.own j hj).typed hgx).2.1 fun e'=>h1 j hj e g hgx e'.symm
  . by_cases e:i=j0
    . subst e
      rw [updV_same] at hgi
      rw [updV_other _ _ (Ne.symm hij)]
      exact fun hgj=>h2 j hj (Ne.symm hij) g hgj hgi
    . rw [updV_other _ _ e] at hgi
      by_cases e2:j=j0
      . subst e2
        rw [updV_same]
        exact h2 i hi e g hgi
      . rw [updV_other _ _ e2]
        exact h.ne i j hi hj hij g hgi
theorem LS.app {B:Nat} {w w':World} {N:Nat} {X:Nat->Value} {M:Nat->Nat} {F:Nat->Nat->Value} (h:LS B w N X M F) (j0:Nat) (hj0:j0 < N) (hg:w.grownBy w' (X j0).ownBlock) {v':Value} {M':Nat} {F':Nat->Value} (hO:OutN B w' v' M' F') (hv:v'.ownBlock=(X j0).ownBlock∨v'.ownBlock=some w.heap.size) :
    LS B w' N (updV X j0 v') (updV M j0 M') (updV F j0 F'):=by
  refine h.put j0 hg hO (fun j hj hne g hgj e=>?_) (fun j hj hne g hgj e=>?_)
  . exact h.ne j j0 hj hj0 hne g hgj e
  . rcases hv with hv | hv
    . rw [hv] at e; exact h.ne j j0 hj hj0 hne g hgj e
    . rw [hv] at e
      have:=((h.own j hj).typed hgj).2.1
      simp only [Option.some.injEq] at e
      omega
theorem LS.row {B:Nat} {w:World} {N:Nat} {X:Nat->Value} {M:Nat->Nat} {F:Nat->Nat->Value} (h:LS B w N X M F) {j:Nat} (hj:j < N):∀ g,(X j).ownBlock=some g->∃ (cur:Array Value) (z:Nat × Nat),w.heap[g]?=some (Obj.cells cur 30 z):=fun g hg=>(((h.own j hj).typed hg).2.2)
theorem LS.ge {B:Nat} {w:World} {N:Nat} {X:Nat->Value} {M:Nat->Nat} {F:Nat->Nat->Value} (h:LS B w N X M F) {j:Nat} (hj:j < N):∀ g,(X j).ownBlock=some g->B <= g:=fun g hg=>((h.own j hj).typed hg).1
theorem OutN.nums {B:Nat} {w:World} {xo:Option Addr} {m xc:Nat} {f:Nat->Value} {r:Nat->NumR} (h:OutN B w (.slice xo m xc) m f) (hm:m <= 100000) (hr:∀ i,i < m->f i=(r i).v∧Row w (r i).ao (r i).n (r i).cap (r i).d):∃ c2,xc=c2∧Nums w xo m xc r:=by
  have ht:∀ i,i < m->Three (f i):=fun i hi=>⟨_,_,_,_,_,(hr i hi).1⟩
  refine ⟨xc,rfl,?_⟩
  obtain ⟨xo',xc',e,hle,hsp⟩:=h.shape
  simp only [Value.slice.injEq] at e
  obtain ⟨rfl,_,rfl⟩:=e
  refine ⟨hle,?_,fun hm0=>?_⟩
  . rcases h.2 with ⟨e,_⟩ | ⟨g,cap,cur,e,hb,hg,hn,hmx,hs,_⟩
    . simp only [Value.slice.injEq] at e; omega
    . simp only [Value.slice.injEq] at e
      obtain ⟨_,_,rfl⟩:=e
      unfold maxLen at hmx
      omega
  . obtain ⟨g,rfl⟩:=hsp hm0
    have hlt:g < w.heap.size:=(h.typed (g:=g) rfl).2.1
    refine ⟨g,0,rfl,hlt,fun i hi=>?_⟩
    obtain ⟨h1,h2⟩:=hr i hi
    have c:=fun j (hj:j < 3)=>h.cell ht rfl hi (j:=j) hj
    rw [h1] at c
    rw [Nat.zero_add]
    exact ⟨c 0 (by decide),c 1 (by decide),c 2 (by decide),h2⟩
theorem bd_form {K:Nat} {A:Int} {ng:Bool} {m e:Int} (h:Bd K A) (hy:Dy A ng m e) (hK:K <= 4194304) (h0:0 < m):-(K:Int) <= e∧e <= K∧m * 2 ^ (e + K).toNat < 2 ^ (2 * K):=by
  obtain ⟨c,hc,c1,c2⟩:=h
  have key:∀ (b:Bool) (C:Int),0 < C->C < 2 ^ (2 * K)->A=sg b C * pw (-(K:Int))->-(K:Int) <= e∧e <= K∧m * 2 ^ (e + K).toNat < 2 ^ (2 * K):=fun b C hC hlt hA=>by
    obtain ⟨l,hl⟩:=isLow_ex hC
    have hy2:=Dy.of b hl hC (show -4194304 <= -(K:Int) by omega)
    rw [<- hA] at hy2
    obtain ⟨_,rfl,rfl⟩:=hy.unique hy2
    obtain ⟨d1,d2,d3⟩:=isLow_odd hl hC
    have hl2:l < 2 * K:=by
      have h3:(1:Int) * 2 ^ l <= C / 2 ^ l * 2 ^ l:=Int.mul_le_mul_of_nonneg_right (by omega) (Int.le_of_lt (two_pos l))
      rw [d3] at h3
      exact two_lt_iff (by omega)
    refine ⟨by omega,by omega,?_⟩
    rw [show (-(K:Int) + l + K).toNat=l by omega,d3]
    exact hlt
  by_cases hz:c=0
  . exfalso
    rw [hz,Int.zero_mul] at hc
    have:=hy.eq_zero.1 hc
    omega
  . by_cases hp:0 < c
    . exact key false c hp c2 (by simpa [sg] using hc)
    . exact key true (-c) (by omega) (by omega) (by simpa [sg] using hc)
def RSum (w w':World) (A B:Int) (x y v:Value):Prop:=Below w.heap.size w w'∧(DAns w w' (A + B) v∨(A=0∧v=y)∨(B=0∧v=x))
theorem RSum.num {w w':World} {A B:Int} {x y v:Value} (h:RSum w w' A B x y v) (hx:DNum w x A) (hy:DNum w y B):DNum w' v (A + B):=by
  rcases h.2 with h1 | ⟨rfl,rfl⟩ | ⟨rfl,rfl⟩
  . exact h1.num
  . rw [Int.zero_add]; exact hy.keeps h.1
  . rw [Int.add_zero]; exact hx.keeps h.1
theorem Num.digits {w:World} {so:Option Addr} {sn sc:Nat} {M:Int} (h:Num w (.slice so sn sc) M) {K:Nat} (hK:K <= 560000) (hM:M < 2 ^ (2 * K) + 2 ^ (2 * K)):∃ d,Row w so sn sc d∧Nrm d sn∧val d sn=M∧sn <= 37500:=by
  obtain ⟨ao,n,ca,d,e,hR,hN,hv⟩:=h
  simp only [Value.slice.injEq] at e
  obtain ⟨rfl,rfl,rfl⟩:=e
  refine ⟨d,hR,hN,hv,?_⟩
  by_cases h1:sn <= 37500
  . exact h1
  . exfalso
    have a:=val_top hN.1 (by omega) hN.2
    have b:=P_le (show 37500 <= sn - 1 by omega)
    have c:(2:Int) ^ (2 * K) <= 2 ^ (30 * 37400):=two_le (by omega)
    have c2:(2:Int) ^ (30 * 37400) * 2 <= 2 ^ (30 * 37500):=by
      rw [<- Int.pow_succ]
      exact two_le (by omega)
    rw [<- P_two 37500] at c2
    generalize P 37500=Y at *
    generalize (2:Int) ^ (30 * 37400)=Z at *
    omega
def sumF (V:Nat->Int):Nat->Int | 0=>0 | m + 1=>sumF V m + V m
theorem sumF_congr {V W:Nat->Int}:∀ m,(∀ i,i < m->V i=W i)->sumF V m=sumF W m
  | 0,_=>rfl
  | m + 1,h=>by rw [sumF,sumF,sumF_congr m fun i hi=>h i (by omega),h m (by omega)]
theorem bd_zero (K:Nat):Bd K 0:=⟨0,by rw [Int.zero_mul],by have:=two_pos (2 * K); omega,by have:=two_pos (2 * K); omega⟩
theorem bd_sumF {V:Nat->Int} {K:Nat} (hK:K <= 20000):∀ m,m <= 1000->(∀ i,i < m->Bd K (V i))->Bd (K + m) (sumF V m)
  | 0,_,_=>bd_zero _
  | m + 1,hm,h=>(bd_sumF hK m (by omega) fun i hi=>h i (by omega)).add ((h m (by omega)).up (by omega) (by omega)) (by omega)
theorem pw_zero:pw 0=2 ^ 4194304:=by unfold pw; congr 1
theorem own_nums {B:Nat} {w:World} {x:Value} {m K:Nat} {f:Nat->Value} {V:Nat->Int} (h:OutN B w x m f) (hv:∀ i,i < m->DNum w (f i) (V i)∧Bd K (V i)) (hm:m <= 1000) (hK:K <= 20000) :
    ∃ xo xc r,x=.slice xo m xc∧Nums w xo m xc r∧allOk r m=true∧(∀ i,i < m->(r i).V=V i∧Half (r i)∧okR (r i)=true):=by
  have hx:∀ i,i < m->∃ y:NumR,f i=y.v∧Row w y.ao y.n y.cap y.d∧okR y=true∧y.V=V i:=fun i hi=>(hv i hi).1.open ((hv i hi).2.ok (by omega))
  obtain ⟨xo,xc,rfl,hle,hsp⟩:=h.shape
  have hr:∀ i,i < m->f i=(if hi:i < m then Classical.choose (hx i hi) else default:NumR).v∧Row w (if hi:i < m then Classical.choose (hx i hi) else default:NumR).ao (if hi:i < m then Classical.choose (hx i hi) else default:NumR).n (if hi:i < m then Classical.choose (hx i hi) else default:NumR).cap (if hi:i < m then Classical.choose (hx i hi) else default:NumR).d∧okR (if hi:i < m then Classical.choose (hx i hi) else default:NumR)=true∧(if hi:i < m then Classical.choose (hx i hi) else default:NumR).V=V i:=fun i hi=>by
    rw [dif_pos hi]
    exact Classical.choose_spec (hx i hi)
  generalize hrr:(fun i=>(if hi:i < m then Classical.choose (hx i hi) else default:NumR))=r
  have hr2:∀ i,i < m->f i=(r i).v∧Row w (r i).ao (r i).n (r i).cap (r i).d∧okR (r i)=true∧(r i).V=V i:=fun i hi=>by rw [<- hrr]; exact hr i hi
  obtain ⟨_,_,hN⟩:=h.nums (r:=r) (by omega) fun i hi=>⟨(hr2 i hi).1,(hr2 i hi).2.1⟩
  refine ⟨xo,xc,r,rfl,hN,decide_eq_true fun i hi=>(hr2 i hi).2.2.1,fun i hi=>⟨(hr2 i hi).2.2.2,?_,(hr2 i hi).2.2.1⟩⟩
  obtain ⟨_,_,h3,h4⟩:=hr2 i hi
  have hy:=(okR_dy h3).1
  unfold Half
  rcases hy.form with ⟨_,_,h0⟩ | ⟨h0,_⟩
  . omega
  . rw [h4] at hy
    have:=bd_form (hv i hi).2 hy (by omega) h0
    omega
theorem sumV_F {r:Nat->NumR} {V:Nat->Int}:∀ m,(∀ i,i < m->(r i).V=V i)->sumV r m=sumF V m
  | 0,_=>rfl
  | m + 1,h=>by
    show sumV r m + (r m).V=sumF V m + V m
    rw [sumV_F m fun i hi=>h i (by omega),h m (by omega)]
theorem dotV_F {a b:Nat->NumR} {V W:Nat->Int}:∀ m,(∀ i,i < m->(a i).V=V i∧Half (a i))->(∀ i,i < m->(b i).V=W i∧Half (b i))->dotV a b m * 2 ^ 4194304=sumF (fun i=>V i * W i) m
  | 0,_,_=>by show 0 * _=(0:Int); rw [Int.zero_mul]
  | m + 1,h,k=>by
    have h1:=h m (by omega)
    have k1:=k m (by omega)
    unfold Half at h1 k1
    show (dotV a b m + mulV (a m) (b m)) * 2 ^ 4194304=sumF (fun i=>V i * W i) m + V m * W m
    rw [Int.add_mul,dotV_F m (fun i hi=>h i (by omega)) (fun i hi=>k i (by omega)),mulV_eq (by omega) (by omega),h1.1,k1.1]
theorem sum_own {B:Nat} {w:World} {x:Value} {m K:Nat} {f:Nat->Value} {V:Nat->Int} (h:OutN B w x m f) (hv:∀ i,i < m->DNum w (f i) (V i)∧Bd K (V i)) (hm:m <= 1000) (hK:K <= 20000) (hT:Tab w) :
    Calls Tryd.prog 20 #[x] w fun r w'=>∃ v,r=.returned (.tuple #[v,.int .i64 0])∧DAns w w' (sumF V m) v:=by
  obtain ⟨xo,xc,r,rfl,hN,hA,hr⟩:=own_nums h hv hm hK
  refine (dsum_ok xo m xc r w hN hA (by omega) hT).mono ?_
  rw [sumV_F m fun i hi=>(hr i hi).1]
  rintro y w' ⟨v,er,rfl,hF⟩
  obtain ⟨rfl,hD⟩:=hF.yes ((bd_sumF hK m hm fun i hi=>(hv i hi).2).ok (by omega))
  exact ⟨v,rfl,hD⟩
end Go.Proofs.YtkajoieoggajiaaDoor
namespace Go.Proofs.YtkajoieoggajiaaDoor.M
open Go Ieee
def V (f:Format) (r:Nat):Nat:=if r < f.binade then r else (f.binade + r % f.binade) * 2 ^ (r / f.binade - 1)
theorem binade_pos (f:Format):0 < f.binade:=Nat.two_pow_pos _
theorem V_succ (f:Format) (r:Nat):V f r < V f (r + 1):=by
  have hB:=binade_pos f
  unfold V
  generalize hBd:f.binade=B at *
  clear hBd
  by_cases h1:r + 1 < B
  . rw [if_pos (by omega),if_pos h1]; omega
  . rw [if_neg h1]
    by_cases h2:r < B
    . have:r + 1=B:=by omega
      rw [if_pos h2,this,Nat.mod_self,Nat.div_self hB]; simp; omega
    . rw [if_neg h2]
      have hq:1 <= r / B:=(Nat.one_le_div_iff hB).2 (by omega)
      have hd:=Nat.div_add_mod r B
      have hm:=Nat.mod_lt r hB
      have hp:0 < 2 ^ (r / B - 1):=Nat.two_pow_pos _
      by_cases h3:r % B + 1 < B
      . have e1:(r + 1) % B=r % B + 1:=by
          rw [Nat.add_mod,Nat.mod_eq_of_lt (show 1 < B by omega)]; exact Nat.mod_eq_of_lt h3
        have e2:(r + 1) / B=r / B:=by
          have:=Nat.div_add_mod (r + 1) B
          rw [e1] at this
          have h4:B * ((r + 1) / B)=B * (r / B):=by omega
          exact Nat.eq_of_mul_eq_mul_left hB h4
        rw [e1,e2]
        exact Nat.mul_lt_mul_of_pos_right (by omega) hp
      . have h4:r % B + 1=B:=by omega
        have e0:r + 1=B * (r / B + 1):=by rw [Nat.mul_add,Nat.mul_one]; omega
        have e1:(r + 1) % B=0:=by rw [e0]; exact Nat.mul_mod_right _ _
        have e2:(r + 1) / B=r / B + 1:=by rw [e0]; exact Nat.mul_div_cancel_left _ hB
        rw [e1,e2]
        have e3:2 ^ (r / B + 1 - 1)=2 * 2 ^ (r / B - 1):=by
          rw [show r / B + 1 - 1=(r / B - 1) + 1 by omega,Nat.pow_succ,Nat.mul_comm]
        rw [e3,Nat.add_zero,<- Nat.mul_assoc]
        exact Nat.mul_lt_mul_of_pos_right (by omega) hp
theorem V_lt (f:Format) {r s:Nat} (h:r < s):V f r < V f s:=by
  induction s with
  | zero=>omega
  | succ s ih=>
    rcases Nat.lt_or_ge r s with h1 | h1
    . exact Nat.lt_trans (ih h1) (V_succ f s)
    . have:r=s:=by omega
      subst this
      exact V_succ f r
theorem V_lt_iff (f:Format) (r s:Nat):V f r < V f s ↔ r < s:=by
  constructor
  . intro h
    rcases Nat.lt_trichotomy r s with h1 | h1 | h1
    . exact h1
    . subst h1; omega
    . have:=V_lt f h1; omega
  . exact V_lt f
theorem V_zero (f:Format):V f 0=0:=by unfold V; rw [if_pos (binade_pos f)]
theorem read_finite (f:Format) (x:Nat) (h:x % f.signWeight < f.infRung) :
    ∃ m u:Nat,f.read x=.number (x / f.signWeight % 2 == 1) m (f.leastPlace + u)∧m * 2 ^ u=V f (x % f.signWeight):=by
  unfold Format.read V
  dsimp only
  by_cases h1:x % f.signWeight < f.binade
  . rw [if_pos h1,if_pos h1]
    exact ⟨x % f.signWeight,0,by simp,by simp⟩
  . rw [if_neg h1,if_pos h,if_neg h1]
    exact ⟨_,_,rfl,rfl⟩
theorem read_inf (f:Format) (hI:f.binade <= f.infRung) (x:Nat) (h:x % f.signWeight=f.infRung):f.read x=.infinity (x / f.signWeight % 2 == 1):=by
  unfold Format.read
  dsimp only
  rw [h,if_neg (by omega),if_neg (by omega),if_pos rfl]
theorem read_nan (f:Format) (hI:f.binade <= f.infRung) (x:Nat) (h:f.infRung < x % f.signWeight):∃ s t,f.read x=.nan s t:=by
  unfold Format.read
  dsimp only
  rw [if_neg (by omega),if_neg (by omega),if_neg (by omega)]
  exact ⟨_,_,rfl⟩
theorem order_nan (f:Format) (hI:f.binade <= f.infRung) (x y:Nat) (h:f.infRung < x % f.signWeight∨f.infRung < y % f.signWeight):f.order x y=none:=by
  unfold Format.order
  rcases h with h | h
  . obtain ⟨s,t,e⟩:=read_nan f hI x h
    rw [e]; rfl
  . obtain ⟨s,t,e⟩:=read_nan f hI y h
    rw [e]; cases f.read x <;> rfl
theorem compare_scale (x y k:Int) (hk:0 < k):compare (x * k) (y * k)=compare x y:=by
  simp only [compare,compareOfLessAndEq]
  have h1:x * k < y * k ↔ x < y:=⟨fun h=>Int.lt_of_mul_lt_mul_right h (Int.le_of_lt hk),fun h=>Int.mul_lt_mul_of_pos_right h hk⟩
  have h2:x * k=y * k ↔ x=y:=⟨fun h=>Int.eq_of_mul_eq_mul_right (by omega) h,fun h=>by rw [h]⟩
  simp only [h1,h2]
theorem signed_scale (s:Bool) (m u k:Nat):signed s m u * ((2 ^ k:Nat):Int)=signed s m (u + k):=by
  unfold signed
  have e:((m <<< u:Nat):Int) * ((2 ^ k:Nat):Int)=((m <<< (u + k):Nat):Int):=by
    rw [Nat.shiftLeft_eq,Nat.shiftLeft_eq,Nat.pow_add,<- Nat.mul_assoc]
    exact (Int.natCast_mul _ _).symm
  split
  . rw [Int.neg_mul,e]
  . exact e
def skey (neg:Bool) (r:Nat):Int:=if neg then -(r:Int) else r
theorem order_number (s t:Bool) (m n:Nat) (l:Int) (u v:Nat) :
    (Datum.number s m (l + u)).order (Datum.number t n (l + v))=some (compare (signed s m u) (signed t n v)):=by
  unfold Datum.order
  dsimp only
  have hmin:min (l + (u:Int)) (l + (v:Int))=l + ((min u v:Nat):Int):=by omega
  have a:(l + (u:Int) - (l + ((min u v:Nat):Int))).toNat=u - min u v:=by omega
  have b:(l + (v:Int) - (l + ((min u v:Nat):Int))).toNat=v - min u v:=by omega
  rw [hmin,a,b,<- compare_scale _ _ ((2 ^ min u v:Nat):Int) (by exact_mod_cast Nat.two_pow_pos _),signed_scale,signed_scale,
    show u - min u v + min u v=u by omega,show v - min u v + min u v=v by omega]
theorem signed_V (s:Bool) (m u:Nat):signed s m u=if s then -((m * 2 ^ u:Nat):Int) else ((m * 2 ^ u:Nat):Int):=by
  unfold signed; rw [Nat.shiftLeft_eq]
theorem compare_int (a b c d:Int) (h1:a < b ↔ c < d) (h2:b < a ↔ d < c):compare a b=compare c d:=by
  simp only [compare,compareOfLessAndEq]
  by_cases h:a < b
  . rw [if_pos h,if_pos (h1.1 h)]
  . rw [if_neg h,if_neg (fun k=>h (h1.2 k))]
    by_cases k:b < a
    . rw [if_neg (by omega),if_neg (by have:=h2.1 k; omega)]
    . rw [if_pos (by omega),if_pos (by have:=fun z=>k (h2.2 z); have:=fun z=>h (h1.2 z); omega)]
theorem order_finite (f:Format) (x y:Nat) (hx:x % f.signWeight < f.infRung) (hy:y % f.signWeight < f.infRung) :
    f.order x y=some (compare (skey (x / f.signWeight % 2 == 1) (x % f.signWeight)) (skey (y / f.signWeight % 2 == 1) (y % f.signWeight))):=by
  obtain ⟨m,u,e1,k1⟩:=read_finite f x hx
  obtain ⟨n,v,e2,k2⟩:=read_finite f y hy
  unfold Format.order
  rw [e1,e2,order_number,signed_V,signed_V,k1,k2]
  congr 1
  generalize x % f.signWeight=r
  generalize y % f.signWeight=q
  have a:=V_lt_iff f r q
  have b:=V_lt_iff f q r
  have a0:=V_lt_iff f 0 r
  have b0:=V_lt_iff f 0 q
  rw [V_zero] at a0 b0
  unfold skey
  cases (x / f.signWeight % 2 == 1) <;> cases (y / f.signWeight % 2 == 1) <;> simp only [if_true,if_false,Bool.false_eq_true] <;> apply compare_int <;> omega
theorem compare_lt {a b:Int} (h:a < b):compare a b=.lt:=by simp only [compare,compareOfLessAndEq]; rw [if_pos h]
theorem compare_gt {a b:Int} (h:b < a):compare a b=.gt:=by simp only [compare,compareOfLessAndEq]; rw [if_neg (by omega),if_neg (by omega)]
theorem compare_eq {a b:Int} (h:a=b):compare a b=.eq:=by simp only [compare,compareOfLessAndEq]; rw [if_neg (by omega),if_pos h]
theorem order_all (f:Format) (hI:f.binade <= f.infRung) (x y:Nat) (hx:x % f.signWeight <= f.infRung) (hy:y % f.signWeight <= f.infRung) :
    f.order x y=some (compare (skey (x / f.signWeight % 2 == 1) (x % f.signWeight)) (skey (y / f.signWeight % 2 == 1) (y % f.signWeight))):=by
  have hB:=binade_pos f
  rcases Nat.lt_or_ge (x % f.signWeight) f.infRung with h1 | h1
  . rcases Nat.lt_or_ge (y % f.signWeight) f.infRung with h2 | h2
    . exact order_finite f x y h1 h2
    . have e2:=read_inf f hI y (by omega)
      obtain ⟨m,u,e1,_⟩:=read_finite f x h1
      have h2':y % f.signWeight=f.infRung:=by omega
      unfold Format.order skey
      rw [e1,e2,h2']
      cases (x / f.signWeight % 2 == 1) <;> cases (y / f.signWeight % 2 == 1) <;> simp only [if_true,if_false,Bool.false_eq_true,Datum.order]
      . rw [compare_lt (by omega)]
      . rw [compare_gt (by omega)]
      . rw [compare_lt (by omega)]
      . rw [compare_gt (by omega)]
  . have e1:=read_inf f hI x (by omega)
    have h1':x % f.signWeight=f.infRung:=by omega
    rcases Nat.lt_or_ge (y % f.signWeight) f.infRung with h2 | h2
    . obtain ⟨n,v,e2,_⟩:=read_finite f y h2
      unfold Format.order skey
      rw [e1,e2,h1']
      cases (x / f.signWeight % 2 == 1) <;> cases (y / f.signWeight % 2 == 1) <;> simp only [if_true,if_false,Bool.false_eq_true,Datum.order]
      . rw [compare_gt (by omega)]
      . rw [compare_gt (by omega)]
      . rw [compare_lt (by omega)]
      . rw [compare_lt (by omega)]
    . have e2:=read_inf f hI y (by omega)
      have h2':y % f.signWeight=f.infRung:=by omega
      unfold Format.order skey
      rw [e1,e2,h1',h2']
      cases (x / f.signWeight % 2 == 1) <;> cases (y / f.signWeight % 2 == 1) <;> simp only [if_true,if_false,Bool.false_eq_true,Datum.order]
      . rw [compare_eq rfl]; rfl
      . rw [compare_gt (by omega)]; rfl
      . rw [compare_lt (by omega)]; rfl
      . rw [compare_eq rfl]; rfl
def key (b:Int):Int:=if b < 0 then -(b + 9223372036854775808) else b
theorem dSign:Ieee.double.signWeight=9223372036854775808:=by decide
theorem dInf:Ieee.double.infRung=9218868437227405312:=by decide
theorem dOk:Ieee.double.binade <= Ieee.double.infRung:=by decide
theorem wd_rung {b:Int} (h:rng b):((wd b % 9223372036854775808:Nat):Int)=if b < 0 then b + 9223372036854775808 else b:=by
  unfold rng at h; unfold wd; split <;> omega
theorem wd_neg {b:Int} (h:rng b):(wd b / 9223372036854775808 % 2 == 1)=decide (b < 0):=by
  unfold rng at h; unfold wd
  rw [Bool.eq_iff_iff]; simp only [beq_iff_eq,decide_eq_true_eq]; omega
theorem cls4_rung {b:Int} (h:rng b):cls b=4 ↔ 9218868437227405312 < wd b % 9223372036854775808:=by
  have:=wd_rung h
  rw [cls4]; unfold rng at h; unfold fld frc
  split at this <;> omega
theorem skey_key {b:Int} (h:rng b):skey (wd b / 9223372036854775808 % 2 == 1) (wd b % 9223372036854775808)=key b:=by
  rw [wd_neg h]; unfold skey key; rw [wd_rung h]
  by_cases hb:b < 0 <;> simp [hb]
theorem order64 {a b:Int} (ha:rng a) (hb:rng b) (h1:¬ cls a=4) (h2:¬ cls b=4):FloatKind.f64.format.order (wd a) (wd b)=some (compare (key a) (key b)):=by
  rw [cls4_rung ha] at h1; rw [cls4_rung hb] at h2
  have:=order_all Ieee.double dOk (wd a) (wd b) (by rw [dSign,dInf]; omega) (by rw [dSign,dInf]; omega)
  rw [dSign,skey_key ha,skey_key hb] at this
  exact this
theorem order64_nan {a b:Int} (ha:rng a) (hb:rng b) (h:cls a=4∨cls b=4):FloatKind.f64.format.order (wd a) (wd b)=none:=by
  refine order_nan Ieee.double dOk _ _ ?_
  rw [dSign,dInf]
  rcases h with h | h
  . exact .inl ((cls4_rung ha).1 h)
  . exact .inr ((cls4_rung hb).1 h)
def less (a b:Int):Bool:=!decide (cls a=4) && (!decide (cls b=4) && decide (key a < key b))
def same (a b:Int):Bool:=!decide (cls a=4) && (!decide (cls b=4) && decide (key a=key b))
theorem same_order {a b:Int} (ha:rng a) (hb:rng b):(FloatKind.f64.format.order (wd a) (wd b) == some .eq)=same a b:=by
  unfold same
  by_cases h1:cls a=4
  . rw [order64_nan ha hb (.inl h1)]; simp [h1]
  . by_cases h2:cls b=4
    . rw [order64_nan ha hb (.inr h2)]; simp [h2]
    . rw [order64 ha hb h1 h2]
      simp only [h1,h2,decide_false,Bool.not_false,Bool.true_and]
      rcases Int.lt_trichotomy (key a) (key b) with h | h | h
      . rw [compare_lt h]; simp; omega
      . rw [compare_eq h]; simp [h]
      . rw [compare_gt h]; simp; omega
def place (b:Int):Int:=if b < 0 then -(b + 9223372036854775808) - 1 else b
theorem V_parts (f:Format) (a n:Nat) (h:(a=0∧n < 2 * f.binade)∨(f.binade <= n∧n < 2 * f.binade)):V f (a * f.binade + n)=n * 2 ^ a:=by
  have hB:=binade_pos f
  unfold V
  by_cases hn:n < f.binade
  . have ha:a=0:=by omega
    subst ha
    rw [Nat.zero_mul,Nat.zero_add,if_pos hn]; simp
  . have hge:f.binade <= a * f.binade + n:=Nat.le_trans (by omega) (Nat.le_add_left _ _)
    rw [if_neg (by omega)]
    have e:a * f.binade + n=f.binade * (a + 1) + (n - f.binade):=by
      rw [Nat.mul_add,Nat.mul_one,Nat.mul_comm]; omega
    rw [e,Nat.mul_add_mod,Nat.mod_eq_of_lt (show n - f.binade < f.binade by omega),Nat.mul_add_div hB,Nat.div_eq_of_lt (show n - f.binade < f.binade by omega)]
    rw [show a + 1 + 0 - 1=a by omega,show f.binade + (n - f.binade)=n by omega]
theorem V_inj (f:Format) {r s:Nat} (h:V f r=V f s):r=s:=by
  rcases Nat.lt_trichotomy r s with h1 | h1 | h1
  . have:=V_lt f h1; omega
  . exact h1
  . have:=V_lt f h1; omega
theorem pow_split (z:Nat) (n:Int) (u:Nat) (m:Nat) (hn:0 <= n) (h:z <= u) (hm:(m:Int)=n * 2 ^ z):n.toNat * 2 ^ u=m * 2 ^ (u - z):=by
  obtain ⟨k,rfl⟩:=Int.eq_ofNat_of_zero_le hn
  have hm':m=k * 2 ^ z:=by
    have:((k * 2 ^ z:Nat):Int)=(k:Int) * 2 ^ z:=by rw [Int.natCast_mul]; simp
    omega
  rw [hm',Int.toNat_natCast,Nat.mul_assoc,<- Nat.pow_add,show z + (u - z)=u by omega]
theorem V_join (f:Format) (fr:Nat) (hB:f.binade=2 ^ fr) (top least mag exp:Int) (h0:0 < mag) (h:mag < 9223372036854775808)
    (hg:jgood fr top least mag exp=true) (he:least <= exp):V f (jv fr top least mag exp).toNat=mag.toNat * 2 ^ (exp - least).toNat:=by
  obtain ⟨m,ez,z63,eo⟩:=jz_spec h0 h
  have hg':=hg
  unfold jgood at hg'
  simp only [Bool.and_eq_true,decide_eq_true_eq] at hg'
  have hs:0 <= jsh fr least mag exp∧jsh fr least mag exp <= jsp fr mag∧jsh fr least mag exp <= exp + jz mag - least:=by unfold jsh; omega
  have hb:=jshift_lt (fr:=fr) h0 h (by omega) (jsh fr least mag exp).toNat (by omega)
  have hd:=doubled (fr:=fr) h0 h (by omega) (jsh fr least mag exp).toNat
  have ha:0 <= jab fr least mag exp:=by unfold jab; omega
  obtain ⟨n,hn⟩:=Int.eq_ofNat_of_zero_le (show 0 <= jo mag * 2 ^ (jsh fr least mag exp).toNat by omega)
  obtain ⟨a,ha'⟩:=Int.eq_ofNat_of_zero_le ha
  rw [hn] at hb hd
  have hB1:((f.binade:Nat):Int)=2 ^ fr:=by rw [hB]; simp
  rw [Int.toNat_natCast,<- hB1] at hd
  have hb2:(n:Int) < 2 * (f.binade:Int):=by
    have:=hb.2
    rw [Int.toNat_natCast,Int.pow_succ,<- hB1] at this
    omega
  have ejv:(jv fr top least mag exp).toNat=a * f.binade + n:=by
    unfold jv
    rw [if_neg (by omega),if_pos hg,hn,ha',Int.toNat_natCast,<- hB1]
    have:((a:Int) * (f.binade:Int) + (n:Int))=((a * f.binade + n:Nat):Int):=by rw [Int.natCast_add,Int.natCast_mul]
    rw [this,Int.toNat_natCast]
  rw [ejv,V_parts f a n (by
    by_cases hn1:n < f.binade
    . left
      have:=hd.1 (by omega)
      have:jab fr least mag exp=0:=by unfold jab; unfold jsh at *; omega
      omega
    . right; omega)]
  -- n * 2 ^ a=mag * 2 ^ (exp - least)
  have e1:mag.toNat * 2 ^ (exp - least).toNat=(jo mag).toNat * 2 ^ (jz mag + (exp - least).toNat):=by
    have hm:((mag.toNat:Nat):Int)=jo mag * 2 ^ jz mag:=by
      rw [Int.toNat_of_nonneg (by omega),eo,Int.mul_comm]; exact ez
    rw [pow_split (jz mag) (jo mag) (jz mag + (exp - least).toNat) mag.toNat (by omega) (by omega) hm]
    congr 2; omega
  have e2:n * 2 ^ a=(jo mag).toNat * 2 ^ ((jsh fr least mag exp).toNat + a):=by
    rw [pow_split (jsh fr least mag exp).toNat (jo mag) ((jsh fr least mag exp).toNat + a) n (by omega) (by omega) (by rw [<- hn])]
    congr 2; omega
  rw [e1,e2]
  congr 2
  unfold jab at ha'
  omega
theorem jzl {mag:Int} (h0:0 < mag) (h:mag < 9223372036854775808) (k:Nat) (hk:mag < 2 ^ k):(jz mag:Int) + jl mag <= k:=by
  obtain ⟨m,ez,z63,eo⟩:=jz_spec h0 h
  have hj:=jo_le h0 h
  have sp:=bitLen_spec (jo mag).toNat (by omega) (by omega)
  have h1:2 ^ (Lib.bitLen (jo mag).toNat - 1) * 2 ^ jz mag <= (jo mag).toNat * 2 ^ jz mag:=Nat.mul_le_mul_right _ sp.1
  rw [<- Nat.pow_add] at h1
  have h2:(((jo mag).toNat * 2 ^ jz mag:Nat):Int)=mag:=by
    rw [Int.natCast_mul,Int.toNat_of_nonneg (by omega),eo,Int.mul_comm]
    simp only [Int.natCast_pow]
    exact ez.symm
  have h3:(jo mag).toNat * 2 ^ jz mag < 2 ^ k:=by
    have:((2 ^ k:Nat):Int)=2 ^ k:=by simp
    omega
  have h4:2 ^ (Lib.bitLen (jo mag).toNat - 1 + jz mag) < 2 ^ k:=by omega
  have:=(Nat.pow_lt_pow_iff_right (by decide:1 < 2)).1 h4
  unfold jl
  omega
theorem jgood_small {fr top least mag exp:Int} (h0:0 < mag) (h:mag < 9223372036854775808) (hf:0 <= fr) (hk:mag < 2 ^ (fr.toNat + 1)) (he:least <= exp) (he2:exp <= top - 2 + least):jgood fr top least mag exp=true:=by
  have hl:=jzl h0 h (fr.toNat + 1) hk
  have:=jl_le h0 h
  unfold jgood jab jsh jsp
  simp only [Bool.and_eq_true,decide_eq_true_eq]
  omega
/-! binary64 -/
def rg (b:Int):Int:=if b < 0 then b + 9223372036854775808 else b
theorem rg_parts {b:Int} (h:rng b):0 <= rg b∧rg b=fld b * 4503599627370496 + frc b:=by
  unfold rng at h; unfold rg fld frc; split <;> omega
theorem pparts {b:Int} (h:pok b=true):fld b ≠ 2047:=by simpa [pok] using h
theorem dB:Ieee.double.binade=2 ^ 52:=by decide
theorem V_rg {b:Int} (hb:rng b) (hp:pok b=true):V Ieee.double (rg b).toNat=(pmag b).toNat * 2 ^ (pexp b + 1074).toNat:=by
  have hne:=pparts hp
  obtain ⟨r0,r1⟩:=rg_parts hb
  have hf:=fld_le b
  have ht:=frc_le b
  by_cases h0:fld b=0
  . have e:(rg b).toNat=0 * Ieee.double.binade + (frc b).toNat:=by omega
    rw [e,V_parts _ _ _ (.inl ⟨rfl,by rw [dB]; omega⟩)]
    simp [pmag,pexp,h0]
  . have e:(rg b).toNat=(fld b - 1).toNat * Ieee.double.binade + (4503599627370496 + frc b).toNat:=by rw [dB]; omega
    rw [e,V_parts _ _ _ (.inr (by rw [dB]; omega))]
    unfold pmag pexp
    rw [if_neg hne,if_neg h0,if_neg hne,if_neg h0]
    congr 2; omega
/-! binary32 -/
def rg32 (b:Int):Int:=if b < 2147483648 then b else b - 2147483648
theorem pparts32 {b:Int} (h:pok32 b=true):0 <= b∧b < 4294967296∧fld32 b ≠ 255:=by
  unfold pok32 at h
  simp only [Bool.and_eq_true] at h
  have:=of_decide_eq_true h.1
  exact ⟨this.1,this.2,by simpa using h.2⟩
theorem rg32_parts {b:Int} (h0:0 <= b) (h1:b < 4294967296):0 <= rg32 b∧rg32 b=fld32 b * 8388608 + frc32 b:=by
  unfold rg32 fld32 frc32; split <;> omega
theorem sB:Ieee.single.binade=2 ^ 23:=by decide
theorem V_rg32 {b:Int} (hp:pok32 b=true):V Ieee.single (rg32 b).toNat=(pmag32 b).toNat * 2 ^ (pexp32 b + 149).toNat:=by
  obtain ⟨b0,b1,hne⟩:=pparts32 hp
  obtain ⟨r0,r1⟩:=rg32_parts b0 b1
  have hf:=fld32_le b
  have ht:=frc32_le b
  by_cases h0:fld32 b=0
  . have e:(rg32 b).toNat=0 * Ieee.single.binade + (frc32 b).toNat:=by omega
    rw [e,V_parts _ _ _ (.inl ⟨rfl,by rw [sB]; omega⟩)]
    simp [pmag32,pexp32,h0,hp]
  . have e:(rg32 b).toNat=(fld32 b - 1).toNat * Ieee.single.binade + (8388608 + frc32 b).toNat:=by rw [sB]; omega
    rw [e,V_parts _ _ _ (.inr (by rw [sB]; omega))]
    unfold pmag32 pexp32
    rw [if_pos hp,if_neg h0,if_pos hp,if_neg h0]
    congr 2; omega
theorem pmag32_le {b:Int} (hp:pok32 b=true):0 <= pmag32 b∧pmag32 b < 16777216∧-149 <= pexp32 b∧pexp32 b <= 104:=by
  obtain ⟨b0,b1,hne⟩:=pparts32 hp
  have hf:=fld32_le b
  have ht:=frc32_le b
  unfold pmag32 pexp32; rw [if_pos hp,if_pos hp]; split <;> omega
def rU (mag:Nat) (sh:Int):Nat:=if sh <= 0 then mag * 2 ^ (-sh).toNat else mag / 2 ^ sh.toNat
def rL (mag:Nat) (cut:Bool) (sh:Int):Int :=
  if sh <= 0 then 0 else if mag % 2 ^ sh.toNat=0∧cut=false then 0 else if 2 * (mag % 2 ^ sh.toNat) < 2 ^ sh.toNat then 1 else if 2 * (mag % 2 ^ sh.toNat)=2 ^ sh.toNat∧cut=false then 2 else 3
def rE (size low:Int) (mag:Nat) (exp:Int):Int:=max (exp + (Lib.bitLen mag:Int) - size) low
def rUp (way:Int) (neg odd:Bool) (left:Int):Bool :=
  if way=0 then decide (left=3) || (decide (left=2) && odd) else if way=1 then decide (left ≠ 0) && neg else if way=2 then decide (left ≠ 0) && !neg else false
def Held (A:Int) (mag:Nat) (exp:Int) (cut:Bool):Prop:=(mag:Int) * pw exp <= A∧A < ((mag:Int) + 1) * pw exp∧(cut=false ↔ A=(mag:Int) * pw exp)
structure Left (A:Int) (u:Nat) (q:Int) (left:Int):Prop where
  lo:(u:Int) * q <= A
  hi:A < (u:Int) * q + q
  l0:left=0 ↔ A=(u:Int) * q
  l1:left=1 ↔ (u:Int) * q < A∧2 * A < 2 * ((u:Int) * q) + q
  l2:left=2 ↔ 2 * A=2 * ((u:Int) * q) + q
  l3:left=3 ↔ 2 * ((u:Int) * q) + q < 2 * A
theorem Left.mk' {A U q left:Int} {u:Nat} (hU:(u:Int) * q=U) (lo:U <= A) (hi:A < U + q) (l0:left=0 ↔ A=U) (l1:left=1 ↔ U < A∧2 * A < 2 * U + q) (l2:left=2 ↔ 2 * A=2 * U + q) (l3:left=3 ↔ 2 * U + q < 2 * A):Left A u q left:=by
  subst hU
  exact ⟨lo,hi,l0,l1,l2,l3⟩
theorem two_half (n:Nat) (h:0 < n):∃ k,2 ^ n=2 * k∧0 < k:=⟨2 ^ (n - 1),by rw [<- Nat.pow_succ',Nat.succ_eq_add_one,Nat.sub_add_cancel h],Nat.two_pow_pos _⟩
theorem left_of {A:Int} {mag:Nat} {exp e:Int} {cut:Bool} (h:Held A mag exp cut) (hc:cut=true->0 < e - exp) (h0:-4194304 <= e) (h1:-4194304 <= exp):Left A (rU mag (e - exp)) (pw e) (rL mag cut (e - exp)):=by
  obtain ⟨a1,a2,a3⟩:=h
  have hq:=pw_pos exp
  have hqe:=pw_pos e
  by_cases hs:e - exp <= 0
  . have hcf:cut=false:=by cases cut; rfl; have:=hc rfl; omega
    have hA:=a3.1 hcf
    unfold rU rL
    rw [if_pos hs,if_pos hs]
    have e1:((mag * 2 ^ (-(e - exp)).toNat:Nat):Int) * pw e=A:=by
      rw [hA,pw_sub (e:=exp) (low:=e) h0 (by omega),show (exp - e).toNat=(-(e - exp)).toNat by omega]
      push_cast
      rw [Int.mul_assoc]
    exact ⟨by rw [e1]; omega,by rw [e1]; omega,by rw [e1]; simp,by rw [e1]; constructor <;> intro h <;> omega,by rw [e1]; constructor <;> intro h <;> omega,by rw [e1]; constructor <;> intro h <;> omega⟩
  . have hp:pw e=2 ^ (e - exp).toNat * pw exp:=pw_sub h1 (by omega)
    obtain ⟨s,hsn⟩:∃ s,(e - exp).toNat=s:=⟨_,rfl⟩
    have hs0:0 < s:=by omega
    unfold rU rL
    rw [if_neg hs,if_neg hs,hsn]
    rw [hsn] at hp
    obtain ⟨k,hk,hk0⟩:=two_half s hs0
    have hpn:(2:Int) ^ s=((2 ^ s:Nat):Int):=by simp
    rw [hpn,hk] at hp
    rw [hk]
    have hdm:=Nat.div_add_mod mag (2 * k)
    have hml:=Nat.mod_lt mag (show 0 < 2 * k by omega)
    generalize mag / (2 * k)=u at *
    generalize mag % (2 * k)=t at *
    generalize hQ:pw exp=q at *
    have e1:(mag:Int) * q=(u:Int) * (((2 * k:Nat):Int) * q) + (t:Int) * q:=by
      rw [<- hdm]; push_cast; rw [Int.add_mul]; congr 1; rw [Int.mul_comm (2 * (k:Int)) u,Int.mul_assoc]
    have e2:((mag:Int) + 1) * q=(mag:Int) * q + q:=by rw [Int.add_mul,Int.one_mul]
    rw [e2,e1] at a2
    rw [e1] at a1 a3
    rw [hp]
    have e3:((2 * k:Nat):Int) * q=2 * ((k:Int) * q):=by push_cast; rw [Int.mul_assoc]
    have t1:∀ x y:Nat,x <= y->(x:Int) * q <= (y:Int) * q:=fun x y h=>Int.mul_le_mul_of_nonneg_right (by omega) (by omega)
    have t2:∀ x y:Nat,x < y->(x:Int) * q + q <= (y:Int) * q:=fun x y h=>by
      have:=t1 (x + 1) y h
      push_cast at this
      rwa [Int.add_mul,Int.one_mul] at this
    have t0:0 <= (t:Int) * q:=Int.mul_nonneg (by omega) (by omega)
    have b1:(t:Int) * q + q <= 2 * ((k:Int) * q):=by rw [<- e3]; exact t2 t (2 * k) hml
    rw [e3] at a1 a2 a3 ⊢
    have c1:t < k->(t:Int) * q + q <= (k:Int) * q:=t2 t k
    have c2:t=k->(t:Int) * q=(k:Int) * q:=fun h=>by rw [h]
    have c3:k < t->(k:Int) * q + q <= (t:Int) * q:=t2 k t
    have c4:t=0->(t:Int) * q=0:=fun h=>by rw [h]; simp
    have c5:0 < t->q <= (t:Int) * q:=fun h=>by have:=t1 1 t h; rwa [Int.natCast_one,Int.one_mul] at this
    clear e1 e2 e3 t1 t2 hp
    obtain ⟨T,hT⟩:∃ T,(t:Int) * q=T:=⟨_,rfl⟩
    obtain ⟨K,hK⟩:∃ K,(k:Int) * q=K:=⟨_,rfl⟩
    obtain ⟨U,hU⟩:∃ U,(u:Int) * (2 * K)=U:=⟨_,rfl⟩
    rw [hT] at c1 c2 c3 c4 c5 t0 b1 a1 a2 a3
    rw [hK] at c1 c2 c3 b1 a1 a2 a3 ⊢
    rw [hU] at a1 a2 a3
    have a3':cut=true->A ≠ U + T:=fun h h2=>by rw [a3.2 h2] at h; cases h
    cases cut
    . have hA:=a3.1 rfl
      subst hA
      by_cases z0:t=0
      . have:=c4 z0
        rw [if_pos ⟨z0,rfl⟩]
        exact Left.mk' hU (by omega) (by omega) (by constructor <;> intro h <;> omega) (by constructor <;> intro h <;> omega) (by constructor <;> intro h <;> omega) (by constructor <;> intro h <;> omega)
      . have:=c5 (by omega)
        rw [if_neg (fun h=>z0 h.1)]
        by_cases z1:t < k
        . have:=c1 z1
          rw [if_pos (by omega)]
          exact Left.mk' hU (by omega) (by omega) (by constructor <;> intro h <;> omega) (by constructor <;> intro h <;> omega) (by constructor <;> intro h <;> omega) (by constructor <;> intro h <;> omega)
        . rw [if_neg (by omega)]
          by_cases z2:t=k
          . have:=c2 z2
            rw [if_pos ⟨by omega,rfl⟩]
            exact Left.mk' hU (by omega) (by omega) (by constructor <;> intro h <;> omega) (by constructor <;> intro h <;> omega) (by constructor <;> intro h <;> omega) (by constructor <;> intro h <;> omega)
          . have:=c3 (by omega)
            rw [if_neg (fun h=>z2 (by omega))]
            exact Left.mk' hU (by omega) (by omega) (by constructor <;> intro h <;> omega) (by constructor <;> intro h <;> omega) (by constructor <;> intro h <;> omega) (by constructor <;> intro h <;> omega)
    . have hA:=a3' rfl
      rw [if_neg (fun h=>by cases h.2)]
      by_cases z1:t < k
      . have:=c1 z1
        rw [if_pos (by omega)]
        exact Left.mk' hU (by omega) (by omega) (by constructor <;> intro h <;> omega) (by constructor <;> intro h <;> omega) (by constructor <;> intro h <;> omega) (by constructor <;> intro h <;> omega)
      . rw [if_neg (by omega),if_neg (fun h=>by cases h.2)]
        have hkt:K <= T:=by
          by_cases z2:t=k
          . have:=c2 z2; omega
          . have:=c3 (by omega); omega
        exact Left.mk' hU (by omega) (by omega) (by constructor <;> intro h <;> omega) (by constructor <;> intro h <;> omega) (by constructor <;> intro h <;> omega) (by constructor <;> intro h <;> omega)
theorem rU_bits {size low:Int} {mag:Nat} {exp:Int} (hs:0 < size) (h:mag < 2 ^ 64) (h0:mag ≠ 0):rU mag (rE size low mag exp - exp) < 2 ^ size.toNat∧(low < rE size low mag exp->2 ^ (size.toNat - 1) <= rU mag (rE size low mag exp - exp)):=by
  obtain ⟨b1,b2,b3,b4⟩:=bitLen_spec mag h h0
  obtain ⟨n,hn⟩:∃ n,Lib.bitLen mag=n:=⟨_,rfl⟩
  obtain ⟨z,rfl⟩:∃ z:Nat,size=z:=⟨size.toNat,by omega⟩
  unfold rE rU
  rw [hn] at b1 b2 b3 b4 ⊢
  rw [Int.toNat_natCast]
  obtain ⟨e,he⟩:∃ e,max (exp + (n:Int) - (z:Int)) low=e:=⟨_,rfl⟩
  have he1:exp + n - z <= e:=by omega
  have he2:low < e->e=exp + n - z:=by omega
  rw [he]
  by_cases hse:e - exp <= 0
  . rw [if_pos hse]
    obtain ⟨k,hk⟩:∃ k,(-(e - exp)).toNat=k:=⟨_,rfl⟩
    rw [hk]
    refine ⟨?_,fun hl=>?_⟩
    . calc mag * 2 ^ k < 2 ^ n * 2 ^ k:=Nat.mul_lt_mul_of_pos_right b2 (Nat.two_pow_pos k)
        _=2 ^ (n + k):=by rw [Nat.pow_add]
        _ <= 2 ^ z:=Nat.pow_le_pow_right (by decide) (by omega)
    . have:=he2 hl
      calc 2 ^ (z - 1) <= 2 ^ (n - 1 + k):=Nat.pow_le_pow_right (by decide) (by omega)
        _=2 ^ (n - 1) * 2 ^ k:=by rw [Nat.pow_add]
        _ <= mag * 2 ^ k:=Nat.mul_le_mul_right _ b1
  . rw [if_neg hse]
    obtain ⟨k,hk⟩:∃ k,(e - exp).toNat=k:=⟨_,rfl⟩
    rw [hk]
    refine ⟨?_,fun hl=>?_⟩
    . rw [Nat.div_lt_iff_lt_mul (Nat.two_pow_pos k),<- Nat.pow_add]
      exact Nat.lt_of_lt_of_le b2 (Nat.pow_le_pow_right (by decide) (by omega))
    . have:=he2 hl
      rw [Nat.le_div_iff_mul_le (Nat.two_pow_pos k),<- Nat.pow_add]
      exact Nat.le_trans (Nat.pow_le_pow_right (by decide) (by omega)) b1
theorem V_rung (f:Format) (a u:Nat) (h:u < 2 * f.binade) (h2:0 < a->f.binade <= u):V f (a * f.binade + u)=u * 2 ^ a∧V f (a * f.binade + u + 1)=(u + 1) * 2 ^ a:=by
  have hB:=binade_pos f
  refine ⟨V_parts f a u (by by_cases ha:a=0 <;> omega),?_⟩
  by_cases hu:u + 1 < 2 * f.binade
  . rw [Nat.add_assoc]
    exact V_parts f a (u + 1) (by by_cases ha:a=0 <;> omega)
  . have e:a * f.binade + u + 1=(a + 1) * f.binade + f.binade:=by rw [Nat.add_mul]; omega
    rw [e,V_parts f (a + 1) f.binade (by omega),Nat.pow_succ,show u + 1=f.binade * 2 by omega,Nat.mul_assoc,Nat.mul_comm (2 ^ a) 2]
theorem jzl_ge {mag:Int} (h0:0 < mag) (h:mag < 9223372036854775808) (k:Nat) (hk:2 ^ k <= mag):(k:Int) + 1 <= (jz mag:Int) + jl mag:=by
  obtain ⟨m,ez,z63,eo⟩:=jz_spec h0 h
  have hj:=jo_le h0 h
  have sp:=bitLen_spec (jo mag).toNat (by omega) (by omega)
  have h1:(jo mag).toNat * 2 ^ jz mag < 2 ^ Lib.bitLen (jo mag).toNat * 2 ^ jz mag:=Nat.mul_lt_mul_of_pos_right sp.2.1 (Nat.two_pow_pos _)
  rw [<- Nat.pow_add] at h1
  have h2:(((jo mag).toNat * 2 ^ jz mag:Nat):Int)=mag:=by
    rw [Int.natCast_mul,Int.toNat_of_nonneg (by omega),eo,Int.mul_comm]
    simp only [Int.natCast_pow]
    exact ez.symm
  have h3:2 ^ k <= (jo mag).toNat * 2 ^ jz mag:=by
    have:((2 ^ k:Nat):Int)=2 ^ k:=by simp
    omega
  have h4:2 ^ k < 2 ^ (Lib.bitLen (jo mag).toNat + jz mag):=by omega
  have:=(Nat.pow_lt_pow_iff_right (by decide:1 < 2)).1 h4
  unfold jl
  omega
theorem pow2_nn (n:Nat):(0:Int) <= 2 ^ n:=Int.le_of_lt (two_pos n)
theorem join_rung (f:Format) (fr:Nat) (hfr:fr <= 60) (hB:f.binade=2 ^ fr) (top least:Int) (ht:2 <= top) (u:Nat) (e:Int) (h0:0 < u) (hu:u <= 2 ^ (fr + 1)) (he:least <= e) (hn:least < e->2 ^ fr <= u) :
    let rung:=(e - least).toNat * 2 ^ fr + u
    jk fr top least (u:Int) e=decide ((rung:Int) < top * 2 ^ fr)∧((rung:Int) < top * 2 ^ fr->jv fr top least (u:Int) e=rung):=by
  intro rung
  have hp60:2 ^ (fr + 1) <= 2 ^ 61:=Nat.pow_le_pow_right (by decide) (by omega)
  have hu63:(u:Int) < 9223372036854775808:=by
    have:(2:Nat) ^ 61=2305843009213693952:=by decide
    omega
  have hu0:(0:Int) < (u:Int):=by omega
  have hP:0 < 2 ^ fr:=Nat.two_pow_pos fr
  have hPi:((2 ^ fr:Nat):Int)=2 ^ fr:=by simp
  have hlo:=jl_le hu0 hu63
  have hJ:jgood fr top least (u:Int) e=decide ((rung:Int) < top * 2 ^ fr):=by
    obtain ⟨a,ha⟩:∃ a,(e - least).toNat=a:=⟨_,rfl⟩
    have hr:(rung:Int)=(a:Int) * 2 ^ fr + u:=by simp only [rung,ha]; push_cast; rfl
    rw [hr]
    by_cases hlt:u < 2 ^ (fr + 1)
    . by_cases hea:(a:Int) <= top - 2
      . have g:=jgood_small (fr:=(fr:Int)) (top:=top) (least:=least) (exp:=e) hu0 hu63 (by omega) (by rw [Int.toNat_natCast]; exact_mod_cast hlt) he (by omega)
        rw [g]
        have:(a:Int) * 2 ^ fr <= (top - 2) * 2 ^ fr:=Int.mul_le_mul_of_nonneg_right hea (by omega)
        have e2:(top - 2) * 2 ^ fr=top * 2 ^ fr - 2 * 2 ^ fr:=by rw [Int.sub_mul]
        have hu2:(u:Int) < 2 * 2 ^ fr:=by rw [Nat.pow_succ] at hlt; omega
        exact (decide_eq_true (by omega)).symm
      . have hge:=hn (by omega)
        have g2:=jzl_ge hu0 hu63 fr (by rw [<- hPi]; omega)
        have g:jgood fr top least (u:Int) e=false:=by
          unfold jgood jab jsh jsp
          simp only [Bool.and_eq_false_iff,decide_eq_false_iff_not]
          omega
        rw [g]
        have:(top - 1) * 2 ^ fr <= (a:Int) * 2 ^ fr:=Int.mul_le_mul_of_nonneg_right (by omega) (by omega)
        have e2:(top - 1) * 2 ^ fr=top * 2 ^ fr - 2 ^ fr:=by rw [Int.sub_mul,Int.one_mul]
        exact (decide_eq_false (by omega)).symm
    . have hue:u=2 ^ (fr + 1):=by omega
      have hpp:2 ^ (fr + 1) < 2 ^ (fr + 2):=Nat.pow_lt_pow_right (by decide) (by omega)
      have g1:=jzl hu0 hu63 (fr + 2) (by rw [hue]; exact_mod_cast hpp)
      have g2:=jzl_ge hu0 hu63 (fr + 1) (by rw [hue]; simp)
      have hu2:(u:Int)=2 * 2 ^ fr:=by rw [hue,Nat.pow_succ]; push_cast; omega
      have hjo:jl (u:Int) <= fr + 1:=by
        obtain ⟨mm,ez,z63,eo⟩:=jz_spec hu0 hu63
        by_cases hz:jz (u:Int)=0
        . exfalso
          rw [hz] at ez
          rw [hu2] at ez
          simp at ez
          omega
        . omega
      by_cases hea:(a:Int) <= top - 3
      . have g:jgood fr top least (u:Int) e=true:=by
          unfold jgood jab jsh jsp
          simp only [Bool.and_eq_true,decide_eq_true_eq]
          omega
        rw [g]
        have:(a:Int) * 2 ^ fr <= (top - 3) * 2 ^ fr:=Int.mul_le_mul_of_nonneg_right hea (by omega)
        have e2:(top - 3) * 2 ^ fr=top * 2 ^ fr - 3 * 2 ^ fr:=by rw [Int.sub_mul]
        exact (decide_eq_true (by omega)).symm
      . have g:jgood fr top least (u:Int) e=false:=by
          unfold jgood jab jsh jsp
          simp only [Bool.and_eq_false_iff,decide_eq_false_iff_not]
          omega
        rw [g]
        have:(top - 2) * 2 ^ fr <= (a:Int) * 2 ^ fr:=Int.mul_le_mul_of_nonneg_right (by omega) (by omega)
        have e2:(top - 2) * 2 ^ fr=top * 2 ^ fr - 2 * 2 ^ fr:=by rw [Int.sub_mul]
        exact (decide_eq_false (by omega)).symm
  refine ⟨?_,fun hlt=>?_⟩
  . unfold jk
    rw [if_neg (by omega),if_neg (by omega)]
    exact hJ
  . have hg:jgood fr top least (u:Int) e=true:=by rw [hJ]; exact decide_eq_true hlt
    have hv:=V_join f fr hB top least (u:Int) e hu0 hu63 hg he
    rw [Int.toNat_natCast] at hv
    have hj0:0 <= jv fr top least (u:Int) e:=by
      unfold jv
      rw [if_neg (by omega),if_pos hg]
      have h1:=jo_le hu0 hu63
      have h2:0 <= jab fr least (u:Int) e:=by unfold jab jsh; unfold jgood at hg; simp only [Bool.and_eq_true,decide_eq_true_eq] at hg; omega
      have h3:(0:Int) <= 2 ^ (fr:Int).toNat:=pow2_nn _
      have h4:(0:Int) <= 2 ^ (jsh fr least (u:Int) e).toNat:=pow2_nn _
      have:=Int.mul_nonneg h2 h3
      have:=Int.mul_nonneg (show 0 <= jo (u:Int) by omega) h4
      omega
    have hV:V f rung=u * 2 ^ (e - least).toNat:=by
      show V f ((e - least).toNat * 2 ^ fr + u)=_
      rw [<- hB]
      by_cases hlt2:u < 2 ^ (fr + 1)
      . exact (V_rung f (e - least).toNat u (by rw [hB]; rw [Nat.pow_succ] at hlt2; omega) (fun h=>by rw [hB]; exact hn (by omega))).1
      . have hue:u=2 * f.binade - 1 + 1:=by rw [hB]; rw [Nat.pow_succ] at hu hlt2; omega
        have hb:=binade_pos f
        have:=(V_rung f (e - least).toNat (2 * f.binade - 1) (by omega) (fun h=>by omega)).2
        rw [<- hue,Nat.add_assoc,<- hue] at this
        exact this
    have:=V_inj f (hv.trans hV.symm)
    omega
end Go.Proofs.YtkajoieoggajiaaDoor.M
namespace Go.Proofs.YtkajoieoggajiaaDoor
open Go Go.RowKit Go.Proofs.YtkajoieoggajiaaDoor.M
theorem raise1 (ng odd:Bool) (left:Int) (w:World):Calls Tryd.prog 52 #[.bool ng,.bool odd,.int .i64 left] w fun e w'=>e=.returned (.bool (rUp 0 ng odd left))∧w'=w:=by
  unfold rUp
  rw [if_pos rfl]
  go_enter Tryd.func52,Tryd.ntmps52
  by_cases h3:left=3
  . subst h3
    go_wp2
    go_ret
    exact ⟨by simp,rfl⟩
  . by_cases h2:left=2
    . subst h2
      go_wp2
      go_ret
      exact ⟨by simp,rfl⟩
    . go_wp2
      go_ret
      exact ⟨by simp [h2,h3],rfl⟩
theorem raise2 (ng odd:Bool) (left:Int) (w:World):Calls Tryd.prog 53 #[.bool ng,.bool odd,.int .i64 left] w fun e w'=>e=.returned (.bool (rUp 1 ng odd left))∧w'=w:=by
  unfold rUp
  rw [if_neg (by decide),if_pos rfl]
  go_enter Tryd.func53,Tryd.ntmps53
  by_cases h0:left=0
  . subst h0
    go_wp2
    go_ret
    exact ⟨by simp,rfl⟩
  . go_wp2
    go_ret
    exact ⟨by simp [h0],rfl⟩
theorem raise3 (ng odd:Bool) (left:Int) (w:World):Calls Tryd.prog 54 #[.bool ng,.bool odd,.int .i64 left] w fun e w'=>e=.returned (.bool (rUp 2 ng odd left))∧w'=w:=by
  unfold rUp
  rw [if_neg (by decide),if_neg (by decide),if_pos rfl]
  go_enter Tryd.func54,Tryd.ntmps54
  by_cases h0:left=0
  . subst h0
    go_wp2
    go_ret
    exact ⟨by simp,rfl⟩
  . go_wp2
    go_ret
    exact ⟨by simp [h0],rfl⟩
theorem raise4 (ng odd:Bool) (left:Int) (w:World):Calls Tryd.prog 55 #[.bool ng,.bool odd,.int .i64 left] w fun e w'=>e=.returned (.bool (rUp 3 ng odd left))∧w'=w:=by
  unfold rUp
  rw [if_neg (by decide),if_neg (by decide),if_neg (by decide)]
  go_enter Tryd.func55,Tryd.ntmps55
  go_wp2
  go_ret
  exact ⟨rfl,rfl⟩
def wayF (way:Int):Nat:=if way=0 then 52 else if way=1 then 53 else if way=2 then 54 else 55
def wayV (way:Int):Value:=.agg #[.func (.func (wayF way)) #[] #[]]
set_option maxRecDepth 100000 in
theorem wayOf_any (way:Int) (w:World):Calls Tryd.prog 32 #[.int .i64 way] w fun e w'=>e=.returned (.tuple #[if 0 <= way∧way <= 3 then wayV way else .agg #[.nilFunc],.bool (decide (0 <= way∧way <= 3))])∧Below w.heap.size w w':=by
  have hmf:∀ (fn:Fn) (first cap:Array Value) (w:World),(Instr.makeFunc fn first cap).run Tryd.prog w=.ok (.func fn first cap) w:=fun _ _ _ _=>rfl
  have hst:∀ (p:Addr) (F:Nat) (m:Mode) (w:World),(store p (.func (.func F) #[] #[]) m).run Tryd.prog w=stored Tryd.prog w p (.func (.func F) #[] #[]) m:=fun p F m w=>run_store _ w p _ m rfl
  have hsn:∀ (p:Addr) (m:Mode) (w:World),(store p .nilFunc m).run Tryd.prog w=stored Tryd.prog w p .nilFunc m:=fun p m w=>run_store _ w p _ m rfl
  have hb2:=bel_alloc2 w (.cells #[.nilFunc] 72) (.cells #[.nilFunc,.nilFunc,.nilFunc,.nilFunc] 98)
  have q0:=heap_a2 w (.cells #[.nilFunc] 72) (.cells #[.nilFunc,.nilFunc,.nilFunc,.nilFunc] 98)
  have q1:=heap_b2 w (.cells #[.nilFunc] 72) (.cells #[.nilFunc,.nilFunc,.nilFunc,.nilFunc] 98)
  have x0:=blkC q1 0 rfl
  have x1:=blkC q1 1 rfl
  have x2:=blkC q1 2 rfl
  have x3:=blkC q1 3 rfl
  have z0:=blkF q1 0
  have z1:=blkF q1 1
  have z2:=blkF q1 2
  have z3:=blkF q1 3
  have y0:=blkC q0 0 rfl
  have y1:=blkF q0 0
  by_cases h0:way < 0
  . go_enter Tryd.func32,Tryd.ntmps32
    go_wp2
    refine bodyPost_ret (v:=.tuple #[.agg #[.nilFunc],.bool false]) (by simp [results,Tryd.results32,go_sem]) rfl ⟨?_,?_⟩
    . rfl
    . exact bel_alloc2 _ _ _
  by_cases h4:4 <= way
  . go_enter Tryd.func32,Tryd.ntmps32
    go_wp2
    refine bodyPost_ret (v:=.tuple #[.agg #[.nilFunc],.bool false]) (by simp [results,Tryd.results32,go_sem]) rfl ⟨?_,?_⟩
    . rfl
    . exact bel_alloc2 _ _ _
  rw [if_pos (by omega),show decide (0 <= way∧way <= 3)=true from decide_eq_true (by omega)]
  have hc:way=0∨way=1∨way=2∨way=3:=by omega
  rcases hc with rfl | rfl | rfl | rfl
  all_goals
    go_enter Tryd.func32,Tryd.ntmps32
    go_wp2
    refine bodyPost_ret (v:=.tuple #[wayV _,.bool true]) (by simp [results,Tryd.results32,go_sem,wayV,wayF]; first | done | rfl) rfl ⟨rfl,?_⟩
    exact bel_alloc2 _ _ _
def valV (ng:Bool) (mag:Nat) (exp:Int) (cut sd:Bool):Value:=.agg #[.bool ng,.int .u64 mag,.int .i64 exp,.bool cut,.bool sd]
set_option maxRecDepth 100000 in
set_option maxHeartbeats 1000000 in
theorem split_low (ng:Bool) (mag:Nat) (exp unit:Int) (cut sd:Bool) (w:World) (k:Nat) (hk:unit - exp=-(k:Int)) (hk2:k < 20000000) (hm:mag * 2 ^ k < 18446744073709551616) :
    Calls Tryd.prog 79 #[valV ng mag exp cut sd,.int .i64 unit] w fun e w'=>e=.returned (.tuple #[.int .u64 (mag * 2 ^ k:Nat),.int .i64 0])∧Below w.heap.size w w':=by
  have h0:IntKind.i64.wrap (unit - exp)=-(k:Int):=by rw [wrap_i64_eq]; omega
  unfold valV
  go_enter Tryd.func79,Tryd.ntmps79
  have hw:IntKind.u64.wrap ((mag:Int) * 2 ^ min k 64)=((mag * 2 ^ k:Nat):Int):=by
    rw [IntKind.wrap_u64]
    by_cases h:k <= 64
    . rw [show min k 64=k by omega]
      have e:(mag:Int) * 2 ^ k=((mag * 2 ^ k:Nat):Int):=by push_cast; rfl
      rw [e]
      omega
    . have hz:mag=0:=by
        rcases Nat.eq_zero_or_pos mag with h0 | h0
        . exact h0
        . have h1:2 ^ 64 <= 2 ^ k:=Nat.pow_le_pow_right (by decide) (by omega)
          have h2:1 * 2 ^ k <= mag * 2 ^ k:=Nat.mul_le_mul_right _ h0
          have h3:(2:Nat) ^ 64=18446744073709551616:=by decide
          omega
      subst hz
      simp
  generalize ((mag * 2 ^ k:Nat):Int)=R at hw ⊢
  go_wp2
  refine bodyPost_ret (v:=.tuple #[.int .u64 R,.int .i64 0]) (by simp [results,Tryd.results79,go_sem]) rfl ⟨rfl,bel_alloc _ _⟩
theorem ret_ui {a b c d:Int} (h1:a=c) (h2:b=d):Ending.returned (.tuple #[.int .u64 a,.int .i64 b])=Ending.returned (.tuple #[.int .u64 c,.int .i64 d]):=by rw [h1,h2]
theorem rL_eq {mag k t m:Nat} {cut:Bool} (hk0:0 < k) (hm:mag < 18446744073709551616) (ht:mag % 2 ^ k=t) (hmid:(if k <= 64 then 2 ^ (k - 1) else 0)=m):rL mag cut (k:Int)=if t=0∧cut=false then 0 else if t < m∨64 < k then 1 else if t=m∧cut=false then 2 else 3:=by
  unfold rL
  rw [if_neg (by omega),Int.toNat_natCast,ht]
  obtain ⟨p,hp,hp0⟩:=two_half k hk0
  have hp2:2 ^ (k - 1)=p:=by
    have:2 ^ k=2 * 2 ^ (k - 1):=by rw [<- Nat.pow_succ',Nat.succ_eq_add_one,Nat.sub_add_cancel hk0]
    omega
  rw [hp]
  by_cases hk:k <= 64
  . rw [if_pos hk,hp2] at hmid
    subst hmid
    have e1:(2 * t < 2 * p)=(t < p∨64 < k):=propext ⟨fun h=>.inl (by omega),fun h=>by omega⟩
    have e2:(2 * t=2 * p∧cut=false)=(t=p∧cut=false):=propext ⟨fun h=>⟨by omega,h.2⟩,fun h=>⟨by omega,h.2⟩⟩
    simp only [e1,e2]
  . have hlt:2 * t < 2 * p:=by
      have h1:2 ^ 65 <= 2 ^ k:=Nat.pow_le_pow_right (by decide) (by omega)
      have h2:(2:Nat) ^ 65=36893488147419103232:=by decide
      have h3:=Nat.mod_le mag (2 ^ k)
      omega
    rw [if_pos hlt,if_pos (show t < m∨64 < k from .inr (by omega))]
set_option maxRecDepth 100000 in
set_option maxHeartbeats 1000000 in
theorem split_high (ng:Bool) (mag:Nat) (exp unit:Int) (cut sd:Bool) (w:World) (k:Nat) (hk:unit - exp=(k:Int)) (hk0:0 < k) (hk2:k < 20000000) (hm:mag < 18446744073709551616) :
    Calls Tryd.prog 79 #[valV ng mag exp cut sd,.int .i64 unit] w fun e w'=>e=.returned (.tuple #[.int .u64 (mag / 2 ^ k:Nat),.int .i64 (rL mag cut (k:Int))])∧Below w.heap.size w w':=by
  have h0:IntKind.i64.wrap (unit - exp)=(k:Int):=by rw [wrap_i64_eq]; omega
  unfold valV
  obtain ⟨u,hu⟩:∃ u,mag / 2 ^ k=u:=⟨_,rfl⟩
  obtain ⟨t,ht⟩:∃ t,mag % 2 ^ k=t:=⟨_,rfl⟩
  obtain ⟨m,hmid⟩:∃ m:Nat,(if k <= 64 then 2 ^ (k - 1) else 0)=m:=⟨_,rfl⟩
  have hd:=Nat.div_add_mod mag (2 ^ k)
  rw [hu,ht] at hd
  have hpc:∀ n:Nat,(2:Int) ^ n=((2 ^ n:Nat):Int):=fun n=>by simp
  have hbig:64 < k->u=0∧mag / 2 ^ 64=0:=fun h=>by
    have h1:2 ^ 64 <= 2 ^ k:=Nat.pow_le_pow_right (by decide) (by omega)
    have h2:(2:Nat) ^ 64=18446744073709551616:=by decide
    exact ⟨by rw [<- hu]; exact Nat.div_eq_of_lt (by omega),Nat.div_eq_of_lt (by omega)⟩
  have r1:(mag:Int) / 2 ^ min k 64=(u:Int):=by
    rw [hpc,<- Int.natCast_ediv]
    by_cases h:k <= 64
    . rw [show min k 64=k by omega,hu]
    . obtain ⟨h1,h2⟩:=hbig (by omega)
      rw [show min k 64=64 by omega,h1,h2]
  have r2:IntKind.u64.wrap ((u:Int) * 2 ^ min k 64)=(u:Int) * 2 ^ k:=by
    rw [IntKind.wrap_u64]
    by_cases h:k <= 64
    . rw [show min k 64=k by omega,hpc,<- Int.natCast_mul]
      have:u * 2 ^ k <= mag:=by rw [Nat.mul_comm]; omega
      omega
    . obtain ⟨h1,_⟩:=hbig (by omega)
      rw [h1]
      simp
  have r3:IntKind.u64.wrap ((mag:Int) - (u:Int) * 2 ^ k)=(t:Int):=by
    rw [IntKind.wrap_u64,hpc,<- Int.natCast_mul,Nat.mul_comm]
    have:t <= mag:=by omega
    omega
  have r4:IntKind.i64.wrap ((k:Int) - 1)=((k - 1:Nat):Int):=by rw [wrap_i64_eq]; omega
  have r5:IntKind.u64.wrap ((2:Int) ^ min (k - 1) 64)=(m:Int):=by
    rw [IntKind.wrap_u64,<- hmid]
    by_cases h:k <= 64
    . rw [if_pos h,show min (k - 1) 64=k - 1 by omega,hpc]
      have h1:2 ^ (k - 1) <= 2 ^ 63:=Nat.pow_le_pow_right (by decide) (by omega)
      have h2:(2:Nat) ^ 63=9223372036854775808:=by decide
      rw [h2] at h1
      generalize 2 ^ (k - 1)=p at h1 ⊢
      omega
    . rw [if_neg h,show min (k - 1) 64=64 by omega]
      decide
  have HRL:Hid (rL mag cut (k:Int)=if t=0∧cut=false then 0 else if t < m∨64 < k then 1 else if t=m∧cut=false then 2 else 3):=rL_eq hk0 hm ht hmid
  rw [hu]
  clear hd hpc hbig hmid ht hu
  have HW:Hid (IntKind.i64.wrap (unit - exp)=(k:Int)):=h0
  have g0:=heap_alloc_new w (.cells #[.bool ng,.int .u64 mag,.int .i64 exp,.bool cut,.bool sd] 52)
  have k1:=blkC g0 1 rfl
  go_enter Tryd.func79,Tryd.ntmps79
  go_wp2
  go_region_held3 (fun W=>W.cell? ⟨w.heap.size,1,none⟩=some (.int .u64 mag))
    (first | assumption | exact k1)
    (fail)
  all_goals go_wp2
  all_goals go_ret2
  all_goals exact ⟨ret_ui rfl (by rw [HRL.out]; clear HRL; cases cut <;> simp at * <;> (repeat' split) <;> omega),by first | exact (bel_alloc _ _).drew | exact bel_alloc _ _⟩
theorem split_any (ng:Bool) (mag:Nat) (exp unit:Int) (cut sd:Bool) (w:World) (hm:mag < 18446744073709551616) (hu:-5000000 <= unit∧unit <= 5000000) (he:-5000000 <= exp∧exp <= 5000000) (hs:unit - exp <= 0->rU mag (unit - exp) < 18446744073709551616) :
    Calls Tryd.prog 79 #[valV ng mag exp cut sd,.int .i64 unit] w fun e w'=>e=.returned (.tuple #[.int .u64 (rU mag (unit - exp):Nat),.int .i64 (rL mag cut (unit - exp))])∧Below w.heap.size w w':=by
  by_cases h:unit - exp <= 0
  . have:=hs h
    unfold rU rL at *
    rw [if_pos h] at *
    rw [if_pos h]
    exact split_low ng mag exp unit cut sd w (-(unit - exp)).toNat (by omega) (by omega) this
  . have e:unit - exp=((unit - exp).toNat:Int):=by omega
    have e1:rU mag (unit - exp)=mag / 2 ^ (unit - exp).toNat:=by unfold rU; rw [if_neg h]
    rw [e1,e]
    exact split_high ng mag exp unit cut sd w (unit - exp).toNat e (by omega) (by omega) hm
end Go.Proofs.YtkajoieoggajiaaDoor
