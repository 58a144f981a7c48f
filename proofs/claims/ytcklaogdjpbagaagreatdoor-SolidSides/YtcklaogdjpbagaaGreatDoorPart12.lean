/- Parts of the proof. -/
import Derived.Test.YtcklaogdjpbagaaGreatDoorPart11
import Derived.Test.YtcklaogdjpbagaaGreatDoorPart10
import Derived.Test.YtcklaogdjpbagaaGreatDoorPart9
import Derived.Laws.Externs
import Derived.Test.YtcklaogdjpbagaaGreatDoorPart8
import Derived.Test.YtcklaogdjpbagaaGreatDoorPart6
import Derived.Laws.MakeOwn
import Derived.Test.YtcklaogdjpbagaaGreatDoorPart7
import Derived.BigQuiet
import Derived.Laws.Rows
import Derived.Laws.Tables
import Derived.Test.YtcklaogdjpbagaaGreatDoorPart5
set_option linter.unusedVariables false
set_option linter.unusedSimpArgs false
namespace Go.Proofs.YtcklaogdjpbagaaGreatDoor
open Go Go.RowKit Go.Proofs.YtcklaogdjpbagaaGreatDoor.M
theorem V_zero_iff {r:Nat}:(V Ieee.double r:Int)=0 ↔ r=0:=by
  constructor
  . intro h
    by_cases h0:r=0
    . exact h0
    . have:=V_lt Ieee.double (show 0<r by omega)
      rw [V_zero] at this
      omega
  . rintro rfl
    rw [V_zero]
    rfl
theorem iV_key {p:Int} (hp:rng p):(iV p<0 ↔ key p<0)∧(0<iV p ↔ 0<key p):=by
  have hz:=@V_zero_iff (rg p).toNat
  have hr:=q_rg hp
  unfold rng at hp
  have hv:(0:Int)<=(V Ieee.double (rg p).toNat:Int):=by omega
  by_cases h:p<0
  . have e1:iV p=-(V Ieee.double (rg p).toNat:Int):=by unfold iV sg; simp [h]
    have e2:key p=-(rg p):=by unfold key rg; rw [if_pos h,if_pos h]
    rw [e1,e2]
    constructor <;> constructor <;> intro g <;> omega
  . have e1:iV p=(V Ieee.double (rg p).toNat:Int):=by unfold iV sg; simp [h]
    have e2:key p=rg p:=by unfold key rg; rw [if_neg h,if_neg h]
    rw [e1,e2]
    constructor <;> constructor <;> intro g <;> omega
theorem iV_mono {p q:Int} (hp:rng p) (hq:rng q) (h:key p<key q):iV p<iV q:=by
  have rp:=q_rg hp
  have rq:=q_rg hq
  have ep:iV p=if p<0 then -(V Ieee.double (rg p).toNat:Int) else (V Ieee.double (rg p).toNat:Int):=by unfold iV sg; by_cases g:p<0 <;> simp [g]
  have eq':iV q=if q<0 then -(V Ieee.double (rg q).toNat:Int) else (V Ieee.double (rg q).toNat:Int):=by unfold iV sg; by_cases g:q<0 <;> simp [g]
  have kp:key p=if p<0 then -(rg p) else rg p:=by unfold key rg; by_cases g:p<0 <;> simp [g]
  have kq:key q=if q<0 then -(rg q) else rg q:=by unfold key rg; by_cases g:q<0 <;> simp [g]
  have zp:=@V_zero_iff (rg p).toNat
  have zq:=@V_zero_iff (rg q).toNat
  have m1:rg p<rg q->(V Ieee.double (rg p).toNat:Int)<V Ieee.double (rg q).toNat:=fun g=>by
    have:=V_lt Ieee.double (show (rg p).toNat<(rg q).toNat by omega)
    omega
  have m2:rg q<rg p->(V Ieee.double (rg q).toNat:Int)<V Ieee.double (rg p).toNat:=fun g=>by
    have:=V_lt Ieee.double (show (rg q).toNat<(rg p).toNat by omega)
    omega
  rw [kp,kq] at h
  rw [ep,eq']
  have hA0:(0:Int)<=(V Ieee.double (rg p).toNat:Int):=by omega
  have hB0:(0:Int)<=(V Ieee.double (rg q).toNat:Int):=by omega
  clear ep eq' kp kq
  generalize (V Ieee.double (rg p).toNat:Int)=A at *
  generalize (V Ieee.double (rg q).toNat:Int)=B at *
  by_cases a:p<0 <;> by_cases b:q<0 <;> simp only [a,b,if_true,if_false] at h ⊢ <;> omega
end Go.Proofs.YtcklaogdjpbagaaGreatDoor
namespace Go.Proofs.YtcklaogdjpbagaaGreatDoor
open Go Go.RowKit Go.Proofs.YtcklaogdjpbagaaGreatDoor.M Ieee
end Go.Proofs.YtcklaogdjpbagaaGreatDoor
namespace Go.Proofs.YtcklaogdjpbagaaGreatDoor
open Go Go.RowKit Go.Proofs.YtcklaogdjpbagaaGreatDoor.M
def BlkN (w:World) (g N k:Nat) (q:Nat->NumR):Prop :=
  ∃ cur:Array Value,w.heap[g]?=some (.cells cur 33 (0,0))∧cur.size=N*3∧∀ i,i<k->(cur[i*3]?=some (.bool (q i).ng)∧cur[i*3+1]?=some (.slice (q i).ao (q i).n (q i).cap)∧cur[i*3+2]?=some (.int .i64 (q i).e))∧Row w (q i).ao (q i).n (q i).cap (q i).d
theorem info_num:∃ i,Tryz.prog.info? 33=some i∧i.zero=some (.agg #[.bool false,.slice none 0 0,.int .i64 0])∧i.size=3∧i.bytes=40:=by
  have h:(Tryz.prog.info? 33).map (fun i=>(i.zero,i.size,i.bytes))=some (some (.agg #[.bool false,.slice none 0 0,.int .i64 0]),3,40):=by kernel_rfl
  obtain ⟨i,hi,hzz⟩:=Option.map_eq_some_iff.1 h
  simp only [Prod.mk.injEq] at hzz
  exact ⟨i,hi,hzz⟩
theorem make_nums (n:Nat) (hn:n<=100000) (w:World) :
    (Instr.makeSlice 128 (.int .i64 (n:Int)) (.int .i64 (n:Int))).run Tryz.prog w=.ok (.slice (some ⟨w.heap.size,0,none⟩) n n) (w.alloc (.cells (madeCells #[.bool false,.slice none 0 0,.int .i64 0] (n*3)) 33)):=by
  obtain ⟨i,hi,hz,hs,hb⟩:=info_num
  have:=run_make (P:=Tryz.prog) w 128 33 i _ Tryz.underlying128 hi hz .i64 .i64 n n (by omega) (Int.le_refl _) (by rw [hb]; omega) (by omega)
  simp only [Int.toNat_natCast,hs] at this
  exact this
def updN (q:Nat->NumR) (k:Nat) (x:NumR):Nat->NumR:=fun j=>if j=k then x else q j
theorem updN_same (q:Nat->NumR) (k:Nat) (x:NumR):updN q k x k=x:=by simp [updN]
theorem updN_other (q:Nat->NumR) {k j:Nat} (x:NumR) (h:j≠k):updN q k x j=q j:=by simp [updN,h]
theorem keep3W {W w':World} {b g o0 o1 o2:Nat} {x y z:Value} (h:W.cell? ⟨b,o0,none⟩=some x∧W.cell? ⟨b,o1,none⟩=some y∧W.cell? ⟨b,o2,none⟩=some z) (hw:Wr g W w') (hg:b≠g) :
    w'.cell? ⟨b,o0,none⟩=some x∧w'.cell? ⟨b,o1,none⟩=some y∧w'.cell? ⟨b,o2,none⟩=some z :=
  ⟨(hw.cell (World.block_lt_of_cell? W _ h.1) hg).trans h.1,(hw.cell (World.block_lt_of_cell? W _ h.2.1) hg).trans h.2.1,(hw.cell (World.block_lt_of_cell? W _ h.2.2) hg).trans h.2.2⟩
theorem keep3B {W w':World} {b o0 o1 o2:Nat} {x y z:Value} (h:W.cell? ⟨b,o0,none⟩=some x∧W.cell? ⟨b,o1,none⟩=some y∧W.cell? ⟨b,o2,none⟩=some z) (hb:Below W.heap.size W w') :
    w'.cell? ⟨b,o0,none⟩=some x∧w'.cell? ⟨b,o1,none⟩=some y∧w'.cell? ⟨b,o2,none⟩=some z:=⟨cell_keeps h.1 hb,cell_keeps h.2.1 hb,cell_keeps h.2.2 hb⟩
theorem wr3 (W:World) (g o0 o1 o2:Nat) (x y z:Value):Wr g W (((W.setCell ⟨g,o0,none⟩ x).setCell ⟨g,o1,none⟩ y).setCell ⟨g,o2,none⟩ z):=(((Wr.refl g W).setCell o0 x).setCell o1 y).setCell o2 z
theorem Row.wrN {w w':World} {g:Nat} {ao:Option Addr} {n cap:Nat} {d:Nat->Int} (h:Row w ao n cap d) (hw:Wr g w w') {cur:Array Value} {z:Nat × Nat} (hg:w.heap[g]?=some (.cells cur 33 z)) (ht:∀ b off,ao=some ⟨b,off,none⟩->0<n->b≠g):Row w' ao n cap d :=
  ⟨h.le,h.max,h.nl,fun hn=>by
    obtain ⟨b,off,rfl,hlt,hc⟩:=h.spot hn
    exact ⟨b,off,rfl,Nat.lt_of_lt_of_le hlt hw.size,fun i hi=>(hw.cell (p:=⟨b,off+i,none⟩) hlt (ht b off rfl hn)).trans (hc i hi)⟩⟩
theorem Ans.open {w w':World} {V:Int} {so:Option Addr} {sn sc:Nat} (h:Ans w w' V (.slice so sn sc)):∃ d,Row w' so sn sc d∧Nrm d sn∧val d sn=V∧∀ b off,so=some ⟨b,off,none⟩->w.heap.size<=b:=by
  obtain ⟨t,d,hO,hN,hV,_⟩:=h
  have hge:=own_ge hO
  obtain ⟨so',sc',e,hR⟩:=hO.row
  simp only [Value.slice.injEq] at e
  obtain ⟨rfl,rfl,rfl⟩:=e
  exact ⟨d,hR,hN,hV,fun b off hb=>hge b (by rw [hb]; rfl)⟩
theorem bel_set3' {w0 w:World} {g o0 o1 o2:Nat} (h:Below w0.heap.size w0 w) (hg:w0.heap.size<=g) (x y z:Value):Below w0.heap.size w0 (((w.setCell ⟨g,o0,none⟩ x).setCell ⟨g,o1,none⟩ y).setCell ⟨g,o2,none⟩ z):=((h.setCell (p:=⟨g,o0,none⟩) hg x).setCell (p:=⟨g,o1,none⟩) hg y).setCell (p:=⟨g,o2,none⟩) hg z
theorem set3_get {cur:Array Value} {k:Nat} {x y z:Value} (h:k*3+2<cur.size) (i:Nat) :
    let c:=((cur.setIfInBounds (k*3) x).setIfInBounds (k*3+1) y).setIfInBounds (k*3+2) z
    (i=k->c[i*3]?=some x∧c[i*3+1]?=some y∧c[i*3+2]?=some z)∧(i≠k->c[i*3]?=cur[i*3]?∧c[i*3+1]?=cur[i*3+1]?∧c[i*3+2]?=cur[i*3+2]?):=by
  intro c
  refine ⟨fun e=>?_,fun e=>?_⟩
  . subst e
    refine ⟨?_,?_,?_⟩
    . show (((cur.setIfInBounds (i*3) x).setIfInBounds (i*3+1) y).setIfInBounds (i*3+2) z)[i*3]?=some x
      rw [Array.getElem?_setIfInBounds_ne (by omega),Array.getElem?_setIfInBounds_ne (by omega),Array.getElem?_setIfInBounds_self_of_lt (by omega)]
    . show (((cur.setIfInBounds (i*3) x).setIfInBounds (i*3+1) y).setIfInBounds (i*3+2) z)[i*3+1]?=some y
      rw [Array.getElem?_setIfInBounds_ne (by omega),Array.getElem?_setIfInBounds_self_of_lt (by simp; omega)]
    . show (((cur.setIfInBounds (i*3) x).setIfInBounds (i*3+1) y).setIfInBounds (i*3+2) z)[i*3+2]?=some z
      rw [Array.getElem?_setIfInBounds_self_of_lt (by simp; omega)]
  . refine ⟨?_,?_,?_⟩
    all_goals
      show (((cur.setIfInBounds (k*3) x).setIfInBounds (k*3+1) y).setIfInBounds (k*3+2) z)[_]?=_
      rw [Array.getElem?_setIfInBounds_ne (by omega),Array.getElem?_setIfInBounds_ne (by omega),Array.getElem?_setIfInBounds_ne (by omega)]
theorem BlkN.step {wr w3:World} {g N k:Nat} {q:Nat->NumR} (h:BlkN wr g N k q) (hb:Below wr.heap.size wr w3) (x:NumR) (hx:Row w3 x.ao x.n x.cap x.d) (hk:k<N) (hg:∀ i b' off,i<k->(q i).ao=some ⟨b',off,none⟩->0<(q i).n->g<b') (hg2:∀ b' off,x.ao=some ⟨b',off,none⟩->0<x.n->g<b') :
    BlkN (((w3.setCell ⟨g,k*3,none⟩ (.bool x.ng)).setCell ⟨g,k*3+1,none⟩ (.slice x.ao x.n x.cap)).setCell ⟨g,k*3+2,none⟩ (.int .i64 x.e)) g N (k+1) (updN q k x):=by
  obtain ⟨cur,hcur,hsz,hc⟩:=h
  have q0:=(hb.block g (Array.getElem?_eq_some_iff.1 hcur).1).trans hcur
  have q1:=heap_set (heap_set (heap_set q0 (k*3) (.bool x.ng)) (k*3+1) (.slice x.ao x.n x.cap)) (k*3+2) (.int .i64 x.e)
  have hw:=wr3 w3 g (k*3) (k*3+1) (k*3+2) (.bool x.ng) (.slice x.ao x.n x.cap) (.int .i64 x.e)
  refine ⟨_,q1,by simp [hsz],fun i hi=>?_⟩
  have hs:=set3_get (cur:=cur) (k:=k) (x:=.bool x.ng) (y:=.slice x.ao x.n x.cap) (z:=.int .i64 x.e) (by omega) i
  by_cases e:i=k
  . subst e
    rw [updN_same]
    exact ⟨hs.1 rfl,hx.wrN hw q0 fun b' off he hn=>by have:=hg2 b' off he hn; omega⟩
  . rw [updN_other q x e]
    obtain ⟨s0,s1,s2⟩:=hs.2 e
    obtain ⟨⟨c0,c1,c2⟩,hR⟩:=hc i (by omega)
    refine ⟨⟨s0.trans c0,s1.trans c1,s2.trans c2⟩,(hR.keeps hb).wrN hw q0 fun b' off he hn=>?_⟩
    have:=hg i b' off (by omega) he hn
    omega
theorem BlkN.nums {w:World} {g N:Nat} {q:Nat->NumR} (h:BlkN w g N N q) (hN:N<=100000):Nums w (some ⟨g,0,none⟩) N N q:=by
  obtain ⟨cur,hcur,hsz,hc⟩:=h
  refine ⟨Nat.le_refl _,by omega,fun _=>⟨g,0,rfl,(Array.getElem?_eq_some_iff.1 hcur).1,fun i hi=>?_⟩⟩
  obtain ⟨⟨c0,c1,c2⟩,hR⟩:=hc i hi
  rw [Nat.zero_add]
  exact ⟨blkC hcur _ c0,blkC hcur _ c1,blkC hcur _ c2,hR⟩
set_option maxRecDepth 100000 in
set_option maxHeartbeats 2000000 in
theorem products_any (ao bo:Option Addr) (n ca cb:Nat) (a b:Nat->NumR) (w:World) (ha:Nums w ao n ca a) (hb:Nums w bo n cb b) (hn:n<=100000) (sa:∀ i,i<n->Sane (a i)) (sb:∀ i,i<n->Sane (b i)) :
    Calls Tryz.prog 137 #[.slice ao n ca,.slice bo n cb] w fun x w'=>∃ g q,x=.returned (.slice (some ⟨g,0,none⟩) n n)∧w.heap.size<=g∧Nums w' (some ⟨g,0,none⟩) n n q∧Below w.heap.size w w'∧∀ i,i<n->Nrm (q i).d (q i).n∧(q i).ng=((a i).ng != (b i).ng)∧val (q i).d (q i).n=val (a i).d (a i).n*val (b i).d (b i).n∧(q i).e=(a i).e+(b i).e:=by
  have hla:=ha.le
  have hma:=ha.max
  have hlb:=hb.le
  have hmb:=hb.max
  have hmake:=make_nums n hn
  go_enter Tryz.func137,Tryz.ntmps137
  go_wp2_with fail
  have hb0:=bel_alloc w (.cells (madeCells #[.bool false,.slice none 0 0,.int .i64 0] (n*3)) 33)
  have g0:=heap_a1 w (.cells (madeCells #[.bool false,.slice none 0 0,.int .i64 0] (n*3)) 33)
  have HB0:Hid (BlkN (w.alloc (.cells (madeCells #[.bool false,.slice none 0 0,.int .i64 0] (n*3)) 33)) w.heap.size n 0 a):=⟨_,g0,by rw [size_madeCells],fun i hi=>by omega⟩
  clear g0 hmake
  generalize w.alloc (.cells (madeCells #[.bool false,.slice none 0 0,.int .i64 0] (n*3)) 33)=wx at hb0 HB0 ⊢
  go_loopw [12] (fun iv wr=>∃ (k:Nat) (q:Nat->NumR),k<=n∧iv=.int .i64 k∧Hid (BlkN wr w.heap.size n k q)∧Hid (∀ i,i<k->Nrm (q i).d (q i).n∧(q i).ng=((a i).ng != (b i).ng)∧val (q i).d (q i).n=val (a i).d (a i).n*val (b i).d (b i).n∧(q i).e=(a i).e+(b i).e)∧Hid (∀ i b' off,i<k->(q i).ao=some ⟨b',off,none⟩->0<(q i).n->w.heap.size<b')∧Below w.heap.size w wr) (fun iv _=>n-(intOf iv).toNat)
  case atStart=>exact ⟨0,a,Nat.zero_le _,rfl,HB0,fun i hi=>by omega,fun i b' off hi=>by omega,hb0⟩
  case round=>
    obtain ⟨k,q,hk,rfl,HQ,HF,HG,hbw⟩:=hrel
    clear HB0 hb0
    by_cases hlt:k<n
    . obtain ⟨ba,oa,rfl,hba,hca⟩:=ha.spot (by omega)
      obtain ⟨bb,ob,rfl,hbb,hcb⟩:=hb.spot (by omega)
      obtain ⟨c0,c1,c2,ra⟩:=(hca k hlt).keeps hbw hba
      obtain ⟨d0,d1,d2,rb⟩:=(hcb k hlt).keeps hbw hbb
      have CP:=fun W (h:Below wr.heap.size wr W)=>dproduct_any (a k) (b k) W (ra.keeps h) (rb.keeps h) (sa k hlt) (sb k hlt)
      have hea:Hid (-1100000<=(a k).e∧(a k).e<=1100000):=(sa k hlt).2.2
      have heb:Hid (-1100000<=(b k).e∧(b k).e<=1100000):=(sb k hlt).2.2
      have HAK:Hid (∀ x,a k=x->a k=x):=fun _ h=>h
      clear hca hcb ra rb
      obtain ⟨xa,hxa⟩:∃ x,a k=x:=⟨_,rfl⟩
      obtain ⟨xb,hxb⟩:∃ x,b k=x:=⟨_,rfl⟩
      rw [hxa] at c0 c1 c2 CP hea
      rw [hxb] at d0 d1 d2 CP heb
      have HXA:Hid (a k=xa):=hxa
      have HXB:Hid (b k=xb):=hxb
      clear hxa hxb HAK
      unfold NumR.v at CP
      obtain ⟨ag,aao,an,aca,ad,ae⟩:=xa
      obtain ⟨bg,bao,bn,bca,bd,be⟩:=xb
      simp only at c0 c1 c2 d0 d1 d2 CP hea heb
      obtain ⟨cur,hcur,hsz,hcells⟩:=HQ.out
      have HCL:Hid _:=hcells
      have e0:k*3<cur.size:=by omega
      have e1:k*3+1<cur.size:=by omega
      have e2:k*3+2<cur.size:=by omega
      obtain ⟨v0,hv0⟩:∃ v,cur[k*3]?=some v:=⟨_,Array.getElem?_eq_getElem e0⟩
      obtain ⟨v1,hv1⟩:∃ v,cur[k*3+1]?=some v:=⟨_,Array.getElem?_eq_getElem e1⟩
      obtain ⟨v2,hv2⟩:∃ v,cur[k*3+2]?=some v:=⟨_,Array.getElem?_eq_getElem e2⟩
      have HV:Hid (cur[k*3]?=some v0∧cur[k*3+1]?=some v1∧cur[k*3+2]?=some v2):=⟨hv0,hv1,hv2⟩
      have HSZ:Hid (cur.size=n*3):=hsz
      have HCUR:Hid (wr.heap[w.heap.size]?=some (.cells cur 33 (0,0))):=hcur
      have hgs:w.heap.size<wr.heap.size:=(Array.getElem?_eq_some_iff.1 hcur).1
      clear hcells hv0 hv1 hv2 hcur hsz e0 e1 e2
      have i0:(0:Int)<=(k:Int):=by omega
      have i1:(k:Int)<(n:Int):=by omega
      have kc0:(wr.drew.cell? ⟨ba,oa+k*3,none⟩=some (.bool ag)∧wr.drew.cell? ⟨ba,oa+k*3+1,none⟩=some (.slice aao an aca)∧wr.drew.cell? ⟨ba,oa+k*3+2,none⟩=some (.int .i64 ae))∧wr.drew.cell? ⟨bb,ob+k*3,none⟩=some (.bool bg)∧wr.drew.cell? ⟨bb,ob+k*3+1,none⟩=some (.slice bao bn bca)∧wr.drew.cell? ⟨bb,ob+k*3+2,none⟩=some (.int .i64 be):=⟨⟨c0,c1,c2⟩,d0,d1,d2⟩
      have hb1:=bel_refl wr
      go_wp2_with fail
      go_region_held3 (fun W=>(W.cell? ⟨ba,oa+k*3,none⟩=some (.bool ag)∧W.cell? ⟨ba,oa+k*3+1,none⟩=some (.slice aao an aca)∧W.cell? ⟨ba,oa+k*3+2,none⟩=some (.int .i64 ae))∧W.cell? ⟨bb,ob+k*3,none⟩=some (.bool bg)∧W.cell? ⟨bb,ob+k*3+1,none⟩=some (.slice bao bn bca)∧W.cell? ⟨bb,ob+k*3+2,none⟩=some (.int .i64 be))
        (first | assumption | exact ⟨keep3W kc1.1 (wr3 _ _ _ _ _ _ _ _) (by omega),keep3W kc1.2 (wr3 _ _ _ _ _ _ _ _) (by omega)⟩)
        ((go_at_call 155; refine (CP _ hb1.drew).mono ?_; rintro y w3 ⟨s,rfl,hA⟩; have hbv1:=hA.below; have kc1:=And.intro (keep3B kc0.1 hbv1) (keep3B kc0.2 hbv1); obtain ⟨so,sn,sc,rfl⟩:=hA.num.shape; have q0:=(hbv1.block w.heap.size hgs).trans HCUR.out; have x0:=blkC q0 (k*3) HV.out.1; have x1:=blkC q0 (k*3+1) HV.out.2.1; have x2:=blkC q0 (k*3+2) HV.out.2.2; have z0:=blkF q0 (k*3); have z1:=blkF q0 (k*3+1); have z2:=blkF q0 (k*3+2)))
      all_goals go_wp2
      all_goals
        go_roundw
        case rel=>
          obtain ⟨dd,hRd,hNd,hVd,hgd⟩:=hA.open
          have hgs2:∀ b' off,so=some ⟨b',off,none⟩->0<sn->w.heap.size<b':=fun b' off he _=>by
            have h9:=hgd b' off he
            have h8:w.heap.size<wr.drew.heap.size:=hgs
            omega
          refine ⟨k+1,updN q k ⟨ag != bg,so,sn,sc,dd,ae+be⟩,by omega,by go_num,BlkN.step (x:=⟨ag != bg,so,sn,sc,dd,ae+be⟩) HQ.out (bel_trans hb1.drew hbv1) hRd hlt HG.out hgs2,fun i hi=>?_,fun i b' off hi he hn'=>?_,bel_set3' (bel_trans hbw (bel_trans hb1.drew hbv1)) (Nat.le_refl _) _ _ _⟩
          . by_cases e:i=k
            . subst e
              rw [updN_same,HXA.out,HXB.out]
              exact ⟨hNd,rfl,hVd,rfl⟩
            . rw [updN_other _ _ e]
              exact HF.out i (by omega)
          . by_cases e:i=k
            . subst e
              rw [updN_same] at he hn'
              exact hgs2 b' off he hn'
            . rw [updN_other _ _ e] at he hn'
              exact HG.out i b' off (by omega) he hn'
        case measure=>simp [intOf]; omega
    . obtain rfl:k=n:=by omega
      go_wp2
      go_ret
      exact ⟨_,q,rfl,Nat.le_refl _,HQ.out.nums hn,hbw,HF.out⟩
def dotV (a b:Nat->NumR):Nat->Int | 0=>0 | k+1=>dotV a b k+mulV (a k) (b k)
theorem sumV_dot {a b q:Nat->NumR}:∀ n,(∀ i,i<n->(q i).ng=((a i).ng != (b i).ng)∧val (q i).d (q i).n=val (a i).d (a i).n*val (b i).d (b i).n∧(q i).e=(a i).e+(b i).e)->sumV q n=dotV a b n
  | 0,_=>rfl
  | k+1,h=>by
    obtain ⟨h1,h2,h3⟩:=h k (by omega)
    show sumV q k+sg (q k).ng (val (q k).d (q k).n)*pw (q k).e=dotV a b k+sg ((a k).ng != (b k).ng) (val (a k).d (a k).n*val (b k).d (b k).n)*pw ((a k).e+(b k).e)
    rw [sumV_dot k fun i hi=>h i (by omega),h1,h2,h3]
def Half (x:NumR):Prop:=-500000<=x.e∧x.e<=500000
theorem prod_sane {x y q:NumR} (ox:okR x=true) (oy:okR y=true) (hx:Half x) (hy:Half y) (h0:Nrm q.d q.n) (h2:val q.d q.n=val x.d x.n*val y.d y.n) (h3:q.e=x.e+y.e):Sane q:=by
  refine ⟨h0,?_,?_,?_⟩
  . have a:=(okR_dy ox).2.1
    have b:=(okR_dy oy).2.1
    have a0:=val_nonneg (okR_sane ox).1.1
    have b0:=val_nonneg (okR_sane oy).1.1
    by_cases hq:q.n<=5000
    . exact hq
    . exfalso
      have c:=val_top h0.1 (by omega) h0.2
      have d:=P_le (show 4000<=q.n-1 by omega)
      have e:val x.d x.n*val y.d y.n<P 2000*P 2000:=by
        by_cases hz:val x.d x.n=0
        . rw [hz,Int.zero_mul]; exact Int.mul_pos (P_pos _) (P_pos _)
        . exact Int.lt_of_lt_of_le (Int.mul_lt_mul_of_pos_left b (by omega)) (Int.mul_le_mul_of_nonneg_right (by omega) (Int.le_of_lt (P_pos _)))
      have f:P 2000*P 2000=P 4000:=by rw [P_two 2000,P_two 4000,<- Int.pow_add,show 30*2000+30*2000=30*4000 from rfl]
      rw [f] at e
      rw [h2] at c
      generalize P 4000=Y at *
      omega
  . unfold Half at *; omega
  . unfold Half at *; omega
set_option maxRecDepth 100000 in
set_option maxHeartbeats 2000000 in
theorem dot1_any (ao bo:Option Addr) (n ca cb:Nat) (a b:Nat->NumR) (p p2:Addr) (w:World) (c:w.cell? p=some (.slice ao n ca)) (c2:w.cell? p2=some (.slice bo n cb)) (ha:Nums w ao n ca a) (hb:Nums w bo n cb b) (oa:∀ i,i<n->okR (a i)=true) (ob:∀ i,i<n->okR (b i)=true) (la:∀ i,i<n->Half (a i)) (lb:∀ i,i<n->Half (b i)) (hn:n<=100000) (hT:Tab w) :
    Calls Tryz.prog 136 #[.pointer (some p),.pointer (some p2)] w (DOut w (dotV a b n)):=by
  have hbe:=bel_alloc w (.cells #[.bool false,.slice none 0 0,.int .i64 0] 33)
  have k0:=cell_keeps c hbe
  have k1:=cell_keeps c2 hbe
  have g0:=heap_a1 w (.cells #[.bool false,.slice none 0 0,.int .i64 0] 33)
  have CP:=products_any ao bo n ca cb a b _ (ha.keeps hbe) (hb.keeps hbe) hn (fun i hi=>okR_sane (oa i hi)) (fun i hi=>okR_sane (ob i hi))
  have hTx:=hT.keeps hbe
  have HSUM:Hid (∀ W g q,Nums W (some ⟨g,0,none⟩) n n q->(∀ i,i<n->Nrm (q i).d (q i).n∧(q i).ng=((a i).ng != (b i).ng)∧val (q i).d (q i).n=val (a i).d (a i).n*val (b i).d (b i).n∧(q i).e=(a i).e+(b i).e)->Tab W->Calls Tryz.prog 107 #[.slice (some ⟨g,0,none⟩) n n] W (DOut W (dotV a b n))):=fun W g q hN hF hTW=>by
    have:=total_any (some ⟨g,0,none⟩) n n q W hN (fun i hi=>prod_sane (oa i hi) (ob i hi) (la i hi) (lb i hi) (hF i hi).1 (hF i hi).2.2.1 (hF i hi).2.2.2) hn hTW
    rwa [sumV_dot n fun i hi=>(hF i hi).2] at this
  generalize dotV a b n=V at HSUM ⊢
  clear oa ob la lb ha hb
  go_enter Tryz.func136,Tryz.ntmps136
  go_wp2_with fail
  generalize w.alloc (.cells #[.bool false,.slice none 0 0,.int .i64 0] 33)=wx at *
  refine CP.mono ?_
  rintro x w1 ⟨g,q,rfl,hg,hN,hb1,hF⟩
  have HF:Hid _:=hF
  clear hF
  go_wp2_with fail
  refine (HSUM.out _ _ _ hN HF.out (hTx.keeps hb1)).mono ?_
  rintro x w7 (⟨hok,v,rfl,hD⟩ | ⟨hno,rfl,hb7⟩)
  . have hb7:=hD.below
    obtain ⟨ng',s',m',e',rfl,hyy,hA2⟩:=id hD
    obtain ⟨so',sn',sc',rfl⟩:=hA2.num.shape
    have hlt:=(Array.getElem?_eq_some_iff.1 g0).1
    have q0:=((bel_trans hb1 hb7).block w.heap.size hlt).trans g0
    have x0:=blkC q0 0 rfl
    have x1:=blkC q0 1 rfl
    have x2:=blkC q0 2 rfl
    have z0:=blkF q0 0
    have z1:=blkF q0 1
    have z2:=blkF q0 2
    go_wp2
    refine bodyPost_ret (v:=.agg #[.bool ng',.slice so' sn' sc',.int .i64 e']) (by simp [results,Tryz.results136,go_sem,x0,x1,x2]) rfl ?_
    exact .inl ⟨hok,_,rfl,dans_res3 (g:=w.heap.size) hD (bel_trans hbe hb1) (Nat.le_refl _) (Nat.lt_of_lt_of_le hlt hb1.size) _ _ _⟩
  . exact ⟨rfl,.inr ⟨hno,rfl,bel_trans (bel_trans hbe hb1) hb7⟩⟩
set_option maxRecDepth 100000 in
set_option maxHeartbeats 2000000 in
theorem ddot_ok (ao bo:Option Addr) (n ca cb:Nat) (a b:Nat->NumR) (w:World) (ha:Nums w ao n ca a) (hb:Nums w bo n cb b) (oa:allOk a n=true) (ob:allOk b n=true) (la:∀ i,i<n->Half (a i)) (lb:∀ i,i<n->Half (b i)) (hn:n<=100000) (hT:Tab w) :
    Calls Tryz.prog 113 #[.slice ao n ca,.slice bo n cb] w fun x w'=>∃ v er,x=.returned (.tuple #[v,.int .i64 er])∧DFit w w' (dotV a b n) v er:=by
  have hmf:∀ (fn:Fn) (first cap:Array Value) (w:World),(Instr.makeFunc fn first cap).run Tryz.prog w=.ok (.func fn first cap) w:=fun _ _ _ _=>rfl
  have hE:∀ (cap:Array Value) (w:World),(callFunc 136 cap).run Tryz.prog w=.ok (.enter 136 cap) w:=by
    intro cap w
    simp [go_sem]
  have hla:=ha.le
  have hma:=ha.max
  have hlb:=hb.le
  have hmb:=hb.max
  have CA:=fun W (h:Below w.heap.size w W)=>dvalids_any ao n ca a W (ha.keeps h)
  have CB:=fun W (h:Below w.heap.size w W)=>dvalids_any bo n cb b W (hb.keeps h)
  have CD:Hid (∀ W p p2,Below w.heap.size w W->W.cell? p=some (.slice ao n ca)->W.cell? p2=some (.slice bo n cb)->Calls Tryz.prog 136 #[.pointer (some p),.pointer (some p2)] W (DOut W (dotV a b n))):=fun W p p2 h c1 c2=>dot1_any ao bo n ca cb a b p p2 W c1 c2 (ha.keeps h) (hb.keeps h) (allOk_out oa) (allOk_out ob) la lb hn (hT.keeps h)
  generalize dotV a b n=V at CD ⊢
  rw [oa] at CA
  rw [ob] at CB
  clear ha hb oa ob la lb hT
  have hb3:=bel_a3 w (.cells #[.slice ao n ca] 128) (.cells #[.slice bo n cb] 128) (.cells #[.bool false,.slice none 0 0,.int .i64 0] 33)
  have g0:=h3_0 w (.cells #[.slice ao n ca] 128) (.cells #[.slice bo n cb] 128) (.cells #[.bool false,.slice none 0 0,.int .i64 0] 33)
  have g1:=h3_1 w (.cells #[.slice ao n ca] 128) (.cells #[.slice bo n cb] 128) (.cells #[.bool false,.slice none 0 0,.int .i64 0] 33)
  have g2:=h3_2 w (.cells #[.slice ao n ca] 128) (.cells #[.slice bo n cb] 128) (.cells #[.bool false,.slice none 0 0,.int .i64 0] 33)
  go_enter Tryz.func113,Tryz.ntmps113
  go_wp2_with fail
  generalize ((w.alloc (.cells #[.slice ao n ca] 128)).alloc (.cells #[.slice bo n cb] 128)).alloc (.cells #[.bool false,.slice none 0 0,.int .i64 0] 33)=wx at hb3 g0 g1 g2 ⊢
  refine (CA _ hb3).mono ?_
  rintro x w1 ⟨rfl,hb1⟩
  have hbw:=bel_trans hb3 hb1
  replace g0:=(hb1.block _ (Array.getElem?_eq_some_iff.1 g0).1).trans g0
  replace g1:=(hb1.block _ (Array.getElem?_eq_some_iff.1 g1).1).trans g1
  replace g2:=(hb1.block _ (Array.getElem?_eq_some_iff.1 g2).1).trans g2
  have k1:=blkC g1 0 rfl
  go_wp2_with fail
  clear k1
  refine (CB _ hbw).mono ?_
  rintro x w2 ⟨rfl,hb2⟩
  have hbw2:=bel_trans hbw hb2
  replace g0:=(hb2.block _ (Array.getElem?_eq_some_iff.1 g0).1).trans g0
  replace g1:=(hb2.block _ (Array.getElem?_eq_some_iff.1 g1).1).trans g1
  replace g2:=(hb2.block _ (Array.getElem?_eq_some_iff.1 g2).1).trans g2
  have hs3:=(Array.getElem?_eq_some_iff.1 g2).1
  go_wp2_with fail
  refine (told_any (V:=V) (hE _) (fun W hW=>CD.out W _ _ (bel_trans hbw2 hW) (blkC ((hW.block _ (by omega)).trans g0) 0 rfl) (blkC ((hW.block _ (by omega)).trans g1) 0 rfl))).mono ?_
  rintro x w3 ⟨v,er,rfl,hF⟩
  obtain ⟨ng',so,sn,sc,e',rfl⟩:=hF.shape
  have q0:=(hF.1.block (w.heap.size+2) hs3).trans g2
  have x0:=blkC q0 0 rfl
  have x1:=blkC q0 1 rfl
  have x2:=blkC q0 2 rfl
  have z0:=blkF q0 0
  have z1:=blkF q0 1
  have z2:=blkF q0 2
  go_wp2
  refine bodyPost_ret (v:=.tuple #[.agg #[.bool ng',.slice so sn sc,.int .i64 e'],.int .i64 er]) (by simp [results,Tryz.results113,go_sem,x0,x1,x2]) rfl ⟨_,_,rfl,?_⟩
  exact dfit_res (g:=w.heap.size+2) hF hbw2 (by omega) (by omega) _ _ _
theorem Nums.at {w:World} {g n:Nat} {q:Nat->NumR} (h:Nums w (some ⟨g,0,none⟩) n n q) (i:Nat) (hi:i<n):At3 w g (i*3) (q i):=by
  obtain ⟨b,off,he,hlt,hc⟩:=h.spot (by omega)
  cases he
  have:=hc i hi
  rwa [Nat.zero_add] at this
theorem run_prodN {P:Program} (t:TypeId) {p q:Int} {x y:Nat} (hx:FW p x) (hy:FW q y) (h:cls (fprod p q)≠4) (w:World):(binOp .mul t (.float .f64 x) (.float .f64 y)).run P w=.ok (.float .f64 (wd (fprod p q))) w:=by
  obtain ⟨z,w',hrun,hz⟩:=run_farith (P:=P) .mul (.inr (.inr (.inl rfl))) t x y w
  have hf:floatBits .mul .f64 x y=Ieee.double.mul x y:=rfl
  rw [hf] at hz
  rcases mul_FW hx hy with ⟨z',e1,e2⟩ | ⟨_,e2⟩
  . rcases hz with ⟨h1,h2⟩ | ⟨h1,_⟩
    . rw [e1] at h1
      cases h1
      rw [hrun,h2,(e2.of h).2.1]
    . rw [e1] at h1; cases h1
  . exact absurd (by rw [e2]; decide) h
theorem fx_fw {a b:Nat} {x:Int} (h:Fx a b x):FW x (wd x):=FW.pat (q_fin h.p) h.r
set_option maxRecDepth 100000 in
theorem aNear {p q:Int} (hp:Mz p) (hq:Mz q) (w:World) :
    Calls Tryz.prog 42 #[.int .i64 p,.int .i64 q] w fun r w'=>r=.returned (.float .f64 (wd (fsum p (neg q))))∧w'=w:=by
  have hd:=fun W=>run_diffN (P:=Tryz.prog) 54 (FW.pat (q_fin hp.2.1) hp.1) (FW.pat (q_fin hq.2.1) hq.1) (q_fin (df_fin hp hq).1) W
  have C1:Hid (∀ W,Calls Tryz.prog 74 #[.int .i64 p] W fun e w'=>e=.returned (.float .f64 (wd p))∧w'=W):=fun W=>bitsFloat p W
  have C2:Hid (∀ W,Calls Tryz.prog 74 #[.int .i64 q] W fun e w'=>e=.returned (.float .f64 (wd q))∧w'=W):=fun W=>bitsFloat q W
  clear hp hq
  generalize wd p=P at *
  generalize wd q=Q at *
  generalize wd (fsum p (neg q))=R at *
  go_enter Tryz.func42,Tryz.ntmps42
  go_wp2_with fail
  refine (C1.out _).mono ?_
  rintro _ wz ⟨rfl,hwz⟩
  replace hwz:=hwz.symm
  subst hwz
  go_wp2_with fail
  refine (C2.out _).mono ?_
  rintro _ wz ⟨rfl,hwz⟩
  replace hwz:=hwz.symm
  subst hwz
  go_wp2
  go_ret
  exact ⟨rfl,rfl⟩
theorem Un.neg {S h:Int} (u:Un S h):Un (-S) (-h):=by
  unfold Un at *
  have e:-h - -S=-(h-S):=by omega
  rw [e,Int.natAbs_neg,Int.natAbs_neg,Int.natAbs_neg]
  exact u
def pL (u:Nat->Nat->Int) (p q:Nat):Int:=fprod (u p 0) (u q 1)
def mn (u:Nat->Nat->Int) (p q:Nat):Int:=fsum (pL u p q) (neg (pL u q p))
def sz (u:Nat->Nat->Int) (p q:Nat):Int:=fsum (rg (pL u p q)) (rg (pL u q p))
def dt (u:Nat->Nat->Int) (p q r:Nat):Int:=fsum (fsum (fprod (u p 2) (mn u q r)) (neg (fprod (u q 2) (mn u p r)))) (fprod (u r 2) (mn u p q))
def sxz (u:Nat->Nat->Int) (p q r:Nat):Int:=fsum (fsum (fprod (sz u q r) (rg (u p 2))) (fprod (sz u r p) (rg (u q 2)))) (fprod (sz u p q) (rg (u r 2)))
def lf (u:Nat->Nat->Int) (p:Nat):Int:=fsum (fsum (fsum 0 (fprod (u p 0) (u p 0))) (fprod (u p 1) (u p 1))) (fprod (u p 2) (u p 2))
def mX (X:Nat->Nat->Int) (p q:Nat):Int:=X p 0*X q 1-X q 0*X p 1
def dX (X:Nat->Nat->Int) (p q r:Nat):Int:=X p 2*mX X q r-X q 2*mX X p r+X r 2*mX X p q
def lX (X:Nat->Nat->Int) (p:Nat):Int:=X p 0*X p 0+X p 1*X p 1+X p 2*X p 2
structure Lg (X u:Nat->Nat->Int) (p:Nat):Prop where
  f:∀ k,k<3->Fx 872 1226 (u p k)
  n:∀ k,k<3->Un (X p k) (iV (u p k))
theorem pL_fx {X u:Nat->Nat->Int} {p q:Nat} (hp:Lg X u p) (hq:Lg X u q):Fx 670 1379 (pL u p q)∧Un (iV (u p 0)*iV (u q 1)) (2^1074*iV (pL u p q)):=by
  obtain ⟨l,lu,_⟩:=(hp.f 0 (by decide)).prod (hq.f 1 (by decide)) (by decide) (by decide) (by decide)
  exact ⟨l,lu⟩
def wQ (u:Nat->Nat->Int) (p q:Nat):Int:=((2^1074*iV (pL u p q)).natAbs:Int)+((2^1074*iV (pL u q p)).natAbs:Int)
theorem wQ_comm (u:Nat->Nat->Int) (p q:Nat):wQ u p q=wQ u q p:=Int.add_comm _ _
theorem mn_dv {X u:Nat->Nat->Int} {p q:Nat} (hp:Lg X u p) (hq:Lg X u q) :
    Fx 670 1381 (mn u p q)∧Dv 4611686018427388289 1152921504606847104 (mX X p q) (2^1074*iV (mn u p q)) (wQ u p q):=by
  obtain ⟨l,lu⟩:=pL_fx hp hq
  obtain ⟨r,ru⟩:=pL_fx hq hp
  obtain ⟨nr,ne⟩:=r.neg
  obtain ⟨d,du⟩:=l.sum nr (by decide)
  rw [ne,<- Int.sub_eq_add_neg] at du
  have du:=du.scale (Int.le_of_lt (p2 1074))
  rw [Int.mul_sub] at du
  exact ⟨d,dv_sub (dv_prod0 (hp.n 0 (by decide)) (hq.n 1 (by decide)) lu) (dv_prod0 (hq.n 0 (by decide)) (hp.n 1 (by decide)) ru) du (by decide) (by decide)⟩
theorem sz_sz {X u:Nat->Nat->Int} {p q:Nat} (hp:Lg X u p) (hq:Lg X u q) :
    Fx 670 1381 (sz u p q)∧Sz 1152921504606847104 (wQ u p q) (2^1074*iV (sz u p q)):=by
  obtain ⟨l,lu⟩:=pL_fx hp hq
  obtain ⟨r,ru⟩:=pL_fx hq hp
  obtain ⟨la,le⟩:=l.abs
  obtain ⟨ra,re⟩:=r.abs
  obtain ⟨d,du⟩:=la.sum ra (by decide)
  rw [le,re] at du
  have p0:=Int.le_of_lt (p2 1074)
  have du:=du.scale p0
  rw [Int.mul_add,<- sc_abs p0,<- sc_abs p0] at du
  exact ⟨d,sz_add (sz_abs _) (sz_abs _) du (by decide) (by decide)⟩
theorem sz_comm {X u:Nat->Nat->Int} {p q:Nat} (hp:Lg X u p) (hq:Lg X u q):sz u p q=sz u q p:=by
  obtain ⟨l,lu⟩:=pL_fx hp hq
  obtain ⟨r,ru⟩:=pL_fx hq hp
  obtain ⟨la,le⟩:=l.abs
  obtain ⟨ra,re⟩:=r.abs
  exact fsum_comm la.r ra.r la.p ra.p
def aQ (u:Nat->Nat->Int) (p k:Nat):Int:=((iV (u p k)).natAbs:Int)
theorem tm_dv {X u:Nat->Nat->Int} {p q r:Nat} (hp:Lg X u p) (hq:Lg X u q) (hr:Lg X u r) :
    Fx 468 1534 (fprod (u p 2) (mn u q r))∧Dv 6917529027641083010 1152921504606847233 (X p 2*mX X q r) (2^1074*(2^1074*iV (fprod (u p 2) (mn u q r)))) (aQ u p 2*wQ u q r):=by
  obtain ⟨m,d⟩:=mn_dv hq hr
  obtain ⟨t,tu,_⟩:=(hp.f 2 (by decide)).prod m (by decide) (by decide) (by decide)
  have tu:=tu.scale (Int.le_of_lt (p2 1074))
  rw [Int.mul_left_comm] at tu
  exact ⟨t,dv_mul (dv_un (hp.n 2 (by decide))) d tu (by decide) (by decide)⟩
theorem ts_sz {X u:Nat->Nat->Int} {p q r:Nat} (hp:Lg X u p) (hq:Lg X u q) (hr:Lg X u r) :
    Fx 468 1534 (fprod (sz u q r) (rg (u p 2)))∧Sz 1152921504606847233 (aQ u p 2*wQ u q r) (2^1074*(2^1074*iV (fprod (sz u q r) (rg (u p 2))))):=by
  obtain ⟨m,d⟩:=sz_sz hq hr
  obtain ⟨a,ae⟩:=(hp.f 2 (by decide)).abs
  obtain ⟨t,tu,_⟩:=m.prod a (by decide) (by decide) (by decide)
  have tu:=tu.scale (Int.le_of_lt (p2 1074))
  rw [<- Int.mul_assoc,ae] at tu
  rw [Int.mul_comm (aQ u p 2)]
  exact ⟨t,sz_mul d (sz_abs _) tu (by decide) (by decide)⟩
def dQ (u:Nat->Nat->Int) (p q r:Nat):Int:=aQ u p 2*wQ u q r+aQ u q 2*wQ u p r+aQ u r 2*wQ u p q
theorem dt_dv {X u:Nat->Nat->Int} {p q r:Nat} (hp:Lg X u p) (hq:Lg X u q) (hr:Lg X u r) :
    Fx 468 1538 (dt u p q r)∧∃ Z,Un Z (2^1074*(2^1074*iV (dt u p q r)))∧Dv 8070450532247930243 1152921504606847362 (dX X p q r) Z (dQ u p q r):=by
  obtain ⟨f1,d1⟩:=tm_dv hp hq hr
  obtain ⟨f2,d2⟩:=tm_dv hq hp hr
  obtain ⟨f3,d3⟩:=tm_dv hr hp hq
  obtain ⟨n2,e2⟩:=f2.neg
  obtain ⟨s,su⟩:=f1.sum n2 (by decide)
  rw [e2,<- Int.sub_eq_add_neg] at su
  obtain ⟨t,tu⟩:=s.sum (f3.up (show 1534<=1536 by decide)) (by decide)
  have p0:=Int.le_of_lt (p2 1074)
  have su:=(su.scale p0).scale p0
  have tu:=(tu.scale p0).scale p0
  rw [Int.mul_sub,Int.mul_sub] at su
  rw [Int.mul_add,Int.mul_add] at tu
  exact ⟨t,_,tu,dv_sum0 (dv_sub d1 d2 su (by decide) (by decide)) (d3.up (by decide) (by decide))⟩
theorem sxz_sz {X u:Nat->Nat->Int} {p q r:Nat} (hp:Lg X u p) (hq:Lg X u q) (hr:Lg X u r) :
    Fx 468 1538 (sxz u p q r)∧Sz 1152921504606847491 (dQ u p q r) (2^1074*(2^1074*iV (sxz u p q r))):=by
  obtain ⟨f1,d1⟩:=ts_sz hp hq hr
  obtain ⟨f2,d2⟩:=ts_sz hq hr hp
  obtain ⟨f3,d3⟩:=ts_sz hr hp hq
  obtain ⟨s,su⟩:=f1.sum f2 (by decide)
  obtain ⟨t,tu⟩:=s.sum (f3.up (show 1534<=1536 by decide)) (by decide)
  have p0:=Int.le_of_lt (p2 1074)
  have su:=(su.scale p0).scale p0
  have tu:=(tu.scale p0).scale p0
  rw [Int.mul_add,Int.mul_add] at su tu
  have d3':Sz 1152921504606847362 (aQ u r 2*wQ u p q) (2^1074*(2^1074*iV (fprod (sz u p q) (rg (u r 2))))):=⟨d3.q,d3.s,Int.le_trans d3.l (Int.mul_le_mul_of_nonneg_right (by decide) d3.s)⟩
  have:=sz_add (sz_add d1 d2 su (G:=1152921504606847362) (by decide) (by decide)) d3' tu (G:=1152921504606847491) (by decide) (by decide)
  rw [wQ_comm u r p] at this
  exact ⟨t,this⟩
def sA:Int:=4380876537524649991
theorem iV_posS {p m:Int} {n:Nat} (hr:rng p) (hp:pok p=true) (h0:0<=p) (hm:pmag p=m) (he:pexp p+1074=n):iV p=m*2^n:=by
  have e:=iV_form hr hp
  rw [hm,he,Int.toNat_natCast] at e
  have s:0<=iV p:=by
    rw [iV,decide_eq_false (by omega)]
    exact Int.natCast_nonneg _
  omega
theorem rng_sA:rng sA:=by unfold rng sA; omega
theorem iV_sA:iV sA=7881299347898375*2^971:=iV_posS (n:=971) rng_sA (by decide) (by decide) (by decide) (by decide)
theorem fx_sA:Fx 971 1024 sA:=by
  refine ⟨rng_sA,by decide,⟨7881299347898375,by rw [iV_sA,Int.mul_comm]⟩,?_⟩
  rw [iV_sA,Int.natAbs_mul,Int.natCast_mul]
  have e:(((2:Int)^971).natAbs:Int)=2^971:=by have:=p2 971; omega
  rw [e,show (2:Int)^1024=2^53*2^971 by rw [<- Int.pow_add]]
  exact Int.mul_le_mul_of_nonneg_right (by decide) (Int.le_of_lt (p2 971))
theorem side_sign {X u:Nat->Nat->Int} {p q r:Nat} (hp:Lg X u p) (hq:Lg X u q) (hr:Lg X u r) (h:iV (fprod sA (sxz u p q r))<((iV (dt u p q r)).natAbs:Int)) :
    (0<dX X p q r ↔ 0<iV (dt u p q r))∧(dX X p q r<0 ↔ iV (dt u p q r)<0):=by
  obtain ⟨fd,Z,uZ,dv⟩:=dt_dv hp hq hr
  obtain ⟨fs,hs⟩:=sxz_sz hp hq hr
  obtain ⟨_,_,T,hT,uT⟩:=fx_sA.prod fs (by decide) (by decide) (by decide)
  have p0:=Int.le_of_lt (p2 1074)
  have hT':10141204801825835211973625643008*T=7881299347898375*iV (sxz u p q r):=by
    rw [iV_sA,show (2:Int)^1074=2^103*2^971 by rw [<- Int.pow_add],show (2:Int)^103=10141204801825835211973625643008 by decide] at hT
    refine Int.eq_of_mul_eq_mul_left (Int.ne_of_gt (p2 971)) ?_
    rw [<- Int.mul_assoc,Int.mul_comm (2^971),hT,Int.mul_comm 7881299347898375 (2^971),Int.mul_assoc]
  have b1:=Int.le_of_eq hT'.symm
  have b2:7881299347898375*(2^1074*(2^1074*iV (sxz u p q r)))<=10141204801825835211973625643008*(2^1074*(2^1074*T)):=by
    have:=Int.mul_le_mul_of_nonneg_left (Int.mul_le_mul_of_nonneg_left b1 p0) p0
    rwa [Int.mul_left_comm _ 7881299347898375,Int.mul_left_comm _ 7881299347898375,Int.mul_left_comm _ 10141204801825835211973625643008,Int.mul_left_comm _ 10141204801825835211973625643008] at this
  have s0:=hs.s
  have t0:0<=2^1074*(2^1074*T):=by
    generalize 2^1074*(2^1074*T)=t at *
    generalize 2^1074*(2^1074*iV (sxz u p q r))=s at *
    omega
  have h':2^1074*(2^1074*iV (fprod sA (sxz u p q r)))<(((2^1074*(2^1074*iV (dt u p q r)):Int)).natAbs:Int):=by
    rw [sc_abs p0,sc_abs p0]
    exact Int.mul_lt_mul_of_pos_left (Int.mul_lt_mul_of_pos_left h (p2 1074)) (p2 1074)
  obtain ⟨r1,r2⟩:=dv_sign dv uZ hs b2 ((uT.scale p0).scale p0) h' t0 (by decide) (by decide) (by decide)
  have g1:=sc_sgn (x:=iV (dt u p q r)) (p2 1074)
  have g2:=sc_sgn (x:=2^1074*iV (dt u p q r)) (p2 1074)
  exact ⟨r1.trans (g2.1.trans g1.1),r2.trans (g2.2.trans g1.2)⟩
def ts (u:Nat->Nat->Int) (i p q r:Nat):Int:=fprod (sxz u r p q) (lf u i)
def sX (X:Nat->Nat->Int):Int:=(lX X 3*dX X 0 1 2-lX X 2*dX X 3 0 1)+(lX X 1*dX X 2 3 0-lX X 0*dX X 1 2 3)
theorem fx_zero {a b:Nat}:Fx a b 0:=⟨by unfold rng; omega,by decide,by rw [show iV 0=0 by decide]; exact ⟨0,by omega⟩,by rw [show iV 0=0 by decide]; exact Int.le_of_lt (p2 b)⟩
theorem blk_us {w W:World} (h:Below w.heap.size w W) {g:Nat} {X:Obj} (k:w.heap[g]?=some X):W.heap[g]?=some X:=(h.block _ (Array.getElem?_eq_some_iff.1 k).1).trans k
structure FrA (arr:Array Value) (u:Nat->Nat->Int):Prop where
  n:arr.size=44
  o:arr.all (·.oneCell')=true
  l:∀ p,p<4->∀ k,k<3->arr[p*3+k]?=some (.float .f64 (wd (u p k)))
  m:∀ p,p<4->∀ q,q<4->p≠q->arr[12+p*8+q*2]?=some (.float .f64 (wd (mn u p q)))
  s:∀ p,p<4->∀ q,q<4->p≠q->arr[12+p*8+q*2+1]?=some (.float .f64 (wd (sz u p q)))
def Lf (u:Nat->Nat->Int):Prop:=∀ p,p<4->∀ k,k<3->Fx 872 1226 (u p k)
theorem Lf.lg {u:Nat->Nat->Int} (h:Lf u) {p:Nat} (hp:p<4):Lg (fun p k=>iV (u p k)) u p:=⟨fun k hk=>h p hp k hk,fun k hk=>by unfold Un; rw [Int.sub_self]; simp⟩
theorem mul_run {a b c d:Nat} {x y:Int} (hx:Fx a b x) (hy:Fx c d y) (hz:pok (fprod x y)=true):∀ W,(binOp .mul 54 (.float .f64 (wd x)) (.float .f64 (wd y))).run Tryz.prog W=.ok (.float .f64 (wd (fprod x y))) W:=fun W=>run_prodN _ (fx_fw hx) (fx_fw hy) (q_fin hz) W
theorem add_run {a b c d:Nat} {x y:Int} (hx:Fx a b x) (hy:Fx c d y) (hz:pok (fsum x y)=true):∀ W,(binOp .add 54 (.float .f64 (wd x)) (.float .f64 (wd y))).run Tryz.prog W=.ok (.float .f64 (wd (fsum x y))) W:=fun W=>run_sumN _ (fx_fw hx) (fx_fw hy) (q_fin hz) W
theorem sub_run {a b c d:Nat} {x y:Int} (hx:Fx a b x) (hy:Fx c d y) (hz:pok (fsum x (neg y))=true):∀ W,(binOp .sub 54 (.float .f64 (wd x)) (.float .f64 (wd y))).run Tryz.prog W=.ok (.float .f64 (wd (fsum x (neg y)))) W:=fun W=>run_diffN _ (fx_fw hx) (fx_fw hy) (q_fin hz) W
set_option maxRecDepth 100000 in
set_option maxHeartbeats 1000000 in
theorem sdet_any {u:Nat->Nat->Int} (hL:Lf u) {p q r:Nat} (hp:p<4) (hq:q<4) (hr:r<4) (pq:p≠q) (pr:p≠r) (qr:q≠r) {arr:Array Value} (hA:FrA arr u) (g:Nat) (w:World) (hg:w.heap[g]?=some (.cells arr 103 (0,0))) :
    Calls Tryz.prog 67 #[.pointer (some ⟨g,0,none⟩),.int .i64 p,.int .i64 q,.int .i64 r] w fun e w'=>e=.returned (.float .f64 (wd (dt u p q r)))∧Below w.heap.size w w':=by
  have gp:=hL.lg hp
  have gq:=hL.lg hq
  have gr:=hL.lg hr
  have m1:=(mn_dv gq gr).1
  have m2:=(mn_dv gp gr).1
  have m3:=(mn_dv gp gq).1
  have t1:=(tm_dv gp gq gr).1
  have t2:=(tm_dv gq gp gr).1
  have t3:=(tm_dv gr gp gq).1
  obtain ⟨s1,-⟩:=t1.sum t2.neg.1 (by decide)
  have h1:=mul_run (gp.f 2 (by decide)) m1 t1.p
  have h2:=mul_run (gq.f 2 (by decide)) m2 t2.p
  have h3:=mul_run (gr.f 2 (by decide)) m3 t3.p
  have h4:=sub_run t1 t2 s1.p
  have h5:=add_run s1 t3 (dt_dv gp gq gr).1.p
  have c1:=blkC hg _ (hA.l p hp 2 (by decide))
  have c2:=blkC hg _ (hA.l q hq 2 (by decide))
  have c3:=blkC hg _ (hA.l r hr 2 (by decide))
  have c4:=blkC hg _ (hA.m q hq r hr qr)
  have c5:=blkC hg _ (hA.m p hp r hr pr)
  have c6:=blkC hg _ (hA.m p hp q hq pq)
  have p3:(p:Int)<4:=by omega
  have q3:(q:Int)<4:=by omega
  have r3:(r:Int)<4:=by omega
  unfold dt
  clear gp gq gr m1 m2 m3 t1 t2 t3 s1 hL hA hg
  generalize fsum (fsum (fprod (u p 2) (mn u q r)) (neg (fprod (u q 2) (mn u p r)))) (fprod (u r 2) (mn u p q))=D at *
  generalize fsum (fprod (u p 2) (mn u q r)) (neg (fprod (u q 2) (mn u p r)))=S at *
  generalize fprod (u p 2) (mn u q r)=A at *
  generalize fprod (u q 2) (mn u p r)=B at *
  generalize fprod (u r 2) (mn u p q)=C at *
  generalize mn u q r=x1 at *
  generalize mn u p r=x2 at *
  generalize mn u p q=x3 at *
  go_enter Tryz.func67,Tryz.ntmps67
  go_wp2_with fail
  go_quiet (fail)
  go_wp2_with fail
  have hd:=bDrewN (bel_refl w) nq
  replace c2:=q_cell c2 hd
  replace c3:=q_cell c3 hd
  replace c5:=q_cell c5 hd
  replace c6:=q_cell c6 hd
  clear c1 c4
  generalize w.drewN nq=w1 at *
  go_quiet (fail)
  go_wp2_with fail
  have hd2:=bDrewN (bel_refl w1) nq
  replace c3:=q_cell c3 hd2
  replace c6:=q_cell c6 hd2
  clear c2 c5
  generalize w1.drewN nq=w2 at *
  go_quiet (fail)
  go_wp2
  go_ret
  exact ⟨rfl,bel_trans (bel_trans hd hd2) (bDrewN (bel_refl w2) _)⟩
set_option maxRecDepth 100000 in
set_option maxHeartbeats 1000000 in
theorem ssize_any {u:Nat->Nat->Int} (hL:Lf u) {p q r:Nat} (hp:p<4) (hq:q<4) (hr:r<4) (pq:p≠q) (pr:p≠r) (qr:q≠r) {arr:Array Value} (hA:FrA arr u) (g:Nat) (w:World) (hg:w.heap[g]?=some (.cells arr 103 (0,0))) :
    Calls Tryz.prog 68 #[.pointer (some ⟨g,0,none⟩),.int .i64 p,.int .i64 q,.int .i64 r] w fun e w'=>e=.returned (.float .f64 (wd (sxz u p q r)))∧Below w.heap.size w w':=by
  have gp:=hL.lg hp
  have gq:=hL.lg hq
  have gr:=hL.lg hr
  have m1:=(sz_sz gq gr).1
  have m2:=(sz_sz gr gp).1
  have m3:=(sz_sz gp gq).1
  have t1:=(ts_sz gp gq gr).1
  have t2:=(ts_sz gq gr gp).1
  have t3:=(ts_sz gr gp gq).1
  obtain ⟨s1,-⟩:=t1.sum t2 (by decide)
  have h1:=mul_run m1 (gp.f 2 (by decide)).abs.1 t1.p
  have h2:=mul_run m2 (gq.f 2 (by decide)).abs.1 t2.p
  have h3:=mul_run m3 (gr.f 2 (by decide)).abs.1 t3.p
  have h4:=add_run t1 t2 s1.p
  have h5:=add_run s1 t3 (sxz_sz gp gq gr).1.p
  have a1:Hid (∀ W,Calls Tryz.prog 43 #[.float .f64 (wd (u p 2))] W fun e w'=>e=.returned (.float .f64 (wd (rg (u p 2))))∧w'=W):=fun W=>mathAbs (gp.f 2 (by decide)).r W
  have a2:Hid (∀ W,Calls Tryz.prog 43 #[.float .f64 (wd (u q 2))] W fun e w'=>e=.returned (.float .f64 (wd (rg (u q 2))))∧w'=W):=fun W=>mathAbs (gq.f 2 (by decide)).r W
  have a3:Hid (∀ W,Calls Tryz.prog 43 #[.float .f64 (wd (u r 2))] W fun e w'=>e=.returned (.float .f64 (wd (rg (u r 2))))∧w'=W):=fun W=>mathAbs (gr.f 2 (by decide)).r W
  have c1:=blkC hg _ (hA.l p hp 2 (by decide))
  have c2:=blkC hg _ (hA.l q hq 2 (by decide))
  have c3:=blkC hg _ (hA.l r hr 2 (by decide))
  have c4:=blkC hg _ (hA.s q hq r hr qr)
  have c5:=blkC hg _ (hA.s r hr p hp (Ne.symm pr))
  have c6:=blkC hg _ (hA.s p hp q hq pq)
  have p3:(p:Int)<4:=by omega
  have q3:(q:Int)<4:=by omega
  have r3:(r:Int)<4:=by omega
  unfold sxz
  clear gp gq gr m1 m2 m3 t1 t2 t3 s1 hL hA hg
  generalize fsum (fsum (fprod (sz u q r) (rg (u p 2))) (fprod (sz u r p) (rg (u q 2)))) (fprod (sz u p q) (rg (u r 2)))=D at *
  generalize fsum (fprod (sz u q r) (rg (u p 2))) (fprod (sz u r p) (rg (u q 2)))=S at *
  generalize fprod (sz u q r) (rg (u p 2))=A at *
  generalize fprod (sz u r p) (rg (u q 2))=B at *
  generalize fprod (sz u p q) (rg (u r 2))=C at *
  generalize sz u q r=x1 at *
  generalize sz u r p=x2 at *
  generalize sz u p q=x3 at *
  generalize rg (u p 2)=y1 at *
  generalize rg (u q 2)=y2 at *
  generalize rg (u r 2)=y3 at *
  go_enter Tryz.func68,Tryz.ntmps68
  go_wp2_with fail
  go_quiet (first | (go_at_call 43; with_reducible exact Calls.quiet_of_same (a1.out _)))
  go_wp2_with fail
  have hd:=bDrewN (bel_refl w) nq
  replace c2:=q_cell c2 hd
  replace c3:=q_cell c3 hd
  replace c5:=q_cell c5 hd
  replace c6:=q_cell c6 hd
  clear c1 c4
  generalize w.drewN nq=w1 at *
  go_quiet (first | (go_at_call 43; with_reducible exact Calls.quiet_of_same (a2.out _)))
  go_wp2_with fail
  have hd2:=bDrewN (bel_refl w1) nq
  replace c3:=q_cell c3 hd2
  replace c6:=q_cell c6 hd2
  clear c2 c5
  generalize w1.drewN nq=w2 at *
  go_quiet (first | (go_at_call 43; with_reducible exact Calls.quiet_of_same (a3.out _)))
  go_wp2
  go_ret
  exact ⟨rfl,bel_trans (bel_trans hd hd2) (bDrewN (bel_refl w2) _)⟩
theorem wd_0:wd 0=0:=by decide
def Lies (v:Value) (x y:Nat):Prop:=∀ g,v.ownBlock=some g->x<=g∧g<y
theorem rsign3_any (ng:Bool) (ao:Option Addr) (n cap:Nat) (e:Int) (w:World) (hm:n<=9223372036854775807) :
    Calls Tryz.prog 50 #[.agg #[.bool ng,.slice ao n cap,.int .i64 e]] w fun r w'=>r=.returned (.int .i64 (sgn ng n))∧Below w.heap.size w w':=by
  by_cases h0:n=0
  . subst h0
    go_enter Tryz.func50,Tryz.ntmps50
    go_wp2
    go_ret
    exact ⟨rfl,bel_alloc _ _⟩
  . have hn0:((n:Int) == 0)=false:=by simp; omega
    cases ng
    . go_enter Tryz.func50,Tryz.ntmps50
      go_wp2
      go_ret
      exact ⟨ret_int (by simp [sgn,h0]),bel_alloc _ _⟩
    . go_enter Tryz.func50,Tryz.ntmps50
      go_wp2
      go_ret
      exact ⟨ret_int (by simp [sgn,h0]),bel_alloc _ _⟩
def NumR.opp (x:NumR):NumR:=⟨if x.n=0 then x.ng else !x.ng,x.ao,x.n,x.cap,x.d,x.e⟩
set_option maxRecDepth 100000 in
theorem rneg3_any (x:NumR) (w:World) (hm:x.n<=9223372036854775807) :
    Calls Tryz.prog 91 #[x.v] w fun r w'=>r=.returned x.opp.v∧Below w.heap.size w w':=by
  obtain ⟨ng,ao,n,cap,d,e⟩:=x
  unfold NumR.v NumR.opp
  simp only at *
  by_cases h0:n=0
  . subst h0
    go_enter Tryz.func91,Tryz.ntmps91
    go_wp2
    refine bodyPost_ret (v:=.agg #[.bool ng,.slice ao 0 cap,.int .i64 e]) (by simp [results,Tryz.results91,go_sem]) rfl ⟨rfl,?_⟩
    exact bel_alloc2 _ _ _
  . have hn0:(0:Int)<n:=by omega
    rw [if_neg h0]
    go_enter Tryz.func91,Tryz.ntmps91
    go_wp2
    refine bodyPost_ret (v:=.agg #[.bool (!ng),.slice ao n cap,.int .i64 e]) (by simp [results,Tryz.results91,go_sem]) rfl ⟨rfl,?_⟩
    exact bel_alloc2 _ _ _
def RFit (w w':World) (V:Int) (v:Value) (er:Int):Prop:=DFit w w' V v er
theorem RFit.shape {w w':World} {V er:Int} {v:Value} (h:RFit w w' V v er):∃ ng so sn sc e,v=.agg #[.bool ng,.slice so sn sc,.int .i64 e]:=by
  exact DFit.shape h
end Go.Proofs.YtcklaogdjpbagaaGreatDoor
