/- Parts of the proof. -/
import Derived.Test.YtkkpppgfoilgmaaGreatDoorPart14
import Derived.Test.YtkkpppgfoilgmaaGreatDoorPart30
import Derived.Test.YtkkpppgfoilgmaaGreatDoorPart33
import Derived.Test.YtkkpppgfoilgmaaGreatDoorPart39
import Derived.Test.YtkkpppgfoilgmaaGreatDoorPart41
import Derived.Test.YtkkpppgfoilgmaaGreatDoorPart17
import Derived.Test.YtkkpppgfoilgmaaGreatDoorPart15
import Derived.Test.YtkkpppgfoilgmaaGreatDoorPart7
import Derived.Test.YtkkpppgfoilgmaaGreatDoorPart10
set_option maxRecDepth 100000
set_option maxHeartbeats 8000000
set_option linter.unusedVariables false
set_option linter.unusedSimpArgs false
namespace Go.Proofs.YtkkpppgfoilgmaaGreatDoor
open Go Go.Proofs.Tryz Go.RowKit Go.Proofs.YtkkpppgfoilgmaaGreatDoor.M
theorem yl {a b c d:Int} (ha:au a) (hb:au b) (hc':au c) (hd:au d) (w:World) (L:eI w) :
    Calls prog 28 #[bf a b,bf c d] w fun e w'=>∃ X Y:Int,e=.returned (.tuple #[.agg #[.int .i64 X,.int .i64 Y],.bool ((aK a b&&aK c d)&&aK (bP a c) (bJ b d)),.int .i64 (dO (aK a b&&aK c d))])∧((aK a b&&aK c d)=true->aK (bP a c) (bJ b d)=true->X=az (bP a c)∧Y=az (bJ b d))∧(((aK a b&&aK c d)&&aK (bP a c) (bJ b d))=false->X=0∧Y=0)∧Below w.heap.size w w':=by
  have R1:=fun W=>gk a b W
  have R2:=fun W=>gk c d W
  have V1:Hid (∀ W,Calls prog 38 #[bU a b] W fun e w'=>e=.returned (.bool (aK a b))∧Below W.heap.size W w'):=fun W=>cM ha hb W
  have V2:Hid (∀ W,Calls prog 38 #[bU c d] W fun e w'=>e=.returned (.bool (aK c d))∧Below W.heap.size W w'):=fun W=>cM hc' hd W
  unfold bf bU at *
  obtain⟨q0,q1,q2,hs,hb3⟩:=gC w (.cells #[.int .i64 a,.int .i64 b] 23) (.cells #[.int .i64 c,.int .i64 d] 23) (.cells #[.int .i64 0,.int .i64 0] 23)
  go_enter func28,ntmps28
  go_wp2_with fail
  have k0:=aa q0 0 rfl
  have k1:=aa q0 1 rfl
  have k2:=aa q1 0 rfl
  have k3:=aa q1 1 rfl
  generalize ((w.alloc (.cells #[.int .i64 a,.int .i64 b] 23)).alloc (.cells #[.int .i64 c,.int .i64 d] 23)).alloc (.cells #[.int .i64 0,.int .i64 0] 23)=wx at *
  have hst:∀ (p:Addr) (n:Nat) (m:Mode) (w:World),(store p (.float .f64 n) m).run prog w=stored prog w p (.float .f64 n) m:=fun p n m w=>run_store _ w p _ m rfl
  have hc:(w.heap.size<w.heap.size+3∧w.heap.size+1<w.heap.size+3∧w.heap.size+3<=wx.drew.heap.size)∧wx.drew.cell? ⟨w.heap.size,0,none⟩=some (.int .i64 a)∧wx.drew.cell? ⟨w.heap.size,1,none⟩=some (.int .i64 b)∧wx.drew.cell? ⟨w.heap.size+1,0,none⟩=some (.int .i64 c)∧wx.drew.cell? ⟨w.heap.size+1,1,none⟩=some (.int .i64 d):=⟨⟨by omega,by omega,by show _<=wx.heap.size;omega⟩,k0,k1,k2,k3⟩
  rename_i Q' K haK
  have H:∀ (gi gj:Nat) (W:World),W.heap[gi]?=some (.cells #[.float .f64 (wd a),.float .f64 (wd b)] 64 (0,0))->W.heap[gj]?=some (.cells #[.float .f64 (wd c),.float .f64 (wd d)] 64 (0,0))->Below wx.heap.size wx W ->
      Exit.then K Q' Exit.normal { tmps:=#[.agg #[.int .i64 a,.int .i64 b],.agg #[.int .i64 c,.int .i64 d],.pointer (some ⟨w.heap.size,0,none⟩),.pointer (some ⟨w.heap.size+1,0,none⟩),.pointer (some ⟨w.heap.size+1+1,0,none⟩),.bool false,.int .i64 0,.pointer (some ⟨gi,0,none⟩),.pointer (some ⟨gj,0,none⟩),undef,.agg #[.int .i64 a,.int .i64 b],.agg #[.float .f64 (wd a),.float .f64 (wd b)],.agg #[.int .i64 c,.int .i64 d],.agg #[.float .f64 (wd c),.float .f64 (wd d)],undef,undef,undef,undef,undef,undef,undef,undef,undef,undef,undef,undef,undef,undef,undef,undef,undef,undef,undef,undef,undef,undef,undef,undef,undef,undef],defers:=[] } W:=by
    intro gi gj W hgi hgj hbW
    clear hc k0 k1 k2 k3 q0 q1 R1 R2
    have i0:=aa hgi 0 rfl
    have i1:=aa hgi 1 rfl
    go_wp2_with fail
    refine(V1.out _).mono ?_
    rintro _ w1 ⟨rfl,hb4⟩
    have hgi1:=(hb4.block _ (aGe hgi).1).trans hgi
    have hgj1:=(hb4.block _ (aGe hgj).1).trans hgj
    clear i0 i1
    have j0:=aa hgj1 0 rfl
    have j1:=aa hgj1 1 rfl
    by_cases h1:aK a b=false
    · rw[h1]
      have hbR:=ab hbW hb4
      have d2:=(hbR.block _ (aGe q2).1).trans q2
      have d3:=aj d2 0 (.int .i64 0)
      have d4:=aj d3 1 (.int .i64 0)
      have f0:=aa d2 0 rfl
      have z0:=af d2 0
      have f1:=aa d3 1 rfl
      have z1:=af d3 1
      have e0:=aa d4 0 rfl
      have e1:=aa d4 1 rfl
      have hbe:=((ab hb3 hbR).setCell (p:=⟨w.heap.size+1+1,0,none⟩) (show w.heap.size<=w.heap.size+1+1 by omega) (.int .i64 0)).setCell (p:=⟨w.heap.size+1+1,1,none⟩) (show w.heap.size<=w.heap.size+1+1 by omega) (.int .i64 0)
      clear d2 d3 d4
      go_wp2
      refine bodyPost_ret (v:=.tuple #[.agg #[.int .i64 0,.int .i64 0],.bool false,.int .i64 1]) (by simp[results,results28,go_sem,e0,e1]) rfl ⟨_,_,by rw[h1];rfl,(fun hx=>by rw[h1] at hx;cases hx),(fun _=>⟨rfl,rfl⟩),hbe⟩
    replace h1:aK a b=true:=by simpa using h1
    rw[h1]
    go_wp2_with fail
    refine(V2.out _).mono ?_
    rintro _ w2 ⟨rfl,hb5⟩
    have hgi2:=(hb5.block _ (aGe hgi1).1).trans hgi1
    have hgj2:=(hb5.block _ (aGe hgj1).1).trans hgj1
    clear j0 j1
    have hbR:=ab hbW (ab hb4 hb5)
    by_cases h2:aK c d=false
    · rw[h2]
      have d2:=(hbR.block _ (aGe q2).1).trans q2
      have d3:=aj d2 0 (.int .i64 0)
      have d4:=aj d3 1 (.int .i64 0)
      have f0:=aa d2 0 rfl
      have z0:=af d2 0
      have f1:=aa d3 1 rfl
      have z1:=af d3 1
      have e0:=aa d4 0 rfl
      have e1:=aa d4 1 rfl
      have hbe:=((ab hb3 hbR).setCell (p:=⟨w.heap.size+1+1,0,none⟩) (show w.heap.size<=w.heap.size+1+1 by omega) (.int .i64 0)).setCell (p:=⟨w.heap.size+1+1,1,none⟩) (show w.heap.size<=w.heap.size+1+1 by omega) (.int .i64 0)
      clear d2 d3 d4
      go_wp2
      refine bodyPost_ret (v:=.tuple #[.agg #[.int .i64 0,.int .i64 0],.bool false,.int .i64 1]) (by simp[results,results28,go_sem,e0,e1]) rfl ⟨_,_,by rw[h2,Bool.and_false];rfl,(fun hx=>by rw[h2,Bool.and_false] at hx;cases hx),(fun _=>⟨rfl,rfl⟩),hbe⟩
    replace h2:aK c d=true:=by simpa using h2
    rw[h2]
    obtain⟨va,vb,_,_,_⟩:=cW.1 h1
    obtain⟨vc,vd,_,_,_⟩:=cW.1 h2
    obtain⟨nx,_,_,_⟩:=eL ⟨ha,va⟩ ⟨hc',vc⟩
    obtain⟨ny,_,_,_⟩:=eK ⟨hb,vb⟩ ⟨hd,vd⟩
    have RX:=fun ts t W=>sI (P:=prog) ⟨ha,va⟩ ⟨hc',vc⟩ ts t W
    have RN:=fun ts t W=>sH (P:=prog) ⟨hb,vb⟩ ⟨hd,vd⟩ ts t W
    have V3:Hid (∀ W,Calls prog 38 #[.agg #[.float .f64 (wd (bP a c)),.float .f64 (wd (bJ b d))]] W fun e w'=>e=.returned (.bool (aK (bP a c) (bJ b d)))∧Below W.heap.size W w'):=fun W=>cM nx.1 ny.1 W
    have CT:Hid (∀ W,eI W->Calls prog 42 #[.agg #[.float .f64 (wd (bP a c)),.float .f64 (wd (bJ b d))]] W fun e w'=>e=.returned (.agg #[.int .i64 (az (bP a c)),.int .i64 (az (bJ b d))])∧Below W.heap.size W w'):=fun W LW=>iX nx ny W LW
    have L2:=L.below' (ab hb3 hbR)
    have i0:=aa hgi2 0 rfl
    have i1:=aa hgi2 1 rfl
    have j0:=aa hgj2 0 rfl
    have j1:=aa hgj2 1 rfl
    go_wp2_with fail
    have hba:=ae w2 (.cells #[.float .f64 (wd (bP a c)),.float .f64 (wd (bJ b d))] 64)
    have hgb:(w2.alloc (.cells #[.float .f64 (wd (bP a c)),.float .f64 (wd (bJ b d))] 64)).heap[w2.heap.size]?=some (.cells #[.float .f64 (wd (bP a c)),.float .f64 (wd (bJ b d))] 64 (0,0)):=by show(w2.heap.push _)[w2.heap.size]?=_;simp
    generalize w2.alloc (.cells #[.float .f64 (wd (bP a c)),.float .f64 (wd (bJ b d))] 64)=w3 at *
    clear i0 i1 j0 j1 RX RN hst
    refine(V3.out _).mono ?_
    rintro _ w4 ⟨rfl,hb6⟩
    replace hbR:=ab hbR (ab hba hb6)
    replace L2:=L.below' (ab hb3 hbR)
    have hgb1:=(hb6.block _ (aGe hgb).1).trans hgb
    by_cases h3:aK (bP a c) (bJ b d)=false
    · rw[h3]
      have d2:=(hbR.block _ (aGe q2).1).trans q2
      have d3:=aj d2 0 (.int .i64 0)
      have d4:=aj d3 1 (.int .i64 0)
      have f0:=aa d2 0 rfl
      have z0:=af d2 0
      have f1:=aa d3 1 rfl
      have z1:=af d3 1
      have e0:=aa d4 0 rfl
      have e1:=aa d4 1 rfl
      have hbe:=((ab hb3 hbR).setCell (p:=⟨w.heap.size+1+1,0,none⟩) (show w.heap.size<=w.heap.size+1+1 by omega) (.int .i64 0)).setCell (p:=⟨w.heap.size+1+1,1,none⟩) (show w.heap.size<=w.heap.size+1+1 by omega) (.int .i64 0)
      clear d2 d3 d4
      go_wp2
      refine bodyPost_ret (v:=.tuple #[.agg #[.int .i64 0,.int .i64 0],.bool false,.int .i64 0]) (by simp[results,results28,go_sem,e0,e1]) rfl ⟨_,_,by rw[h1,h2,h3];rfl,(fun _ hx=>by rw[h3] at hx;cases hx),(fun _=>⟨rfl,rfl⟩),hbe⟩
    replace h3:aK (bP a c) (bJ b d)=true:=by simpa using h3
    rw[h3]
    have m0:=aa hgb1 0 rfl
    have m1:=aa hgb1 1 rfl
    go_wp2_with fail
    refine(CT.out _ L2).mono ?_
    rintro _ w5 ⟨rfl,hb7⟩
    replace hbR:=ab hbR hb7
    have d2:=(hbR.block _ (aGe q2).1).trans q2
    have d3:=aj d2 0 (.int .i64 (az (bP a c)))
    have d4:=aj d3 1 (.int .i64 (az (bJ b d)))
    have f0:=aa d2 0 rfl
    have z0:=af d2 0
    have f1:=aa d3 1 rfl
    have z1:=af d3 1
    have e0:=aa d4 0 rfl
    have e1:=aa d4 1 rfl
    have hbe:=((ab hb3 hbR).setCell (p:=⟨w.heap.size+1+1,0,none⟩) (show w.heap.size<=w.heap.size+1+1 by omega) (.int .i64 (az (bP a c)))).setCell (p:=⟨w.heap.size+1+1,1,none⟩) (show w.heap.size<=w.heap.size+1+1 by omega) (.int .i64 (az (bJ b d)))
    clear d2 d3 d4
    go_wp2
    refine bodyPost_ret (v:=.tuple #[.agg #[.int .i64 (az (bP a c)),.int .i64 (az (bJ b d))],.bool true,.int .i64 0]) (by simp[results,results28,go_sem,e0,e1]) rfl ⟨_,_,by rw[h1,h2,h3];rfl,(fun _ _=>⟨rfl,rfl⟩),(fun hx=>by rw[h1,h2,h3] at hx;cases hx),hbe⟩
  go_region_held3 (fun W=>(w.heap.size<w.heap.size+3∧w.heap.size+1<w.heap.size+3∧w.heap.size+3<=W.heap.size)∧W.cell? ⟨w.heap.size,0,none⟩=some (.int .i64 a)∧W.cell? ⟨w.heap.size,1,none⟩=some (.int .i64 b)∧W.cell? ⟨w.heap.size+1,0,none⟩=some (.int .i64 c)∧W.cell? ⟨w.heap.size+1,1,none⟩=some (.int .i64 d))
    (first|assumption|(repeat (first|exact hc|refine jN ?_|refine n8 _ ?_|refine kT (by first|omega|(simp;omega)) ?_)))
    (first
      | (go_at_call 37;have _t:=T1;refine(R2 _).mono ?_;rintro _ _ ⟨rfl,rfl⟩)
      | (go_at_call 37; refine (R1 _).mono ?_; rintro _ _ ⟨rfl,rfl⟩; have T1:True:=trivial))
  all_goals
    refine H _ _ _ ?_ ?_ vJ
    all_goals first
      | exact vD hs rfl
      | exact vE hs rfl
      | exact vF hs rfl
      | exact vG hs rfl
      | exact vH hs rfl
      | exact vI hs rfl
end Go.Proofs.YtkkpppgfoilgmaaGreatDoor
namespace Go.Proofs.YtkkpppgfoilgmaaGreatDoor
open Go Go.Proofs.Tryz Go.ChangeShapes Go.WideShapes Go.ChangeAt Go.RowKit Go.Proofs.YtkkpppgfoilgmaaGreatDoor.M
theorem CH {a b c d:Int} (ra:au a) (rb:au b) (rc:au c) (rd:au d) (w:World) (H:ax w) :
  Calls prog 7 #[.agg #[.int .i64 a,.int .i64 b],.agg #[.int .i64 c,.int .i64 d]] w fun e w'=>e=.returned (.bool true)∧Below w.heap.size w w':=by
 have VA:∀ W,Calls prog 10 #[.agg #[.int .i64 a,.int .i64 b]] W fun e w'=>e=.returned (.bool (aK a b))∧Below W.heap.size W w':=fun W=>by
  have:=pQ ra rb W
  rwa [pN ra rb] at this
 have VB:∀ W,Calls prog 10 #[.agg #[.int .i64 c,.int .i64 d]] W fun e w'=>e=.returned (.bool (aK c d))∧Below W.heap.size W w':=fun W=>by
  have:=pQ rc rd W
  rwa [pN rc rd] at this
 have PA:=fun W (HW:ax W)=>zT ra rb rc rd W HW
 have PB:=fun W (HW:ax W)=>zU ra rb rc rd W HW
 have PC:=fun W (HW:ax W)=>zV ra rb rc rd W HW
 have PJ:=fun W (HW:ax W)=>zN ra rb rc rd W HW.env.lays
 have PM:=fun W (HW:ax W)=>yl ra rb rc rd W HW.env.lays
 by_cases hv:(aK a b&&aK c d)=true
 ·have va:aK a b=true:=by revert hv;cases aK a b<;>simp
  have vc:aK c d=true:=by revert hv;cases aK a b<;>simp
  obtain⟨na,nb,-,-,-⟩:=dT ra rb va
  obtain⟨nc,nd,-,-,-⟩:=dT rc rd vc
  rw[va] at VA
  rw[vc] at VB
  simp only[hv,Bool.true_and,forall_const] at PA PB PC PJ PM
  obtain⟨j1,j2⟩:=D7 na nb nc nd
  obtain⟨m1,m2,m3⟩:=D6 na nb nc nd va vc
  rw[j1,j2] at PJ
  rw[m1,m2,m3] at PM
  refine yc (decide (cc (aW (ag a) (ag c)) (aO (ag b) (ag d))<=0)) w H VA VB PA PB PC PJ (m0:=if cc (aW (ag a) (ag c)) (aO (ag b) (ag d))<=0 then a6 (aW (ag a) (ag c)) else 0) (m1:=if cc (aW (ag a) (ag c)) (aO (ag b) (ag d))<=0 then a7 (aO (ag b) (ag d)) else 0) ?_ (fun W=>ya na nb nc nd W) (fun W=>Ci na nb nc nd W) (fun W=>Cn na nb nc nd W) (fun W=>EC na nb nc nd W) (fun W=>ED na nb nc nd W)
  intro W HW
  refine(PM W HW).mono ?_
  rintro e w' ⟨X,Y,rfl,h1,h2,hb⟩
  by_cases k:cc (aW (ag a) (ag c)) (aO (ag b) (ag d))<=0
  ·obtain⟨rfl,rfl⟩:=h1 (decide_eq_true k)
   exact⟨by simp only[k,if_true];rfl,hb⟩
  ·obtain⟨rfl,rfl⟩:=h2 (decide_eq_false k)
   exact⟨by simp only[k,if_false];rfl,hb⟩
 ·have hv:(aK a b&&aK c d)=false:=by revert hv;cases (aK a b&&aK c d)<;>simp
  simp only[hv] at PA PB PC PJ PM
  refine yb _ _ hv w H VA VB PA PB PC PJ ?_
  intro W HW
  refine(PM W HW).mono ?_
  rintro e w' ⟨X,Y,rfl,h1,h2,hb⟩
  obtain⟨rfl,rfl⟩:=h2 rfl
  exact⟨rfl,hb⟩
theorem nF:prog.cellsOf 23=2:=by kernel_rfl
theorem tF:prog.cellsOf 3=1:=by kernel_rfl
theorem pf {H:Type} {enc:TypeId × Value->H} {W:World} {n:Nat} {cs:List Value} {x:DataW H × List MemPlace}
  (h:DataW.trod enc prog W 0 (fun _=>true) true n 23 cs=some x) :
  ∃ a b:Int,cs=[.int .i64 a,.int .i64 b]∧au a∧au b:=by
 obtain⟨xs,m,_,rfl,hl,hlen,hf⟩:=DataW.trod_struct underlying23 h
 rw[nF] at hl
 match cs,hl with
 | [v0,v1],_=>
  match xs,hlen with
  | [y0,y1],_=>
   have f0:DataW.trod enc prog W 0 (fun _=>true) true m 3 (([v0,v1].drop 0).take (prog.cellsOf 3))=some y0:=hf 0 _ rfl
   have f1:DataW.trod enc prog W 0 (fun _=>true) true m 3 (([v0,v1].drop 1).take (prog.cellsOf 3))=some y1:=hf 1 _ rfl
   rw[tF] at f0 f1
   simp only[List.drop_zero,List.drop_succ_cons,List.take_succ_cons,List.take_zero] at f0 f1
   obtain⟨k0,e0,_,w0⟩:=DataW.trod_int underlying3 f0
   obtain⟨k1,e1,_,w1⟩:=DataW.trod_int underlying3 f1
   simp at e0 e1
   subst e0 e1
   exact⟨k0,k1,rfl,jY w0,jY w1⟩
structure i7 where
 k:Int
 b:Int
 s0:Int
 s1:Int
 t0:Int
 t1:Int
 x:aI
def i7.cells (r:i7):List Value:=[.int .i64 r.k,.int .i64 r.b,.int .i64 r.s0,.int .i64 r.s1,.int .i64 r.t0,.int .i64 r.t1,.bool r.x.ng,.slice r.x.ao r.x.n r.x.cap,.int .i64 r.x.e]
structure ri (W:World) (r:i7):Prop where
 rk:au r.k
 rb:au r.b
 r0:au r.s0
 r1:au r.s1
 r2:au r.t0
 r3:au r.t1
 rx:aL W r.x.ao r.x.n r.x.cap r.x.d
structure th (W:World) (b o:Nat) (r:i7):Prop where
 cell:∀ j,j<9->W.cell? ⟨b,o+j,none⟩=r.cells[j]?
 fact:ri W r
def uI (W:World) (a:Option Addr) (len cap:Nat) (r:Nat->i7):Prop :=
 len=0∨∃ b off,a=some ⟨b,off,none⟩∧len<=cap∧cap<=9223372036854775807∧b<W.heap.size∧∀ i,i<len->th W b (off+i*9) (r i)
theorem qJ:prog.cellsOf 31=9:=by kernel_rfl
theorem vY {H:Type} {enc:TypeId × Value->H} {W:World} {n:Nat} {cs:List Value} {x:DataW H × List MemPlace}
  (h:DataW.trod enc prog W 0 (fun _=>true) true n 31 cs=some x) :
  ∃ r:i7,cs=r.cells∧ri W r:=by
 obtain⟨xs,m,_,rfl,hl,hlen,hf⟩:=DataW.trod_struct underlying31 h
 rw[qJ] at hl
 match cs,hl with
 | [v0,v1,v2,v3,v4,v5,v6,v7,v8],_=>
  match xs,hlen with
  | [y0,y1,y2,y3,y4],_=>
   have f0:DataW.trod enc prog W 0 (fun _=>true) true m 3 (([v0,v1,v2,v3,v4,v5,v6,v7,v8].drop 0).take (prog.cellsOf 3))=some y0:=hf 0 _ rfl
   have f1:DataW.trod enc prog W 0 (fun _=>true) true m 3 (([v0,v1,v2,v3,v4,v5,v6,v7,v8].drop 1).take (prog.cellsOf 3))=some y1:=hf 1 _ rfl
   have f2:DataW.trod enc prog W 0 (fun _=>true) true m 23 (([v0,v1,v2,v3,v4,v5,v6,v7,v8].drop 2).take (prog.cellsOf 23))=some y2:=hf 2 _ rfl
   have f3:DataW.trod enc prog W 0 (fun _=>true) true m 23 (([v0,v1,v2,v3,v4,v5,v6,v7,v8].drop 4).take (prog.cellsOf 23))=some y3:=hf 3 _ rfl
   have f4:DataW.trod enc prog W 0 (fun _=>true) true m 26 (([v0,v1,v2,v3,v4,v5,v6,v7,v8].drop 6).take (prog.cellsOf 26))=some y4:=hf 4 _ rfl
   rw[tZ] at f0 f1
   rw[nF] at f2 f3
   rw[rZ] at f4
   simp only[List.drop_zero,List.drop_succ_cons,List.take_succ_cons,List.take_zero] at f0 f1 f2 f3 f4
   obtain⟨k0,e0,_,w0⟩:=DataW.trod_int underlying3 f0
   obtain⟨k1,e1,_,w1⟩:=DataW.trod_int underlying3 f1
   obtain⟨p2,q2,e2,r2,s2⟩:=pf f2
   obtain⟨p3,q3,e3,r3,s3⟩:=pf f3
   obtain⟨x4,e4,r4,s4⟩:=wP f4
   simp only[List.cons.injEq,and_true] at e0 e1 e2 e3 e4
   obtain⟨rfl,rfl⟩:=e2
   obtain⟨rfl,rfl⟩:=e3
   obtain⟨rfl,rfl,rfl⟩:=e4
   subst e0 e1
   exact⟨⟨k0,k1,p2,q2,p3,q3,x4⟩,rfl,⟨jY w0,jY w1,r2,s2,r3,s3,r4⟩⟩
theorem Ah {H:Type} {enc:TypeId × Value->H} {W:World} {fuel:Nat} {a:Option Addr} {len cap:Nat} {x:DataW H × List MemPlace}
  (h:DataW.trod enc prog W 0 (fun _=>true) true fuel 29 [.slice a len cap]=some x) (hw:∀ n ∈ x.1.weights prog 29,n<=reachBytes):∃ r,uI W a len cap r:=by
 have dflt:i7:=⟨0,0,0,0,0,0,default⟩
 rcases Deep.open_slice underlying29 h with⟨hcs,_⟩|⟨p,l,c,m,n,D,Pl,hcs,_,hl,hm,hmm,hx,hel⟩
 ·simp at hcs
  obtain⟨rfl,rfl,rfl⟩:=hcs
  exact⟨fun _=>dflt,.inl rfl⟩
 ·simp at hcs
  obtain⟨rfl,rfl,rfl⟩:=hcs
  simp only[if_true] at hmm
  subst hmm
  by_cases h0:len=0
  ·exact⟨fun _=>dflt,.inl h0⟩
  have each:∀ i,i<len->∃ r:i7,W.cells? 0 (p.add (i*9)) 9=some r.cells∧ri W r:=by
   intro i hi
   obtain⟨cs',h1,h2⟩:=hel i (by omega)
   rw[qJ] at h1
   obtain⟨r,rfl,hr⟩:=vY h2
   exact⟨r,h1,hr⟩
  have each':∀ i,i<len->∃ r:i7,(W.cells? 0 (p.add (i*9)) 9=some r.cells∧ri W r):=each
  have:Inhabited i7:=⟨dflt⟩
  obtain⟨q,hq⟩:=Deep.choose_lt each'
  have cell:∀ i j,i<len->j<9->W.cell? ((p.add (i*9)).add j)=(q i).cells[j]?:=by
   intro i j hi hj
   exact(World.cells?_some (hq i hi).1).2.2 j hj
  obtain⟨b,off,spot⟩:=p
  have h2:W.cell? ⟨b,off,spot⟩=some (.int .i64 (q 0).k):=by simpa [Addr.add,i7.cells] using cell 0 0 (by omega) (by omega)
  have hspot:spot=none:=World.cell?_spot h2
  subst hspot
  refine⟨q,.inr ⟨b,off,rfl,hl,by unfold maxLen at hm;exact hm,World.block_lt_of_cell? W _ h2,fun i hi=>⟨fun j hj=>?_,(hq i hi).2⟩⟩⟩
  have x0:=cell i j hi hj
  rwa [jT,jT] at x0
end Go.Proofs.YtkkpppgfoilgmaaGreatDoor
