/- Parts of the proof. -/
import Derived.Test.YtcklaogdjpbagaaGreatDoorPart14
import Derived.Test.YtcklaogdjpbagaaGreatDoorPart16
import Derived.Test.YtcklaogdjpbagaaGreatDoorPart15
import Derived.Test.YtcklaogdjpbagaaGreatDoorPart13
import Derived.Test.YtcklaogdjpbagaaGreatDoorPart7
import Derived.Test.YtcklaogdjpbagaaGreatDoorPart12
import Derived.Test.YtcklaogdjpbagaaGreatDoorPart11
import Derived.Deep.RegionHeld3
set_option linter.unusedVariables false
set_option linter.unusedSimpArgs false
namespace Go.Proofs.YtcklaogdjpbagaaGreatDoor
open Go Go.RowKit Go.Proofs.YtcklaogdjpbagaaGreatDoor.M
theorem dx_poly (V:Nat->Nat->Int) (p q r:Nat):V p 2*(V q 0*V r 1-V r 0*V q 1)+V q 2*(V r 0*V p 1-V p 0*V r 1)+V r 2*(V p 0*V q 1-V q 0*V p 1)=dX V p q r:=by
  unfold dX mX
  grind
set_option maxRecDepth 100000 in
set_option maxHeartbeats 4000000 in
theorem ssideX_any {w:World} {arr:Array Value} {V:Nat->Nat->Int} {R:Nat->Nat->NumR} (hA:LnA w arr V R) (hB:∀ p,p<4->∀ k,k<3->Bd 1075 (V p k)) (hT:Tab w) :
    Calls Tryz.prog 37 #[.agg arr] w fun r w'=>∃ v D,r=.returned v∧DAns w w' D v∧D*2^4194304*2^4194304=dX V 0 1 2∧Bd 4307 D:=by
  have CD:Hid (∀ W,Below w.heap.size w W->Calls Tryz.prog 69 #[.agg #[.bool (R 0 0).ng,.slice (R 0 0).ao (R 0 0).n (R 0 0).cap,.int .i64 (R 0 0).e,.bool (R 0 1).ng,.slice (R 0 1).ao (R 0 1).n (R 0 1).cap,.int .i64 (R 0 1).e,.bool (R 0 2).ng,.slice (R 0 2).ao (R 0 2).n (R 0 2).cap,.int .i64 (R 0 2).e],.agg #[.bool (R 1 0).ng,.slice (R 1 0).ao (R 1 0).n (R 1 0).cap,.int .i64 (R 1 0).e,.bool (R 1 1).ng,.slice (R 1 1).ao (R 1 1).n (R 1 1).cap,.int .i64 (R 1 1).e,.bool (R 1 2).ng,.slice (R 1 2).ao (R 1 2).n (R 1 2).cap,.int .i64 (R 1 2).e],.agg #[.bool (R 2 0).ng,.slice (R 2 0).ao (R 2 0).n (R 2 0).cap,.int .i64 (R 2 0).e,.bool (R 2 1).ng,.slice (R 2 1).ao (R 2 1).n (R 2 1).cap,.int .i64 (R 2 1).e,.bool (R 2 2).ng,.slice (R 2 2).ao (R 2 2).n (R 2 2).cap,.int .i64 (R 2 2).e]] W fun r w'=>∃ v D,r=.returned v∧DAns W w' D v∧D*2^4194304*2^4194304=dX V 0 1 2∧Bd (2*2152+3) D):=fun W hW=>by
    have:=sdetN_any ((hA.e 0 (by decide) 0 (by decide)).2.2.2.num.keeps hW) (hB 0 (by decide) 0 (by decide)) ((hA.e 0 (by decide) 1 (by decide)).2.2.2.num.keeps hW) (hB 0 (by decide) 1 (by decide)) ((hA.e 0 (by decide) 2 (by decide)).2.2.2.num.keeps hW) (hB 0 (by decide) 2 (by decide)) ((hA.e 1 (by decide) 0 (by decide)).2.2.2.num.keeps hW) (hB 1 (by decide) 0 (by decide)) ((hA.e 1 (by decide) 1 (by decide)).2.2.2.num.keeps hW) (hB 1 (by decide) 1 (by decide)) ((hA.e 1 (by decide) 2 (by decide)).2.2.2.num.keeps hW) (hB 1 (by decide) 2 (by decide)) ((hA.e 2 (by decide) 0 (by decide)).2.2.2.num.keeps hW) (hB 2 (by decide) 0 (by decide)) ((hA.e 2 (by decide) 1 (by decide)).2.2.2.num.keeps hW) (hB 2 (by decide) 1 (by decide)) ((hA.e 2 (by decide) 2 (by decide)).2.2.2.num.keeps hW) (hB 2 (by decide) 2 (by decide)) (hT.keeps hW)
    rw [dx_poly V 0 1 2] at this
    exact this
  have b_k:=heap_a2 w (.cells arr 88) (.cells #[.bool false,.slice none 0 0,.int .i64 0] 33)
  have r_k:=heap_b2 w (.cells arr 88) (.cells #[.bool false,.slice none 0 0,.int .i64 0] 33)
  have hb0:=bel_alloc2 w (.cells arr 88) (.cells #[.bool false,.slice none 0 0,.int .i64 0] 33)
  have c0:=blkC b_k 0 (hA.e 0 (by decide) 0 (by decide)).1
  have c1:=blkC b_k 1 (hA.e 0 (by decide) 0 (by decide)).2.1
  have c2:=blkC b_k 2 (hA.e 0 (by decide) 0 (by decide)).2.2.1
  have c3:=blkC b_k 3 (hA.e 0 (by decide) 1 (by decide)).1
  have c4:=blkC b_k 4 (hA.e 0 (by decide) 1 (by decide)).2.1
  have c5:=blkC b_k 5 (hA.e 0 (by decide) 1 (by decide)).2.2.1
  have c6:=blkC b_k 6 (hA.e 0 (by decide) 2 (by decide)).1
  have c7:=blkC b_k 7 (hA.e 0 (by decide) 2 (by decide)).2.1
  have c8:=blkC b_k 8 (hA.e 0 (by decide) 2 (by decide)).2.2.1
  have c9:=blkC b_k 9 (hA.e 1 (by decide) 0 (by decide)).1
  have c10:=blkC b_k 10 (hA.e 1 (by decide) 0 (by decide)).2.1
  have c11:=blkC b_k 11 (hA.e 1 (by decide) 0 (by decide)).2.2.1
  have c12:=blkC b_k 12 (hA.e 1 (by decide) 1 (by decide)).1
  have c13:=blkC b_k 13 (hA.e 1 (by decide) 1 (by decide)).2.1
  have c14:=blkC b_k 14 (hA.e 1 (by decide) 1 (by decide)).2.2.1
  have c15:=blkC b_k 15 (hA.e 1 (by decide) 2 (by decide)).1
  have c16:=blkC b_k 16 (hA.e 1 (by decide) 2 (by decide)).2.1
  have c17:=blkC b_k 17 (hA.e 1 (by decide) 2 (by decide)).2.2.1
  have c18:=blkC b_k 18 (hA.e 2 (by decide) 0 (by decide)).1
  have c19:=blkC b_k 19 (hA.e 2 (by decide) 0 (by decide)).2.1
  have c20:=blkC b_k 20 (hA.e 2 (by decide) 0 (by decide)).2.2.1
  have c21:=blkC b_k 21 (hA.e 2 (by decide) 1 (by decide)).1
  have c22:=blkC b_k 22 (hA.e 2 (by decide) 1 (by decide)).2.1
  have c23:=blkC b_k 23 (hA.e 2 (by decide) 1 (by decide)).2.2.1
  have c24:=blkC b_k 24 (hA.e 2 (by decide) 2 (by decide)).1
  have c25:=blkC b_k 25 (hA.e 2 (by decide) 2 (by decide)).2.1
  have c26:=blkC b_k 26 (hA.e 2 (by decide) 2 (by decide)).2.2.1
  have hi:(Tryz.prog.info? 88).map (·.size)=some arr.size:=by rw [hA.n]; kernel_rfl
  clear hA hB hT
  go_enter Tryz.func37,Tryz.ntmps37
  go_wp2_with fail
  clear c0 c1 c2 c3 c4 c5 c6 c7 c8 c9 c10 c11 c12 c13 c14 c15 c16 c17 c18 c19 c20 c21 c22 c23 c24 c25 c26
  generalize (w.alloc (.cells arr 88)).alloc (.cells #[.bool false,.slice none 0 0,.int .i64 0] 33)=x0 at hb0 b_k r_k ⊢
  have hs0:=(Array.getElem?_eq_some_iff.1 r_k).1
  refine (CD.out _ hb0).mono ?_
  rintro _ y1 ⟨v,D,rfl,hd,he,hbd⟩
  obtain ⟨n_g,n_o,n_n,n_c,n_e,rfl⟩:=dans_shape hd
  have r_k:=blk_us hd.below r_k
  have k0:=blkC r_k 0 rfl
  have k1:=blkC r_k 1 rfl
  have k2:=blkC r_k 2 rfl
  have z0:=blkF r_k 0
  have z1:=blkF r_k 1
  have z2:=blkF r_k 2
  go_wp2
  refine bodyPost_ret (v:=.agg #[.bool n_g,.slice n_o n_n n_c,.int .i64 n_e]) (by simp [results,Tryz.results37,go_sem,k0,k1,k2]) rfl ⟨_,D,rfl,?_,he,hbd⟩
  exact dans_res3 (g:=w.heap.size+1) hd hb0 (by omega) hs0 _ _ _
structure LqN (W:World) (arr:Array Value) (X:Nat->Int) (n:Nat) (Y:Nat->NumR):Prop where
  len:arr.size=12
  e:∀ i,i<4->arr[i*3]?=some (.bool (Y i).ng)∧arr[i*3+1]?=some (.slice (Y i).ao (Y i).n (Y i).cap)∧arr[i*3+2]?=some (.int .i64 (Y i).e)∧DAn 0 W (if i<n then X i else 0) (Y i).v
theorem LqN.keeps {W W':World} {arr:Array Value} {X:Nat->Int} {n:Nat} {Y:Nat->NumR} (h:LqN W arr X n Y) (hb:Below W.heap.size W W'):LqN W' arr X n Y :=
  ⟨h.len,fun i hi=>by obtain ⟨a,b,c,d⟩:=h.e i hi; exact ⟨a,b,c,d.keeps hb⟩⟩
theorem dan_g3 {B:Nat} {W:World} {U:Int} {v:Value} (hd:DAn B W U v) {g:Nat} {xs:Array Value} {t:TypeId} {z:Nat × Nat} (hg:W.heap[g]?=some (.cells xs t z)) (ht:t≠3) (o0 o1 o2:Nat) (x y u:Value):DAn B (((W.setCell ⟨g,o0,none⟩ x).setCell ⟨g,o1,none⟩ y).setCell ⟨g,o2,none⟩ u) U v :=
  hd.of_blocks fun k cur z' hk=>by
    have hne:k≠g:=fun e=>by
      subst e
      rw [hg] at hk
      simp only [Option.some.injEq,Obj.cells.injEq] at hk
      exact ht hk.2.1
    exact (wr3 W g _ _ _ _ _ _).block k (Array.getElem?_eq_some_iff.1 hk).1 hne
theorem LqN.other {W:World} {arr:Array Value} {X:Nat->Int} {n:Nat} {Y:Nat->NumR} (h:LqN W arr X n Y) {g:Nat} {xs:Array Value} {t:TypeId} {z:Nat × Nat} (hg:W.heap[g]?=some (.cells xs t z)) (ht:t≠3) (o0 o1 o2:Nat) (x y u:Value):LqN (((W.setCell ⟨g,o0,none⟩ x).setCell ⟨g,o1,none⟩ y).setCell ⟨g,o2,none⟩ u) arr X n Y :=
  ⟨h.len,fun i hi=>by obtain ⟨a,b,c,d⟩:=h.e i hi; exact ⟨a,b,c,dan_g3 d hg ht _ _ _ _ _ _⟩⟩
theorem LqN.put {W:World} {arr:Array Value} {X X':Nat->Int} {i m:Nat} {Y:Nat->NumR} (h:LqN W arr X m Y) (i4:i<4) (hX:∀ j,j<4->j≠i->(if j<m then X j else 0)=(if j<i+1 then X' j else 0)) {g:Nat} {xs:Array Value} {z:Nat × Nat} (hg:W.heap[g]?=some (.cells xs 126 z)) (x:NumR) (hx:DAn 0 W (X' i) x.v) :
    LqN (((W.setCell ⟨g,i*3,none⟩ (.bool x.ng)).setCell ⟨g,i*3+1,none⟩ (.slice x.ao x.n x.cap)).setCell ⟨g,i*3+2,none⟩ (.int .i64 x.e)) (((arr.setIfInBounds (i*3) (.bool x.ng)).setIfInBounds (i*3+1) (.slice x.ao x.n x.cap)).setIfInBounds (i*3+2) (.int .i64 x.e)) X' (i+1) (fun j=>if j=i then x else Y j):=by
  have hn:=h.len
  have gg:∀ q,(((arr.setIfInBounds (i*3) (.bool x.ng)).setIfInBounds (i*3+1) (.slice x.ao x.n x.cap)).setIfInBounds (i*3+2) (.int .i64 x.e))[q]?=if i*3+2=q then some (.int .i64 x.e) else if i*3+1=q then some (.slice x.ao x.n x.cap) else if i*3=q then some (.bool x.ng) else arr[q]?:=fun q=>by
    rw [get_set _ _ _ _ (by simp only [Array.size_setIfInBounds]; omega),get_set _ _ _ _ (by simp only [Array.size_setIfInBounds]; omega),get_set _ _ _ _ (by omega)]
  refine ⟨by simp only [Array.size_setIfInBounds]; exact hn,fun j hj=>?_⟩
  by_cases e:j=i
  . subst e
    refine ⟨?_,?_,?_,?_⟩
    . rw [gg,if_neg (by omega),if_neg (by omega),if_pos rfl,if_pos rfl]
    . rw [gg,if_neg (by omega),if_pos rfl,if_pos rfl]
    . rw [gg,if_pos rfl,if_pos rfl]
    . rw [if_pos (by omega),if_pos rfl]
      exact dan_g3 hx hg (by decide) _ _ _ _ _ _
  . obtain ⟨a,b,c,d⟩:=h.e j hj
    refine ⟨?_,?_,?_,?_⟩
    . rw [gg,if_neg (by omega),if_neg (by omega),if_neg (by omega),if_neg e]; exact a
    . rw [gg,if_neg (by omega),if_neg (by omega),if_neg (by omega),if_neg e]; exact b
    . rw [gg,if_neg (by omega),if_neg (by omega),if_neg (by omega),if_neg e]; exact c
    . rw [if_neg e,<- hX j hj e]
      exact dan_g3 d hg (by decide) _ _ _ _ _ _
def f4 (a b c d:Int) (i:Nat):Int:=if i=0 then a else if i=1 then b else if i=2 then c else d
theorem opp_V {x:NumR} (ok:okR x=true):x.opp.V=-x.V∧Dy x.opp.V x.opp.ng (val x.opp.d x.opp.n) x.opp.e:=by
  have hy:=(okR_dy ok).1
  have hN:=(okR_sane ok).1
  by_cases h0:x.n=0
  . have hv:val x.d x.n=0:=by rw [h0]; rfl
    have e:x.opp=x:=by unfold NumR.opp; rw [if_pos h0]
    rw [e]
    have:=hy.eq_zero.2 hv
    exact ⟨by omega,hy⟩
  . have hp:=val_pos hN (show 0<x.n by omega)
    have e:x.opp=⟨!x.ng,x.ao,x.n,x.cap,x.d,x.e⟩:=by unfold NumR.opp; rw [if_neg h0]
    rw [e]
    have h1:=hy.neg hp
    have hV:NumR.V ⟨!x.ng,x.ao,x.n,x.cap,x.d,x.e⟩=-x.V:=h1.val.symm
    rw [hV]
    exact ⟨rfl,h1⟩
theorem RSum.shape {w w':World} {A B:Int} {x y:NumR} {v:Value} (h:RSum w w' A B x.v y.v v):∃ ng so sn sc e,v=.agg #[.bool ng,.slice so sn sc,.int .i64 e]:=by
  rcases h.2 with ⟨ng,s,m,e,rfl,_,hA⟩ | ⟨_,rfl⟩ | ⟨_,rfl⟩
  . obtain ⟨so,sn,sc,rfl⟩:=hA.num.shape
    exact ⟨_,_,_,_,_,rfl⟩
  . exact ⟨_,_,_,_,_,rfl⟩
  . exact ⟨_,_,_,_,_,rfl⟩
theorem rsum_res {w W w3:World} {A B:Int} {x y v:Value} (hv:RSum W w3 A B x y v) (hb:Below w.heap.size w W) {g:Nat} (h0:w.heap.size<=g) (h1:g<W.heap.size) (a b c:Value) :
    RSum w (((w3.setCell ⟨g,0,none⟩ a).setCell ⟨g,1,none⟩ b).setCell ⟨g,2,none⟩ c) A B x y v:=by
  refine ⟨bel_set3 (bel_trans hb hv.1) h0 _ _ _,?_⟩
  rcases hv.2 with h | h | h
  . exact .inl (dans_res3 h hb h0 h1 a b c)
  . exact .inr (.inl h)
  . exact .inr (.inr h)
set_option maxRecDepth 100000 in
set_option maxHeartbeats 2000000 in
theorem rsub3_any (x y:NumR) (w:World) (hx:Row w x.ao x.n x.cap x.d) (hy:Row w y.ao y.n y.cap y.d) (ox:okR x=true) (oy:okR y=true) {K:Nat} (hK:K<=560000) (bx:Bd K x.V) (bY:Bd K y.V) :
    Calls Tryz.prog 61 #[x.v,y.v] w fun r w'=>∃ v,r=.returned v∧RSum w w' x.V (-y.V) x.v y.opp.v v:=by
  obtain ⟨e1,e2⟩:=opp_V oy
  have hop:=fun W=>rneg3_any y W (by have:=hy.le; have:=hy.max; omega)
  have C2:∀ W,Below w.heap.size w W->Calls Tryz.prog 63 #[x.v,y.opp.v] W fun r w'=>∃ ng so sn sc e,r=.returned (.agg #[.bool ng,.slice so sn sc,.int .i64 e])∧RSum W w' x.V (-y.V) x.v y.opp.v (.agg #[.bool ng,.slice so sn sc,.int .i64 e])∧Below W.heap.size W w':=fun W hb=>by
    refine (radd3_any x y.opp W (hx.keeps hb) (hy.keeps hb) (okR_dy ox).1 (okR_sane ox).1 e2 (okR_sane oy).1 hK bx (by rw [e1]; exact bY.neg)).mono ?_
    rintro r w' ⟨v,rfl,h⟩
    rw [e1] at h
    obtain ⟨ng,so,sn,sc,e,rfl⟩:=h.shape
    exact ⟨_,_,_,_,_,rfl,h,h.1⟩
  have hmy:=hy.max
  have hly:=hy.le
  obtain ⟨VV,hVV⟩:∃ V,V=x.V:=⟨_,rfl⟩
  obtain ⟨UU,hUU⟩:∃ V,V=-y.V:=⟨_,rfl⟩
  rw [<- hVV,<- hUU] at C2 ⊢
  clear e1 e2 bx bY hVV hUU ox oy
  unfold NumR.opp at *
  obtain ⟨on,hon⟩:∃ V,V=(if y.n=0 then y.ng else !y.ng):=⟨_,rfl⟩
  rw [<- hon] at hop C2 ⊢
  clear hon
  obtain ⟨an,ao,n,ca,a,e⟩:=x
  obtain ⟨bn,bo,m,cb,b,f⟩:=y
  unfold NumR.v at *
  simp only at *
  have hb3:Below w.heap.size w (((w.alloc (.cells #[.bool an,.slice ao n ca,.int .i64 e] 33)).alloc (.cells #[.bool bn,.slice bo m cb,.int .i64 f] 33)).alloc (.cells #[.bool false,.slice none 0 0,.int .i64 0] 33)):=bel_a3 _ _ _ _
  have g0:=h3_0 w (.cells #[.bool an,.slice ao n ca,.int .i64 e] 33) (.cells #[.bool bn,.slice bo m cb,.int .i64 f] 33) (.cells #[.bool false,.slice none 0 0,.int .i64 0] 33)
  have g1:=h3_1 w (.cells #[.bool an,.slice ao n ca,.int .i64 e] 33) (.cells #[.bool bn,.slice bo m cb,.int .i64 f] 33) (.cells #[.bool false,.slice none 0 0,.int .i64 0] 33)
  have g2:=h3_2 w (.cells #[.bool an,.slice ao n ca,.int .i64 e] 33) (.cells #[.bool bn,.slice bo m cb,.int .i64 f] 33) (.cells #[.bool false,.slice none 0 0,.int .i64 0] 33)
  go_enter Tryz.func61,Tryz.ntmps61
  go_wp2_with fail
  generalize ((w.alloc (.cells #[.bool an,.slice ao n ca,.int .i64 e] 33)).alloc (.cells #[.bool bn,.slice bo m cb,.int .i64 f] 33)).alloc (.cells #[.bool false,.slice none 0 0,.int .i64 0] 33)=wx at hb3 g0 g1 g2 ⊢
  have k0:=blkC g0 0 rfl
  have k1:=blkC g0 1 rfl
  have k2:=blkC g0 2 rfl
  have j0:=blkC g1 0 rfl
  have j1:=blkC g1 1 rfl
  have j2:=blkC g1 2 rfl
  have hb1:=bel_refl wx
  have hs3:=(Array.getElem?_eq_some_iff.1 g2).1
  go_region_held3 (fun W=>(W.cell? ⟨w.heap.size,0,none⟩=some (.bool an)∧W.cell? ⟨w.heap.size,1,none⟩=some (.slice ao n ca)∧W.cell? ⟨w.heap.size,2,none⟩=some (.int .i64 e))∧W.cell? ⟨w.heap.size+1,0,none⟩=some (.bool bn)∧W.cell? ⟨w.heap.size+1,1,none⟩=some (.slice bo m cb)∧W.cell? ⟨w.heap.size+1,2,none⟩=some (.int .i64 f))
    (first | assumption | exact ⟨⟨k0,k1,k2⟩,j0,j1,j2⟩ | exact keep66 (W:=wx.drew) hbv1 ⟨⟨k0,k1,k2⟩,j0,j1,j2⟩ | exact keep66 hbv2 (keep66 (W:=wx.drew) hbv1 ⟨⟨k0,k1,k2⟩,j0,j1,j2⟩) | exact ⟨keepS (keep66 hbv2 (keep66 (W:=wx.drew) hbv1 ⟨⟨k0,k1,k2⟩,j0,j1,j2⟩)).1 (by omega) _ _ _,keepS (keep66 hbv2 (keep66 (W:=wx.drew) hbv1 ⟨⟨k0,k1,k2⟩,j0,j1,j2⟩)).2 (by omega) _ _ _⟩)
    (first | (go_at_call 63; refine (C2 _ (bel_trans hb3 (bel_trans hb1.drew hbv1))).mono ?_; rintro y w4 ⟨ng4,o4,n4,c4,e4,rfl,hv2,hbv2⟩; have q0:=((bel_trans hbv1 hbv2).block (w.heap.size+2) (by show _<wx.heap.size; omega)).trans g2; have x0:=blkC q0 0 rfl; have x1:=blkC q0 1 rfl; have x2:=blkC q0 2 rfl; have z0:=blkF q0 0; have z1:=blkF q0 1; have z2:=blkF q0 2) | (go_at_call 91; refine (hop _).mono ?_; rintro y w3 ⟨rfl,hbv1⟩))
  all_goals go_wp2
  all_goals
    refine bodyPost_ret (v:=.agg #[.bool ng4,.slice o4 n4 c4,.int .i64 e4]) (by simp [results,Tryz.results61,go_sem,x0,x1,x2]) rfl ⟨_,rfl,?_⟩
    exact rsum_res (g:=w.heap.size+2) hv2 (bel_trans hb3 (bel_trans hb1.drew hbv1)) (by omega) (Nat.lt_of_lt_of_le (show _<wx.heap.size by omega) hbv1.size) _ _ _
theorem sgn_ord {w:World} {ng:Bool} {so:Option Addr} {sn sc:Nat} {e V:Int} (h:DNum w (.agg #[.bool ng,.slice so sn sc,.int .i64 e]) V):sgn ng sn=ord V 0∧sn<=9223372036854775807:=by
  obtain ⟨ng',s,m,e',h1,hy,ao,n,cap,d,rfl,hR,hN,rfl⟩:=h
  simp only [Value.agg.injEq,Array.mk.injEq,List.cons.injEq,Value.bool.injEq,Value.int.injEq,Value.slice.injEq,and_true,true_and] at h1
  obtain ⟨rfl,⟨rfl,rfl,rfl⟩,rfl⟩:=h1
  refine ⟨?_,by have:=hR.le; have:=hR.max; omega⟩
  by_cases h0:sn=0
  . have:=hy.eq_zero.2 (by rw [h0]; rfl)
    rw [this,ord_eq rfl]
    simp [sgn,h0]
  . have hp:=val_pos hN (show 0<sn by omega)
    cases ng
    . have hn:¬ V<0:=fun h=>by have:=hy.neg_iff.2 h; simp at this
      have hz:V≠0:=fun h=>by have:=hy.eq_zero.1 h; omega
      rw [ord_gt (by omega)]
      simp [sgn,h0]
    . have hn:=hy.neg_iff.1 rfl
      rw [ord_lt hn]
      simp [sgn,h0]
def Src (B:Nat) (w:World) (n:Nat) (r:Nat->NumR) (V:Int) (v:Value):Prop:=DAn B w V v∨∃ i,i<n∧v=(r i).v∧V=(r i).V
theorem Src.keeps {B:Nat} {w w':World} {n:Nat} {r:Nat->NumR} {V:Int} {v:Value} (h:Src B w n r V v) (hb:Below w.heap.size w w'):Src B w' n r V v:=by
  rcases h with h | h
  . exact .inl (h.keeps hb)
  . exact .inr h
theorem ints_set3 {w:World} {g o0 o1 o2:Nat} {xs:Array Value} {z:Nat × Nat} (hg:w.heap[g]?=some (.cells xs 33 z)) (x y u:Value):∀ (g':Nat) (cur:Array Value) z',w.heap[g']?=some (.cells cur 3 z')->(((w.setCell ⟨g,o0,none⟩ x).setCell ⟨g,o1,none⟩ y).setCell ⟨g,o2,none⟩ u).heap[g']?=w.heap[g']?:=fun g' cur z' hc=>by
  refine (wr3 w g o0 o1 o2 x y u).block g' (Array.getElem?_eq_some_iff.1 hc).1 fun e=>?_
  subst e
  rw [hg] at hc
  simp at hc
theorem blk_on {W y:World} (hb:Below W.heap.size W y) {g:Nat} {X:Obj} (h:W.heap[g]?=some X):y.heap[g]?=some X:=(hb.block _ (Array.getElem?_eq_some_iff.1 h).1).trans h
theorem dan_res3 {B:Nat} {w3:World} {V:Int} {v:Value} (hv:DAn B w3 V v) {g:Nat} {xs:Array Value} {z:Nat × Nat} (hg:w3.heap[g]?=some (.cells xs 33 z)) (a b c:Value) :
    DAn B (((w3.setCell ⟨g,0,none⟩ a).setCell ⟨g,1,none⟩ b).setCell ⟨g,2,none⟩ c) V v:=hv.of_blocks (ints_set3 hg a b c)
def Det (a1 a2 b1 b2 V:Int):Prop:=∃ C D,C*2^4194304=a1*b2∧D*2^4194304=a2*b1∧V=C-D
theorem Det.unique {a1 a2 b1 b2 V V':Int} (h:Det a1 a2 b1 b2 V) (k:Det a1 a2 b1 b2 V'):V=V':=by
  obtain ⟨C,D,h1,h2,rfl⟩:=h
  obtain ⟨C',D',k1,k2,rfl⟩:=k
  rw [scale_inj (h1.trans k1.symm),scale_inj (h2.trans k2.symm)]
theorem blks2 (w:World) (o0 o1:Obj):Below w.heap.size w ((w.alloc o0).alloc o1)∧((w.alloc o0).alloc o1).heap[w.heap.size]?=some o0∧((w.alloc o0).alloc o1).heap[w.heap.size+1]?=some o1∧((w.alloc o0).alloc o1).heap.size=w.heap.size+1+1 :=
  ⟨bel_trans (bel_alloc w o0) (bel_alloc (w.alloc o0) o1),heap_past o1 (heap_new o0 (by rfl)),heap_new o1 (by simp only [size_alloc]),by simp only [size_alloc]⟩
theorem blks3 (w:World) (o0 o1 o2:Obj):Below w.heap.size w (((w.alloc o0).alloc o1).alloc o2)∧(((w.alloc o0).alloc o1).alloc o2).heap[w.heap.size]?=some o0∧(((w.alloc o0).alloc o1).alloc o2).heap[w.heap.size+1]?=some o1∧(((w.alloc o0).alloc o1).alloc o2).heap[w.heap.size+1+1]?=some o2∧(((w.alloc o0).alloc o1).alloc o2).heap.size=w.heap.size+1+1+1 :=
  ⟨bel_trans (bel_trans (bel_alloc w o0) (bel_alloc (w.alloc o0) o1)) (bel_alloc ((w.alloc o0).alloc o1) o2),heap_past o2 (heap_past o1 (heap_new o0 (by rfl))),heap_past o2 (heap_new o1 (by simp only [size_alloc])),heap_new o2 (by simp only [size_alloc]),by simp only [size_alloc]⟩
theorem blks4 (w:World) (o0 o1 o2 o3:Obj):Below w.heap.size w ((((w.alloc o0).alloc o1).alloc o2).alloc o3)∧((((w.alloc o0).alloc o1).alloc o2).alloc o3).heap[w.heap.size]?=some o0∧((((w.alloc o0).alloc o1).alloc o2).alloc o3).heap[w.heap.size+1]?=some o1∧((((w.alloc o0).alloc o1).alloc o2).alloc o3).heap[w.heap.size+1+1]?=some o2∧((((w.alloc o0).alloc o1).alloc o2).alloc o3).heap[w.heap.size+1+1+1]?=some o3∧((((w.alloc o0).alloc o1).alloc o2).alloc o3).heap.size=w.heap.size+1+1+1+1 :=
  ⟨bel_trans (bel_trans (bel_trans (bel_alloc w o0) (bel_alloc (w.alloc o0) o1)) (bel_alloc ((w.alloc o0).alloc o1) o2)) (bel_alloc (((w.alloc o0).alloc o1).alloc o2) o3),heap_past o3 (heap_past o2 (heap_past o1 (heap_new o0 (by rfl)))),heap_past o3 (heap_past o2 (heap_new o1 (by simp only [size_alloc]))),heap_past o3 (heap_new o2 (by simp only [size_alloc])),heap_new o3 (by simp only [size_alloc]),by simp only [size_alloc]⟩
theorem blks5 (w:World) (o0 o1 o2 o3 o4:Obj):Below w.heap.size w (((((w.alloc o0).alloc o1).alloc o2).alloc o3).alloc o4)∧(((((w.alloc o0).alloc o1).alloc o2).alloc o3).alloc o4).heap[w.heap.size]?=some o0∧(((((w.alloc o0).alloc o1).alloc o2).alloc o3).alloc o4).heap[w.heap.size+1]?=some o1∧(((((w.alloc o0).alloc o1).alloc o2).alloc o3).alloc o4).heap[w.heap.size+1+1]?=some o2∧(((((w.alloc o0).alloc o1).alloc o2).alloc o3).alloc o4).heap[w.heap.size+1+1+1]?=some o3∧(((((w.alloc o0).alloc o1).alloc o2).alloc o3).alloc o4).heap[w.heap.size+1+1+1+1]?=some o4∧(((((w.alloc o0).alloc o1).alloc o2).alloc o3).alloc o4).heap.size=w.heap.size+1+1+1+1+1 :=
  ⟨bel_trans (bel_trans (bel_trans (bel_trans (bel_alloc w o0) (bel_alloc (w.alloc o0) o1)) (bel_alloc ((w.alloc o0).alloc o1) o2)) (bel_alloc (((w.alloc o0).alloc o1).alloc o2) o3)) (bel_alloc ((((w.alloc o0).alloc o1).alloc o2).alloc o3) o4),heap_past o4 (heap_past o3 (heap_past o2 (heap_past o1 (heap_new o0 (by rfl))))),heap_past o4 (heap_past o3 (heap_past o2 (heap_new o1 (by simp only [size_alloc])))),heap_past o4 (heap_past o3 (heap_new o2 (by simp only [size_alloc]))),heap_past o4 (heap_new o3 (by simp only [size_alloc])),heap_new o4 (by simp only [size_alloc]),by simp only [size_alloc]⟩
theorem wd_nil:wd 0=0:=by decide
def sgP (p:Int):Int:=ord (key p) 0
theorem order_self {p:Int} (hp:rng p) (h:pok p=true):FloatKind.f64.format.order (wd p) (wd p)=some .eq:=q_eq hp hp (q_fin h) (q_fin h) rfl
set_option maxRecDepth 100000 in
theorem cmpNaN {p:Int} (hp:rng p) (h:pok p=true) (w:World) :
    Calls Tryz.prog 77 #[.float .f64 (wd p)] w fun r w'=>r=.returned (.bool false)∧w'=w:=by
  have e:=order_self hp h
  go_enter Tryz.func77,Tryz.ntmps77
  go_wp2
  go_ret
  exact ⟨rfl,rfl⟩
set_option maxRecDepth 100000 in
theorem cmpFloat {p:Int} (hp:rng p) (h:pok p=true) (w:World) :
    Calls Tryz.prog 44 #[.float .f64 (wd p),.float .f64 0] w fun r w'=>r=.returned (.int .i64 (sgP p))∧w'=w:=by
  have r0:rng 0:=by unfold rng; decide
  have p0:pok 0=true:=by decide
  have C1:Hid (∀ W,Calls Tryz.prog 77 #[.float .f64 (wd p)] W fun r w'=>r=.returned (.bool false)∧w'=W):=fun W=>cmpNaN hp h W
  have C2:Hid (∀ W,Calls Tryz.prog 77 #[.float .f64 0] W fun r w'=>r=.returned (.bool false)∧w'=W):=fun W=>by
    have:=cmpNaN r0 p0 W
    rw [wd_nil] at this
    exact this
  have k0:key 0=0:=by decide
  have hord:(FloatKind.f64.format.order (wd p) 0=some .lt∧sgP p=-1)∨(FloatKind.f64.format.order (wd p) 0=some .gt∧sgP p=1)∨(FloatKind.f64.format.order (wd p) 0=some .eq∧sgP p=0):=by
    unfold sgP ord
    rcases Int.lt_trichotomy (key p) 0 with g | g | g
    . exact .inl ⟨by have:=q_lt hp r0 (q_fin h) (q_fin p0) (by rw [k0]; exact g); rw [wd_nil] at this; exact this,by first | simp [g] | (rw [if_pos g])⟩
    . exact .inr (.inr ⟨by have:=q_eq hp r0 (q_fin h) (q_fin p0) (by rw [k0]; exact g); rw [wd_nil] at this; exact this,by rw [g]; decide⟩)
    . exact .inr (.inl ⟨by have:=q_gt hp r0 (q_fin h) (q_fin p0) (by rw [k0]; exact g); rw [wd_nil] at this; exact this,by
        have:¬ key p<0:=by omega
        simp [this,g]⟩)
  clear hp h r0 p0 k0
  generalize sgP p=s at *
  generalize wd p=P at *
  rcases hord with ⟨ho,rfl⟩ | ⟨ho,rfl⟩ | ⟨ho,rfl⟩
  all_goals
    go_enter Tryz.func44,Tryz.ntmps44
    go_wp2_with fail
    refine (C1.out _).mono ?_
    rintro _ wz ⟨rfl,hwz⟩
    replace hwz:=hwz.symm
    subst hwz
    go_wp2_with fail
    refine (C2.out _).mono ?_
    rintro _ wz ⟨rfl,hwz⟩
    replace hwz:=hwz.symm
    subst hwz
    go_wp2
    go_ret
    exact ⟨rfl,rfl⟩
theorem ord_sc {D c X:Int} (hc:0<c) (h:D*c=X):ord D 0=ord X 0:=by
  have e:=ord_mul D 0 c
  rw [Int.zero_mul,h] at e
  have h1:ord c 0=1:=by
    unfold ord
    rw [if_neg (by omega),if_pos hc]
  rw [e,h1,Int.mul_one]
theorem bd_pat {b:Int} (hr:rng b) (h:pok b=true):Bd 1074 (patV b):=by
  obtain ⟨i0,i1,i2,i3⟩:=pmag_in h
  have f:=iV_form hr h
  have hb:((iV b).natAbs:Int)<2^(2*1074):=by
    rw [f]
    have e1:(2:Int)^(pexp b+1074).toNat<=2^2045:=p2le (by omega)
    have p:=p2 (pexp b+1074).toNat
    have e2:(2:Int)^(2*1074)=2^103*2^2045:=by rw [<- Int.pow_add]
    have e3:pmag b*2^(pexp b+1074).toNat<=9007199254740992*2^2045:=Int.mul_le_mul (by omega) e1 (Int.le_of_lt p) (by decide)
    have p3:=p2 2045
    rw [e2,show (2:Int)^103=10141204801825835211973625643008 by decide]
    generalize (2:Int)^2045=z at *
    omega
  refine ⟨iV b,patV_iV hr h,by omega,by omega⟩
theorem vL_bd {s:Nat->Nat->Int} {m:Nat} (hr:∀ i k,rng (s i k)) (hz:∀ i,i<=m->∀ k,k<3->pok (s i k)=true) (p:Nat) (hp:p<4) (k:Nat) (hk:k<3):Bd 1075 (vL s m p k):=by
  unfold vL
  by_cases c:p<m
  . rw [if_pos c,Int.sub_eq_add_neg]
    exact (bd_pat (hr p k) (hz p (by omega) k hk)).add (bd_pat (hr m k) (hz m (Nat.le_refl _) k hk)).neg (by decide)
  . rw [if_neg c]
    exact bd_zero _
theorem q_side (w:World):Calls Tryz.prog 18 #[] w fun e w'=>e=.returned (.agg #[.func (.func 36) #[] #[],.float .f64 4380876537524649991,.func (.func 37) #[] #[]])∧Below w.heap.size w w':=by
  have hs1:∀ p F m w,(store p (.func (.func F) #[] #[]) m).run Tryz.prog w=stored Tryz.prog w p (.func (.func F) #[] #[]) m:=fun p F m w=>run_store _ w p _ m rfl
  have hs2:∀ p x m w,(store p (.float .f64 x) m).run Tryz.prog w=stored Tryz.prog w p (.float .f64 x) m:=fun p x m w=>run_store _ w p _ m rfl
  go_enter Tryz.func18,Tryz.ntmps18
  go_wp2
  exact bodyPost_ret (v:=.agg #[.func (.func 36) #[] #[],.float .f64 4380876537524649991,.func (.func 37) #[] #[]]) (by simp [results,Tryz.results18,go_sem]) rfl ⟨rfl,bel_alloc _ _⟩
theorem cx_side {s:Nat->Nat->Int} (hr:∀ i k,rng (s i k)) (hz:∀ i,i<=3->∀ k,k<3->pok (s i k)=true) {w:World} {arr:Array Value} {R:Nat->Nat->NumR} (hA:LnA w arr (vL s 3) R) (hT:Tab w) :
    Calls Tryz.prog 37 #[.agg arr] w fun r w'=>∃ v D,r=.returned v∧DAns w w' D v∧ord D 0=ord (dX (vL s 3) 0 1 2) 0∧Dok D∧D*(2^4194304*2^4194304)=dX (vL s 3) 0 1 2:=by
  refine (ssideX_any hA (vL_bd hr hz) hT).mono ?_
  rintro _ w' ⟨v,D,rfl,hd,he,hb⟩
  exact ⟨v,D,rfl,hd,ord_sc (Int.mul_pos (two_pos _) (two_pos _)) ((Int.mul_assoc _ _ _).symm.trans he),hb.ok (by decide),(Int.mul_assoc _ _ _).symm.trans he⟩
set_option maxRecDepth 100000 in
set_option maxHeartbeats 2000000 in
theorem xv_side (ao:Option Addr) (cap:Nat) (s:Nat->Nat->Int) (w:World) (h:Sps w ao 4 cap s) (hr:∀ i k,rng (s i k)) (hz:∀ i,i<=3->∀ k,k<3->pok (s i k)=true) (H:Hold4 w) (st:Int) :
    Calls Tryz.prog 40 #[.agg #[.func (.func 36) #[] #[],.float .f64 4380876537524649991,.func (.func 37) #[] #[]],.slice ao 4 cap,.int .i64 st] w fun e w'=>e=.returned (.agg #[.int .i64 (ord (dX (vL s 3) 0 1 2) 0),.int .i64 st])∧Below w.heap.size w w':=by
  have CL:Hid (∀ W,Below w.heap.size w W->Calls Tryz.prog 45 #[.slice ao 4 cap,.func (.func 46) #[] #[]] W fun e w'=>∃ arr R,e=.returned (.agg arr)∧LnA w' arr (vL s 3) R∧Below W.heap.size W w'):=fun W hW=>slegsN_any ao 4 3 cap s W (h.keeps hW) rfl (by decide) hz (H.keeps hW)
  have CE:Hid (∀ W arr R,Below w.heap.size w W->LnA W arr (vL s 3) R->Calls Tryz.prog 37 #[.agg arr] W fun r w'=>∃ v D,r=.returned v∧DAns W w' D v∧ord D 0=ord (dX (vL s 3) 0 1 2) 0∧Dok D):=fun W arr R hW hA=>(cx_side hr hz hA (H.keeps hW).tab).mono fun _ _ ⟨v,D,h1,h2,h3,h4,_⟩=>⟨v,D,h1,h2,h3,h4⟩
  have CS:Hid (∀ W v D,DNum W v D->Dok D->Calls Tryz.prog 73 #[v] W fun r w'=>r=.returned (.tuple #[.int .i64 (ord D 0),.int .i64 0])∧Below W.heap.size W w'):=fun W v D h1 h2=>sign_D h1 h2
  clear h hr hz H
  generalize ord (dX (vL s 3) 0 1 2) 0=sg at *
  have hb0:=bel_alloc2 w (.cells #[.func (.func 36) #[] #[],.float .f64 4380876537524649991,.func (.func 37) #[] #[]] 57) (.cells #[.int .i64 0,.int .i64 0] 27)
  have q_k:=heap_a2 w (.cells #[.func (.func 36) #[] #[],.float .f64 4380876537524649991,.func (.func 37) #[] #[]] 57) (.cells #[.int .i64 0,.int .i64 0] 27)
  have r_k:=heap_b2 w (.cells #[.func (.func 36) #[] #[],.float .f64 4380876537524649991,.func (.func 37) #[] #[]] 57) (.cells #[.int .i64 0,.int .i64 0] 27)
  go_enter Tryz.func40,Tryz.ntmps40
  go_wp2_with fail
  generalize (w.alloc (.cells #[.func (.func 36) #[] #[],.float .f64 4380876537524649991,.func (.func 37) #[] #[]] 57)).alloc (.cells #[.int .i64 0,.int .i64 0] 27)=x0 at hb0 q_k r_k ⊢
  have KK:∀ W,Below x0.heap.size x0 W->W.cell? ⟨w.heap.size,2,none⟩=some (.func (.func 37) #[] #[]):=fun W hb=>q_cell (blkC q_k 2 rfl) hb
  have hC0:=(bel_refl x0).drew
  go_region_held3 (fun W=>W.cell? ⟨w.heap.size,2,none⟩=some (.func (.func 37) #[] #[]))
    (with_reducible first | assumption | exact KK _ hC0 | exact KK _ hC1 | exact KK _ hC2 | exact KK _ hC3 | fail)
    (first | (go_at_call 73; refine (CS.out _ _ _ hd.num hok).mono ?_; rintro _ y3 ⟨rfl,hw3⟩; have hC3:=bel_trans hC2 hw3) | (go_at_call 37; refine (CE.out _ _ _ (bel_trans hb0 hC1) hA).mono ?_; rintro _ y2 ⟨v,D,rfl,hd,hsg,hok⟩; have hC2:=bel_trans hC1 hd.below) | (go_at_call 45; refine (CL.out _ (bel_trans hb0 hC0)).mono ?_; rintro _ y1 ⟨arr,R,rfl,hA,hw1⟩; have hC1:=bel_trans hC0 hw1))
  replace r_k:=blk_us hC3 r_k
  replace hb0:=bel_trans hb0 hC3
  clear q_k KK hC0 hC1 hC2 hC3 hw1 hw3 hd hA hok
  have k0:=blkC r_k 0 rfl
  have k1:=blkC r_k 1 rfl
  have z0:=blkF r_k 0
  have z1:=blkF r_k 1
  go_wp2
  exact bodyPost_ret (v:=.agg #[.int .i64 sg,.int .i64 st]) (by simp [results,Tryz.results40,go_sem,k0,k1]) rfl ⟨rfl,(hb0.setCell (p:=⟨w.heap.size+1,0,none⟩) (show w.heap.size<=w.heap.size+1 by omega) _).setCell (p:=⟨w.heap.size+1,1,none⟩) (show w.heap.size<=w.heap.size+1 by omega) _⟩
theorem key_absS {m d:Int} (hm:rng m) (hd:rng d) (h:key m<rg d):iV m<((iV d).natAbs:Int):=by
  obtain ⟨q1,q2⟩:=q_rg hd
  have e:iV (rg d)=((iV d).natAbs:Int):=by
    rw [iV_abs,iV,decide_eq_false (by omega),rg_rg hd]
    rfl
  rw [<- e]
  exact iV_mono hm q1 (by rw [q_key q2]; exact h)
theorem ord_iff {A B:Int} (h1:0<A ↔ 0<B) (h2:A<0 ↔ B<0):ord A 0=ord B 0:=by
  unfold ord
  by_cases c:A<0
  . rw [if_pos c,if_pos (h2.1 c)]
  . rw [if_neg c,if_neg (fun d=>c (h2.2 d))]
    by_cases e:0<A
    . rw [if_pos e,if_pos (h1.1 e)]
    . rw [if_neg e,if_neg (fun d=>e (h1.2 d))]
def xL (s:Nat->Nat->Int) (m p k:Nat):Int:=if p<m then iV (s p k)-iV (s m k) else 0
theorem vL_xL {s:Nat->Nat->Int} {m:Nat} (hr:∀ i k,rng (s i k)) (hz:∀ i,i<=m->∀ k,k<3->pok (s i k)=true) (p k:Nat) (hk:k<3):vL s m p k=xL s m p k*pw (-1074):=by
  unfold vL xL
  by_cases c:p<m
  . rw [if_pos c,if_pos c,patV_iV (hr p k) (hz p (by omega) k hk),patV_iV (hr m k) (hz m (Nat.le_refl _) k hk),Int.sub_mul]
  . rw [if_neg c,if_neg c,Int.zero_mul]
theorem lg_of {s:Nat->Nat->Int} {m:Nat} (hz:∀ i,i<=m->∀ k,k<3->Mz (s i k)) (p:Nat):Lg (xL s m) (uL s m) p:=by
  refine ⟨fun k hk=>?_,fun k hk=>?_⟩
  . unfold uL
    by_cases c:p<m
    . rw [if_pos c]; exact ((hz p (by omega) k hk).diff (hz m (Nat.le_refl _) k hk)).1
    . rw [if_neg c]; exact fx_zero
  . unfold uL xL
    by_cases c:p<m
    . rw [if_pos c,if_pos c]; exact ((hz p (by omega) k hk).diff (hz m (Nat.le_refl _) k hk)).2
    . rw [if_neg c,if_neg c]
      have e:iV 0=0:=by decide
      unfold Un
      rw [e]
      decide
theorem dX_sc (X Y:Nat->Nat->Int) (c:Int) (p q r:Nat) (h:∀ i k,k<3->Y i k=X i k*c):dX Y p q r=dX X p q r*(c*(c*c)):=by
  unfold dX mX
  rw [h p 0 (by decide),h p 1 (by decide),h p 2 (by decide),h q 0 (by decide),h q 1 (by decide),h q 2 (by decide),h r 0 (by decide),h r 1 (by decide),h r 2 (by decide)]
  grind
theorem sgn_pat {d A:Int} (hd:rng d) (h:(0<A ↔ 0<iV d)∧(A<0 ↔ iV d<0)):sgP d=ord A 0:=by
  obtain ⟨k1,k2⟩:=iV_key hd
  unfold sgP
  exact (ord_iff (h.1.trans k2) (h.2.trans k1)).symm
theorem fx_side {s:Nat->Nat->Int} (hz:∀ i,i<=3->∀ k,k<3->Mz (s i k)):rng (dt (uL s 3) 0 1 2)∧pok (dt (uL s 3) 0 1 2)=true∧rng (sxz (uL s 3) 0 1 2)∧pok (sxz (uL s 3) 0 1 2)=true:=⟨(dt_dv (lg_of hz 0) (lg_of hz 1) (lg_of hz 2)).1.r,(dt_dv (lg_of hz 0) (lg_of hz 1) (lg_of hz 2)).1.p,(sxz_sz (lg_of hz 0) (lg_of hz 1) (lg_of hz 2)).1.r,(sxz_sz (lg_of hz 0) (lg_of hz 1) (lg_of hz 2)).1.p⟩
theorem sgn_side {s:Nat->Nat->Int} (hr:∀ i k,rng (s i k)) (hz:∀ i,i<=3->∀ k,k<3->Mz (s i k)) (h:key (fprod sA (sxz (uL s 3) 0 1 2))<rg (dt (uL s 3) 0 1 2)):sgP (dt (uL s 3) 0 1 2)=ord (dX (vL s 3) 0 1 2) 0:=by
  have w0:=pw_pos (-1074)
  have c:0<pw (-1074)*(pw (-1074)*pw (-1074)):=Int.mul_pos w0 (Int.mul_pos w0 w0)
  rw [sgn_pat (dt_dv (lg_of hz 0) (lg_of hz 1) (lg_of hz 2)).1.r (side_sign (lg_of hz 0) (lg_of hz 1) (lg_of hz 2) (key_absS (fprod_rng rng_sA (sxz_sz (lg_of hz 0) (lg_of hz 1) (lg_of hz 2)).1.r) (dt_dv (lg_of hz 0) (lg_of hz 1) (lg_of hz 2)).1.r h))]
  exact ord_sc c (dX_sc (xL s 3) (vL s 3) (pw (-1074)) 0 1 2 (fun i k hk=>vL_xL hr (fun i hi k hk=>(hz i hi k hk).2.1) i k hk)).symm
theorem cls_prod {p q:Int} (hp:pok p=true) (rp:rng p) (hq:pok q=true) (rq:rng q):cls (fprod p q)≠4:=by
  obtain ⟨a1,a2⟩:=fin_cls rp hp
  obtain ⟨b1,b2⟩:=fin_cls rq hq
  unfold fprod
  rw [if_neg (fun h=>h.elim a1 b1),if_neg (fun h=>h.elim a2 b2)]
  by_cases c:fsize p q=0
  . rw [if_pos c]
    cases xsg p q <;> decide
  . rw [if_neg c]
    refine (nearP_pat (fun h=>c ?_)).2
    exact sg_eq_zero h
set_option maxRecDepth 100000 in
set_option maxHeartbeats 2000000 in
theorem nb_no_side (ao:Option Addr) (cap:Nat) (s:Nat->Nat->Int) (w:World) (h:Sps w ao 4 cap s) (hr:∀ i k,rng (s i k)) (hno:allB (sok s) 4=false) :
    Calls Tryz.prog 20 #[.agg #[.func (.func 36) #[] #[],.float .f64 4380876537524649991,.func (.func 37) #[] #[]],.slice ao 4 cap] w fun e w'=>e=.returned (.tuple #[.agg #[.bool false,.slice none 0 0,.int .i64 0],.int .i64 10])∧Below w.heap.size w w':=by
  have CG:Hid (∀ W,Below w.heap.size w W->Calls Tryz.prog 38 #[.slice ao 4 cap] W fun x w'=>x=.returned (.bool false)∧Below W.heap.size W w'):=fun W hW=>by
    have:=sgood_any ao 4 cap s W (h.keeps hW) hr
    rw [hno] at this
    exact this
  clear h hr hno
  have hb0:=bel_alloc2 w (.cells #[.func (.func 36) #[] #[],.float .f64 4380876537524649991,.func (.func 37) #[] #[]] 57) (.cells #[.bool false,.slice none 0 0,.int .i64 0] 33)
  have r_k:=heap_b2 w (.cells #[.func (.func 36) #[] #[],.float .f64 4380876537524649991,.func (.func 37) #[] #[]] 57) (.cells #[.bool false,.slice none 0 0,.int .i64 0] 33)
  go_enter Tryz.func20,Tryz.ntmps20
  go_wp2_with fail
  generalize (w.alloc (.cells #[.func (.func 36) #[] #[],.float .f64 4380876537524649991,.func (.func 37) #[] #[]] 57)).alloc (.cells #[.bool false,.slice none 0 0,.int .i64 0] 33)=x0 at hb0 r_k ⊢
  refine (CG.out _ hb0).mono ?_
  rintro _ y1 ⟨rfl,hw1⟩
  replace r_k:=blk_us hw1 r_k
  have k0:=blkC r_k 0 rfl
  have k1:=blkC r_k 1 rfl
  have k2:=blkC r_k 2 rfl
  have z0:=blkF r_k 0
  have z1:=blkF r_k 1
  have z2:=blkF r_k 2
  go_wp2
  exact bodyPost_ret (v:=.tuple #[.agg #[.bool false,.slice none 0 0,.int .i64 0],.int .i64 10]) (by simp [results,Tryz.results20,go_sem,k0,k1,k2]) rfl ⟨rfl,by first | exact bel_set3 (bel_trans hb0 hw1) (by omega) _ _ _ | exact bel_trans hb0 hw1⟩
set_option maxRecDepth 100000 in
set_option maxHeartbeats 2000000 in
theorem nb_ok_side (ao:Option Addr) (cap:Nat) (s:Nat->Nat->Int) (w:World) (h:Sps w ao 4 cap s) (hr:∀ i k,rng (s i k)) (hok:allB (sok s) 4=true) (hz:∀ i,i<=3->∀ k,k<3->pok (s i k)=true) (H:Hold4 w) :
    Calls Tryz.prog 20 #[.agg #[.func (.func 36) #[] #[],.float .f64 4380876537524649991,.func (.func 37) #[] #[]],.slice ao 4 cap] w fun e w'=>∃ v D,e=.returned (.tuple #[v,.int .i64 0])∧DAns w w' D v∧ord D 0=ord (dX (vL s 3) 0 1 2) 0∧Dok D∧D*(2^4194304*2^4194304)=dX (vL s 3) 0 1 2:=by
  have CG:Hid (∀ W,Below w.heap.size w W->Calls Tryz.prog 38 #[.slice ao 4 cap] W fun x w'=>x=.returned (.bool true)∧Below W.heap.size W w'):=fun W hW=>by
    have:=sgood_any ao 4 cap s W (h.keeps hW) hr
    rw [hok] at this
    exact this
  have CL:Hid (∀ W,Below w.heap.size w W->Calls Tryz.prog 45 #[.slice ao 4 cap,.func (.func 46) #[] #[]] W fun e w'=>∃ arr R,e=.returned (.agg arr)∧LnA w' arr (vL s 3) R∧Below W.heap.size W w'):=fun W hW=>slegsN_any ao 4 3 cap s W (h.keeps hW) rfl (by decide) hz (H.keeps hW)
  have CE:Hid (∀ W arr R,Below w.heap.size w W->LnA W arr (vL s 3) R->Calls Tryz.prog 37 #[.agg arr] W fun r w'=>∃ v D,r=.returned v∧DAns W w' D v∧ord D 0=ord (dX (vL s 3) 0 1 2) 0∧Dok D∧D*(2^4194304*2^4194304)=dX (vL s 3) 0 1 2):=fun W arr R hW hA=>cx_side hr hz hA (H.keeps hW).tab
  clear h hr hok hz H
  have hb0:=bel_alloc2 w (.cells #[.func (.func 36) #[] #[],.float .f64 4380876537524649991,.func (.func 37) #[] #[]] 57) (.cells #[.bool false,.slice none 0 0,.int .i64 0] 33)
  have q_k:=heap_a2 w (.cells #[.func (.func 36) #[] #[],.float .f64 4380876537524649991,.func (.func 37) #[] #[]] 57) (.cells #[.bool false,.slice none 0 0,.int .i64 0] 33)
  have r_k:=heap_b2 w (.cells #[.func (.func 36) #[] #[],.float .f64 4380876537524649991,.func (.func 37) #[] #[]] 57) (.cells #[.bool false,.slice none 0 0,.int .i64 0] 33)
  go_enter Tryz.func20,Tryz.ntmps20
  go_wp2_with fail
  generalize (w.alloc (.cells #[.func (.func 36) #[] #[],.float .f64 4380876537524649991,.func (.func 37) #[] #[]] 57)).alloc (.cells #[.bool false,.slice none 0 0,.int .i64 0] 33)=x0 at hb0 q_k r_k ⊢
  refine (CG.out _ hb0).mono ?_
  rintro _ y1 ⟨rfl,hw1⟩
  replace q_k:=blk_us hw1 q_k
  replace r_k:=blk_us hw1 r_k
  replace hb0:=bel_trans hb0 hw1
  have hs0:=(Array.getElem?_eq_some_iff.1 r_k).1
  go_wp2_with fail
  have KK:∀ W,Below y1.heap.size y1 W->W.cell? ⟨w.heap.size,2,none⟩=some (.func (.func 37) #[] #[]):=fun W hb=>q_cell (blkC q_k 2 rfl) hb
  have hC0:=(bel_refl y1).drew
  have hneq:w.heap.size≠w.heap.size+1:=by omega
  go_region_held3 (fun W=>W.cell? ⟨w.heap.size,2,none⟩=some (.func (.func 37) #[] #[]))
    (with_reducible first | assumption | exact KK _ hC0 | exact KK _ hC1 | exact KK _ hC2 | exact cell_g3 (KK _ hC2) _ _ _ _ _ _ hneq | fail)
    (first | (go_at_call 37; refine (CE.out _ _ _ (bel_trans hb0 hC1) hA).mono ?_; rintro _ y3 ⟨v,D,rfl,hd,hsg,hok,hcc⟩; obtain ⟨n_g,n_o,n_n,n_c,n_e,rfl⟩:=dans_shape hd; have hC2:=bel_trans hC1 hd.below; have dA:=DAns.from hd (bel_trans hb0 hC1); have r2:=blk_us hC2 r_k; have e0:=blkC r2 0 rfl; have e1:=blkC r2 1 rfl; have e2:=blkC r2 2 rfl; have z0:=blkF r2 0; have z1:=blkF r2 1; have z2:=blkF r2 2) | (go_at_call 45; refine (CL.out _ (bel_trans hb0 hC0)).mono ?_; rintro _ y2 ⟨arr,R,rfl,hA,hw2⟩; have hC1:=bel_trans hC0 hw2))
  all_goals
    go_wp2
    refine bodyPost_ret (v:=.tuple #[.agg #[.bool n_g,.slice n_o n_n n_c,.int .i64 n_e],.int .i64 0]) (by simp [results,Tryz.results20,go_sem,e0,e1,e2]) rfl ⟨_,D,rfl,?_,hsg,hok,hcc⟩
    exact dans_res3 (g:=w.heap.size+1) hd (bel_trans hb0 hC1) (by omega) (Nat.lt_of_lt_of_le hs0 hC1.size) _ _ _
theorem sg_notS (g:Bool) (X:Int):sg (!g) X=-sg g X:=by cases g <;> simp [sg]
theorem near_opp {S:Int} (h:S≠0):iV (nearP (-S))=-iV (nearP S):=by
  obtain ⟨A,r0,left,e,hR,hn⟩:=nearP_rung h
  have hA:0<A:=by
    have a0:0<=A:=Int.le_trans (vS_nonneg r0) hR.lo
    rcases Int.lt_or_eq_of_le a0 with c | c
    . exact c
    . rw [<- c] at e
      exact absurd (by rw [e]; cases decide (S<0) <;> rfl) h
  have eN:-S=sg (!decide (S<0)) A:=by
    rw [sg_notS]
    exact congrArg (fun z=>-z) e
  rw [eN,nearP_sg hA hR,hn]
  have t:∀ g g':Bool,rTo 0 g r0 left=rTo 0 g' r0 left:=fun g g'=>by unfold rTo rUp; rfl
  have bd:=rTo_range 0 (decide (S<0)) r0 left
  rw [t (!decide (S<0)) (decide (S<0)),iV_patS bd.1 bd.2,iV_patS bd.1 bd.2,sg_notS]
structure Vq (x V:Int):Prop where
  r:rng x
  p:pok x=true
  v:iV x=V
theorem Fx.vq {a b:Nat} {x:Int} (h:Fx a b x):Vq x (iV x):=⟨h.r,h.p,rfl⟩
theorem sum_vS {p q p' q':Int} (hp:Vq p (iV p')) (hq:Vq q (iV q')) (hp':Vq p' (iV p')) (hq':Vq q' (iV q')):iV (fsum p q)=iV (fsum p' q'):=by
  rw [fsum_eqn hp.r hq.r hp.p hq.p,fsum_eqn hp'.r hq'.r hp'.p hq'.p,patV_iV hp.r hp.p,patV_iV hq.r hq.p,patV_iV hp'.r hp'.p,patV_iV hq'.r hq'.p,hp.v,hq.v]
  by_cases c:iV p'*pw (-1074)+iV q'*pw (-1074)=0
  . rw [if_pos c,if_pos c,(zero_facts _).2.2,(zero_facts _).2.2]
  . rw [if_neg c,if_neg c]
theorem sum_oS {p q p' q':Int} (hp:Vq p (-iV p')) (hq:Vq q (-iV q')) (hp':Vq p' (iV p')) (hq':Vq q' (iV q')):iV (fsum p q)=-iV (fsum p' q'):=by
  rw [fsum_eqn hp.r hq.r hp.p hq.p,fsum_eqn hp'.r hq'.r hp'.p hq'.p,patV_iV hp.r hp.p,patV_iV hq.r hq.p,patV_iV hp'.r hp'.p,patV_iV hq'.r hq'.p,hp.v,hq.v,Int.neg_mul,Int.neg_mul,<- Int.neg_add]
  by_cases c:iV p'*pw (-1074)+iV q'*pw (-1074)=0
  . rw [c,Int.neg_zero,if_pos rfl,if_pos rfl,(zero_facts _).2.2,(zero_facts _).2.2]; rfl
  . rw [if_neg c,if_neg (by omega),near_opp c]
theorem sprod_eqn {p q T:Int} (hp:rng p) (hq:rng q) (pp:pok p=true) (pq:pok q=true) (hT:2^1074*T=iV p*iV q):fprod p q=if T=0 then patS (xsg p q) 0 else nearP (T*pw (-1074)):=by
  obtain ⟨a1,a2⟩:=fin_cls hp pp
  obtain ⟨b1,b2⟩:=fin_cls hq pq
  have hw:=pw_pos (-1074)
  have hs:patV p*patV q/2^4194304=T*pw (-1074):=by
    rw [patV_iV hp pp,patV_iV hq pq]
    have e2:=pw_mul (a:=-1074) (b:=-1074) (by decide) (by decide)
    rw [show (-1074 + -1074:Int)=-2148 by decide] at e2
    have e3:=pw_add (e:=-2148) (by decide) 1074
    rw [show (-2148+((1074:Nat):Int))=-1074 by decide] at e3
    exact k_fs (two_pos 4194304) e2 e3 hT
  unfold fprod fsize
  rw [if_neg (fun c=>c.elim a1 b1),if_neg (fun c=>c.elim a2 b2),hs]
  by_cases c:T=0
  . rw [if_pos c,if_pos (k_sgz _ c)]
  . rw [if_neg c,if_neg (fun d=>c (k_zero _ hw d)),k_sgsg]
theorem prod_oS {p q q' T:Int} (hp:Vq p (iV p)) (hq:Vq q (-iV q')) (hq':Vq q' (iV q')) (hT:2^1074*T=iV p*iV q'):iV (fprod p q)=-iV (fprod p q'):=by
  have hT':2^1074*(-T)=iV p*iV q:=by rw [hq.v,Int.mul_neg,Int.mul_neg,hT]
  rw [sprod_eqn hp.r hq.r hp.p hq.p hT',sprod_eqn hp.r hq'.r hp.p hq'.p hT]
  by_cases c:T=0
  . rw [c,Int.neg_zero,if_pos rfl,if_pos rfl,(zero_facts _).2.2,(zero_facts _).2.2]; rfl
  . have hw:=pw_pos (-1074)
    rw [if_neg c,if_neg (by omega),Int.neg_mul,near_opp (k_ne hw c)]
theorem mn_opp {X u:Nat->Nat->Int} {p q:Nat} (hp:Lg X u p) (hq:Lg X u q):iV (mn u q p)=-iV (mn u p q):=by
  obtain ⟨l,_⟩:=pL_fx hp hq
  obtain ⟨r,_⟩:=pL_fx hq hp
  obtain ⟨ln,le⟩:=l.neg
  obtain ⟨rn,re⟩:=r.neg
  have a:Vq (pL u q p) (-iV (neg (pL u q p))):=⟨r.r,r.p,by rw [re,Int.neg_neg]⟩
  have b:Vq (neg (pL u p q)) (-iV (pL u p q)):=⟨ln.r,ln.p,le⟩
  have c:=sum_oS a b rn.vq l.vq
  unfold mn
  rw [c,fsum_comm l.r rn.r l.p rn.p]
def rD (u:Nat->Nat->Int):Int:=fsum (fsum (fprod (u 0 2) (mn u 1 2)) (fprod (u 1 2) (mn u 2 0))) (fprod (u 2 2) (mn u 0 1))
theorem rD_v {X u:Nat->Nat->Int} (h0:Lg X u 0) (h1:Lg X u 1) (h2:Lg X u 2):Vq (rD u) (iV (dt u 0 1 2)):=by
  obtain ⟨f1,_⟩:=tm_dv h0 h1 h2
  obtain ⟨f2,_⟩:=tm_dv h1 h0 h2
  obtain ⟨g2,_⟩:=tm_dv h1 h2 h0
  obtain ⟨f3,_⟩:=tm_dv h2 h0 h1
  obtain ⟨n2,e2⟩:=f2.neg
  obtain ⟨s,_⟩:=f1.sum g2 (by decide)
  obtain ⟨s',_⟩:=f1.sum n2 (by decide)
  obtain ⟨t,_⟩:=s.sum (f3.up (show 1534<=1536 by decide)) (by decide)
  obtain ⟨m,_⟩:=mn_dv h0 h2
  obtain ⟨m',_⟩:=mn_dv h2 h0
  obtain ⟨_,_,T,hT,_⟩:=(h1.f 2 (by decide)).prod m (by decide) (by decide) (by decide)
  have k1:iV (fprod (u 1 2) (mn u 2 0))=-iV (fprod (u 1 2) (mn u 0 2)):=prod_oS (h1.f 2 (by decide)).vq ⟨m'.r,m'.p,mn_opp h0 h2⟩ m.vq hT
  have k2:=sum_vS f1.vq ⟨g2.r,g2.p,k1.trans e2.symm⟩ f1.vq n2.vq
  have k3:=sum_vS ⟨s.r,s.p,k2⟩ f3.vq s'.vq f3.vq
  exact ⟨t.r,t.p,k3⟩
theorem iV_rgS {p q:Int} (hp:rng p) (hq:rng q) (h:iV p=iV q):rg p=rg q:=by
  have a:=iV_abs p
  have b:=iV_abs q
  rw [h] at a
  have e:V Ieee.double (rg p).toNat=V Ieee.double (rg q).toNat:=by omega
  have p0:=(q_rg hp).2
  have q0:=(q_rg hq).2
  rcases Nat.lt_trichotomy (rg p).toNat (rg q).toNat with c | c | c
  . have:=V_lt Ieee.double c; omega
  . omega
  . have:=V_lt Ieee.double c; omega
theorem iV_inj {p q:Int} (hp:rng p) (hq:rng q) (h:iV p=iV q) (h0:iV q≠0):p=q:=by
  have e:=iV_rgS hp hq h
  unfold iV at h h0
  rw [e] at h
  have s:decide (p<0)=decide (q<0):=by
    generalize (V Ieee.double (rg q).toNat:Int)=v at *
    generalize decide (p<0)=a at h ⊢
    generalize decide (q<0)=b at h h0 ⊢
    cases a <;> cases b
    . rfl
    . exfalso; have h1:v=-v:=h; have h2:-v≠0:=h0; omega
    . exfalso; have h1:-v=v:=h; have h2:v≠0:=h0; omega
    . rfl
  have s2:p<0 ↔ q<0:=decide_eq_decide.1 s
  unfold rg at e
  unfold rng at hp hq
  by_cases c:p<0
  . rw [if_pos c,if_pos (s2.1 c)] at e; omega
  . rw [if_neg c,if_neg (fun d=>c (s2.2 d))] at e; omega
theorem iV_z {q:Int} (hq:rng q):iV q=0 ↔ key q=0:=by
  obtain ⟨a,b⟩:=iV_key hq
  omega
theorem key_vS {p q:Int} (hp:rng p) (hq:rng q) (h:iV p=iV q):key p=key q:=by
  by_cases c:iV q=0
  . rw [(iV_z hp).1 (h.trans c),(iV_z hq).1 c]
  . rw [iV_inj hp hq h c]
theorem Vq.fx {a b:Nat} {p q:Int} (h:Vq p (iV q)) (f:Fx a b q):Fx a b p:=⟨h.r,h.p,by rw [h.v]; exact f.d,by rw [h.v]; exact f.b⟩
theorem Vq.sum {a b:Nat} {p q p' q':Int} (hp:Vq p (iV p')) (hq:Vq q (iV q')) (fp:Fx a b p') (fq:Fx a b q') (hb:b+1<=2097):Vq (fsum p q) (iV (fsum p' q')):=by
  obtain ⟨s,_⟩:=(hp.fx fp).sum (hq.fx fq) hb
  exact ⟨s.r,s.p,sum_vS hp hq fp.vq fq.vq⟩
theorem Vq.neg {p q:Int} (h:Vq p (iV q)) (hq:Vq q (iV q)):Vq (M.neg p) (iV (M.neg q)):=by
  obtain ⟨n1,n2,n3⟩:=neg_facts h.r h.p
  obtain ⟨m1,m2,m3⟩:=neg_facts hq.r hq.p
  exact ⟨n1,n2,by rw [n3,m3,h.v]⟩
def rX (u:Nat->Nat->Int) (p q r:Nat):Int:=fsum (fsum (fprod (sz u p q) (rg (u r 2))) (fprod (sz u q r) (rg (u p 2)))) (fprod (sz u p r) (rg (u q 2)))
theorem side_same {X u:Nat->Nat->Int} (h0:Lg X u 0) (h1:Lg X u 1) (h2:Lg X u 2):rg (rD u)=rg (dt u 0 1 2)∧sgP (rD u)=sgP (dt u 0 1 2):=by
  have v:=rD_v h0 h1 h2
  obtain ⟨f,_⟩:=dt_dv h0 h1 h2
  refine ⟨iV_rgS v.r f.r v.v,?_⟩
  unfold sgP
  rw [key_vS v.r f.r v.v]
end Go.Proofs.YtcklaogdjpbagaaGreatDoor
