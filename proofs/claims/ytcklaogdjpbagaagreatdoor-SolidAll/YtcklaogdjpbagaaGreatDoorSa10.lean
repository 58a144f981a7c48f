/-
  Package solid's exact values: sideExact, sphereExact, by their contracts (tools/sd_ex.py).
-/
import Derived.Test.YtcklaogdjpbagaaGreatDoorSa7
import Derived.Test.YtcklaogdjpbagaaGreatDoorSa9
import Derived.Test.YtcklaogdjpbagaaGreatDoorSa8
set_option maxRecDepth 100000
set_option maxHeartbeats 8000000
set_option linter.unusedVariables false
set_option linter.unusedSimpArgs false
namespace Go.Proofs.YtcklaogdjpbagaaGreatDoor
open Go Go.Proofs.Tryz Go.RowKit Go.Proofs.YtcklaogdjpbagaaGreatDoor.M
theorem kb (V:Nat->Nat->Int) (p q r:Nat):V p 2*(V q 0*V r 1-V r 0*V q 1)+V q 2*(V r 0*V p 1-V p 0*V r 1)+V r 2*(V p 0*V q 1-V q 0*V p 1)=dX V p q r:=by
 unfold dX mX
 grind
theorem uE {w:World} {arr:Array Value} {V:Nat->Nat->Int} {R:Nat->Nat->aI} (hA:fY w arr V R) (hB:∀ p,p<4->∀ k,k<3->Bd 1075 (V p k)) (hT:dZ w) :
  Calls prog 37 #[.agg arr] w fun r w'=>∃ v D,r=.returned v∧aW w w' D v∧D*2^4194304*2^4194304=dX V 0 1 2∧Bd 4307 D:=by
 have CD:Hid (∀ W,Below w.heap.size w W->Calls prog 69 #[.agg #[.bool (R 0 0).ng,.slice (R 0 0).ao (R 0 0).n (R 0 0).cap,.int .i64 (R 0 0).e,.bool (R 0 1).ng,.slice (R 0 1).ao (R 0 1).n (R 0 1).cap,.int .i64 (R 0 1).e,.bool (R 0 2).ng,.slice (R 0 2).ao (R 0 2).n (R 0 2).cap,.int .i64 (R 0 2).e],.agg #[.bool (R 1 0).ng,.slice (R 1 0).ao (R 1 0).n (R 1 0).cap,.int .i64 (R 1 0).e,.bool (R 1 1).ng,.slice (R 1 1).ao (R 1 1).n (R 1 1).cap,.int .i64 (R 1 1).e,.bool (R 1 2).ng,.slice (R 1 2).ao (R 1 2).n (R 1 2).cap,.int .i64 (R 1 2).e],.agg #[.bool (R 2 0).ng,.slice (R 2 0).ao (R 2 0).n (R 2 0).cap,.int .i64 (R 2 0).e,.bool (R 2 1).ng,.slice (R 2 1).ao (R 2 1).n (R 2 1).cap,.int .i64 (R 2 1).e,.bool (R 2 2).ng,.slice (R 2 2).ao (R 2 2).n (R 2 2).cap,.int .i64 (R 2 2).e]] W fun r w'=>∃ v D,r=.returned v∧aW W w' D v∧D*2^4194304*2^4194304=dX V 0 1 2∧Bd (2*2152+3) D):=fun W hW=>by
  have:=ix ((hA.e 0 (by decide) 0 (by decide)).2.2.2.num.keeps hW) (hB 0 (by decide) 0 (by decide)) ((hA.e 0 (by decide) 1 (by decide)).2.2.2.num.keeps hW) (hB 0 (by decide) 1 (by decide)) ((hA.e 0 (by decide) 2 (by decide)).2.2.2.num.keeps hW) (hB 0 (by decide) 2 (by decide)) ((hA.e 1 (by decide) 0 (by decide)).2.2.2.num.keeps hW) (hB 1 (by decide) 0 (by decide)) ((hA.e 1 (by decide) 1 (by decide)).2.2.2.num.keeps hW) (hB 1 (by decide) 1 (by decide)) ((hA.e 1 (by decide) 2 (by decide)).2.2.2.num.keeps hW) (hB 1 (by decide) 2 (by decide)) ((hA.e 2 (by decide) 0 (by decide)).2.2.2.num.keeps hW) (hB 2 (by decide) 0 (by decide)) ((hA.e 2 (by decide) 1 (by decide)).2.2.2.num.keeps hW) (hB 2 (by decide) 1 (by decide)) ((hA.e 2 (by decide) 2 (by decide)).2.2.2.num.keeps hW) (hB 2 (by decide) 2 (by decide)) (hT.keeps hW)
  rw[kb V 0 1 2] at this
  exact this
 have b_k:=bO w (.cells arr 88) (.cells #[.bool false,.slice none 0 0,.int .i64 0] 33)
 have r_k:=bH w (.cells arr 88) (.cells #[.bool false,.slice none 0 0,.int .i64 0] 33)
 have hb0:=aL w (.cells arr 88) (.cells #[.bool false,.slice none 0 0,.int .i64 0] 33)
 have c0:=af b_k 0 (hA.e 0 (by decide) 0 (by decide)).1
 have c1:=af b_k 1 (hA.e 0 (by decide) 0 (by decide)).2.1
 have c2:=af b_k 2 (hA.e 0 (by decide) 0 (by decide)).2.2.1
 have c3:=af b_k 3 (hA.e 0 (by decide) 1 (by decide)).1
 have c4:=af b_k 4 (hA.e 0 (by decide) 1 (by decide)).2.1
 have c5:=af b_k 5 (hA.e 0 (by decide) 1 (by decide)).2.2.1
 have c6:=af b_k 6 (hA.e 0 (by decide) 2 (by decide)).1
 have c7:=af b_k 7 (hA.e 0 (by decide) 2 (by decide)).2.1
 have c8:=af b_k 8 (hA.e 0 (by decide) 2 (by decide)).2.2.1
 have c9:=af b_k 9 (hA.e 1 (by decide) 0 (by decide)).1
 have c10:=af b_k 10 (hA.e 1 (by decide) 0 (by decide)).2.1
 have c11:=af b_k 11 (hA.e 1 (by decide) 0 (by decide)).2.2.1
 have c12:=af b_k 12 (hA.e 1 (by decide) 1 (by decide)).1
 have c13:=af b_k 13 (hA.e 1 (by decide) 1 (by decide)).2.1
 have c14:=af b_k 14 (hA.e 1 (by decide) 1 (by decide)).2.2.1
 have c15:=af b_k 15 (hA.e 1 (by decide) 2 (by decide)).1
 have c16:=af b_k 16 (hA.e 1 (by decide) 2 (by decide)).2.1
 have c17:=af b_k 17 (hA.e 1 (by decide) 2 (by decide)).2.2.1
 have c18:=af b_k 18 (hA.e 2 (by decide) 0 (by decide)).1
 have c19:=af b_k 19 (hA.e 2 (by decide) 0 (by decide)).2.1
 have c20:=af b_k 20 (hA.e 2 (by decide) 0 (by decide)).2.2.1
 have c21:=af b_k 21 (hA.e 2 (by decide) 1 (by decide)).1
 have c22:=af b_k 22 (hA.e 2 (by decide) 1 (by decide)).2.1
 have c23:=af b_k 23 (hA.e 2 (by decide) 1 (by decide)).2.2.1
 have c24:=af b_k 24 (hA.e 2 (by decide) 2 (by decide)).1
 have c25:=af b_k 25 (hA.e 2 (by decide) 2 (by decide)).2.1
 have c26:=af b_k 26 (hA.e 2 (by decide) 2 (by decide)).2.2.1
 have hi:(prog.info? 88).map (·.size)=some arr.size:=by rw[hA.n];kernel_rfl
 clear hA hB hT
 go_enter func37,ntmps37
 go_wp2_with fail
 clear c0 c1 c2 c3 c4 c5 c6 c7 c8 c9 c10 c11 c12 c13 c14 c15 c16 c17 c18 c19 c20 c21 c22 c23 c24 c25 c26
 generalize (w.alloc (.cells arr 88)).alloc (.cells #[.bool false,.slice none 0 0,.int .i64 0] 33)=x0 at hb0 b_k r_k ⊢
 have hs0:=(aGe r_k).1
 refine(CD.out _ hb0).mono ?_
 rintro _ y1 ⟨v,D,rfl,hd,he,hbd⟩
 obtain⟨n_g,n_o,n_n,n_c,n_e,rfl⟩:=aN hd
 have r_k:=ak hd.below r_k
 have k0:=af r_k 0 rfl
 have k1:=af r_k 1 rfl
 have k2:=af r_k 2 rfl
 have z0:=ar r_k 0
 have z1:=ar r_k 1
 have z2:=ar r_k 2
 go_wp2
 refine bodyPost_ret (v:=.agg #[.bool n_g,.slice n_o n_n n_c,.int .i64 n_e]) (by simp[results,results37,go_sem,k0,k1,k2]) rfl ⟨_,D,rfl,?_,he,hbd⟩
 exact bG (g:=w.heap.size+1) hd hb0 (by omega) hs0 _ _ _
structure cm (W:World) (arr:Array Value) (X:Nat->Int) (n:Nat) (Y:Nat->aI):Prop where
 len:arr.size=12
 e:∀ i,i<4->arr[i*3]?=some (.bool (Y i).ng)∧arr[i*3+1]?=some (.slice (Y i).ao (Y i).n (Y i).cap)∧arr[i*3+2]?=some (.int .i64 (Y i).e)∧bJ 0 W (if i<n then X i else 0) (Y i).v
theorem cm.keeps {W W':World} {arr:Array Value} {X:Nat->Int} {n:Nat} {Y:Nat->aI} (h:cm W arr X n Y) (hb:Below W.heap.size W W'):cm W' arr X n Y :=
 ⟨h.len,fun i hi=>by obtain⟨a,b,c,d⟩:=h.e i hi;exact⟨a,b,c,d.keeps hb⟩⟩
theorem jm {B:Nat} {W:World} {U:Int} {v:Value} (hd:bJ B W U v) {g:Nat} {xs:Array Value} {t:TypeId} {z:Nat × Nat} (hg:W.heap[g]?=some (.cells xs t z)) (ht:t≠3) (o0 o1 o2:Nat) (x y u:Value):bJ B (((W.setCell ⟨g,o0,none⟩ x).setCell ⟨g,o1,none⟩ y).setCell ⟨g,o2,none⟩ u) U v :=
 hd.of_blocks fun k cur z' hk=>by
  have hne:k≠g:=fun e=>by
   subst e
   rw[hg] at hk
   simp only[Option.some.injEq,Obj.cells.injEq] at hk
   exact ht hk.2.1
  exact(pk W g _ _ _ _ _ _).block k (aGe hk).1 hne
theorem cm.other {W:World} {arr:Array Value} {X:Nat->Int} {n:Nat} {Y:Nat->aI} (h:cm W arr X n Y) {g:Nat} {xs:Array Value} {t:TypeId} {z:Nat × Nat} (hg:W.heap[g]?=some (.cells xs t z)) (ht:t≠3) (o0 o1 o2:Nat) (x y u:Value):cm (((W.setCell ⟨g,o0,none⟩ x).setCell ⟨g,o1,none⟩ y).setCell ⟨g,o2,none⟩ u) arr X n Y :=
 ⟨h.len,fun i hi=>by obtain⟨a,b,c,d⟩:=h.e i hi;exact⟨a,b,c,jm d hg ht _ _ _ _ _ _⟩⟩
theorem cm.put {W:World} {arr:Array Value} {X X':Nat->Int} {i m:Nat} {Y:Nat->aI} (h:cm W arr X m Y) (i4:i<4) (hX:∀ j,j<4->j≠i->(if j<m then X j else 0)=(if j<i+1 then X' j else 0)) {g:Nat} {xs:Array Value} {z:Nat × Nat} (hg:W.heap[g]?=some (.cells xs 126 z)) (x:aI) (hx:bJ 0 W (X' i) x.v) :
  cm (((W.setCell ⟨g,i*3,none⟩ (.bool x.ng)).setCell ⟨g,i*3+1,none⟩ (.slice x.ao x.n x.cap)).setCell ⟨g,i*3+2,none⟩ (.int .i64 x.e)) (((arr.setIfInBounds (i*3) (.bool x.ng)).setIfInBounds (i*3+1) (.slice x.ao x.n x.cap)).setIfInBounds (i*3+2) (.int .i64 x.e)) X' (i+1) (fun j=>if j=i then x else Y j):=by
 have hn:=h.len
 have gg:∀ q,(((arr.setIfInBounds (i*3) (.bool x.ng)).setIfInBounds (i*3+1) (.slice x.ao x.n x.cap)).setIfInBounds (i*3+2) (.int .i64 x.e))[q]?=if i*3+2=q then some (.int .i64 x.e) else if i*3+1=q then some (.slice x.ao x.n x.cap) else if i*3=q then some (.bool x.ng) else arr[q]?:=fun q=>by
  rw[eT _ _ _ _ (by simp only[Array.size_setIfInBounds];omega),eT _ _ _ _ (by simp only[Array.size_setIfInBounds];omega),eT _ _ _ _ (by omega)]
 refine⟨by simp only[Array.size_setIfInBounds];exact hn,fun j hj=>?_⟩
 by_cases e:j=i
 ·subst e
  refine⟨?_,?_,?_,?_⟩
  ·rw[gg,if_neg (by omega),if_neg (by omega),if_pos rfl,if_pos rfl]
  ·rw[gg,if_neg (by omega),if_pos rfl,if_pos rfl]
  ·rw[gg,if_pos rfl,if_pos rfl]
  ·rw[if_pos (by omega),if_pos rfl]
   exact jm hx hg (by decide) _ _ _ _ _ _
 ·obtain⟨a,b,c,d⟩:=h.e j hj
  refine⟨?_,?_,?_,?_⟩
  ·rw[gg,if_neg (by omega),if_neg (by omega),if_neg (by omega),if_neg e];exact a
  ·rw[gg,if_neg (by omega),if_neg (by omega),if_neg (by omega),if_neg e];exact b
  ·rw[gg,if_neg (by omega),if_neg (by omega),if_neg (by omega),if_neg e];exact c
  ·rw[if_neg e,<- hX j hj e]
   exact jm d hg (by decide) _ _ _ _ _ _
theorem cm.numC {W:World} {arr:Array Value} {X:Nat->Int} {Y:Nat->aI} (h:cm W arr X 4 Y) {g:Nat} {t:TypeId} (hg:W.heap[g]?=some (.cells arr t (0,0))) {i:Nat} (hi:i<4):jM W g (0+i*3) (X i):=by
 obtain⟨a,b,c,d⟩:=h.e i hi
 rw[if_pos hi] at d
 rw[Nat.zero_add]
 exact eu hg a b c d.num
theorem fY.numC {W:World} {arr:Array Value} {V:Nat->Nat->Int} {R:Nat->Nat->aI} (h:fY W arr V R) {g:Nat} {t:TypeId} (hg:W.heap[g]?=some (.cells arr t (0,0))) {p k:Nat} (hp:p<4) (hk:k<3):jM W g (p*9+k*3) (V p k):=by
 obtain⟨a,b,c,d⟩:=h.e p hp k hk
 exact eu hg a b c d.num
def eX (V:Nat->Nat->Int) (i:Nat):Int:=if i=0 then -dX V 1 2 3 else if i=1 then dX V 2 3 0 else if i=2 then -dX V 3 0 1 else dX V 0 1 2
theorem AD {S F L0 L1 L2 L3 D0 D1 D2 D3 l0 l1 l2 l3 d0 d1 d2 d3:Int} (a0:L0*S=l0) (a1:L1*S=l1) (a2:L2*S=l2) (a3:L3*S=l3) (b0:D0*S*S=-d0) (b1:D1*S*S=d1) (b2:D2*S*S=-d2) (b3:D3*S*S=d3) (e:F*S=0+L0*D0+L1*D1+L2*D2+L3*D3) :
  F*S*(S*S*S)=(l3*d3-l2*d2)+(l1*d1-l0*d0):=by
 have e0:d0=-(D0*S*S):=by omega
 have e2:d2=-(D2*S*S):=by omega
 rw[e,<- a0,<- a1,<- a2,<- a3,e0,<- b1,e2,<- b3]
 grind
theorem yG {w:World} {arr:Array Value} {V:Nat->Nat->Int} {R:Nat->Nat->aI} (hA:fY w arr V R) (hB:∀ p,p<4->∀ k,k<3->Bd 1075 (V p k)) (hT:dZ w) :
    Calls prog 60 #[.agg arr] w fun r w'=>∃ v F,r=.returned v∧aW w w' F v∧F*2^4194304*(2^4194304*2^4194304*2^4194304)=sX V∧cY F:=by
  have CD0:Hid (∀ W,Below w.heap.size w W->Calls prog 69 #[.agg #[.bool (R 1 0).ng,.slice (R 1 0).ao (R 1 0).n (R 1 0).cap,.int .i64 (R 1 0).e,.bool (R 1 1).ng,.slice (R 1 1).ao (R 1 1).n (R 1 1).cap,.int .i64 (R 1 1).e,.bool (R 1 2).ng,.slice (R 1 2).ao (R 1 2).n (R 1 2).cap,.int .i64 (R 1 2).e],.agg #[.bool (R 2 0).ng,.slice (R 2 0).ao (R 2 0).n (R 2 0).cap,.int .i64 (R 2 0).e,.bool (R 2 1).ng,.slice (R 2 1).ao (R 2 1).n (R 2 1).cap,.int .i64 (R 2 1).e,.bool (R 2 2).ng,.slice (R 2 2).ao (R 2 2).n (R 2 2).cap,.int .i64 (R 2 2).e],.agg #[.bool (R 3 0).ng,.slice (R 3 0).ao (R 3 0).n (R 3 0).cap,.int .i64 (R 3 0).e,.bool (R 3 1).ng,.slice (R 3 1).ao (R 3 1).n (R 3 1).cap,.int .i64 (R 3 1).e,.bool (R 3 2).ng,.slice (R 3 2).ao (R 3 2).n (R 3 2).cap,.int .i64 (R 3 2).e]] W fun r w'=>∃ v D,r=.returned v∧aW W w' D v∧D*2^4194304*2^4194304=dX V 1 2 3∧Bd (2*2152+3) D):=fun W hW=>by
    have:=ix ((hA.e 1 (by decide) 0 (by decide)).2.2.2.num.keeps hW) (hB 1 (by decide) 0 (by decide)) ((hA.e 1 (by decide) 1 (by decide)).2.2.2.num.keeps hW) (hB 1 (by decide) 1 (by decide)) ((hA.e 1 (by decide) 2 (by decide)).2.2.2.num.keeps hW) (hB 1 (by decide) 2 (by decide)) ((hA.e 2 (by decide) 0 (by decide)).2.2.2.num.keeps hW) (hB 2 (by decide) 0 (by decide)) ((hA.e 2 (by decide) 1 (by decide)).2.2.2.num.keeps hW) (hB 2 (by decide) 1 (by decide)) ((hA.e 2 (by decide) 2 (by decide)).2.2.2.num.keeps hW) (hB 2 (by decide) 2 (by decide)) ((hA.e 3 (by decide) 0 (by decide)).2.2.2.num.keeps hW) (hB 3 (by decide) 0 (by decide)) ((hA.e 3 (by decide) 1 (by decide)).2.2.2.num.keeps hW) (hB 3 (by decide) 1 (by decide)) ((hA.e 3 (by decide) 2 (by decide)).2.2.2.num.keeps hW) (hB 3 (by decide) 2 (by decide)) (hT.keeps hW)
    rw[kb V 1 2 3] at this
    exact this
  have CL0:Hid (∀ W,Below w.heap.size w W->W.heap[w.heap.size]?=some (.cells arr 88 (0,0))->Calls prog 89 #[.slice (some ⟨w.heap.size,0,none⟩) 3 3,.slice (some ⟨w.heap.size,0,none⟩) 3 3] W fun r w'=>∃ v D,r=.returned v∧aW W w' D v∧D*2^4194304=lX V 0∧Bd (2*1075+3) D):=fun W hW hk=>by
    have hc:∀ k,k<3->jM W w.heap.size (0+k*3) (V 0 k)∧Bd 1075 (V 0 k):=fun k hk'=>⟨(hA.keeps hW).numC hk (p:=0) (by decide) hk',hB 0 (by decide) k hk'⟩
    refine(gk (w:=W) (b:=w.heap.size) (off:=0) (b':=w.heap.size) (off':=0) (n:=3) (c:=3) (c':=3) (K:=1075) (V:=V 0) (W:=V 0) hc hc (by decide) (by decide) (by decide) (by decide) (by decide) (by decide) (hT.keeps hW)).mono ?_
    rintro _ w' ⟨v,D,rfl,hd,he,hb⟩
    refine⟨v,D,rfl,hd,he.trans ?_,hb⟩
    show 0+V 0 0*V 0 0+V 0 1*V 0 1+V 0 2*V 0 2=lX V 0
    unfold lX
    omega
  have CD1:Hid (∀ W,Below w.heap.size w W->Calls prog 69 #[.agg #[.bool (R 2 0).ng,.slice (R 2 0).ao (R 2 0).n (R 2 0).cap,.int .i64 (R 2 0).e,.bool (R 2 1).ng,.slice (R 2 1).ao (R 2 1).n (R 2 1).cap,.int .i64 (R 2 1).e,.bool (R 2 2).ng,.slice (R 2 2).ao (R 2 2).n (R 2 2).cap,.int .i64 (R 2 2).e],.agg #[.bool (R 3 0).ng,.slice (R 3 0).ao (R 3 0).n (R 3 0).cap,.int .i64 (R 3 0).e,.bool (R 3 1).ng,.slice (R 3 1).ao (R 3 1).n (R 3 1).cap,.int .i64 (R 3 1).e,.bool (R 3 2).ng,.slice (R 3 2).ao (R 3 2).n (R 3 2).cap,.int .i64 (R 3 2).e],.agg #[.bool (R 0 0).ng,.slice (R 0 0).ao (R 0 0).n (R 0 0).cap,.int .i64 (R 0 0).e,.bool (R 0 1).ng,.slice (R 0 1).ao (R 0 1).n (R 0 1).cap,.int .i64 (R 0 1).e,.bool (R 0 2).ng,.slice (R 0 2).ao (R 0 2).n (R 0 2).cap,.int .i64 (R 0 2).e]] W fun r w'=>∃ v D,r=.returned v∧aW W w' D v∧D*2^4194304*2^4194304=dX V 2 3 0∧Bd (2*2152+3) D):=fun W hW=>by
    have:=ix ((hA.e 2 (by decide) 0 (by decide)).2.2.2.num.keeps hW) (hB 2 (by decide) 0 (by decide)) ((hA.e 2 (by decide) 1 (by decide)).2.2.2.num.keeps hW) (hB 2 (by decide) 1 (by decide)) ((hA.e 2 (by decide) 2 (by decide)).2.2.2.num.keeps hW) (hB 2 (by decide) 2 (by decide)) ((hA.e 3 (by decide) 0 (by decide)).2.2.2.num.keeps hW) (hB 3 (by decide) 0 (by decide)) ((hA.e 3 (by decide) 1 (by decide)).2.2.2.num.keeps hW) (hB 3 (by decide) 1 (by decide)) ((hA.e 3 (by decide) 2 (by decide)).2.2.2.num.keeps hW) (hB 3 (by decide) 2 (by decide)) ((hA.e 0 (by decide) 0 (by decide)).2.2.2.num.keeps hW) (hB 0 (by decide) 0 (by decide)) ((hA.e 0 (by decide) 1 (by decide)).2.2.2.num.keeps hW) (hB 0 (by decide) 1 (by decide)) ((hA.e 0 (by decide) 2 (by decide)).2.2.2.num.keeps hW) (hB 0 (by decide) 2 (by decide)) (hT.keeps hW)
    rw[kb V 2 3 0] at this
    exact this
  have CL1:Hid (∀ W,Below w.heap.size w W->W.heap[w.heap.size]?=some (.cells arr 88 (0,0))->Calls prog 89 #[.slice (some ⟨w.heap.size,9,none⟩) 3 3,.slice (some ⟨w.heap.size,9,none⟩) 3 3] W fun r w'=>∃ v D,r=.returned v∧aW W w' D v∧D*2^4194304=lX V 1∧Bd (2*1075+3) D):=fun W hW hk=>by
    have hc:∀ k,k<3->jM W w.heap.size (9+k*3) (V 1 k)∧Bd 1075 (V 1 k):=fun k hk'=>⟨(hA.keeps hW).numC hk (p:=1) (by decide) hk',hB 1 (by decide) k hk'⟩
    refine(gk (w:=W) (b:=w.heap.size) (off:=9) (b':=w.heap.size) (off':=9) (n:=3) (c:=3) (c':=3) (K:=1075) (V:=V 1) (W:=V 1) hc hc (by decide) (by decide) (by decide) (by decide) (by decide) (by decide) (hT.keeps hW)).mono ?_
    rintro _ w' ⟨v,D,rfl,hd,he,hb⟩
    refine⟨v,D,rfl,hd,he.trans ?_,hb⟩
    show 0+V 1 0*V 1 0+V 1 1*V 1 1+V 1 2*V 1 2=lX V 1
    unfold lX
    omega
  have CD2:Hid (∀ W,Below w.heap.size w W->Calls prog 69 #[.agg #[.bool (R 3 0).ng,.slice (R 3 0).ao (R 3 0).n (R 3 0).cap,.int .i64 (R 3 0).e,.bool (R 3 1).ng,.slice (R 3 1).ao (R 3 1).n (R 3 1).cap,.int .i64 (R 3 1).e,.bool (R 3 2).ng,.slice (R 3 2).ao (R 3 2).n (R 3 2).cap,.int .i64 (R 3 2).e],.agg #[.bool (R 0 0).ng,.slice (R 0 0).ao (R 0 0).n (R 0 0).cap,.int .i64 (R 0 0).e,.bool (R 0 1).ng,.slice (R 0 1).ao (R 0 1).n (R 0 1).cap,.int .i64 (R 0 1).e,.bool (R 0 2).ng,.slice (R 0 2).ao (R 0 2).n (R 0 2).cap,.int .i64 (R 0 2).e],.agg #[.bool (R 1 0).ng,.slice (R 1 0).ao (R 1 0).n (R 1 0).cap,.int .i64 (R 1 0).e,.bool (R 1 1).ng,.slice (R 1 1).ao (R 1 1).n (R 1 1).cap,.int .i64 (R 1 1).e,.bool (R 1 2).ng,.slice (R 1 2).ao (R 1 2).n (R 1 2).cap,.int .i64 (R 1 2).e]] W fun r w'=>∃ v D,r=.returned v∧aW W w' D v∧D*2^4194304*2^4194304=dX V 3 0 1∧Bd (2*2152+3) D):=fun W hW=>by
    have:=ix ((hA.e 3 (by decide) 0 (by decide)).2.2.2.num.keeps hW) (hB 3 (by decide) 0 (by decide)) ((hA.e 3 (by decide) 1 (by decide)).2.2.2.num.keeps hW) (hB 3 (by decide) 1 (by decide)) ((hA.e 3 (by decide) 2 (by decide)).2.2.2.num.keeps hW) (hB 3 (by decide) 2 (by decide)) ((hA.e 0 (by decide) 0 (by decide)).2.2.2.num.keeps hW) (hB 0 (by decide) 0 (by decide)) ((hA.e 0 (by decide) 1 (by decide)).2.2.2.num.keeps hW) (hB 0 (by decide) 1 (by decide)) ((hA.e 0 (by decide) 2 (by decide)).2.2.2.num.keeps hW) (hB 0 (by decide) 2 (by decide)) ((hA.e 1 (by decide) 0 (by decide)).2.2.2.num.keeps hW) (hB 1 (by decide) 0 (by decide)) ((hA.e 1 (by decide) 1 (by decide)).2.2.2.num.keeps hW) (hB 1 (by decide) 1 (by decide)) ((hA.e 1 (by decide) 2 (by decide)).2.2.2.num.keeps hW) (hB 1 (by decide) 2 (by decide)) (hT.keeps hW)
    rw[kb V 3 0 1] at this
    exact this
  have CL2:Hid (∀ W,Below w.heap.size w W->W.heap[w.heap.size]?=some (.cells arr 88 (0,0))->Calls prog 89 #[.slice (some ⟨w.heap.size,18,none⟩) 3 3,.slice (some ⟨w.heap.size,18,none⟩) 3 3] W fun r w'=>∃ v D,r=.returned v∧aW W w' D v∧D*2^4194304=lX V 2∧Bd (2*1075+3) D):=fun W hW hk=>by
    have hc:∀ k,k<3->jM W w.heap.size (18+k*3) (V 2 k)∧Bd 1075 (V 2 k):=fun k hk'=>⟨(hA.keeps hW).numC hk (p:=2) (by decide) hk',hB 2 (by decide) k hk'⟩
    refine(gk (w:=W) (b:=w.heap.size) (off:=18) (b':=w.heap.size) (off':=18) (n:=3) (c:=3) (c':=3) (K:=1075) (V:=V 2) (W:=V 2) hc hc (by decide) (by decide) (by decide) (by decide) (by decide) (by decide) (hT.keeps hW)).mono ?_
    rintro _ w' ⟨v,D,rfl,hd,he,hb⟩
    refine⟨v,D,rfl,hd,he.trans ?_,hb⟩
    show 0+V 2 0*V 2 0+V 2 1*V 2 1+V 2 2*V 2 2=lX V 2
    unfold lX
    omega
  have CD3:Hid (∀ W,Below w.heap.size w W->Calls prog 69 #[.agg #[.bool (R 0 0).ng,.slice (R 0 0).ao (R 0 0).n (R 0 0).cap,.int .i64 (R 0 0).e,.bool (R 0 1).ng,.slice (R 0 1).ao (R 0 1).n (R 0 1).cap,.int .i64 (R 0 1).e,.bool (R 0 2).ng,.slice (R 0 2).ao (R 0 2).n (R 0 2).cap,.int .i64 (R 0 2).e],.agg #[.bool (R 1 0).ng,.slice (R 1 0).ao (R 1 0).n (R 1 0).cap,.int .i64 (R 1 0).e,.bool (R 1 1).ng,.slice (R 1 1).ao (R 1 1).n (R 1 1).cap,.int .i64 (R 1 1).e,.bool (R 1 2).ng,.slice (R 1 2).ao (R 1 2).n (R 1 2).cap,.int .i64 (R 1 2).e],.agg #[.bool (R 2 0).ng,.slice (R 2 0).ao (R 2 0).n (R 2 0).cap,.int .i64 (R 2 0).e,.bool (R 2 1).ng,.slice (R 2 1).ao (R 2 1).n (R 2 1).cap,.int .i64 (R 2 1).e,.bool (R 2 2).ng,.slice (R 2 2).ao (R 2 2).n (R 2 2).cap,.int .i64 (R 2 2).e]] W fun r w'=>∃ v D,r=.returned v∧aW W w' D v∧D*2^4194304*2^4194304=dX V 0 1 2∧Bd (2*2152+3) D):=fun W hW=>by
    have:=ix ((hA.e 0 (by decide) 0 (by decide)).2.2.2.num.keeps hW) (hB 0 (by decide) 0 (by decide)) ((hA.e 0 (by decide) 1 (by decide)).2.2.2.num.keeps hW) (hB 0 (by decide) 1 (by decide)) ((hA.e 0 (by decide) 2 (by decide)).2.2.2.num.keeps hW) (hB 0 (by decide) 2 (by decide)) ((hA.e 1 (by decide) 0 (by decide)).2.2.2.num.keeps hW) (hB 1 (by decide) 0 (by decide)) ((hA.e 1 (by decide) 1 (by decide)).2.2.2.num.keeps hW) (hB 1 (by decide) 1 (by decide)) ((hA.e 1 (by decide) 2 (by decide)).2.2.2.num.keeps hW) (hB 1 (by decide) 2 (by decide)) ((hA.e 2 (by decide) 0 (by decide)).2.2.2.num.keeps hW) (hB 2 (by decide) 0 (by decide)) ((hA.e 2 (by decide) 1 (by decide)).2.2.2.num.keeps hW) (hB 2 (by decide) 1 (by decide)) ((hA.e 2 (by decide) 2 (by decide)).2.2.2.num.keeps hW) (hB 2 (by decide) 2 (by decide)) (hT.keeps hW)
    rw[kb V 0 1 2] at this
    exact this
  have CL3:Hid (∀ W,Below w.heap.size w W->W.heap[w.heap.size]?=some (.cells arr 88 (0,0))->Calls prog 89 #[.slice (some ⟨w.heap.size,27,none⟩) 3 3,.slice (some ⟨w.heap.size,27,none⟩) 3 3] W fun r w'=>∃ v D,r=.returned v∧aW W w' D v∧D*2^4194304=lX V 3∧Bd (2*1075+3) D):=fun W hW hk=>by
    have hc:∀ k,k<3->jM W w.heap.size (27+k*3) (V 3 k)∧Bd 1075 (V 3 k):=fun k hk'=>⟨(hA.keeps hW).numC hk (p:=3) (by decide) hk',hB 3 (by decide) k hk'⟩
    refine(gk (w:=W) (b:=w.heap.size) (off:=27) (b':=w.heap.size) (off':=27) (n:=3) (c:=3) (c':=3) (K:=1075) (V:=V 3) (W:=V 3) hc hc (by decide) (by decide) (by decide) (by decide) (by decide) (by decide) (hT.keeps hW)).mono ?_
    rintro _ w' ⟨v,D,rfl,hd,he,hb⟩
    refine⟨v,D,rfl,hd,he.trans ?_,hb⟩
    show 0+V 3 0*V 3 0+V 3 1*V 3 1+V 3 2*V 3 2=lX V 3
    unfold lX
    omega
  have CT:Hid (∀ W x_g x_o x_n x_c x_e A,aM W (.agg #[.bool x_g,.slice x_o x_n x_c,.int .i64 x_e]) A->Bd (2*2152+3) A->Calls prog 90 #[.agg #[.bool x_g,.slice x_o x_n x_c,.int .i64 x_e]] W fun r w'=>∃ v,r=.returned v∧aW W w' (-A) v):=fun W x_g x_o x_n x_c x_e A h1 h2=>pB h1 (h2.ok (by decide))
  have HT:Hid (dZ w):=hT
  have b_k:=bO w (.cells arr 88) (.cells #[.bool false,.slice none 0 0,.int .i64 0] 33)
  have hi:(prog.info? 88).map (·.size)=some arr.size:=by rw[hA.n];kernel_rfl
  have c0:=af b_k 0 (hA.e 0 (by decide) 0 (by decide)).1
  have c1:=af b_k 1 (hA.e 0 (by decide) 0 (by decide)).2.1
  have c2:=af b_k 2 (hA.e 0 (by decide) 0 (by decide)).2.2.1
  have c3:=af b_k 3 (hA.e 0 (by decide) 1 (by decide)).1
  have c4:=af b_k 4 (hA.e 0 (by decide) 1 (by decide)).2.1
  have c5:=af b_k 5 (hA.e 0 (by decide) 1 (by decide)).2.2.1
  have c6:=af b_k 6 (hA.e 0 (by decide) 2 (by decide)).1
  have c7:=af b_k 7 (hA.e 0 (by decide) 2 (by decide)).2.1
  have c8:=af b_k 8 (hA.e 0 (by decide) 2 (by decide)).2.2.1
  have c9:=af b_k 9 (hA.e 1 (by decide) 0 (by decide)).1
  have c10:=af b_k 10 (hA.e 1 (by decide) 0 (by decide)).2.1
  have c11:=af b_k 11 (hA.e 1 (by decide) 0 (by decide)).2.2.1
  have c12:=af b_k 12 (hA.e 1 (by decide) 1 (by decide)).1
  have c13:=af b_k 13 (hA.e 1 (by decide) 1 (by decide)).2.1
  have c14:=af b_k 14 (hA.e 1 (by decide) 1 (by decide)).2.2.1
  have c15:=af b_k 15 (hA.e 1 (by decide) 2 (by decide)).1
  have c16:=af b_k 16 (hA.e 1 (by decide) 2 (by decide)).2.1
  have c17:=af b_k 17 (hA.e 1 (by decide) 2 (by decide)).2.2.1
  have c18:=af b_k 18 (hA.e 2 (by decide) 0 (by decide)).1
  have c19:=af b_k 19 (hA.e 2 (by decide) 0 (by decide)).2.1
  have c20:=af b_k 20 (hA.e 2 (by decide) 0 (by decide)).2.2.1
  have c21:=af b_k 21 (hA.e 2 (by decide) 1 (by decide)).1
  have c22:=af b_k 22 (hA.e 2 (by decide) 1 (by decide)).2.1
  have c23:=af b_k 23 (hA.e 2 (by decide) 1 (by decide)).2.2.1
  have c24:=af b_k 24 (hA.e 2 (by decide) 2 (by decide)).1
  have c25:=af b_k 25 (hA.e 2 (by decide) 2 (by decide)).2.1
  have c26:=af b_k 26 (hA.e 2 (by decide) 2 (by decide)).2.2.1
  have c27:=af b_k 27 (hA.e 3 (by decide) 0 (by decide)).1
  have c28:=af b_k 28 (hA.e 3 (by decide) 0 (by decide)).2.1
  have c29:=af b_k 29 (hA.e 3 (by decide) 0 (by decide)).2.2.1
  have c30:=af b_k 30 (hA.e 3 (by decide) 1 (by decide)).1
  have c31:=af b_k 31 (hA.e 3 (by decide) 1 (by decide)).2.1
  have c32:=af b_k 32 (hA.e 3 (by decide) 1 (by decide)).2.2.1
  have c33:=af b_k 33 (hA.e 3 (by decide) 2 (by decide)).1
  have c34:=af b_k 34 (hA.e 3 (by decide) 2 (by decide)).2.1
  have c35:=af b_k 35 (hA.e 3 (by decide) 2 (by decide)).2.2.1
  clear c0 c1 c2 c3 c4 c5 c6 c7 c8 c9 c10 c11 c12 c13 c14 c15 c16 c17 c18 c19 c20 c21 c22 c23 c24 c25 c26 c27 c28 c29 c30 c31 c32 c33 c34 c35
  have b_k:=gW w (.cells arr 88) (.cells #[.bool false,.slice none 0 0,.int .i64 0] 33) (.cells #[.bool false,.slice none 0 0,.int .i64 0,.bool false,.slice none 0 0,.int .i64 0,.bool false,.slice none 0 0,.int .i64 0,.bool false,.slice none 0 0,.int .i64 0] 126) (.cells #[.bool false,.slice none 0 0,.int .i64 0,.bool false,.slice none 0 0,.int .i64 0,.bool false,.slice none 0 0,.int .i64 0,.bool false,.slice none 0 0,.int .i64 0] 126)
  have r_k:=gX w (.cells arr 88) (.cells #[.bool false,.slice none 0 0,.int .i64 0] 33) (.cells #[.bool false,.slice none 0 0,.int .i64 0,.bool false,.slice none 0 0,.int .i64 0,.bool false,.slice none 0 0,.int .i64 0,.bool false,.slice none 0 0,.int .i64 0] 126) (.cells #[.bool false,.slice none 0 0,.int .i64 0,.bool false,.slice none 0 0,.int .i64 0,.bool false,.slice none 0 0,.int .i64 0,.bool false,.slice none 0 0,.int .i64 0] 126)
  have l_k:=gJ w (.cells arr 88) (.cells #[.bool false,.slice none 0 0,.int .i64 0] 33) (.cells #[.bool false,.slice none 0 0,.int .i64 0,.bool false,.slice none 0 0,.int .i64 0,.bool false,.slice none 0 0,.int .i64 0,.bool false,.slice none 0 0,.int .i64 0] 126) (.cells #[.bool false,.slice none 0 0,.int .i64 0,.bool false,.slice none 0 0,.int .i64 0,.bool false,.slice none 0 0,.int .i64 0,.bool false,.slice none 0 0,.int .i64 0] 126)
  have d_k:=gK w (.cells arr 88) (.cells #[.bool false,.slice none 0 0,.int .i64 0] 33) (.cells #[.bool false,.slice none 0 0,.int .i64 0,.bool false,.slice none 0 0,.int .i64 0,.bool false,.slice none 0 0,.int .i64 0,.bool false,.slice none 0 0,.int .i64 0] 126) (.cells #[.bool false,.slice none 0 0,.int .i64 0,.bool false,.slice none 0 0,.int .i64 0,.bool false,.slice none 0 0,.int .i64 0,.bool false,.slice none 0 0,.int .i64 0] 126)
  have hb0:=eS w (.cells arr 88) (.cells #[.bool false,.slice none 0 0,.int .i64 0] 33) (.cells #[.bool false,.slice none 0 0,.int .i64 0,.bool false,.slice none 0 0,.int .i64 0,.bool false,.slice none 0 0,.int .i64 0,.bool false,.slice none 0 0,.int .i64 0] 126) (.cells #[.bool false,.slice none 0 0,.int .i64 0,.bool false,.slice none 0 0,.int .i64 0,.bool false,.slice none 0 0,.int .i64 0,.bool false,.slice none 0 0,.int .i64 0] 126)
  have HZ:∀ W X,cm W #[.bool false,.slice none 0 0,.int .i64 0,.bool false,.slice none 0 0,.int .i64 0,.bool false,.slice none 0 0,.int .i64 0,.bool false,.slice none 0 0,.int .i64 0] X 0 (fun _=>⟨false,none,0,0,fun _=>0,0⟩):=fun W X=>⟨rfl,fun i hi=>by
    rw[if_neg (by omega)]
    match i,hi with
    | 0,_=>exact⟨rfl,rfl,rfl,cJ _⟩
    | 1,_=>exact⟨rfl,rfl,rfl,cJ _⟩
    | 2,_=>exact⟨rfl,rfl,rfl,cJ _⟩
    | 3,_=>exact ⟨rfl,rfl,rfl,cJ _⟩⟩
  go_enter func60,ntmps60
  go_wp2_with fail
  generalize (((w.alloc (.cells arr 88)).alloc (.cells #[.bool false,.slice none 0 0,.int .i64 0] 33)).alloc (.cells #[.bool false,.slice none 0 0,.int .i64 0,.bool false,.slice none 0 0,.int .i64 0,.bool false,.slice none 0 0,.int .i64 0,.bool false,.slice none 0 0,.int .i64 0] 126)).alloc (.cells #[.bool false,.slice none 0 0,.int .i64 0,.bool false,.slice none 0 0,.int .i64 0,.bool false,.slice none 0 0,.int .i64 0,.bool false,.slice none 0 0,.int .i64 0] 126)=x0 at hb0 b_k r_k l_k d_k ⊢
  have hs0:=(aGe r_k).1
  have HI:Hid (cm x0 #[.bool false,.slice none 0 0,.int .i64 0,.bool false,.slice none 0 0,.int .i64 0,.bool false,.slice none 0 0,.int .i64 0,.bool false,.slice none 0 0,.int .i64 0] (fun _=>0) 0 (fun _=>⟨false,none,0,0,fun _=>0,0⟩)∧cm x0 #[.bool false,.slice none 0 0,.int .i64 0,.bool false,.slice none 0 0,.int .i64 0,.bool false,.slice none 0 0,.int .i64 0,.bool false,.slice none 0 0,.int .i64 0] (fun _=>0) 0 (fun _=>⟨false,none,0,0,fun _=>0,0⟩)∧(∀ j,j<0->(fun _=>(0:Int)) j*2^4194304=lX V j∧Bd 4307 ((fun _=>(0:Int)) j))∧(∀ j,j<0->(fun _=>(0:Int)) j*2^4194304*2^4194304=eX V j∧Bd 4307 ((fun _=>(0:Int)) j))):=⟨HZ x0 _,HZ x0 _,fun j hj=>absurd hj (Nat.not_lt_zero _),fun j hj=>absurd hj (Nat.not_lt_zero _)⟩
  clear HZ
  generalize (#[.bool false,.slice none 0 0,.int .i64 0,.bool false,.slice none 0 0,.int .i64 0,.bool false,.slice none 0 0,.int .i64 0,.bool false,.slice none 0 0,.int .i64 0]:Array Value)=z4 at HI l_k d_k
  go_loopw [9] (fun i wr=>wr.heap[w.heap.size]?=some (.cells arr 88 (0,0))∧wr.heap[w.heap.size+1]?=some (.cells #[.bool false,.slice none 0 0,.int .i64 0] 33 (0,0))∧Below w.heap.size w wr∧((i=.int .i64 0∧∃ la da Yl Yd Lv Dv,Hid (cm wr la Lv 0 Yl∧cm wr da Dv 0 Yd∧(∀ j,j<0->Lv j*2^4194304=lX V j∧Bd 4307 (Lv j))∧(∀ j,j<0->Dv j*2^4194304*2^4194304=eX V j∧Bd 4307 (Dv j)))∧wr.heap[w.heap.size+1+1]?=some (.cells la 126 (0,0))∧wr.heap[w.heap.size+1+1+1]?=some (.cells da 126 (0,0)))∨(i=.int .i64 1∧∃ la da Yl Yd Lv Dv,Hid (cm wr la Lv 1 Yl∧cm wr da Dv 1 Yd∧(∀ j,j<1->Lv j*2^4194304=lX V j∧Bd 4307 (Lv j))∧(∀ j,j<1->Dv j*2^4194304*2^4194304=eX V j∧Bd 4307 (Dv j)))∧wr.heap[w.heap.size+1+1]?=some (.cells la 126 (0,0))∧wr.heap[w.heap.size+1+1+1]?=some (.cells da 126 (0,0)))∨(i=.int .i64 2∧∃ la da Yl Yd Lv Dv,Hid (cm wr la Lv 2 Yl∧cm wr da Dv 2 Yd∧(∀ j,j<2->Lv j*2^4194304=lX V j∧Bd 4307 (Lv j))∧(∀ j,j<2->Dv j*2^4194304*2^4194304=eX V j∧Bd 4307 (Dv j)))∧wr.heap[w.heap.size+1+1]?=some (.cells la 126 (0,0))∧wr.heap[w.heap.size+1+1+1]?=some (.cells da 126 (0,0)))∨(i=.int .i64 3∧∃ la da Yl Yd Lv Dv,Hid (cm wr la Lv 3 Yl∧cm wr da Dv 3 Yd∧(∀ j,j<3->Lv j*2^4194304=lX V j∧Bd 4307 (Lv j))∧(∀ j,j<3->Dv j*2^4194304*2^4194304=eX V j∧Bd 4307 (Dv j)))∧wr.heap[w.heap.size+1+1]?=some (.cells la 126 (0,0))∧wr.heap[w.heap.size+1+1+1]?=some (.cells da 126 (0,0)))∨(i=.int .i64 4∧∃ la da Yl Yd Lv Dv,Hid (cm wr la Lv 4 Yl∧cm wr da Dv 4 Yd∧(∀ j,j<4->Lv j*2^4194304=lX V j∧Bd 4307 (Lv j))∧(∀ j,j<4->Dv j*2^4194304*2^4194304=eX V j∧Bd 4307 (Dv j)))∧wr.heap[w.heap.size+1+1]?=some (.cells la 126 (0,0))∧wr.heap[w.heap.size+1+1+1]?=some (.cells da 126 (0,0))))) (fun i _=>4-(intOf i).toNat)
  case atStart=>exact⟨b_k,r_k,hb0,.inl ⟨rfl,z4,z4,_,_,_,_,HI,l_k,d_k⟩⟩
  case round=>
    clear b_k r_k l_k d_k HI
    obtain⟨b_k,r_k,hbw,hrel⟩:=hrel
    have hneB:w.heap.size≠w.heap.size+1+1:=by omega
    have hneR:w.heap.size+1≠w.heap.size+1+1:=by omega
    have hneB':w.heap.size≠w.heap.size+1+1+1:=by omega
    have hneR':w.heap.size+1≠w.heap.size+1+1+1:=by omega
    have hLD:w.heap.size+1+1≠w.heap.size+1+1+1:=by omega
    have hDL:w.heap.size+1+1+1≠w.heap.size+1+1:=by omega
    rcases hrel with⟨rfl,la,da,Yl,Yd,Lv,Dv,HI,l_k,d_k⟩|⟨rfl,la,da,Yl,Yd,Lv,Dv,HI,l_k,d_k⟩|⟨rfl,la,da,Yl,Yd,Lv,Dv,HI,l_k,d_k⟩|⟨rfl,la,da,Yl,Yd,Lv,Dv,HI,l_k,d_k⟩|⟨rfl,la,da,Yl,Yd,Lv,Dv,HI,l_k,d_k⟩
    · obtain⟨HL,HD,HLv,HDv⟩:=HI.out
      obtain⟨a0,a1,a2,-⟩:=HL.e 0 (by decide)
      obtain⟨d0,d1,d2,-⟩:=HD.e 0 (by decide)
      have HL:Hid (cm wr la Lv 0 Yl):=HL
      have HD:Hid (cm wr da Dv 0 Yd):=HD
      have HLv:Hid (∀ j,j<0->Lv j*2^4194304=lX V j∧Bd 4307 (Lv j)):=HLv
      have HDv:Hid (∀ j,j<0->Dv j*2^4194304*2^4194304=eX V j∧Bd 4307 (Dv j)):=HDv
      clear HI
      change la[0]?=_ at a0
      change la[1]?=_ at a1
      change la[2]?=_ at a2
      change da[0]?=_ at d0
      change da[1]?=_ at d1
      change da[2]?=_ at d2
      go_wp2_with fail
      refine(zn _).mono ?_
      rintro _ wz ⟨rfl,hwz⟩
      replace hwz:=hwz.symm
      subst hwz
      go_wp2_with fail
      have hC0:=(al wr).drew
      go_region_held3 (fun W=>True)
        (first|trivial|fail)
        (first|(go_at_call 89;refine(CL0.out _ (ac hbw hC0) (ak hC0 b_k)).mono ?_;rintro _ y5 ⟨v,DL,rfl,hd,hL,hLb⟩;obtain⟨n_g,n_o,n_n,n_c,n_e,rfl⟩:=aN hd;have hC1:=ac hC0 hd.below;have l2:=ak hC1 l_k;have e0:=af l2 _ a0;have e1:=af l2 _ a1;have e2:=af l2 _ a2;have z0:=ar l2 0;have z1:=ar l2 1;have z2:=ar l2 2))
      have hgeL:w.heap.size<=w.heap.size+1+1:=by omega
      have hgeD:w.heap.size<=w.heap.size+1+1+1:=by omega
      have HL2:Hid (cm (((y5.setCell ⟨w.heap.size+1+1,0,none⟩ (.bool n_g)).setCell ⟨w.heap.size+1+1,1,none⟩ (.slice n_o n_n n_c)).setCell ⟨w.heap.size+1+1,2,none⟩ (.int .i64 n_e)) (((la.setIfInBounds 0 (.bool n_g)).setIfInBounds 1 (.slice n_o n_n n_c)).setIfInBounds 2 (.int .i64 n_e)) (fun j=>if j=0 then DL else Lv j) (0+1) (fun j=>if j=0 then ⟨n_g,n_o,n_n,n_c,fun _=>0,n_e⟩ else Yl j)):=(HL.out.keeps hC1).put (i:=0) (m:=0) (X':=fun j=>if j=0 then DL else Lv j) (by decide) (fun j hj hne=>by
        by_cases c:j<0
        · rw[if_pos c,if_pos (by omega),if_neg hne]
        · rw [if_neg c,if_neg (by omega)]) l2 ⟨n_g,n_o,n_n,n_c,fun _=>0,n_e⟩ (by show bJ 0 y5 (if 0=0 then DL else Lv 0) _; rw [if_pos rfl]; exact hd.dan.lower (Nat.zero_le _))
      have HD2:Hid (cm (((y5.setCell ⟨w.heap.size+1+1,0,none⟩ (.bool n_g)).setCell ⟨w.heap.size+1+1,1,none⟩ (.slice n_o n_n n_c)).setCell ⟨w.heap.size+1+1,2,none⟩ (.int .i64 n_e)) da Dv 0 Yd):=(HD.out.keeps hC1).other l2 (by decide) 0 1 2 _ _ _
      have hLv2:Hid (∀ j,j<0+1->(fun j=>if j=0 then DL else Lv j) j*2^4194304=lX V j∧Bd 4307 ((fun j=>if j=0 then DL else Lv j) j)):=fun j hj=>by
        by_cases c:j=0
        · subst c
          show(if 0=0 then DL else Lv 0)*2^4194304=lX V 0∧Bd 4307 (if 0=0 then DL else Lv 0)
          rw[if_pos rfl]
          exact⟨hL,hLb.up (by decide) (by decide)⟩
        · show(if j=0 then DL else Lv j)*2^4194304=lX V j∧Bd 4307 (if j=0 then DL else Lv j)
          rw[if_neg c]
          exact HLv.out j (by omega)
      generalize (fun j=>if j=0 then DL else Lv j)=Lv2 at HL2 hLv2
      generalize (fun j=>if j=0 then (⟨n_g,n_o,n_n,n_c,fun _=>0,n_e⟩:aI) else Yl j)=Yl2 at HL2
      replace b_k:=az (az (az (ak hC1 b_k) hneB 0 (.bool n_g)) hneB 1 (.slice n_o n_n n_c)) hneB 2 (.int .i64 n_e)
      replace r_k:=az (az (az (ak hC1 r_k) hneR 0 (.bool n_g)) hneR 1 (.slice n_o n_n n_c)) hneR 2 (.int .i64 n_e)
      replace d_k:=az (az (az (ak hC1 d_k) hDL 0 (.bool n_g)) hDL 1 (.slice n_o n_n n_c)) hDL 2 (.int .i64 n_e)
      replace l_k:=aq (aq (aq l2 0 (.bool n_g)) 1 (.slice n_o n_n n_c)) 2 (.int .i64 n_e)
      replace hbw:=((((ac hbw hC1)).setCell (p:=⟨w.heap.size+1+1,0,none⟩) hgeL (.bool n_g)).setCell (p:=⟨w.heap.size+1+1,1,none⟩) hgeL (.slice n_o n_n n_c)).setCell (p:=⟨w.heap.size+1+1,2,none⟩) hgeL (.int .i64 n_e)
      generalize (((la.setIfInBounds 0 (.bool n_g)).setIfInBounds 1 (.slice n_o n_n n_c)).setIfInBounds 2 (.int .i64 n_e))=la2 at HL2 l_k
      clear hd hC0 hC1 l2 e0 e1 e2 z0 z1 z2 a0 a1 a2 HL HD HLv
      go_wp2_with fail
      generalize (((y5.setCell ⟨w.heap.size+1+1,0,none⟩ (.bool n_g)).setCell ⟨w.heap.size+1+1,1,none⟩ (.slice n_o n_n n_c)).setCell ⟨w.heap.size+1+1,2,none⟩ (.int .i64 n_e))=x6 at HL2 HD2 b_k r_k d_k l_k hbw ⊢
      have KK:∀ W,Below x6.heap.size x6 W->W.cell? ⟨w.heap.size,9,none⟩=some (.bool (R 1 0).ng)∧W.cell? ⟨w.heap.size,10,none⟩=some (.slice (R 1 0).ao (R 1 0).n (R 1 0).cap)∧W.cell? ⟨w.heap.size,11,none⟩=some (.int .i64 (R 1 0).e)∧W.cell? ⟨w.heap.size,12,none⟩=some (.bool (R 1 1).ng)∧W.cell? ⟨w.heap.size,13,none⟩=some (.slice (R 1 1).ao (R 1 1).n (R 1 1).cap)∧W.cell? ⟨w.heap.size,14,none⟩=some (.int .i64 (R 1 1).e)∧W.cell? ⟨w.heap.size,15,none⟩=some (.bool (R 1 2).ng)∧W.cell? ⟨w.heap.size,16,none⟩=some (.slice (R 1 2).ao (R 1 2).n (R 1 2).cap)∧W.cell? ⟨w.heap.size,17,none⟩=some (.int .i64 (R 1 2).e)∧W.cell? ⟨w.heap.size,18,none⟩=some (.bool (R 2 0).ng)∧W.cell? ⟨w.heap.size,19,none⟩=some (.slice (R 2 0).ao (R 2 0).n (R 2 0).cap)∧W.cell? ⟨w.heap.size,20,none⟩=some (.int .i64 (R 2 0).e)∧W.cell? ⟨w.heap.size,21,none⟩=some (.bool (R 2 1).ng)∧W.cell? ⟨w.heap.size,22,none⟩=some (.slice (R 2 1).ao (R 2 1).n (R 2 1).cap)∧W.cell? ⟨w.heap.size,23,none⟩=some (.int .i64 (R 2 1).e)∧W.cell? ⟨w.heap.size,24,none⟩=some (.bool (R 2 2).ng)∧W.cell? ⟨w.heap.size,25,none⟩=some (.slice (R 2 2).ao (R 2 2).n (R 2 2).cap)∧W.cell? ⟨w.heap.size,26,none⟩=some (.int .i64 (R 2 2).e)∧W.cell? ⟨w.heap.size,27,none⟩=some (.bool (R 3 0).ng)∧W.cell? ⟨w.heap.size,28,none⟩=some (.slice (R 3 0).ao (R 3 0).n (R 3 0).cap)∧W.cell? ⟨w.heap.size,29,none⟩=some (.int .i64 (R 3 0).e)∧W.cell? ⟨w.heap.size,30,none⟩=some (.bool (R 3 1).ng)∧W.cell? ⟨w.heap.size,31,none⟩=some (.slice (R 3 1).ao (R 3 1).n (R 3 1).cap)∧W.cell? ⟨w.heap.size,32,none⟩=some (.int .i64 (R 3 1).e)∧W.cell? ⟨w.heap.size,33,none⟩=some (.bool (R 3 2).ng)∧W.cell? ⟨w.heap.size,34,none⟩=some (.slice (R 3 2).ao (R 3 2).n (R 3 2).cap)∧W.cell? ⟨w.heap.size,35,none⟩=some (.int .i64 (R 3 2).e):=fun W hb=>⟨aj (af b_k 9 (hA.e 1 (by decide) 0 (by decide)).1) hb,aj (af b_k 10 (hA.e 1 (by decide) 0 (by decide)).2.1) hb,aj (af b_k 11 (hA.e 1 (by decide) 0 (by decide)).2.2.1) hb,aj (af b_k 12 (hA.e 1 (by decide) 1 (by decide)).1) hb,aj (af b_k 13 (hA.e 1 (by decide) 1 (by decide)).2.1) hb,aj (af b_k 14 (hA.e 1 (by decide) 1 (by decide)).2.2.1) hb,aj (af b_k 15 (hA.e 1 (by decide) 2 (by decide)).1) hb,aj (af b_k 16 (hA.e 1 (by decide) 2 (by decide)).2.1) hb,aj (af b_k 17 (hA.e 1 (by decide) 2 (by decide)).2.2.1) hb,aj (af b_k 18 (hA.e 2 (by decide) 0 (by decide)).1) hb,aj (af b_k 19 (hA.e 2 (by decide) 0 (by decide)).2.1) hb,aj (af b_k 20 (hA.e 2 (by decide) 0 (by decide)).2.2.1) hb,aj (af b_k 21 (hA.e 2 (by decide) 1 (by decide)).1) hb,aj (af b_k 22 (hA.e 2 (by decide) 1 (by decide)).2.1) hb,aj (af b_k 23 (hA.e 2 (by decide) 1 (by decide)).2.2.1) hb,aj (af b_k 24 (hA.e 2 (by decide) 2 (by decide)).1) hb,aj (af b_k 25 (hA.e 2 (by decide) 2 (by decide)).2.1) hb,aj (af b_k 26 (hA.e 2 (by decide) 2 (by decide)).2.2.1) hb,aj (af b_k 27 (hA.e 3 (by decide) 0 (by decide)).1) hb,aj (af b_k 28 (hA.e 3 (by decide) 0 (by decide)).2.1) hb,aj (af b_k 29 (hA.e 3 (by decide) 0 (by decide)).2.2.1) hb,aj (af b_k 30 (hA.e 3 (by decide) 1 (by decide)).1) hb,aj (af b_k 31 (hA.e 3 (by decide) 1 (by decide)).2.1) hb,aj (af b_k 32 (hA.e 3 (by decide) 1 (by decide)).2.2.1) hb,aj (af b_k 33 (hA.e 3 (by decide) 2 (by decide)).1) hb,aj (af b_k 34 (hA.e 3 (by decide) 2 (by decide)).2.1) hb,aj (af b_k 35 (hA.e 3 (by decide) 2 (by decide)).2.2.1) hb⟩
      have KN:∀ W a b c,Below x6.heap.size x6 W->(((W.setCell ⟨w.heap.size+1+1+1,0,none⟩ a).setCell ⟨w.heap.size+1+1+1,1,none⟩ b).setCell ⟨w.heap.size+1+1+1,2,none⟩ c).cell? ⟨w.heap.size,9,none⟩=some (.bool (R 1 0).ng)∧(((W.setCell ⟨w.heap.size+1+1+1,0,none⟩ a).setCell ⟨w.heap.size+1+1+1,1,none⟩ b).setCell ⟨w.heap.size+1+1+1,2,none⟩ c).cell? ⟨w.heap.size,10,none⟩=some (.slice (R 1 0).ao (R 1 0).n (R 1 0).cap)∧(((W.setCell ⟨w.heap.size+1+1+1,0,none⟩ a).setCell ⟨w.heap.size+1+1+1,1,none⟩ b).setCell ⟨w.heap.size+1+1+1,2,none⟩ c).cell? ⟨w.heap.size,11,none⟩=some (.int .i64 (R 1 0).e)∧(((W.setCell ⟨w.heap.size+1+1+1,0,none⟩ a).setCell ⟨w.heap.size+1+1+1,1,none⟩ b).setCell ⟨w.heap.size+1+1+1,2,none⟩ c).cell? ⟨w.heap.size,12,none⟩=some (.bool (R 1 1).ng)∧(((W.setCell ⟨w.heap.size+1+1+1,0,none⟩ a).setCell ⟨w.heap.size+1+1+1,1,none⟩ b).setCell ⟨w.heap.size+1+1+1,2,none⟩ c).cell? ⟨w.heap.size,13,none⟩=some (.slice (R 1 1).ao (R 1 1).n (R 1 1).cap)∧(((W.setCell ⟨w.heap.size+1+1+1,0,none⟩ a).setCell ⟨w.heap.size+1+1+1,1,none⟩ b).setCell ⟨w.heap.size+1+1+1,2,none⟩ c).cell? ⟨w.heap.size,14,none⟩=some (.int .i64 (R 1 1).e)∧(((W.setCell ⟨w.heap.size+1+1+1,0,none⟩ a).setCell ⟨w.heap.size+1+1+1,1,none⟩ b).setCell ⟨w.heap.size+1+1+1,2,none⟩ c).cell? ⟨w.heap.size,15,none⟩=some (.bool (R 1 2).ng)∧(((W.setCell ⟨w.heap.size+1+1+1,0,none⟩ a).setCell ⟨w.heap.size+1+1+1,1,none⟩ b).setCell ⟨w.heap.size+1+1+1,2,none⟩ c).cell? ⟨w.heap.size,16,none⟩=some (.slice (R 1 2).ao (R 1 2).n (R 1 2).cap)∧(((W.setCell ⟨w.heap.size+1+1+1,0,none⟩ a).setCell ⟨w.heap.size+1+1+1,1,none⟩ b).setCell ⟨w.heap.size+1+1+1,2,none⟩ c).cell? ⟨w.heap.size,17,none⟩=some (.int .i64 (R 1 2).e)∧(((W.setCell ⟨w.heap.size+1+1+1,0,none⟩ a).setCell ⟨w.heap.size+1+1+1,1,none⟩ b).setCell ⟨w.heap.size+1+1+1,2,none⟩ c).cell? ⟨w.heap.size,18,none⟩=some (.bool (R 2 0).ng)∧(((W.setCell ⟨w.heap.size+1+1+1,0,none⟩ a).setCell ⟨w.heap.size+1+1+1,1,none⟩ b).setCell ⟨w.heap.size+1+1+1,2,none⟩ c).cell? ⟨w.heap.size,19,none⟩=some (.slice (R 2 0).ao (R 2 0).n (R 2 0).cap)∧(((W.setCell ⟨w.heap.size+1+1+1,0,none⟩ a).setCell ⟨w.heap.size+1+1+1,1,none⟩ b).setCell ⟨w.heap.size+1+1+1,2,none⟩ c).cell? ⟨w.heap.size,20,none⟩=some (.int .i64 (R 2 0).e)∧(((W.setCell ⟨w.heap.size+1+1+1,0,none⟩ a).setCell ⟨w.heap.size+1+1+1,1,none⟩ b).setCell ⟨w.heap.size+1+1+1,2,none⟩ c).cell? ⟨w.heap.size,21,none⟩=some (.bool (R 2 1).ng)∧(((W.setCell ⟨w.heap.size+1+1+1,0,none⟩ a).setCell ⟨w.heap.size+1+1+1,1,none⟩ b).setCell ⟨w.heap.size+1+1+1,2,none⟩ c).cell? ⟨w.heap.size,22,none⟩=some (.slice (R 2 1).ao (R 2 1).n (R 2 1).cap)∧(((W.setCell ⟨w.heap.size+1+1+1,0,none⟩ a).setCell ⟨w.heap.size+1+1+1,1,none⟩ b).setCell ⟨w.heap.size+1+1+1,2,none⟩ c).cell? ⟨w.heap.size,23,none⟩=some (.int .i64 (R 2 1).e)∧(((W.setCell ⟨w.heap.size+1+1+1,0,none⟩ a).setCell ⟨w.heap.size+1+1+1,1,none⟩ b).setCell ⟨w.heap.size+1+1+1,2,none⟩ c).cell? ⟨w.heap.size,24,none⟩=some (.bool (R 2 2).ng)∧(((W.setCell ⟨w.heap.size+1+1+1,0,none⟩ a).setCell ⟨w.heap.size+1+1+1,1,none⟩ b).setCell ⟨w.heap.size+1+1+1,2,none⟩ c).cell? ⟨w.heap.size,25,none⟩=some (.slice (R 2 2).ao (R 2 2).n (R 2 2).cap)∧(((W.setCell ⟨w.heap.size+1+1+1,0,none⟩ a).setCell ⟨w.heap.size+1+1+1,1,none⟩ b).setCell ⟨w.heap.size+1+1+1,2,none⟩ c).cell? ⟨w.heap.size,26,none⟩=some (.int .i64 (R 2 2).e)∧(((W.setCell ⟨w.heap.size+1+1+1,0,none⟩ a).setCell ⟨w.heap.size+1+1+1,1,none⟩ b).setCell ⟨w.heap.size+1+1+1,2,none⟩ c).cell? ⟨w.heap.size,27,none⟩=some (.bool (R 3 0).ng)∧(((W.setCell ⟨w.heap.size+1+1+1,0,none⟩ a).setCell ⟨w.heap.size+1+1+1,1,none⟩ b).setCell ⟨w.heap.size+1+1+1,2,none⟩ c).cell? ⟨w.heap.size,28,none⟩=some (.slice (R 3 0).ao (R 3 0).n (R 3 0).cap)∧(((W.setCell ⟨w.heap.size+1+1+1,0,none⟩ a).setCell ⟨w.heap.size+1+1+1,1,none⟩ b).setCell ⟨w.heap.size+1+1+1,2,none⟩ c).cell? ⟨w.heap.size,29,none⟩=some (.int .i64 (R 3 0).e)∧(((W.setCell ⟨w.heap.size+1+1+1,0,none⟩ a).setCell ⟨w.heap.size+1+1+1,1,none⟩ b).setCell ⟨w.heap.size+1+1+1,2,none⟩ c).cell? ⟨w.heap.size,30,none⟩=some (.bool (R 3 1).ng)∧(((W.setCell ⟨w.heap.size+1+1+1,0,none⟩ a).setCell ⟨w.heap.size+1+1+1,1,none⟩ b).setCell ⟨w.heap.size+1+1+1,2,none⟩ c).cell? ⟨w.heap.size,31,none⟩=some (.slice (R 3 1).ao (R 3 1).n (R 3 1).cap)∧(((W.setCell ⟨w.heap.size+1+1+1,0,none⟩ a).setCell ⟨w.heap.size+1+1+1,1,none⟩ b).setCell ⟨w.heap.size+1+1+1,2,none⟩ c).cell? ⟨w.heap.size,32,none⟩=some (.int .i64 (R 3 1).e)∧(((W.setCell ⟨w.heap.size+1+1+1,0,none⟩ a).setCell ⟨w.heap.size+1+1+1,1,none⟩ b).setCell ⟨w.heap.size+1+1+1,2,none⟩ c).cell? ⟨w.heap.size,33,none⟩=some (.bool (R 3 2).ng)∧(((W.setCell ⟨w.heap.size+1+1+1,0,none⟩ a).setCell ⟨w.heap.size+1+1+1,1,none⟩ b).setCell ⟨w.heap.size+1+1+1,2,none⟩ c).cell? ⟨w.heap.size,34,none⟩=some (.slice (R 3 2).ao (R 3 2).n (R 3 2).cap)∧(((W.setCell ⟨w.heap.size+1+1+1,0,none⟩ a).setCell ⟨w.heap.size+1+1+1,1,none⟩ b).setCell ⟨w.heap.size+1+1+1,2,none⟩ c).cell? ⟨w.heap.size,35,none⟩=some (.int .i64 (R 3 2).e):=fun W a b c hb=>⟨ay (KK W hb).1 0 1 2 a b c hneB',ay (KK W hb).2.1 0 1 2 a b c hneB',ay (KK W hb).2.2.1 0 1 2 a b c hneB',ay (KK W hb).2.2.2.1 0 1 2 a b c hneB',ay (KK W hb).2.2.2.2.1 0 1 2 a b c hneB',ay (KK W hb).2.2.2.2.2.1 0 1 2 a b c hneB',ay (KK W hb).2.2.2.2.2.2.1 0 1 2 a b c hneB',ay (KK W hb).2.2.2.2.2.2.2.1 0 1 2 a b c hneB',ay (KK W hb).2.2.2.2.2.2.2.2.1 0 1 2 a b c hneB',ay (KK W hb).2.2.2.2.2.2.2.2.2.1 0 1 2 a b c hneB',ay (KK W hb).2.2.2.2.2.2.2.2.2.2.1 0 1 2 a b c hneB',ay (KK W hb).2.2.2.2.2.2.2.2.2.2.2.1 0 1 2 a b c hneB',ay (KK W hb).2.2.2.2.2.2.2.2.2.2.2.2.1 0 1 2 a b c hneB',ay (KK W hb).2.2.2.2.2.2.2.2.2.2.2.2.2.1 0 1 2 a b c hneB',ay (KK W hb).2.2.2.2.2.2.2.2.2.2.2.2.2.2.1 0 1 2 a b c hneB',ay (KK W hb).2.2.2.2.2.2.2.2.2.2.2.2.2.2.2.1 0 1 2 a b c hneB',ay (KK W hb).2.2.2.2.2.2.2.2.2.2.2.2.2.2.2.2.1 0 1 2 a b c hneB',ay (KK W hb).2.2.2.2.2.2.2.2.2.2.2.2.2.2.2.2.2.1 0 1 2 a b c hneB',ay (KK W hb).2.2.2.2.2.2.2.2.2.2.2.2.2.2.2.2.2.2.1 0 1 2 a b c hneB',ay (KK W hb).2.2.2.2.2.2.2.2.2.2.2.2.2.2.2.2.2.2.2.1 0 1 2 a b c hneB',ay (KK W hb).2.2.2.2.2.2.2.2.2.2.2.2.2.2.2.2.2.2.2.2.1 0 1 2 a b c hneB',ay (KK W hb).2.2.2.2.2.2.2.2.2.2.2.2.2.2.2.2.2.2.2.2.2.1 0 1 2 a b c hneB',ay (KK W hb).2.2.2.2.2.2.2.2.2.2.2.2.2.2.2.2.2.2.2.2.2.2.1 0 1 2 a b c hneB',ay (KK W hb).2.2.2.2.2.2.2.2.2.2.2.2.2.2.2.2.2.2.2.2.2.2.2.1 0 1 2 a b c hneB',ay (KK W hb).2.2.2.2.2.2.2.2.2.2.2.2.2.2.2.2.2.2.2.2.2.2.2.2.1 0 1 2 a b c hneB',ay (KK W hb).2.2.2.2.2.2.2.2.2.2.2.2.2.2.2.2.2.2.2.2.2.2.2.2.2.1 0 1 2 a b c hneB',ay (KK W hb).2.2.2.2.2.2.2.2.2.2.2.2.2.2.2.2.2.2.2.2.2.2.2.2.2.2 0 1 2 a b c hneB'⟩
      have hC0:=(al x6).drew
      go_region_held3 (fun W=>W.cell? ⟨w.heap.size,9,none⟩=some (.bool (R 1 0).ng)∧W.cell? ⟨w.heap.size,10,none⟩=some (.slice (R 1 0).ao (R 1 0).n (R 1 0).cap)∧W.cell? ⟨w.heap.size,11,none⟩=some (.int .i64 (R 1 0).e)∧W.cell? ⟨w.heap.size,12,none⟩=some (.bool (R 1 1).ng)∧W.cell? ⟨w.heap.size,13,none⟩=some (.slice (R 1 1).ao (R 1 1).n (R 1 1).cap)∧W.cell? ⟨w.heap.size,14,none⟩=some (.int .i64 (R 1 1).e)∧W.cell? ⟨w.heap.size,15,none⟩=some (.bool (R 1 2).ng)∧W.cell? ⟨w.heap.size,16,none⟩=some (.slice (R 1 2).ao (R 1 2).n (R 1 2).cap)∧W.cell? ⟨w.heap.size,17,none⟩=some (.int .i64 (R 1 2).e)∧W.cell? ⟨w.heap.size,18,none⟩=some (.bool (R 2 0).ng)∧W.cell? ⟨w.heap.size,19,none⟩=some (.slice (R 2 0).ao (R 2 0).n (R 2 0).cap)∧W.cell? ⟨w.heap.size,20,none⟩=some (.int .i64 (R 2 0).e)∧W.cell? ⟨w.heap.size,21,none⟩=some (.bool (R 2 1).ng)∧W.cell? ⟨w.heap.size,22,none⟩=some (.slice (R 2 1).ao (R 2 1).n (R 2 1).cap)∧W.cell? ⟨w.heap.size,23,none⟩=some (.int .i64 (R 2 1).e)∧W.cell? ⟨w.heap.size,24,none⟩=some (.bool (R 2 2).ng)∧W.cell? ⟨w.heap.size,25,none⟩=some (.slice (R 2 2).ao (R 2 2).n (R 2 2).cap)∧W.cell? ⟨w.heap.size,26,none⟩=some (.int .i64 (R 2 2).e)∧W.cell? ⟨w.heap.size,27,none⟩=some (.bool (R 3 0).ng)∧W.cell? ⟨w.heap.size,28,none⟩=some (.slice (R 3 0).ao (R 3 0).n (R 3 0).cap)∧W.cell? ⟨w.heap.size,29,none⟩=some (.int .i64 (R 3 0).e)∧W.cell? ⟨w.heap.size,30,none⟩=some (.bool (R 3 1).ng)∧W.cell? ⟨w.heap.size,31,none⟩=some (.slice (R 3 1).ao (R 3 1).n (R 3 1).cap)∧W.cell? ⟨w.heap.size,32,none⟩=some (.int .i64 (R 3 1).e)∧W.cell? ⟨w.heap.size,33,none⟩=some (.bool (R 3 2).ng)∧W.cell? ⟨w.heap.size,34,none⟩=some (.slice (R 3 2).ao (R 3 2).n (R 3 2).cap)∧W.cell? ⟨w.heap.size,35,none⟩=some (.int .i64 (R 3 2).e))
        (with_reducible first|assumption|exact KK _ hC0|exact KK _ hC1|exact KN _ _ _ _ hC1|fail)
        (first|(go_at_call 69;refine(CD0.out _ (ac hbw hC0)).mono ?_;rintro _ y7 ⟨v,DD,rfl,hd,hDe,hDb⟩;obtain⟨t_g,t_o,t_n,t_c,t_e,rfl⟩:=aN hd;have hC1:=ac hC0 hd.below;have d2k:=ak hC1 d_k;have e0:=af d2k _ d0;have e1:=af d2k _ d1;have e2:=af d2k _ d2;have z0:=ar d2k 0;have z1:=ar d2k 1;have z2:=ar d2k 2))
      have tD:aM (((y7.setCell ⟨w.heap.size+1+1+1,0,none⟩ (.bool t_g)).setCell ⟨w.heap.size+1+1+1,1,none⟩ (.slice t_o t_n t_c)).setCell ⟨w.heap.size+1+1+1,2,none⟩ (.int .i64 t_e)) (.agg #[.bool t_g,.slice t_o t_n t_c,.int .i64 t_e]) DD:=(jm (hd.dan.lower (Nat.zero_le _)) d2k (by decide) 0 1 2 _ _ _).num
      have HD3:Hid (cm (((y7.setCell ⟨w.heap.size+1+1+1,0,none⟩ (.bool t_g)).setCell ⟨w.heap.size+1+1+1,1,none⟩ (.slice t_o t_n t_c)).setCell ⟨w.heap.size+1+1+1,2,none⟩ (.int .i64 t_e)) (((da.setIfInBounds 0 (.bool t_g)).setIfInBounds 1 (.slice t_o t_n t_c)).setIfInBounds 2 (.int .i64 t_e)) (fun j=>if j=0 then DD else Dv j) (0+1) (fun j=>if j=0 then ⟨t_g,t_o,t_n,t_c,fun _=>0,t_e⟩ else Yd j)):=(HD2.out.keeps hC1).put (i:=0) (m:=0) (X':=fun j=>if j=0 then DD else Dv j) (by decide) (fun j hj hne=>by
        by_cases c:j<0
        · rw[if_pos c,if_pos (by omega),if_neg hne]
        · rw [if_neg c,if_neg (by omega)]) d2k ⟨t_g,t_o,t_n,t_c,fun _=>0,t_e⟩ (by show bJ 0 y7 (if 0=0 then DD else Dv 0) _; rw [if_pos rfl]; exact hd.dan.lower (Nat.zero_le _))
      have HL3:Hid (cm (((y7.setCell ⟨w.heap.size+1+1+1,0,none⟩ (.bool t_g)).setCell ⟨w.heap.size+1+1+1,1,none⟩ (.slice t_o t_n t_c)).setCell ⟨w.heap.size+1+1+1,2,none⟩ (.int .i64 t_e)) la2 Lv2 (0+1) Yl2):=(HL2.out.keeps hC1).other d2k (by decide) 0 1 2 _ _ _
      have q0:(((da.setIfInBounds 0 (.bool t_g)).setIfInBounds 1 (.slice t_o t_n t_c)).setIfInBounds 2 (.int .i64 t_e))[0]?=some (.bool t_g):=(HD3.out.e 0 (by decide)).1
      have q1:(((da.setIfInBounds 0 (.bool t_g)).setIfInBounds 1 (.slice t_o t_n t_c)).setIfInBounds 2 (.int .i64 t_e))[1]?=some (.slice t_o t_n t_c):=(HD3.out.e 0 (by decide)).2.1
      have q2:(((da.setIfInBounds 0 (.bool t_g)).setIfInBounds 1 (.slice t_o t_n t_c)).setIfInBounds 2 (.int .i64 t_e))[2]?=some (.int .i64 t_e):=(HD3.out.e 0 (by decide)).2.2.1
      replace b_k:=az (az (az (ak hC1 b_k) hneB' 0 (.bool t_g)) hneB' 1 (.slice t_o t_n t_c)) hneB' 2 (.int .i64 t_e)
      replace r_k:=az (az (az (ak hC1 r_k) hneR' 0 (.bool t_g)) hneR' 1 (.slice t_o t_n t_c)) hneR' 2 (.int .i64 t_e)
      replace l_k:=az (az (az (ak hC1 l_k) hLD 0 (.bool t_g)) hLD 1 (.slice t_o t_n t_c)) hLD 2 (.int .i64 t_e)
      replace d_k:=aq (aq (aq d2k 0 (.bool t_g)) 1 (.slice t_o t_n t_c)) 2 (.int .i64 t_e)
      replace hbw:=((((ac hbw hC1)).setCell (p:=⟨w.heap.size+1+1+1,0,none⟩) hgeD (.bool t_g)).setCell (p:=⟨w.heap.size+1+1+1,1,none⟩) hgeD (.slice t_o t_n t_c)).setCell (p:=⟨w.heap.size+1+1+1,2,none⟩) hgeD (.int .i64 t_e)
      generalize (((da.setIfInBounds 0 (.bool t_g)).setIfInBounds 1 (.slice t_o t_n t_c)).setIfInBounds 2 (.int .i64 t_e))=da2 at HD3 d_k q0 q1 q2
      generalize (fun j=>if j=0 then (⟨t_g,t_o,t_n,t_c,fun _=>0,t_e⟩:aI) else Yd j)=Yd2 at HD3
      clear hd hC0 hC1 d2k e0 e1 e2 z0 z1 z2 d0 d1 d2 HL2 HD2 KK KN
      have e0:=af d_k _ q0
      have e1:=af d_k _ q1
      have e2:=af d_k _ q2
      go_wp2_with fail
      clear e0 e1 e2
      generalize (((y7.setCell ⟨w.heap.size+1+1+1,0,none⟩ (.bool t_g)).setCell ⟨w.heap.size+1+1+1,1,none⟩ (.slice t_o t_n t_c)).setCell ⟨w.heap.size+1+1+1,2,none⟩ (.int .i64 t_e))=x8 at tD HD3 HL3 b_k r_k l_k d_k hbw ⊢
      refine(CT.out _ _ _ _ _ _ DD tD hDb).mono ?_
      rintro _ y9 ⟨v9,rfl,h9⟩
      obtain⟨s_g,s_o,s_n,s_c,s_e,rfl⟩:=aN h9
      have hC9:=h9.below
      have d9:=ak hC9 d_k
      have e0:=af d9 _ q0
      have e1:=af d9 _ q1
      have e2:=af d9 _ q2
      have z0:=ar d9 0
      have z1:=ar d9 1
      have z2:=ar d9 2
      have HD4:Hid (cm (((y9.setCell ⟨w.heap.size+1+1+1,0,none⟩ (.bool s_g)).setCell ⟨w.heap.size+1+1+1,1,none⟩ (.slice s_o s_n s_c)).setCell ⟨w.heap.size+1+1+1,2,none⟩ (.int .i64 s_e)) (((da2.setIfInBounds 0 (.bool s_g)).setIfInBounds 1 (.slice s_o s_n s_c)).setIfInBounds 2 (.int .i64 s_e)) (fun j=>if j=0 then -DD else Dv j) (0+1) (fun j=>if j=0 then ⟨s_g,s_o,s_n,s_c,fun _=>0,s_e⟩ else Yd2 j)):=(HD3.out.keeps hC9).put (i:=0) (m:=0+1) (X':=fun j=>if j=0 then -DD else Dv j) (by decide) (fun j hj hne=>by
        show(if j<0+1 then (if j=0 then DD else Dv j) else 0)=(if j<0+1 then (if j=0 then -DD else Dv j) else 0)
        rw [if_neg hne,if_neg hne]) d9 ⟨s_g,s_o,s_n,s_c,fun _=>0,s_e⟩ (by show bJ 0 y9 (if 0=0 then -DD else Dv 0) _; rw [if_pos rfl]; exact h9.dan.lower (Nat.zero_le _))
      have HL4:Hid (cm (((y9.setCell ⟨w.heap.size+1+1+1,0,none⟩ (.bool s_g)).setCell ⟨w.heap.size+1+1+1,1,none⟩ (.slice s_o s_n s_c)).setCell ⟨w.heap.size+1+1+1,2,none⟩ (.int .i64 s_e)) la2 Lv2 (0+1) Yl2):=(HL3.out.keeps hC9).other d9 (by decide) 0 1 2 _ _ _
      have hDv2:Hid (∀ j,j<0+1->(fun j=>if j=0 then -DD else Dv j) j*2^4194304*2^4194304=eX V j∧Bd 4307 ((fun j=>if j=0 then -DD else Dv j) j)):=fun j hj=>by
        by_cases c:j=0
        · subst c
          show(if 0=0 then -DD else Dv 0)*2^4194304*2^4194304=-dX V 1 2 3∧Bd 4307 (if 0=0 then -DD else Dv 0)
          rw[if_pos rfl,Int.neg_mul,Int.neg_mul,hDe]
          exact⟨rfl,hDb.neg⟩
        · show(if j=0 then -DD else Dv j)*2^4194304*2^4194304=eX V j∧Bd 4307 (if j=0 then -DD else Dv j)
          rw[if_neg c]
          exact HDv.out j (by omega)
      replace b_k:=az (az (az (ak hC9 b_k) hneB' 0 (.bool s_g)) hneB' 1 (.slice s_o s_n s_c)) hneB' 2 (.int .i64 s_e)
      replace r_k:=az (az (az (ak hC9 r_k) hneR' 0 (.bool s_g)) hneR' 1 (.slice s_o s_n s_c)) hneR' 2 (.int .i64 s_e)
      replace l_k:=az (az (az (ak hC9 l_k) hLD 0 (.bool s_g)) hLD 1 (.slice s_o s_n s_c)) hLD 2 (.int .i64 s_e)
      replace d_k:=aq (aq (aq d9 0 (.bool s_g)) 1 (.slice s_o s_n s_c)) 2 (.int .i64 s_e)
      replace hbw:=((((ac hbw hC9)).setCell (p:=⟨w.heap.size+1+1+1,0,none⟩) hgeD (.bool s_g)).setCell (p:=⟨w.heap.size+1+1+1,1,none⟩) hgeD (.slice s_o s_n s_c)).setCell (p:=⟨w.heap.size+1+1+1,2,none⟩) hgeD (.int .i64 s_e)
      generalize (((da2.setIfInBounds 0 (.bool s_g)).setIfInBounds 1 (.slice s_o s_n s_c)).setIfInBounds 2 (.int .i64 s_e))=da3 at HD4 d_k
      generalize (fun j=>if j=0 then (⟨s_g,s_o,s_n,s_c,fun _=>0,s_e⟩:aI) else Yd2 j)=Yd3 at HD4
      generalize (fun j=>if j=0 then -DD else Dv j)=Dv2 at HD4 hDv2
      have HI':Hid (cm (((y9.setCell ⟨w.heap.size+1+1+1,0,none⟩ (.bool s_g)).setCell ⟨w.heap.size+1+1+1,1,none⟩ (.slice s_o s_n s_c)).setCell ⟨w.heap.size+1+1+1,2,none⟩ (.int .i64 s_e)) la2 Lv2 (0+1) Yl2∧cm (((y9.setCell ⟨w.heap.size+1+1+1,0,none⟩ (.bool s_g)).setCell ⟨w.heap.size+1+1+1,1,none⟩ (.slice s_o s_n s_c)).setCell ⟨w.heap.size+1+1+1,2,none⟩ (.int .i64 s_e)) da3 Dv2 (0+1) Yd3∧(∀ j,j<0+1->Lv2 j*2^4194304=lX V j∧Bd 4307 (Lv2 j))∧(∀ j,j<0+1->Dv2 j*2^4194304*2^4194304=eX V j∧Bd 4307 (Dv2 j))):=⟨HL4.out,HD4.out,hLv2.out,hDv2.out⟩
      clear q0 q1 q2 HL3 HD3 HL4 HD4 hLv2 hDv2 tD h9 hC9 d9
      go_wp2_with fail
      go_roundw
      case rel=>exact⟨b_k,r_k,hbw,.inr (.inl ⟨by go_num,la2,da3,Yl2,Yd3,Lv2,Dv2,HI',l_k,d_k⟩)⟩
      case measure=>simp[intOf]
    · obtain⟨HL,HD,HLv,HDv⟩:=HI.out
      obtain⟨a0,a1,a2,-⟩:=HL.e 1 (by decide)
      obtain⟨d0,d1,d2,-⟩:=HD.e 1 (by decide)
      have HL:Hid (cm wr la Lv 1 Yl):=HL
      have HD:Hid (cm wr da Dv 1 Yd):=HD
      have HLv:Hid (∀ j,j<1->Lv j*2^4194304=lX V j∧Bd 4307 (Lv j)):=HLv
      have HDv:Hid (∀ j,j<1->Dv j*2^4194304*2^4194304=eX V j∧Bd 4307 (Dv j)):=HDv
      clear HI
      change la[3]?=_ at a0
      change la[4]?=_ at a1
      change la[5]?=_ at a2
      change da[3]?=_ at d0
      change da[4]?=_ at d1
      change da[5]?=_ at d2
      go_wp2_with fail
      refine(zo _).mono ?_
      rintro _ wz ⟨rfl,hwz⟩
      replace hwz:=hwz.symm
      subst hwz
      go_wp2_with fail
      have hC0:=(al wr).drew
      go_region_held3 (fun W=>True)
        (first|trivial|fail)
        (first|(go_at_call 89;refine(CL1.out _ (ac hbw hC0) (ak hC0 b_k)).mono ?_;rintro _ y5 ⟨v,DL,rfl,hd,hL,hLb⟩;obtain⟨n_g,n_o,n_n,n_c,n_e,rfl⟩:=aN hd;have hC1:=ac hC0 hd.below;have l2:=ak hC1 l_k;have e0:=af l2 _ a0;have e1:=af l2 _ a1;have e2:=af l2 _ a2;have z0:=ar l2 3;have z1:=ar l2 4;have z2:=ar l2 5))
      have hgeL:w.heap.size<=w.heap.size+1+1:=by omega
      have hgeD:w.heap.size<=w.heap.size+1+1+1:=by omega
      have HL2:Hid (cm (((y5.setCell ⟨w.heap.size+1+1,3,none⟩ (.bool n_g)).setCell ⟨w.heap.size+1+1,4,none⟩ (.slice n_o n_n n_c)).setCell ⟨w.heap.size+1+1,5,none⟩ (.int .i64 n_e)) (((la.setIfInBounds 3 (.bool n_g)).setIfInBounds 4 (.slice n_o n_n n_c)).setIfInBounds 5 (.int .i64 n_e)) (fun j=>if j=1 then DL else Lv j) (1+1) (fun j=>if j=1 then ⟨n_g,n_o,n_n,n_c,fun _=>0,n_e⟩ else Yl j)):=(HL.out.keeps hC1).put (i:=1) (m:=1) (X':=fun j=>if j=1 then DL else Lv j) (by decide) (fun j hj hne=>by
        by_cases c:j<1
        · rw[if_pos c,if_pos (by omega),if_neg hne]
        · rw [if_neg c,if_neg (by omega)]) l2 ⟨n_g,n_o,n_n,n_c,fun _=>0,n_e⟩ (by show bJ 0 y5 (if 1=1 then DL else Lv 1) _; rw [if_pos rfl]; exact hd.dan.lower (Nat.zero_le _))
      have HD2:Hid (cm (((y5.setCell ⟨w.heap.size+1+1,3,none⟩ (.bool n_g)).setCell ⟨w.heap.size+1+1,4,none⟩ (.slice n_o n_n n_c)).setCell ⟨w.heap.size+1+1,5,none⟩ (.int .i64 n_e)) da Dv 1 Yd):=(HD.out.keeps hC1).other l2 (by decide) 3 4 5 _ _ _
      have hLv2:Hid (∀ j,j<1+1->(fun j=>if j=1 then DL else Lv j) j*2^4194304=lX V j∧Bd 4307 ((fun j=>if j=1 then DL else Lv j) j)):=fun j hj=>by
        by_cases c:j=1
        · subst c
          show(if 1=1 then DL else Lv 1)*2^4194304=lX V 1∧Bd 4307 (if 1=1 then DL else Lv 1)
          rw[if_pos rfl]
          exact⟨hL,hLb.up (by decide) (by decide)⟩
        · show(if j=1 then DL else Lv j)*2^4194304=lX V j∧Bd 4307 (if j=1 then DL else Lv j)
          rw[if_neg c]
          exact HLv.out j (by omega)
      generalize (fun j=>if j=1 then DL else Lv j)=Lv2 at HL2 hLv2
      generalize (fun j=>if j=1 then (⟨n_g,n_o,n_n,n_c,fun _=>0,n_e⟩:aI) else Yl j)=Yl2 at HL2
      replace b_k:=az (az (az (ak hC1 b_k) hneB 3 (.bool n_g)) hneB 4 (.slice n_o n_n n_c)) hneB 5 (.int .i64 n_e)
      replace r_k:=az (az (az (ak hC1 r_k) hneR 3 (.bool n_g)) hneR 4 (.slice n_o n_n n_c)) hneR 5 (.int .i64 n_e)
      replace d_k:=az (az (az (ak hC1 d_k) hDL 3 (.bool n_g)) hDL 4 (.slice n_o n_n n_c)) hDL 5 (.int .i64 n_e)
      replace l_k:=aq (aq (aq l2 3 (.bool n_g)) 4 (.slice n_o n_n n_c)) 5 (.int .i64 n_e)
      replace hbw:=((((ac hbw hC1)).setCell (p:=⟨w.heap.size+1+1,3,none⟩) hgeL (.bool n_g)).setCell (p:=⟨w.heap.size+1+1,4,none⟩) hgeL (.slice n_o n_n n_c)).setCell (p:=⟨w.heap.size+1+1,5,none⟩) hgeL (.int .i64 n_e)
      generalize (((la.setIfInBounds 3 (.bool n_g)).setIfInBounds 4 (.slice n_o n_n n_c)).setIfInBounds 5 (.int .i64 n_e))=la2 at HL2 l_k
      clear hd hC0 hC1 l2 e0 e1 e2 z0 z1 z2 a0 a1 a2 HL HD HLv
      go_wp2_with fail
      generalize (((y5.setCell ⟨w.heap.size+1+1,3,none⟩ (.bool n_g)).setCell ⟨w.heap.size+1+1,4,none⟩ (.slice n_o n_n n_c)).setCell ⟨w.heap.size+1+1,5,none⟩ (.int .i64 n_e))=x6 at HL2 HD2 b_k r_k d_k l_k hbw ⊢
      have KK:∀ W,Below x6.heap.size x6 W->W.cell? ⟨w.heap.size,18,none⟩=some (.bool (R 2 0).ng)∧W.cell? ⟨w.heap.size,19,none⟩=some (.slice (R 2 0).ao (R 2 0).n (R 2 0).cap)∧W.cell? ⟨w.heap.size,20,none⟩=some (.int .i64 (R 2 0).e)∧W.cell? ⟨w.heap.size,21,none⟩=some (.bool (R 2 1).ng)∧W.cell? ⟨w.heap.size,22,none⟩=some (.slice (R 2 1).ao (R 2 1).n (R 2 1).cap)∧W.cell? ⟨w.heap.size,23,none⟩=some (.int .i64 (R 2 1).e)∧W.cell? ⟨w.heap.size,24,none⟩=some (.bool (R 2 2).ng)∧W.cell? ⟨w.heap.size,25,none⟩=some (.slice (R 2 2).ao (R 2 2).n (R 2 2).cap)∧W.cell? ⟨w.heap.size,26,none⟩=some (.int .i64 (R 2 2).e)∧W.cell? ⟨w.heap.size,27,none⟩=some (.bool (R 3 0).ng)∧W.cell? ⟨w.heap.size,28,none⟩=some (.slice (R 3 0).ao (R 3 0).n (R 3 0).cap)∧W.cell? ⟨w.heap.size,29,none⟩=some (.int .i64 (R 3 0).e)∧W.cell? ⟨w.heap.size,30,none⟩=some (.bool (R 3 1).ng)∧W.cell? ⟨w.heap.size,31,none⟩=some (.slice (R 3 1).ao (R 3 1).n (R 3 1).cap)∧W.cell? ⟨w.heap.size,32,none⟩=some (.int .i64 (R 3 1).e)∧W.cell? ⟨w.heap.size,33,none⟩=some (.bool (R 3 2).ng)∧W.cell? ⟨w.heap.size,34,none⟩=some (.slice (R 3 2).ao (R 3 2).n (R 3 2).cap)∧W.cell? ⟨w.heap.size,35,none⟩=some (.int .i64 (R 3 2).e)∧W.cell? ⟨w.heap.size,0,none⟩=some (.bool (R 0 0).ng)∧W.cell? ⟨w.heap.size,1,none⟩=some (.slice (R 0 0).ao (R 0 0).n (R 0 0).cap)∧W.cell? ⟨w.heap.size,2,none⟩=some (.int .i64 (R 0 0).e)∧W.cell? ⟨w.heap.size,3,none⟩=some (.bool (R 0 1).ng)∧W.cell? ⟨w.heap.size,4,none⟩=some (.slice (R 0 1).ao (R 0 1).n (R 0 1).cap)∧W.cell? ⟨w.heap.size,5,none⟩=some (.int .i64 (R 0 1).e)∧W.cell? ⟨w.heap.size,6,none⟩=some (.bool (R 0 2).ng)∧W.cell? ⟨w.heap.size,7,none⟩=some (.slice (R 0 2).ao (R 0 2).n (R 0 2).cap)∧W.cell? ⟨w.heap.size,8,none⟩=some (.int .i64 (R 0 2).e):=fun W hb=>⟨aj (af b_k 18 (hA.e 2 (by decide) 0 (by decide)).1) hb,aj (af b_k 19 (hA.e 2 (by decide) 0 (by decide)).2.1) hb,aj (af b_k 20 (hA.e 2 (by decide) 0 (by decide)).2.2.1) hb,aj (af b_k 21 (hA.e 2 (by decide) 1 (by decide)).1) hb,aj (af b_k 22 (hA.e 2 (by decide) 1 (by decide)).2.1) hb,aj (af b_k 23 (hA.e 2 (by decide) 1 (by decide)).2.2.1) hb,aj (af b_k 24 (hA.e 2 (by decide) 2 (by decide)).1) hb,aj (af b_k 25 (hA.e 2 (by decide) 2 (by decide)).2.1) hb,aj (af b_k 26 (hA.e 2 (by decide) 2 (by decide)).2.2.1) hb,aj (af b_k 27 (hA.e 3 (by decide) 0 (by decide)).1) hb,aj (af b_k 28 (hA.e 3 (by decide) 0 (by decide)).2.1) hb,aj (af b_k 29 (hA.e 3 (by decide) 0 (by decide)).2.2.1) hb,aj (af b_k 30 (hA.e 3 (by decide) 1 (by decide)).1) hb,aj (af b_k 31 (hA.e 3 (by decide) 1 (by decide)).2.1) hb,aj (af b_k 32 (hA.e 3 (by decide) 1 (by decide)).2.2.1) hb,aj (af b_k 33 (hA.e 3 (by decide) 2 (by decide)).1) hb,aj (af b_k 34 (hA.e 3 (by decide) 2 (by decide)).2.1) hb,aj (af b_k 35 (hA.e 3 (by decide) 2 (by decide)).2.2.1) hb,aj (af b_k 0 (hA.e 0 (by decide) 0 (by decide)).1) hb,aj (af b_k 1 (hA.e 0 (by decide) 0 (by decide)).2.1) hb,aj (af b_k 2 (hA.e 0 (by decide) 0 (by decide)).2.2.1) hb,aj (af b_k 3 (hA.e 0 (by decide) 1 (by decide)).1) hb,aj (af b_k 4 (hA.e 0 (by decide) 1 (by decide)).2.1) hb,aj (af b_k 5 (hA.e 0 (by decide) 1 (by decide)).2.2.1) hb,aj (af b_k 6 (hA.e 0 (by decide) 2 (by decide)).1) hb,aj (af b_k 7 (hA.e 0 (by decide) 2 (by decide)).2.1) hb,aj (af b_k 8 (hA.e 0 (by decide) 2 (by decide)).2.2.1) hb⟩
      have KN:∀ W a b c,Below x6.heap.size x6 W->(((W.setCell ⟨w.heap.size+1+1+1,3,none⟩ a).setCell ⟨w.heap.size+1+1+1,4,none⟩ b).setCell ⟨w.heap.size+1+1+1,5,none⟩ c).cell? ⟨w.heap.size,18,none⟩=some (.bool (R 2 0).ng)∧(((W.setCell ⟨w.heap.size+1+1+1,3,none⟩ a).setCell ⟨w.heap.size+1+1+1,4,none⟩ b).setCell ⟨w.heap.size+1+1+1,5,none⟩ c).cell? ⟨w.heap.size,19,none⟩=some (.slice (R 2 0).ao (R 2 0).n (R 2 0).cap)∧(((W.setCell ⟨w.heap.size+1+1+1,3,none⟩ a).setCell ⟨w.heap.size+1+1+1,4,none⟩ b).setCell ⟨w.heap.size+1+1+1,5,none⟩ c).cell? ⟨w.heap.size,20,none⟩=some (.int .i64 (R 2 0).e)∧(((W.setCell ⟨w.heap.size+1+1+1,3,none⟩ a).setCell ⟨w.heap.size+1+1+1,4,none⟩ b).setCell ⟨w.heap.size+1+1+1,5,none⟩ c).cell? ⟨w.heap.size,21,none⟩=some (.bool (R 2 1).ng)∧(((W.setCell ⟨w.heap.size+1+1+1,3,none⟩ a).setCell ⟨w.heap.size+1+1+1,4,none⟩ b).setCell ⟨w.heap.size+1+1+1,5,none⟩ c).cell? ⟨w.heap.size,22,none⟩=some (.slice (R 2 1).ao (R 2 1).n (R 2 1).cap)∧(((W.setCell ⟨w.heap.size+1+1+1,3,none⟩ a).setCell ⟨w.heap.size+1+1+1,4,none⟩ b).setCell ⟨w.heap.size+1+1+1,5,none⟩ c).cell? ⟨w.heap.size,23,none⟩=some (.int .i64 (R 2 1).e)∧(((W.setCell ⟨w.heap.size+1+1+1,3,none⟩ a).setCell ⟨w.heap.size+1+1+1,4,none⟩ b).setCell ⟨w.heap.size+1+1+1,5,none⟩ c).cell? ⟨w.heap.size,24,none⟩=some (.bool (R 2 2).ng)∧(((W.setCell ⟨w.heap.size+1+1+1,3,none⟩ a).setCell ⟨w.heap.size+1+1+1,4,none⟩ b).setCell ⟨w.heap.size+1+1+1,5,none⟩ c).cell? ⟨w.heap.size,25,none⟩=some (.slice (R 2 2).ao (R 2 2).n (R 2 2).cap)∧(((W.setCell ⟨w.heap.size+1+1+1,3,none⟩ a).setCell ⟨w.heap.size+1+1+1,4,none⟩ b).setCell ⟨w.heap.size+1+1+1,5,none⟩ c).cell? ⟨w.heap.size,26,none⟩=some (.int .i64 (R 2 2).e)∧(((W.setCell ⟨w.heap.size+1+1+1,3,none⟩ a).setCell ⟨w.heap.size+1+1+1,4,none⟩ b).setCell ⟨w.heap.size+1+1+1,5,none⟩ c).cell? ⟨w.heap.size,27,none⟩=some (.bool (R 3 0).ng)∧(((W.setCell ⟨w.heap.size+1+1+1,3,none⟩ a).setCell ⟨w.heap.size+1+1+1,4,none⟩ b).setCell ⟨w.heap.size+1+1+1,5,none⟩ c).cell? ⟨w.heap.size,28,none⟩=some (.slice (R 3 0).ao (R 3 0).n (R 3 0).cap)∧(((W.setCell ⟨w.heap.size+1+1+1,3,none⟩ a).setCell ⟨w.heap.size+1+1+1,4,none⟩ b).setCell ⟨w.heap.size+1+1+1,5,none⟩ c).cell? ⟨w.heap.size,29,none⟩=some (.int .i64 (R 3 0).e)∧(((W.setCell ⟨w.heap.size+1+1+1,3,none⟩ a).setCell ⟨w.heap.size+1+1+1,4,none⟩ b).setCell ⟨w.heap.size+1+1+1,5,none⟩ c).cell? ⟨w.heap.size,30,none⟩=some (.bool (R 3 1).ng)∧(((W.setCell ⟨w.heap.size+1+1+1,3,none⟩ a).setCell ⟨w.heap.size+1+1+1,4,none⟩ b).setCell ⟨w.heap.size+1+1+1,5,none⟩ c).cell? ⟨w.heap.size,31,none⟩=some (.slice (R 3 1).ao (R 3 1).n (R 3 1).cap)∧(((W.setCell ⟨w.heap.size+1+1+1,3,none⟩ a).setCell ⟨w.heap.size+1+1+1,4,none⟩ b).setCell ⟨w.heap.size+1+1+1,5,none⟩ c).cell? ⟨w.heap.size,32,none⟩=some (.int .i64 (R 3 1).e)∧(((W.setCell ⟨w.heap.size+1+1+1,3,none⟩ a).setCell ⟨w.heap.size+1+1+1,4,none⟩ b).setCell ⟨w.heap.size+1+1+1,5,none⟩ c).cell? ⟨w.heap.size,33,none⟩=some (.bool (R 3 2).ng)∧(((W.setCell ⟨w.heap.size+1+1+1,3,none⟩ a).setCell ⟨w.heap.size+1+1+1,4,none⟩ b).setCell ⟨w.heap.size+1+1+1,5,none⟩ c).cell? ⟨w.heap.size,34,none⟩=some (.slice (R 3 2).ao (R 3 2).n (R 3 2).cap)∧(((W.setCell ⟨w.heap.size+1+1+1,3,none⟩ a).setCell ⟨w.heap.size+1+1+1,4,none⟩ b).setCell ⟨w.heap.size+1+1+1,5,none⟩ c).cell? ⟨w.heap.size,35,none⟩=some (.int .i64 (R 3 2).e)∧(((W.setCell ⟨w.heap.size+1+1+1,3,none⟩ a).setCell ⟨w.heap.size+1+1+1,4,none⟩ b).setCell ⟨w.heap.size+1+1+1,5,none⟩ c).cell? ⟨w.heap.size,0,none⟩=some (.bool (R 0 0).ng)∧(((W.setCell ⟨w.heap.size+1+1+1,3,none⟩ a).setCell ⟨w.heap.size+1+1+1,4,none⟩ b).setCell ⟨w.heap.size+1+1+1,5,none⟩ c).cell? ⟨w.heap.size,1,none⟩=some (.slice (R 0 0).ao (R 0 0).n (R 0 0).cap)∧(((W.setCell ⟨w.heap.size+1+1+1,3,none⟩ a).setCell ⟨w.heap.size+1+1+1,4,none⟩ b).setCell ⟨w.heap.size+1+1+1,5,none⟩ c).cell? ⟨w.heap.size,2,none⟩=some (.int .i64 (R 0 0).e)∧(((W.setCell ⟨w.heap.size+1+1+1,3,none⟩ a).setCell ⟨w.heap.size+1+1+1,4,none⟩ b).setCell ⟨w.heap.size+1+1+1,5,none⟩ c).cell? ⟨w.heap.size,3,none⟩=some (.bool (R 0 1).ng)∧(((W.setCell ⟨w.heap.size+1+1+1,3,none⟩ a).setCell ⟨w.heap.size+1+1+1,4,none⟩ b).setCell ⟨w.heap.size+1+1+1,5,none⟩ c).cell? ⟨w.heap.size,4,none⟩=some (.slice (R 0 1).ao (R 0 1).n (R 0 1).cap)∧(((W.setCell ⟨w.heap.size+1+1+1,3,none⟩ a).setCell ⟨w.heap.size+1+1+1,4,none⟩ b).setCell ⟨w.heap.size+1+1+1,5,none⟩ c).cell? ⟨w.heap.size,5,none⟩=some (.int .i64 (R 0 1).e)∧(((W.setCell ⟨w.heap.size+1+1+1,3,none⟩ a).setCell ⟨w.heap.size+1+1+1,4,none⟩ b).setCell ⟨w.heap.size+1+1+1,5,none⟩ c).cell? ⟨w.heap.size,6,none⟩=some (.bool (R 0 2).ng)∧(((W.setCell ⟨w.heap.size+1+1+1,3,none⟩ a).setCell ⟨w.heap.size+1+1+1,4,none⟩ b).setCell ⟨w.heap.size+1+1+1,5,none⟩ c).cell? ⟨w.heap.size,7,none⟩=some (.slice (R 0 2).ao (R 0 2).n (R 0 2).cap)∧(((W.setCell ⟨w.heap.size+1+1+1,3,none⟩ a).setCell ⟨w.heap.size+1+1+1,4,none⟩ b).setCell ⟨w.heap.size+1+1+1,5,none⟩ c).cell? ⟨w.heap.size,8,none⟩=some (.int .i64 (R 0 2).e):=fun W a b c hb=>⟨ay (KK W hb).1 3 4 5 a b c hneB',ay (KK W hb).2.1 3 4 5 a b c hneB',ay (KK W hb).2.2.1 3 4 5 a b c hneB',ay (KK W hb).2.2.2.1 3 4 5 a b c hneB',ay (KK W hb).2.2.2.2.1 3 4 5 a b c hneB',ay (KK W hb).2.2.2.2.2.1 3 4 5 a b c hneB',ay (KK W hb).2.2.2.2.2.2.1 3 4 5 a b c hneB',ay (KK W hb).2.2.2.2.2.2.2.1 3 4 5 a b c hneB',ay (KK W hb).2.2.2.2.2.2.2.2.1 3 4 5 a b c hneB',ay (KK W hb).2.2.2.2.2.2.2.2.2.1 3 4 5 a b c hneB',ay (KK W hb).2.2.2.2.2.2.2.2.2.2.1 3 4 5 a b c hneB',ay (KK W hb).2.2.2.2.2.2.2.2.2.2.2.1 3 4 5 a b c hneB',ay (KK W hb).2.2.2.2.2.2.2.2.2.2.2.2.1 3 4 5 a b c hneB',ay (KK W hb).2.2.2.2.2.2.2.2.2.2.2.2.2.1 3 4 5 a b c hneB',ay (KK W hb).2.2.2.2.2.2.2.2.2.2.2.2.2.2.1 3 4 5 a b c hneB',ay (KK W hb).2.2.2.2.2.2.2.2.2.2.2.2.2.2.2.1 3 4 5 a b c hneB',ay (KK W hb).2.2.2.2.2.2.2.2.2.2.2.2.2.2.2.2.1 3 4 5 a b c hneB',ay (KK W hb).2.2.2.2.2.2.2.2.2.2.2.2.2.2.2.2.2.1 3 4 5 a b c hneB',ay (KK W hb).2.2.2.2.2.2.2.2.2.2.2.2.2.2.2.2.2.2.1 3 4 5 a b c hneB',ay (KK W hb).2.2.2.2.2.2.2.2.2.2.2.2.2.2.2.2.2.2.2.1 3 4 5 a b c hneB',ay (KK W hb).2.2.2.2.2.2.2.2.2.2.2.2.2.2.2.2.2.2.2.2.1 3 4 5 a b c hneB',ay (KK W hb).2.2.2.2.2.2.2.2.2.2.2.2.2.2.2.2.2.2.2.2.2.1 3 4 5 a b c hneB',ay (KK W hb).2.2.2.2.2.2.2.2.2.2.2.2.2.2.2.2.2.2.2.2.2.2.1 3 4 5 a b c hneB',ay (KK W hb).2.2.2.2.2.2.2.2.2.2.2.2.2.2.2.2.2.2.2.2.2.2.2.1 3 4 5 a b c hneB',ay (KK W hb).2.2.2.2.2.2.2.2.2.2.2.2.2.2.2.2.2.2.2.2.2.2.2.2.1 3 4 5 a b c hneB',ay (KK W hb).2.2.2.2.2.2.2.2.2.2.2.2.2.2.2.2.2.2.2.2.2.2.2.2.2.1 3 4 5 a b c hneB',ay (KK W hb).2.2.2.2.2.2.2.2.2.2.2.2.2.2.2.2.2.2.2.2.2.2.2.2.2.2 3 4 5 a b c hneB'⟩
      have hC0:=(al x6).drew
      go_region_held3 (fun W=>W.cell? ⟨w.heap.size,18,none⟩=some (.bool (R 2 0).ng)∧W.cell? ⟨w.heap.size,19,none⟩=some (.slice (R 2 0).ao (R 2 0).n (R 2 0).cap)∧W.cell? ⟨w.heap.size,20,none⟩=some (.int .i64 (R 2 0).e)∧W.cell? ⟨w.heap.size,21,none⟩=some (.bool (R 2 1).ng)∧W.cell? ⟨w.heap.size,22,none⟩=some (.slice (R 2 1).ao (R 2 1).n (R 2 1).cap)∧W.cell? ⟨w.heap.size,23,none⟩=some (.int .i64 (R 2 1).e)∧W.cell? ⟨w.heap.size,24,none⟩=some (.bool (R 2 2).ng)∧W.cell? ⟨w.heap.size,25,none⟩=some (.slice (R 2 2).ao (R 2 2).n (R 2 2).cap)∧W.cell? ⟨w.heap.size,26,none⟩=some (.int .i64 (R 2 2).e)∧W.cell? ⟨w.heap.size,27,none⟩=some (.bool (R 3 0).ng)∧W.cell? ⟨w.heap.size,28,none⟩=some (.slice (R 3 0).ao (R 3 0).n (R 3 0).cap)∧W.cell? ⟨w.heap.size,29,none⟩=some (.int .i64 (R 3 0).e)∧W.cell? ⟨w.heap.size,30,none⟩=some (.bool (R 3 1).ng)∧W.cell? ⟨w.heap.size,31,none⟩=some (.slice (R 3 1).ao (R 3 1).n (R 3 1).cap)∧W.cell? ⟨w.heap.size,32,none⟩=some (.int .i64 (R 3 1).e)∧W.cell? ⟨w.heap.size,33,none⟩=some (.bool (R 3 2).ng)∧W.cell? ⟨w.heap.size,34,none⟩=some (.slice (R 3 2).ao (R 3 2).n (R 3 2).cap)∧W.cell? ⟨w.heap.size,35,none⟩=some (.int .i64 (R 3 2).e)∧W.cell? ⟨w.heap.size,0,none⟩=some (.bool (R 0 0).ng)∧W.cell? ⟨w.heap.size,1,none⟩=some (.slice (R 0 0).ao (R 0 0).n (R 0 0).cap)∧W.cell? ⟨w.heap.size,2,none⟩=some (.int .i64 (R 0 0).e)∧W.cell? ⟨w.heap.size,3,none⟩=some (.bool (R 0 1).ng)∧W.cell? ⟨w.heap.size,4,none⟩=some (.slice (R 0 1).ao (R 0 1).n (R 0 1).cap)∧W.cell? ⟨w.heap.size,5,none⟩=some (.int .i64 (R 0 1).e)∧W.cell? ⟨w.heap.size,6,none⟩=some (.bool (R 0 2).ng)∧W.cell? ⟨w.heap.size,7,none⟩=some (.slice (R 0 2).ao (R 0 2).n (R 0 2).cap)∧W.cell? ⟨w.heap.size,8,none⟩=some (.int .i64 (R 0 2).e))
        (with_reducible first|assumption|exact KK _ hC0|exact KK _ hC1|exact KN _ _ _ _ hC1|fail)
        (first|(go_at_call 69;refine(CD1.out _ (ac hbw hC0)).mono ?_;rintro _ y7 ⟨v,DD,rfl,hd,hDe,hDb⟩;obtain⟨t_g,t_o,t_n,t_c,t_e,rfl⟩:=aN hd;have hC1:=ac hC0 hd.below;have d2k:=ak hC1 d_k;have e0:=af d2k _ d0;have e1:=af d2k _ d1;have e2:=af d2k _ d2;have z0:=ar d2k 3;have z1:=ar d2k 4;have z2:=ar d2k 5))
      have tD:aM (((y7.setCell ⟨w.heap.size+1+1+1,3,none⟩ (.bool t_g)).setCell ⟨w.heap.size+1+1+1,4,none⟩ (.slice t_o t_n t_c)).setCell ⟨w.heap.size+1+1+1,5,none⟩ (.int .i64 t_e)) (.agg #[.bool t_g,.slice t_o t_n t_c,.int .i64 t_e]) DD:=(jm (hd.dan.lower (Nat.zero_le _)) d2k (by decide) 3 4 5 _ _ _).num
      have HD3:Hid (cm (((y7.setCell ⟨w.heap.size+1+1+1,3,none⟩ (.bool t_g)).setCell ⟨w.heap.size+1+1+1,4,none⟩ (.slice t_o t_n t_c)).setCell ⟨w.heap.size+1+1+1,5,none⟩ (.int .i64 t_e)) (((da.setIfInBounds 3 (.bool t_g)).setIfInBounds 4 (.slice t_o t_n t_c)).setIfInBounds 5 (.int .i64 t_e)) (fun j=>if j=1 then DD else Dv j) (1+1) (fun j=>if j=1 then ⟨t_g,t_o,t_n,t_c,fun _=>0,t_e⟩ else Yd j)):=(HD2.out.keeps hC1).put (i:=1) (m:=1) (X':=fun j=>if j=1 then DD else Dv j) (by decide) (fun j hj hne=>by
        by_cases c:j<1
        · rw[if_pos c,if_pos (by omega),if_neg hne]
        · rw [if_neg c,if_neg (by omega)]) d2k ⟨t_g,t_o,t_n,t_c,fun _=>0,t_e⟩ (by show bJ 0 y7 (if 1=1 then DD else Dv 1) _; rw [if_pos rfl]; exact hd.dan.lower (Nat.zero_le _))
      have HL3:Hid (cm (((y7.setCell ⟨w.heap.size+1+1+1,3,none⟩ (.bool t_g)).setCell ⟨w.heap.size+1+1+1,4,none⟩ (.slice t_o t_n t_c)).setCell ⟨w.heap.size+1+1+1,5,none⟩ (.int .i64 t_e)) la2 Lv2 (1+1) Yl2):=(HL2.out.keeps hC1).other d2k (by decide) 3 4 5 _ _ _
      have q0:(((da.setIfInBounds 3 (.bool t_g)).setIfInBounds 4 (.slice t_o t_n t_c)).setIfInBounds 5 (.int .i64 t_e))[3]?=some (.bool t_g):=(HD3.out.e 1 (by decide)).1
      have q1:(((da.setIfInBounds 3 (.bool t_g)).setIfInBounds 4 (.slice t_o t_n t_c)).setIfInBounds 5 (.int .i64 t_e))[4]?=some (.slice t_o t_n t_c):=(HD3.out.e 1 (by decide)).2.1
      have q2:(((da.setIfInBounds 3 (.bool t_g)).setIfInBounds 4 (.slice t_o t_n t_c)).setIfInBounds 5 (.int .i64 t_e))[5]?=some (.int .i64 t_e):=(HD3.out.e 1 (by decide)).2.2.1
      replace b_k:=az (az (az (ak hC1 b_k) hneB' 3 (.bool t_g)) hneB' 4 (.slice t_o t_n t_c)) hneB' 5 (.int .i64 t_e)
      replace r_k:=az (az (az (ak hC1 r_k) hneR' 3 (.bool t_g)) hneR' 4 (.slice t_o t_n t_c)) hneR' 5 (.int .i64 t_e)
      replace l_k:=az (az (az (ak hC1 l_k) hLD 3 (.bool t_g)) hLD 4 (.slice t_o t_n t_c)) hLD 5 (.int .i64 t_e)
      replace d_k:=aq (aq (aq d2k 3 (.bool t_g)) 4 (.slice t_o t_n t_c)) 5 (.int .i64 t_e)
      replace hbw:=((((ac hbw hC1)).setCell (p:=⟨w.heap.size+1+1+1,3,none⟩) hgeD (.bool t_g)).setCell (p:=⟨w.heap.size+1+1+1,4,none⟩) hgeD (.slice t_o t_n t_c)).setCell (p:=⟨w.heap.size+1+1+1,5,none⟩) hgeD (.int .i64 t_e)
      generalize (((da.setIfInBounds 3 (.bool t_g)).setIfInBounds 4 (.slice t_o t_n t_c)).setIfInBounds 5 (.int .i64 t_e))=da2 at HD3 d_k q0 q1 q2
      generalize (fun j=>if j=1 then (⟨t_g,t_o,t_n,t_c,fun _=>0,t_e⟩:aI) else Yd j)=Yd2 at HD3
      clear hd hC0 hC1 d2k e0 e1 e2 z0 z1 z2 d0 d1 d2 HL2 HD2 KK KN
      have hDv2:Hid (∀ j,j<1+1->(fun j=>if j=1 then DD else Dv j) j*2^4194304*2^4194304=eX V j∧Bd 4307 ((fun j=>if j=1 then DD else Dv j) j)):=fun j hj=>by
        by_cases c:j=1
        · subst c
          show(if 1=1 then DD else Dv 1)*2^4194304*2^4194304=dX V 2 3 0∧Bd 4307 (if 1=1 then DD else Dv 1)
          rw[if_pos rfl]
          exact⟨hDe,hDb⟩
        · show(if j=1 then DD else Dv j)*2^4194304*2^4194304=eX V j∧Bd 4307 (if j=1 then DD else Dv j)
          rw[if_neg c]
          exact HDv.out j (by omega)
      generalize (fun j=>if j=1 then DD else Dv j)=Dv2 at HD3 hDv2
      have HI':Hid (cm (((y7.setCell ⟨w.heap.size+1+1+1,3,none⟩ (.bool t_g)).setCell ⟨w.heap.size+1+1+1,4,none⟩ (.slice t_o t_n t_c)).setCell ⟨w.heap.size+1+1+1,5,none⟩ (.int .i64 t_e)) la2 Lv2 (1+1) Yl2∧cm (((y7.setCell ⟨w.heap.size+1+1+1,3,none⟩ (.bool t_g)).setCell ⟨w.heap.size+1+1+1,4,none⟩ (.slice t_o t_n t_c)).setCell ⟨w.heap.size+1+1+1,5,none⟩ (.int .i64 t_e)) da2 Dv2 (1+1) Yd2∧(∀ j,j<1+1->Lv2 j*2^4194304=lX V j∧Bd 4307 (Lv2 j))∧(∀ j,j<1+1->Dv2 j*2^4194304*2^4194304=eX V j∧Bd 4307 (Dv2 j))):=⟨HL3.out,HD3.out,hLv2.out,hDv2.out⟩
      clear q0 q1 q2 HL3 HD3 hLv2 hDv2 tD
      go_wp2_with fail
      go_roundw
      case rel=>exact⟨b_k,r_k,hbw,.inr (.inr (.inl ⟨by go_num,la2,da2,Yl2,Yd2,Lv2,Dv2,HI',l_k,d_k⟩))⟩
      case measure=>simp[intOf]
    · obtain⟨HL,HD,HLv,HDv⟩:=HI.out
      obtain⟨a0,a1,a2,-⟩:=HL.e 2 (by decide)
      obtain⟨d0,d1,d2,-⟩:=HD.e 2 (by decide)
      have HL:Hid (cm wr la Lv 2 Yl):=HL
      have HD:Hid (cm wr da Dv 2 Yd):=HD
      have HLv:Hid (∀ j,j<2->Lv j*2^4194304=lX V j∧Bd 4307 (Lv j)):=HLv
      have HDv:Hid (∀ j,j<2->Dv j*2^4194304*2^4194304=eX V j∧Bd 4307 (Dv j)):=HDv
      clear HI
      change la[6]?=_ at a0
      change la[7]?=_ at a1
      change la[8]?=_ at a2
      change da[6]?=_ at d0
      change da[7]?=_ at d1
      change da[8]?=_ at d2
      go_wp2_with fail
      refine(zr _).mono ?_
      rintro _ wz ⟨rfl,hwz⟩
      replace hwz:=hwz.symm
      subst hwz
      go_wp2_with fail
      have hC0:=(al wr).drew
      go_region_held3 (fun W=>True)
        (first|trivial|fail)
        (first|(go_at_call 89;refine(CL2.out _ (ac hbw hC0) (ak hC0 b_k)).mono ?_;rintro _ y5 ⟨v,DL,rfl,hd,hL,hLb⟩;obtain⟨n_g,n_o,n_n,n_c,n_e,rfl⟩:=aN hd;have hC1:=ac hC0 hd.below;have l2:=ak hC1 l_k;have e0:=af l2 _ a0;have e1:=af l2 _ a1;have e2:=af l2 _ a2;have z0:=ar l2 6;have z1:=ar l2 7;have z2:=ar l2 8))
      have hgeL:w.heap.size<=w.heap.size+1+1:=by omega
      have hgeD:w.heap.size<=w.heap.size+1+1+1:=by omega
      have HL2:Hid (cm (((y5.setCell ⟨w.heap.size+1+1,6,none⟩ (.bool n_g)).setCell ⟨w.heap.size+1+1,7,none⟩ (.slice n_o n_n n_c)).setCell ⟨w.heap.size+1+1,8,none⟩ (.int .i64 n_e)) (((la.setIfInBounds 6 (.bool n_g)).setIfInBounds 7 (.slice n_o n_n n_c)).setIfInBounds 8 (.int .i64 n_e)) (fun j=>if j=2 then DL else Lv j) (2+1) (fun j=>if j=2 then ⟨n_g,n_o,n_n,n_c,fun _=>0,n_e⟩ else Yl j)):=(HL.out.keeps hC1).put (i:=2) (m:=2) (X':=fun j=>if j=2 then DL else Lv j) (by decide) (fun j hj hne=>by
        by_cases c:j<2
        · rw[if_pos c,if_pos (by omega),if_neg hne]
        · rw [if_neg c,if_neg (by omega)]) l2 ⟨n_g,n_o,n_n,n_c,fun _=>0,n_e⟩ (by show bJ 0 y5 (if 2=2 then DL else Lv 2) _; rw [if_pos rfl]; exact hd.dan.lower (Nat.zero_le _))
      have HD2:Hid (cm (((y5.setCell ⟨w.heap.size+1+1,6,none⟩ (.bool n_g)).setCell ⟨w.heap.size+1+1,7,none⟩ (.slice n_o n_n n_c)).setCell ⟨w.heap.size+1+1,8,none⟩ (.int .i64 n_e)) da Dv 2 Yd):=(HD.out.keeps hC1).other l2 (by decide) 6 7 8 _ _ _
      have hLv2:Hid (∀ j,j<2+1->(fun j=>if j=2 then DL else Lv j) j*2^4194304=lX V j∧Bd 4307 ((fun j=>if j=2 then DL else Lv j) j)):=fun j hj=>by
        by_cases c:j=2
        · subst c
          show(if 2=2 then DL else Lv 2)*2^4194304=lX V 2∧Bd 4307 (if 2=2 then DL else Lv 2)
          rw[if_pos rfl]
          exact⟨hL,hLb.up (by decide) (by decide)⟩
        · show(if j=2 then DL else Lv j)*2^4194304=lX V j∧Bd 4307 (if j=2 then DL else Lv j)
          rw[if_neg c]
          exact HLv.out j (by omega)
      generalize (fun j=>if j=2 then DL else Lv j)=Lv2 at HL2 hLv2
      generalize (fun j=>if j=2 then (⟨n_g,n_o,n_n,n_c,fun _=>0,n_e⟩:aI) else Yl j)=Yl2 at HL2
      replace b_k:=az (az (az (ak hC1 b_k) hneB 6 (.bool n_g)) hneB 7 (.slice n_o n_n n_c)) hneB 8 (.int .i64 n_e)
      replace r_k:=az (az (az (ak hC1 r_k) hneR 6 (.bool n_g)) hneR 7 (.slice n_o n_n n_c)) hneR 8 (.int .i64 n_e)
      replace d_k:=az (az (az (ak hC1 d_k) hDL 6 (.bool n_g)) hDL 7 (.slice n_o n_n n_c)) hDL 8 (.int .i64 n_e)
      replace l_k:=aq (aq (aq l2 6 (.bool n_g)) 7 (.slice n_o n_n n_c)) 8 (.int .i64 n_e)
      replace hbw:=((((ac hbw hC1)).setCell (p:=⟨w.heap.size+1+1,6,none⟩) hgeL (.bool n_g)).setCell (p:=⟨w.heap.size+1+1,7,none⟩) hgeL (.slice n_o n_n n_c)).setCell (p:=⟨w.heap.size+1+1,8,none⟩) hgeL (.int .i64 n_e)
      generalize (((la.setIfInBounds 6 (.bool n_g)).setIfInBounds 7 (.slice n_o n_n n_c)).setIfInBounds 8 (.int .i64 n_e))=la2 at HL2 l_k
      clear hd hC0 hC1 l2 e0 e1 e2 z0 z1 z2 a0 a1 a2 HL HD HLv
      go_wp2_with fail
      generalize (((y5.setCell ⟨w.heap.size+1+1,6,none⟩ (.bool n_g)).setCell ⟨w.heap.size+1+1,7,none⟩ (.slice n_o n_n n_c)).setCell ⟨w.heap.size+1+1,8,none⟩ (.int .i64 n_e))=x6 at HL2 HD2 b_k r_k d_k l_k hbw ⊢
      have KK:∀ W,Below x6.heap.size x6 W->W.cell? ⟨w.heap.size,27,none⟩=some (.bool (R 3 0).ng)∧W.cell? ⟨w.heap.size,28,none⟩=some (.slice (R 3 0).ao (R 3 0).n (R 3 0).cap)∧W.cell? ⟨w.heap.size,29,none⟩=some (.int .i64 (R 3 0).e)∧W.cell? ⟨w.heap.size,30,none⟩=some (.bool (R 3 1).ng)∧W.cell? ⟨w.heap.size,31,none⟩=some (.slice (R 3 1).ao (R 3 1).n (R 3 1).cap)∧W.cell? ⟨w.heap.size,32,none⟩=some (.int .i64 (R 3 1).e)∧W.cell? ⟨w.heap.size,33,none⟩=some (.bool (R 3 2).ng)∧W.cell? ⟨w.heap.size,34,none⟩=some (.slice (R 3 2).ao (R 3 2).n (R 3 2).cap)∧W.cell? ⟨w.heap.size,35,none⟩=some (.int .i64 (R 3 2).e)∧W.cell? ⟨w.heap.size,0,none⟩=some (.bool (R 0 0).ng)∧W.cell? ⟨w.heap.size,1,none⟩=some (.slice (R 0 0).ao (R 0 0).n (R 0 0).cap)∧W.cell? ⟨w.heap.size,2,none⟩=some (.int .i64 (R 0 0).e)∧W.cell? ⟨w.heap.size,3,none⟩=some (.bool (R 0 1).ng)∧W.cell? ⟨w.heap.size,4,none⟩=some (.slice (R 0 1).ao (R 0 1).n (R 0 1).cap)∧W.cell? ⟨w.heap.size,5,none⟩=some (.int .i64 (R 0 1).e)∧W.cell? ⟨w.heap.size,6,none⟩=some (.bool (R 0 2).ng)∧W.cell? ⟨w.heap.size,7,none⟩=some (.slice (R 0 2).ao (R 0 2).n (R 0 2).cap)∧W.cell? ⟨w.heap.size,8,none⟩=some (.int .i64 (R 0 2).e)∧W.cell? ⟨w.heap.size,9,none⟩=some (.bool (R 1 0).ng)∧W.cell? ⟨w.heap.size,10,none⟩=some (.slice (R 1 0).ao (R 1 0).n (R 1 0).cap)∧W.cell? ⟨w.heap.size,11,none⟩=some (.int .i64 (R 1 0).e)∧W.cell? ⟨w.heap.size,12,none⟩=some (.bool (R 1 1).ng)∧W.cell? ⟨w.heap.size,13,none⟩=some (.slice (R 1 1).ao (R 1 1).n (R 1 1).cap)∧W.cell? ⟨w.heap.size,14,none⟩=some (.int .i64 (R 1 1).e)∧W.cell? ⟨w.heap.size,15,none⟩=some (.bool (R 1 2).ng)∧W.cell? ⟨w.heap.size,16,none⟩=some (.slice (R 1 2).ao (R 1 2).n (R 1 2).cap)∧W.cell? ⟨w.heap.size,17,none⟩=some (.int .i64 (R 1 2).e):=fun W hb=>⟨aj (af b_k 27 (hA.e 3 (by decide) 0 (by decide)).1) hb,aj (af b_k 28 (hA.e 3 (by decide) 0 (by decide)).2.1) hb,aj (af b_k 29 (hA.e 3 (by decide) 0 (by decide)).2.2.1) hb,aj (af b_k 30 (hA.e 3 (by decide) 1 (by decide)).1) hb,aj (af b_k 31 (hA.e 3 (by decide) 1 (by decide)).2.1) hb,aj (af b_k 32 (hA.e 3 (by decide) 1 (by decide)).2.2.1) hb,aj (af b_k 33 (hA.e 3 (by decide) 2 (by decide)).1) hb,aj (af b_k 34 (hA.e 3 (by decide) 2 (by decide)).2.1) hb,aj (af b_k 35 (hA.e 3 (by decide) 2 (by decide)).2.2.1) hb,aj (af b_k 0 (hA.e 0 (by decide) 0 (by decide)).1) hb,aj (af b_k 1 (hA.e 0 (by decide) 0 (by decide)).2.1) hb,aj (af b_k 2 (hA.e 0 (by decide) 0 (by decide)).2.2.1) hb,aj (af b_k 3 (hA.e 0 (by decide) 1 (by decide)).1) hb,aj (af b_k 4 (hA.e 0 (by decide) 1 (by decide)).2.1) hb,aj (af b_k 5 (hA.e 0 (by decide) 1 (by decide)).2.2.1) hb,aj (af b_k 6 (hA.e 0 (by decide) 2 (by decide)).1) hb,aj (af b_k 7 (hA.e 0 (by decide) 2 (by decide)).2.1) hb,aj (af b_k 8 (hA.e 0 (by decide) 2 (by decide)).2.2.1) hb,aj (af b_k 9 (hA.e 1 (by decide) 0 (by decide)).1) hb,aj (af b_k 10 (hA.e 1 (by decide) 0 (by decide)).2.1) hb,aj (af b_k 11 (hA.e 1 (by decide) 0 (by decide)).2.2.1) hb,aj (af b_k 12 (hA.e 1 (by decide) 1 (by decide)).1) hb,aj (af b_k 13 (hA.e 1 (by decide) 1 (by decide)).2.1) hb,aj (af b_k 14 (hA.e 1 (by decide) 1 (by decide)).2.2.1) hb,aj (af b_k 15 (hA.e 1 (by decide) 2 (by decide)).1) hb,aj (af b_k 16 (hA.e 1 (by decide) 2 (by decide)).2.1) hb,aj (af b_k 17 (hA.e 1 (by decide) 2 (by decide)).2.2.1) hb⟩
      have KN:∀ W a b c,Below x6.heap.size x6 W->(((W.setCell ⟨w.heap.size+1+1+1,6,none⟩ a).setCell ⟨w.heap.size+1+1+1,7,none⟩ b).setCell ⟨w.heap.size+1+1+1,8,none⟩ c).cell? ⟨w.heap.size,27,none⟩=some (.bool (R 3 0).ng)∧(((W.setCell ⟨w.heap.size+1+1+1,6,none⟩ a).setCell ⟨w.heap.size+1+1+1,7,none⟩ b).setCell ⟨w.heap.size+1+1+1,8,none⟩ c).cell? ⟨w.heap.size,28,none⟩=some (.slice (R 3 0).ao (R 3 0).n (R 3 0).cap)∧(((W.setCell ⟨w.heap.size+1+1+1,6,none⟩ a).setCell ⟨w.heap.size+1+1+1,7,none⟩ b).setCell ⟨w.heap.size+1+1+1,8,none⟩ c).cell? ⟨w.heap.size,29,none⟩=some (.int .i64 (R 3 0).e)∧(((W.setCell ⟨w.heap.size+1+1+1,6,none⟩ a).setCell ⟨w.heap.size+1+1+1,7,none⟩ b).setCell ⟨w.heap.size+1+1+1,8,none⟩ c).cell? ⟨w.heap.size,30,none⟩=some (.bool (R 3 1).ng)∧(((W.setCell ⟨w.heap.size+1+1+1,6,none⟩ a).setCell ⟨w.heap.size+1+1+1,7,none⟩ b).setCell ⟨w.heap.size+1+1+1,8,none⟩ c).cell? ⟨w.heap.size,31,none⟩=some (.slice (R 3 1).ao (R 3 1).n (R 3 1).cap)∧(((W.setCell ⟨w.heap.size+1+1+1,6,none⟩ a).setCell ⟨w.heap.size+1+1+1,7,none⟩ b).setCell ⟨w.heap.size+1+1+1,8,none⟩ c).cell? ⟨w.heap.size,32,none⟩=some (.int .i64 (R 3 1).e)∧(((W.setCell ⟨w.heap.size+1+1+1,6,none⟩ a).setCell ⟨w.heap.size+1+1+1,7,none⟩ b).setCell ⟨w.heap.size+1+1+1,8,none⟩ c).cell? ⟨w.heap.size,33,none⟩=some (.bool (R 3 2).ng)∧(((W.setCell ⟨w.heap.size+1+1+1,6,none⟩ a).setCell ⟨w.heap.size+1+1+1,7,none⟩ b).setCell ⟨w.heap.size+1+1+1,8,none⟩ c).cell? ⟨w.heap.size,34,none⟩=some (.slice (R 3 2).ao (R 3 2).n (R 3 2).cap)∧(((W.setCell ⟨w.heap.size+1+1+1,6,none⟩ a).setCell ⟨w.heap.size+1+1+1,7,none⟩ b).setCell ⟨w.heap.size+1+1+1,8,none⟩ c).cell? ⟨w.heap.size,35,none⟩=some (.int .i64 (R 3 2).e)∧(((W.setCell ⟨w.heap.size+1+1+1,6,none⟩ a).setCell ⟨w.heap.size+1+1+1,7,none⟩ b).setCell ⟨w.heap.size+1+1+1,8,none⟩ c).cell? ⟨w.heap.size,0,none⟩=some (.bool (R 0 0).ng)∧(((W.setCell ⟨w.heap.size+1+1+1,6,none⟩ a).setCell ⟨w.heap.size+1+1+1,7,none⟩ b).setCell ⟨w.heap.size+1+1+1,8,none⟩ c).cell? ⟨w.heap.size,1,none⟩=some (.slice (R 0 0).ao (R 0 0).n (R 0 0).cap)∧(((W.setCell ⟨w.heap.size+1+1+1,6,none⟩ a).setCell ⟨w.heap.size+1+1+1,7,none⟩ b).setCell ⟨w.heap.size+1+1+1,8,none⟩ c).cell? ⟨w.heap.size,2,none⟩=some (.int .i64 (R 0 0).e)∧(((W.setCell ⟨w.heap.size+1+1+1,6,none⟩ a).setCell ⟨w.heap.size+1+1+1,7,none⟩ b).setCell ⟨w.heap.size+1+1+1,8,none⟩ c).cell? ⟨w.heap.size,3,none⟩=some (.bool (R 0 1).ng)∧(((W.setCell ⟨w.heap.size+1+1+1,6,none⟩ a).setCell ⟨w.heap.size+1+1+1,7,none⟩ b).setCell ⟨w.heap.size+1+1+1,8,none⟩ c).cell? ⟨w.heap.size,4,none⟩=some (.slice (R 0 1).ao (R 0 1).n (R 0 1).cap)∧(((W.setCell ⟨w.heap.size+1+1+1,6,none⟩ a).setCell ⟨w.heap.size+1+1+1,7,none⟩ b).setCell ⟨w.heap.size+1+1+1,8,none⟩ c).cell? ⟨w.heap.size,5,none⟩=some (.int .i64 (R 0 1).e)∧(((W.setCell ⟨w.heap.size+1+1+1,6,none⟩ a).setCell ⟨w.heap.size+1+1+1,7,none⟩ b).setCell ⟨w.heap.size+1+1+1,8,none⟩ c).cell? ⟨w.heap.size,6,none⟩=some (.bool (R 0 2).ng)∧(((W.setCell ⟨w.heap.size+1+1+1,6,none⟩ a).setCell ⟨w.heap.size+1+1+1,7,none⟩ b).setCell ⟨w.heap.size+1+1+1,8,none⟩ c).cell? ⟨w.heap.size,7,none⟩=some (.slice (R 0 2).ao (R 0 2).n (R 0 2).cap)∧(((W.setCell ⟨w.heap.size+1+1+1,6,none⟩ a).setCell ⟨w.heap.size+1+1+1,7,none⟩ b).setCell ⟨w.heap.size+1+1+1,8,none⟩ c).cell? ⟨w.heap.size,8,none⟩=some (.int .i64 (R 0 2).e)∧(((W.setCell ⟨w.heap.size+1+1+1,6,none⟩ a).setCell ⟨w.heap.size+1+1+1,7,none⟩ b).setCell ⟨w.heap.size+1+1+1,8,none⟩ c).cell? ⟨w.heap.size,9,none⟩=some (.bool (R 1 0).ng)∧(((W.setCell ⟨w.heap.size+1+1+1,6,none⟩ a).setCell ⟨w.heap.size+1+1+1,7,none⟩ b).setCell ⟨w.heap.size+1+1+1,8,none⟩ c).cell? ⟨w.heap.size,10,none⟩=some (.slice (R 1 0).ao (R 1 0).n (R 1 0).cap)∧(((W.setCell ⟨w.heap.size+1+1+1,6,none⟩ a).setCell ⟨w.heap.size+1+1+1,7,none⟩ b).setCell ⟨w.heap.size+1+1+1,8,none⟩ c).cell? ⟨w.heap.size,11,none⟩=some (.int .i64 (R 1 0).e)∧(((W.setCell ⟨w.heap.size+1+1+1,6,none⟩ a).setCell ⟨w.heap.size+1+1+1,7,none⟩ b).setCell ⟨w.heap.size+1+1+1,8,none⟩ c).cell? ⟨w.heap.size,12,none⟩=some (.bool (R 1 1).ng)∧(((W.setCell ⟨w.heap.size+1+1+1,6,none⟩ a).setCell ⟨w.heap.size+1+1+1,7,none⟩ b).setCell ⟨w.heap.size+1+1+1,8,none⟩ c).cell? ⟨w.heap.size,13,none⟩=some (.slice (R 1 1).ao (R 1 1).n (R 1 1).cap)∧(((W.setCell ⟨w.heap.size+1+1+1,6,none⟩ a).setCell ⟨w.heap.size+1+1+1,7,none⟩ b).setCell ⟨w.heap.size+1+1+1,8,none⟩ c).cell? ⟨w.heap.size,14,none⟩=some (.int .i64 (R 1 1).e)∧(((W.setCell ⟨w.heap.size+1+1+1,6,none⟩ a).setCell ⟨w.heap.size+1+1+1,7,none⟩ b).setCell ⟨w.heap.size+1+1+1,8,none⟩ c).cell? ⟨w.heap.size,15,none⟩=some (.bool (R 1 2).ng)∧(((W.setCell ⟨w.heap.size+1+1+1,6,none⟩ a).setCell ⟨w.heap.size+1+1+1,7,none⟩ b).setCell ⟨w.heap.size+1+1+1,8,none⟩ c).cell? ⟨w.heap.size,16,none⟩=some (.slice (R 1 2).ao (R 1 2).n (R 1 2).cap)∧(((W.setCell ⟨w.heap.size+1+1+1,6,none⟩ a).setCell ⟨w.heap.size+1+1+1,7,none⟩ b).setCell ⟨w.heap.size+1+1+1,8,none⟩ c).cell? ⟨w.heap.size,17,none⟩=some (.int .i64 (R 1 2).e):=fun W a b c hb=>⟨ay (KK W hb).1 6 7 8 a b c hneB',ay (KK W hb).2.1 6 7 8 a b c hneB',ay (KK W hb).2.2.1 6 7 8 a b c hneB',ay (KK W hb).2.2.2.1 6 7 8 a b c hneB',ay (KK W hb).2.2.2.2.1 6 7 8 a b c hneB',ay (KK W hb).2.2.2.2.2.1 6 7 8 a b c hneB',ay (KK W hb).2.2.2.2.2.2.1 6 7 8 a b c hneB',ay (KK W hb).2.2.2.2.2.2.2.1 6 7 8 a b c hneB',ay (KK W hb).2.2.2.2.2.2.2.2.1 6 7 8 a b c hneB',ay (KK W hb).2.2.2.2.2.2.2.2.2.1 6 7 8 a b c hneB',ay (KK W hb).2.2.2.2.2.2.2.2.2.2.1 6 7 8 a b c hneB',ay (KK W hb).2.2.2.2.2.2.2.2.2.2.2.1 6 7 8 a b c hneB',ay (KK W hb).2.2.2.2.2.2.2.2.2.2.2.2.1 6 7 8 a b c hneB',ay (KK W hb).2.2.2.2.2.2.2.2.2.2.2.2.2.1 6 7 8 a b c hneB',ay (KK W hb).2.2.2.2.2.2.2.2.2.2.2.2.2.2.1 6 7 8 a b c hneB',ay (KK W hb).2.2.2.2.2.2.2.2.2.2.2.2.2.2.2.1 6 7 8 a b c hneB',ay (KK W hb).2.2.2.2.2.2.2.2.2.2.2.2.2.2.2.2.1 6 7 8 a b c hneB',ay (KK W hb).2.2.2.2.2.2.2.2.2.2.2.2.2.2.2.2.2.1 6 7 8 a b c hneB',ay (KK W hb).2.2.2.2.2.2.2.2.2.2.2.2.2.2.2.2.2.2.1 6 7 8 a b c hneB',ay (KK W hb).2.2.2.2.2.2.2.2.2.2.2.2.2.2.2.2.2.2.2.1 6 7 8 a b c hneB',ay (KK W hb).2.2.2.2.2.2.2.2.2.2.2.2.2.2.2.2.2.2.2.2.1 6 7 8 a b c hneB',ay (KK W hb).2.2.2.2.2.2.2.2.2.2.2.2.2.2.2.2.2.2.2.2.2.1 6 7 8 a b c hneB',ay (KK W hb).2.2.2.2.2.2.2.2.2.2.2.2.2.2.2.2.2.2.2.2.2.2.1 6 7 8 a b c hneB',ay (KK W hb).2.2.2.2.2.2.2.2.2.2.2.2.2.2.2.2.2.2.2.2.2.2.2.1 6 7 8 a b c hneB',ay (KK W hb).2.2.2.2.2.2.2.2.2.2.2.2.2.2.2.2.2.2.2.2.2.2.2.2.1 6 7 8 a b c hneB',ay (KK W hb).2.2.2.2.2.2.2.2.2.2.2.2.2.2.2.2.2.2.2.2.2.2.2.2.2.1 6 7 8 a b c hneB',ay (KK W hb).2.2.2.2.2.2.2.2.2.2.2.2.2.2.2.2.2.2.2.2.2.2.2.2.2.2 6 7 8 a b c hneB'⟩
      have hC0:=(al x6).drew
      go_region_held3 (fun W=>W.cell? ⟨w.heap.size,27,none⟩=some (.bool (R 3 0).ng)∧W.cell? ⟨w.heap.size,28,none⟩=some (.slice (R 3 0).ao (R 3 0).n (R 3 0).cap)∧W.cell? ⟨w.heap.size,29,none⟩=some (.int .i64 (R 3 0).e)∧W.cell? ⟨w.heap.size,30,none⟩=some (.bool (R 3 1).ng)∧W.cell? ⟨w.heap.size,31,none⟩=some (.slice (R 3 1).ao (R 3 1).n (R 3 1).cap)∧W.cell? ⟨w.heap.size,32,none⟩=some (.int .i64 (R 3 1).e)∧W.cell? ⟨w.heap.size,33,none⟩=some (.bool (R 3 2).ng)∧W.cell? ⟨w.heap.size,34,none⟩=some (.slice (R 3 2).ao (R 3 2).n (R 3 2).cap)∧W.cell? ⟨w.heap.size,35,none⟩=some (.int .i64 (R 3 2).e)∧W.cell? ⟨w.heap.size,0,none⟩=some (.bool (R 0 0).ng)∧W.cell? ⟨w.heap.size,1,none⟩=some (.slice (R 0 0).ao (R 0 0).n (R 0 0).cap)∧W.cell? ⟨w.heap.size,2,none⟩=some (.int .i64 (R 0 0).e)∧W.cell? ⟨w.heap.size,3,none⟩=some (.bool (R 0 1).ng)∧W.cell? ⟨w.heap.size,4,none⟩=some (.slice (R 0 1).ao (R 0 1).n (R 0 1).cap)∧W.cell? ⟨w.heap.size,5,none⟩=some (.int .i64 (R 0 1).e)∧W.cell? ⟨w.heap.size,6,none⟩=some (.bool (R 0 2).ng)∧W.cell? ⟨w.heap.size,7,none⟩=some (.slice (R 0 2).ao (R 0 2).n (R 0 2).cap)∧W.cell? ⟨w.heap.size,8,none⟩=some (.int .i64 (R 0 2).e)∧W.cell? ⟨w.heap.size,9,none⟩=some (.bool (R 1 0).ng)∧W.cell? ⟨w.heap.size,10,none⟩=some (.slice (R 1 0).ao (R 1 0).n (R 1 0).cap)∧W.cell? ⟨w.heap.size,11,none⟩=some (.int .i64 (R 1 0).e)∧W.cell? ⟨w.heap.size,12,none⟩=some (.bool (R 1 1).ng)∧W.cell? ⟨w.heap.size,13,none⟩=some (.slice (R 1 1).ao (R 1 1).n (R 1 1).cap)∧W.cell? ⟨w.heap.size,14,none⟩=some (.int .i64 (R 1 1).e)∧W.cell? ⟨w.heap.size,15,none⟩=some (.bool (R 1 2).ng)∧W.cell? ⟨w.heap.size,16,none⟩=some (.slice (R 1 2).ao (R 1 2).n (R 1 2).cap)∧W.cell? ⟨w.heap.size,17,none⟩=some (.int .i64 (R 1 2).e))
        (with_reducible first|assumption|exact KK _ hC0|exact KK _ hC1|exact KN _ _ _ _ hC1|fail)
        (first|(go_at_call 69;refine(CD2.out _ (ac hbw hC0)).mono ?_;rintro _ y7 ⟨v,DD,rfl,hd,hDe,hDb⟩;obtain⟨t_g,t_o,t_n,t_c,t_e,rfl⟩:=aN hd;have hC1:=ac hC0 hd.below;have d2k:=ak hC1 d_k;have e0:=af d2k _ d0;have e1:=af d2k _ d1;have e2:=af d2k _ d2;have z0:=ar d2k 6;have z1:=ar d2k 7;have z2:=ar d2k 8))
      have tD:aM (((y7.setCell ⟨w.heap.size+1+1+1,6,none⟩ (.bool t_g)).setCell ⟨w.heap.size+1+1+1,7,none⟩ (.slice t_o t_n t_c)).setCell ⟨w.heap.size+1+1+1,8,none⟩ (.int .i64 t_e)) (.agg #[.bool t_g,.slice t_o t_n t_c,.int .i64 t_e]) DD:=(jm (hd.dan.lower (Nat.zero_le _)) d2k (by decide) 6 7 8 _ _ _).num
      have HD3:Hid (cm (((y7.setCell ⟨w.heap.size+1+1+1,6,none⟩ (.bool t_g)).setCell ⟨w.heap.size+1+1+1,7,none⟩ (.slice t_o t_n t_c)).setCell ⟨w.heap.size+1+1+1,8,none⟩ (.int .i64 t_e)) (((da.setIfInBounds 6 (.bool t_g)).setIfInBounds 7 (.slice t_o t_n t_c)).setIfInBounds 8 (.int .i64 t_e)) (fun j=>if j=2 then DD else Dv j) (2+1) (fun j=>if j=2 then ⟨t_g,t_o,t_n,t_c,fun _=>0,t_e⟩ else Yd j)):=(HD2.out.keeps hC1).put (i:=2) (m:=2) (X':=fun j=>if j=2 then DD else Dv j) (by decide) (fun j hj hne=>by
        by_cases c:j<2
        · rw[if_pos c,if_pos (by omega),if_neg hne]
        · rw [if_neg c,if_neg (by omega)]) d2k ⟨t_g,t_o,t_n,t_c,fun _=>0,t_e⟩ (by show bJ 0 y7 (if 2=2 then DD else Dv 2) _; rw [if_pos rfl]; exact hd.dan.lower (Nat.zero_le _))
      have HL3:Hid (cm (((y7.setCell ⟨w.heap.size+1+1+1,6,none⟩ (.bool t_g)).setCell ⟨w.heap.size+1+1+1,7,none⟩ (.slice t_o t_n t_c)).setCell ⟨w.heap.size+1+1+1,8,none⟩ (.int .i64 t_e)) la2 Lv2 (2+1) Yl2):=(HL2.out.keeps hC1).other d2k (by decide) 6 7 8 _ _ _
      have q0:(((da.setIfInBounds 6 (.bool t_g)).setIfInBounds 7 (.slice t_o t_n t_c)).setIfInBounds 8 (.int .i64 t_e))[6]?=some (.bool t_g):=(HD3.out.e 2 (by decide)).1
      have q1:(((da.setIfInBounds 6 (.bool t_g)).setIfInBounds 7 (.slice t_o t_n t_c)).setIfInBounds 8 (.int .i64 t_e))[7]?=some (.slice t_o t_n t_c):=(HD3.out.e 2 (by decide)).2.1
      have q2:(((da.setIfInBounds 6 (.bool t_g)).setIfInBounds 7 (.slice t_o t_n t_c)).setIfInBounds 8 (.int .i64 t_e))[8]?=some (.int .i64 t_e):=(HD3.out.e 2 (by decide)).2.2.1
      replace b_k:=az (az (az (ak hC1 b_k) hneB' 6 (.bool t_g)) hneB' 7 (.slice t_o t_n t_c)) hneB' 8 (.int .i64 t_e)
      replace r_k:=az (az (az (ak hC1 r_k) hneR' 6 (.bool t_g)) hneR' 7 (.slice t_o t_n t_c)) hneR' 8 (.int .i64 t_e)
      replace l_k:=az (az (az (ak hC1 l_k) hLD 6 (.bool t_g)) hLD 7 (.slice t_o t_n t_c)) hLD 8 (.int .i64 t_e)
      replace d_k:=aq (aq (aq d2k 6 (.bool t_g)) 7 (.slice t_o t_n t_c)) 8 (.int .i64 t_e)
      replace hbw:=((((ac hbw hC1)).setCell (p:=⟨w.heap.size+1+1+1,6,none⟩) hgeD (.bool t_g)).setCell (p:=⟨w.heap.size+1+1+1,7,none⟩) hgeD (.slice t_o t_n t_c)).setCell (p:=⟨w.heap.size+1+1+1,8,none⟩) hgeD (.int .i64 t_e)
      generalize (((da.setIfInBounds 6 (.bool t_g)).setIfInBounds 7 (.slice t_o t_n t_c)).setIfInBounds 8 (.int .i64 t_e))=da2 at HD3 d_k q0 q1 q2
      generalize (fun j=>if j=2 then (⟨t_g,t_o,t_n,t_c,fun _=>0,t_e⟩:aI) else Yd j)=Yd2 at HD3
      clear hd hC0 hC1 d2k e0 e1 e2 z0 z1 z2 d0 d1 d2 HL2 HD2 KK KN
      have e0:=af d_k _ q0
      have e1:=af d_k _ q1
      have e2:=af d_k _ q2
      go_wp2_with fail
      clear e0 e1 e2
      generalize (((y7.setCell ⟨w.heap.size+1+1+1,6,none⟩ (.bool t_g)).setCell ⟨w.heap.size+1+1+1,7,none⟩ (.slice t_o t_n t_c)).setCell ⟨w.heap.size+1+1+1,8,none⟩ (.int .i64 t_e))=x8 at tD HD3 HL3 b_k r_k l_k d_k hbw ⊢
      refine(CT.out _ _ _ _ _ _ DD tD hDb).mono ?_
      rintro _ y9 ⟨v9,rfl,h9⟩
      obtain⟨s_g,s_o,s_n,s_c,s_e,rfl⟩:=aN h9
      have hC9:=h9.below
      have d9:=ak hC9 d_k
      have e0:=af d9 _ q0
      have e1:=af d9 _ q1
      have e2:=af d9 _ q2
      have z0:=ar d9 6
      have z1:=ar d9 7
      have z2:=ar d9 8
      have HD4:Hid (cm (((y9.setCell ⟨w.heap.size+1+1+1,6,none⟩ (.bool s_g)).setCell ⟨w.heap.size+1+1+1,7,none⟩ (.slice s_o s_n s_c)).setCell ⟨w.heap.size+1+1+1,8,none⟩ (.int .i64 s_e)) (((da2.setIfInBounds 6 (.bool s_g)).setIfInBounds 7 (.slice s_o s_n s_c)).setIfInBounds 8 (.int .i64 s_e)) (fun j=>if j=2 then -DD else Dv j) (2+1) (fun j=>if j=2 then ⟨s_g,s_o,s_n,s_c,fun _=>0,s_e⟩ else Yd2 j)):=(HD3.out.keeps hC9).put (i:=2) (m:=2+1) (X':=fun j=>if j=2 then -DD else Dv j) (by decide) (fun j hj hne=>by
        show(if j<2+1 then (if j=2 then DD else Dv j) else 0)=(if j<2+1 then (if j=2 then -DD else Dv j) else 0)
        rw [if_neg hne,if_neg hne]) d9 ⟨s_g,s_o,s_n,s_c,fun _=>0,s_e⟩ (by show bJ 0 y9 (if 2=2 then -DD else Dv 2) _; rw [if_pos rfl]; exact h9.dan.lower (Nat.zero_le _))
      have HL4:Hid (cm (((y9.setCell ⟨w.heap.size+1+1+1,6,none⟩ (.bool s_g)).setCell ⟨w.heap.size+1+1+1,7,none⟩ (.slice s_o s_n s_c)).setCell ⟨w.heap.size+1+1+1,8,none⟩ (.int .i64 s_e)) la2 Lv2 (2+1) Yl2):=(HL3.out.keeps hC9).other d9 (by decide) 6 7 8 _ _ _
      have hDv2:Hid (∀ j,j<2+1->(fun j=>if j=2 then -DD else Dv j) j*2^4194304*2^4194304=eX V j∧Bd 4307 ((fun j=>if j=2 then -DD else Dv j) j)):=fun j hj=>by
        by_cases c:j=2
        · subst c
          show(if 2=2 then -DD else Dv 2)*2^4194304*2^4194304=-dX V 3 0 1∧Bd 4307 (if 2=2 then -DD else Dv 2)
          rw[if_pos rfl,Int.neg_mul,Int.neg_mul,hDe]
          exact⟨rfl,hDb.neg⟩
        · show(if j=2 then -DD else Dv j)*2^4194304*2^4194304=eX V j∧Bd 4307 (if j=2 then -DD else Dv j)
          rw[if_neg c]
          exact HDv.out j (by omega)
      replace b_k:=az (az (az (ak hC9 b_k) hneB' 6 (.bool s_g)) hneB' 7 (.slice s_o s_n s_c)) hneB' 8 (.int .i64 s_e)
      replace r_k:=az (az (az (ak hC9 r_k) hneR' 6 (.bool s_g)) hneR' 7 (.slice s_o s_n s_c)) hneR' 8 (.int .i64 s_e)
      replace l_k:=az (az (az (ak hC9 l_k) hLD 6 (.bool s_g)) hLD 7 (.slice s_o s_n s_c)) hLD 8 (.int .i64 s_e)
      replace d_k:=aq (aq (aq d9 6 (.bool s_g)) 7 (.slice s_o s_n s_c)) 8 (.int .i64 s_e)
      replace hbw:=((((ac hbw hC9)).setCell (p:=⟨w.heap.size+1+1+1,6,none⟩) hgeD (.bool s_g)).setCell (p:=⟨w.heap.size+1+1+1,7,none⟩) hgeD (.slice s_o s_n s_c)).setCell (p:=⟨w.heap.size+1+1+1,8,none⟩) hgeD (.int .i64 s_e)
      generalize (((da2.setIfInBounds 6 (.bool s_g)).setIfInBounds 7 (.slice s_o s_n s_c)).setIfInBounds 8 (.int .i64 s_e))=da3 at HD4 d_k
      generalize (fun j=>if j=2 then (⟨s_g,s_o,s_n,s_c,fun _=>0,s_e⟩:aI) else Yd2 j)=Yd3 at HD4
      generalize (fun j=>if j=2 then -DD else Dv j)=Dv2 at HD4 hDv2
      have HI':Hid (cm (((y9.setCell ⟨w.heap.size+1+1+1,6,none⟩ (.bool s_g)).setCell ⟨w.heap.size+1+1+1,7,none⟩ (.slice s_o s_n s_c)).setCell ⟨w.heap.size+1+1+1,8,none⟩ (.int .i64 s_e)) la2 Lv2 (2+1) Yl2∧cm (((y9.setCell ⟨w.heap.size+1+1+1,6,none⟩ (.bool s_g)).setCell ⟨w.heap.size+1+1+1,7,none⟩ (.slice s_o s_n s_c)).setCell ⟨w.heap.size+1+1+1,8,none⟩ (.int .i64 s_e)) da3 Dv2 (2+1) Yd3∧(∀ j,j<2+1->Lv2 j*2^4194304=lX V j∧Bd 4307 (Lv2 j))∧(∀ j,j<2+1->Dv2 j*2^4194304*2^4194304=eX V j∧Bd 4307 (Dv2 j))):=⟨HL4.out,HD4.out,hLv2.out,hDv2.out⟩
      clear q0 q1 q2 HL3 HD3 HL4 HD4 hLv2 hDv2 tD h9 hC9 d9
      go_wp2_with fail
      go_roundw
      case rel=>exact⟨b_k,r_k,hbw,.inr (.inr (.inr (.inl ⟨by go_num,la2,da3,Yl2,Yd3,Lv2,Dv2,HI',l_k,d_k⟩)))⟩
      case measure=>simp[intOf]
    · obtain⟨HL,HD,HLv,HDv⟩:=HI.out
      obtain⟨a0,a1,a2,-⟩:=HL.e 3 (by decide)
      obtain⟨d0,d1,d2,-⟩:=HD.e 3 (by decide)
      have HL:Hid (cm wr la Lv 3 Yl):=HL
      have HD:Hid (cm wr da Dv 3 Yd):=HD
      have HLv:Hid (∀ j,j<3->Lv j*2^4194304=lX V j∧Bd 4307 (Lv j)):=HLv
      have HDv:Hid (∀ j,j<3->Dv j*2^4194304*2^4194304=eX V j∧Bd 4307 (Dv j)):=HDv
      clear HI
      change la[9]?=_ at a0
      change la[10]?=_ at a1
      change la[11]?=_ at a2
      change da[9]?=_ at d0
      change da[10]?=_ at d1
      change da[11]?=_ at d2
      go_wp2_with fail
      refine(zt _).mono ?_
      rintro _ wz ⟨rfl,hwz⟩
      replace hwz:=hwz.symm
      subst hwz
      go_wp2_with fail
      have hC0:=(al wr).drew
      go_region_held3 (fun W=>True)
        (first|trivial|fail)
        (first|(go_at_call 89;refine(CL3.out _ (ac hbw hC0) (ak hC0 b_k)).mono ?_;rintro _ y5 ⟨v,DL,rfl,hd,hL,hLb⟩;obtain⟨n_g,n_o,n_n,n_c,n_e,rfl⟩:=aN hd;have hC1:=ac hC0 hd.below;have l2:=ak hC1 l_k;have e0:=af l2 _ a0;have e1:=af l2 _ a1;have e2:=af l2 _ a2;have z0:=ar l2 9;have z1:=ar l2 10;have z2:=ar l2 11))
      have hgeL:w.heap.size<=w.heap.size+1+1:=by omega
      have hgeD:w.heap.size<=w.heap.size+1+1+1:=by omega
      have HL2:Hid (cm (((y5.setCell ⟨w.heap.size+1+1,9,none⟩ (.bool n_g)).setCell ⟨w.heap.size+1+1,10,none⟩ (.slice n_o n_n n_c)).setCell ⟨w.heap.size+1+1,11,none⟩ (.int .i64 n_e)) (((la.setIfInBounds 9 (.bool n_g)).setIfInBounds 10 (.slice n_o n_n n_c)).setIfInBounds 11 (.int .i64 n_e)) (fun j=>if j=3 then DL else Lv j) (3+1) (fun j=>if j=3 then ⟨n_g,n_o,n_n,n_c,fun _=>0,n_e⟩ else Yl j)):=(HL.out.keeps hC1).put (i:=3) (m:=3) (X':=fun j=>if j=3 then DL else Lv j) (by decide) (fun j hj hne=>by
        by_cases c:j<3
        · rw[if_pos c,if_pos (by omega),if_neg hne]
        · rw [if_neg c,if_neg (by omega)]) l2 ⟨n_g,n_o,n_n,n_c,fun _=>0,n_e⟩ (by show bJ 0 y5 (if 3=3 then DL else Lv 3) _; rw [if_pos rfl]; exact hd.dan.lower (Nat.zero_le _))
      have HD2:Hid (cm (((y5.setCell ⟨w.heap.size+1+1,9,none⟩ (.bool n_g)).setCell ⟨w.heap.size+1+1,10,none⟩ (.slice n_o n_n n_c)).setCell ⟨w.heap.size+1+1,11,none⟩ (.int .i64 n_e)) da Dv 3 Yd):=(HD.out.keeps hC1).other l2 (by decide) 9 10 11 _ _ _
      have hLv2:Hid (∀ j,j<3+1->(fun j=>if j=3 then DL else Lv j) j*2^4194304=lX V j∧Bd 4307 ((fun j=>if j=3 then DL else Lv j) j)):=fun j hj=>by
        by_cases c:j=3
        · subst c
          show(if 3=3 then DL else Lv 3)*2^4194304=lX V 3∧Bd 4307 (if 3=3 then DL else Lv 3)
          rw[if_pos rfl]
          exact⟨hL,hLb.up (by decide) (by decide)⟩
        · show(if j=3 then DL else Lv j)*2^4194304=lX V j∧Bd 4307 (if j=3 then DL else Lv j)
          rw[if_neg c]
          exact HLv.out j (by omega)
      generalize (fun j=>if j=3 then DL else Lv j)=Lv2 at HL2 hLv2
      generalize (fun j=>if j=3 then (⟨n_g,n_o,n_n,n_c,fun _=>0,n_e⟩:aI) else Yl j)=Yl2 at HL2
      replace b_k:=az (az (az (ak hC1 b_k) hneB 9 (.bool n_g)) hneB 10 (.slice n_o n_n n_c)) hneB 11 (.int .i64 n_e)
      replace r_k:=az (az (az (ak hC1 r_k) hneR 9 (.bool n_g)) hneR 10 (.slice n_o n_n n_c)) hneR 11 (.int .i64 n_e)
      replace d_k:=az (az (az (ak hC1 d_k) hDL 9 (.bool n_g)) hDL 10 (.slice n_o n_n n_c)) hDL 11 (.int .i64 n_e)
      replace l_k:=aq (aq (aq l2 9 (.bool n_g)) 10 (.slice n_o n_n n_c)) 11 (.int .i64 n_e)
      replace hbw:=((((ac hbw hC1)).setCell (p:=⟨w.heap.size+1+1,9,none⟩) hgeL (.bool n_g)).setCell (p:=⟨w.heap.size+1+1,10,none⟩) hgeL (.slice n_o n_n n_c)).setCell (p:=⟨w.heap.size+1+1,11,none⟩) hgeL (.int .i64 n_e)
      generalize (((la.setIfInBounds 9 (.bool n_g)).setIfInBounds 10 (.slice n_o n_n n_c)).setIfInBounds 11 (.int .i64 n_e))=la2 at HL2 l_k
      clear hd hC0 hC1 l2 e0 e1 e2 z0 z1 z2 a0 a1 a2 HL HD HLv
      go_wp2_with fail
      generalize (((y5.setCell ⟨w.heap.size+1+1,9,none⟩ (.bool n_g)).setCell ⟨w.heap.size+1+1,10,none⟩ (.slice n_o n_n n_c)).setCell ⟨w.heap.size+1+1,11,none⟩ (.int .i64 n_e))=x6 at HL2 HD2 b_k r_k d_k l_k hbw ⊢
      have KK:∀ W,Below x6.heap.size x6 W->W.cell? ⟨w.heap.size,0,none⟩=some (.bool (R 0 0).ng)∧W.cell? ⟨w.heap.size,1,none⟩=some (.slice (R 0 0).ao (R 0 0).n (R 0 0).cap)∧W.cell? ⟨w.heap.size,2,none⟩=some (.int .i64 (R 0 0).e)∧W.cell? ⟨w.heap.size,3,none⟩=some (.bool (R 0 1).ng)∧W.cell? ⟨w.heap.size,4,none⟩=some (.slice (R 0 1).ao (R 0 1).n (R 0 1).cap)∧W.cell? ⟨w.heap.size,5,none⟩=some (.int .i64 (R 0 1).e)∧W.cell? ⟨w.heap.size,6,none⟩=some (.bool (R 0 2).ng)∧W.cell? ⟨w.heap.size,7,none⟩=some (.slice (R 0 2).ao (R 0 2).n (R 0 2).cap)∧W.cell? ⟨w.heap.size,8,none⟩=some (.int .i64 (R 0 2).e)∧W.cell? ⟨w.heap.size,9,none⟩=some (.bool (R 1 0).ng)∧W.cell? ⟨w.heap.size,10,none⟩=some (.slice (R 1 0).ao (R 1 0).n (R 1 0).cap)∧W.cell? ⟨w.heap.size,11,none⟩=some (.int .i64 (R 1 0).e)∧W.cell? ⟨w.heap.size,12,none⟩=some (.bool (R 1 1).ng)∧W.cell? ⟨w.heap.size,13,none⟩=some (.slice (R 1 1).ao (R 1 1).n (R 1 1).cap)∧W.cell? ⟨w.heap.size,14,none⟩=some (.int .i64 (R 1 1).e)∧W.cell? ⟨w.heap.size,15,none⟩=some (.bool (R 1 2).ng)∧W.cell? ⟨w.heap.size,16,none⟩=some (.slice (R 1 2).ao (R 1 2).n (R 1 2).cap)∧W.cell? ⟨w.heap.size,17,none⟩=some (.int .i64 (R 1 2).e)∧W.cell? ⟨w.heap.size,18,none⟩=some (.bool (R 2 0).ng)∧W.cell? ⟨w.heap.size,19,none⟩=some (.slice (R 2 0).ao (R 2 0).n (R 2 0).cap)∧W.cell? ⟨w.heap.size,20,none⟩=some (.int .i64 (R 2 0).e)∧W.cell? ⟨w.heap.size,21,none⟩=some (.bool (R 2 1).ng)∧W.cell? ⟨w.heap.size,22,none⟩=some (.slice (R 2 1).ao (R 2 1).n (R 2 1).cap)∧W.cell? ⟨w.heap.size,23,none⟩=some (.int .i64 (R 2 1).e)∧W.cell? ⟨w.heap.size,24,none⟩=some (.bool (R 2 2).ng)∧W.cell? ⟨w.heap.size,25,none⟩=some (.slice (R 2 2).ao (R 2 2).n (R 2 2).cap)∧W.cell? ⟨w.heap.size,26,none⟩=some (.int .i64 (R 2 2).e):=fun W hb=>⟨aj (af b_k 0 (hA.e 0 (by decide) 0 (by decide)).1) hb,aj (af b_k 1 (hA.e 0 (by decide) 0 (by decide)).2.1) hb,aj (af b_k 2 (hA.e 0 (by decide) 0 (by decide)).2.2.1) hb,aj (af b_k 3 (hA.e 0 (by decide) 1 (by decide)).1) hb,aj (af b_k 4 (hA.e 0 (by decide) 1 (by decide)).2.1) hb,aj (af b_k 5 (hA.e 0 (by decide) 1 (by decide)).2.2.1) hb,aj (af b_k 6 (hA.e 0 (by decide) 2 (by decide)).1) hb,aj (af b_k 7 (hA.e 0 (by decide) 2 (by decide)).2.1) hb,aj (af b_k 8 (hA.e 0 (by decide) 2 (by decide)).2.2.1) hb,aj (af b_k 9 (hA.e 1 (by decide) 0 (by decide)).1) hb,aj (af b_k 10 (hA.e 1 (by decide) 0 (by decide)).2.1) hb,aj (af b_k 11 (hA.e 1 (by decide) 0 (by decide)).2.2.1) hb,aj (af b_k 12 (hA.e 1 (by decide) 1 (by decide)).1) hb,aj (af b_k 13 (hA.e 1 (by decide) 1 (by decide)).2.1) hb,aj (af b_k 14 (hA.e 1 (by decide) 1 (by decide)).2.2.1) hb,aj (af b_k 15 (hA.e 1 (by decide) 2 (by decide)).1) hb,aj (af b_k 16 (hA.e 1 (by decide) 2 (by decide)).2.1) hb,aj (af b_k 17 (hA.e 1 (by decide) 2 (by decide)).2.2.1) hb,aj (af b_k 18 (hA.e 2 (by decide) 0 (by decide)).1) hb,aj (af b_k 19 (hA.e 2 (by decide) 0 (by decide)).2.1) hb,aj (af b_k 20 (hA.e 2 (by decide) 0 (by decide)).2.2.1) hb,aj (af b_k 21 (hA.e 2 (by decide) 1 (by decide)).1) hb,aj (af b_k 22 (hA.e 2 (by decide) 1 (by decide)).2.1) hb,aj (af b_k 23 (hA.e 2 (by decide) 1 (by decide)).2.2.1) hb,aj (af b_k 24 (hA.e 2 (by decide) 2 (by decide)).1) hb,aj (af b_k 25 (hA.e 2 (by decide) 2 (by decide)).2.1) hb,aj (af b_k 26 (hA.e 2 (by decide) 2 (by decide)).2.2.1) hb⟩
      have KN:∀ W a b c,Below x6.heap.size x6 W->(((W.setCell ⟨w.heap.size+1+1+1,9,none⟩ a).setCell ⟨w.heap.size+1+1+1,10,none⟩ b).setCell ⟨w.heap.size+1+1+1,11,none⟩ c).cell? ⟨w.heap.size,0,none⟩=some (.bool (R 0 0).ng)∧(((W.setCell ⟨w.heap.size+1+1+1,9,none⟩ a).setCell ⟨w.heap.size+1+1+1,10,none⟩ b).setCell ⟨w.heap.size+1+1+1,11,none⟩ c).cell? ⟨w.heap.size,1,none⟩=some (.slice (R 0 0).ao (R 0 0).n (R 0 0).cap)∧(((W.setCell ⟨w.heap.size+1+1+1,9,none⟩ a).setCell ⟨w.heap.size+1+1+1,10,none⟩ b).setCell ⟨w.heap.size+1+1+1,11,none⟩ c).cell? ⟨w.heap.size,2,none⟩=some (.int .i64 (R 0 0).e)∧(((W.setCell ⟨w.heap.size+1+1+1,9,none⟩ a).setCell ⟨w.heap.size+1+1+1,10,none⟩ b).setCell ⟨w.heap.size+1+1+1,11,none⟩ c).cell? ⟨w.heap.size,3,none⟩=some (.bool (R 0 1).ng)∧(((W.setCell ⟨w.heap.size+1+1+1,9,none⟩ a).setCell ⟨w.heap.size+1+1+1,10,none⟩ b).setCell ⟨w.heap.size+1+1+1,11,none⟩ c).cell? ⟨w.heap.size,4,none⟩=some (.slice (R 0 1).ao (R 0 1).n (R 0 1).cap)∧(((W.setCell ⟨w.heap.size+1+1+1,9,none⟩ a).setCell ⟨w.heap.size+1+1+1,10,none⟩ b).setCell ⟨w.heap.size+1+1+1,11,none⟩ c).cell? ⟨w.heap.size,5,none⟩=some (.int .i64 (R 0 1).e)∧(((W.setCell ⟨w.heap.size+1+1+1,9,none⟩ a).setCell ⟨w.heap.size+1+1+1,10,none⟩ b).setCell ⟨w.heap.size+1+1+1,11,none⟩ c).cell? ⟨w.heap.size,6,none⟩=some (.bool (R 0 2).ng)∧(((W.setCell ⟨w.heap.size+1+1+1,9,none⟩ a).setCell ⟨w.heap.size+1+1+1,10,none⟩ b).setCell ⟨w.heap.size+1+1+1,11,none⟩ c).cell? ⟨w.heap.size,7,none⟩=some (.slice (R 0 2).ao (R 0 2).n (R 0 2).cap)∧(((W.setCell ⟨w.heap.size+1+1+1,9,none⟩ a).setCell ⟨w.heap.size+1+1+1,10,none⟩ b).setCell ⟨w.heap.size+1+1+1,11,none⟩ c).cell? ⟨w.heap.size,8,none⟩=some (.int .i64 (R 0 2).e)∧(((W.setCell ⟨w.heap.size+1+1+1,9,none⟩ a).setCell ⟨w.heap.size+1+1+1,10,none⟩ b).setCell ⟨w.heap.size+1+1+1,11,none⟩ c).cell? ⟨w.heap.size,9,none⟩=some (.bool (R 1 0).ng)∧(((W.setCell ⟨w.heap.size+1+1+1,9,none⟩ a).setCell ⟨w.heap.size+1+1+1,10,none⟩ b).setCell ⟨w.heap.size+1+1+1,11,none⟩ c).cell? ⟨w.heap.size,10,none⟩=some (.slice (R 1 0).ao (R 1 0).n (R 1 0).cap)∧(((W.setCell ⟨w.heap.size+1+1+1,9,none⟩ a).setCell ⟨w.heap.size+1+1+1,10,none⟩ b).setCell ⟨w.heap.size+1+1+1,11,none⟩ c).cell? ⟨w.heap.size,11,none⟩=some (.int .i64 (R 1 0).e)∧(((W.setCell ⟨w.heap.size+1+1+1,9,none⟩ a).setCell ⟨w.heap.size+1+1+1,10,none⟩ b).setCell ⟨w.heap.size+1+1+1,11,none⟩ c).cell? ⟨w.heap.size,12,none⟩=some (.bool (R 1 1).ng)∧(((W.setCell ⟨w.heap.size+1+1+1,9,none⟩ a).setCell ⟨w.heap.size+1+1+1,10,none⟩ b).setCell ⟨w.heap.size+1+1+1,11,none⟩ c).cell? ⟨w.heap.size,13,none⟩=some (.slice (R 1 1).ao (R 1 1).n (R 1 1).cap)∧(((W.setCell ⟨w.heap.size+1+1+1,9,none⟩ a).setCell ⟨w.heap.size+1+1+1,10,none⟩ b).setCell ⟨w.heap.size+1+1+1,11,none⟩ c).cell? ⟨w.heap.size,14,none⟩=some (.int .i64 (R 1 1).e)∧(((W.setCell ⟨w.heap.size+1+1+1,9,none⟩ a).setCell ⟨w.heap.size+1+1+1,10,none⟩ b).setCell ⟨w.heap.size+1+1+1,11,none⟩ c).cell? ⟨w.heap.size,15,none⟩=some (.bool (R 1 2).ng)∧(((W.setCell ⟨w.heap.size+1+1+1,9,none⟩ a).setCell ⟨w.heap.size+1+1+1,10,none⟩ b).setCell ⟨w.heap.size+1+1+1,11,none⟩ c).cell? ⟨w.heap.size,16,none⟩=some (.slice (R 1 2).ao (R 1 2).n (R 1 2).cap)∧(((W.setCell ⟨w.heap.size+1+1+1,9,none⟩ a).setCell ⟨w.heap.size+1+1+1,10,none⟩ b).setCell ⟨w.heap.size+1+1+1,11,none⟩ c).cell? ⟨w.heap.size,17,none⟩=some (.int .i64 (R 1 2).e)∧(((W.setCell ⟨w.heap.size+1+1+1,9,none⟩ a).setCell ⟨w.heap.size+1+1+1,10,none⟩ b).setCell ⟨w.heap.size+1+1+1,11,none⟩ c).cell? ⟨w.heap.size,18,none⟩=some (.bool (R 2 0).ng)∧(((W.setCell ⟨w.heap.size+1+1+1,9,none⟩ a).setCell ⟨w.heap.size+1+1+1,10,none⟩ b).setCell ⟨w.heap.size+1+1+1,11,none⟩ c).cell? ⟨w.heap.size,19,none⟩=some (.slice (R 2 0).ao (R 2 0).n (R 2 0).cap)∧(((W.setCell ⟨w.heap.size+1+1+1,9,none⟩ a).setCell ⟨w.heap.size+1+1+1,10,none⟩ b).setCell ⟨w.heap.size+1+1+1,11,none⟩ c).cell? ⟨w.heap.size,20,none⟩=some (.int .i64 (R 2 0).e)∧(((W.setCell ⟨w.heap.size+1+1+1,9,none⟩ a).setCell ⟨w.heap.size+1+1+1,10,none⟩ b).setCell ⟨w.heap.size+1+1+1,11,none⟩ c).cell? ⟨w.heap.size,21,none⟩=some (.bool (R 2 1).ng)∧(((W.setCell ⟨w.heap.size+1+1+1,9,none⟩ a).setCell ⟨w.heap.size+1+1+1,10,none⟩ b).setCell ⟨w.heap.size+1+1+1,11,none⟩ c).cell? ⟨w.heap.size,22,none⟩=some (.slice (R 2 1).ao (R 2 1).n (R 2 1).cap)∧(((W.setCell ⟨w.heap.size+1+1+1,9,none⟩ a).setCell ⟨w.heap.size+1+1+1,10,none⟩ b).setCell ⟨w.heap.size+1+1+1,11,none⟩ c).cell? ⟨w.heap.size,23,none⟩=some (.int .i64 (R 2 1).e)∧(((W.setCell ⟨w.heap.size+1+1+1,9,none⟩ a).setCell ⟨w.heap.size+1+1+1,10,none⟩ b).setCell ⟨w.heap.size+1+1+1,11,none⟩ c).cell? ⟨w.heap.size,24,none⟩=some (.bool (R 2 2).ng)∧(((W.setCell ⟨w.heap.size+1+1+1,9,none⟩ a).setCell ⟨w.heap.size+1+1+1,10,none⟩ b).setCell ⟨w.heap.size+1+1+1,11,none⟩ c).cell? ⟨w.heap.size,25,none⟩=some (.slice (R 2 2).ao (R 2 2).n (R 2 2).cap)∧(((W.setCell ⟨w.heap.size+1+1+1,9,none⟩ a).setCell ⟨w.heap.size+1+1+1,10,none⟩ b).setCell ⟨w.heap.size+1+1+1,11,none⟩ c).cell? ⟨w.heap.size,26,none⟩=some (.int .i64 (R 2 2).e):=fun W a b c hb=>⟨ay (KK W hb).1 9 10 11 a b c hneB',ay (KK W hb).2.1 9 10 11 a b c hneB',ay (KK W hb).2.2.1 9 10 11 a b c hneB',ay (KK W hb).2.2.2.1 9 10 11 a b c hneB',ay (KK W hb).2.2.2.2.1 9 10 11 a b c hneB',ay (KK W hb).2.2.2.2.2.1 9 10 11 a b c hneB',ay (KK W hb).2.2.2.2.2.2.1 9 10 11 a b c hneB',ay (KK W hb).2.2.2.2.2.2.2.1 9 10 11 a b c hneB',ay (KK W hb).2.2.2.2.2.2.2.2.1 9 10 11 a b c hneB',ay (KK W hb).2.2.2.2.2.2.2.2.2.1 9 10 11 a b c hneB',ay (KK W hb).2.2.2.2.2.2.2.2.2.2.1 9 10 11 a b c hneB',ay (KK W hb).2.2.2.2.2.2.2.2.2.2.2.1 9 10 11 a b c hneB',ay (KK W hb).2.2.2.2.2.2.2.2.2.2.2.2.1 9 10 11 a b c hneB',ay (KK W hb).2.2.2.2.2.2.2.2.2.2.2.2.2.1 9 10 11 a b c hneB',ay (KK W hb).2.2.2.2.2.2.2.2.2.2.2.2.2.2.1 9 10 11 a b c hneB',ay (KK W hb).2.2.2.2.2.2.2.2.2.2.2.2.2.2.2.1 9 10 11 a b c hneB',ay (KK W hb).2.2.2.2.2.2.2.2.2.2.2.2.2.2.2.2.1 9 10 11 a b c hneB',ay (KK W hb).2.2.2.2.2.2.2.2.2.2.2.2.2.2.2.2.2.1 9 10 11 a b c hneB',ay (KK W hb).2.2.2.2.2.2.2.2.2.2.2.2.2.2.2.2.2.2.1 9 10 11 a b c hneB',ay (KK W hb).2.2.2.2.2.2.2.2.2.2.2.2.2.2.2.2.2.2.2.1 9 10 11 a b c hneB',ay (KK W hb).2.2.2.2.2.2.2.2.2.2.2.2.2.2.2.2.2.2.2.2.1 9 10 11 a b c hneB',ay (KK W hb).2.2.2.2.2.2.2.2.2.2.2.2.2.2.2.2.2.2.2.2.2.1 9 10 11 a b c hneB',ay (KK W hb).2.2.2.2.2.2.2.2.2.2.2.2.2.2.2.2.2.2.2.2.2.2.1 9 10 11 a b c hneB',ay (KK W hb).2.2.2.2.2.2.2.2.2.2.2.2.2.2.2.2.2.2.2.2.2.2.2.1 9 10 11 a b c hneB',ay (KK W hb).2.2.2.2.2.2.2.2.2.2.2.2.2.2.2.2.2.2.2.2.2.2.2.2.1 9 10 11 a b c hneB',ay (KK W hb).2.2.2.2.2.2.2.2.2.2.2.2.2.2.2.2.2.2.2.2.2.2.2.2.2.1 9 10 11 a b c hneB',ay (KK W hb).2.2.2.2.2.2.2.2.2.2.2.2.2.2.2.2.2.2.2.2.2.2.2.2.2.2 9 10 11 a b c hneB'⟩
      have hC0:=(al x6).drew
      go_region_held3 (fun W=>W.cell? ⟨w.heap.size,0,none⟩=some (.bool (R 0 0).ng)∧W.cell? ⟨w.heap.size,1,none⟩=some (.slice (R 0 0).ao (R 0 0).n (R 0 0).cap)∧W.cell? ⟨w.heap.size,2,none⟩=some (.int .i64 (R 0 0).e)∧W.cell? ⟨w.heap.size,3,none⟩=some (.bool (R 0 1).ng)∧W.cell? ⟨w.heap.size,4,none⟩=some (.slice (R 0 1).ao (R 0 1).n (R 0 1).cap)∧W.cell? ⟨w.heap.size,5,none⟩=some (.int .i64 (R 0 1).e)∧W.cell? ⟨w.heap.size,6,none⟩=some (.bool (R 0 2).ng)∧W.cell? ⟨w.heap.size,7,none⟩=some (.slice (R 0 2).ao (R 0 2).n (R 0 2).cap)∧W.cell? ⟨w.heap.size,8,none⟩=some (.int .i64 (R 0 2).e)∧W.cell? ⟨w.heap.size,9,none⟩=some (.bool (R 1 0).ng)∧W.cell? ⟨w.heap.size,10,none⟩=some (.slice (R 1 0).ao (R 1 0).n (R 1 0).cap)∧W.cell? ⟨w.heap.size,11,none⟩=some (.int .i64 (R 1 0).e)∧W.cell? ⟨w.heap.size,12,none⟩=some (.bool (R 1 1).ng)∧W.cell? ⟨w.heap.size,13,none⟩=some (.slice (R 1 1).ao (R 1 1).n (R 1 1).cap)∧W.cell? ⟨w.heap.size,14,none⟩=some (.int .i64 (R 1 1).e)∧W.cell? ⟨w.heap.size,15,none⟩=some (.bool (R 1 2).ng)∧W.cell? ⟨w.heap.size,16,none⟩=some (.slice (R 1 2).ao (R 1 2).n (R 1 2).cap)∧W.cell? ⟨w.heap.size,17,none⟩=some (.int .i64 (R 1 2).e)∧W.cell? ⟨w.heap.size,18,none⟩=some (.bool (R 2 0).ng)∧W.cell? ⟨w.heap.size,19,none⟩=some (.slice (R 2 0).ao (R 2 0).n (R 2 0).cap)∧W.cell? ⟨w.heap.size,20,none⟩=some (.int .i64 (R 2 0).e)∧W.cell? ⟨w.heap.size,21,none⟩=some (.bool (R 2 1).ng)∧W.cell? ⟨w.heap.size,22,none⟩=some (.slice (R 2 1).ao (R 2 1).n (R 2 1).cap)∧W.cell? ⟨w.heap.size,23,none⟩=some (.int .i64 (R 2 1).e)∧W.cell? ⟨w.heap.size,24,none⟩=some (.bool (R 2 2).ng)∧W.cell? ⟨w.heap.size,25,none⟩=some (.slice (R 2 2).ao (R 2 2).n (R 2 2).cap)∧W.cell? ⟨w.heap.size,26,none⟩=some (.int .i64 (R 2 2).e))
        (with_reducible first|assumption|exact KK _ hC0|exact KK _ hC1|exact KN _ _ _ _ hC1|fail)
        (first|(go_at_call 69;refine(CD3.out _ (ac hbw hC0)).mono ?_;rintro _ y7 ⟨v,DD,rfl,hd,hDe,hDb⟩;obtain⟨t_g,t_o,t_n,t_c,t_e,rfl⟩:=aN hd;have hC1:=ac hC0 hd.below;have d2k:=ak hC1 d_k;have e0:=af d2k _ d0;have e1:=af d2k _ d1;have e2:=af d2k _ d2;have z0:=ar d2k 9;have z1:=ar d2k 10;have z2:=ar d2k 11))
      have tD:aM (((y7.setCell ⟨w.heap.size+1+1+1,9,none⟩ (.bool t_g)).setCell ⟨w.heap.size+1+1+1,10,none⟩ (.slice t_o t_n t_c)).setCell ⟨w.heap.size+1+1+1,11,none⟩ (.int .i64 t_e)) (.agg #[.bool t_g,.slice t_o t_n t_c,.int .i64 t_e]) DD:=(jm (hd.dan.lower (Nat.zero_le _)) d2k (by decide) 9 10 11 _ _ _).num
      have HD3:Hid (cm (((y7.setCell ⟨w.heap.size+1+1+1,9,none⟩ (.bool t_g)).setCell ⟨w.heap.size+1+1+1,10,none⟩ (.slice t_o t_n t_c)).setCell ⟨w.heap.size+1+1+1,11,none⟩ (.int .i64 t_e)) (((da.setIfInBounds 9 (.bool t_g)).setIfInBounds 10 (.slice t_o t_n t_c)).setIfInBounds 11 (.int .i64 t_e)) (fun j=>if j=3 then DD else Dv j) (3+1) (fun j=>if j=3 then ⟨t_g,t_o,t_n,t_c,fun _=>0,t_e⟩ else Yd j)):=(HD2.out.keeps hC1).put (i:=3) (m:=3) (X':=fun j=>if j=3 then DD else Dv j) (by decide) (fun j hj hne=>by
        by_cases c:j<3
        · rw[if_pos c,if_pos (by omega),if_neg hne]
        · rw [if_neg c,if_neg (by omega)]) d2k ⟨t_g,t_o,t_n,t_c,fun _=>0,t_e⟩ (by show bJ 0 y7 (if 3=3 then DD else Dv 3) _; rw [if_pos rfl]; exact hd.dan.lower (Nat.zero_le _))
      have HL3:Hid (cm (((y7.setCell ⟨w.heap.size+1+1+1,9,none⟩ (.bool t_g)).setCell ⟨w.heap.size+1+1+1,10,none⟩ (.slice t_o t_n t_c)).setCell ⟨w.heap.size+1+1+1,11,none⟩ (.int .i64 t_e)) la2 Lv2 (3+1) Yl2):=(HL2.out.keeps hC1).other d2k (by decide) 9 10 11 _ _ _
      have q0:(((da.setIfInBounds 9 (.bool t_g)).setIfInBounds 10 (.slice t_o t_n t_c)).setIfInBounds 11 (.int .i64 t_e))[9]?=some (.bool t_g):=(HD3.out.e 3 (by decide)).1
      have q1:(((da.setIfInBounds 9 (.bool t_g)).setIfInBounds 10 (.slice t_o t_n t_c)).setIfInBounds 11 (.int .i64 t_e))[10]?=some (.slice t_o t_n t_c):=(HD3.out.e 3 (by decide)).2.1
      have q2:(((da.setIfInBounds 9 (.bool t_g)).setIfInBounds 10 (.slice t_o t_n t_c)).setIfInBounds 11 (.int .i64 t_e))[11]?=some (.int .i64 t_e):=(HD3.out.e 3 (by decide)).2.2.1
      replace b_k:=az (az (az (ak hC1 b_k) hneB' 9 (.bool t_g)) hneB' 10 (.slice t_o t_n t_c)) hneB' 11 (.int .i64 t_e)
      replace r_k:=az (az (az (ak hC1 r_k) hneR' 9 (.bool t_g)) hneR' 10 (.slice t_o t_n t_c)) hneR' 11 (.int .i64 t_e)
      replace l_k:=az (az (az (ak hC1 l_k) hLD 9 (.bool t_g)) hLD 10 (.slice t_o t_n t_c)) hLD 11 (.int .i64 t_e)
      replace d_k:=aq (aq (aq d2k 9 (.bool t_g)) 10 (.slice t_o t_n t_c)) 11 (.int .i64 t_e)
      replace hbw:=((((ac hbw hC1)).setCell (p:=⟨w.heap.size+1+1+1,9,none⟩) hgeD (.bool t_g)).setCell (p:=⟨w.heap.size+1+1+1,10,none⟩) hgeD (.slice t_o t_n t_c)).setCell (p:=⟨w.heap.size+1+1+1,11,none⟩) hgeD (.int .i64 t_e)
      generalize (((da.setIfInBounds 9 (.bool t_g)).setIfInBounds 10 (.slice t_o t_n t_c)).setIfInBounds 11 (.int .i64 t_e))=da2 at HD3 d_k q0 q1 q2
      generalize (fun j=>if j=3 then (⟨t_g,t_o,t_n,t_c,fun _=>0,t_e⟩:aI) else Yd j)=Yd2 at HD3
      clear hd hC0 hC1 d2k e0 e1 e2 z0 z1 z2 d0 d1 d2 HL2 HD2 KK KN
      have hDv2:Hid (∀ j,j<3+1->(fun j=>if j=3 then DD else Dv j) j*2^4194304*2^4194304=eX V j∧Bd 4307 ((fun j=>if j=3 then DD else Dv j) j)):=fun j hj=>by
        by_cases c:j=3
        · subst c
          show(if 3=3 then DD else Dv 3)*2^4194304*2^4194304=dX V 0 1 2∧Bd 4307 (if 3=3 then DD else Dv 3)
          rw[if_pos rfl]
          exact⟨hDe,hDb⟩
        · show(if j=3 then DD else Dv j)*2^4194304*2^4194304=eX V j∧Bd 4307 (if j=3 then DD else Dv j)
          rw[if_neg c]
          exact HDv.out j (by omega)
      generalize (fun j=>if j=3 then DD else Dv j)=Dv2 at HD3 hDv2
      have HI':Hid (cm (((y7.setCell ⟨w.heap.size+1+1+1,9,none⟩ (.bool t_g)).setCell ⟨w.heap.size+1+1+1,10,none⟩ (.slice t_o t_n t_c)).setCell ⟨w.heap.size+1+1+1,11,none⟩ (.int .i64 t_e)) la2 Lv2 (3+1) Yl2∧cm (((y7.setCell ⟨w.heap.size+1+1+1,9,none⟩ (.bool t_g)).setCell ⟨w.heap.size+1+1+1,10,none⟩ (.slice t_o t_n t_c)).setCell ⟨w.heap.size+1+1+1,11,none⟩ (.int .i64 t_e)) da2 Dv2 (3+1) Yd2∧(∀ j,j<3+1->Lv2 j*2^4194304=lX V j∧Bd 4307 (Lv2 j))∧(∀ j,j<3+1->Dv2 j*2^4194304*2^4194304=eX V j∧Bd 4307 (Dv2 j))):=⟨HL3.out,HD3.out,hLv2.out,hDv2.out⟩
      clear q0 q1 q2 HL3 HD3 hLv2 hDv2 tD
      go_wp2_with fail
      go_roundw
      case rel=>exact⟨b_k,r_k,hbw,.inr (.inr (.inr (.inr (⟨by go_num,la2,da2,Yl2,Yd2,Lv2,Dv2,HI',l_k,d_k⟩))))⟩
      case measure=>simp[intOf]
    · obtain⟨HL,HD,HLv,HDv⟩:=HI.out
      have CF:Hid (∀ W,Below wr.heap.size wr W->Calls prog 89 #[.slice (some ⟨w.heap.size+1+1,0,none⟩) 4 4,.slice (some ⟨w.heap.size+1+1+1,0,none⟩) 4 4] W fun r w'=>∃ v D,r=.returned v∧aW W w' D v∧D*2^4194304*(2^4194304*2^4194304*2^4194304)=sX V∧cY D):=fun W hW=>by
        refine(gk (w:=W) (b:=w.heap.size+1+1) (off:=0) (b':=w.heap.size+1+1+1) (off':=0) (n:=4) (c:=4) (c':=4) (K:=4307) (V:=Lv) (W:=Dv) (fun i hi=>⟨(HL.keeps hW).numC (ak hW l_k) hi,(HLv i hi).2⟩) (fun i hi=>⟨(HD.keeps hW).numC (ak hW d_k) hi,(HDv i hi).2⟩) (by decide) (by decide) (by decide) (by decide) (by decide) (by decide) (HT.out.keeps (ac hbw hW))).mono ?_
        rintro _ w' ⟨v,D,rfl,hd,he,hb⟩
        exact⟨v,D,rfl,hd,AD (HLv 0 (by decide)).1 (HLv 1 (by decide)).1 (HLv 2 (by decide)).1 (HLv 3 (by decide)).1 (HDv 0 (by decide)).1 (HDv 1 (by decide)).1 (HDv 2 (by decide)).1 (HDv 3 (by decide)).1 he,hb.ok (by decide)⟩
      clear HL HD HLv HDv HI
      have hC0:=(al wr).drew
      go_wp2_with fail
      go_region_held3 (fun W=>True)
        (first|trivial|fail)
        (first|(go_at_call 89;refine(CF.out _ hC0).mono ?_;rintro _ y5 ⟨v,F,rfl,hd,hF,hok⟩;obtain⟨n_g,n_o,n_n,n_c,n_e,rfl⟩:=aN hd;have hC1:=ac hC0 hd.below;have r2:=ak hC1 r_k;have e0:=af r2 0 rfl;have e1:=af r2 1 rfl;have e2:=af r2 2 rfl;have z0:=ar r2 0;have z1:=ar r2 1;have z2:=ar r2 2))
      go_wp2
      have hsz:=(aGe r_k).1
      refine bodyPost_ret (v:=.agg #[.bool n_g,.slice n_o n_n n_c,.int .i64 n_e]) (by simp[results,results60,go_sem,e0,e1,e2]) rfl ⟨_,F,rfl,?_,hF,hok⟩
      exact bG (g:=w.heap.size+1) hd (ac hbw hC0) (by omega) hsz _ _ _
end Go.Proofs.YtcklaogdjpbagaaGreatDoor
