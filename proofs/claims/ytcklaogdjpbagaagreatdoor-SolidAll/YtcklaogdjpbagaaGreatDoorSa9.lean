/-
  Package solid's legs, by exact numbers: legsOf, by its contract.
-/
import Derived.Test.YtcklaogdjpbagaaGreatDoorSa8
import Derived.Test.YtcklaogdjpbagaaGreatDoorSa7
set_option maxRecDepth 100000
set_option maxHeartbeats 8000000
set_option linter.unusedVariables false
set_option linter.unusedSimpArgs false
namespace Go.Proofs.YtcklaogdjpbagaaGreatDoor
open Go Go.Proofs.Tryz Go.RowKit Go.Proofs.YtcklaogdjpbagaaGreatDoor.M
theorem cw {B:Nat} {w:World} {V:Int} {v:Value} (h:bJ B w V v) {g:Nat} {xs:Array Value} {t:TypeId} {z:Nat × Nat} (hg:w.heap[g]?=some (.cells xs t z)) (ht:t≠3) (o:Nat) (u:Value):bJ B (w.setCell ⟨g,o,none⟩ u) V v :=
 h.of_blocks fun k cur z' hk=>by
  have hne:k≠g:=fun e=>by
   subst e
   rw[hg] at hk
   simp only[Option.some.injEq,Obj.cells.injEq] at hk
   exact ht hk.2.1
  exact((Wr.refl g w).setCell o u).block k (aGe hk).1 hne
theorem ay {W:World} {p:Addr} {v:Value} (h:W.cell? p=some v) {g:Nat} (o0 o1 o2:Nat) (x y z:Value) (hg:p.block≠g):(((W.setCell ⟨g,o0,none⟩ x).setCell ⟨g,o1,none⟩ y).setCell ⟨g,o2,none⟩ z).cell? p=some v :=
 ((pk W g o0 o1 o2 x y z).cell (World.block_lt_of_cell? W _ h) hg).trans h
structure gC (W:World) (arr:Array Value) (V:Nat->Nat->Int) (I J:Nat) (R:Nat->Nat->aI):Prop where
 n:arr.size=36
 o:arr.all (·.oneCell')=true
 e:∀ p,p<4->∀ k,k<3->arr[p*9+k*3]?=some (.bool (R p k).ng)∧arr[p*9+k*3+1]?=some (.slice (R p k).ao (R p k).n (R p k).cap)∧arr[p*9+k*3+2]?=some (.int .i64 (R p k).e)∧bJ 0 W (if p<I∨(p=I∧k<J) then V p k else 0) (R p k).v
theorem gC.keeps {W W':World} {arr:Array Value} {V:Nat->Nat->Int} {I J:Nat} {R:Nat->Nat->aI} (h:gC W arr V I J R) (hb:Below W.heap.size W W'):gC W' arr V I J R :=
 ⟨h.n,h.o,fun p hp k hk=>by obtain⟨a,b,c,d⟩:=h.e p hp k hk;exact⟨a,b,c,d.keeps hb⟩⟩
theorem gC.step {W:World} {arr:Array Value} {V:Nat->Nat->Int} {i j:Nat} {R:Nat->Nat->aI} (h:gC W arr V i j R) (i4:i<4) (j3:j<3) {g:Nat} {z:Nat × Nat} (hg:W.heap[g]?=some (.cells arr 88 z)) (x:aI) (hx:bJ 0 W (V i j) x.v) :
  gC (((W.setCell ⟨g,i*9+j*3,none⟩ (.bool x.ng)).setCell ⟨g,i*9+j*3+1,none⟩ (.slice x.ao x.n x.cap)).setCell ⟨g,i*9+j*3+2,none⟩ (.int .i64 x.e)) (((arr.setIfInBounds (i*9+j*3) (.bool x.ng)).setIfInBounds (i*9+j*3+1) (.slice x.ao x.n x.cap)).setIfInBounds (i*9+j*3+2) (.int .i64 x.e)) V i (j+1) (fun p k=>if p=i∧k=j then x else R p k):=by
 have hn:=h.n
 have gg:∀ q,(((arr.setIfInBounds (i*9+j*3) (.bool x.ng)).setIfInBounds (i*9+j*3+1) (.slice x.ao x.n x.cap)).setIfInBounds (i*9+j*3+2) (.int .i64 x.e))[q]?=if i*9+j*3+2=q then some (.int .i64 x.e) else if i*9+j*3+1=q then some (.slice x.ao x.n x.cap) else if i*9+j*3=q then some (.bool x.ng) else arr[q]?:=fun q=>by
  rw[eT _ _ _ _ (by simp only[Array.size_setIfInBounds];omega),eT _ _ _ _ (by simp only[Array.size_setIfInBounds];omega),eT _ _ _ _ (by omega)]
 have kp:∀ {v:Value} {U:Int},bJ 0 W U v->bJ 0 (((W.setCell ⟨g,i*9+j*3,none⟩ (.bool x.ng)).setCell ⟨g,i*9+j*3+1,none⟩ (.slice x.ao x.n x.cap)).setCell ⟨g,i*9+j*3+2,none⟩ (.int .i64 x.e)) U v:=fun hd=>
  hd.of_blocks fun k cur z' hk=>by
   have hne:k≠g:=fun e=>by
    subst e
    rw[hg] at hk
    simp only[Option.some.injEq,Obj.cells.injEq] at hk
    exact absurd hk.2.1 (by decide)
   exact(pk W g _ _ _ _ _ _).block k (aGe hk).1 hne
 refine⟨by simp only[Array.size_setIfInBounds];exact hn,ia (ia (ia h.o _ rfl) _ rfl) _ rfl,fun p hp k hk=>?_⟩
 by_cases e:p=i∧k=j
 ·obtain⟨rfl,rfl⟩:=e
  refine⟨?_,?_,?_,?_⟩
  ·rw[gg,if_neg (by omega),if_neg (by omega),if_pos rfl,if_pos ⟨rfl,rfl⟩]
  ·rw[gg,if_neg (by omega),if_pos rfl,if_pos ⟨rfl,rfl⟩]
  ·rw[gg,if_pos rfl,if_pos ⟨rfl,rfl⟩]
  ·rw[if_pos (.inr ⟨rfl,by omega⟩),if_pos ⟨rfl,rfl⟩]
   exact kp hx
 ·obtain⟨a,b,c,d⟩:=h.e p hp k hk
  refine⟨?_,?_,?_,?_⟩
  ·rw[gg,if_neg (by omega),if_neg (by omega),if_neg (by omega),if_neg e];exact a
  ·rw[gg,if_neg (by omega),if_neg (by omega),if_neg (by omega),if_neg e];exact b
  ·rw[gg,if_neg (by omega),if_neg (by omega),if_neg (by omega),if_neg e];exact c
  ·rw[if_neg e]
   have d2:=kp d
   by_cases q:p<i∨(p=i∧k<j)
   ·rw[if_pos q] at d2;rw[if_pos (by omega)];exact d2
   ·rw[if_neg q] at d2;rw[if_neg (by omega)];exact d2
theorem gC.roll {W:World} {arr:Array Value} {V:Nat->Nat->Int} {i:Nat} {R:Nat->Nat->aI} (h:gC W arr V i 3 R):gC W arr V (i+1) 0 R:=by
 refine⟨h.n,h.o,fun p hp k hk=>?_⟩
 obtain⟨a,b,c,d⟩:=h.e p hp k hk
 refine⟨a,b,c,?_⟩
 by_cases q:p<i∨(p=i∧k<3)
 ·rw[if_pos q] at d;rw[if_pos (by omega)];exact d
 ·rw[if_neg q] at d;rw[if_neg (by omega)];exact d
def vL (s:Nat->Nat->Int) (m p k:Nat):Int:=if p<m then am (s p k)-am (s m k) else 0
structure fY (W:World) (arr:Array Value) (V:Nat->Nat->Int) (R:Nat->Nat->aI):Prop where
 n:arr.size=36
 o:arr.all (·.oneCell')=true
 e:∀ p,p<4->∀ k,k<3->arr[p*9+k*3]?=some (.bool (R p k).ng)∧arr[p*9+k*3+1]?=some (.slice (R p k).ao (R p k).n (R p k).cap)∧arr[p*9+k*3+2]?=some (.int .i64 (R p k).e)∧bJ 0 W (V p k) (R p k).v
theorem gC.all {W:World} {arr:Array Value} {s:Nat->Nat->Int} {m:Nat} {R:Nat->Nat->aI} (h:gC W arr (fun p k=>am (s p k)-am (s m k)) m 0 R):fY W arr (vL s m) R:=by
 refine⟨h.n,h.o,fun p hp k hk=>?_⟩
 obtain⟨a,b,c,d⟩:=h.e p hp k hk
 refine⟨a,b,c,?_⟩
 unfold vL
 by_cases q:p<m
 ·rw[if_pos (.inl q)] at d;rw[if_pos q];exact d
 ·rw[if_neg (by omega)] at d;rw[if_neg q];exact d
theorem cJ (w:World):bJ 0 w 0 (.agg #[.bool false,.slice none 0 0,.int .i64 0]):=((aW.zero (al w)).dan).lower (Nat.zero_le _)
theorem fY.keeps {W W':World} {arr:Array Value} {V:Nat->Nat->Int} {R:Nat->Nat->aI} (h:fY W arr V R) (hb:Below W.heap.size W W'):fY W' arr V R :=
 ⟨h.n,h.o,fun p hp k hk=>by obtain⟨a,b,c,d⟩:=h.e p hp k hk;exact⟨a,b,c,d.keeps hb⟩⟩
theorem fY.row {W:World} {arr:Array Value} {V:Nat->Nat->Int} {R:Nat->Nat->aI} (h:fY W arr V R) {g:Nat} {xs cs:Array Value} {z:Nat × Nat} (hg:W.heap[g]?=some (.cells xs 88 z)):fY (W.setRow g cs) arr V R :=
  ⟨h.n,h.o,fun p hp k hk=>by
    obtain⟨a,b,c,d⟩:=h.e p hp k hk
    exact ⟨a,b,c,d.of_blocks fun k cur z' hk=>setRow_other _ _ _ _ (fun e=>by
      subst e
      rw[hg] at hk
      simp only[Option.some.injEq,Obj.cells.injEq] at hk
      exact absurd hk.2.1 (by decide))⟩⟩
theorem iM (ao:Option Addr) (n m cap:Nat) (s:Nat->Nat->Int) (w:World) (h:eJ w ao n cap s) (hn:n=m+1) (m4:m<=4) (hz:∀ i,i<=m->∀ k,k<3->aF (s i k)=true) (H:bR w) :
    Calls prog 45 #[.slice ao n cap,.func (.func 46) #[] #[]] w fun e w'=>∃ arr R,e=.returned (.agg arr)∧fY w' arr (vL s m) R∧Below w.heap.size w w':=by
  have hl:=h.le
  have hm:=h.max
  have en:(n:Int)-1=m:=by omega
  have CN:Hid (∀ i k W,i<=m->k<3->Below w.heap.size w W->Calls prog 46 #[.int .i64 (s i k),.int .i64 (s m k)] W fun r w'=>∃ v,r=.returned v∧aW W w' (am (s i k)-am (s m k)) v):=fun i k W hi hk hW=>uC (hz i hi k hk) (hz m (Nat.le_refl _) k hk) W (H.keeps hW)
  clear hz H
  obtain⟨b,off,rfl,hb,hc⟩:=h.spot (by omega)
  have l0:=(hc m (by omega)).1
  have l1:=(hc m (by omega)).2.1
  have l2:=(hc m (by omega)).2.2
  have hn':(m:Int)<n:=by omega
  have hb0:=aL w (.cells #[.bool false,.slice none 0 0,.int .i64 0,.bool false,.slice none 0 0,.int .i64 0,.bool false,.slice none 0 0,.int .i64 0,.bool false,.slice none 0 0,.int .i64 0,.bool false,.slice none 0 0,.int .i64 0,.bool false,.slice none 0 0,.int .i64 0,.bool false,.slice none 0 0,.int .i64 0,.bool false,.slice none 0 0,.int .i64 0,.bool false,.slice none 0 0,.int .i64 0,.bool false,.slice none 0 0,.int .i64 0,.bool false,.slice none 0 0,.int .i64 0,.bool false,.slice none 0 0,.int .i64 0] 88) (.cells #[.bool false,.slice none 0 0,.int .i64 0,.bool false,.slice none 0 0,.int .i64 0,.bool false,.slice none 0 0,.int .i64 0,.bool false,.slice none 0 0,.int .i64 0,.bool false,.slice none 0 0,.int .i64 0,.bool false,.slice none 0 0,.int .i64 0,.bool false,.slice none 0 0,.int .i64 0,.bool false,.slice none 0 0,.int .i64 0,.bool false,.slice none 0 0,.int .i64 0,.bool false,.slice none 0 0,.int .i64 0,.bool false,.slice none 0 0,.int .i64 0,.bool false,.slice none 0 0,.int .i64 0] 88)
  have r_k:=bO w (.cells #[.bool false,.slice none 0 0,.int .i64 0,.bool false,.slice none 0 0,.int .i64 0,.bool false,.slice none 0 0,.int .i64 0,.bool false,.slice none 0 0,.int .i64 0,.bool false,.slice none 0 0,.int .i64 0,.bool false,.slice none 0 0,.int .i64 0,.bool false,.slice none 0 0,.int .i64 0,.bool false,.slice none 0 0,.int .i64 0,.bool false,.slice none 0 0,.int .i64 0,.bool false,.slice none 0 0,.int .i64 0,.bool false,.slice none 0 0,.int .i64 0,.bool false,.slice none 0 0,.int .i64 0] 88) (.cells #[.bool false,.slice none 0 0,.int .i64 0,.bool false,.slice none 0 0,.int .i64 0,.bool false,.slice none 0 0,.int .i64 0,.bool false,.slice none 0 0,.int .i64 0,.bool false,.slice none 0 0,.int .i64 0,.bool false,.slice none 0 0,.int .i64 0,.bool false,.slice none 0 0,.int .i64 0,.bool false,.slice none 0 0,.int .i64 0,.bool false,.slice none 0 0,.int .i64 0,.bool false,.slice none 0 0,.int .i64 0,.bool false,.slice none 0 0,.int .i64 0,.bool false,.slice none 0 0,.int .i64 0] 88)
  have l_k:=bH w (.cells #[.bool false,.slice none 0 0,.int .i64 0,.bool false,.slice none 0 0,.int .i64 0,.bool false,.slice none 0 0,.int .i64 0,.bool false,.slice none 0 0,.int .i64 0,.bool false,.slice none 0 0,.int .i64 0,.bool false,.slice none 0 0,.int .i64 0,.bool false,.slice none 0 0,.int .i64 0,.bool false,.slice none 0 0,.int .i64 0,.bool false,.slice none 0 0,.int .i64 0,.bool false,.slice none 0 0,.int .i64 0,.bool false,.slice none 0 0,.int .i64 0,.bool false,.slice none 0 0,.int .i64 0] 88) (.cells #[.bool false,.slice none 0 0,.int .i64 0,.bool false,.slice none 0 0,.int .i64 0,.bool false,.slice none 0 0,.int .i64 0,.bool false,.slice none 0 0,.int .i64 0,.bool false,.slice none 0 0,.int .i64 0,.bool false,.slice none 0 0,.int .i64 0,.bool false,.slice none 0 0,.int .i64 0,.bool false,.slice none 0 0,.int .i64 0,.bool false,.slice none 0 0,.int .i64 0,.bool false,.slice none 0 0,.int .i64 0,.bool false,.slice none 0 0,.int .i64 0,.bool false,.slice none 0 0,.int .i64 0] 88)
  have HN0:∀ W,gC W #[.bool false,.slice none 0 0,.int .i64 0,.bool false,.slice none 0 0,.int .i64 0,.bool false,.slice none 0 0,.int .i64 0,.bool false,.slice none 0 0,.int .i64 0,.bool false,.slice none 0 0,.int .i64 0,.bool false,.slice none 0 0,.int .i64 0,.bool false,.slice none 0 0,.int .i64 0,.bool false,.slice none 0 0,.int .i64 0,.bool false,.slice none 0 0,.int .i64 0,.bool false,.slice none 0 0,.int .i64 0,.bool false,.slice none 0 0,.int .i64 0,.bool false,.slice none 0 0,.int .i64 0] (fun p k=>am (s p k)-am (s m k)) 0 0 (fun _ _=>⟨false,none,0,0,fun _=>0,0⟩):=fun W=>⟨rfl,by kernel_rfl,fun p hp k hk=>by
    rw[if_neg (by omega)]
    match p,hp,k,hk with
    | 0,_,0,_=>exact⟨rfl,rfl,rfl,cJ _⟩
    | 0,_,1,_=>exact⟨rfl,rfl,rfl,cJ _⟩
    | 0,_,2,_=>exact⟨rfl,rfl,rfl,cJ _⟩
    | 1,_,0,_=>exact⟨rfl,rfl,rfl,cJ _⟩
    | 1,_,1,_=>exact⟨rfl,rfl,rfl,cJ _⟩
    | 1,_,2,_=>exact⟨rfl,rfl,rfl,cJ _⟩
    | 2,_,0,_=>exact⟨rfl,rfl,rfl,cJ _⟩
    | 2,_,1,_=>exact⟨rfl,rfl,rfl,cJ _⟩
    | 2,_,2,_=>exact⟨rfl,rfl,rfl,cJ _⟩
    | 3,_,0,_=>exact⟨rfl,rfl,rfl,cJ _⟩
    | 3,_,1,_=>exact⟨rfl,rfl,rfl,cJ _⟩
    | 3,_,2,_=>exact ⟨rfl,rfl,rfl,cJ _⟩⟩
  go_enter func45,ntmps45
  replace l0:=aX l0 hb0
  replace l1:=aX l1 hb0
  replace l2:=aX l2 hb0
  go_wp2_with fail
  clear l0 l1 l2
  generalize (w.alloc (.cells #[.bool false,.slice none 0 0,.int .i64 0,.bool false,.slice none 0 0,.int .i64 0,.bool false,.slice none 0 0,.int .i64 0,.bool false,.slice none 0 0,.int .i64 0,.bool false,.slice none 0 0,.int .i64 0,.bool false,.slice none 0 0,.int .i64 0,.bool false,.slice none 0 0,.int .i64 0,.bool false,.slice none 0 0,.int .i64 0,.bool false,.slice none 0 0,.int .i64 0,.bool false,.slice none 0 0,.int .i64 0,.bool false,.slice none 0 0,.int .i64 0,.bool false,.slice none 0 0,.int .i64 0] 88)).alloc (.cells #[.bool false,.slice none 0 0,.int .i64 0,.bool false,.slice none 0 0,.int .i64 0,.bool false,.slice none 0 0,.int .i64 0,.bool false,.slice none 0 0,.int .i64 0,.bool false,.slice none 0 0,.int .i64 0,.bool false,.slice none 0 0,.int .i64 0,.bool false,.slice none 0 0,.int .i64 0,.bool false,.slice none 0 0,.int .i64 0,.bool false,.slice none 0 0,.int .i64 0,.bool false,.slice none 0 0,.int .i64 0,.bool false,.slice none 0 0,.int .i64 0,.bool false,.slice none 0 0,.int .i64 0] 88)=x0 at hb0 r_k l_k ⊢
  have hsz:w.heap.size+1<x0.heap.size:=(aGe l_k).1
  refine(gN _ _ _ _).mono ?_
  rintro _ y1 ⟨rfl,hw1⟩
  have hsz1:w.heap.size+1<y1.heap.size:=Nat.lt_of_lt_of_le hsz hw1.size
  replace r_k:=ap (.cells #[.int .i64 (s m 0),.int .i64 (s m 1),.int .i64 (s m 2)] 69) (ak hw1 r_k)
  replace l_k:=ap (.cells #[.int .i64 (s m 0),.int .i64 (s m 1),.int .i64 (s m 2)] 69) (ak hw1 l_k)
  have f_k:=aA y1 (.cells #[.int .i64 (s m 0),.int .i64 (s m 1),.int .i64 (s m 2)] 69)
  replace hb0:=ac (ac hb0 hw1) (ah y1 (.cells #[.int .i64 (s m 0),.int .i64 (s m 1),.int .i64 (s m 2)] 69))
  clear hw1 hsz
  go_wp2_with fail
  generalize y1.alloc (.cells #[.int .i64 (s m 0),.int .i64 (s m 1),.int .i64 (s m 2)] 69)=x2 at hb0 r_k l_k f_k ⊢
  generalize y1.heap.size=fr at *
  have HN:Hid (gC x2 #[.bool false,.slice none 0 0,.int .i64 0,.bool false,.slice none 0 0,.int .i64 0,.bool false,.slice none 0 0,.int .i64 0,.bool false,.slice none 0 0,.int .i64 0,.bool false,.slice none 0 0,.int .i64 0,.bool false,.slice none 0 0,.int .i64 0,.bool false,.slice none 0 0,.int .i64 0,.bool false,.slice none 0 0,.int .i64 0,.bool false,.slice none 0 0,.int .i64 0,.bool false,.slice none 0 0,.int .i64 0,.bool false,.slice none 0 0,.int .i64 0,.bool false,.slice none 0 0,.int .i64 0] (fun p k=>am (s p k)-am (s m k)) 0 0 (fun _ _=>⟨false,none,0,0,fun _=>0,0⟩)):=HN0 x2
  clear HN0
  generalize (#[.bool false,.slice none 0 0,.int .i64 0,.bool false,.slice none 0 0,.int .i64 0,.bool false,.slice none 0 0,.int .i64 0,.bool false,.slice none 0 0,.int .i64 0,.bool false,.slice none 0 0,.int .i64 0,.bool false,.slice none 0 0,.int .i64 0,.bool false,.slice none 0 0,.int .i64 0,.bool false,.slice none 0 0,.int .i64 0,.bool false,.slice none 0 0,.int .i64 0,.bool false,.slice none 0 0,.int .i64 0,.bool false,.slice none 0 0,.int .i64 0,.bool false,.slice none 0 0,.int .i64 0]:Array Value)=z36 at HN l_k
  go_loopw [20] (fun i wr=>∃ p:Nat,p<=m∧i=.int .i64 p∧∃ arr R,Hid (gC wr arr (fun p k=>am (s p k)-am (s m k)) p 0 R)∧wr.heap[w.heap.size+1]?=some (.cells arr 88 (0,0))∧wr.heap[w.heap.size]?=some (.cells #[.bool false,.slice none 0 0,.int .i64 0,.bool false,.slice none 0 0,.int .i64 0,.bool false,.slice none 0 0,.int .i64 0,.bool false,.slice none 0 0,.int .i64 0,.bool false,.slice none 0 0,.int .i64 0,.bool false,.slice none 0 0,.int .i64 0,.bool false,.slice none 0 0,.int .i64 0,.bool false,.slice none 0 0,.int .i64 0,.bool false,.slice none 0 0,.int .i64 0,.bool false,.slice none 0 0,.int .i64 0,.bool false,.slice none 0 0,.int .i64 0,.bool false,.slice none 0 0,.int .i64 0] 88 (0,0))∧wr.heap[fr]?=some (.cells #[.int .i64 (s m 0),.int .i64 (s m 1),.int .i64 (s m 2)] 69 (0,0))∧Below w.heap.size w wr) (fun i _=>m-(intOf i).toNat)
  case atStart=>exact⟨0,by omega,rfl,z36,_,HN,l_k,r_k,f_k,hb0⟩
  case round=>
    clear l_k r_k f_k hb0 HN
    obtain⟨p,hp,rfl,arr,R,HN,l_k,r_k,f_k,hbw⟩:=hrel
    by_cases pm:p<m
    · have c0:=(hbw.cell (p:=⟨b,off+p*3,none⟩) hb).trans (hc p (by omega)).1
      have c1:=(hbw.cell (p:=⟨b,off+p*3+1,none⟩) hb).trans (hc p (by omega)).2.1
      have c2:=(hbw.cell (p:=⟨b,off+p*3+2,none⟩) hb).trans (hc p (by omega)).2.2
      have pm':(p:Int)<m:=by omega
      have pn':(p:Int)<n:=by omega
      have C0:Hid (∀ W,Below w.heap.size w W->Calls prog 46 #[.int .i64 (s p 0),.int .i64 (s m 0)] W fun r w'=>∃ v,r=.returned v∧aW W w' (am (s p 0)-am (s m 0)) v):=fun W hW=>CN.out p 0 W hp (by decide) hW
      have C1:Hid (∀ W,Below w.heap.size w W->Calls prog 46 #[.int .i64 (s p 1),.int .i64 (s m 1)] W fun r w'=>∃ v,r=.returned v∧aW W w' (am (s p 1)-am (s m 1)) v):=fun W hW=>CN.out p 1 W hp (by decide) hW
      have C2:Hid (∀ W,Below w.heap.size w W->Calls prog 46 #[.int .i64 (s p 2),.int .i64 (s m 2)] W fun r w'=>∃ v,r=.returned v∧aW W w' (am (s p 2)-am (s m 2)) v):=fun W hW=>CN.out p 2 W hp (by decide) hW
      have p4:Hid (p<4):=by exact(show p<4 by omega)
      have p4':(p:Int)<4:=by omega
      go_wp2_with fail
      clear c0 c1 c2
      refine(gN _ _ _ _).mono ?_
      rintro _ y3 ⟨rfl,hw3⟩
      replace r_k:=ak hw3 r_k
      replace l_k:=ak hw3 l_k
      replace f_k:=ak hw3 f_k
      have HN3:=HN.out.keeps hw3
      clear HN
      have HN:Hid (gC y3 arr (fun p k=>am (s p k)-am (s m k)) p 0 R):=HN3
      clear HN3
      replace hbw:=ac hbw hw3
      clear hw3
      go_wp2_with fail
      go_loopw [28] (fun i wr=>∃ j:Nat,j<=3∧i=.int .i64 j∧∃ arr R,Hid (gC wr arr (fun p k=>am (s p k)-am (s m k)) p j R)∧wr.heap[w.heap.size+1]?=some (.cells arr 88 (0,0))∧wr.heap[w.heap.size]?=some (.cells #[.bool false,.slice none 0 0,.int .i64 0,.bool false,.slice none 0 0,.int .i64 0,.bool false,.slice none 0 0,.int .i64 0,.bool false,.slice none 0 0,.int .i64 0,.bool false,.slice none 0 0,.int .i64 0,.bool false,.slice none 0 0,.int .i64 0,.bool false,.slice none 0 0,.int .i64 0,.bool false,.slice none 0 0,.int .i64 0,.bool false,.slice none 0 0,.int .i64 0,.bool false,.slice none 0 0,.int .i64 0,.bool false,.slice none 0 0,.int .i64 0,.bool false,.slice none 0 0,.int .i64 0] 88 (0,0))∧wr.heap[fr]?=some (.cells #[.int .i64 (s m 0),.int .i64 (s m 1),.int .i64 (s m 2)] 69 (0,0))∧Below w.heap.size w wr) (fun i _=>3-(intOf i).toNat)
      case atStart=>exact⟨0,by omega,rfl,arr,R,HN,l_k,r_k,f_k,hbw⟩
      case round=>
        clear l_k r_k f_k hbw HN
        obtain⟨j,hj,rfl,arr,R,HN,l_k,r_k,f_k,hbw⟩:=hrel
        have j4:j=0∨j=1∨j=2∨j=3:=by omega
        rcases j4 with rfl|rfl|rfl|rfl
        · obtain⟨a0,a1,a2,aD⟩:=HN.out.e p p4.out 0 (by decide)
          have i0:∀ w,(Instr.index 69 (.agg #[.int .i64 (s p 0),.int .i64 (s p 1),.int .i64 (s p 2)]) (.int .i64 0)).run prog w=.ok (.int .i64 (s p 0)) w:=fun _=>by kernel_rfl
          change arr[p*9]?=_ at a0
          change arr[p*9+1]?=_ at a1
          change arr[p*9+2]?=_ at a2
          clear aD
          go_wp2_with fail
          have KK:∀ W,Below wr.heap.size wr W->W.cell? ⟨fr,0,none⟩=some (.int .i64 (s m 0)):=fun W hb=>aj (af f_k 0 rfl) hb
          have hC0:=(al wr).drew
          have hne:fr≠w.heap.size+1:=by omega
          go_region_held3 (fun W=>W.cell? ⟨fr,0,none⟩=some (.int .i64 (s m 0)))
            (with_reducible first|assumption|exact KK _ hC0|exact KK _ hC1|exact ay (KK _ hC1) _ _ _ _ _ _ hne|fail)
            (first|(go_at_call 46;refine(C0.out _ (ac hbw hC0)).mono ?_;rintro _ y5 ⟨v,rfl,hd⟩;obtain⟨n_g,n_o,n_n,n_c,n_e,rfl⟩:=aN hd;have hC1:=ac hC0 hd.below;have l_k2:=ak hC1 l_k;have e0:=af l_k2 _ a0;have e1:=af l_k2 _ a1;have e2:=af l_k2 _ a2;have z0:=ar l_k2 (p*9);have z1:=ar l_k2 (p*9+1);have z2:=ar l_k2 (p*9+2)))
          replace f_k:=az (az (az (ak hC1 f_k) hne (p*9) (.bool n_g)) hne (p*9+1) (.slice n_o n_n n_c)) hne (p*9+2) (.int .i64 n_e)
          have hne2:w.heap.size≠w.heap.size+1:=by omega
          replace r_k:=az (az (az (ak hC1 r_k) hne2 (p*9) (.bool n_g)) hne2 (p*9+1) (.slice n_o n_n n_c)) hne2 (p*9+2) (.int .i64 n_e)
          have HN':Hid (gC (((y5.setCell ⟨w.heap.size+1,p*9,none⟩ (.bool n_g)).setCell ⟨w.heap.size+1,p*9+1,none⟩ (.slice n_o n_n n_c)).setCell ⟨w.heap.size+1,p*9+2,none⟩ (.int .i64 n_e)) (((arr.setIfInBounds (p*9) (.bool n_g)).setIfInBounds (p*9+1) (.slice n_o n_n n_c)).setIfInBounds (p*9+2) (.int .i64 n_e)) (fun p k=>am (s p k)-am (s m k)) p (0+1) (fun p' k=>if p'=p∧k=0 then ⟨n_g,n_o,n_n,n_c,fun _=>0,n_e⟩ else R p' k)):=(HN.out.keeps hC1).step p4.out (by decide) l_k2 ⟨n_g,n_o,n_n,n_c,fun _=>0,n_e⟩ (hd.dan.lower (Nat.zero_le _))
          replace l_k:=aq (aq (aq l_k2 (p*9) (.bool n_g)) (p*9+1) (.slice n_o n_n n_c)) (p*9+2) (.int .i64 n_e)
          have hge:w.heap.size<=w.heap.size+1:=by omega
          replace hbw:=(((ac hbw hC1).setCell (p:=⟨w.heap.size+1,p*9,none⟩) hge (.bool n_g)).setCell (p:=⟨w.heap.size+1,p*9+1,none⟩) hge (.slice n_o n_n n_c)).setCell (p:=⟨w.heap.size+1,p*9+2,none⟩) hge (.int .i64 n_e)
          clear hC0 hC1 hd l_k2 e0 e1 e2 KK a0 a1 a2 HN
          go_wp2_with fail
          go_roundw
          case rel=>exact⟨0+1,by omega,by go_num,_,_,HN',l_k,r_k,f_k,hbw⟩
          case measure=>simp[intOf]
        · obtain⟨a0,a1,a2,aD⟩:=HN.out.e p p4.out 1 (by decide)
          have i1:∀ w,(Instr.index 69 (.agg #[.int .i64 (s p 0),.int .i64 (s p 1),.int .i64 (s p 2)]) (.int .i64 1)).run prog w=.ok (.int .i64 (s p 1)) w:=fun _=>by kernel_rfl
          change arr[p*9+3]?=_ at a0
          change arr[p*9+3+1]?=_ at a1
          change arr[p*9+3+2]?=_ at a2
          clear aD
          go_wp2_with fail
          have KK:∀ W,Below wr.heap.size wr W->W.cell? ⟨fr,1,none⟩=some (.int .i64 (s m 1)):=fun W hb=>aj (af f_k 1 rfl) hb
          have hC0:=(al wr).drew
          have hne:fr≠w.heap.size+1:=by omega
          go_region_held3 (fun W=>W.cell? ⟨fr,1,none⟩=some (.int .i64 (s m 1)))
            (with_reducible first|assumption|exact KK _ hC0|exact KK _ hC1|exact ay (KK _ hC1) _ _ _ _ _ _ hne|fail)
            (first|(go_at_call 46;refine(C1.out _ (ac hbw hC0)).mono ?_;rintro _ y5 ⟨v,rfl,hd⟩;obtain⟨n_g,n_o,n_n,n_c,n_e,rfl⟩:=aN hd;have hC1:=ac hC0 hd.below;have l_k2:=ak hC1 l_k;have e0:=af l_k2 _ a0;have e1:=af l_k2 _ a1;have e2:=af l_k2 _ a2;have z0:=ar l_k2 (p*9+3);have z1:=ar l_k2 (p*9+3+1);have z2:=ar l_k2 (p*9+3+2)))
          replace f_k:=az (az (az (ak hC1 f_k) hne (p*9+3) (.bool n_g)) hne (p*9+3+1) (.slice n_o n_n n_c)) hne (p*9+3+2) (.int .i64 n_e)
          have hne2:w.heap.size≠w.heap.size+1:=by omega
          replace r_k:=az (az (az (ak hC1 r_k) hne2 (p*9+3) (.bool n_g)) hne2 (p*9+3+1) (.slice n_o n_n n_c)) hne2 (p*9+3+2) (.int .i64 n_e)
          have HN':Hid (gC (((y5.setCell ⟨w.heap.size+1,p*9+3,none⟩ (.bool n_g)).setCell ⟨w.heap.size+1,p*9+3+1,none⟩ (.slice n_o n_n n_c)).setCell ⟨w.heap.size+1,p*9+3+2,none⟩ (.int .i64 n_e)) (((arr.setIfInBounds (p*9+3) (.bool n_g)).setIfInBounds (p*9+3+1) (.slice n_o n_n n_c)).setIfInBounds (p*9+3+2) (.int .i64 n_e)) (fun p k=>am (s p k)-am (s m k)) p (1+1) (fun p' k=>if p'=p∧k=1 then ⟨n_g,n_o,n_n,n_c,fun _=>0,n_e⟩ else R p' k)):=(HN.out.keeps hC1).step p4.out (by decide) l_k2 ⟨n_g,n_o,n_n,n_c,fun _=>0,n_e⟩ (hd.dan.lower (Nat.zero_le _))
          replace l_k:=aq (aq (aq l_k2 (p*9+3) (.bool n_g)) (p*9+3+1) (.slice n_o n_n n_c)) (p*9+3+2) (.int .i64 n_e)
          have hge:w.heap.size<=w.heap.size+1:=by omega
          replace hbw:=(((ac hbw hC1).setCell (p:=⟨w.heap.size+1,p*9+3,none⟩) hge (.bool n_g)).setCell (p:=⟨w.heap.size+1,p*9+3+1,none⟩) hge (.slice n_o n_n n_c)).setCell (p:=⟨w.heap.size+1,p*9+3+2,none⟩) hge (.int .i64 n_e)
          clear hC0 hC1 hd l_k2 e0 e1 e2 KK a0 a1 a2 HN
          go_wp2_with fail
          go_roundw
          case rel=>exact⟨1+1,by omega,by go_num,_,_,HN',l_k,r_k,f_k,hbw⟩
          case measure=>simp[intOf]
        · obtain⟨a0,a1,a2,aD⟩:=HN.out.e p p4.out 2 (by decide)
          have i2:∀ w,(Instr.index 69 (.agg #[.int .i64 (s p 0),.int .i64 (s p 1),.int .i64 (s p 2)]) (.int .i64 2)).run prog w=.ok (.int .i64 (s p 2)) w:=fun _=>by kernel_rfl
          change arr[p*9+6]?=_ at a0
          change arr[p*9+6+1]?=_ at a1
          change arr[p*9+6+2]?=_ at a2
          clear aD
          go_wp2_with fail
          have KK:∀ W,Below wr.heap.size wr W->W.cell? ⟨fr,2,none⟩=some (.int .i64 (s m 2)):=fun W hb=>aj (af f_k 2 rfl) hb
          have hC0:=(al wr).drew
          have hne:fr≠w.heap.size+1:=by omega
          go_region_held3 (fun W=>W.cell? ⟨fr,2,none⟩=some (.int .i64 (s m 2)))
            (with_reducible first|assumption|exact KK _ hC0|exact KK _ hC1|exact ay (KK _ hC1) _ _ _ _ _ _ hne|fail)
            (first|(go_at_call 46;refine(C2.out _ (ac hbw hC0)).mono ?_;rintro _ y5 ⟨v,rfl,hd⟩;obtain⟨n_g,n_o,n_n,n_c,n_e,rfl⟩:=aN hd;have hC1:=ac hC0 hd.below;have l_k2:=ak hC1 l_k;have e0:=af l_k2 _ a0;have e1:=af l_k2 _ a1;have e2:=af l_k2 _ a2;have z0:=ar l_k2 (p*9+6);have z1:=ar l_k2 (p*9+6+1);have z2:=ar l_k2 (p*9+6+2)))
          replace f_k:=az (az (az (ak hC1 f_k) hne (p*9+6) (.bool n_g)) hne (p*9+6+1) (.slice n_o n_n n_c)) hne (p*9+6+2) (.int .i64 n_e)
          have hne2:w.heap.size≠w.heap.size+1:=by omega
          replace r_k:=az (az (az (ak hC1 r_k) hne2 (p*9+6) (.bool n_g)) hne2 (p*9+6+1) (.slice n_o n_n n_c)) hne2 (p*9+6+2) (.int .i64 n_e)
          have HN':Hid (gC (((y5.setCell ⟨w.heap.size+1,p*9+6,none⟩ (.bool n_g)).setCell ⟨w.heap.size+1,p*9+6+1,none⟩ (.slice n_o n_n n_c)).setCell ⟨w.heap.size+1,p*9+6+2,none⟩ (.int .i64 n_e)) (((arr.setIfInBounds (p*9+6) (.bool n_g)).setIfInBounds (p*9+6+1) (.slice n_o n_n n_c)).setIfInBounds (p*9+6+2) (.int .i64 n_e)) (fun p k=>am (s p k)-am (s m k)) p (2+1) (fun p' k=>if p'=p∧k=2 then ⟨n_g,n_o,n_n,n_c,fun _=>0,n_e⟩ else R p' k)):=(HN.out.keeps hC1).step p4.out (by decide) l_k2 ⟨n_g,n_o,n_n,n_c,fun _=>0,n_e⟩ (hd.dan.lower (Nat.zero_le _))
          replace l_k:=aq (aq (aq l_k2 (p*9+6) (.bool n_g)) (p*9+6+1) (.slice n_o n_n n_c)) (p*9+6+2) (.int .i64 n_e)
          have hge:w.heap.size<=w.heap.size+1:=by omega
          replace hbw:=(((ac hbw hC1).setCell (p:=⟨w.heap.size+1,p*9+6,none⟩) hge (.bool n_g)).setCell (p:=⟨w.heap.size+1,p*9+6+1,none⟩) hge (.slice n_o n_n n_c)).setCell (p:=⟨w.heap.size+1,p*9+6+2,none⟩) hge (.int .i64 n_e)
          clear hC0 hC1 hd l_k2 e0 e1 e2 KK a0 a1 a2 HN
          go_wp2_with fail
          go_roundw
          case rel=>exact⟨2+1,by omega,by go_num,_,_,HN',l_k,r_k,f_k,hbw⟩
          case measure=>simp[intOf]
        · have HN':Hid (gC wr arr (fun p k=>am (s p k)-am (s m k)) (p+1) 0 R):=HN.out.roll
          go_wp2_with fail
          go_roundw
          case rel=>exact⟨p+1,by omega,by go_num,arr,R,HN',l_k,r_k,f_k,hbw⟩
          case measure=>simp[intOf];omega
    · obtain rfl:p=m:=by omega
      have HE:=HN.out.all
      have hi:(prog.info? 88).map (·.size)=some arr.size:=by rw[HN.out.n];kernel_rfl
      have h36:(#[.bool false,.slice none 0 0,.int .i64 0,.bool false,.slice none 0 0,.int .i64 0,.bool false,.slice none 0 0,.int .i64 0,.bool false,.slice none 0 0,.int .i64 0,.bool false,.slice none 0 0,.int .i64 0,.bool false,.slice none 0 0,.int .i64 0,.bool false,.slice none 0 0,.int .i64 0,.bool false,.slice none 0 0,.int .i64 0,.bool false,.slice none 0 0,.int .i64 0,.bool false,.slice none 0 0,.int .i64 0,.bool false,.slice none 0 0,.int .i64 0,.bool false,.slice none 0 0,.int .i64 0]:Array Value).size=arr.size:=HN.out.n.symm
      have ho:arr.all (·.oneCell')=true:=HN.out.o
      repeat (first|(refine wp_load_row 88 _ rfl (w.heap.size+1) rfl _ _ _ _ l_k underlying88 rfl hi ?_;dsimp only[Act.put])|(refine wp_store_row 88 _ _ rfl w.heap.size arr rfl rfl _ _ r_k hi h36 ho ?_;dsimp only[Act.put])|go_step)
      have r_k2:=setRow_heap _ _ _ arr _ _ r_k
      exact bodyPost_ret (v:=.agg arr) (results_cell_row results45 _ _ w.heap.size 88 arr (0,0) _ (by simp) r_k2 underlying88 rfl hi) rfl ⟨arr,R,rfl,HE.row r_k,below_setRow hbw (by omega) _⟩
end Go.Proofs.YtcklaogdjpbagaaGreatDoor
