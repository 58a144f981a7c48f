/- Parts of the proof. -/
import Derived.Test.YtjjihmnbdeeedaaGreatDoorMa14
import Derived.Deep.RegionHeld3
import Derived.Test.YtjjihmnbdeeedaaGreatDoorMa18
import Derived.Test.YtjjihmnbdeeedaaGreatDoorMa19
import Derived.Test.YtjjihmnbdeeedaaGreatDoorMa11
import Derived.Test.YtjjihmnbdeeedaaGreatDoorMa10
import Derived.Test.YtjjihmnbdeeedaaGreatDoorMa16
import Derived.Test.YtjjihmnbdeeedaaGreatDoorMa6
set_option maxRecDepth 100000
set_option maxHeartbeats 8000000
set_option linter.unusedVariables false
set_option linter.unusedSimpArgs false
namespace Go.Proofs.YtjjihmnbdeeedaaGreatDoor
open Go Go.Proofs.Tryz Go.RowKit Go.Proofs.YtjjihmnbdeeedaaGreatDoor.M
structure oM where
 i:Int
 g:Bool
 o:Option Addr
 n:Nat
 c:Nat
 e:Int
def oM.v (r:oM):Value:=.agg #[G6 r.i,.bool r.g,.slice r.o r.n r.c,G6 r.e]
structure xr (w:World) (b off n:Nat) (r:Nat->oM) (E:Nat->En):Prop where
 lt:b<w.heap.size
 cells:∀ k,k<n->w.cell? ⟨b,off+k*4,none⟩=some (G6 (r k).i)∧w.cell? ⟨b,off+k*4+1,none⟩=some (.bool (r k).g)∧w.cell? ⟨b,off+k*4+2,none⟩=some (.slice (r k).o (r k).n (r k).c)∧w.cell? ⟨b,off+k*4+3,none⟩=some (G6 (r k).e)
 ea:∀ k,k<n->EA w (r k).v (E k)
theorem xr.keeps {w w':World} {b off n:Nat} {r:Nat->oM} {E:Nat->En} (h:xr w b off n r E) (hb:Below w.heap.size w w'):xr w' b off n r E :=
  ⟨Nat.lt_of_lt_of_le h.lt hb.size,fun k hk=>by
    obtain⟨c0,c1,c2,c3⟩:=h.cells k hk
    exact ⟨(hb.cell (p:=⟨b,_,none⟩) h.lt).trans c0,(hb.cell (p:=⟨b,_,none⟩) h.lt).trans c1,(hb.cell (p:=⟨b,_,none⟩) h.lt).trans c2,(hb.cell (p:=⟨b,_,none⟩) h.lt).trans c3⟩,fun k hk=>(h.ea k hk).keeps hb⟩
def mn (E:Nat->En):Nat->En
 | 0=>E 0
 | k+1=>fT (mn E k) (E (k+1))
def mx (E:Nat->En):Nat->En
 | 0=>E 0
 | k+1=>fU (mx E k) (E (k+1))
theorem ks (w:World) (p:Addr):w.drew.cell? p=w.cell? p:=rfl
theorem LY (E:Nat->En):∀ k,∃ j,j<=k∧mn E k=E j
 | 0=>⟨0,Nat.le_refl _,rfl⟩
 | k+1=>by
  obtain⟨j,h1,h2⟩:=LY E k
  show ∃ j,j<=k+1∧fT (mn E k) (E (k+1))=E j
  rcases (jJ (mn E k) (E (k+1))).2.2 with q|q
  ·exact⟨j,by omega,q.trans h2⟩
  ·exact⟨k+1,Nat.le_refl _,q⟩
theorem LZ (E:Nat->En):∀ k,∃ j,j<=k∧mx E k=E j
 | 0=>⟨0,Nat.le_refl _,rfl⟩
 | k+1=>by
  obtain⟨j,h1,h2⟩:=LZ E k
  show ∃ j,j<=k+1∧fU (mx E k) (E (k+1))=E j
  rcases (jK (mx E k) (E (k+1))).2.2 with q|q
  ·exact⟨j,by omega,q.trans h2⟩
  ·exact⟨k+1,Nat.le_refl _,q⟩
theorem tW {p q g o:Nat} {x0 x1 x2 x3 x4 x5 x6 x7 u:Value} {W:World} (hp:p≠g) (hq:q≠g) (h:W.cell? ⟨p,0,none⟩=some x0∧W.cell? ⟨p,1,none⟩=some x1∧W.cell? ⟨p,2,none⟩=some x2∧W.cell? ⟨p,3,none⟩=some x3∧W.cell? ⟨q,0,none⟩=some x4∧W.cell? ⟨q,1,none⟩=some x5∧W.cell? ⟨q,2,none⟩=some x6∧W.cell? ⟨q,3,none⟩=some x7) :
  (W.setCell ⟨g,o,none⟩ u).cell? ⟨p,0,none⟩=some x0∧(W.setCell ⟨g,o,none⟩ u).cell? ⟨p,1,none⟩=some x1∧(W.setCell ⟨g,o,none⟩ u).cell? ⟨p,2,none⟩=some x2∧(W.setCell ⟨g,o,none⟩ u).cell? ⟨p,3,none⟩=some x3∧(W.setCell ⟨g,o,none⟩ u).cell? ⟨q,0,none⟩=some x4∧(W.setCell ⟨g,o,none⟩ u).cell? ⟨q,1,none⟩=some x5∧(W.setCell ⟨g,o,none⟩ u).cell? ⟨q,2,none⟩=some x6∧(W.setCell ⟨g,o,none⟩ u).cell? ⟨q,3,none⟩=some x7:=by
 have hn:∀ k:Nat,(W.setCell ⟨g,o,none⟩ u).cell? ⟨p,k,none⟩=W.cell? ⟨p,k,none⟩:=fun k=>World.cell?_setCell_far _ _ _ _ (Ne.symm hp)
 have hm:∀ k:Nat,(W.setCell ⟨g,o,none⟩ u).cell? ⟨q,k,none⟩=W.cell? ⟨q,k,none⟩:=fun k=>World.cell?_setCell_far _ _ _ _ (Ne.symm hq)
 rw[hn,hn,hn,hn,hm,hm,hm,hm]
 exact h
theorem tX {p q g:Nat} {x0 x1 x2 x3 x4 x5 x6 x7:Value} {W:World} (hp:p≠g) (hq:q≠g) (h:W.cell? ⟨p,0,none⟩=some x0∧W.cell? ⟨p,1,none⟩=some x1∧W.cell? ⟨p,2,none⟩=some x2∧W.cell? ⟨p,3,none⟩=some x3∧W.cell? ⟨q,0,none⟩=some x4∧W.cell? ⟨q,1,none⟩=some x5∧W.cell? ⟨q,2,none⟩=some x6∧W.cell? ⟨q,3,none⟩=some x7) (a b c d:Value) :
  ((((W.setCell ⟨g,0,none⟩ a).setCell ⟨g,1,none⟩ b).setCell ⟨g,2,none⟩ c).setCell ⟨g,3,none⟩ d).cell? ⟨p,0,none⟩=some x0∧((((W.setCell ⟨g,0,none⟩ a).setCell ⟨g,1,none⟩ b).setCell ⟨g,2,none⟩ c).setCell ⟨g,3,none⟩ d).cell? ⟨p,1,none⟩=some x1∧((((W.setCell ⟨g,0,none⟩ a).setCell ⟨g,1,none⟩ b).setCell ⟨g,2,none⟩ c).setCell ⟨g,3,none⟩ d).cell? ⟨p,2,none⟩=some x2∧((((W.setCell ⟨g,0,none⟩ a).setCell ⟨g,1,none⟩ b).setCell ⟨g,2,none⟩ c).setCell ⟨g,3,none⟩ d).cell? ⟨p,3,none⟩=some x3∧((((W.setCell ⟨g,0,none⟩ a).setCell ⟨g,1,none⟩ b).setCell ⟨g,2,none⟩ c).setCell ⟨g,3,none⟩ d).cell? ⟨q,0,none⟩=some x4∧((((W.setCell ⟨g,0,none⟩ a).setCell ⟨g,1,none⟩ b).setCell ⟨g,2,none⟩ c).setCell ⟨g,3,none⟩ d).cell? ⟨q,1,none⟩=some x5∧((((W.setCell ⟨g,0,none⟩ a).setCell ⟨g,1,none⟩ b).setCell ⟨g,2,none⟩ c).setCell ⟨g,3,none⟩ d).cell? ⟨q,2,none⟩=some x6∧((((W.setCell ⟨g,0,none⟩ a).setCell ⟨g,1,none⟩ b).setCell ⟨g,2,none⟩ c).setCell ⟨g,3,none⟩ d).cell? ⟨q,3,none⟩=some x7 :=
 tW hp hq (tW hp hq (tW hp hq (tW hp hq h)))
theorem zd {p q:Nat} {x0 x1 x2 x3 x4 x5 x6 x7:Value} {W:World} (h:W.cell? ⟨p,0,none⟩=some x0∧W.cell? ⟨p,1,none⟩=some x1∧W.cell? ⟨p,2,none⟩=some x2∧W.cell? ⟨p,3,none⟩=some x3∧W.cell? ⟨q,0,none⟩=some x4∧W.cell? ⟨q,1,none⟩=some x5∧W.cell? ⟨q,2,none⟩=some x6∧W.cell? ⟨q,3,none⟩=some x7) :
  W.drew.cell? ⟨p,0,none⟩=some x0∧W.drew.cell? ⟨p,1,none⟩=some x1∧W.drew.cell? ⟨p,2,none⟩=some x2∧W.drew.cell? ⟨p,3,none⟩=some x3∧W.drew.cell? ⟨q,0,none⟩=some x4∧W.drew.cell? ⟨q,1,none⟩=some x5∧W.drew.cell? ⟨q,2,none⟩=some x6∧W.drew.cell? ⟨q,3,none⟩=some x7:=h
theorem EA.setT {w:World} {v:Value} {a:En} (h:EA w v a) {g:Nat} {xs:Array Value} {z:Nat × Nat} (hg:w.heap[g]?=some (.cells xs 137 z)) (o:Nat) (u:Value):EA (w.setCell ⟨g,o,none⟩ u) v a:=by
 obtain⟨g',so,sn,sc,e,h1,h2⟩:=h
 exact⟨g',so,sn,sc,e,h1,h2.setT hg (by decide) o u⟩
theorem EA.set4 {w:World} {v:Value} {a:En} (h:EA w v a) {g:Nat} {xs:Array Value} (hg:w.heap[g]?=some (.cells xs 137 (0,0))) (x0 x1 x2 x3:Value):EA ((((w.setCell ⟨g,0,none⟩ x0).setCell ⟨g,1,none⟩ x1).setCell ⟨g,2,none⟩ x2).setCell ⟨g,3,none⟩ x3) v a :=
 (((h.setT hg 0 x0).setT (az hg 0 x0) 1 x1).setT (az (az hg 0 x0) 1 x1) 2 x2).setT (az (az (az hg 0 x0) 1 x1) 2 x2) 3 x3
theorem mE {w W:World} {g:Nat} (h:Below w.heap.size w W) (hg:w.heap.size<=g) (x0 x1 x2 x3:Value):Below w.heap.size w ((((W.setCell ⟨g,0,none⟩ x0).setCell ⟨g,1,none⟩ x1).setCell ⟨g,2,none⟩ x2).setCell ⟨g,3,none⟩ x3) :=
 (((h.setCell (p:=⟨g,0,none⟩) hg x0).setCell (p:=⟨g,1,none⟩) hg x1).setCell (p:=⟨g,2,none⟩) hg x2).setCell (p:=⟨g,3,none⟩) hg x3
theorem mF {W:World} {g:Nat} {a b c d:Value} (h:W.heap[g]?=some (.cells #[a,b,c,d] 137 (0,0))) (x0 x1 x2 x3:Value):((((W.setCell ⟨g,0,none⟩ x0).setCell ⟨g,1,none⟩ x1).setCell ⟨g,2,none⟩ x2).setCell ⟨g,3,none⟩ x3).heap[g]?=some (.cells #[x0,x1,x2,x3] 137 (0,0)) :=
 az (az (az (az h 0 x0) 1 x1) 2 x2) 3 x3
theorem fE {W:World} {g g':Nat} {X:Obj} (h:W.heap[g']?=some X) (hn:g'≠g) (x0 x1 x2 x3:Value):((((W.setCell ⟨g,0,none⟩ x0).setCell ⟨g,1,none⟩ x1).setCell ⟨g,2,none⟩ x2).setCell ⟨g,3,none⟩ x3).heap[g']?=some X:=by
 rw[heap_setCell_other _ ⟨g,_,none⟩ g' _ hn,heap_setCell_other _ ⟨g,_,none⟩ g' _ hn,heap_setCell_other _ ⟨g,_,none⟩ g' _ hn,heap_setCell_other _ ⟨g,_,none⟩ g' _ hn]
 exact h
theorem NW {w:World} {b off n cap:Nat} {r:Nat->oM} {E:Nat->En} (h:xr w b off n r E) (h0:0<n) (hc:n<=cap) (hcap:cap<=9223372036854775807) {K:Nat} (hK:K<=28000) (bE:∀ k,k<n->Bd K (E k).v) (oE:∀ k,k<n->(E k).ok) :
  Calls prog 109 #[.slice (some ⟨b,off,none⟩) n cap] w fun x w'=>∃ v u,x=.returned (.tuple #[v,u])∧EA w' v (mn E (n-1))∧EA w' u (mx E (n-1))∧Below w.heap.size w w':=by
 have hz:=h.cells 0 h0
 have hz0:=h.ea 0 h0
 unfold oM.v at hz0
 generalize r 0=r0 at hz hz0
 obtain⟨l_i,l_g,l_o,l_n,l_c,l_e⟩:=r0
 simp only[Nat.zero_mul,Nat.add_zero] at hz hz0
 obtain⟨z0,z1,z2,z3⟩:=hz
 have i0:(0:Int)<(n:Int):=by omega
 have hb4:=gY w (.cells #[G6 0,.bool false,.slice none 0 0,G6 0] 137) (.cells #[G6 0,.bool false,.slice none 0 0,G6 0] 137) (.cells #[G6 l_i,.bool l_g,.slice l_o l_n l_c,G6 l_e] 137) (.cells #[G6 l_i,.bool l_g,.slice l_o l_n l_c,G6 l_e] 137)
 have s_k:((((w.alloc (.cells #[G6 0,.bool false,.slice none 0 0,G6 0] 137)).alloc (.cells #[G6 0,.bool false,.slice none 0 0,G6 0] 137)).alloc (.cells #[G6 l_i,.bool l_g,.slice l_o l_n l_c,G6 l_e] 137)).alloc (.cells #[G6 l_i,.bool l_g,.slice l_o l_n l_c,G6 l_e] 137)).heap[w.heap.size]?=some (.cells #[G6 0,.bool false,.slice none 0 0,G6 0] 137):=lO w (.cells #[G6 0,.bool false,.slice none 0 0,G6 0] 137) (.cells #[G6 0,.bool false,.slice none 0 0,G6 0] 137) (.cells #[G6 l_i,.bool l_g,.slice l_o l_n l_c,G6 l_e] 137) (.cells #[G6 l_i,.bool l_g,.slice l_o l_n l_c,G6 l_e] 137)
 have t_k:((((w.alloc (.cells #[G6 0,.bool false,.slice none 0 0,G6 0] 137)).alloc (.cells #[G6 0,.bool false,.slice none 0 0,G6 0] 137)).alloc (.cells #[G6 l_i,.bool l_g,.slice l_o l_n l_c,G6 l_e] 137)).alloc (.cells #[G6 l_i,.bool l_g,.slice l_o l_n l_c,G6 l_e] 137)).heap[w.heap.size+1]?=some (.cells #[G6 0,.bool false,.slice none 0 0,G6 0] 137):=lP w (.cells #[G6 0,.bool false,.slice none 0 0,G6 0] 137) (.cells #[G6 0,.bool false,.slice none 0 0,G6 0] 137) (.cells #[G6 l_i,.bool l_g,.slice l_o l_n l_c,G6 l_e] 137) (.cells #[G6 l_i,.bool l_g,.slice l_o l_n l_c,G6 l_e] 137)
 have u_k:((((w.alloc (.cells #[G6 0,.bool false,.slice none 0 0,G6 0] 137)).alloc (.cells #[G6 0,.bool false,.slice none 0 0,G6 0] 137)).alloc (.cells #[G6 l_i,.bool l_g,.slice l_o l_n l_c,G6 l_e] 137)).alloc (.cells #[G6 l_i,.bool l_g,.slice l_o l_n l_c,G6 l_e] 137)).heap[w.heap.size+1+1]?=some (.cells #[G6 l_i,.bool l_g,.slice l_o l_n l_c,G6 l_e] 137):=lf w (.cells #[G6 0,.bool false,.slice none 0 0,G6 0] 137) (.cells #[G6 0,.bool false,.slice none 0 0,G6 0] 137) (.cells #[G6 l_i,.bool l_g,.slice l_o l_n l_c,G6 l_e] 137) (.cells #[G6 l_i,.bool l_g,.slice l_o l_n l_c,G6 l_e] 137)
 have v_k:((((w.alloc (.cells #[G6 0,.bool false,.slice none 0 0,G6 0] 137)).alloc (.cells #[G6 0,.bool false,.slice none 0 0,G6 0] 137)).alloc (.cells #[G6 l_i,.bool l_g,.slice l_o l_n l_c,G6 l_e] 137)).alloc (.cells #[G6 l_i,.bool l_g,.slice l_o l_n l_c,G6 l_e] 137)).heap[w.heap.size+1+1+1]?=some (.cells #[G6 l_i,.bool l_g,.slice l_o l_n l_c,G6 l_e] 137):=lg w (.cells #[G6 0,.bool false,.slice none 0 0,G6 0] 137) (.cells #[G6 0,.bool false,.slice none 0 0,G6 0] 137) (.cells #[G6 l_i,.bool l_g,.slice l_o l_n l_c,G6 l_e] 137) (.cells #[G6 l_i,.bool l_g,.slice l_o l_n l_c,G6 l_e] 137)
 have y0:=ar z0 (aM w (.cells #[G6 0,.bool false,.slice none 0 0,G6 0] 137) (.cells #[G6 0,.bool false,.slice none 0 0,G6 0] 137))
 have x0:=ar z0 (df w (.cells #[G6 0,.bool false,.slice none 0 0,G6 0] 137) (.cells #[G6 0,.bool false,.slice none 0 0,G6 0] 137) (.cells #[G6 l_i,.bool l_g,.slice l_o l_n l_c,G6 l_e] 137))
 have y1:=ar z1 (aM w (.cells #[G6 0,.bool false,.slice none 0 0,G6 0] 137) (.cells #[G6 0,.bool false,.slice none 0 0,G6 0] 137))
 have x1:=ar z1 (df w (.cells #[G6 0,.bool false,.slice none 0 0,G6 0] 137) (.cells #[G6 0,.bool false,.slice none 0 0,G6 0] 137) (.cells #[G6 l_i,.bool l_g,.slice l_o l_n l_c,G6 l_e] 137))
 have y2:=ar z2 (aM w (.cells #[G6 0,.bool false,.slice none 0 0,G6 0] 137) (.cells #[G6 0,.bool false,.slice none 0 0,G6 0] 137))
 have x2:=ar z2 (df w (.cells #[G6 0,.bool false,.slice none 0 0,G6 0] 137) (.cells #[G6 0,.bool false,.slice none 0 0,G6 0] 137) (.cells #[G6 l_i,.bool l_g,.slice l_o l_n l_c,G6 l_e] 137))
 have y3:=ar z3 (aM w (.cells #[G6 0,.bool false,.slice none 0 0,G6 0] 137) (.cells #[G6 0,.bool false,.slice none 0 0,G6 0] 137))
 have x3:=ar z3 (df w (.cells #[G6 0,.bool false,.slice none 0 0,G6 0] 137) (.cells #[G6 0,.bool false,.slice none 0 0,G6 0] 137) (.cells #[G6 l_i,.bool l_g,.slice l_o l_n l_c,G6 l_e] 137))
 go_enter func109,ntmps109
 go_wp2_with fail
 clear y0 y1 y2 y3 x0 x1 x2 x3 z0 z1 z2 z3
 generalize (((w.alloc (.cells #[G6 0,.bool false,.slice none 0 0,G6 0] 137)).alloc (.cells #[G6 0,.bool false,.slice none 0 0,G6 0] 137)).alloc (.cells #[G6 l_i,.bool l_g,.slice l_o l_n l_c,G6 l_e] 137)).alloc (.cells #[G6 l_i,.bool l_g,.slice l_o l_n l_c,G6 l_e] 137)=wx at hb4 s_k t_k u_k v_k ⊢
 go_loopw [6] (fun iv wr=>∃ (k:Nat) (p_i:Int) (p_g:Bool) (p_o:Option Addr) (p_n p_c:Nat) (p_e:Int) (q_i:Int) (q_g:Bool) (q_o:Option Addr) (q_n q_c:Nat) (q_e:Int),k+1<=n∧iv=G6 ((k:Int)+1)∧Hid (wr.heap[w.heap.size]?=some (.cells #[G6 0,.bool false,.slice none 0 0,G6 0] 137 (0,0)))∧Hid (wr.heap[w.heap.size+1]?=some (.cells #[G6 0,.bool false,.slice none 0 0,G6 0] 137 (0,0)))∧Hid (wr.heap[w.heap.size+1+1]?=some (.cells #[G6 p_i,.bool p_g,.slice p_o p_n p_c,G6 p_e] 137 (0,0)))∧Hid (wr.heap[w.heap.size+1+1+1]?=some (.cells #[G6 q_i,.bool q_g,.slice q_o q_n q_c,G6 q_e] 137 (0,0)))∧Hid (EA wr (.agg #[G6 p_i,.bool p_g,.slice p_o p_n p_c,G6 p_e]) (mn E k))∧Hid (EA wr (.agg #[G6 q_i,.bool q_g,.slice q_o q_n q_c,G6 q_e]) (mx E k))∧Below w.heap.size w wr) (fun iv _=>n-(intOf iv).toNat)
 case atStart=>exact⟨0,l_i,l_g,l_o,l_n,l_c,l_e,l_i,l_g,l_o,l_n,l_c,l_e,h0,rfl,s_k,t_k,u_k,v_k,hz0.keeps hb4,hz0.keeps hb4,hb4⟩
 case round=>
  obtain⟨k,p_i,p_g,p_o,p_n,p_c,p_e,q_i,q_g,q_o,q_n,q_c,q_e,hk,rfl,HS,HT,HU,HV,HP,HQ,hbw⟩:=hrel
  clear s_k t_k u_k v_k hb4 hz0
  by_cases hlt:k+1<n
  ·have hE:=h.keeps hbw
   have hx:=hE.ea (k+1) hlt
   obtain⟨jm,jm1,jm2⟩:=LY E k
   obtain⟨jx,jx1,jx2⟩:=LZ E k
   have omn:(mn E k).ok:=by rw[jm2];exact oE _ (by omega)
   have omx:(mx E k).ok:=by rw[jx2];exact oE _ (by omega)
   have O1:Hid (∀ W,Below wr.heap.size wr W->Calls prog 173 #[(r (k+1)).v,.agg #[G6 p_i,.bool p_g,.slice p_o p_n p_c,G6 p_e]] W fun r w'=>r=.returned (G6 (ll (E (k+1)) (mn E k)))∧Below W.heap.size W w'):=fun W hW=>DT (hx.ev.keeps hW) (HP.out.ev.keeps hW) hK (bE _ hlt) (by rw[jm2];exact bE _ (by omega))
   have O2:Hid (∀ (z:Value) W,EA W z (mx E k)->EA W (r (k+1)).v (E (k+1))->Calls prog 173 #[(r (k+1)).v,z] W fun r w'=>r=.returned (G6 (ll (E (k+1)) (mx E k)))∧Below W.heap.size W w'):=fun z W hz hm=>DT hm.ev hz.ev hK (bE _ hlt) (by rw[jx2];exact bE _ (by omega))
   have hcl:∀ W,Below w.heap.size w W->W.cell? ⟨b,off+(k+1)*4,none⟩=some (G6 (r (k+1)).i)∧W.cell? ⟨b,off+(k+1)*4+1,none⟩=some (.bool (r (k+1)).g)∧W.cell? ⟨b,off+(k+1)*4+2,none⟩=some (.slice (r (k+1)).o (r (k+1)).n (r (k+1)).c)∧W.cell? ⟨b,off+(k+1)*4+3,none⟩=some (G6 (r (k+1)).e):=fun W hW=>(h.keeps hW).cells (k+1) hlt
   have em:mn E (k+1)=if ll (E (k+1)) (mn E k)<0 then E (k+1) else mn E k:=NE omn (oE _ hlt)
   have ex:mx E (k+1)=if 0<ll (E (k+1)) (mx E k) then E (k+1) else mx E k:=NF omx (oE _ hlt)
   generalize hrk:r (k+1)=rk at hcl hx O1 O2
   unfold oM.v at hx O1 O2
   obtain⟨m_i,m_g,m_o,m_n,m_c,m_e⟩:=rk
   simp only at hcl hx O1 O2
   clear hrk jm1 jm2 jx1 jx2 omn omx hE
   generalize ll (E (k+1)) (mn E k)=o1 at *
   generalize ll (E (k+1)) (mx E k)=o2 at *
   have i1:(0:Int)<=(k:Int)+1:=by omega
   have i2:(k:Int)+1<(n:Int):=by omega
   have i3:((k:Int)+1).toNat=k+1:=by omega
   replace em:=aK em
   replace ex:=aK ex
   by_cases hA:o1<0
   ·by_cases hB:0<o2
    ·have em2:mn E (k+1)=E (k+1):=by have:=em.out;rw[if_pos hA] at this;exact this
     have ex2:mx E (k+1)=E (k+1):=by have:=ex.out;rw[if_pos hB] at this;exact this
     have em3:=aK em2
     have ex3:=aK ex2
     clear em2 ex2 em ex
     go_wp2_with fail
     have B0:Below wr.heap.size wr wr.drew:=(ap _).drew
     have KK:∀ W,Below wr.heap.size wr W->(W.cell? ⟨b,off+(k+1)*4,none⟩=some (G6 m_i)∧W.cell? ⟨b,off+(k+1)*4+1,none⟩=some (.bool m_g)∧W.cell? ⟨b,off+(k+1)*4+2,none⟩=some (.slice m_o m_n m_c)∧W.cell? ⟨b,off+(k+1)*4+3,none⟩=some (G6 m_e))∧(W.cell? ⟨w.heap.size+1+1,0,none⟩=some (G6 p_i)∧W.cell? ⟨w.heap.size+1+1,1,none⟩=some (.bool p_g)∧W.cell? ⟨w.heap.size+1+1,2,none⟩=some (.slice p_o p_n p_c)∧W.cell? ⟨w.heap.size+1+1,3,none⟩=some (G6 p_e)):=fun W hW=>⟨hcl W (ac hbw hW),ae (aB hW HU.out) 0 rfl,ae (aB hW HU.out) 1 rfl,ae (aB hW HU.out) 2 rfl,ae (aB hW HU.out) 3 rfl⟩
     go_region_held3 (fun W=>(W.cell? ⟨b,off+(k+1)*4,none⟩=some (G6 m_i)∧W.cell? ⟨b,off+(k+1)*4+1,none⟩=some (.bool m_g)∧W.cell? ⟨b,off+(k+1)*4+2,none⟩=some (.slice m_o m_n m_c)∧W.cell? ⟨b,off+(k+1)*4+3,none⟩=some (G6 m_e))∧(W.cell? ⟨w.heap.size+1+1,0,none⟩=some (G6 p_i)∧W.cell? ⟨w.heap.size+1+1,1,none⟩=some (.bool p_g)∧W.cell? ⟨w.heap.size+1+1,2,none⟩=some (.slice p_o p_n p_c)∧W.cell? ⟨w.heap.size+1+1,3,none⟩=some (G6 p_e)))
      (first|assumption|exact KK _ B0|exact KK _ B1|fail)
      ((go_at_call 173;refine(O1.out _ B0).mono ?_;rintro _ y1 ⟨rfl,hs1⟩;have B1:=ac B0 hs1))
     clear KK O1 B0 hs1
     have HS1:=aK (aB B1 HS.out)
     have HT1:=aK (aB B1 HT.out)
     have U1:=aB B1 HU.out
     have HV1:=aK (aB B1 HV.out)
     have P1:=aK (HP.out.keeps B1)
     have Q1:=aK (HQ.out.keeps B1)
     have M1:=aK (hx.keeps B1)
     have hb1:=ac hbw B1
     clear HS HT HU HV HP HQ hx hbw B1
     obtain⟨c0,c1,c2,c3⟩:=hcl _ hb1
     have f_u0:=ae U1 0 rfl
     have f_u1:=ae U1 1 rfl
     have f_u2:=ae U1 2 rfl
     have f_u3:=ae U1 3 rfl
     have z_u0:=ah U1 0
     have z_u1:=ah U1 1
     have z_u2:=ah U1 2
     have z_u3:=ah U1 3
     have HS2:=aK (fE HS1.out (show w.heap.size≠w.heap.size+1+1 by omega) (G6 m_i) (.bool m_g) (.slice m_o m_n m_c) (G6 m_e))
     have HT2:=aK (fE HT1.out (show w.heap.size+1≠w.heap.size+1+1 by omega) (G6 m_i) (.bool m_g) (.slice m_o m_n m_c) (G6 m_e))
     have U2:=aK (mF U1 (G6 m_i) (.bool m_g) (.slice m_o m_n m_c) (G6 m_e))
     have HV2:=aK (fE HV1.out (show w.heap.size+1+1+1≠w.heap.size+1+1 by omega) (G6 m_i) (.bool m_g) (.slice m_o m_n m_c) (G6 m_e))
     have P2:=aK (M1.out.set4 U1 (G6 m_i) (.bool m_g) (.slice m_o m_n m_c) (G6 m_e))
     have Q2:=aK (Q1.out.set4 U1 (G6 m_i) (.bool m_g) (.slice m_o m_n m_c) (G6 m_e))
     have M2:=aK (M1.out.set4 U1 (G6 m_i) (.bool m_g) (.slice m_o m_n m_c) (G6 m_e))
     have hb2:=mE hb1 (show w.heap.size<=w.heap.size+1+1 by omega) (G6 m_i) (.bool m_g) (.slice m_o m_n m_c) (G6 m_e)
     clear HS1 HT1 HV1 P1 Q1 M1 hb1 U1
     go_wp2_with fail
     clear f_u0 z_u0 f_u1 z_u1 f_u2 z_u2 f_u3 z_u3 c0 c1 c2 c3
     generalize (((y1.setCell ⟨w.heap.size+1+1,0,none⟩ (G6 m_i)).setCell ⟨w.heap.size+1+1,1,none⟩ (.bool m_g)).setCell ⟨w.heap.size+1+1,2,none⟩ (.slice m_o m_n m_c)).setCell ⟨w.heap.size+1+1,3,none⟩ (G6 m_e)=y2 at HS2 HT2 U2 HV2 P2 Q2 M2 hb2 ⊢
     have B0:Below y2.heap.size y2 y2.drew:=(ap _).drew
     have KK:∀ W,Below y2.heap.size y2 W->(W.cell? ⟨b,off+(k+1)*4,none⟩=some (G6 m_i)∧W.cell? ⟨b,off+(k+1)*4+1,none⟩=some (.bool m_g)∧W.cell? ⟨b,off+(k+1)*4+2,none⟩=some (.slice m_o m_n m_c)∧W.cell? ⟨b,off+(k+1)*4+3,none⟩=some (G6 m_e))∧(W.cell? ⟨w.heap.size+1+1+1,0,none⟩=some (G6 q_i)∧W.cell? ⟨w.heap.size+1+1+1,1,none⟩=some (.bool q_g)∧W.cell? ⟨w.heap.size+1+1+1,2,none⟩=some (.slice q_o q_n q_c)∧W.cell? ⟨w.heap.size+1+1+1,3,none⟩=some (G6 q_e)):=fun W hW=>⟨hcl W (ac hb2 hW),ae (aB hW HV2.out) 0 rfl,ae (aB hW HV2.out) 1 rfl,ae (aB hW HV2.out) 2 rfl,ae (aB hW HV2.out) 3 rfl⟩
     go_region_held3 (fun W=>(W.cell? ⟨b,off+(k+1)*4,none⟩=some (G6 m_i)∧W.cell? ⟨b,off+(k+1)*4+1,none⟩=some (.bool m_g)∧W.cell? ⟨b,off+(k+1)*4+2,none⟩=some (.slice m_o m_n m_c)∧W.cell? ⟨b,off+(k+1)*4+3,none⟩=some (G6 m_e))∧(W.cell? ⟨w.heap.size+1+1+1,0,none⟩=some (G6 q_i)∧W.cell? ⟨w.heap.size+1+1+1,1,none⟩=some (.bool q_g)∧W.cell? ⟨w.heap.size+1+1+1,2,none⟩=some (.slice q_o q_n q_c)∧W.cell? ⟨w.heap.size+1+1+1,3,none⟩=some (G6 q_e)))
      (first|assumption|exact KK _ B0|exact KK _ B1|fail)
      ((go_at_call 173;refine(O2.out _ _ (Q2.out.keeps B0) (M2.out.keeps B0)).mono ?_;rintro _ y3 ⟨rfl,hs1⟩;have B1:=ac B0 hs1))
     clear KK O2 B0 hs1
     have HS3:=aK (aB B1 HS2.out)
     have HT3:=aK (aB B1 HT2.out)
     have U3:=aK (aB B1 U2.out)
     have V3:=aB B1 HV2.out
     have P3:=aK (P2.out.keeps B1)
     have Q3:=aK (Q2.out.keeps B1)
     have M3:=aK (M2.out.keeps B1)
     have hb3:=ac hb2 B1
     clear HS2 HT2 U2 HV2 P2 Q2 M2 hb2 B1
     obtain⟨c0,c1,c2,c3⟩:=hcl _ hb3
     have f_u0:=ae V3 0 rfl
     have f_u1:=ae V3 1 rfl
     have f_u2:=ae V3 2 rfl
     have f_u3:=ae V3 3 rfl
     have z_u0:=ah V3 0
     have z_u1:=ah V3 1
     have z_u2:=ah V3 2
     have z_u3:=ah V3 3
     have HS4:=aK (fE HS3.out (show w.heap.size≠w.heap.size+1+1+1 by omega) (G6 m_i) (.bool m_g) (.slice m_o m_n m_c) (G6 m_e))
     have HT4:=aK (fE HT3.out (show w.heap.size+1≠w.heap.size+1+1+1 by omega) (G6 m_i) (.bool m_g) (.slice m_o m_n m_c) (G6 m_e))
     have V4:=aK (mF V3 (G6 m_i) (.bool m_g) (.slice m_o m_n m_c) (G6 m_e))
     have U4:=aK (fE U3.out (show w.heap.size+1+1≠w.heap.size+1+1+1 by omega) (G6 m_i) (.bool m_g) (.slice m_o m_n m_c) (G6 m_e))
     have P4:=aK (P3.out.set4 V3 (G6 m_i) (.bool m_g) (.slice m_o m_n m_c) (G6 m_e))
     have Q4':=aK (M3.out.set4 V3 (G6 m_i) (.bool m_g) (.slice m_o m_n m_c) (G6 m_e))
     have hb4:=mE hb3 (show w.heap.size<=w.heap.size+1+1+1 by omega) (G6 m_i) (.bool m_g) (.slice m_o m_n m_c) (G6 m_e)
     clear HS3 HT3 U3 P3 Q3 M3 hb3 V3
     go_wp2_with fail
     go_roundw
     case rel=>exact⟨k+1,m_i,m_g,m_o,m_n,m_c,m_e,m_i,m_g,m_o,m_n,m_c,m_e,hlt,by go_num,HS4.out,HT4.out,U4.out,V4.out,by rw[em3.out];exact P4.out,by rw[ex3.out];exact Q4'.out,hb4⟩
     case measure=>simp[intOf];omega
    ·have em2:mn E (k+1)=E (k+1):=by have:=em.out;rw[if_pos hA] at this;exact this
     have ex2:mx E (k+1)=mx E k:=by have:=ex.out;rw[if_neg hB] at this;exact this
     have em3:=aK em2
     have ex3:=aK ex2
     clear em2 ex2 em ex
     go_wp2_with fail
     have B0:Below wr.heap.size wr wr.drew:=(ap _).drew
     have KK:∀ W,Below wr.heap.size wr W->(W.cell? ⟨b,off+(k+1)*4,none⟩=some (G6 m_i)∧W.cell? ⟨b,off+(k+1)*4+1,none⟩=some (.bool m_g)∧W.cell? ⟨b,off+(k+1)*4+2,none⟩=some (.slice m_o m_n m_c)∧W.cell? ⟨b,off+(k+1)*4+3,none⟩=some (G6 m_e))∧(W.cell? ⟨w.heap.size+1+1,0,none⟩=some (G6 p_i)∧W.cell? ⟨w.heap.size+1+1,1,none⟩=some (.bool p_g)∧W.cell? ⟨w.heap.size+1+1,2,none⟩=some (.slice p_o p_n p_c)∧W.cell? ⟨w.heap.size+1+1,3,none⟩=some (G6 p_e)):=fun W hW=>⟨hcl W (ac hbw hW),ae (aB hW HU.out) 0 rfl,ae (aB hW HU.out) 1 rfl,ae (aB hW HU.out) 2 rfl,ae (aB hW HU.out) 3 rfl⟩
     go_region_held3 (fun W=>(W.cell? ⟨b,off+(k+1)*4,none⟩=some (G6 m_i)∧W.cell? ⟨b,off+(k+1)*4+1,none⟩=some (.bool m_g)∧W.cell? ⟨b,off+(k+1)*4+2,none⟩=some (.slice m_o m_n m_c)∧W.cell? ⟨b,off+(k+1)*4+3,none⟩=some (G6 m_e))∧(W.cell? ⟨w.heap.size+1+1,0,none⟩=some (G6 p_i)∧W.cell? ⟨w.heap.size+1+1,1,none⟩=some (.bool p_g)∧W.cell? ⟨w.heap.size+1+1,2,none⟩=some (.slice p_o p_n p_c)∧W.cell? ⟨w.heap.size+1+1,3,none⟩=some (G6 p_e)))
      (first|assumption|exact KK _ B0|exact KK _ B1|fail)
      ((go_at_call 173;refine(O1.out _ B0).mono ?_;rintro _ y1 ⟨rfl,hs1⟩;have B1:=ac B0 hs1))
     clear KK O1 B0 hs1
     have HS1:=aK (aB B1 HS.out)
     have HT1:=aK (aB B1 HT.out)
     have U1:=aB B1 HU.out
     have HV1:=aK (aB B1 HV.out)
     have P1:=aK (HP.out.keeps B1)
     have Q1:=aK (HQ.out.keeps B1)
     have M1:=aK (hx.keeps B1)
     have hb1:=ac hbw B1
     clear HS HT HU HV HP HQ hx hbw B1
     obtain⟨c0,c1,c2,c3⟩:=hcl _ hb1
     have f_u0:=ae U1 0 rfl
     have f_u1:=ae U1 1 rfl
     have f_u2:=ae U1 2 rfl
     have f_u3:=ae U1 3 rfl
     have z_u0:=ah U1 0
     have z_u1:=ah U1 1
     have z_u2:=ah U1 2
     have z_u3:=ah U1 3
     have HS2:=aK (fE HS1.out (show w.heap.size≠w.heap.size+1+1 by omega) (G6 m_i) (.bool m_g) (.slice m_o m_n m_c) (G6 m_e))
     have HT2:=aK (fE HT1.out (show w.heap.size+1≠w.heap.size+1+1 by omega) (G6 m_i) (.bool m_g) (.slice m_o m_n m_c) (G6 m_e))
     have U2:=aK (mF U1 (G6 m_i) (.bool m_g) (.slice m_o m_n m_c) (G6 m_e))
     have HV2:=aK (fE HV1.out (show w.heap.size+1+1+1≠w.heap.size+1+1 by omega) (G6 m_i) (.bool m_g) (.slice m_o m_n m_c) (G6 m_e))
     have P2:=aK (M1.out.set4 U1 (G6 m_i) (.bool m_g) (.slice m_o m_n m_c) (G6 m_e))
     have Q2:=aK (Q1.out.set4 U1 (G6 m_i) (.bool m_g) (.slice m_o m_n m_c) (G6 m_e))
     have M2:=aK (M1.out.set4 U1 (G6 m_i) (.bool m_g) (.slice m_o m_n m_c) (G6 m_e))
     have hb2:=mE hb1 (show w.heap.size<=w.heap.size+1+1 by omega) (G6 m_i) (.bool m_g) (.slice m_o m_n m_c) (G6 m_e)
     clear HS1 HT1 HV1 P1 Q1 M1 hb1 U1
     go_wp2_with fail
     clear f_u0 z_u0 f_u1 z_u1 f_u2 z_u2 f_u3 z_u3 c0 c1 c2 c3
     generalize (((y1.setCell ⟨w.heap.size+1+1,0,none⟩ (G6 m_i)).setCell ⟨w.heap.size+1+1,1,none⟩ (.bool m_g)).setCell ⟨w.heap.size+1+1,2,none⟩ (.slice m_o m_n m_c)).setCell ⟨w.heap.size+1+1,3,none⟩ (G6 m_e)=y2 at HS2 HT2 U2 HV2 P2 Q2 M2 hb2 ⊢
     have B0:Below y2.heap.size y2 y2.drew:=(ap _).drew
     have KK:∀ W,Below y2.heap.size y2 W->(W.cell? ⟨b,off+(k+1)*4,none⟩=some (G6 m_i)∧W.cell? ⟨b,off+(k+1)*4+1,none⟩=some (.bool m_g)∧W.cell? ⟨b,off+(k+1)*4+2,none⟩=some (.slice m_o m_n m_c)∧W.cell? ⟨b,off+(k+1)*4+3,none⟩=some (G6 m_e))∧(W.cell? ⟨w.heap.size+1+1+1,0,none⟩=some (G6 q_i)∧W.cell? ⟨w.heap.size+1+1+1,1,none⟩=some (.bool q_g)∧W.cell? ⟨w.heap.size+1+1+1,2,none⟩=some (.slice q_o q_n q_c)∧W.cell? ⟨w.heap.size+1+1+1,3,none⟩=some (G6 q_e)):=fun W hW=>⟨hcl W (ac hb2 hW),ae (aB hW HV2.out) 0 rfl,ae (aB hW HV2.out) 1 rfl,ae (aB hW HV2.out) 2 rfl,ae (aB hW HV2.out) 3 rfl⟩
     go_region_held3 (fun W=>(W.cell? ⟨b,off+(k+1)*4,none⟩=some (G6 m_i)∧W.cell? ⟨b,off+(k+1)*4+1,none⟩=some (.bool m_g)∧W.cell? ⟨b,off+(k+1)*4+2,none⟩=some (.slice m_o m_n m_c)∧W.cell? ⟨b,off+(k+1)*4+3,none⟩=some (G6 m_e))∧(W.cell? ⟨w.heap.size+1+1+1,0,none⟩=some (G6 q_i)∧W.cell? ⟨w.heap.size+1+1+1,1,none⟩=some (.bool q_g)∧W.cell? ⟨w.heap.size+1+1+1,2,none⟩=some (.slice q_o q_n q_c)∧W.cell? ⟨w.heap.size+1+1+1,3,none⟩=some (G6 q_e)))
      (first|assumption|exact KK _ B0|exact KK _ B1|fail)
      ((go_at_call 173;refine(O2.out _ _ (Q2.out.keeps B0) (M2.out.keeps B0)).mono ?_;rintro _ y3 ⟨rfl,hs1⟩;have B1:=ac B0 hs1))
     clear KK O2 B0 hs1
     have HS3:=aK (aB B1 HS2.out)
     have HT3:=aK (aB B1 HT2.out)
     have U3:=aK (aB B1 U2.out)
     have V3:=aB B1 HV2.out
     have P3:=aK (P2.out.keeps B1)
     have Q3:=aK (Q2.out.keeps B1)
     have M3:=aK (M2.out.keeps B1)
     have hb3:=ac hb2 B1
     clear HS2 HT2 U2 HV2 P2 Q2 M2 hb2 B1
     have V4:=aK V3
     have HS4:=HS3
     have HT4:=HT3
     have U4:=U3
     have P4:=P3
     have Q4':=Q3
     have hb4:=hb3
     clear HS3 HT3 U3 V3 P3 Q3 M3 hb3
     go_wp2_with fail
     go_roundw
     case rel=>exact⟨k+1,m_i,m_g,m_o,m_n,m_c,m_e,q_i,q_g,q_o,q_n,q_c,q_e,hlt,by go_num,HS4.out,HT4.out,U4.out,V4.out,by rw[em3.out];exact P4.out,by rw[ex3.out];exact Q4'.out,hb4⟩
     case measure=>simp[intOf];omega
   ·by_cases hB:0<o2
    ·have em2:mn E (k+1)=mn E k:=by have:=em.out;rw[if_neg hA] at this;exact this
     have ex2:mx E (k+1)=E (k+1):=by have:=ex.out;rw[if_pos hB] at this;exact this
     have em3:=aK em2
     have ex3:=aK ex2
     clear em2 ex2 em ex
     go_wp2_with fail
     have B0:Below wr.heap.size wr wr.drew:=(ap _).drew
     have KK:∀ W,Below wr.heap.size wr W->(W.cell? ⟨b,off+(k+1)*4,none⟩=some (G6 m_i)∧W.cell? ⟨b,off+(k+1)*4+1,none⟩=some (.bool m_g)∧W.cell? ⟨b,off+(k+1)*4+2,none⟩=some (.slice m_o m_n m_c)∧W.cell? ⟨b,off+(k+1)*4+3,none⟩=some (G6 m_e))∧(W.cell? ⟨w.heap.size+1+1,0,none⟩=some (G6 p_i)∧W.cell? ⟨w.heap.size+1+1,1,none⟩=some (.bool p_g)∧W.cell? ⟨w.heap.size+1+1,2,none⟩=some (.slice p_o p_n p_c)∧W.cell? ⟨w.heap.size+1+1,3,none⟩=some (G6 p_e)):=fun W hW=>⟨hcl W (ac hbw hW),ae (aB hW HU.out) 0 rfl,ae (aB hW HU.out) 1 rfl,ae (aB hW HU.out) 2 rfl,ae (aB hW HU.out) 3 rfl⟩
     go_region_held3 (fun W=>(W.cell? ⟨b,off+(k+1)*4,none⟩=some (G6 m_i)∧W.cell? ⟨b,off+(k+1)*4+1,none⟩=some (.bool m_g)∧W.cell? ⟨b,off+(k+1)*4+2,none⟩=some (.slice m_o m_n m_c)∧W.cell? ⟨b,off+(k+1)*4+3,none⟩=some (G6 m_e))∧(W.cell? ⟨w.heap.size+1+1,0,none⟩=some (G6 p_i)∧W.cell? ⟨w.heap.size+1+1,1,none⟩=some (.bool p_g)∧W.cell? ⟨w.heap.size+1+1,2,none⟩=some (.slice p_o p_n p_c)∧W.cell? ⟨w.heap.size+1+1,3,none⟩=some (G6 p_e)))
      (first|assumption|exact KK _ B0|exact KK _ B1|fail)
      ((go_at_call 173;refine(O1.out _ B0).mono ?_;rintro _ y1 ⟨rfl,hs1⟩;have B1:=ac B0 hs1))
     clear KK O1 B0 hs1
     have HS1:=aK (aB B1 HS.out)
     have HT1:=aK (aB B1 HT.out)
     have U1:=aB B1 HU.out
     have HV1:=aK (aB B1 HV.out)
     have P1:=aK (HP.out.keeps B1)
     have Q1:=aK (HQ.out.keeps B1)
     have M1:=aK (hx.keeps B1)
     have hb1:=ac hbw B1
     clear HS HT HU HV HP HQ hx hbw B1
     have U2:=aK U1
     have HS2:=HS1
     have HT2:=HT1
     have HV2:=HV1
     have P2:=P1
     have Q2:=Q1
     have M2:=M1
     have hb2:=hb1
     clear U1 HS1 HT1 HV1 P1 Q1 M1 hb1
     go_wp2_with fail
     generalize y1=y2 at HS2 HT2 U2 HV2 P2 Q2 M2 hb2 ⊢
     have B0:Below y2.heap.size y2 y2.drew:=(ap _).drew
     have KK:∀ W,Below y2.heap.size y2 W->(W.cell? ⟨b,off+(k+1)*4,none⟩=some (G6 m_i)∧W.cell? ⟨b,off+(k+1)*4+1,none⟩=some (.bool m_g)∧W.cell? ⟨b,off+(k+1)*4+2,none⟩=some (.slice m_o m_n m_c)∧W.cell? ⟨b,off+(k+1)*4+3,none⟩=some (G6 m_e))∧(W.cell? ⟨w.heap.size+1+1+1,0,none⟩=some (G6 q_i)∧W.cell? ⟨w.heap.size+1+1+1,1,none⟩=some (.bool q_g)∧W.cell? ⟨w.heap.size+1+1+1,2,none⟩=some (.slice q_o q_n q_c)∧W.cell? ⟨w.heap.size+1+1+1,3,none⟩=some (G6 q_e)):=fun W hW=>⟨hcl W (ac hb2 hW),ae (aB hW HV2.out) 0 rfl,ae (aB hW HV2.out) 1 rfl,ae (aB hW HV2.out) 2 rfl,ae (aB hW HV2.out) 3 rfl⟩
     go_region_held3 (fun W=>(W.cell? ⟨b,off+(k+1)*4,none⟩=some (G6 m_i)∧W.cell? ⟨b,off+(k+1)*4+1,none⟩=some (.bool m_g)∧W.cell? ⟨b,off+(k+1)*4+2,none⟩=some (.slice m_o m_n m_c)∧W.cell? ⟨b,off+(k+1)*4+3,none⟩=some (G6 m_e))∧(W.cell? ⟨w.heap.size+1+1+1,0,none⟩=some (G6 q_i)∧W.cell? ⟨w.heap.size+1+1+1,1,none⟩=some (.bool q_g)∧W.cell? ⟨w.heap.size+1+1+1,2,none⟩=some (.slice q_o q_n q_c)∧W.cell? ⟨w.heap.size+1+1+1,3,none⟩=some (G6 q_e)))
      (first|assumption|exact KK _ B0|exact KK _ B1|fail)
      ((go_at_call 173;refine(O2.out _ _ (Q2.out.keeps B0) (M2.out.keeps B0)).mono ?_;rintro _ y3 ⟨rfl,hs1⟩;have B1:=ac B0 hs1))
     clear KK O2 B0 hs1
     have HS3:=aK (aB B1 HS2.out)
     have HT3:=aK (aB B1 HT2.out)
     have U3:=aK (aB B1 U2.out)
     have V3:=aB B1 HV2.out
     have P3:=aK (P2.out.keeps B1)
     have Q3:=aK (Q2.out.keeps B1)
     have M3:=aK (M2.out.keeps B1)
     have hb3:=ac hb2 B1
     clear HS2 HT2 U2 HV2 P2 Q2 M2 hb2 B1
     obtain⟨c0,c1,c2,c3⟩:=hcl _ hb3
     have f_u0:=ae V3 0 rfl
     have f_u1:=ae V3 1 rfl
     have f_u2:=ae V3 2 rfl
     have f_u3:=ae V3 3 rfl
     have z_u0:=ah V3 0
     have z_u1:=ah V3 1
     have z_u2:=ah V3 2
     have z_u3:=ah V3 3
     have HS4:=aK (fE HS3.out (show w.heap.size≠w.heap.size+1+1+1 by omega) (G6 m_i) (.bool m_g) (.slice m_o m_n m_c) (G6 m_e))
     have HT4:=aK (fE HT3.out (show w.heap.size+1≠w.heap.size+1+1+1 by omega) (G6 m_i) (.bool m_g) (.slice m_o m_n m_c) (G6 m_e))
     have V4:=aK (mF V3 (G6 m_i) (.bool m_g) (.slice m_o m_n m_c) (G6 m_e))
     have U4:=aK (fE U3.out (show w.heap.size+1+1≠w.heap.size+1+1+1 by omega) (G6 m_i) (.bool m_g) (.slice m_o m_n m_c) (G6 m_e))
     have P4:=aK (P3.out.set4 V3 (G6 m_i) (.bool m_g) (.slice m_o m_n m_c) (G6 m_e))
     have Q4':=aK (M3.out.set4 V3 (G6 m_i) (.bool m_g) (.slice m_o m_n m_c) (G6 m_e))
     have hb4:=mE hb3 (show w.heap.size<=w.heap.size+1+1+1 by omega) (G6 m_i) (.bool m_g) (.slice m_o m_n m_c) (G6 m_e)
     clear HS3 HT3 U3 P3 Q3 M3 hb3 V3
     go_wp2_with fail
     go_roundw
     case rel=>exact⟨k+1,p_i,p_g,p_o,p_n,p_c,p_e,m_i,m_g,m_o,m_n,m_c,m_e,hlt,by go_num,HS4.out,HT4.out,U4.out,V4.out,by rw[em3.out];exact P4.out,by rw[ex3.out];exact Q4'.out,hb4⟩
     case measure=>simp[intOf];omega
    ·have em2:mn E (k+1)=mn E k:=by have:=em.out;rw[if_neg hA] at this;exact this
     have ex2:mx E (k+1)=mx E k:=by have:=ex.out;rw[if_neg hB] at this;exact this
     have em3:=aK em2
     have ex3:=aK ex2
     clear em2 ex2 em ex
     go_wp2_with fail
     have B0:Below wr.heap.size wr wr.drew:=(ap _).drew
     have KK:∀ W,Below wr.heap.size wr W->(W.cell? ⟨b,off+(k+1)*4,none⟩=some (G6 m_i)∧W.cell? ⟨b,off+(k+1)*4+1,none⟩=some (.bool m_g)∧W.cell? ⟨b,off+(k+1)*4+2,none⟩=some (.slice m_o m_n m_c)∧W.cell? ⟨b,off+(k+1)*4+3,none⟩=some (G6 m_e))∧(W.cell? ⟨w.heap.size+1+1,0,none⟩=some (G6 p_i)∧W.cell? ⟨w.heap.size+1+1,1,none⟩=some (.bool p_g)∧W.cell? ⟨w.heap.size+1+1,2,none⟩=some (.slice p_o p_n p_c)∧W.cell? ⟨w.heap.size+1+1,3,none⟩=some (G6 p_e)):=fun W hW=>⟨hcl W (ac hbw hW),ae (aB hW HU.out) 0 rfl,ae (aB hW HU.out) 1 rfl,ae (aB hW HU.out) 2 rfl,ae (aB hW HU.out) 3 rfl⟩
     go_region_held3 (fun W=>(W.cell? ⟨b,off+(k+1)*4,none⟩=some (G6 m_i)∧W.cell? ⟨b,off+(k+1)*4+1,none⟩=some (.bool m_g)∧W.cell? ⟨b,off+(k+1)*4+2,none⟩=some (.slice m_o m_n m_c)∧W.cell? ⟨b,off+(k+1)*4+3,none⟩=some (G6 m_e))∧(W.cell? ⟨w.heap.size+1+1,0,none⟩=some (G6 p_i)∧W.cell? ⟨w.heap.size+1+1,1,none⟩=some (.bool p_g)∧W.cell? ⟨w.heap.size+1+1,2,none⟩=some (.slice p_o p_n p_c)∧W.cell? ⟨w.heap.size+1+1,3,none⟩=some (G6 p_e)))
      (first|assumption|exact KK _ B0|exact KK _ B1|fail)
      ((go_at_call 173;refine(O1.out _ B0).mono ?_;rintro _ y1 ⟨rfl,hs1⟩;have B1:=ac B0 hs1))
     clear KK O1 B0 hs1
     have HS1:=aK (aB B1 HS.out)
     have HT1:=aK (aB B1 HT.out)
     have U1:=aB B1 HU.out
     have HV1:=aK (aB B1 HV.out)
     have P1:=aK (HP.out.keeps B1)
     have Q1:=aK (HQ.out.keeps B1)
     have M1:=aK (hx.keeps B1)
     have hb1:=ac hbw B1
     clear HS HT HU HV HP HQ hx hbw B1
     have U2:=aK U1
     have HS2:=HS1
     have HT2:=HT1
     have HV2:=HV1
     have P2:=P1
     have Q2:=Q1
     have M2:=M1
     have hb2:=hb1
     clear U1 HS1 HT1 HV1 P1 Q1 M1 hb1
     go_wp2_with fail
     generalize y1=y2 at HS2 HT2 U2 HV2 P2 Q2 M2 hb2 ⊢
     have B0:Below y2.heap.size y2 y2.drew:=(ap _).drew
     have KK:∀ W,Below y2.heap.size y2 W->(W.cell? ⟨b,off+(k+1)*4,none⟩=some (G6 m_i)∧W.cell? ⟨b,off+(k+1)*4+1,none⟩=some (.bool m_g)∧W.cell? ⟨b,off+(k+1)*4+2,none⟩=some (.slice m_o m_n m_c)∧W.cell? ⟨b,off+(k+1)*4+3,none⟩=some (G6 m_e))∧(W.cell? ⟨w.heap.size+1+1+1,0,none⟩=some (G6 q_i)∧W.cell? ⟨w.heap.size+1+1+1,1,none⟩=some (.bool q_g)∧W.cell? ⟨w.heap.size+1+1+1,2,none⟩=some (.slice q_o q_n q_c)∧W.cell? ⟨w.heap.size+1+1+1,3,none⟩=some (G6 q_e)):=fun W hW=>⟨hcl W (ac hb2 hW),ae (aB hW HV2.out) 0 rfl,ae (aB hW HV2.out) 1 rfl,ae (aB hW HV2.out) 2 rfl,ae (aB hW HV2.out) 3 rfl⟩
     go_region_held3 (fun W=>(W.cell? ⟨b,off+(k+1)*4,none⟩=some (G6 m_i)∧W.cell? ⟨b,off+(k+1)*4+1,none⟩=some (.bool m_g)∧W.cell? ⟨b,off+(k+1)*4+2,none⟩=some (.slice m_o m_n m_c)∧W.cell? ⟨b,off+(k+1)*4+3,none⟩=some (G6 m_e))∧(W.cell? ⟨w.heap.size+1+1+1,0,none⟩=some (G6 q_i)∧W.cell? ⟨w.heap.size+1+1+1,1,none⟩=some (.bool q_g)∧W.cell? ⟨w.heap.size+1+1+1,2,none⟩=some (.slice q_o q_n q_c)∧W.cell? ⟨w.heap.size+1+1+1,3,none⟩=some (G6 q_e)))
      (first|assumption|exact KK _ B0|exact KK _ B1|fail)
      ((go_at_call 173;refine(O2.out _ _ (Q2.out.keeps B0) (M2.out.keeps B0)).mono ?_;rintro _ y3 ⟨rfl,hs1⟩;have B1:=ac B0 hs1))
     clear KK O2 B0 hs1
     have HS3:=aK (aB B1 HS2.out)
     have HT3:=aK (aB B1 HT2.out)
     have U3:=aK (aB B1 U2.out)
     have V3:=aB B1 HV2.out
     have P3:=aK (P2.out.keeps B1)
     have Q3:=aK (Q2.out.keeps B1)
     have M3:=aK (M2.out.keeps B1)
     have hb3:=ac hb2 B1
     clear HS2 HT2 U2 HV2 P2 Q2 M2 hb2 B1
     have V4:=aK V3
     have HS4:=HS3
     have HT4:=HT3
     have U4:=U3
     have P4:=P3
     have Q4':=Q3
     have hb4:=hb3
     clear HS3 HT3 U3 V3 P3 Q3 M3 hb3
     go_wp2_with fail
     go_roundw
     case rel=>exact⟨k+1,p_i,p_g,p_o,p_n,p_c,p_e,q_i,q_g,q_o,q_n,q_c,q_e,hlt,by go_num,HS4.out,HT4.out,U4.out,V4.out,by rw[em3.out];exact P4.out,by rw[ex3.out];exact Q4'.out,hb4⟩
     case measure=>simp[intOf];omega
  ·obtain rfl:n=k+1:=by omega
   have e1:k+1-1=k:=by omega
   replace e1:=aK e1
   clear h i0 h0 oE bE hlt
   have s_k:=HS.out
   have t_k:=HT.out
   clear HS HT
   go_wp2_with fail
   have kd:wr.drew.cell? ⟨w.heap.size+1+1,0,none⟩=some (G6 p_i)∧wr.drew.cell? ⟨w.heap.size+1+1,1,none⟩=some (.bool p_g)∧wr.drew.cell? ⟨w.heap.size+1+1,2,none⟩=some (.slice p_o p_n p_c)∧wr.drew.cell? ⟨w.heap.size+1+1,3,none⟩=some (G6 p_e)∧wr.drew.cell? ⟨w.heap.size+1+1+1,0,none⟩=some (G6 q_i)∧wr.drew.cell? ⟨w.heap.size+1+1+1,1,none⟩=some (.bool q_g)∧wr.drew.cell? ⟨w.heap.size+1+1+1,2,none⟩=some (.slice q_o q_n q_c)∧wr.drew.cell? ⟨w.heap.size+1+1+1,3,none⟩=some (G6 q_e):=⟨ae HU.out 0 rfl,ae HU.out 1 rfl,ae HU.out 2 rfl,ae HU.out 3 rfl,ae HV.out 0 rfl,ae HV.out 1 rfl,ae HV.out 2 rfl,ae HV.out 3 rfl⟩
   have f_s0:=ae s_k 0 rfl
   have f_s1:=ae s_k 1 rfl
   have f_s2:=ae s_k 2 rfl
   have f_s3:=ae s_k 3 rfl
   have z_s0:=ah s_k 0
   have z_s1:=ah s_k 1
   have z_s2:=ah s_k 2
   have z_s3:=ah s_k 3
   have f_t0:=ae t_k 0 rfl
   have f_t1:=ae t_k 1 rfl
   have f_t2:=ae t_k 2 rfl
   have f_t3:=ae t_k 3 rfl
   have z_t0:=ah t_k 0
   have z_t1:=ah t_k 1
   have z_t2:=ah t_k 2
   have z_t3:=ah t_k 3
   have n0:w.heap.size+1+1≠w.heap.size:=by omega
   have n1:w.heap.size+1+1≠w.heap.size+1:=by omega
   have n2:w.heap.size+1+1+1≠w.heap.size:=by omega
   have n3:w.heap.size+1+1+1≠w.heap.size+1:=by omega
   have kw:wr.cell? ⟨w.heap.size+1+1,0,none⟩=some (G6 p_i)∧wr.cell? ⟨w.heap.size+1+1,1,none⟩=some (.bool p_g)∧wr.cell? ⟨w.heap.size+1+1,2,none⟩=some (.slice p_o p_n p_c)∧wr.cell? ⟨w.heap.size+1+1,3,none⟩=some (G6 p_e)∧wr.cell? ⟨w.heap.size+1+1+1,0,none⟩=some (G6 q_i)∧wr.cell? ⟨w.heap.size+1+1+1,1,none⟩=some (.bool q_g)∧wr.cell? ⟨w.heap.size+1+1+1,2,none⟩=some (.slice q_o q_n q_c)∧wr.cell? ⟨w.heap.size+1+1+1,3,none⟩=some (G6 q_e):=⟨ae HU.out 0 rfl,ae HU.out 1 rfl,ae HU.out 2 rfl,ae HU.out 3 rfl,ae HV.out 0 rfl,ae HV.out 1 rfl,ae HV.out 2 rfl,ae HV.out 3 rfl⟩
   have kA':=tX n0 n2 kw (G6 p_i) (.bool p_g) (.slice p_o p_n p_c) (G6 p_e)
   have kB':=tX n1 n3 kw (G6 q_i) (.bool q_g) (.slice q_o q_n q_c) (G6 q_e)
   have kAB':=tX n1 n3 kA' (G6 q_i) (.bool q_g) (.slice q_o q_n q_c) (G6 q_e)
   have kBA':=tX n0 n2 kB' (G6 p_i) (.bool p_g) (.slice p_o p_n p_c) (G6 p_e)
   have kA:=zd kA'
   have kB:=zd kB'
   have kAB:=zd kAB'
   have kBA:=zd kBA'
   clear kw kA' kB' kAB' kBA'
   go_region_held3 (fun W=>W.cell? ⟨w.heap.size+1+1,0,none⟩=some (G6 p_i)∧W.cell? ⟨w.heap.size+1+1,1,none⟩=some (.bool p_g)∧W.cell? ⟨w.heap.size+1+1,2,none⟩=some (.slice p_o p_n p_c)∧W.cell? ⟨w.heap.size+1+1,3,none⟩=some (G6 p_e)∧W.cell? ⟨w.heap.size+1+1+1,0,none⟩=some (G6 q_i)∧W.cell? ⟨w.heap.size+1+1+1,1,none⟩=some (.bool q_g)∧W.cell? ⟨w.heap.size+1+1+1,2,none⟩=some (.slice q_o q_n q_c)∧W.cell? ⟨w.heap.size+1+1+1,3,none⟩=some (G6 q_e))
    (first|with_reducible assumption|with_reducible exact kd|with_reducible exact kA|with_reducible exact kB|with_reducible exact kAB|with_reducible exact kBA|fail)
    (fail)
   have s2:=mF s_k (G6 p_i) (.bool p_g) (.slice p_o p_n p_c) (G6 p_e)
   have t2:=fE t_k (show w.heap.size+1≠w.heap.size by omega) (G6 p_i) (.bool p_g) (.slice p_o p_n p_c) (G6 p_e)
   have s3:=fE s2 (show w.heap.size≠w.heap.size+1 by omega) (G6 q_i) (.bool q_g) (.slice q_o q_n q_c) (G6 q_e)
   have t3:=mF t2 (G6 q_i) (.bool q_g) (.slice q_o q_n q_c) (G6 q_e)
   have P3:=((HP.out.set4 s_k (G6 p_i) (.bool p_g) (.slice p_o p_n p_c) (G6 p_e)).set4 t2 (G6 q_i) (.bool q_g) (.slice q_o q_n q_c) (G6 q_e)).keeps (ap _).drew
   have Q3:=((HQ.out.set4 s_k (G6 p_i) (.bool p_g) (.slice p_o p_n p_c) (G6 p_e)).set4 t2 (G6 q_i) (.bool q_g) (.slice q_o q_n q_c) (G6 q_e)).keeps (ap _).drew
   have hb3:=(mE (mE hbw (Nat.le_refl _) (G6 p_i) (.bool p_g) (.slice p_o p_n p_c) (G6 p_e)) (show w.heap.size<=w.heap.size+1 by omega) (G6 q_i) (.bool q_g) (.slice q_o q_n q_c) (G6 q_e)).drew
   have e_s0:=(ks _ _).trans (ae s3 0 rfl)
   have e_s1:=(ks _ _).trans (ae s3 1 rfl)
   have e_s2:=(ks _ _).trans (ae s3 2 rfl)
   have e_s3:=(ks _ _).trans (ae s3 3 rfl)
   have e_t0:=(ks _ _).trans (ae t3 0 rfl)
   have e_t1:=(ks _ _).trans (ae t3 1 rfl)
   have e_t2:=(ks _ _).trans (ae t3 2 rfl)
   have e_t3:=(ks _ _).trans (ae t3 3 rfl)
   clear kd kA kB kAB kBA s2 t2 s3 t3 s_k t_k HU HV HP HQ f_s0 z_s0 f_s1 z_s1 f_s2 z_s2 f_s3 z_s3 f_t0 z_t0 f_t1 z_t1 f_t2 z_t2 f_t3 z_t3
   generalize ((((((((wr.setCell ⟨w.heap.size,0,none⟩ (G6 p_i)).setCell ⟨w.heap.size,1,none⟩ (.bool p_g)).setCell ⟨w.heap.size,2,none⟩ (.slice p_o p_n p_c)).setCell ⟨w.heap.size,3,none⟩ (G6 p_e)).setCell ⟨w.heap.size+1,0,none⟩ (G6 q_i)).setCell ⟨w.heap.size+1,1,none⟩ (.bool q_g)).setCell ⟨w.heap.size+1,2,none⟩ (.slice q_o q_n q_c)).setCell ⟨w.heap.size+1,3,none⟩ (G6 q_e)).drew=yy at P3 Q3 hb3 e_s0 e_s1 e_s2 e_s3 e_t0 e_t1 e_t2 e_t3 ⊢
   go_wp2
   refine bodyPost_ret (v:=.tuple #[.agg #[G6 p_i,.bool p_g,.slice p_o p_n p_c,G6 p_e],.agg #[G6 q_i,.bool q_g,.slice q_o q_n q_c,G6 q_e]]) (by simp[results,results109,go_sem,e_s0,e_s1,e_s2,e_s3,e_t0,e_t1,e_t2,e_t3]) rfl ⟨_,_,rfl,by rw[e1.out];exact P3,by rw[e1.out];exact Q3,hb3⟩
theorem IH {p g o:Nat} {x0 x1 val:Value} {W:World} (hp:p≠g) (h:W.cell? ⟨p,0,none⟩=some x0∧W.cell? ⟨p,1,none⟩=some x1) :
  (W.setCell ⟨g,o,none⟩ val).cell? ⟨p,0,none⟩=some x0∧(W.setCell ⟨g,o,none⟩ val).cell? ⟨p,1,none⟩=some x1:=by
 have hp':∀ k:Nat,(W.setCell ⟨g,o,none⟩ val).cell? ⟨p,k,none⟩=W.cell? ⟨p,k,none⟩:=fun k=>World.cell?_setCell_far _ _ _ _ (Ne.symm hp)
 rw[hp',hp']
 exact h
theorem tY {p q g o:Nat} {x0 x1 x2 x3 val:Value} {W:World} (hp:p≠g) (hq:q≠g) (h:W.cell? ⟨p,0,none⟩=some x0∧W.cell? ⟨p,1,none⟩=some x1∧W.cell? ⟨q,0,none⟩=some x2∧W.cell? ⟨q,1,none⟩=some x3) :
  (W.setCell ⟨g,o,none⟩ val).cell? ⟨p,0,none⟩=some x0∧(W.setCell ⟨g,o,none⟩ val).cell? ⟨p,1,none⟩=some x1∧(W.setCell ⟨g,o,none⟩ val).cell? ⟨q,0,none⟩=some x2∧(W.setCell ⟨g,o,none⟩ val).cell? ⟨q,1,none⟩=some x3:=by
 have hp':∀ k:Nat,(W.setCell ⟨g,o,none⟩ val).cell? ⟨p,k,none⟩=W.cell? ⟨p,k,none⟩:=fun k=>World.cell?_setCell_far _ _ _ _ (Ne.symm hp)
 have hq':∀ k:Nat,(W.setCell ⟨g,o,none⟩ val).cell? ⟨q,k,none⟩=W.cell? ⟨q,k,none⟩:=fun k=>World.cell?_setCell_far _ _ _ _ (Ne.symm hq)
 rw[hp',hp',hq',hq']
 exact h
theorem La:Bd 4000 0:=by
 have:=iN 0
 rw[kJ.1] at this
 exact this
theorem gm (p:Int):Bd 4000 (aA p).v:=by
 by_cases h:rg p=9218868437227405312
 ·rw[ie h];exact La
 ·rw[gA h];exact iN p
theorem DX {a b:En} (ha:Bd 4000 a.v) (hb:Bd 4000 b.v):Bd 4001 (bO a b).v:=by
 by_cases i:a.i=0
 ·by_cases j:b.i=0
  ·rw[rN i j];exact ha.add hb (by omega)
  ·rw[wi i j];exact hb.up (by omega) (by omega)
 ·rw[wh i];exact ha.up (by omega) (by omega)
theorem II {a:En} (h:Bd 4000 a.v):Bd 4000 (cK a).v:=h.neg
theorem IJ {a b c d:Int} (na:nn a) (nb:nn b) (nc:nn c) (nd:nn d) (w:World) :
    Calls prog 46 #[.agg #[G6 a,G6 b],.agg #[G6 c,G6 d]] w fun e w'=>e=.returned (.agg #[G6 (cD (bO (aA a) (aA c))),G6 (cF (bO (aA b) (aA d)))])∧Below w.heap.size w w':=by
  have T:Hid (∀ (u v:Value) W,EA W u (bO (aA a) (aA c))->EA W v (bO (aA b) (aA d))->Calls prog 106 #[u,v] W fun r w'=>r=.returned (.agg #[G6 (cD (bO (aA a) (aA c))),G6 (cF (bO (aA b) (aA d)))])∧Below W.heap.size W w'):=fun u v W hu hv=>wu hu.ev hv.ev (fun _=>(DX (gm _) (gm _)).ok (by omega)) (fun _=>(DX (gm _) (gm _)).ok (by omega))
  generalize cD (bO (aA a) (aA c))=X at *
  generalize cF (bO (aA b) (aA d))=Y at *
  have hb:=ap w
  go_enter func46,ntmps46
  have s_k:(w.alloc (.cells #[G6 a,G6 b] 72)).heap[w.heap.size]?=some (.cells #[G6 a,G6 b] 72):=aE (.cells #[G6 a,G6 b] 72) (by simp only[aw])
  have hb:=ac hb (af w (.cells #[G6 a,G6 b] 72))
  have s_k:=am (.cells #[G6 c,G6 d] 72) s_k
  have t_k:((w.alloc (.cells #[G6 a,G6 b] 72)).alloc (.cells #[G6 c,G6 d] 72)).heap[w.heap.size+1]?=some (.cells #[G6 c,G6 d] 72):=aE (.cells #[G6 c,G6 d] 72) (by simp only[aw])
  have hb:=ac hb (af (w.alloc (.cells #[G6 a,G6 b] 72)) (.cells #[G6 c,G6 d] 72))
  have s_k:=am (.cells #[G6 0,G6 0] 72) s_k
  have t_k:=am (.cells #[G6 0,G6 0] 72) t_k
  have r_k:(((w.alloc (.cells #[G6 a,G6 b] 72)).alloc (.cells #[G6 c,G6 d] 72)).alloc (.cells #[G6 0,G6 0] 72)).heap[w.heap.size+1+1]?=some (.cells #[G6 0,G6 0] 72):=aE (.cells #[G6 0,G6 0] 72) (by simp only[aw])
  have hb:=ac hb (af ((w.alloc (.cells #[G6 a,G6 b] 72)).alloc (.cells #[G6 c,G6 d] 72)) (.cells #[G6 0,G6 0] 72))
  go_wp2_with fail
  generalize (((w.alloc (.cells #[G6 a,G6 b] 72)).alloc (.cells #[G6 c,G6 d] 72)).alloc (.cells #[G6 0,G6 0] 72))=x1 at s_k t_k r_k hb ⊢
  have KK:∀ W,Below x1.heap.size x1 W->W.cell? ⟨w.heap.size,0,none⟩=some (G6 a)∧W.cell? ⟨w.heap.size,1,none⟩=some (G6 b)∧W.cell? ⟨w.heap.size+1,0,none⟩=some (G6 c)∧W.cell? ⟨w.heap.size+1,1,none⟩=some (G6 d):=fun W hW=>⟨ar (ae s_k 0 rfl) hW,ar (ae s_k 1 rfl) hW,ar (ae t_k 0 rfl) hW,ar (ae t_k 1 rfl) hW⟩
  have B0:Below x1.heap.size x1 x1.drew:=(ap _).drew
  have n_s:w.heap.size≠w.heap.size+1+1:=by omega
  have n_t:w.heap.size+1≠w.heap.size+1+1:=by omega
  go_region_held3 (fun W=>W.cell? ⟨w.heap.size,0,none⟩=some (G6 a)∧W.cell? ⟨w.heap.size,1,none⟩=some (G6 b)∧W.cell? ⟨w.heap.size+1,0,none⟩=some (G6 c)∧W.cell? ⟨w.heap.size+1,1,none⟩=some (G6 d))
    (first|assumption|exact KK _ B0|exact KK _ B1|exact KK _ B2|exact KK _ B3|exact KK _ B4|exact KK _ B5|exact KK _ B6|exact KK _ B7|(refine tY n_s n_t (tY n_s n_t ?_);exact KK _ B7)|fail)
    (first
      | (go_at_call 106;have _t:=hs6;refine(T.out _ _ _ (E3.keeps (ac hs4 (ac hs5 hs6))) E6).mono ?_;rintro _ y_7 ⟨rfl,hs7⟩;have B7:=ac B6 hs7;have r_k:=aB B7 r_k;have f_r0:=ae r_k 0 rfl;have f_r1:=ae r_k 1 rfl;have z_r0:=ah r_k 0;have z_r1:=ah r_k 1)
      | (go_at_call 107;have _t:=hs5;refine(ID (E4.keeps hs5) E5 (K:=4000) (by omega) (gm _) (gm _)).mono ?_;rintro _ y_6 ⟨v6,rfl,E6,hs6⟩;have B6:=ac B5 hs6)
      | (go_at_call 108;have _t:=hs4;refine(lZ nd _).mono ?_;rintro _ y_5 ⟨v5,rfl,E5,hs5⟩;have B5:=ac B4 hs5)
      | (go_at_call 108;have _t:=hs3;refine(lZ nb _).mono ?_;rintro _ y_4 ⟨v4,rfl,E4,hs4⟩;have B4:=ac B3 hs4)
      | (go_at_call 107;have _t:=hs2;refine(ID (E1.keeps hs2) E2 (K:=4000) (by omega) (gm _) (gm _)).mono ?_;rintro _ y_3 ⟨v3,rfl,E3,hs3⟩;have B3:=ac B2 hs3)
      | (go_at_call 108;have _t:=hs1;refine(lZ nc _).mono ?_;rintro _ y_2 ⟨v2,rfl,E2,hs2⟩;have B2:=ac B1 hs2)
      | (go_at_call 108; refine (lZ na _).mono ?_; rintro _ y_1 ⟨v1,rfl,E1,hs1⟩; have B1:=ac B0 hs1))
  have hb:=ac hb B7
  have f_r0:=ae r_k 0 rfl
  have z_r0:=ah r_k 0
  have d_r0:=az r_k 0 (G6 X)
  have f_r1:=ae r_k 1 rfl
  have z_r1:=ah r_k 1
  have d_r1:=az d_r0 1 (G6 Y)
  have e_r0:=ae d_r1 0 rfl
  have e_r1:=ae d_r1 1 rfl
  have hbe:=((hb.setCell (p:=⟨w.heap.size+1+1,0,none⟩) (show w.heap.size<=w.heap.size+1+1 by omega) (G6 X)).setCell (p:=⟨w.heap.size+1+1,1,none⟩) (show w.heap.size<=w.heap.size+1+1 by omega) (G6 Y))
  clear r_k d_r0 d_r1
  go_wp2
  refine bodyPost_ret (v:=.agg #[G6 X,G6 Y]) (by simp[results,results46,go_sem,e_r0,e_r1]) rfl ⟨rfl,hbe⟩
theorem Rt {a b:Int} (na:nn a) (nb:nn b) (w:World) :
    Calls prog 174 #[.agg #[G6 a,G6 b]] w fun e w'=>e=.returned (.agg #[G6 (cD (cK (aA b))),G6 (cF (cK (aA a)))])∧Below w.heap.size w w':=by
  have T:Hid (∀ (u v:Value) W,EA W u (cK (aA b))->EA W v (cK (aA a))->Calls prog 106 #[u,v] W fun r w'=>r=.returned (.agg #[G6 (cD (cK (aA b))),G6 (cF (cK (aA a)))])∧Below W.heap.size W w'):=fun u v W hu hv=>wu hu.ev hv.ev (fun _=>(II (gm _)).ok (by omega)) (fun _=>(II (gm _)).ok (by omega))
  generalize cD (cK (aA b))=X at *
  generalize cF (cK (aA a))=Y at *
  have hb:=ap w
  go_enter func174,ntmps174
  have s_k:(w.alloc (.cells #[G6 a,G6 b] 72)).heap[w.heap.size]?=some (.cells #[G6 a,G6 b] 72):=aE (.cells #[G6 a,G6 b] 72) (by simp only[aw])
  have hb:=ac hb (af w (.cells #[G6 a,G6 b] 72))
  have s_k:=am (.cells #[G6 0,G6 0] 72) s_k
  have r_k:((w.alloc (.cells #[G6 a,G6 b] 72)).alloc (.cells #[G6 0,G6 0] 72)).heap[w.heap.size+1]?=some (.cells #[G6 0,G6 0] 72):=aE (.cells #[G6 0,G6 0] 72) (by simp only[aw])
  have hb:=ac hb (af (w.alloc (.cells #[G6 a,G6 b] 72)) (.cells #[G6 0,G6 0] 72))
  go_wp2_with fail
  generalize ((w.alloc (.cells #[G6 a,G6 b] 72)).alloc (.cells #[G6 0,G6 0] 72))=x1 at s_k r_k hb ⊢
  have KK:∀ W,Below x1.heap.size x1 W->W.cell? ⟨w.heap.size,0,none⟩=some (G6 a)∧W.cell? ⟨w.heap.size,1,none⟩=some (G6 b):=fun W hW=>⟨ar (ae s_k 0 rfl) hW,ar (ae s_k 1 rfl) hW⟩
  have B0:Below x1.heap.size x1 x1.drew:=(ap _).drew
  have n_s:w.heap.size≠w.heap.size+1:=by omega
  go_region_held3 (fun W=>W.cell? ⟨w.heap.size,0,none⟩=some (G6 a)∧W.cell? ⟨w.heap.size,1,none⟩=some (G6 b))
    (first|assumption|exact KK _ B0|exact KK _ B1|exact KK _ B2|exact KK _ B3|exact KK _ B4|exact KK _ B5|(refine IH n_s (IH n_s ?_);exact KK _ B5)|fail)
    (first
      | (go_at_call 106;have _t:=hs4;refine(T.out _ _ _ (E2.keeps (ac hs3 hs4)) E4).mono ?_;rintro _ y_5 ⟨rfl,hs5⟩;have B5:=ac B4 hs5;have r_k:=aB B5 r_k;have f_r0:=ae r_k 0 rfl;have f_r1:=ae r_k 1 rfl;have z_r0:=ah r_k 0;have z_r1:=ah r_k 1)
      | (go_at_call 231;have _t:=hs3;refine(DW E3 (dT _)).mono ?_;rintro _ y_4 ⟨v4,rfl,E4,hs4⟩;have B4:=ac B3 hs4)
      | (go_at_call 108;have _t:=hs2;refine(lZ na _).mono ?_;rintro _ y_3 ⟨v3,rfl,E3,hs3⟩;have B3:=ac B2 hs3)
      | (go_at_call 231;have _t:=hs1;refine(DW E1 (dT _)).mono ?_;rintro _ y_2 ⟨v2,rfl,E2,hs2⟩;have B2:=ac B1 hs2)
      | (go_at_call 108; refine (lZ nb _).mono ?_; rintro _ y_1 ⟨v1,rfl,E1,hs1⟩; have B1:=ac B0 hs1))
  have hb:=ac hb B5
  have f_r0:=ae r_k 0 rfl
  have z_r0:=ah r_k 0
  have d_r0:=az r_k 0 (G6 X)
  have f_r1:=ae r_k 1 rfl
  have z_r1:=ah r_k 1
  have d_r1:=az d_r0 1 (G6 Y)
  have e_r0:=ae d_r1 0 rfl
  have e_r1:=ae d_r1 1 rfl
  have hbe:=((hb.setCell (p:=⟨w.heap.size+1,0,none⟩) (show w.heap.size<=w.heap.size+1 by omega) (G6 X)).setCell (p:=⟨w.heap.size+1,1,none⟩) (show w.heap.size<=w.heap.size+1 by omega) (G6 Y))
  clear r_k d_r0 d_r1
  go_wp2
  refine bodyPost_ret (v:=.agg #[G6 X,G6 Y]) (by simp[results,results174,go_sem,e_r0,e_r1]) rfl ⟨rfl,hbe⟩
theorem NX {a b c d:Int} (na:nn a) (nb:nn b) (nc:nn c) (nd:nn d) (w:World) :
    Calls prog 111 #[.agg #[G6 a,G6 b],.agg #[G6 c,G6 d]] w fun e w'=>e=.returned (.agg #[G6 (cD (bO (aA a) (cK (aA d)))),G6 (cF (bO (aA b) (cK (aA c))))])∧Below w.heap.size w w':=by
  have ec:aA (cF (cK (aA c)))=cK (aA c):=by rw[<- wg nc,(lW (ff nc).1).2,mC (ff nc).1]
  have ed:aA (cD (cK (aA d)))=cK (aA d):=by rw[<- wg nd,(lW (ff nd).1).1,mC (ff nd).1]
  have CN:Hid (∀ W,Calls prog 174 #[.agg #[G6 c,G6 d]] W fun e w'=>e=.returned (.agg #[G6 (cD (cK (aA d))),G6 (cF (cK (aA c)))])∧Below W.heap.size W w'):=fun W=>Rt nc nd W
  have CP:Hid (∀ W,Calls prog 46 #[.agg #[G6 a,G6 b],.agg #[G6 (cD (cK (aA d))),G6 (cF (cK (aA c)))]] W fun e w'=>e=.returned (.agg #[G6 (cD (bO (aA a) (cK (aA d)))),G6 (cF (bO (aA b) (cK (aA c))))])∧Below W.heap.size W w'):=fun W=>by
    have:=IJ na nb (tk (cK (aA d))).1 (tk (cK (aA c))).2 W
    rw[ec,ed] at this
    exact this
  generalize cD (bO (aA a) (cK (aA d)))=X at *
  generalize cF (bO (aA b) (cK (aA c)))=Y at *
  generalize cD (cK (aA d))=P0 at *
  generalize cF (cK (aA c))=Q0 at *
  clear ec ed
  have hb:=ap w
  go_enter func111,ntmps111
  have s_k:(w.alloc (.cells #[G6 a,G6 b] 72)).heap[w.heap.size]?=some (.cells #[G6 a,G6 b] 72):=aE (.cells #[G6 a,G6 b] 72) (by simp only[aw])
  have hb:=ac hb (af w (.cells #[G6 a,G6 b] 72))
  have s_k:=am (.cells #[G6 c,G6 d] 72) s_k
  have t_k:((w.alloc (.cells #[G6 a,G6 b] 72)).alloc (.cells #[G6 c,G6 d] 72)).heap[w.heap.size+1]?=some (.cells #[G6 c,G6 d] 72):=aE (.cells #[G6 c,G6 d] 72) (by simp only[aw])
  have hb:=ac hb (af (w.alloc (.cells #[G6 a,G6 b] 72)) (.cells #[G6 c,G6 d] 72))
  have s_k:=am (.cells #[G6 0,G6 0] 72) s_k
  have t_k:=am (.cells #[G6 0,G6 0] 72) t_k
  have r_k:(((w.alloc (.cells #[G6 a,G6 b] 72)).alloc (.cells #[G6 c,G6 d] 72)).alloc (.cells #[G6 0,G6 0] 72)).heap[w.heap.size+1+1]?=some (.cells #[G6 0,G6 0] 72):=aE (.cells #[G6 0,G6 0] 72) (by simp only[aw])
  have hb:=ac hb (af ((w.alloc (.cells #[G6 a,G6 b] 72)).alloc (.cells #[G6 c,G6 d] 72)) (.cells #[G6 0,G6 0] 72))
  go_wp2_with fail
  generalize (((w.alloc (.cells #[G6 a,G6 b] 72)).alloc (.cells #[G6 c,G6 d] 72)).alloc (.cells #[G6 0,G6 0] 72))=x1 at s_k t_k r_k hb ⊢
  have KK:∀ W,Below x1.heap.size x1 W->W.cell? ⟨w.heap.size,0,none⟩=some (G6 a)∧W.cell? ⟨w.heap.size,1,none⟩=some (G6 b)∧W.cell? ⟨w.heap.size+1,0,none⟩=some (G6 c)∧W.cell? ⟨w.heap.size+1,1,none⟩=some (G6 d):=fun W hW=>⟨ar (ae s_k 0 rfl) hW,ar (ae s_k 1 rfl) hW,ar (ae t_k 0 rfl) hW,ar (ae t_k 1 rfl) hW⟩
  have B0:Below x1.heap.size x1 x1.drew:=(ap _).drew
  have n_s:w.heap.size≠w.heap.size+1+1:=by omega
  have n_t:w.heap.size+1≠w.heap.size+1+1:=by omega
  go_region_held3 (fun W=>W.cell? ⟨w.heap.size,0,none⟩=some (G6 a)∧W.cell? ⟨w.heap.size,1,none⟩=some (G6 b)∧W.cell? ⟨w.heap.size+1,0,none⟩=some (G6 c)∧W.cell? ⟨w.heap.size+1,1,none⟩=some (G6 d))
    (first|assumption|exact KK _ B0|exact KK _ B1|exact KK _ B2|(refine tY n_s n_t (tY n_s n_t ?_);exact KK _ B2)|fail)
    (first
      | (go_at_call 46;have _t:=hs1;refine(CP.out _).mono ?_;rintro _ y_2 ⟨rfl,hs2⟩;have B2:=ac B1 hs2;have r_k:=aB B2 r_k;have f_r0:=ae r_k 0 rfl;have f_r1:=ae r_k 1 rfl;have z_r0:=ah r_k 0;have z_r1:=ah r_k 1)
      | (go_at_call 174; refine (CN.out _).mono ?_; rintro _ y_1 ⟨rfl,hs1⟩; have B1:=ac B0 hs1))
  have hb:=ac hb B2
  have f_r0:=ae r_k 0 rfl
  have z_r0:=ah r_k 0
  have d_r0:=az r_k 0 (G6 X)
  have f_r1:=ae r_k 1 rfl
  have z_r1:=ah r_k 1
  have d_r1:=az d_r0 1 (G6 Y)
  have e_r0:=ae d_r1 0 rfl
  have e_r1:=ae d_r1 1 rfl
  have hbe:=((hb.setCell (p:=⟨w.heap.size+1+1,0,none⟩) (show w.heap.size<=w.heap.size+1+1 by omega) (G6 X)).setCell (p:=⟨w.heap.size+1+1,1,none⟩) (show w.heap.size<=w.heap.size+1+1 by omega) (G6 Y))
  clear r_k d_r0 d_r1
  go_wp2
  refine bodyPost_ret (v:=.agg #[G6 X,G6 Y]) (by simp[results,results111,go_sem,e_r0,e_r1]) rfl ⟨rfl,hbe⟩
theorem DY {a:Int} (na:nn a) (w:World):Calls prog 112 #[G6 a] w fun e w'=>e=.returned (.agg #[G6 (aL a),G6 (aL a)])∧Below w.heap.size w w':=by
 have T:Hid (∀ (u v:Value) W,EA W u (aA a)->EA W v (aA a)->Calls prog 106 #[u,v] W fun r w'=>r=.returned (.agg #[G6 (aL a),G6 (aL a)])∧Below W.heap.size W w'):=fun u v W hu hv=>by
  have:=wu hu.ev hv.ev (fun _=>(gm _).ok (by omega)) (fun _=>(gm _).ok (by omega))
  rw[(lW na).1,(lW na).2] at this
  exact this
 generalize aL a=X at *
 have hb:=ap w
 go_enter func112,ntmps112
 have r_k:(w.alloc (.cells #[G6 0,G6 0] 72)).heap[w.heap.size]?=some (.cells #[G6 0,G6 0] 72):=aE (.cells #[G6 0,G6 0] 72) (by simp only[aw])
 have hb:=ac hb (af w (.cells #[G6 0,G6 0] 72))
 go_wp2_with fail
 generalize (w.alloc (.cells #[G6 0,G6 0] 72))=x1 at r_k hb ⊢
 refine(lZ na _).mono ?_
 rintro _ y2 ⟨v1,rfl,E1,hs1⟩
 have r_k:=aB hs1 r_k
 have hb:=ac hb hs1
 go_wp2_with fail
 refine(lZ na _).mono ?_
 rintro _ y3 ⟨v2,rfl,E2,hs2⟩
 have r_k:=aB hs2 r_k
 have hb:=ac hb hs2
 go_wp2_with fail
 refine(T.out _ _ _ (E1.keeps hs2) E2).mono ?_
 rintro _ y4 ⟨rfl,hs3⟩
 have r_k:=aB hs3 r_k
 have hb:=ac hb hs3
 have f_r0:=ae r_k 0 rfl
 have z_r0:=ah r_k 0
 have d_r0:=az r_k 0 (G6 X)
 have f_r1:=ae r_k 1 rfl
 have z_r1:=ah r_k 1
 have d_r1:=az d_r0 1 (G6 X)
 have e_r0:=ae d_r1 0 rfl
 have e_r1:=ae d_r1 1 rfl
 have hbe:=((hb.setCell (p:=⟨w.heap.size,0,none⟩) (show w.heap.size<=w.heap.size by omega) (G6 X)).setCell (p:=⟨w.heap.size,1,none⟩) (show w.heap.size<=w.heap.size by omega) (G6 X))
 clear r_k d_r0 d_r1
 go_wp2
 refine bodyPost_ret (v:=.agg #[G6 X,G6 X]) (by simp[results,results112,go_sem,e_r0,e_r1]) rfl ⟨rfl,hbe⟩
theorem Ru {a b:Int} (na:nn a) (nb:nn b) (v:cf a b=true) (w:World):Calls prog 49 #[.agg #[G6 a,G6 b]] w fun e w'=>e=.returned (.tuple #[G6 (rZ a b),.bool (me a b)])∧Below w.heap.size w w':=by
 obtain⟨e1,e2⟩:=Rp na nb v
 have OA:Hid (∀ W,Calls prog 108 #[G6 a] W fun r w'=>∃ v,r=.returned v∧EA w' v (aA a)∧Below W.heap.size W w'):=fun W=>lZ na W
 have OB:Hid (∀ W,Calls prog 108 #[G6 b] W fun r w'=>∃ v,r=.returned v∧EA w' v (aA b)∧Below W.heap.size W w'):=fun W=>lZ nb W
 have SA:Hid (∀ (u:Value) W,EA W u (aA a)->Calls prog 113 #[u] W fun r w'=>r=.returned (G6 (cG (aA a)))∧Below W.heap.size W w'):=fun u W hu=>wk hu.ev
 have SB:Hid (∀ (u:Value) W,EA W u (aA b)->Calls prog 113 #[u] W fun r w'=>r=.returned (G6 (cG (aA b)))∧Below W.heap.size W w'):=fun u W hu=>wk hu.ev
 rw[e2,e1]
 generalize aA a=A at *
 generalize aA b=B at *
 generalize cG A=sa at *
 generalize cG B=sb at *
 clear e1 e2 v na nb
 by_cases h1:0<sa
 ·rw[decide_eq_true h1]
  simp only[Bool.true_or,if_true]
  have hb:=ap w
  go_enter func49,ntmps49
  have s_k:(w.alloc (.cells #[G6 a,G6 b] 72)).heap[w.heap.size]?=some (.cells #[G6 a,G6 b] 72):=aE (.cells #[G6 a,G6 b] 72) (by simp only[aw])
  have hb:=ac hb (af w (.cells #[G6 a,G6 b] 72))
  have f_s0:=ae s_k 0 rfl
  have f_s1:=ae s_k 1 rfl
  go_wp2_with fail
  clear f_s0 f_s1
  generalize (w.alloc (.cells #[G6 a,G6 b] 72))=x1 at s_k hb ⊢
  refine(OA.out _).mono ?_
  rintro _ y2 ⟨z1,rfl,E1,hw⟩
  have s_k:=aB hw s_k
  have hb:=ac hb hw
  go_wp2_with fail
  refine(SA.out _ _ E1).mono ?_
  rintro _ y3 ⟨rfl,hw⟩
  have s_k:=aB hw s_k
  have hb:=ac hb hw
  have f_s0:=ae s_k 0 rfl
  have f_s1:=ae s_k 1 rfl
  go_wp2_with fail
  clear f_s0 f_s1
  refine(OB.out _).mono ?_
  rintro _ y4 ⟨z2,rfl,E2,hw⟩
  have s_k:=aB hw s_k
  have hb:=ac hb hw
  go_wp2_with fail
  refine(SB.out _ _ E2).mono ?_
  rintro _ y5 ⟨rfl,hw⟩
  have s_k:=aB hw s_k
  have hb:=ac hb hw
  go_wp2
  refine bodyPost_ret (v:=.tuple #[G6 sa,.bool true]) (by simp[results,results49,go_sem]) rfl ⟨rfl,hb⟩
 ·rw[decide_eq_false h1]
  by_cases h2:sb<0
  ·rw[decide_eq_true h2]
   simp only[Bool.true_or,Bool.false_or,if_true]
   have hb:=ap w
   go_enter func49,ntmps49
   have s_k:(w.alloc (.cells #[G6 a,G6 b] 72)).heap[w.heap.size]?=some (.cells #[G6 a,G6 b] 72):=aE (.cells #[G6 a,G6 b] 72) (by simp only[aw])
   have hb:=ac hb (af w (.cells #[G6 a,G6 b] 72))
   have f_s0:=ae s_k 0 rfl
   have f_s1:=ae s_k 1 rfl
   go_wp2_with fail
   clear f_s0 f_s1
   generalize (w.alloc (.cells #[G6 a,G6 b] 72))=x1 at s_k hb ⊢
   refine(OA.out _).mono ?_
   rintro _ y2 ⟨z1,rfl,E1,hw⟩
   have s_k:=aB hw s_k
   have hb:=ac hb hw
   go_wp2_with fail
   refine(SA.out _ _ E1).mono ?_
   rintro _ y3 ⟨rfl,hw⟩
   have s_k:=aB hw s_k
   have hb:=ac hb hw
   have f_s0:=ae s_k 0 rfl
   have f_s1:=ae s_k 1 rfl
   go_wp2_with fail
   clear f_s0 f_s1
   refine(OB.out _).mono ?_
   rintro _ y4 ⟨z2,rfl,E2,hw⟩
   have s_k:=aB hw s_k
   have hb:=ac hb hw
   go_wp2_with fail
   refine(SB.out _ _ E2).mono ?_
   rintro _ y5 ⟨rfl,hw⟩
   have s_k:=aB hw s_k
   have hb:=ac hb hw
   go_wp2
   refine bodyPost_ret (v:=.tuple #[G6 sa,.bool true]) (by simp[results,results49,go_sem]) rfl ⟨rfl,hb⟩
  ·rw[decide_eq_false h2]
   by_cases h3:sa=0
   ·by_cases h4:sb=0
    ·rw[decide_eq_true h3,decide_eq_true h4]
     simp only[Bool.false_or,Bool.and_true,if_true]
     have h3':(sa == 0)=true:=by simp;exact h3
     have h4':(sb == 0)=true:=by simp;exact h4
     clear h3 h4
     have hb:=ap w
     go_enter func49,ntmps49
     have s_k:(w.alloc (.cells #[G6 a,G6 b] 72)).heap[w.heap.size]?=some (.cells #[G6 a,G6 b] 72):=aE (.cells #[G6 a,G6 b] 72) (by simp only[aw])
     have hb:=ac hb (af w (.cells #[G6 a,G6 b] 72))
     have f_s0:=ae s_k 0 rfl
     have f_s1:=ae s_k 1 rfl
     go_wp2_with fail
     clear f_s0 f_s1
     generalize (w.alloc (.cells #[G6 a,G6 b] 72))=x1 at s_k hb ⊢
     refine(OA.out _).mono ?_
     rintro _ y2 ⟨z1,rfl,E1,hw⟩
     have s_k:=aB hw s_k
     have hb:=ac hb hw
     go_wp2_with fail
     refine(SA.out _ _ E1).mono ?_
     rintro _ y3 ⟨rfl,hw⟩
     have s_k:=aB hw s_k
     have hb:=ac hb hw
     have f_s0:=ae s_k 0 rfl
     have f_s1:=ae s_k 1 rfl
     go_wp2_with fail
     clear f_s0 f_s1
     refine(OB.out _).mono ?_
     rintro _ y4 ⟨z2,rfl,E2,hw⟩
     have s_k:=aB hw s_k
     have hb:=ac hb hw
     go_wp2_with fail
     refine(SB.out _ _ E2).mono ?_
     rintro _ y5 ⟨rfl,hw⟩
     have s_k:=aB hw s_k
     have hb:=ac hb hw
     go_wp2
     refine bodyPost_ret (v:=.tuple #[G6 sa,.bool true]) (by simp[results,results49,go_sem]) rfl ⟨rfl,hb⟩
    ·rw[decide_eq_false h4]
     simp only[Bool.false_or,Bool.and_false,Bool.false_eq_true,if_false]
     have h3':(sa == 0)=true:=by simp;exact h3
     have h4':(sb == 0)=false:=by simp;exact h4
     clear h3 h4
     have hb:=ap w
     go_enter func49,ntmps49
     have s_k:(w.alloc (.cells #[G6 a,G6 b] 72)).heap[w.heap.size]?=some (.cells #[G6 a,G6 b] 72):=aE (.cells #[G6 a,G6 b] 72) (by simp only[aw])
     have hb:=ac hb (af w (.cells #[G6 a,G6 b] 72))
     have f_s0:=ae s_k 0 rfl
     have f_s1:=ae s_k 1 rfl
     go_wp2_with fail
     clear f_s0 f_s1
     generalize (w.alloc (.cells #[G6 a,G6 b] 72))=x1 at s_k hb ⊢
     refine(OA.out _).mono ?_
     rintro _ y2 ⟨z1,rfl,E1,hw⟩
     have s_k:=aB hw s_k
     have hb:=ac hb hw
     go_wp2_with fail
     refine(SA.out _ _ E1).mono ?_
     rintro _ y3 ⟨rfl,hw⟩
     have s_k:=aB hw s_k
     have hb:=ac hb hw
     have f_s0:=ae s_k 0 rfl
     have f_s1:=ae s_k 1 rfl
     go_wp2_with fail
     clear f_s0 f_s1
     refine(OB.out _).mono ?_
     rintro _ y4 ⟨z2,rfl,E2,hw⟩
     have s_k:=aB hw s_k
     have hb:=ac hb hw
     go_wp2_with fail
     refine(SB.out _ _ E2).mono ?_
     rintro _ y5 ⟨rfl,hw⟩
     have s_k:=aB hw s_k
     have hb:=ac hb hw
     go_wp2
     refine bodyPost_ret (v:=.tuple #[G6 0,.bool false]) (by simp[results,results49,go_sem]) rfl ⟨rfl,hb⟩
   ·rw[decide_eq_false h3]
    simp only[Bool.false_or,Bool.false_and,Bool.false_eq_true,if_false]
    have h3':(sa == 0)=false:=by simp;exact h3
    clear h3
    have hb:=ap w
    go_enter func49,ntmps49
    have s_k:(w.alloc (.cells #[G6 a,G6 b] 72)).heap[w.heap.size]?=some (.cells #[G6 a,G6 b] 72):=aE (.cells #[G6 a,G6 b] 72) (by simp only[aw])
    have hb:=ac hb (af w (.cells #[G6 a,G6 b] 72))
    have f_s0:=ae s_k 0 rfl
    have f_s1:=ae s_k 1 rfl
    go_wp2_with fail
    clear f_s0 f_s1
    generalize (w.alloc (.cells #[G6 a,G6 b] 72))=x1 at s_k hb ⊢
    refine(OA.out _).mono ?_
    rintro _ y2 ⟨z1,rfl,E1,hw⟩
    have s_k:=aB hw s_k
    have hb:=ac hb hw
    go_wp2_with fail
    refine(SA.out _ _ E1).mono ?_
    rintro _ y3 ⟨rfl,hw⟩
    have s_k:=aB hw s_k
    have hb:=ac hb hw
    have f_s0:=ae s_k 0 rfl
    have f_s1:=ae s_k 1 rfl
    go_wp2_with fail
    clear f_s0 f_s1
    refine(OB.out _).mono ?_
    rintro _ y4 ⟨z2,rfl,E2,hw⟩
    have s_k:=aB hw s_k
    have hb:=ac hb hw
    go_wp2_with fail
    refine(SB.out _ _ E2).mono ?_
    rintro _ y5 ⟨rfl,hw⟩
    have s_k:=aB hw s_k
    have hb:=ac hb hw
    go_wp2
    refine bodyPost_ret (v:=.tuple #[G6 0,.bool false]) (by simp[results,results49,go_sem]) rfl ⟨rfl,hb⟩
theorem wv {b:Int} (hb:ag b) (w:World) :
  Calls prog 55 #[G6 b] w fun e w'=>e=.returned (G6 (rg b))∧w'=w:=by
 have h:bits .andNot .i64 b (-9223372036854775808)=rg b:=by
  unfold ag at hb
  rw[ve _ hb.1 (by omega)]
  rfl
 go_enter func55,ntmps55
 go_wp2
 go_ret
 exact⟨rfl,rfl⟩
theorem NY {b:Int} (hb:ag b):kV b=if rg b=0 then 0 else if b<0 then -1 else 1:=by
 unfold kV bH au rg
 unfold ag at hb
 by_cases c:b<0
 ·simp only[c,if_true]
  by_cases d:b+9223372036854775808=0
  ·rw[if_pos d]
   have:¬ -(b+9223372036854775808)<0:=by omega
   simp[this]
   omega
  ·rw[if_neg d]
   have:-(b+9223372036854775808)<0:=by omega
   rw[if_pos this]
 ·simp only[c,if_false]
  by_cases d:b=0
  ·subst d;decide
  ·have e:0<b:=by omega
   simp[d,e]
theorem Qa {b:Int} (hb:ag b) (w:World) :
  Calls prog 56 #[G6 b] w fun e w'=>e=.returned (G6 (kV b))∧w'=w:=by
 rw[NY hb]
 have CA:Hid (∀ W,Calls prog 55 #[G6 b] W fun e w'=>e=.returned (G6 (rg b))∧w'=W):=fun W=>wv hb W
 clear hb
 generalize rg b=r at *
 by_cases h0:r=0
 ·subst h0
  go_enter func56,ntmps56
  go_wp2_with fail
  refine(CA.out _).mono ?_
  rintro _ wz ⟨rfl,hwz⟩
  replace hwz:=hwz.symm
  subst hwz
  go_wp2
  go_ret
  exact⟨by simp,rfl⟩
 ·have h1:(r == 0)=false:=by simpa using h0
  by_cases h2:b<0
  ·have h3:decide (b<0)=true:=decide_eq_true h2
   go_enter func56,ntmps56
   go_wp2_with fail
   refine(CA.out _).mono ?_
   rintro _ wz ⟨rfl,hwz⟩
   replace hwz:=hwz.symm
   subst hwz
   go_wp2
   go_ret
   exact⟨by simp[h0,h2],rfl⟩
  ·have h3:decide (b<0)=false:=decide_eq_false h2
   go_enter func56,ntmps56
   go_wp2_with fail
   refine(CA.out _).mono ?_
   rintro _ wz ⟨rfl,hwz⟩
   replace hwz:=hwz.symm
   subst hwz
   go_wp2
   go_ret
   exact⟨by simp[h0,h2],rfl⟩
theorem NZ {a b:Int} (ha:ag a) (hb:ag b) (w:World) :
  Calls prog 54 #[G6 a,G6 b] w fun e w'=>e=.returned (.bool (decide (au a<au b)))∧w'=w:=by
 have C1:Hid (∀ W,Calls prog 120 #[G6 a] W fun e w'=>e=.returned (G6 (au a))∧w'=W):=fun W=>FH ha W
 have C2:Hid (∀ W,Calls prog 120 #[G6 b] W fun e w'=>e=.returned (G6 (au b))∧w'=W):=fun W=>FH hb W
 clear ha hb
 generalize au a=p at *
 generalize au b=q at *
 go_enter func54,ntmps54
 go_wp2_with fail
 refine(C1.out _).mono ?_
 rintro _ wz ⟨rfl,hwz⟩
 replace hwz:=hwz.symm
 subst hwz
 go_wp2_with fail
 refine(C2.out _).mono ?_
 rintro _ wz ⟨rfl,hwz⟩
 replace hwz:=hwz.symm
 subst hwz
 go_wp2
 go_ret
 exact⟨rfl,rfl⟩
theorem Rv {w:World} {g:Bool} {o:Option Addr} {n c:Nat} {e V:Int} (h:br w (.agg #[.bool g,.slice o n c,G6 e]) V) :
  Calls prog 114 #[.agg #[.bool g,.slice o n c,G6 e]] w fun r w'=>r=.returned (G6 (bH V 0))∧Below w.heap.size w w':=by
 obtain⟨hs,hm⟩:=DG h
 rw[<- hs]
 have CS:Hid (∀ W,Calls prog 175 #[.agg #[.bool g,.slice o n c,G6 e]] W fun r w'=>r=.returned (G6 (fK g n))∧Below W.heap.size W w'):=fun W=>rD g o n c e W hm
 clear hs h
 generalize fK g n=s at *
 have hb:=af w (.cells #[.bool g,.slice o n c,G6 e] 40)
 go_enter func114,ntmps114
 go_wp2_with fail
 refine(CS.out _).mono ?_
 rintro _ y1 ⟨rfl,hw1⟩
 have hb1:=ac hb hw1
 go_wp2
 go_ret
 exact⟨rfl,hb1⟩
theorem BB {ax ay bx by' cx cy:Int} (rax:ag ax) (ray:ag ay) (rbx:ag bx) (rby:ag by') (rcx:ag cx) (rcy:ag cy) (pax:ak ax=true) (pay:ak ay=true) (pbx:ak bx=true) (pby:ak by'=true) (pcx:ak cx=true) (pcy:ak cy=true) (w:World) :
  Calls prog 50 #[.agg #[G6 ax,G6 ay],.agg #[G6 bx,G6 by'],.agg #[G6 cx,G6 cy]] w fun r w'=>r=.returned (G6 (bH (gG ax ay bx by' cx cy) 0))∧Below w.heap.size w w':=by
 have CD:Hid (∀ W,Calls prog 115 #[.agg #[G6 ax,G6 ay],.agg #[G6 bx,G6 by'],.agg #[G6 cx,G6 cy]] W fun r w'=>∃ g o n c e V,r=.returned (.agg #[.bool g,.slice o n c,G6 e])∧br w' (.agg #[.bool g,.slice o n c,G6 e]) V∧Hid (bH V 0=bH (gG ax ay bx by' cx cy) 0)∧Below W.heap.size W w'):=fun W=>by
  refine(Fi rax ray rbx rby rcx rcy pax pay pbx pby pcx pcy W).mono ?_
  rintro r w' ⟨v,V,rfl,hD,hb,hV,_⟩
  obtain⟨g,o,n,c,e,rfl⟩:=hD.shape
  exact⟨g,o,n,c,e,V,rfl,hD.num,by rw[hV.unique (Bw rax ray rbx rby rcx rcy pax pay pbx pby pcx pcy)];exact oK (bR _),hb⟩
 clear rax ray rbx rby rcx rcy pax pay pbx pby pcx pcy
 generalize bH (gG ax ay bx by' cx cy) 0=s at *
 obtain⟨hb0,a_k,b_k,c_k,hsz0⟩:=Fc w (.cells #[G6 ax,G6 ay] 33) (.cells #[G6 bx,G6 by'] 33) (.cells #[G6 cx,G6 cy] 33)
 clear hsz0
 have f_a0:=ae a_k 0 rfl
 have f_a1:=ae a_k 1 rfl
 have f_b0:=ae b_k 0 rfl
 have f_b1:=ae b_k 1 rfl
 have f_c0:=ae c_k 0 rfl
 have f_c1:=ae c_k 1 rfl
 go_enter func50,ntmps50
 go_wp2_with fail
 clear f_a0 f_a1 f_b0 f_b1 f_c0 f_c1
 generalize (((w.alloc (.cells #[G6 ax,G6 ay] 33)).alloc (.cells #[G6 bx,G6 by'] 33)).alloc (.cells #[G6 cx,G6 cy] 33))=x0 at hb0 a_k b_k c_k ⊢
 refine(CD.out _).mono ?_
 rintro _ y1 ⟨g,o,n,c,e,V,rfl,hD,hV,hw1⟩
 have hb1:=ac hb0 hw1
 go_wp2_with fail
 refine(Rv hD).mono ?_
 rintro _ y2 ⟨rfl,hw2⟩
 have hb2:=ac hb1 hw2
 go_wp2
 go_ret
 exact⟨ce hV.out,hb2⟩
theorem ww {p q:Int} (rp:ag p) (rq:ag q) (pp:ak p=true) (pq:ak q=true) (w:World) :
  Calls prog 48 #[G6 p,G6 q] w fun r w'=>r=.returned (.agg #[G6 (dZ p q),G6 (ef p q)])∧Below w.heap.size w w':=by
 have n1:nn p:=⟨rp,bW pp⟩
 have n2:nn q:=⟨rq,bW pq⟩
 have k1:=(jn n1).2
 have k2:=(jn n2).2
 have C1:Hid (∀ W,Calls prog 112 #[G6 p] W fun e w'=>e=.returned (.agg #[G6 (aL p),G6 (aL p)])∧Below W.heap.size W w'):=fun W=>DY n1 W
 have C2:Hid (∀ W,Calls prog 112 #[G6 q] W fun e w'=>e=.returned (.agg #[G6 (aL q),G6 (aL q)])∧Below W.heap.size W w'):=fun W=>DY n2 W
 have C3:Hid (∀ W,Calls prog 111 #[.agg #[G6 (aL p),G6 (aL p)],.agg #[G6 (aL q),G6 (aL q)]] W fun e w'=>e=.returned (.agg #[G6 (dZ p q),G6 (ef p q)])∧Below W.heap.size W w'):=fun W=>by
  have:=NX k1 k1 k2 k2 W
  rw[mC n1,mC n2] at this
  exact this
 clear rp rq pp pq n1 n2 k1 k2
 generalize dZ p q=lo at *
 generalize ef p q=hi at *
 generalize aL p=cp at *
 generalize aL q=cq at *
 have hb0:=af w (.cells #[G6 0,G6 0] 72)
 have r_k:=aD w (.cells #[G6 0,G6 0] 72)
 go_enter func48,ntmps48
 go_wp2_with fail
 generalize w.alloc (.cells #[G6 0,G6 0] 72)=x0 at hb0 r_k ⊢
 refine(C1.out _).mono ?_
 rintro _ y1 ⟨rfl,hw1⟩
 replace r_k:=aj hw1 r_k
 replace hb0:=ac hb0 hw1
 go_wp2_with fail
 refine(C2.out _).mono ?_
 rintro _ y2 ⟨rfl,hw2⟩
 replace r_k:=aj hw2 r_k
 replace hb0:=ac hb0 hw2
 go_wp2_with fail
 refine(C3.out _).mono ?_
 rintro _ y3 ⟨rfl,hw3⟩
 replace r_k:=aj hw3 r_k
 replace hb0:=ac hb0 hw3
 have k0:=ae r_k 0 rfl
 have k1:=ae r_k 1 rfl
 have z0:=ah r_k 0
 have z1:=ah r_k 1
 go_wp2
 exact bodyPost_ret (v:=.agg #[G6 lo,G6 hi]) (by simp[results,results48,go_sem,k0,k1]) rfl ⟨rfl,((hb0.setCell (p:=⟨w.heap.size,0,none⟩) (show w.heap.size<=w.heap.size by omega) _).setCell (p:=⟨w.heap.size,1,none⟩) (show w.heap.size<=w.heap.size by omega) _)⟩
def yJ (p:Int) (pn pa pi:Bool) (V:Int):Prop:=pa=decide (aH p=4)∧(aH p≠4->pn=decide (p<0)∧pi=decide (aH p=3)∧V=aq p)
theorem yJ.self (p:Int):yJ p (decide (p<0)) (decide (aH p=4)) (decide (aH p=3)) (aq p):=⟨rfl,fun _=>⟨rfl,rfl,rfl⟩⟩
theorem nZ {p:Int} (hp:ag p):aH p=3↔rg p=9218868437227405312:=by
 have h1:=(eZ hp).1
 have h2:=bM hp
 constructor
 ·intro h
  have:ak p≠true:=fun q=>by have:=DV q;omega
  have h3:¬ rg p<9218868437227405312:=fun q=>this (h2.2 q)
  have h4:¬ 9218868437227405312<rg p:=fun q=>by have:=h1.2 q;omega
  omega
 ·intro h
  have:ak p≠true:=fun q=>by have:=h2.1 q;omega
  rcases (nY this).1 with q|q
  ·exact q
  ·have:=h1.1 q;omega
theorem uX {p:Int} (h:rg p=9218868437227405312):p=aG (decide (p<0)) 9218868437227405312:=by
 unfold rg at h
 unfold aG
 by_cases h0:p<0
 ·rw[if_pos h0] at h;rw[decide_eq_true h0,if_pos rfl];omega
 ·rw[if_neg h0] at h;rw[decide_eq_false h0,if_neg (by decide)];omega
theorem yK {p:Int} (h:aq p≠0):decide (p<0)=decide (aq p<0):=by
 have hp:ak p=true:=by
  by_cases q:ak p=true
  ·exact q
  ·exact absurd (nY q).2 h
 have i0:=(eY hp).1
 unfold aq at h ⊢
 unfold dW at h ⊢
 rw[hp,Bool.true_and] at h ⊢
 have hpw:=bR (bh p)
 have hm:0<aN p:=by
  rcases Int.lt_or_eq_of_le i0 with q|q
  ·exact q
  ·rw[<- q] at h
   exfalso
   apply h
   unfold sg
   split<;>simp
 by_cases c:p<0
 ·rw[decide_eq_true c]
  symm
  apply decide_eq_true
  show -(aN p)*pw (bh p)<0
  exact Int.mul_neg_of_neg_of_pos (by omega) hpw
 ·rw[decide_eq_false c]
  symm
  apply decide_eq_false
  show ¬ aN p*pw (bh p)<0
  have:=Int.mul_pos hm hpw
  omega
theorem BC {S r:Int} (h:S≠0) (hr:wo 0 (decide (S<0)) S.natAbs r):r=bT S:=by
 obtain⟨A,r0,left,h1,h2,h3⟩:=iA h
 have hA:A=(S.natAbs:Int):=by
  unfold sg at h1
  split at h1
  ·rename_i c
   have:=of_decide_eq_true c
   omega
  ·rename_i c
   have:¬ S<0:=fun q=>c (decide_eq_true q)
   omega
 subst hA
 exact hr.unique ⟨r0,left,h2,h3⟩
theorem BD {p q:Int} {pn pa pi qn qa qi:Bool} {Vp Vq r:Int} (rp:ag p) (rq:ag q) (hp:yJ p pn pa pi Vp) (hq:yJ q qn qa qi Vq) (h:LX 0 pn pa pi Vp qn qa qi Vq r):r=aF p q:=by
 obtain⟨p1,p2⟩:=hp
 obtain⟨q1,q2⟩:=hq
 unfold LX at h
 unfold aF
 by_cases c4:aH p=4∨aH q=4
 ·rw[if_pos c4]
  have hh:(pa||qa)=true:=by
   rcases c4 with c|c
   ·rw[p1,decide_eq_true c];rfl
   ·rw[q1,decide_eq_true c,Bool.or_true]
  rw[if_pos (by rw[hh];rfl)] at h
  rw[h]
  unfold tU
  rw[if_pos (by rw[hh];rfl)]
 ·have cp:aH p≠4:=fun x=>c4 (.inl x)
  have cq:aH q≠4:=fun x=>c4 (.inr x)
  obtain⟨e1,e2,e3⟩:=p2 cp
  obtain⟨f1,f2,f3⟩:=q2 cq
  rw[decide_eq_false cp] at p1
  rw[decide_eq_false cq] at q1
  subst p1 q1 e1 e2 e3 f1 f2 f3
  rw[if_neg c4]
  have i1:=nZ rp
  have i2:=nZ rq
  by_cases ip:rg p=9218868437227405312
  ·rw[if_pos ip]
   rw[decide_eq_true (i1.2 ip)] at h
   simp only[Bool.false_or,Bool.true_or,if_true] at h
   rw[h]
   unfold tU
   simp only[Bool.false_or,Bool.true_and,if_true]
   by_cases iq:rg q=9218868437227405312
   ·rw[decide_eq_true (i2.2 iq),Bool.true_and]
    by_cases hs:decide (p<0)=decide (q<0)
    ·have hb:(decide (p<0) != decide (q<0))=false:=by rw[hs];simp
     rw[hb,if_neg (by decide),if_neg (fun x=>x.2 hs)]
     exact(uX ip).symm
    ·have hb:(decide (p<0) != decide (q<0))=true:=by rw[bne_iff_ne];exact hs
     rw[hb,if_pos rfl,if_pos ⟨iq,hs⟩]
   ·rw[decide_eq_false (fun x=>iq (i2.1 x)),Bool.false_and,if_neg (by decide),if_neg (fun x=>iq x.1)]
    exact(uX ip).symm
  ·rw[if_neg ip]
   have n1:decide (aH p=3)=false:=decide_eq_false (fun x=>ip (i1.1 x))
   rw[n1] at h
   by_cases iq:rg q=9218868437227405312
   ·rw[if_pos iq]
    rw[decide_eq_true (i2.2 iq)] at h
    simp only[Bool.false_or,if_true] at h
    rw[h]
    unfold tU
    simp only[Bool.false_or,Bool.false_and,Bool.false_eq_true,if_false]
    exact(uX iq).symm
   ·rw[if_neg iq]
    have n2:decide (aH q=3)=false:=decide_eq_false (fun x=>iq (i2.1 x))
    rw[n2] at h
    simp only[Bool.false_or,Bool.false_eq_true,if_false] at h
    obtain⟨s0,s1⟩:=h
    by_cases hS:aq p+aq q=0
    ·rw[if_pos hS,s0 hS]
     congr 1
     by_cases hV:aq p=0∧decide (p<0)=decide (q<0)
     ·rw[if_pos hV,<- hV.2,Bool.and_self]
     ·rw[if_neg hV]
      by_cases v0:aq p=0
      ·have hs:decide (p<0)≠decide (q<0):=fun x=>hV ⟨v0,x⟩
       cases hx:decide (p<0)<;>cases hy:decide (q<0)<;>simp_all
      ·have v1:aq q≠0:=by omega
       rw[yK v0,yK v1]
       by_cases c:aq p<0
       ·rw[decide_eq_true c,decide_eq_false (show ¬ aq q<0 by omega)];rfl
       ·rw[decide_eq_false c];rfl
    ·rw[if_neg hS]
     exact BC hS (s1 hS)
theorem Oa {q:Int} (hq:ag q):yJ (neg q) (!decide (q<0)) (decide (aH q=4)) (decide (aH q=3)) (-aq q):=by
 by_cases c4:aH q=4
 ·refine⟨?_,fun h=>?_⟩
  ·have:aH (neg q)=4:=by unfold neg;rw[if_pos c4];decide
   rw[decide_eq_true c4,decide_eq_true this]
  ·exfalso
   apply h
   unfold neg
   rw[if_pos c4]
   decide
 ·obtain⟨s1,s2,s3⟩:=Ak hq c4
  refine⟨by rw[decide_eq_false c4,decide_eq_false s3],fun _=>⟨s1.symm,?_,?_⟩⟩
  ·have h1:=nZ hq
   have h2:=nZ (bm hq)
   rw[s2] at h2
   congr 1
   apply propext
   rw[h1,h2]
  ·by_cases hp:ak q=true
   ·obtain⟨n1,n2,n3⟩:=gM hq hp
    rw[cQ n1 n2,cQ hq hp,n3,Int.neg_mul]
   ·have hp2:ak (neg q)≠true:=fun x=>hp ((bM hq).2 (by have:=(bM (bm hq)).1 x;omega))
    rw[(nY hp).2,(nY hp2).2]
    rfl
def IK (pa pi:Bool) (Vp:Int) (qa qi:Bool) (Vq:Int) (na ni:Bool) (V:Int):Prop :=
 if pa||qa then na=true∧ni=false∧V=0
 else if pi||qi then na=((pi&&!qi&&decide (Vq=0))||(qi&&!pi&&decide (Vp=0)))∧ni=!na∧V=0
 else na=false∧ni=false∧V*2^4194304=Vp*Vq
theorem IL {p:Int} (hp:ag p) (h:ak p=true):aq p=0↔rg p=0:=by
 have h0:=(eZ hp).2
 have i0:=(eY h).1
 have hpw:=bR (bh p)
 have au:aq p=0↔aN p=0:=by
  unfold aq
  constructor
  ·intro q
   rcases Int.mul_eq_zero.1 q with q|q
   ·unfold sg at q;split at q<;>omega
   ·omega
  ·intro q;rw[q];unfold sg;split<;>simp
 rw[au,<- h0]
 unfold ak at h
 simp at h
 unfold aN aH
 rw[if_neg h,if_neg h]
 by_cases c:bQ p=0
 ·rw[if_pos c,if_pos c]
  by_cases d:cA p=0
  ·rw[if_pos d];simp[d]
  ·rw[if_neg d];simp[d]
 ·rw[if_neg c,if_neg c]
  have:0<=cA p:=by unfold cA;omega
  constructor<;>intro q<;>omega
theorem Lb {p q:Int} {na ni:Bool} {V r:Int} (rp:ag p) (rq:ag q) (hT:IK (decide (aH p=4)) (decide (aH p=3)) (aq p) (decide (aH q=4)) (decide (aH q=3)) (aq q) na ni V) (h:wt 0 (decide (p<0) != decide (q<0)) na ni V r):r=aC p q:=by
  unfold IK at hT
  unfold wt at h
  unfold aC
  by_cases c4:aH p=4∨aH q=4
  · rw[if_pos c4]
    rw[if_pos (by rcases c4 with c|c<;>simp[c])] at hT
    rw[hT.1,if_pos rfl] at h
    exact h
  · have cp:aH p≠4:=fun x=>c4 (.inl x)
    have cq:aH q≠4:=fun x=>c4 (.inr x)
    rw[if_neg c4]
    rw[if_neg (by simp[cp,cq])] at hT
    have i1:=nZ rp
    have i2:=nZ rq
    by_cases ci:rg p=9218868437227405312∨rg q=9218868437227405312
    · rw[if_pos ci]
      rw[if_pos (by rcases ci with c|c<;>simp[i1,i2,c])] at hT
      obtain⟨t1,t2,t3⟩:=hT
      have hz:((decide (aH p=3)&&!decide (aH q=3)&&decide (aq q=0))||(decide (aH q=3)&&!decide (aH p=3)&&decide (aq p=0)))=decide (rg p=0∨rg q=0):=by
        have zz:∀ {x:Int},ag x->aH x≠4->rg x≠9218868437227405312->(aq x=0 ↔ rg x=0):=fun {x} rx c h=>IL rx ((bM rx).2 (by
          have:=(eZ rx).1
          rcases Int.lt_or_le 9218868437227405312 (rg x) with g|g
          · exact absurd (this.2 g) c
          · omega))
        by_cases a:rg p=9218868437227405312
        · by_cases b:rg q=9218868437227405312
          · rw[decide_eq_true (i1.2 a),decide_eq_true (i2.2 b)]
            symm
            rw[Bool.not_true,Bool.and_false,Bool.false_and,Bool.false_and,Bool.or_self]
            apply decide_eq_false
            omega
          · rw[decide_eq_true (i1.2 a),decide_eq_false (fun x=>b (i2.1 x)),Bool.not_false,Bool.true_and,Bool.false_and,Bool.false_and,Bool.or_false,Bool.true_and]
            congr 1
            apply propext
            rw[zz rq cq b]
            omega
        · have b:rg q=9218868437227405312:=ci.resolve_left a
          rw[decide_eq_false (fun x=>a (i1.1 x)),decide_eq_true (i2.2 b),Bool.not_false,Bool.true_and,Bool.false_and,Bool.false_and,Bool.false_or,Bool.true_and]
          congr 1
          apply propext
          rw[zz rp cp a]
          omega
      rw[hz] at t1
      by_cases z:rg p=0∨rg q=0
      · rw[if_pos z]
        rw[decide_eq_true z] at t1
        rw[t1,if_pos rfl] at h
        exact h
      · rw[if_neg z]
        rw[decide_eq_false z] at t1
        rw[t2,t1,if_neg (by decide),if_pos (by rfl)] at h
        exact h
    · rw[if_neg ci]
      have a:¬ aH p=3:=fun x=>ci (.inl (i1.1 x))
      have b:¬ aH q=3:=fun x=>ci (.inr (i2.1 x))
      rw[if_neg (by simp[a,b])] at hT
      obtain⟨t1,t2,t3⟩:=hT
      rw[t1,t2,if_neg (by decide),if_neg (by decide)] at h
      have hV:V=aq p*aq q/2^4194304:=by
        rw[<- t3,Int.mul_ediv_cancel _ (Int.ne_of_gt (aR _))]
      have hf:fV p q=sg (bN p q) V:=by unfold fV;rw[<- hV]
      rw[hf]
      have hx:(decide (p<0) != decide (q<0))=bN p q:=rfl
      rw[hx] at h
      clear hx hf
      generalize bN p q=x at *
      have hsg:sg x (sg x V)=V:=by unfold sg;cases x<;>simp
      rw[hsg]
      have h0:sg x V=0↔V=0:=by unfold sg;cases x<;>simp
      by_cases v0:V=0
      · rw[if_pos (h0.2 v0)]
        rw[if_pos v0] at h
        exact h
      · rw[if_neg (fun q=>v0 (h0.1 q))]
        rw[if_neg v0] at h
        exact BC v0 h
theorem IM {w:World} {pn pa pi qn qa qi:Bool} {Vp Vq:Int} {p q:Value} (hp:Pt w pn pa pi Vp p) (hq:Pt w qn qa qi Vq q) (bp:Bd 4000 Vp) (bq:Bd 4000 Vq) :
  Calls prog 178 #[p,q] w fun x w'=>∃ v,x=.returned v∧Below w.heap.size w w'∧∃ na ni V,Pt w' (pn != qn) na ni V v∧IK pa pi Vp qa qi Vq na ni V∧Bd 8000 V:=by
 obtain⟨xg,xo,xn,xc,xe,rfl,hx⟩:=hp
 obtain⟨yg,yo,yn,yc,ye,rfl,hy⟩:=hq
 have b0:Bd 8000 0:=⟨0,by simp,by have:=aR (2*8000);omega,aR _⟩
 unfold IK
 by_cases h:(pa||qa)=true
 ·refine(Fp pn pa pi qn qa qi xg yg xo yo xn xc yn yc xe ye w h).mono ?_
  rintro x w' ⟨v,rfl,hb,hP⟩
  exact⟨v,rfl,hb,_,_,_,hP,by rw[if_pos h];exact⟨rfl,rfl,rfl⟩,b0⟩
 ·have h2:pa=false∧qa=false:=by cases pa<;>cases qa<;>simp_all
  obtain⟨rfl,rfl⟩:=h2
  obtain⟨zx,mx⟩:=lH hx
  obtain⟨zy,my⟩:=lH hy
  by_cases h3:(pi||qi)=true
  ·refine(Fq pn pi qn qi xg yg xo yo xn xc yn yc xe ye w mx my h3).mono ?_
   rintro x w' ⟨v,rfl,hb,hP⟩
   have e1:decide (xn=0)=decide (Vp=0):=by congr 1;exact propext zx
   have e2:decide (yn=0)=decide (Vq=0):=by congr 1;exact propext zy
   rw[e1,e2] at hP
   exact⟨v,rfl,hb,_,_,_,hP,by rw[if_neg h,if_pos h3];exact⟨rfl,rfl,rfl⟩,b0⟩
  ·have h4:pi=false∧qi=false:=by cases pi<;>cases qi<;>simp_all
   obtain⟨rfl,rfl⟩:=h4
   obtain⟨d,hR,ok,hV⟩:=hx.open2 (bp.ok (by decide))
   obtain⟨d',hR',ok',hV'⟩:=hy.open2 (bq.ok (by decide))
   have sx:=ct ok
   have sy:=ct ok'
   have hm:=tA (x:=⟨xg,xo,xn,xc,d,xe⟩) (y:=⟨yg,yo,yn,yc,d',ye⟩) (by have:=sx.2.2.1;simp only at this ⊢;omega) (by have:=sy.2.2.1;simp only at this ⊢;omega)
   rw[hV,hV'] at hm
   refine(Fo pn qn ⟨xg,xo,xn,xc,d,xe⟩ ⟨yg,yo,yn,yc,d',ye⟩ w hR hR' sx sy).mono ?_
   rintro x w' ⟨v,rfl,hb,hP⟩
   exact⟨v,rfl,hb,_,_,_,hP,by rw[if_neg h,if_neg h3];exact⟨rfl,rfl,hm⟩,bp.mul bq hm (by decide)⟩
theorem Ci (a b:Int) (ha:ag a) (hb:ag b) (w:World) :
  Calls prog 119 #[eC,G6 a,G6 b,G6 0] w fun x w'=>x=.returned (G6 (aF a b))∧Below w.heap.size w w':=by
 refine(KX (R:=fun r=>r=aF a b) w (fun W=>lG a W ha) (fun W=>lG b W hb) (fun W p q hp hq=>?_)).mono ?_
 ·refine(Bz 0 (by decide) hp hq ((iN a).up (show 4000<=9000 by decide) (by decide)) ((iN b).up (show 4000<=9000 by decide) (by decide))).mono ?_
  rintro x w' ⟨r,rfl,hb1,hr⟩
  exact⟨r,rfl,hb1,BD ha hb (yJ.self a) (yJ.self b) hr⟩
 ·rintro x w' ⟨r,rfl,hb1,rfl⟩
  exact⟨rfl,hb1⟩
theorem Cj (a b:Int) (ha:ag a) (hb:ag b) (w:World) :
  Calls prog 118 #[eC,G6 a,G6 b,G6 0] w fun x w'=>x=.returned (G6 (aF a (neg b)))∧Below w.heap.size w w':=by
 refine(KZ (R:=fun r=>r=aF a (neg b)) w (fun W=>lG a W ha) (fun W=>lG b W hb) (fun W p q hp hq=>?_)).mono ?_
 ·refine(Bz 0 (by decide) hp hq ((iN a).up (show 4000<=9000 by decide) (by decide)) ((iN b).up (show 4000<=9000 by decide) (by decide)).neg).mono ?_
  rintro x w' ⟨r,rfl,hb1,hr⟩
  exact⟨r,rfl,hb1,BD ha (bm hb) (yJ.self a) (Oa hb) hr⟩
 ·rintro x w' ⟨r,rfl,hb1,rfl⟩
  exact⟨rfl,hb1⟩
theorem Ck (a b:Int) (ha:ag a) (hb:ag b) (w:World) :
  Calls prog 117 #[eC,G6 a,G6 b,G6 0] w fun x w'=>x=.returned (G6 (aC a b))∧Below w.heap.size w w':=by
 refine(KY (R:=fun r=>r=aC a b) (fun W v=>∃ na ni V,Pt W (decide (a<0) != decide (b<0)) na ni V v∧IK (decide (aH a=4)) (decide (aH a=3)) (aq a) (decide (aH b=4)) (decide (aH b=3)) (aq b) na ni V∧Bd 8000 V) ?_ w (fun W=>lG a W ha) (fun W=>lG b W hb) (fun W p q hp hq=>IM hp hq (iN a) (iN b)) (fun W v hv=>?_)).mono ?_
 ·rintro W W' v ⟨na,ni,V,h1,h2⟩ hb1
  exact⟨na,ni,V,h1.keeps hb1,h2⟩
 ·obtain⟨na,ni,V,⟨xg,xo,xn,xc,xe,rfl,hx⟩,h2,h3⟩:=hv
  refine(Fm 0 (by decide) _ na ni xg xo xn xc xe V W hx (h3.ok (by decide))).mono ?_
  rintro x w' ⟨r,rfl,hb1,hr⟩
  exact⟨r,rfl,hb1,Lb ha hb h2 hr⟩
 ·rintro x w' ⟨r,rfl,hb1,rfl⟩
  exact⟨rfl,hb1⟩
theorem uY (w:World):Calls prog 116 #[] w fun x w'=>x=.returned eC∧Below w.heap.size w w':=by
 unfold eC
 go_enter func116,ntmps116
 go_wp2
 refine bodyPost_ret (v:=.agg #[G6 53,G6 (-1074),G6 1024,G6 9218868437227405312,G6 (-9223372036854775808)]) (by simp[results,results116,go_sem]) rfl ⟨rfl,?_⟩
 exact af _ _
theorem BE (a b:Int) (ha:ag a) (hb:ag b) (w:World) :
  Calls prog 53 #[G6 a,G6 b] w fun x w'=>x=.returned (G6 (aF a b))∧Below w.heap.size w w':=by
 have C1:=fun W=>uY W
 have C2:=fun W=>Ci a b ha hb W
 generalize aF a b=r at *
 unfold eC at *
 go_enter func53,ntmps53
 go_wp2_with fail
 refine(C1 _).mono ?_
 rintro _ w1 ⟨rfl,hb1⟩
 go_wp2_with fail
 refine(C2 _).mono ?_
 rintro _ w2 ⟨rfl,hb2⟩
 go_wp2
 go_ret
 exact⟨rfl,ac hb1 hb2⟩
theorem pk (a b:Int) (ha:ag a) (hb:ag b) (w:World) :
  Calls prog 52 #[G6 a,G6 b] w fun x w'=>x=.returned (G6 (aF a (neg b)))∧Below w.heap.size w w':=by
 have C1:=fun W=>uY W
 have C2:=fun W=>Cj a b ha hb W
 generalize aF a (neg b)=r at *
 unfold eC at *
 go_enter func52,ntmps52
 go_wp2_with fail
 refine(C1 _).mono ?_
 rintro _ w1 ⟨rfl,hb1⟩
 go_wp2_with fail
 refine(C2 _).mono ?_
 rintro _ w2 ⟨rfl,hb2⟩
 go_wp2
 go_ret
 exact⟨rfl,ac hb1 hb2⟩
theorem tr (a b:Int) (ha:ag a) (hb:ag b) (w:World) :
  Calls prog 51 #[G6 a,G6 b] w fun x w'=>x=.returned (G6 (aC a b))∧Below w.heap.size w w':=by
 have C1:=fun W=>uY W
 have C2:=fun W=>Ck a b ha hb W
 generalize aC a b=r at *
 unfold eC at *
 go_enter func51,ntmps51
 go_wp2_with fail
 refine(C1 _).mono ?_
 rintro _ w1 ⟨rfl,hb1⟩
 go_wp2_with fail
 refine(C2 _).mono ?_
 rintro _ w2 ⟨rfl,hb2⟩
 go_wp2
 go_ret
 exact⟨rfl,ac hb1 hb2⟩
end Go.Proofs.YtjjihmnbdeeedaaGreatDoor
