/-
  plumbref8: a slice of ends; outer, by its contract (tools/p8.py)
-/
import Derived.Test.YtkkpppgfoilgmaaGreatDoorPart19
import Derived.Deep.RegionHeld3
set_option maxRecDepth 100000
set_option maxHeartbeats 8000000
set_option linter.unusedVariables false
set_option linter.unusedSimpArgs false
namespace Go.Proofs.YtkkpppgfoilgmaaGreatDoor
open Go Go.Proofs.Tryz Go.RowKit Go.Proofs.YtkkpppgfoilgmaaGreatDoor.M
structure fS where
 i:Int
 g:Bool
 o:Option Addr
 n:Nat
 c:Nat
 e:Int
def fS.v (r:fS):Value:=.agg #[.int .i64 r.i,.bool r.g,.slice r.o r.n r.c,.int .i64 r.e]
structure lT (w:World) (b off n:Nat) (r:Nat->fS) (E:Nat->En):Prop where
 lt:b<w.heap.size
 cells:∀ k,k<n->w.cell? ⟨b,off+k*4,none⟩=some (.int .i64 (r k).i)∧w.cell? ⟨b,off+k*4+1,none⟩=some (.bool (r k).g)∧w.cell? ⟨b,off+k*4+2,none⟩=some (.slice (r k).o (r k).n (r k).c)∧w.cell? ⟨b,off+k*4+3,none⟩=some (.int .i64 (r k).e)
 ea:∀ k,k<n->EA w (r k).v (E k)
theorem lT.keeps {w w':World} {b off n:Nat} {r:Nat->fS} {E:Nat->En} (h:lT w b off n r E) (hb:Below w.heap.size w w'):lT w' b off n r E :=
  ⟨Nat.lt_of_lt_of_le h.lt hb.size,fun k hk=>by
    obtain⟨c0,c1,c2,c3⟩:=h.cells k hk
    exact ⟨(hb.cell (p:=⟨b,_,none⟩) h.lt).trans c0,(hb.cell (p:=⟨b,_,none⟩) h.lt).trans c1,(hb.cell (p:=⟨b,_,none⟩) h.lt).trans c2,(hb.cell (p:=⟨b,_,none⟩) h.lt).trans c3⟩,fun k hk=>(h.ea k hk).keeps hb⟩
def mn (E:Nat->En):Nat->En
 | 0=>E 0
 | k+1=>aO (mn E k) (E (k+1))
def mx (E:Nat->En):Nat->En
 | 0=>E 0
 | k+1=>aW (mx E k) (E (k+1))
theorem gn (w:World) (p:Addr):w.drew.cell? p=w.cell? p:=rfl
theorem AG (E:Nat->En):∀ k,∃ j,j<=k∧mn E k=E j
 | 0=>⟨0,Nat.le_refl _,rfl⟩
 | k+1=>by
  obtain⟨j,h1,h2⟩:=AG E k
  show ∃ j,j<=k+1∧aO (mn E k) (E (k+1))=E j
  rcases (cI (mn E k) (E (k+1))).2.2 with q|q
  ·exact⟨j,by omega,q.trans h2⟩
  ·exact⟨k+1,Nat.le_refl _,q⟩
theorem AH (E:Nat->En):∀ k,∃ j,j<=k∧mx E k=E j
 | 0=>⟨0,Nat.le_refl _,rfl⟩
 | k+1=>by
  obtain⟨j,h1,h2⟩:=AH E k
  show ∃ j,j<=k+1∧aW (mx E k) (E (k+1))=E j
  rcases (cy (mx E k) (E (k+1))).2.2 with q|q
  ·exact⟨j,by omega,q.trans h2⟩
  ·exact⟨k+1,Nat.le_refl _,q⟩
theorem mZ {p q g o:Nat} {x0 x1 x2 x3 x4 x5 x6 x7 u:Value} {W:World} (hp:p≠g) (hq:q≠g) (h:W.cell? ⟨p,0,none⟩=some x0∧W.cell? ⟨p,1,none⟩=some x1∧W.cell? ⟨p,2,none⟩=some x2∧W.cell? ⟨p,3,none⟩=some x3∧W.cell? ⟨q,0,none⟩=some x4∧W.cell? ⟨q,1,none⟩=some x5∧W.cell? ⟨q,2,none⟩=some x6∧W.cell? ⟨q,3,none⟩=some x7) :
  (W.setCell ⟨g,o,none⟩ u).cell? ⟨p,0,none⟩=some x0∧(W.setCell ⟨g,o,none⟩ u).cell? ⟨p,1,none⟩=some x1∧(W.setCell ⟨g,o,none⟩ u).cell? ⟨p,2,none⟩=some x2∧(W.setCell ⟨g,o,none⟩ u).cell? ⟨p,3,none⟩=some x3∧(W.setCell ⟨g,o,none⟩ u).cell? ⟨q,0,none⟩=some x4∧(W.setCell ⟨g,o,none⟩ u).cell? ⟨q,1,none⟩=some x5∧(W.setCell ⟨g,o,none⟩ u).cell? ⟨q,2,none⟩=some x6∧(W.setCell ⟨g,o,none⟩ u).cell? ⟨q,3,none⟩=some x7:=by
 have hn:∀ k:Nat,(W.setCell ⟨g,o,none⟩ u).cell? ⟨p,k,none⟩=W.cell? ⟨p,k,none⟩:=fun k=>World.cell?_setCell_far _ _ _ _ (Ne.symm hp)
 have hm:∀ k:Nat,(W.setCell ⟨g,o,none⟩ u).cell? ⟨q,k,none⟩=W.cell? ⟨q,k,none⟩:=fun k=>World.cell?_setCell_far _ _ _ _ (Ne.symm hq)
 rw[hn,hn,hn,hn,hm,hm,hm,hm]
 exact h
theorem m6 {p q g:Nat} {x0 x1 x2 x3 x4 x5 x6 x7:Value} {W:World} (hp:p≠g) (hq:q≠g) (h:W.cell? ⟨p,0,none⟩=some x0∧W.cell? ⟨p,1,none⟩=some x1∧W.cell? ⟨p,2,none⟩=some x2∧W.cell? ⟨p,3,none⟩=some x3∧W.cell? ⟨q,0,none⟩=some x4∧W.cell? ⟨q,1,none⟩=some x5∧W.cell? ⟨q,2,none⟩=some x6∧W.cell? ⟨q,3,none⟩=some x7) (a b c d:Value) :
  ((((W.setCell ⟨g,0,none⟩ a).setCell ⟨g,1,none⟩ b).setCell ⟨g,2,none⟩ c).setCell ⟨g,3,none⟩ d).cell? ⟨p,0,none⟩=some x0∧((((W.setCell ⟨g,0,none⟩ a).setCell ⟨g,1,none⟩ b).setCell ⟨g,2,none⟩ c).setCell ⟨g,3,none⟩ d).cell? ⟨p,1,none⟩=some x1∧((((W.setCell ⟨g,0,none⟩ a).setCell ⟨g,1,none⟩ b).setCell ⟨g,2,none⟩ c).setCell ⟨g,3,none⟩ d).cell? ⟨p,2,none⟩=some x2∧((((W.setCell ⟨g,0,none⟩ a).setCell ⟨g,1,none⟩ b).setCell ⟨g,2,none⟩ c).setCell ⟨g,3,none⟩ d).cell? ⟨p,3,none⟩=some x3∧((((W.setCell ⟨g,0,none⟩ a).setCell ⟨g,1,none⟩ b).setCell ⟨g,2,none⟩ c).setCell ⟨g,3,none⟩ d).cell? ⟨q,0,none⟩=some x4∧((((W.setCell ⟨g,0,none⟩ a).setCell ⟨g,1,none⟩ b).setCell ⟨g,2,none⟩ c).setCell ⟨g,3,none⟩ d).cell? ⟨q,1,none⟩=some x5∧((((W.setCell ⟨g,0,none⟩ a).setCell ⟨g,1,none⟩ b).setCell ⟨g,2,none⟩ c).setCell ⟨g,3,none⟩ d).cell? ⟨q,2,none⟩=some x6∧((((W.setCell ⟨g,0,none⟩ a).setCell ⟨g,1,none⟩ b).setCell ⟨g,2,none⟩ c).setCell ⟨g,3,none⟩ d).cell? ⟨q,3,none⟩=some x7 :=
 mZ hp hq (mZ hp hq (mZ hp hq (mZ hp hq h)))
theorem q9 {p q:Nat} {x0 x1 x2 x3 x4 x5 x6 x7:Value} {W:World} (h:W.cell? ⟨p,0,none⟩=some x0∧W.cell? ⟨p,1,none⟩=some x1∧W.cell? ⟨p,2,none⟩=some x2∧W.cell? ⟨p,3,none⟩=some x3∧W.cell? ⟨q,0,none⟩=some x4∧W.cell? ⟨q,1,none⟩=some x5∧W.cell? ⟨q,2,none⟩=some x6∧W.cell? ⟨q,3,none⟩=some x7) :
  W.drew.cell? ⟨p,0,none⟩=some x0∧W.drew.cell? ⟨p,1,none⟩=some x1∧W.drew.cell? ⟨p,2,none⟩=some x2∧W.drew.cell? ⟨p,3,none⟩=some x3∧W.drew.cell? ⟨q,0,none⟩=some x4∧W.drew.cell? ⟨q,1,none⟩=some x5∧W.drew.cell? ⟨q,2,none⟩=some x6∧W.drew.cell? ⟨q,3,none⟩=some x7:=h
theorem EA.setT {w:World} {v:Value} {a:En} (h:EA w v a) {g:Nat} {xs:Array Value} {z:Nat × Nat} (hg:w.heap[g]?=some (.cells xs 68 z)) (o:Nat) (u:Value):EA (w.setCell ⟨g,o,none⟩ u) v a:=by
 obtain⟨g',so,sn,sc,e,h1,h2⟩:=h
 exact⟨g',so,sn,sc,e,h1,h2.setT hg (by decide) o u⟩
theorem EA.set4 {w:World} {v:Value} {a:En} (h:EA w v a) {g:Nat} {xs:Array Value} (hg:w.heap[g]?=some (.cells xs 68 (0,0))) (x0 x1 x2 x3:Value):EA ((((w.setCell ⟨g,0,none⟩ x0).setCell ⟨g,1,none⟩ x1).setCell ⟨g,2,none⟩ x2).setCell ⟨g,3,none⟩ x3) v a :=
 (((h.setT hg 0 x0).setT (aj hg 0 x0) 1 x1).setT (aj (aj hg 0 x0) 1 x1) 2 x2).setT (aj (aj (aj hg 0 x0) 1 x1) 2 x2) 3 x3
theorem aT {w W:World} {g:Nat} (h:Below w.heap.size w W) (hg:w.heap.size<=g) (x0 x1 x2 x3:Value):Below w.heap.size w ((((W.setCell ⟨g,0,none⟩ x0).setCell ⟨g,1,none⟩ x1).setCell ⟨g,2,none⟩ x2).setCell ⟨g,3,none⟩ x3) :=
 (((h.setCell (p:=⟨g,0,none⟩) hg x0).setCell (p:=⟨g,1,none⟩) hg x1).setCell (p:=⟨g,2,none⟩) hg x2).setCell (p:=⟨g,3,none⟩) hg x3
theorem ie {W:World} {g:Nat} {a b c d:Value} (h:W.heap[g]?=some (.cells #[a,b,c,d] 68 (0,0))) (x0 x1 x2 x3:Value):((((W.setCell ⟨g,0,none⟩ x0).setCell ⟨g,1,none⟩ x1).setCell ⟨g,2,none⟩ x2).setCell ⟨g,3,none⟩ x3).heap[g]?=some (.cells #[x0,x1,x2,x3] 68 (0,0)) :=
 aj (aj (aj (aj h 0 x0) 1 x1) 2 x2) 3 x3
theorem cT {W:World} {g g':Nat} {X:Obj} (h:W.heap[g']?=some X) (hn:g'≠g) (x0 x1 x2 x3:Value):((((W.setCell ⟨g,0,none⟩ x0).setCell ⟨g,1,none⟩ x1).setCell ⟨g,2,none⟩ x2).setCell ⟨g,3,none⟩ x3).heap[g']?=some X:=by
 rw[heap_setCell_other _ ⟨g,_,none⟩ g' _ hn,heap_setCell_other _ ⟨g,_,none⟩ g' _ hn,heap_setCell_other _ ⟨g,_,none⟩ g' _ hn,heap_setCell_other _ ⟨g,_,none⟩ g' _ hn]
 exact h
theorem m7 {w:World} {b off n cap:Nat} {r:Nat->fS} {E:Nat->En} (h:lT w b off n r E) (h0:0<n) (hc:n<=cap) (hcap:cap<=9223372036854775807) {K:Nat} (hK:K<=28000) (bE:∀ k,k<n->Bd K (E k).v) (oE:∀ k,k<n->(E k).ok) :
  Calls prog 54 #[.slice (some ⟨b,off,none⟩) n cap] w fun x w'=>∃ v u,x=.returned (.tuple #[v,u])∧EA w' v (mn E (n-1))∧EA w' u (mx E (n-1))∧Below w.heap.size w w':=by
 have hz:=h.cells 0 h0
 have hz0:=h.ea 0 h0
 unfold fS.v at hz0
 generalize r 0=r0 at hz hz0
 obtain⟨l_i,l_g,l_o,l_n,l_c,l_e⟩:=r0
 simp only[Nat.zero_mul,Nat.add_zero] at hz hz0
 obtain⟨z0,z1,z2,z3⟩:=hz
 have i0:(0:Int)<(n:Int):=by omega
 have hb4:=rP w (.cells #[.int .i64 0,.bool false,.slice none 0 0,.int .i64 0] 68) (.cells #[.int .i64 0,.bool false,.slice none 0 0,.int .i64 0] 68) (.cells #[.int .i64 l_i,.bool l_g,.slice l_o l_n l_c,.int .i64 l_e] 68) (.cells #[.int .i64 l_i,.bool l_g,.slice l_o l_n l_c,.int .i64 l_e] 68)
 have s_k:((((w.alloc (.cells #[.int .i64 0,.bool false,.slice none 0 0,.int .i64 0] 68)).alloc (.cells #[.int .i64 0,.bool false,.slice none 0 0,.int .i64 0] 68)).alloc (.cells #[.int .i64 l_i,.bool l_g,.slice l_o l_n l_c,.int .i64 l_e] 68)).alloc (.cells #[.int .i64 l_i,.bool l_g,.slice l_o l_n l_c,.int .i64 l_e] 68)).heap[w.heap.size]?=some (.cells #[.int .i64 0,.bool false,.slice none 0 0,.int .i64 0] 68):=Dh w (.cells #[.int .i64 0,.bool false,.slice none 0 0,.int .i64 0] 68) (.cells #[.int .i64 0,.bool false,.slice none 0 0,.int .i64 0] 68) (.cells #[.int .i64 l_i,.bool l_g,.slice l_o l_n l_c,.int .i64 l_e] 68) (.cells #[.int .i64 l_i,.bool l_g,.slice l_o l_n l_c,.int .i64 l_e] 68)
 have t_k:((((w.alloc (.cells #[.int .i64 0,.bool false,.slice none 0 0,.int .i64 0] 68)).alloc (.cells #[.int .i64 0,.bool false,.slice none 0 0,.int .i64 0] 68)).alloc (.cells #[.int .i64 l_i,.bool l_g,.slice l_o l_n l_c,.int .i64 l_e] 68)).alloc (.cells #[.int .i64 l_i,.bool l_g,.slice l_o l_n l_c,.int .i64 l_e] 68)).heap[w.heap.size+1]?=some (.cells #[.int .i64 0,.bool false,.slice none 0 0,.int .i64 0] 68):=Di w (.cells #[.int .i64 0,.bool false,.slice none 0 0,.int .i64 0] 68) (.cells #[.int .i64 0,.bool false,.slice none 0 0,.int .i64 0] 68) (.cells #[.int .i64 l_i,.bool l_g,.slice l_o l_n l_c,.int .i64 l_e] 68) (.cells #[.int .i64 l_i,.bool l_g,.slice l_o l_n l_c,.int .i64 l_e] 68)
 have u_k:((((w.alloc (.cells #[.int .i64 0,.bool false,.slice none 0 0,.int .i64 0] 68)).alloc (.cells #[.int .i64 0,.bool false,.slice none 0 0,.int .i64 0] 68)).alloc (.cells #[.int .i64 l_i,.bool l_g,.slice l_o l_n l_c,.int .i64 l_e] 68)).alloc (.cells #[.int .i64 l_i,.bool l_g,.slice l_o l_n l_c,.int .i64 l_e] 68)).heap[w.heap.size+1+1]?=some (.cells #[.int .i64 l_i,.bool l_g,.slice l_o l_n l_c,.int .i64 l_e] 68):=Dj w (.cells #[.int .i64 0,.bool false,.slice none 0 0,.int .i64 0] 68) (.cells #[.int .i64 0,.bool false,.slice none 0 0,.int .i64 0] 68) (.cells #[.int .i64 l_i,.bool l_g,.slice l_o l_n l_c,.int .i64 l_e] 68) (.cells #[.int .i64 l_i,.bool l_g,.slice l_o l_n l_c,.int .i64 l_e] 68)
 have v_k:((((w.alloc (.cells #[.int .i64 0,.bool false,.slice none 0 0,.int .i64 0] 68)).alloc (.cells #[.int .i64 0,.bool false,.slice none 0 0,.int .i64 0] 68)).alloc (.cells #[.int .i64 l_i,.bool l_g,.slice l_o l_n l_c,.int .i64 l_e] 68)).alloc (.cells #[.int .i64 l_i,.bool l_g,.slice l_o l_n l_c,.int .i64 l_e] 68)).heap[w.heap.size+1+1+1]?=some (.cells #[.int .i64 l_i,.bool l_g,.slice l_o l_n l_c,.int .i64 l_e] 68):=Dk w (.cells #[.int .i64 0,.bool false,.slice none 0 0,.int .i64 0] 68) (.cells #[.int .i64 0,.bool false,.slice none 0 0,.int .i64 0] 68) (.cells #[.int .i64 l_i,.bool l_g,.slice l_o l_n l_c,.int .i64 l_e] 68) (.cells #[.int .i64 l_i,.bool l_g,.slice l_o l_n l_c,.int .i64 l_e] 68)
 have y0:=am z0 (ar w (.cells #[.int .i64 0,.bool false,.slice none 0 0,.int .i64 0] 68) (.cells #[.int .i64 0,.bool false,.slice none 0 0,.int .i64 0] 68))
 have x0:=am z0 (eg w (.cells #[.int .i64 0,.bool false,.slice none 0 0,.int .i64 0] 68) (.cells #[.int .i64 0,.bool false,.slice none 0 0,.int .i64 0] 68) (.cells #[.int .i64 l_i,.bool l_g,.slice l_o l_n l_c,.int .i64 l_e] 68))
 have y1:=am z1 (ar w (.cells #[.int .i64 0,.bool false,.slice none 0 0,.int .i64 0] 68) (.cells #[.int .i64 0,.bool false,.slice none 0 0,.int .i64 0] 68))
 have x1:=am z1 (eg w (.cells #[.int .i64 0,.bool false,.slice none 0 0,.int .i64 0] 68) (.cells #[.int .i64 0,.bool false,.slice none 0 0,.int .i64 0] 68) (.cells #[.int .i64 l_i,.bool l_g,.slice l_o l_n l_c,.int .i64 l_e] 68))
 have y2:=am z2 (ar w (.cells #[.int .i64 0,.bool false,.slice none 0 0,.int .i64 0] 68) (.cells #[.int .i64 0,.bool false,.slice none 0 0,.int .i64 0] 68))
 have x2:=am z2 (eg w (.cells #[.int .i64 0,.bool false,.slice none 0 0,.int .i64 0] 68) (.cells #[.int .i64 0,.bool false,.slice none 0 0,.int .i64 0] 68) (.cells #[.int .i64 l_i,.bool l_g,.slice l_o l_n l_c,.int .i64 l_e] 68))
 have y3:=am z3 (ar w (.cells #[.int .i64 0,.bool false,.slice none 0 0,.int .i64 0] 68) (.cells #[.int .i64 0,.bool false,.slice none 0 0,.int .i64 0] 68))
 have x3:=am z3 (eg w (.cells #[.int .i64 0,.bool false,.slice none 0 0,.int .i64 0] 68) (.cells #[.int .i64 0,.bool false,.slice none 0 0,.int .i64 0] 68) (.cells #[.int .i64 l_i,.bool l_g,.slice l_o l_n l_c,.int .i64 l_e] 68))
 go_enter func54,ntmps54
 go_wp2_with fail
 clear y0 y1 y2 y3 x0 x1 x2 x3 z0 z1 z2 z3
 generalize (((w.alloc (.cells #[.int .i64 0,.bool false,.slice none 0 0,.int .i64 0] 68)).alloc (.cells #[.int .i64 0,.bool false,.slice none 0 0,.int .i64 0] 68)).alloc (.cells #[.int .i64 l_i,.bool l_g,.slice l_o l_n l_c,.int .i64 l_e] 68)).alloc (.cells #[.int .i64 l_i,.bool l_g,.slice l_o l_n l_c,.int .i64 l_e] 68)=wx at hb4 s_k t_k u_k v_k ⊢
 go_loopw [6] (fun iv wr=>∃ (k:Nat) (p_i:Int) (p_g:Bool) (p_o:Option Addr) (p_n p_c:Nat) (p_e:Int) (q_i:Int) (q_g:Bool) (q_o:Option Addr) (q_n q_c:Nat) (q_e:Int),k+1<=n∧iv=.int .i64 ((k:Int)+1)∧Hid (wr.heap[w.heap.size]?=some (.cells #[.int .i64 0,.bool false,.slice none 0 0,.int .i64 0] 68 (0,0)))∧Hid (wr.heap[w.heap.size+1]?=some (.cells #[.int .i64 0,.bool false,.slice none 0 0,.int .i64 0] 68 (0,0)))∧Hid (wr.heap[w.heap.size+1+1]?=some (.cells #[.int .i64 p_i,.bool p_g,.slice p_o p_n p_c,.int .i64 p_e] 68 (0,0)))∧Hid (wr.heap[w.heap.size+1+1+1]?=some (.cells #[.int .i64 q_i,.bool q_g,.slice q_o q_n q_c,.int .i64 q_e] 68 (0,0)))∧Hid (EA wr (.agg #[.int .i64 p_i,.bool p_g,.slice p_o p_n p_c,.int .i64 p_e]) (mn E k))∧Hid (EA wr (.agg #[.int .i64 q_i,.bool q_g,.slice q_o q_n q_c,.int .i64 q_e]) (mx E k))∧Below w.heap.size w wr) (fun iv _=>n-(intOf iv).toNat)
 case atStart=>exact⟨0,l_i,l_g,l_o,l_n,l_c,l_e,l_i,l_g,l_o,l_n,l_c,l_e,h0,rfl,s_k,t_k,u_k,v_k,hz0.keeps hb4,hz0.keeps hb4,hb4⟩
 case round=>
  obtain⟨k,p_i,p_g,p_o,p_n,p_c,p_e,q_i,q_g,q_o,q_n,q_c,q_e,hk,rfl,HS,HT,HU,HV,HP,HQ,hbw⟩:=hrel
  clear s_k t_k u_k v_k hb4 hz0
  by_cases hlt:k+1<n
  ·have hE:=h.keeps hbw
   have hx:=hE.ea (k+1) hlt
   obtain⟨jm,jm1,jm2⟩:=AG E k
   obtain⟨jx,jx1,jx2⟩:=AH E k
   have omn:(mn E k).ok:=by rw[jm2];exact oE _ (by omega)
   have omx:(mx E k).ok:=by rw[jx2];exact oE _ (by omega)
   have O1:Hid (∀ W,Below wr.heap.size wr W->Calls prog 41 #[(r (k+1)).v,.agg #[.int .i64 p_i,.bool p_g,.slice p_o p_n p_c,.int .i64 p_e]] W fun r w'=>r=.returned (.int .i64 (cc (E (k+1)) (mn E k)))∧Below W.heap.size W w'):=fun W hW=>mY (hx.ev.keeps hW) (HP.out.ev.keeps hW) hK (bE _ hlt) (by rw[jm2];exact bE _ (by omega))
   have O2:Hid (∀ (z:Value) W,EA W z (mx E k)->EA W (r (k+1)).v (E (k+1))->Calls prog 41 #[(r (k+1)).v,z] W fun r w'=>r=.returned (.int .i64 (cc (E (k+1)) (mx E k)))∧Below W.heap.size W w'):=fun z W hz hm=>mY hm.ev hz.ev hK (bE _ hlt) (by rw[jx2];exact bE _ (by omega))
   have hcl:∀ W,Below w.heap.size w W->W.cell? ⟨b,off+(k+1)*4,none⟩=some (.int .i64 (r (k+1)).i)∧W.cell? ⟨b,off+(k+1)*4+1,none⟩=some (.bool (r (k+1)).g)∧W.cell? ⟨b,off+(k+1)*4+2,none⟩=some (.slice (r (k+1)).o (r (k+1)).n (r (k+1)).c)∧W.cell? ⟨b,off+(k+1)*4+3,none⟩=some (.int .i64 (r (k+1)).e):=fun W hW=>(h.keeps hW).cells (k+1) hlt
   have em:mn E (k+1)=if cc (E (k+1)) (mn E k)<0 then E (k+1) else mn E k:=BT omn (oE _ hlt)
   have ex:mx E (k+1)=if 0<cc (E (k+1)) (mx E k) then E (k+1) else mx E k:=BU omx (oE _ hlt)
   generalize hrk:r (k+1)=rk at hcl hx O1 O2
   unfold fS.v at hx O1 O2
   obtain⟨m_i,m_g,m_o,m_n,m_c,m_e⟩:=rk
   simp only at hcl hx O1 O2
   clear hrk jm1 jm2 jx1 jx2 omn omx hE
   generalize cc (E (k+1)) (mn E k)=o1 at *
   generalize cc (E (k+1)) (mx E k)=o2 at *
   have i1:(0:Int)<=(k:Int)+1:=by omega
   have i2:(k:Int)+1<(n:Int):=by omega
   have i3:((k:Int)+1).toNat=k+1:=by omega
   replace em:=aA em
   replace ex:=aA ex
   by_cases hA:o1<0
   ·by_cases hB:0<o2
    ·have em2:mn E (k+1)=E (k+1):=by have:=em.out;rw[if_pos hA] at this;exact this
     have ex2:mx E (k+1)=E (k+1):=by have:=ex.out;rw[if_pos hB] at this;exact this
     have em3:=aA em2
     have ex3:=aA ex2
     clear em2 ex2 em ex
     go_wp2_with fail
     have B0:Below wr.heap.size wr wr.drew:=(ap _).drew
     have KK:∀ W,Below wr.heap.size wr W->(W.cell? ⟨b,off+(k+1)*4,none⟩=some (.int .i64 m_i)∧W.cell? ⟨b,off+(k+1)*4+1,none⟩=some (.bool m_g)∧W.cell? ⟨b,off+(k+1)*4+2,none⟩=some (.slice m_o m_n m_c)∧W.cell? ⟨b,off+(k+1)*4+3,none⟩=some (.int .i64 m_e))∧(W.cell? ⟨w.heap.size+1+1,0,none⟩=some (.int .i64 p_i)∧W.cell? ⟨w.heap.size+1+1,1,none⟩=some (.bool p_g)∧W.cell? ⟨w.heap.size+1+1,2,none⟩=some (.slice p_o p_n p_c)∧W.cell? ⟨w.heap.size+1+1,3,none⟩=some (.int .i64 p_e)):=fun W hW=>⟨hcl W (ab hbw hW),aa (ac hW HU.out) 0 rfl,aa (ac hW HU.out) 1 rfl,aa (ac hW HU.out) 2 rfl,aa (ac hW HU.out) 3 rfl⟩
     go_region_held3 (fun W=>(W.cell? ⟨b,off+(k+1)*4,none⟩=some (.int .i64 m_i)∧W.cell? ⟨b,off+(k+1)*4+1,none⟩=some (.bool m_g)∧W.cell? ⟨b,off+(k+1)*4+2,none⟩=some (.slice m_o m_n m_c)∧W.cell? ⟨b,off+(k+1)*4+3,none⟩=some (.int .i64 m_e))∧(W.cell? ⟨w.heap.size+1+1,0,none⟩=some (.int .i64 p_i)∧W.cell? ⟨w.heap.size+1+1,1,none⟩=some (.bool p_g)∧W.cell? ⟨w.heap.size+1+1,2,none⟩=some (.slice p_o p_n p_c)∧W.cell? ⟨w.heap.size+1+1,3,none⟩=some (.int .i64 p_e)))
      (first|assumption|exact KK _ B0|exact KK _ B1|fail)
      ((go_at_call 41;refine(O1.out _ B0).mono ?_;rintro _ y1 ⟨rfl,hs1⟩;have B1:=ab B0 hs1))
     clear KK O1 B0 hs1
     have HS1:=aA (ac B1 HS.out)
     have HT1:=aA (ac B1 HT.out)
     have U1:=ac B1 HU.out
     have HV1:=aA (ac B1 HV.out)
     have P1:=aA (HP.out.keeps B1)
     have Q1:=aA (HQ.out.keeps B1)
     have M1:=aA (hx.keeps B1)
     have hb1:=ab hbw B1
     clear HS HT HU HV HP HQ hx hbw B1
     obtain⟨c0,c1,c2,c3⟩:=hcl _ hb1
     have f_u0:=aa U1 0 rfl
     have f_u1:=aa U1 1 rfl
     have f_u2:=aa U1 2 rfl
     have f_u3:=aa U1 3 rfl
     have z_u0:=af U1 0
     have z_u1:=af U1 1
     have z_u2:=af U1 2
     have z_u3:=af U1 3
     have HS2:=aA (cT HS1.out (show w.heap.size≠w.heap.size+1+1 by omega) (.int .i64 m_i) (.bool m_g) (.slice m_o m_n m_c) (.int .i64 m_e))
     have HT2:=aA (cT HT1.out (show w.heap.size+1≠w.heap.size+1+1 by omega) (.int .i64 m_i) (.bool m_g) (.slice m_o m_n m_c) (.int .i64 m_e))
     have U2:=aA (ie U1 (.int .i64 m_i) (.bool m_g) (.slice m_o m_n m_c) (.int .i64 m_e))
     have HV2:=aA (cT HV1.out (show w.heap.size+1+1+1≠w.heap.size+1+1 by omega) (.int .i64 m_i) (.bool m_g) (.slice m_o m_n m_c) (.int .i64 m_e))
     have P2:=aA (M1.out.set4 U1 (.int .i64 m_i) (.bool m_g) (.slice m_o m_n m_c) (.int .i64 m_e))
     have Q2:=aA (Q1.out.set4 U1 (.int .i64 m_i) (.bool m_g) (.slice m_o m_n m_c) (.int .i64 m_e))
     have M2:=aA (M1.out.set4 U1 (.int .i64 m_i) (.bool m_g) (.slice m_o m_n m_c) (.int .i64 m_e))
     have hb2:=aT hb1 (show w.heap.size<=w.heap.size+1+1 by omega) (.int .i64 m_i) (.bool m_g) (.slice m_o m_n m_c) (.int .i64 m_e)
     clear HS1 HT1 HV1 P1 Q1 M1 hb1 U1
     go_wp2_with fail
     clear f_u0 z_u0 f_u1 z_u1 f_u2 z_u2 f_u3 z_u3 c0 c1 c2 c3
     generalize (((y1.setCell ⟨w.heap.size+1+1,0,none⟩ (.int .i64 m_i)).setCell ⟨w.heap.size+1+1,1,none⟩ (.bool m_g)).setCell ⟨w.heap.size+1+1,2,none⟩ (.slice m_o m_n m_c)).setCell ⟨w.heap.size+1+1,3,none⟩ (.int .i64 m_e)=y2 at HS2 HT2 U2 HV2 P2 Q2 M2 hb2 ⊢
     have B0:Below y2.heap.size y2 y2.drew:=(ap _).drew
     have KK:∀ W,Below y2.heap.size y2 W->(W.cell? ⟨b,off+(k+1)*4,none⟩=some (.int .i64 m_i)∧W.cell? ⟨b,off+(k+1)*4+1,none⟩=some (.bool m_g)∧W.cell? ⟨b,off+(k+1)*4+2,none⟩=some (.slice m_o m_n m_c)∧W.cell? ⟨b,off+(k+1)*4+3,none⟩=some (.int .i64 m_e))∧(W.cell? ⟨w.heap.size+1+1+1,0,none⟩=some (.int .i64 q_i)∧W.cell? ⟨w.heap.size+1+1+1,1,none⟩=some (.bool q_g)∧W.cell? ⟨w.heap.size+1+1+1,2,none⟩=some (.slice q_o q_n q_c)∧W.cell? ⟨w.heap.size+1+1+1,3,none⟩=some (.int .i64 q_e)):=fun W hW=>⟨hcl W (ab hb2 hW),aa (ac hW HV2.out) 0 rfl,aa (ac hW HV2.out) 1 rfl,aa (ac hW HV2.out) 2 rfl,aa (ac hW HV2.out) 3 rfl⟩
     go_region_held3 (fun W=>(W.cell? ⟨b,off+(k+1)*4,none⟩=some (.int .i64 m_i)∧W.cell? ⟨b,off+(k+1)*4+1,none⟩=some (.bool m_g)∧W.cell? ⟨b,off+(k+1)*4+2,none⟩=some (.slice m_o m_n m_c)∧W.cell? ⟨b,off+(k+1)*4+3,none⟩=some (.int .i64 m_e))∧(W.cell? ⟨w.heap.size+1+1+1,0,none⟩=some (.int .i64 q_i)∧W.cell? ⟨w.heap.size+1+1+1,1,none⟩=some (.bool q_g)∧W.cell? ⟨w.heap.size+1+1+1,2,none⟩=some (.slice q_o q_n q_c)∧W.cell? ⟨w.heap.size+1+1+1,3,none⟩=some (.int .i64 q_e)))
      (first|assumption|exact KK _ B0|exact KK _ B1|fail)
      ((go_at_call 41;refine(O2.out _ _ (Q2.out.keeps B0) (M2.out.keeps B0)).mono ?_;rintro _ y3 ⟨rfl,hs1⟩;have B1:=ab B0 hs1))
     clear KK O2 B0 hs1
     have HS3:=aA (ac B1 HS2.out)
     have HT3:=aA (ac B1 HT2.out)
     have U3:=aA (ac B1 U2.out)
     have V3:=ac B1 HV2.out
     have P3:=aA (P2.out.keeps B1)
     have Q3:=aA (Q2.out.keeps B1)
     have M3:=aA (M2.out.keeps B1)
     have hb3:=ab hb2 B1
     clear HS2 HT2 U2 HV2 P2 Q2 M2 hb2 B1
     obtain⟨c0,c1,c2,c3⟩:=hcl _ hb3
     have f_u0:=aa V3 0 rfl
     have f_u1:=aa V3 1 rfl
     have f_u2:=aa V3 2 rfl
     have f_u3:=aa V3 3 rfl
     have z_u0:=af V3 0
     have z_u1:=af V3 1
     have z_u2:=af V3 2
     have z_u3:=af V3 3
     have HS4:=aA (cT HS3.out (show w.heap.size≠w.heap.size+1+1+1 by omega) (.int .i64 m_i) (.bool m_g) (.slice m_o m_n m_c) (.int .i64 m_e))
     have HT4:=aA (cT HT3.out (show w.heap.size+1≠w.heap.size+1+1+1 by omega) (.int .i64 m_i) (.bool m_g) (.slice m_o m_n m_c) (.int .i64 m_e))
     have V4:=aA (ie V3 (.int .i64 m_i) (.bool m_g) (.slice m_o m_n m_c) (.int .i64 m_e))
     have U4:=aA (cT U3.out (show w.heap.size+1+1≠w.heap.size+1+1+1 by omega) (.int .i64 m_i) (.bool m_g) (.slice m_o m_n m_c) (.int .i64 m_e))
     have P4:=aA (P3.out.set4 V3 (.int .i64 m_i) (.bool m_g) (.slice m_o m_n m_c) (.int .i64 m_e))
     have Q4':=aA (M3.out.set4 V3 (.int .i64 m_i) (.bool m_g) (.slice m_o m_n m_c) (.int .i64 m_e))
     have hb4:=aT hb3 (show w.heap.size<=w.heap.size+1+1+1 by omega) (.int .i64 m_i) (.bool m_g) (.slice m_o m_n m_c) (.int .i64 m_e)
     clear HS3 HT3 U3 P3 Q3 M3 hb3 V3
     go_wp2_with fail
     go_roundw
     case rel=>exact⟨k+1,m_i,m_g,m_o,m_n,m_c,m_e,m_i,m_g,m_o,m_n,m_c,m_e,hlt,by go_num,HS4.out,HT4.out,U4.out,V4.out,by rw[em3.out];exact P4.out,by rw[ex3.out];exact Q4'.out,hb4⟩
     case measure=>simp[intOf];omega
    ·have em2:mn E (k+1)=E (k+1):=by have:=em.out;rw[if_pos hA] at this;exact this
     have ex2:mx E (k+1)=mx E k:=by have:=ex.out;rw[if_neg hB] at this;exact this
     have em3:=aA em2
     have ex3:=aA ex2
     clear em2 ex2 em ex
     go_wp2_with fail
     have B0:Below wr.heap.size wr wr.drew:=(ap _).drew
     have KK:∀ W,Below wr.heap.size wr W->(W.cell? ⟨b,off+(k+1)*4,none⟩=some (.int .i64 m_i)∧W.cell? ⟨b,off+(k+1)*4+1,none⟩=some (.bool m_g)∧W.cell? ⟨b,off+(k+1)*4+2,none⟩=some (.slice m_o m_n m_c)∧W.cell? ⟨b,off+(k+1)*4+3,none⟩=some (.int .i64 m_e))∧(W.cell? ⟨w.heap.size+1+1,0,none⟩=some (.int .i64 p_i)∧W.cell? ⟨w.heap.size+1+1,1,none⟩=some (.bool p_g)∧W.cell? ⟨w.heap.size+1+1,2,none⟩=some (.slice p_o p_n p_c)∧W.cell? ⟨w.heap.size+1+1,3,none⟩=some (.int .i64 p_e)):=fun W hW=>⟨hcl W (ab hbw hW),aa (ac hW HU.out) 0 rfl,aa (ac hW HU.out) 1 rfl,aa (ac hW HU.out) 2 rfl,aa (ac hW HU.out) 3 rfl⟩
     go_region_held3 (fun W=>(W.cell? ⟨b,off+(k+1)*4,none⟩=some (.int .i64 m_i)∧W.cell? ⟨b,off+(k+1)*4+1,none⟩=some (.bool m_g)∧W.cell? ⟨b,off+(k+1)*4+2,none⟩=some (.slice m_o m_n m_c)∧W.cell? ⟨b,off+(k+1)*4+3,none⟩=some (.int .i64 m_e))∧(W.cell? ⟨w.heap.size+1+1,0,none⟩=some (.int .i64 p_i)∧W.cell? ⟨w.heap.size+1+1,1,none⟩=some (.bool p_g)∧W.cell? ⟨w.heap.size+1+1,2,none⟩=some (.slice p_o p_n p_c)∧W.cell? ⟨w.heap.size+1+1,3,none⟩=some (.int .i64 p_e)))
      (first|assumption|exact KK _ B0|exact KK _ B1|fail)
      ((go_at_call 41;refine(O1.out _ B0).mono ?_;rintro _ y1 ⟨rfl,hs1⟩;have B1:=ab B0 hs1))
     clear KK O1 B0 hs1
     have HS1:=aA (ac B1 HS.out)
     have HT1:=aA (ac B1 HT.out)
     have U1:=ac B1 HU.out
     have HV1:=aA (ac B1 HV.out)
     have P1:=aA (HP.out.keeps B1)
     have Q1:=aA (HQ.out.keeps B1)
     have M1:=aA (hx.keeps B1)
     have hb1:=ab hbw B1
     clear HS HT HU HV HP HQ hx hbw B1
     obtain⟨c0,c1,c2,c3⟩:=hcl _ hb1
     have f_u0:=aa U1 0 rfl
     have f_u1:=aa U1 1 rfl
     have f_u2:=aa U1 2 rfl
     have f_u3:=aa U1 3 rfl
     have z_u0:=af U1 0
     have z_u1:=af U1 1
     have z_u2:=af U1 2
     have z_u3:=af U1 3
     have HS2:=aA (cT HS1.out (show w.heap.size≠w.heap.size+1+1 by omega) (.int .i64 m_i) (.bool m_g) (.slice m_o m_n m_c) (.int .i64 m_e))
     have HT2:=aA (cT HT1.out (show w.heap.size+1≠w.heap.size+1+1 by omega) (.int .i64 m_i) (.bool m_g) (.slice m_o m_n m_c) (.int .i64 m_e))
     have U2:=aA (ie U1 (.int .i64 m_i) (.bool m_g) (.slice m_o m_n m_c) (.int .i64 m_e))
     have HV2:=aA (cT HV1.out (show w.heap.size+1+1+1≠w.heap.size+1+1 by omega) (.int .i64 m_i) (.bool m_g) (.slice m_o m_n m_c) (.int .i64 m_e))
     have P2:=aA (M1.out.set4 U1 (.int .i64 m_i) (.bool m_g) (.slice m_o m_n m_c) (.int .i64 m_e))
     have Q2:=aA (Q1.out.set4 U1 (.int .i64 m_i) (.bool m_g) (.slice m_o m_n m_c) (.int .i64 m_e))
     have M2:=aA (M1.out.set4 U1 (.int .i64 m_i) (.bool m_g) (.slice m_o m_n m_c) (.int .i64 m_e))
     have hb2:=aT hb1 (show w.heap.size<=w.heap.size+1+1 by omega) (.int .i64 m_i) (.bool m_g) (.slice m_o m_n m_c) (.int .i64 m_e)
     clear HS1 HT1 HV1 P1 Q1 M1 hb1 U1
     go_wp2_with fail
     clear f_u0 z_u0 f_u1 z_u1 f_u2 z_u2 f_u3 z_u3 c0 c1 c2 c3
     generalize (((y1.setCell ⟨w.heap.size+1+1,0,none⟩ (.int .i64 m_i)).setCell ⟨w.heap.size+1+1,1,none⟩ (.bool m_g)).setCell ⟨w.heap.size+1+1,2,none⟩ (.slice m_o m_n m_c)).setCell ⟨w.heap.size+1+1,3,none⟩ (.int .i64 m_e)=y2 at HS2 HT2 U2 HV2 P2 Q2 M2 hb2 ⊢
     have B0:Below y2.heap.size y2 y2.drew:=(ap _).drew
     have KK:∀ W,Below y2.heap.size y2 W->(W.cell? ⟨b,off+(k+1)*4,none⟩=some (.int .i64 m_i)∧W.cell? ⟨b,off+(k+1)*4+1,none⟩=some (.bool m_g)∧W.cell? ⟨b,off+(k+1)*4+2,none⟩=some (.slice m_o m_n m_c)∧W.cell? ⟨b,off+(k+1)*4+3,none⟩=some (.int .i64 m_e))∧(W.cell? ⟨w.heap.size+1+1+1,0,none⟩=some (.int .i64 q_i)∧W.cell? ⟨w.heap.size+1+1+1,1,none⟩=some (.bool q_g)∧W.cell? ⟨w.heap.size+1+1+1,2,none⟩=some (.slice q_o q_n q_c)∧W.cell? ⟨w.heap.size+1+1+1,3,none⟩=some (.int .i64 q_e)):=fun W hW=>⟨hcl W (ab hb2 hW),aa (ac hW HV2.out) 0 rfl,aa (ac hW HV2.out) 1 rfl,aa (ac hW HV2.out) 2 rfl,aa (ac hW HV2.out) 3 rfl⟩
     go_region_held3 (fun W=>(W.cell? ⟨b,off+(k+1)*4,none⟩=some (.int .i64 m_i)∧W.cell? ⟨b,off+(k+1)*4+1,none⟩=some (.bool m_g)∧W.cell? ⟨b,off+(k+1)*4+2,none⟩=some (.slice m_o m_n m_c)∧W.cell? ⟨b,off+(k+1)*4+3,none⟩=some (.int .i64 m_e))∧(W.cell? ⟨w.heap.size+1+1+1,0,none⟩=some (.int .i64 q_i)∧W.cell? ⟨w.heap.size+1+1+1,1,none⟩=some (.bool q_g)∧W.cell? ⟨w.heap.size+1+1+1,2,none⟩=some (.slice q_o q_n q_c)∧W.cell? ⟨w.heap.size+1+1+1,3,none⟩=some (.int .i64 q_e)))
      (first|assumption|exact KK _ B0|exact KK _ B1|fail)
      ((go_at_call 41;refine(O2.out _ _ (Q2.out.keeps B0) (M2.out.keeps B0)).mono ?_;rintro _ y3 ⟨rfl,hs1⟩;have B1:=ab B0 hs1))
     clear KK O2 B0 hs1
     have HS3:=aA (ac B1 HS2.out)
     have HT3:=aA (ac B1 HT2.out)
     have U3:=aA (ac B1 U2.out)
     have V3:=ac B1 HV2.out
     have P3:=aA (P2.out.keeps B1)
     have Q3:=aA (Q2.out.keeps B1)
     have M3:=aA (M2.out.keeps B1)
     have hb3:=ab hb2 B1
     clear HS2 HT2 U2 HV2 P2 Q2 M2 hb2 B1
     have V4:=aA V3
     have HS4:=HS3
     have HT4:=HT3
     have U4:=U3
     have P4:=P3
     have Q4':=Q3
     have hb4:=hb3
     clear HS3 HT3 U3 V3 P3 Q3 M3 hb3
     go_wp2_with fail
     go_roundw
     case rel=>exact⟨k+1,m_i,m_g,m_o,m_n,m_c,m_e,q_i,q_g,q_o,q_n,q_c,q_e,hlt,by go_num,HS4.out,HT4.out,U4.out,V4.out,by rw[em3.out];exact P4.out,by rw[ex3.out];exact Q4'.out,hb4⟩
     case measure=>simp[intOf];omega
   ·by_cases hB:0<o2
    ·have em2:mn E (k+1)=mn E k:=by have:=em.out;rw[if_neg hA] at this;exact this
     have ex2:mx E (k+1)=E (k+1):=by have:=ex.out;rw[if_pos hB] at this;exact this
     have em3:=aA em2
     have ex3:=aA ex2
     clear em2 ex2 em ex
     go_wp2_with fail
     have B0:Below wr.heap.size wr wr.drew:=(ap _).drew
     have KK:∀ W,Below wr.heap.size wr W->(W.cell? ⟨b,off+(k+1)*4,none⟩=some (.int .i64 m_i)∧W.cell? ⟨b,off+(k+1)*4+1,none⟩=some (.bool m_g)∧W.cell? ⟨b,off+(k+1)*4+2,none⟩=some (.slice m_o m_n m_c)∧W.cell? ⟨b,off+(k+1)*4+3,none⟩=some (.int .i64 m_e))∧(W.cell? ⟨w.heap.size+1+1,0,none⟩=some (.int .i64 p_i)∧W.cell? ⟨w.heap.size+1+1,1,none⟩=some (.bool p_g)∧W.cell? ⟨w.heap.size+1+1,2,none⟩=some (.slice p_o p_n p_c)∧W.cell? ⟨w.heap.size+1+1,3,none⟩=some (.int .i64 p_e)):=fun W hW=>⟨hcl W (ab hbw hW),aa (ac hW HU.out) 0 rfl,aa (ac hW HU.out) 1 rfl,aa (ac hW HU.out) 2 rfl,aa (ac hW HU.out) 3 rfl⟩
     go_region_held3 (fun W=>(W.cell? ⟨b,off+(k+1)*4,none⟩=some (.int .i64 m_i)∧W.cell? ⟨b,off+(k+1)*4+1,none⟩=some (.bool m_g)∧W.cell? ⟨b,off+(k+1)*4+2,none⟩=some (.slice m_o m_n m_c)∧W.cell? ⟨b,off+(k+1)*4+3,none⟩=some (.int .i64 m_e))∧(W.cell? ⟨w.heap.size+1+1,0,none⟩=some (.int .i64 p_i)∧W.cell? ⟨w.heap.size+1+1,1,none⟩=some (.bool p_g)∧W.cell? ⟨w.heap.size+1+1,2,none⟩=some (.slice p_o p_n p_c)∧W.cell? ⟨w.heap.size+1+1,3,none⟩=some (.int .i64 p_e)))
      (first|assumption|exact KK _ B0|exact KK _ B1|fail)
      ((go_at_call 41;refine(O1.out _ B0).mono ?_;rintro _ y1 ⟨rfl,hs1⟩;have B1:=ab B0 hs1))
     clear KK O1 B0 hs1
     have HS1:=aA (ac B1 HS.out)
     have HT1:=aA (ac B1 HT.out)
     have U1:=ac B1 HU.out
     have HV1:=aA (ac B1 HV.out)
     have P1:=aA (HP.out.keeps B1)
     have Q1:=aA (HQ.out.keeps B1)
     have M1:=aA (hx.keeps B1)
     have hb1:=ab hbw B1
     clear HS HT HU HV HP HQ hx hbw B1
     have U2:=aA U1
     have HS2:=HS1
     have HT2:=HT1
     have HV2:=HV1
     have P2:=P1
     have Q2:=Q1
     have M2:=M1
     have hb2:=hb1
     clear U1 HS1 HT1 HV1 P1 Q1 M1 hb1
     go_wp2_with fail
     generalize y1=y2 at HS2 HT2 U2 HV2 P2 Q2 M2 hb2 ⊢
     have B0:Below y2.heap.size y2 y2.drew:=(ap _).drew
     have KK:∀ W,Below y2.heap.size y2 W->(W.cell? ⟨b,off+(k+1)*4,none⟩=some (.int .i64 m_i)∧W.cell? ⟨b,off+(k+1)*4+1,none⟩=some (.bool m_g)∧W.cell? ⟨b,off+(k+1)*4+2,none⟩=some (.slice m_o m_n m_c)∧W.cell? ⟨b,off+(k+1)*4+3,none⟩=some (.int .i64 m_e))∧(W.cell? ⟨w.heap.size+1+1+1,0,none⟩=some (.int .i64 q_i)∧W.cell? ⟨w.heap.size+1+1+1,1,none⟩=some (.bool q_g)∧W.cell? ⟨w.heap.size+1+1+1,2,none⟩=some (.slice q_o q_n q_c)∧W.cell? ⟨w.heap.size+1+1+1,3,none⟩=some (.int .i64 q_e)):=fun W hW=>⟨hcl W (ab hb2 hW),aa (ac hW HV2.out) 0 rfl,aa (ac hW HV2.out) 1 rfl,aa (ac hW HV2.out) 2 rfl,aa (ac hW HV2.out) 3 rfl⟩
     go_region_held3 (fun W=>(W.cell? ⟨b,off+(k+1)*4,none⟩=some (.int .i64 m_i)∧W.cell? ⟨b,off+(k+1)*4+1,none⟩=some (.bool m_g)∧W.cell? ⟨b,off+(k+1)*4+2,none⟩=some (.slice m_o m_n m_c)∧W.cell? ⟨b,off+(k+1)*4+3,none⟩=some (.int .i64 m_e))∧(W.cell? ⟨w.heap.size+1+1+1,0,none⟩=some (.int .i64 q_i)∧W.cell? ⟨w.heap.size+1+1+1,1,none⟩=some (.bool q_g)∧W.cell? ⟨w.heap.size+1+1+1,2,none⟩=some (.slice q_o q_n q_c)∧W.cell? ⟨w.heap.size+1+1+1,3,none⟩=some (.int .i64 q_e)))
      (first|assumption|exact KK _ B0|exact KK _ B1|fail)
      ((go_at_call 41;refine(O2.out _ _ (Q2.out.keeps B0) (M2.out.keeps B0)).mono ?_;rintro _ y3 ⟨rfl,hs1⟩;have B1:=ab B0 hs1))
     clear KK O2 B0 hs1
     have HS3:=aA (ac B1 HS2.out)
     have HT3:=aA (ac B1 HT2.out)
     have U3:=aA (ac B1 U2.out)
     have V3:=ac B1 HV2.out
     have P3:=aA (P2.out.keeps B1)
     have Q3:=aA (Q2.out.keeps B1)
     have M3:=aA (M2.out.keeps B1)
     have hb3:=ab hb2 B1
     clear HS2 HT2 U2 HV2 P2 Q2 M2 hb2 B1
     obtain⟨c0,c1,c2,c3⟩:=hcl _ hb3
     have f_u0:=aa V3 0 rfl
     have f_u1:=aa V3 1 rfl
     have f_u2:=aa V3 2 rfl
     have f_u3:=aa V3 3 rfl
     have z_u0:=af V3 0
     have z_u1:=af V3 1
     have z_u2:=af V3 2
     have z_u3:=af V3 3
     have HS4:=aA (cT HS3.out (show w.heap.size≠w.heap.size+1+1+1 by omega) (.int .i64 m_i) (.bool m_g) (.slice m_o m_n m_c) (.int .i64 m_e))
     have HT4:=aA (cT HT3.out (show w.heap.size+1≠w.heap.size+1+1+1 by omega) (.int .i64 m_i) (.bool m_g) (.slice m_o m_n m_c) (.int .i64 m_e))
     have V4:=aA (ie V3 (.int .i64 m_i) (.bool m_g) (.slice m_o m_n m_c) (.int .i64 m_e))
     have U4:=aA (cT U3.out (show w.heap.size+1+1≠w.heap.size+1+1+1 by omega) (.int .i64 m_i) (.bool m_g) (.slice m_o m_n m_c) (.int .i64 m_e))
     have P4:=aA (P3.out.set4 V3 (.int .i64 m_i) (.bool m_g) (.slice m_o m_n m_c) (.int .i64 m_e))
     have Q4':=aA (M3.out.set4 V3 (.int .i64 m_i) (.bool m_g) (.slice m_o m_n m_c) (.int .i64 m_e))
     have hb4:=aT hb3 (show w.heap.size<=w.heap.size+1+1+1 by omega) (.int .i64 m_i) (.bool m_g) (.slice m_o m_n m_c) (.int .i64 m_e)
     clear HS3 HT3 U3 P3 Q3 M3 hb3 V3
     go_wp2_with fail
     go_roundw
     case rel=>exact⟨k+1,p_i,p_g,p_o,p_n,p_c,p_e,m_i,m_g,m_o,m_n,m_c,m_e,hlt,by go_num,HS4.out,HT4.out,U4.out,V4.out,by rw[em3.out];exact P4.out,by rw[ex3.out];exact Q4'.out,hb4⟩
     case measure=>simp[intOf];omega
    ·have em2:mn E (k+1)=mn E k:=by have:=em.out;rw[if_neg hA] at this;exact this
     have ex2:mx E (k+1)=mx E k:=by have:=ex.out;rw[if_neg hB] at this;exact this
     have em3:=aA em2
     have ex3:=aA ex2
     clear em2 ex2 em ex
     go_wp2_with fail
     have B0:Below wr.heap.size wr wr.drew:=(ap _).drew
     have KK:∀ W,Below wr.heap.size wr W->(W.cell? ⟨b,off+(k+1)*4,none⟩=some (.int .i64 m_i)∧W.cell? ⟨b,off+(k+1)*4+1,none⟩=some (.bool m_g)∧W.cell? ⟨b,off+(k+1)*4+2,none⟩=some (.slice m_o m_n m_c)∧W.cell? ⟨b,off+(k+1)*4+3,none⟩=some (.int .i64 m_e))∧(W.cell? ⟨w.heap.size+1+1,0,none⟩=some (.int .i64 p_i)∧W.cell? ⟨w.heap.size+1+1,1,none⟩=some (.bool p_g)∧W.cell? ⟨w.heap.size+1+1,2,none⟩=some (.slice p_o p_n p_c)∧W.cell? ⟨w.heap.size+1+1,3,none⟩=some (.int .i64 p_e)):=fun W hW=>⟨hcl W (ab hbw hW),aa (ac hW HU.out) 0 rfl,aa (ac hW HU.out) 1 rfl,aa (ac hW HU.out) 2 rfl,aa (ac hW HU.out) 3 rfl⟩
     go_region_held3 (fun W=>(W.cell? ⟨b,off+(k+1)*4,none⟩=some (.int .i64 m_i)∧W.cell? ⟨b,off+(k+1)*4+1,none⟩=some (.bool m_g)∧W.cell? ⟨b,off+(k+1)*4+2,none⟩=some (.slice m_o m_n m_c)∧W.cell? ⟨b,off+(k+1)*4+3,none⟩=some (.int .i64 m_e))∧(W.cell? ⟨w.heap.size+1+1,0,none⟩=some (.int .i64 p_i)∧W.cell? ⟨w.heap.size+1+1,1,none⟩=some (.bool p_g)∧W.cell? ⟨w.heap.size+1+1,2,none⟩=some (.slice p_o p_n p_c)∧W.cell? ⟨w.heap.size+1+1,3,none⟩=some (.int .i64 p_e)))
      (first|assumption|exact KK _ B0|exact KK _ B1|fail)
      ((go_at_call 41;refine(O1.out _ B0).mono ?_;rintro _ y1 ⟨rfl,hs1⟩;have B1:=ab B0 hs1))
     clear KK O1 B0 hs1
     have HS1:=aA (ac B1 HS.out)
     have HT1:=aA (ac B1 HT.out)
     have U1:=ac B1 HU.out
     have HV1:=aA (ac B1 HV.out)
     have P1:=aA (HP.out.keeps B1)
     have Q1:=aA (HQ.out.keeps B1)
     have M1:=aA (hx.keeps B1)
     have hb1:=ab hbw B1
     clear HS HT HU HV HP HQ hx hbw B1
     have U2:=aA U1
     have HS2:=HS1
     have HT2:=HT1
     have HV2:=HV1
     have P2:=P1
     have Q2:=Q1
     have M2:=M1
     have hb2:=hb1
     clear U1 HS1 HT1 HV1 P1 Q1 M1 hb1
     go_wp2_with fail
     generalize y1=y2 at HS2 HT2 U2 HV2 P2 Q2 M2 hb2 ⊢
     have B0:Below y2.heap.size y2 y2.drew:=(ap _).drew
     have KK:∀ W,Below y2.heap.size y2 W->(W.cell? ⟨b,off+(k+1)*4,none⟩=some (.int .i64 m_i)∧W.cell? ⟨b,off+(k+1)*4+1,none⟩=some (.bool m_g)∧W.cell? ⟨b,off+(k+1)*4+2,none⟩=some (.slice m_o m_n m_c)∧W.cell? ⟨b,off+(k+1)*4+3,none⟩=some (.int .i64 m_e))∧(W.cell? ⟨w.heap.size+1+1+1,0,none⟩=some (.int .i64 q_i)∧W.cell? ⟨w.heap.size+1+1+1,1,none⟩=some (.bool q_g)∧W.cell? ⟨w.heap.size+1+1+1,2,none⟩=some (.slice q_o q_n q_c)∧W.cell? ⟨w.heap.size+1+1+1,3,none⟩=some (.int .i64 q_e)):=fun W hW=>⟨hcl W (ab hb2 hW),aa (ac hW HV2.out) 0 rfl,aa (ac hW HV2.out) 1 rfl,aa (ac hW HV2.out) 2 rfl,aa (ac hW HV2.out) 3 rfl⟩
     go_region_held3 (fun W=>(W.cell? ⟨b,off+(k+1)*4,none⟩=some (.int .i64 m_i)∧W.cell? ⟨b,off+(k+1)*4+1,none⟩=some (.bool m_g)∧W.cell? ⟨b,off+(k+1)*4+2,none⟩=some (.slice m_o m_n m_c)∧W.cell? ⟨b,off+(k+1)*4+3,none⟩=some (.int .i64 m_e))∧(W.cell? ⟨w.heap.size+1+1+1,0,none⟩=some (.int .i64 q_i)∧W.cell? ⟨w.heap.size+1+1+1,1,none⟩=some (.bool q_g)∧W.cell? ⟨w.heap.size+1+1+1,2,none⟩=some (.slice q_o q_n q_c)∧W.cell? ⟨w.heap.size+1+1+1,3,none⟩=some (.int .i64 q_e)))
      (first|assumption|exact KK _ B0|exact KK _ B1|fail)
      ((go_at_call 41;refine(O2.out _ _ (Q2.out.keeps B0) (M2.out.keeps B0)).mono ?_;rintro _ y3 ⟨rfl,hs1⟩;have B1:=ab B0 hs1))
     clear KK O2 B0 hs1
     have HS3:=aA (ac B1 HS2.out)
     have HT3:=aA (ac B1 HT2.out)
     have U3:=aA (ac B1 U2.out)
     have V3:=ac B1 HV2.out
     have P3:=aA (P2.out.keeps B1)
     have Q3:=aA (Q2.out.keeps B1)
     have M3:=aA (M2.out.keeps B1)
     have hb3:=ab hb2 B1
     clear HS2 HT2 U2 HV2 P2 Q2 M2 hb2 B1
     have V4:=aA V3
     have HS4:=HS3
     have HT4:=HT3
     have U4:=U3
     have P4:=P3
     have Q4':=Q3
     have hb4:=hb3
     clear HS3 HT3 U3 V3 P3 Q3 M3 hb3
     go_wp2_with fail
     go_roundw
     case rel=>exact⟨k+1,p_i,p_g,p_o,p_n,p_c,p_e,q_i,q_g,q_o,q_n,q_c,q_e,hlt,by go_num,HS4.out,HT4.out,U4.out,V4.out,by rw[em3.out];exact P4.out,by rw[ex3.out];exact Q4'.out,hb4⟩
     case measure=>simp[intOf];omega
  ·obtain rfl:n=k+1:=by omega
   have e1:k+1-1=k:=by omega
   replace e1:=aA e1
   clear h i0 h0 oE bE hlt
   have s_k:=HS.out
   have t_k:=HT.out
   clear HS HT
   go_wp2_with fail
   have kd:wr.drew.cell? ⟨w.heap.size+1+1,0,none⟩=some (.int .i64 p_i)∧wr.drew.cell? ⟨w.heap.size+1+1,1,none⟩=some (.bool p_g)∧wr.drew.cell? ⟨w.heap.size+1+1,2,none⟩=some (.slice p_o p_n p_c)∧wr.drew.cell? ⟨w.heap.size+1+1,3,none⟩=some (.int .i64 p_e)∧wr.drew.cell? ⟨w.heap.size+1+1+1,0,none⟩=some (.int .i64 q_i)∧wr.drew.cell? ⟨w.heap.size+1+1+1,1,none⟩=some (.bool q_g)∧wr.drew.cell? ⟨w.heap.size+1+1+1,2,none⟩=some (.slice q_o q_n q_c)∧wr.drew.cell? ⟨w.heap.size+1+1+1,3,none⟩=some (.int .i64 q_e):=⟨aa HU.out 0 rfl,aa HU.out 1 rfl,aa HU.out 2 rfl,aa HU.out 3 rfl,aa HV.out 0 rfl,aa HV.out 1 rfl,aa HV.out 2 rfl,aa HV.out 3 rfl⟩
   have f_s0:=aa s_k 0 rfl
   have f_s1:=aa s_k 1 rfl
   have f_s2:=aa s_k 2 rfl
   have f_s3:=aa s_k 3 rfl
   have z_s0:=af s_k 0
   have z_s1:=af s_k 1
   have z_s2:=af s_k 2
   have z_s3:=af s_k 3
   have f_t0:=aa t_k 0 rfl
   have f_t1:=aa t_k 1 rfl
   have f_t2:=aa t_k 2 rfl
   have f_t3:=aa t_k 3 rfl
   have z_t0:=af t_k 0
   have z_t1:=af t_k 1
   have z_t2:=af t_k 2
   have z_t3:=af t_k 3
   have n0:w.heap.size+1+1≠w.heap.size:=by omega
   have n1:w.heap.size+1+1≠w.heap.size+1:=by omega
   have n2:w.heap.size+1+1+1≠w.heap.size:=by omega
   have n3:w.heap.size+1+1+1≠w.heap.size+1:=by omega
   have kw:wr.cell? ⟨w.heap.size+1+1,0,none⟩=some (.int .i64 p_i)∧wr.cell? ⟨w.heap.size+1+1,1,none⟩=some (.bool p_g)∧wr.cell? ⟨w.heap.size+1+1,2,none⟩=some (.slice p_o p_n p_c)∧wr.cell? ⟨w.heap.size+1+1,3,none⟩=some (.int .i64 p_e)∧wr.cell? ⟨w.heap.size+1+1+1,0,none⟩=some (.int .i64 q_i)∧wr.cell? ⟨w.heap.size+1+1+1,1,none⟩=some (.bool q_g)∧wr.cell? ⟨w.heap.size+1+1+1,2,none⟩=some (.slice q_o q_n q_c)∧wr.cell? ⟨w.heap.size+1+1+1,3,none⟩=some (.int .i64 q_e):=⟨aa HU.out 0 rfl,aa HU.out 1 rfl,aa HU.out 2 rfl,aa HU.out 3 rfl,aa HV.out 0 rfl,aa HV.out 1 rfl,aa HV.out 2 rfl,aa HV.out 3 rfl⟩
   have kA':=m6 n0 n2 kw (.int .i64 p_i) (.bool p_g) (.slice p_o p_n p_c) (.int .i64 p_e)
   have kB':=m6 n1 n3 kw (.int .i64 q_i) (.bool q_g) (.slice q_o q_n q_c) (.int .i64 q_e)
   have kAB':=m6 n1 n3 kA' (.int .i64 q_i) (.bool q_g) (.slice q_o q_n q_c) (.int .i64 q_e)
   have kBA':=m6 n0 n2 kB' (.int .i64 p_i) (.bool p_g) (.slice p_o p_n p_c) (.int .i64 p_e)
   have kA:=q9 kA'
   have kB:=q9 kB'
   have kAB:=q9 kAB'
   have kBA:=q9 kBA'
   clear kw kA' kB' kAB' kBA'
   go_region_held3 (fun W=>W.cell? ⟨w.heap.size+1+1,0,none⟩=some (.int .i64 p_i)∧W.cell? ⟨w.heap.size+1+1,1,none⟩=some (.bool p_g)∧W.cell? ⟨w.heap.size+1+1,2,none⟩=some (.slice p_o p_n p_c)∧W.cell? ⟨w.heap.size+1+1,3,none⟩=some (.int .i64 p_e)∧W.cell? ⟨w.heap.size+1+1+1,0,none⟩=some (.int .i64 q_i)∧W.cell? ⟨w.heap.size+1+1+1,1,none⟩=some (.bool q_g)∧W.cell? ⟨w.heap.size+1+1+1,2,none⟩=some (.slice q_o q_n q_c)∧W.cell? ⟨w.heap.size+1+1+1,3,none⟩=some (.int .i64 q_e))
    (first|with_reducible assumption|with_reducible exact kd|with_reducible exact kA|with_reducible exact kB|with_reducible exact kAB|with_reducible exact kBA|fail)
    (fail)
   have s2:=ie s_k (.int .i64 p_i) (.bool p_g) (.slice p_o p_n p_c) (.int .i64 p_e)
   have t2:=cT t_k (show w.heap.size+1≠w.heap.size by omega) (.int .i64 p_i) (.bool p_g) (.slice p_o p_n p_c) (.int .i64 p_e)
   have s3:=cT s2 (show w.heap.size≠w.heap.size+1 by omega) (.int .i64 q_i) (.bool q_g) (.slice q_o q_n q_c) (.int .i64 q_e)
   have t3:=ie t2 (.int .i64 q_i) (.bool q_g) (.slice q_o q_n q_c) (.int .i64 q_e)
   have P3:=((HP.out.set4 s_k (.int .i64 p_i) (.bool p_g) (.slice p_o p_n p_c) (.int .i64 p_e)).set4 t2 (.int .i64 q_i) (.bool q_g) (.slice q_o q_n q_c) (.int .i64 q_e)).keeps (ap _).drew
   have Q3:=((HQ.out.set4 s_k (.int .i64 p_i) (.bool p_g) (.slice p_o p_n p_c) (.int .i64 p_e)).set4 t2 (.int .i64 q_i) (.bool q_g) (.slice q_o q_n q_c) (.int .i64 q_e)).keeps (ap _).drew
   have hb3:=(aT (aT hbw (Nat.le_refl _) (.int .i64 p_i) (.bool p_g) (.slice p_o p_n p_c) (.int .i64 p_e)) (show w.heap.size<=w.heap.size+1 by omega) (.int .i64 q_i) (.bool q_g) (.slice q_o q_n q_c) (.int .i64 q_e)).drew
   have e_s0:=(gn _ _).trans (aa s3 0 rfl)
   have e_s1:=(gn _ _).trans (aa s3 1 rfl)
   have e_s2:=(gn _ _).trans (aa s3 2 rfl)
   have e_s3:=(gn _ _).trans (aa s3 3 rfl)
   have e_t0:=(gn _ _).trans (aa t3 0 rfl)
   have e_t1:=(gn _ _).trans (aa t3 1 rfl)
   have e_t2:=(gn _ _).trans (aa t3 2 rfl)
   have e_t3:=(gn _ _).trans (aa t3 3 rfl)
   clear kd kA kB kAB kBA s2 t2 s3 t3 s_k t_k HU HV HP HQ f_s0 z_s0 f_s1 z_s1 f_s2 z_s2 f_s3 z_s3 f_t0 z_t0 f_t1 z_t1 f_t2 z_t2 f_t3 z_t3
   generalize ((((((((wr.setCell ⟨w.heap.size,0,none⟩ (.int .i64 p_i)).setCell ⟨w.heap.size,1,none⟩ (.bool p_g)).setCell ⟨w.heap.size,2,none⟩ (.slice p_o p_n p_c)).setCell ⟨w.heap.size,3,none⟩ (.int .i64 p_e)).setCell ⟨w.heap.size+1,0,none⟩ (.int .i64 q_i)).setCell ⟨w.heap.size+1,1,none⟩ (.bool q_g)).setCell ⟨w.heap.size+1,2,none⟩ (.slice q_o q_n q_c)).setCell ⟨w.heap.size+1,3,none⟩ (.int .i64 q_e)).drew=yy at P3 Q3 hb3 e_s0 e_s1 e_s2 e_s3 e_t0 e_t1 e_t2 e_t3 ⊢
   go_wp2
   refine bodyPost_ret (v:=.tuple #[.agg #[.int .i64 p_i,.bool p_g,.slice p_o p_n p_c,.int .i64 p_e],.agg #[.int .i64 q_i,.bool q_g,.slice q_o q_n q_c,.int .i64 q_e]]) (by simp[results,results54,go_sem,e_s0,e_s1,e_s2,e_s3,e_t0,e_t1,e_t2,e_t3]) rfl ⟨_,_,rfl,by rw[e1.out];exact P3,by rw[e1.out];exact Q3,hb3⟩
end Go.Proofs.YtkkpppgfoilgmaaGreatDoor
