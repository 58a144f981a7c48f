/- Parts of the proof. -/
import Derived.Test.YtkkpppgfoilgmaaGreatDoorPart17
import Derived.Deep.RegionHeld3
import Derived.Test.YtkkpppgfoilgmaaGreatDoorPart25
import Derived.Test.YtkkpppgfoilgmaaGreatDoorPart26
import Derived.Test.YtkkpppgfoilgmaaGreatDoorPart15
set_option maxRecDepth 100000
set_option maxHeartbeats 8000000
set_option linter.unusedVariables false
set_option linter.unusedSimpArgs false
namespace Go.Proofs.YtkkpppgfoilgmaaGreatDoor
open Go Go.Proofs.Tryz Go.RowKit Go.Proofs.YtkkpppgfoilgmaaGreatDoor.M
structure iw where
 i:Int
 g:Bool
 o:Option Addr
 n:Nat
 c:Nat
 e:Int
def iw.v (r:iw):Value:=.agg #[.int .i64 r.i,.bool r.g,.slice r.o r.n r.c,.int .i64 r.e]
structure mt (w:World) (b off n:Nat) (r:Nat->iw) (E:Nat->En):Prop where
 lt:b<w.heap.size
 cells:∀ k,k<n->w.cell? ⟨b,off+k*4,none⟩=some (.int .i64 (r k).i)∧w.cell? ⟨b,off+k*4+1,none⟩=some (.bool (r k).g)∧w.cell? ⟨b,off+k*4+2,none⟩=some (.slice (r k).o (r k).n (r k).c)∧w.cell? ⟨b,off+k*4+3,none⟩=some (.int .i64 (r k).e)
 ea:∀ k,k<n->EA w (r k).v (E k)
theorem mt.keeps {w w':World} {b off n:Nat} {r:Nat->iw} {E:Nat->En} (h:mt w b off n r E) (hb:Below w.heap.size w w'):mt w' b off n r E :=
  ⟨Nat.lt_of_lt_of_le h.lt hb.size,fun k hk=>by
    obtain⟨c0,c1,c2,c3⟩:=h.cells k hk
    exact ⟨(hb.cell (p:=⟨b,_,none⟩) h.lt).trans c0,(hb.cell (p:=⟨b,_,none⟩) h.lt).trans c1,(hb.cell (p:=⟨b,_,none⟩) h.lt).trans c2,(hb.cell (p:=⟨b,_,none⟩) h.lt).trans c3⟩,fun k hk=>(h.ea k hk).keeps hb⟩
def mn (E:Nat->En):Nat->En
 | 0=>E 0
 | k+1=>bG (mn E k) (E (k+1))
def mx (E:Nat->En):Nat->En
 | 0=>E 0
 | k+1=>bH (mx E k) (E (k+1))
theorem fh (w:World) (p:Addr):w.drew.cell? p=w.cell? p:=rfl
theorem xU (E:Nat->En):∀ k,∃ j,j<=k∧mn E k=E j
 | 0=>⟨0,Nat.le_refl _,rfl⟩
 | k+1=>by
  obtain⟨j,h1,h2⟩:=xU E k
  show ∃ j,j<=k+1∧bG (mn E k) (E (k+1))=E j
  rcases (eH (mn E k) (E (k+1))).2.2 with q|q
  ·exact⟨j,by omega,q.trans h2⟩
  ·exact⟨k+1,Nat.le_refl _,q⟩
theorem xV (E:Nat->En):∀ k,∃ j,j<=k∧mx E k=E j
 | 0=>⟨0,Nat.le_refl _,rfl⟩
 | k+1=>by
  obtain⟨j,h1,h2⟩:=xV E k
  show ∃ j,j<=k+1∧bH (mx E k) (E (k+1))=E j
  rcases (dV (mx E k) (E (k+1))).2.2 with q|q
  ·exact⟨j,by omega,q.trans h2⟩
  ·exact⟨k+1,Nat.le_refl _,q⟩
theorem lL {p q g o:Nat} {x0 x1 x2 x3 x4 x5 x6 x7 u:Value} {W:World} (hp:p≠g) (hq:q≠g) (h:W.cell? ⟨p,0,none⟩=some x0∧W.cell? ⟨p,1,none⟩=some x1∧W.cell? ⟨p,2,none⟩=some x2∧W.cell? ⟨p,3,none⟩=some x3∧W.cell? ⟨q,0,none⟩=some x4∧W.cell? ⟨q,1,none⟩=some x5∧W.cell? ⟨q,2,none⟩=some x6∧W.cell? ⟨q,3,none⟩=some x7) :
  (W.setCell ⟨g,o,none⟩ u).cell? ⟨p,0,none⟩=some x0∧(W.setCell ⟨g,o,none⟩ u).cell? ⟨p,1,none⟩=some x1∧(W.setCell ⟨g,o,none⟩ u).cell? ⟨p,2,none⟩=some x2∧(W.setCell ⟨g,o,none⟩ u).cell? ⟨p,3,none⟩=some x3∧(W.setCell ⟨g,o,none⟩ u).cell? ⟨q,0,none⟩=some x4∧(W.setCell ⟨g,o,none⟩ u).cell? ⟨q,1,none⟩=some x5∧(W.setCell ⟨g,o,none⟩ u).cell? ⟨q,2,none⟩=some x6∧(W.setCell ⟨g,o,none⟩ u).cell? ⟨q,3,none⟩=some x7:=by
 have hn:∀ k:Nat,(W.setCell ⟨g,o,none⟩ u).cell? ⟨p,k,none⟩=W.cell? ⟨p,k,none⟩:=fun k=>World.cell?_setCell_far _ _ _ _ (Ne.symm hp)
 have hm:∀ k:Nat,(W.setCell ⟨g,o,none⟩ u).cell? ⟨q,k,none⟩=W.cell? ⟨q,k,none⟩:=fun k=>World.cell?_setCell_far _ _ _ _ (Ne.symm hq)
 rw[hn,hn,hn,hn,hm,hm,hm,hm]
 exact h
theorem lM {p q g:Nat} {x0 x1 x2 x3 x4 x5 x6 x7:Value} {W:World} (hp:p≠g) (hq:q≠g) (h:W.cell? ⟨p,0,none⟩=some x0∧W.cell? ⟨p,1,none⟩=some x1∧W.cell? ⟨p,2,none⟩=some x2∧W.cell? ⟨p,3,none⟩=some x3∧W.cell? ⟨q,0,none⟩=some x4∧W.cell? ⟨q,1,none⟩=some x5∧W.cell? ⟨q,2,none⟩=some x6∧W.cell? ⟨q,3,none⟩=some x7) (a b c d:Value) :
  ((((W.setCell ⟨g,0,none⟩ a).setCell ⟨g,1,none⟩ b).setCell ⟨g,2,none⟩ c).setCell ⟨g,3,none⟩ d).cell? ⟨p,0,none⟩=some x0∧((((W.setCell ⟨g,0,none⟩ a).setCell ⟨g,1,none⟩ b).setCell ⟨g,2,none⟩ c).setCell ⟨g,3,none⟩ d).cell? ⟨p,1,none⟩=some x1∧((((W.setCell ⟨g,0,none⟩ a).setCell ⟨g,1,none⟩ b).setCell ⟨g,2,none⟩ c).setCell ⟨g,3,none⟩ d).cell? ⟨p,2,none⟩=some x2∧((((W.setCell ⟨g,0,none⟩ a).setCell ⟨g,1,none⟩ b).setCell ⟨g,2,none⟩ c).setCell ⟨g,3,none⟩ d).cell? ⟨p,3,none⟩=some x3∧((((W.setCell ⟨g,0,none⟩ a).setCell ⟨g,1,none⟩ b).setCell ⟨g,2,none⟩ c).setCell ⟨g,3,none⟩ d).cell? ⟨q,0,none⟩=some x4∧((((W.setCell ⟨g,0,none⟩ a).setCell ⟨g,1,none⟩ b).setCell ⟨g,2,none⟩ c).setCell ⟨g,3,none⟩ d).cell? ⟨q,1,none⟩=some x5∧((((W.setCell ⟨g,0,none⟩ a).setCell ⟨g,1,none⟩ b).setCell ⟨g,2,none⟩ c).setCell ⟨g,3,none⟩ d).cell? ⟨q,2,none⟩=some x6∧((((W.setCell ⟨g,0,none⟩ a).setCell ⟨g,1,none⟩ b).setCell ⟨g,2,none⟩ c).setCell ⟨g,3,none⟩ d).cell? ⟨q,3,none⟩=some x7 :=
 lL hp hq (lL hp hq (lL hp hq (lL hp hq h)))
theorem oX {p q:Nat} {x0 x1 x2 x3 x4 x5 x6 x7:Value} {W:World} (h:W.cell? ⟨p,0,none⟩=some x0∧W.cell? ⟨p,1,none⟩=some x1∧W.cell? ⟨p,2,none⟩=some x2∧W.cell? ⟨p,3,none⟩=some x3∧W.cell? ⟨q,0,none⟩=some x4∧W.cell? ⟨q,1,none⟩=some x5∧W.cell? ⟨q,2,none⟩=some x6∧W.cell? ⟨q,3,none⟩=some x7) :
  W.drew.cell? ⟨p,0,none⟩=some x0∧W.drew.cell? ⟨p,1,none⟩=some x1∧W.drew.cell? ⟨p,2,none⟩=some x2∧W.drew.cell? ⟨p,3,none⟩=some x3∧W.drew.cell? ⟨q,0,none⟩=some x4∧W.drew.cell? ⟨q,1,none⟩=some x5∧W.drew.cell? ⟨q,2,none⟩=some x6∧W.drew.cell? ⟨q,3,none⟩=some x7:=h
theorem EA.setT {w:World} {v:Value} {a:En} (h:EA w v a) {g:Nat} {xs:Array Value} {z:Nat × Nat} (hg:w.heap[g]?=some (.cells xs 68 z)) (o:Nat) (u:Value):EA (w.setCell ⟨g,o,none⟩ u) v a:=by
 obtain⟨g',so,sn,sc,e,h1,h2⟩:=h
 exact⟨g',so,sn,sc,e,h1,h2.setT hg (by decide) o u⟩
theorem EA.set4 {w:World} {v:Value} {a:En} (h:EA w v a) {g:Nat} {xs:Array Value} (hg:w.heap[g]?=some (.cells xs 68 (0,0))) (x0 x1 x2 x3:Value):EA ((((w.setCell ⟨g,0,none⟩ x0).setCell ⟨g,1,none⟩ x1).setCell ⟨g,2,none⟩ x2).setCell ⟨g,3,none⟩ x3) v a :=
 (((h.setT hg 0 x0).setT (ag hg 0 x0) 1 x1).setT (ag (ag hg 0 x0) 1 x1) 2 x2).setT (ag (ag (ag hg 0 x0) 1 x1) 2 x2) 3 x3
theorem gO {w W:World} {g:Nat} (h:Below w.heap.size w W) (hg:w.heap.size<=g) (x0 x1 x2 x3:Value):Below w.heap.size w ((((W.setCell ⟨g,0,none⟩ x0).setCell ⟨g,1,none⟩ x1).setCell ⟨g,2,none⟩ x2).setCell ⟨g,3,none⟩ x3) :=
 (((h.setCell (p:=⟨g,0,none⟩) hg x0).setCell (p:=⟨g,1,none⟩) hg x1).setCell (p:=⟨g,2,none⟩) hg x2).setCell (p:=⟨g,3,none⟩) hg x3
theorem gP {W:World} {g:Nat} {a b c d:Value} (h:W.heap[g]?=some (.cells #[a,b,c,d] 68 (0,0))) (x0 x1 x2 x3:Value):((((W.setCell ⟨g,0,none⟩ x0).setCell ⟨g,1,none⟩ x1).setCell ⟨g,2,none⟩ x2).setCell ⟨g,3,none⟩ x3).heap[g]?=some (.cells #[x0,x1,x2,x3] 68 (0,0)) :=
 ag (ag (ag (ag h 0 x0) 1 x1) 2 x2) 3 x3
theorem cp {W:World} {g g':Nat} {X:Obj} (h:W.heap[g']?=some X) (hn:g'≠g) (x0 x1 x2 x3:Value):((((W.setCell ⟨g,0,none⟩ x0).setCell ⟨g,1,none⟩ x1).setCell ⟨g,2,none⟩ x2).setCell ⟨g,3,none⟩ x3).heap[g']?=some X:=by
 rw[heap_setCell_other _ ⟨g,_,none⟩ g' _ hn,heap_setCell_other _ ⟨g,_,none⟩ g' _ hn,heap_setCell_other _ ⟨g,_,none⟩ g' _ hn,heap_setCell_other _ ⟨g,_,none⟩ g' _ hn]
 exact h
theorem sF {w:World} {b off n cap:Nat} {r:Nat->iw} {E:Nat->En} (h:mt w b off n r E) (h0:0<n) (hc:n<=cap) (hcap:cap<=9223372036854775807) {K:Nat} (hK:K<=28000) (bE:∀ k,k<n->Bd K (E k).v) (oE:∀ k,k<n->(E k).ok) :
  Calls prog 54 #[.slice (some ⟨b,off,none⟩) n cap] w fun x w'=>∃ v u,x=.returned (.tuple #[v,u])∧EA w' v (mn E (n-1))∧EA w' u (mx E (n-1))∧Below w.heap.size w w':=by
 have hz:=h.cells 0 h0
 have hz0:=h.ea 0 h0
 unfold iw.v at hz0
 generalize r 0=r0 at hz hz0
 obtain⟨l_i,l_g,l_o,l_n,l_c,l_e⟩:=r0
 simp only[Nat.zero_mul,Nat.add_zero] at hz hz0
 obtain⟨z0,z1,z2,z3⟩:=hz
 have i0:(0:Int)<(n:Int):=by omega
 have hb4:=pH w (.cells #[.int .i64 0,.bool false,.slice none 0 0,.int .i64 0] 68) (.cells #[.int .i64 0,.bool false,.slice none 0 0,.int .i64 0] 68) (.cells #[.int .i64 l_i,.bool l_g,.slice l_o l_n l_c,.int .i64 l_e] 68) (.cells #[.int .i64 l_i,.bool l_g,.slice l_o l_n l_c,.int .i64 l_e] 68)
 have s_k:((((w.alloc (.cells #[.int .i64 0,.bool false,.slice none 0 0,.int .i64 0] 68)).alloc (.cells #[.int .i64 0,.bool false,.slice none 0 0,.int .i64 0] 68)).alloc (.cells #[.int .i64 l_i,.bool l_g,.slice l_o l_n l_c,.int .i64 l_e] 68)).alloc (.cells #[.int .i64 l_i,.bool l_g,.slice l_o l_n l_c,.int .i64 l_e] 68)).heap[w.heap.size]?=some (.cells #[.int .i64 0,.bool false,.slice none 0 0,.int .i64 0] 68):=Ag w (.cells #[.int .i64 0,.bool false,.slice none 0 0,.int .i64 0] 68) (.cells #[.int .i64 0,.bool false,.slice none 0 0,.int .i64 0] 68) (.cells #[.int .i64 l_i,.bool l_g,.slice l_o l_n l_c,.int .i64 l_e] 68) (.cells #[.int .i64 l_i,.bool l_g,.slice l_o l_n l_c,.int .i64 l_e] 68)
 have t_k:((((w.alloc (.cells #[.int .i64 0,.bool false,.slice none 0 0,.int .i64 0] 68)).alloc (.cells #[.int .i64 0,.bool false,.slice none 0 0,.int .i64 0] 68)).alloc (.cells #[.int .i64 l_i,.bool l_g,.slice l_o l_n l_c,.int .i64 l_e] 68)).alloc (.cells #[.int .i64 l_i,.bool l_g,.slice l_o l_n l_c,.int .i64 l_e] 68)).heap[w.heap.size+1]?=some (.cells #[.int .i64 0,.bool false,.slice none 0 0,.int .i64 0] 68):=Ah w (.cells #[.int .i64 0,.bool false,.slice none 0 0,.int .i64 0] 68) (.cells #[.int .i64 0,.bool false,.slice none 0 0,.int .i64 0] 68) (.cells #[.int .i64 l_i,.bool l_g,.slice l_o l_n l_c,.int .i64 l_e] 68) (.cells #[.int .i64 l_i,.bool l_g,.slice l_o l_n l_c,.int .i64 l_e] 68)
 have u_k:((((w.alloc (.cells #[.int .i64 0,.bool false,.slice none 0 0,.int .i64 0] 68)).alloc (.cells #[.int .i64 0,.bool false,.slice none 0 0,.int .i64 0] 68)).alloc (.cells #[.int .i64 l_i,.bool l_g,.slice l_o l_n l_c,.int .i64 l_e] 68)).alloc (.cells #[.int .i64 l_i,.bool l_g,.slice l_o l_n l_c,.int .i64 l_e] 68)).heap[w.heap.size+1+1]?=some (.cells #[.int .i64 l_i,.bool l_g,.slice l_o l_n l_c,.int .i64 l_e] 68):=Ai w (.cells #[.int .i64 0,.bool false,.slice none 0 0,.int .i64 0] 68) (.cells #[.int .i64 0,.bool false,.slice none 0 0,.int .i64 0] 68) (.cells #[.int .i64 l_i,.bool l_g,.slice l_o l_n l_c,.int .i64 l_e] 68) (.cells #[.int .i64 l_i,.bool l_g,.slice l_o l_n l_c,.int .i64 l_e] 68)
 have v_k:((((w.alloc (.cells #[.int .i64 0,.bool false,.slice none 0 0,.int .i64 0] 68)).alloc (.cells #[.int .i64 0,.bool false,.slice none 0 0,.int .i64 0] 68)).alloc (.cells #[.int .i64 l_i,.bool l_g,.slice l_o l_n l_c,.int .i64 l_e] 68)).alloc (.cells #[.int .i64 l_i,.bool l_g,.slice l_o l_n l_c,.int .i64 l_e] 68)).heap[w.heap.size+1+1+1]?=some (.cells #[.int .i64 l_i,.bool l_g,.slice l_o l_n l_c,.int .i64 l_e] 68):=Aj w (.cells #[.int .i64 0,.bool false,.slice none 0 0,.int .i64 0] 68) (.cells #[.int .i64 0,.bool false,.slice none 0 0,.int .i64 0] 68) (.cells #[.int .i64 l_i,.bool l_g,.slice l_o l_n l_c,.int .i64 l_e] 68) (.cells #[.int .i64 l_i,.bool l_g,.slice l_o l_n l_c,.int .i64 l_e] 68)
 have y0:=af z0 (ax w (.cells #[.int .i64 0,.bool false,.slice none 0 0,.int .i64 0] 68) (.cells #[.int .i64 0,.bool false,.slice none 0 0,.int .i64 0] 68))
 have x0:=af z0 (dP w (.cells #[.int .i64 0,.bool false,.slice none 0 0,.int .i64 0] 68) (.cells #[.int .i64 0,.bool false,.slice none 0 0,.int .i64 0] 68) (.cells #[.int .i64 l_i,.bool l_g,.slice l_o l_n l_c,.int .i64 l_e] 68))
 have y1:=af z1 (ax w (.cells #[.int .i64 0,.bool false,.slice none 0 0,.int .i64 0] 68) (.cells #[.int .i64 0,.bool false,.slice none 0 0,.int .i64 0] 68))
 have x1:=af z1 (dP w (.cells #[.int .i64 0,.bool false,.slice none 0 0,.int .i64 0] 68) (.cells #[.int .i64 0,.bool false,.slice none 0 0,.int .i64 0] 68) (.cells #[.int .i64 l_i,.bool l_g,.slice l_o l_n l_c,.int .i64 l_e] 68))
 have y2:=af z2 (ax w (.cells #[.int .i64 0,.bool false,.slice none 0 0,.int .i64 0] 68) (.cells #[.int .i64 0,.bool false,.slice none 0 0,.int .i64 0] 68))
 have x2:=af z2 (dP w (.cells #[.int .i64 0,.bool false,.slice none 0 0,.int .i64 0] 68) (.cells #[.int .i64 0,.bool false,.slice none 0 0,.int .i64 0] 68) (.cells #[.int .i64 l_i,.bool l_g,.slice l_o l_n l_c,.int .i64 l_e] 68))
 have y3:=af z3 (ax w (.cells #[.int .i64 0,.bool false,.slice none 0 0,.int .i64 0] 68) (.cells #[.int .i64 0,.bool false,.slice none 0 0,.int .i64 0] 68))
 have x3:=af z3 (dP w (.cells #[.int .i64 0,.bool false,.slice none 0 0,.int .i64 0] 68) (.cells #[.int .i64 0,.bool false,.slice none 0 0,.int .i64 0] 68) (.cells #[.int .i64 l_i,.bool l_g,.slice l_o l_n l_c,.int .i64 l_e] 68))
 go_enter func54,ntmps54
 go_wp2_with fail
 clear y0 y1 y2 y3 x0 x1 x2 x3 z0 z1 z2 z3
 generalize (((w.alloc (.cells #[.int .i64 0,.bool false,.slice none 0 0,.int .i64 0] 68)).alloc (.cells #[.int .i64 0,.bool false,.slice none 0 0,.int .i64 0] 68)).alloc (.cells #[.int .i64 l_i,.bool l_g,.slice l_o l_n l_c,.int .i64 l_e] 68)).alloc (.cells #[.int .i64 l_i,.bool l_g,.slice l_o l_n l_c,.int .i64 l_e] 68)=wx at hb4 s_k t_k u_k v_k ⊢
 go_loopw [6] (fun iv wr=>∃ (k:Nat) (p_i:Int) (p_g:Bool) (p_o:Option Addr) (p_n p_c:Nat) (p_e:Int) (q_i:Int) (q_g:Bool) (q_o:Option Addr) (q_n q_c:Nat) (q_e:Int),k+1<=n∧iv=.int .i64 ((k:Int)+1)∧Hid (wr.heap[w.heap.size]?=some (.cells #[.int .i64 0,.bool false,.slice none 0 0,.int .i64 0] 68 (0,0)))∧Hid (wr.heap[w.heap.size+1]?=some (.cells #[.int .i64 0,.bool false,.slice none 0 0,.int .i64 0] 68 (0,0)))∧Hid (wr.heap[w.heap.size+1+1]?=some (.cells #[.int .i64 p_i,.bool p_g,.slice p_o p_n p_c,.int .i64 p_e] 68 (0,0)))∧Hid (wr.heap[w.heap.size+1+1+1]?=some (.cells #[.int .i64 q_i,.bool q_g,.slice q_o q_n q_c,.int .i64 q_e] 68 (0,0)))∧Hid (EA wr (.agg #[.int .i64 p_i,.bool p_g,.slice p_o p_n p_c,.int .i64 p_e]) (mn E k))∧Hid (EA wr (.agg #[.int .i64 q_i,.bool q_g,.slice q_o q_n q_c,.int .i64 q_e]) (mx E k))∧Below w.heap.size w wr) (fun iv _=>n-(intOf iv).toNat)
 case atStart=>exact⟨0,l_i,l_g,l_o,l_n,l_c,l_e,l_i,l_g,l_o,l_n,l_c,l_e,h0,rfl,s_k,t_k,u_k,v_k,hz0.keeps hb4,hz0.keeps hb4,hb4⟩
 case round=>
  obtain⟨k,p_i,p_g,p_o,p_n,p_c,p_e,q_i,q_g,q_o,q_n,q_c,q_e,hk,rfl,HS,HT,HU,HV,HP,HQ,hbw⟩:=hrel
  clear s_k t_k u_k v_k hb4 hz0
  by_cases hlt:k+1<n
  ·have hE:=h.keeps hbw
   have hx:=hE.ea (k+1) hlt
   obtain⟨jm,jm1,jm2⟩:=xU E k
   obtain⟨jx,jx1,jx2⟩:=xV E k
   have omn:(mn E k).ok:=by rw[jm2];exact oE _ (by omega)
   have omx:(mx E k).ok:=by rw[jx2];exact oE _ (by omega)
   have O1:Hid (∀ W,Below wr.heap.size wr W->Calls prog 41 #[(r (k+1)).v,.agg #[.int .i64 p_i,.bool p_g,.slice p_o p_n p_c,.int .i64 p_e]] W fun r w'=>r=.returned (.int .i64 (ck (E (k+1)) (mn E k)))∧Below W.heap.size W w'):=fun W hW=>nO (hx.ev.keeps hW) (HP.out.ev.keeps hW) hK (bE _ hlt) (by rw[jm2];exact bE _ (by omega))
   have O2:Hid (∀ (z:Value) W,EA W z (mx E k)->EA W (r (k+1)).v (E (k+1))->Calls prog 41 #[(r (k+1)).v,z] W fun r w'=>r=.returned (.int .i64 (ck (E (k+1)) (mx E k)))∧Below W.heap.size W w'):=fun z W hz hm=>nO hm.ev hz.ev hK (bE _ hlt) (by rw[jx2];exact bE _ (by omega))
   have hcl:∀ W,Below w.heap.size w W->W.cell? ⟨b,off+(k+1)*4,none⟩=some (.int .i64 (r (k+1)).i)∧W.cell? ⟨b,off+(k+1)*4+1,none⟩=some (.bool (r (k+1)).g)∧W.cell? ⟨b,off+(k+1)*4+2,none⟩=some (.slice (r (k+1)).o (r (k+1)).n (r (k+1)).c)∧W.cell? ⟨b,off+(k+1)*4+3,none⟩=some (.int .i64 (r (k+1)).e):=fun W hW=>(h.keeps hW).cells (k+1) hlt
   have em:mn E (k+1)=if ck (E (k+1)) (mn E k)<0 then E (k+1) else mn E k:=zj omn (oE _ hlt)
   have ex:mx E (k+1)=if 0<ck (E (k+1)) (mx E k) then E (k+1) else mx E k:=zk omx (oE _ hlt)
   generalize hrk:r (k+1)=rk at hcl hx O1 O2
   unfold iw.v at hx O1 O2
   obtain⟨m_i,m_g,m_o,m_n,m_c,m_e⟩:=rk
   simp only at hcl hx O1 O2
   clear hrk jm1 jm2 jx1 jx2 omn omx hE
   generalize ck (E (k+1)) (mn E k)=o1 at *
   generalize ck (E (k+1)) (mx E k)=o2 at *
   have i1:(0:Int)<=(k:Int)+1:=by omega
   have i2:(k:Int)+1<(n:Int):=by omega
   have i3:((k:Int)+1).toNat=k+1:=by omega
   replace em:=ay em
   replace ex:=ay ex
   by_cases hA:o1<0
   ·by_cases hB:0<o2
    ·have em2:mn E (k+1)=E (k+1):=by have:=em.out;rw[if_pos hA] at this;exact this
     have ex2:mx E (k+1)=E (k+1):=by have:=ex.out;rw[if_pos hB] at this;exact this
     have em3:=ay em2
     have ex3:=ay ex2
     clear em2 ex2 em ex
     go_wp2_with fail
     have B0:Below wr.heap.size wr wr.drew:=(aq _).drew
     have KK:∀ W,Below wr.heap.size wr W->(W.cell? ⟨b,off+(k+1)*4,none⟩=some (.int .i64 m_i)∧W.cell? ⟨b,off+(k+1)*4+1,none⟩=some (.bool m_g)∧W.cell? ⟨b,off+(k+1)*4+2,none⟩=some (.slice m_o m_n m_c)∧W.cell? ⟨b,off+(k+1)*4+3,none⟩=some (.int .i64 m_e))∧(W.cell? ⟨w.heap.size+1+1,0,none⟩=some (.int .i64 p_i)∧W.cell? ⟨w.heap.size+1+1,1,none⟩=some (.bool p_g)∧W.cell? ⟨w.heap.size+1+1,2,none⟩=some (.slice p_o p_n p_c)∧W.cell? ⟨w.heap.size+1+1,3,none⟩=some (.int .i64 p_e)):=fun W hW=>⟨hcl W (aa hbw hW),ab (ac hW HU.out) 0 rfl,ab (ac hW HU.out) 1 rfl,ab (ac hW HU.out) 2 rfl,ab (ac hW HU.out) 3 rfl⟩
     go_region_held3 (fun W=>(W.cell? ⟨b,off+(k+1)*4,none⟩=some (.int .i64 m_i)∧W.cell? ⟨b,off+(k+1)*4+1,none⟩=some (.bool m_g)∧W.cell? ⟨b,off+(k+1)*4+2,none⟩=some (.slice m_o m_n m_c)∧W.cell? ⟨b,off+(k+1)*4+3,none⟩=some (.int .i64 m_e))∧(W.cell? ⟨w.heap.size+1+1,0,none⟩=some (.int .i64 p_i)∧W.cell? ⟨w.heap.size+1+1,1,none⟩=some (.bool p_g)∧W.cell? ⟨w.heap.size+1+1,2,none⟩=some (.slice p_o p_n p_c)∧W.cell? ⟨w.heap.size+1+1,3,none⟩=some (.int .i64 p_e)))
      (first|assumption|exact KK _ B0|exact KK _ B1|fail)
      ((go_at_call 41;refine(O1.out _ B0).mono ?_;rintro _ y1 ⟨rfl,hs1⟩;have B1:=aa B0 hs1))
     clear KK O1 B0 hs1
     have HS1:=ay (ac B1 HS.out)
     have HT1:=ay (ac B1 HT.out)
     have U1:=ac B1 HU.out
     have HV1:=ay (ac B1 HV.out)
     have P1:=ay (HP.out.keeps B1)
     have Q1:=ay (HQ.out.keeps B1)
     have M1:=ay (hx.keeps B1)
     have hb1:=aa hbw B1
     clear HS HT HU HV HP HQ hx hbw B1
     obtain⟨c0,c1,c2,c3⟩:=hcl _ hb1
     have f_u0:=ab U1 0 rfl
     have f_u1:=ab U1 1 rfl
     have f_u2:=ab U1 2 rfl
     have f_u3:=ab U1 3 rfl
     have z_u0:=ak U1 0
     have z_u1:=ak U1 1
     have z_u2:=ak U1 2
     have z_u3:=ak U1 3
     have HS2:=ay (cp HS1.out (show w.heap.size≠w.heap.size+1+1 by omega) (.int .i64 m_i) (.bool m_g) (.slice m_o m_n m_c) (.int .i64 m_e))
     have HT2:=ay (cp HT1.out (show w.heap.size+1≠w.heap.size+1+1 by omega) (.int .i64 m_i) (.bool m_g) (.slice m_o m_n m_c) (.int .i64 m_e))
     have U2:=ay (gP U1 (.int .i64 m_i) (.bool m_g) (.slice m_o m_n m_c) (.int .i64 m_e))
     have HV2:=ay (cp HV1.out (show w.heap.size+1+1+1≠w.heap.size+1+1 by omega) (.int .i64 m_i) (.bool m_g) (.slice m_o m_n m_c) (.int .i64 m_e))
     have P2:=ay (M1.out.set4 U1 (.int .i64 m_i) (.bool m_g) (.slice m_o m_n m_c) (.int .i64 m_e))
     have Q2:=ay (Q1.out.set4 U1 (.int .i64 m_i) (.bool m_g) (.slice m_o m_n m_c) (.int .i64 m_e))
     have M2:=ay (M1.out.set4 U1 (.int .i64 m_i) (.bool m_g) (.slice m_o m_n m_c) (.int .i64 m_e))
     have hb2:=gO hb1 (show w.heap.size<=w.heap.size+1+1 by omega) (.int .i64 m_i) (.bool m_g) (.slice m_o m_n m_c) (.int .i64 m_e)
     clear HS1 HT1 HV1 P1 Q1 M1 hb1 U1
     go_wp2_with fail
     clear f_u0 z_u0 f_u1 z_u1 f_u2 z_u2 f_u3 z_u3 c0 c1 c2 c3
     generalize (((y1.setCell ⟨w.heap.size+1+1,0,none⟩ (.int .i64 m_i)).setCell ⟨w.heap.size+1+1,1,none⟩ (.bool m_g)).setCell ⟨w.heap.size+1+1,2,none⟩ (.slice m_o m_n m_c)).setCell ⟨w.heap.size+1+1,3,none⟩ (.int .i64 m_e)=y2 at HS2 HT2 U2 HV2 P2 Q2 M2 hb2 ⊢
     have B0:Below y2.heap.size y2 y2.drew:=(aq _).drew
     have KK:∀ W,Below y2.heap.size y2 W->(W.cell? ⟨b,off+(k+1)*4,none⟩=some (.int .i64 m_i)∧W.cell? ⟨b,off+(k+1)*4+1,none⟩=some (.bool m_g)∧W.cell? ⟨b,off+(k+1)*4+2,none⟩=some (.slice m_o m_n m_c)∧W.cell? ⟨b,off+(k+1)*4+3,none⟩=some (.int .i64 m_e))∧(W.cell? ⟨w.heap.size+1+1+1,0,none⟩=some (.int .i64 q_i)∧W.cell? ⟨w.heap.size+1+1+1,1,none⟩=some (.bool q_g)∧W.cell? ⟨w.heap.size+1+1+1,2,none⟩=some (.slice q_o q_n q_c)∧W.cell? ⟨w.heap.size+1+1+1,3,none⟩=some (.int .i64 q_e)):=fun W hW=>⟨hcl W (aa hb2 hW),ab (ac hW HV2.out) 0 rfl,ab (ac hW HV2.out) 1 rfl,ab (ac hW HV2.out) 2 rfl,ab (ac hW HV2.out) 3 rfl⟩
     go_region_held3 (fun W=>(W.cell? ⟨b,off+(k+1)*4,none⟩=some (.int .i64 m_i)∧W.cell? ⟨b,off+(k+1)*4+1,none⟩=some (.bool m_g)∧W.cell? ⟨b,off+(k+1)*4+2,none⟩=some (.slice m_o m_n m_c)∧W.cell? ⟨b,off+(k+1)*4+3,none⟩=some (.int .i64 m_e))∧(W.cell? ⟨w.heap.size+1+1+1,0,none⟩=some (.int .i64 q_i)∧W.cell? ⟨w.heap.size+1+1+1,1,none⟩=some (.bool q_g)∧W.cell? ⟨w.heap.size+1+1+1,2,none⟩=some (.slice q_o q_n q_c)∧W.cell? ⟨w.heap.size+1+1+1,3,none⟩=some (.int .i64 q_e)))
      (first|assumption|exact KK _ B0|exact KK _ B1|fail)
      ((go_at_call 41;refine(O2.out _ _ (Q2.out.keeps B0) (M2.out.keeps B0)).mono ?_;rintro _ y3 ⟨rfl,hs1⟩;have B1:=aa B0 hs1))
     clear KK O2 B0 hs1
     have HS3:=ay (ac B1 HS2.out)
     have HT3:=ay (ac B1 HT2.out)
     have U3:=ay (ac B1 U2.out)
     have V3:=ac B1 HV2.out
     have P3:=ay (P2.out.keeps B1)
     have Q3:=ay (Q2.out.keeps B1)
     have M3:=ay (M2.out.keeps B1)
     have hb3:=aa hb2 B1
     clear HS2 HT2 U2 HV2 P2 Q2 M2 hb2 B1
     obtain⟨c0,c1,c2,c3⟩:=hcl _ hb3
     have f_u0:=ab V3 0 rfl
     have f_u1:=ab V3 1 rfl
     have f_u2:=ab V3 2 rfl
     have f_u3:=ab V3 3 rfl
     have z_u0:=ak V3 0
     have z_u1:=ak V3 1
     have z_u2:=ak V3 2
     have z_u3:=ak V3 3
     have HS4:=ay (cp HS3.out (show w.heap.size≠w.heap.size+1+1+1 by omega) (.int .i64 m_i) (.bool m_g) (.slice m_o m_n m_c) (.int .i64 m_e))
     have HT4:=ay (cp HT3.out (show w.heap.size+1≠w.heap.size+1+1+1 by omega) (.int .i64 m_i) (.bool m_g) (.slice m_o m_n m_c) (.int .i64 m_e))
     have V4:=ay (gP V3 (.int .i64 m_i) (.bool m_g) (.slice m_o m_n m_c) (.int .i64 m_e))
     have U4:=ay (cp U3.out (show w.heap.size+1+1≠w.heap.size+1+1+1 by omega) (.int .i64 m_i) (.bool m_g) (.slice m_o m_n m_c) (.int .i64 m_e))
     have P4:=ay (P3.out.set4 V3 (.int .i64 m_i) (.bool m_g) (.slice m_o m_n m_c) (.int .i64 m_e))
     have Q4':=ay (M3.out.set4 V3 (.int .i64 m_i) (.bool m_g) (.slice m_o m_n m_c) (.int .i64 m_e))
     have hb4:=gO hb3 (show w.heap.size<=w.heap.size+1+1+1 by omega) (.int .i64 m_i) (.bool m_g) (.slice m_o m_n m_c) (.int .i64 m_e)
     clear HS3 HT3 U3 P3 Q3 M3 hb3 V3
     go_wp2_with fail
     go_roundw
     case rel=>exact⟨k+1,m_i,m_g,m_o,m_n,m_c,m_e,m_i,m_g,m_o,m_n,m_c,m_e,hlt,by go_num,HS4.out,HT4.out,U4.out,V4.out,by rw[em3.out];exact P4.out,by rw[ex3.out];exact Q4'.out,hb4⟩
     case measure=>simp[intOf];omega
    ·have em2:mn E (k+1)=E (k+1):=by have:=em.out;rw[if_pos hA] at this;exact this
     have ex2:mx E (k+1)=mx E k:=by have:=ex.out;rw[if_neg hB] at this;exact this
     have em3:=ay em2
     have ex3:=ay ex2
     clear em2 ex2 em ex
     go_wp2_with fail
     have B0:Below wr.heap.size wr wr.drew:=(aq _).drew
     have KK:∀ W,Below wr.heap.size wr W->(W.cell? ⟨b,off+(k+1)*4,none⟩=some (.int .i64 m_i)∧W.cell? ⟨b,off+(k+1)*4+1,none⟩=some (.bool m_g)∧W.cell? ⟨b,off+(k+1)*4+2,none⟩=some (.slice m_o m_n m_c)∧W.cell? ⟨b,off+(k+1)*4+3,none⟩=some (.int .i64 m_e))∧(W.cell? ⟨w.heap.size+1+1,0,none⟩=some (.int .i64 p_i)∧W.cell? ⟨w.heap.size+1+1,1,none⟩=some (.bool p_g)∧W.cell? ⟨w.heap.size+1+1,2,none⟩=some (.slice p_o p_n p_c)∧W.cell? ⟨w.heap.size+1+1,3,none⟩=some (.int .i64 p_e)):=fun W hW=>⟨hcl W (aa hbw hW),ab (ac hW HU.out) 0 rfl,ab (ac hW HU.out) 1 rfl,ab (ac hW HU.out) 2 rfl,ab (ac hW HU.out) 3 rfl⟩
     go_region_held3 (fun W=>(W.cell? ⟨b,off+(k+1)*4,none⟩=some (.int .i64 m_i)∧W.cell? ⟨b,off+(k+1)*4+1,none⟩=some (.bool m_g)∧W.cell? ⟨b,off+(k+1)*4+2,none⟩=some (.slice m_o m_n m_c)∧W.cell? ⟨b,off+(k+1)*4+3,none⟩=some (.int .i64 m_e))∧(W.cell? ⟨w.heap.size+1+1,0,none⟩=some (.int .i64 p_i)∧W.cell? ⟨w.heap.size+1+1,1,none⟩=some (.bool p_g)∧W.cell? ⟨w.heap.size+1+1,2,none⟩=some (.slice p_o p_n p_c)∧W.cell? ⟨w.heap.size+1+1,3,none⟩=some (.int .i64 p_e)))
      (first|assumption|exact KK _ B0|exact KK _ B1|fail)
      ((go_at_call 41;refine(O1.out _ B0).mono ?_;rintro _ y1 ⟨rfl,hs1⟩;have B1:=aa B0 hs1))
     clear KK O1 B0 hs1
     have HS1:=ay (ac B1 HS.out)
     have HT1:=ay (ac B1 HT.out)
     have U1:=ac B1 HU.out
     have HV1:=ay (ac B1 HV.out)
     have P1:=ay (HP.out.keeps B1)
     have Q1:=ay (HQ.out.keeps B1)
     have M1:=ay (hx.keeps B1)
     have hb1:=aa hbw B1
     clear HS HT HU HV HP HQ hx hbw B1
     obtain⟨c0,c1,c2,c3⟩:=hcl _ hb1
     have f_u0:=ab U1 0 rfl
     have f_u1:=ab U1 1 rfl
     have f_u2:=ab U1 2 rfl
     have f_u3:=ab U1 3 rfl
     have z_u0:=ak U1 0
     have z_u1:=ak U1 1
     have z_u2:=ak U1 2
     have z_u3:=ak U1 3
     have HS2:=ay (cp HS1.out (show w.heap.size≠w.heap.size+1+1 by omega) (.int .i64 m_i) (.bool m_g) (.slice m_o m_n m_c) (.int .i64 m_e))
     have HT2:=ay (cp HT1.out (show w.heap.size+1≠w.heap.size+1+1 by omega) (.int .i64 m_i) (.bool m_g) (.slice m_o m_n m_c) (.int .i64 m_e))
     have U2:=ay (gP U1 (.int .i64 m_i) (.bool m_g) (.slice m_o m_n m_c) (.int .i64 m_e))
     have HV2:=ay (cp HV1.out (show w.heap.size+1+1+1≠w.heap.size+1+1 by omega) (.int .i64 m_i) (.bool m_g) (.slice m_o m_n m_c) (.int .i64 m_e))
     have P2:=ay (M1.out.set4 U1 (.int .i64 m_i) (.bool m_g) (.slice m_o m_n m_c) (.int .i64 m_e))
     have Q2:=ay (Q1.out.set4 U1 (.int .i64 m_i) (.bool m_g) (.slice m_o m_n m_c) (.int .i64 m_e))
     have M2:=ay (M1.out.set4 U1 (.int .i64 m_i) (.bool m_g) (.slice m_o m_n m_c) (.int .i64 m_e))
     have hb2:=gO hb1 (show w.heap.size<=w.heap.size+1+1 by omega) (.int .i64 m_i) (.bool m_g) (.slice m_o m_n m_c) (.int .i64 m_e)
     clear HS1 HT1 HV1 P1 Q1 M1 hb1 U1
     go_wp2_with fail
     clear f_u0 z_u0 f_u1 z_u1 f_u2 z_u2 f_u3 z_u3 c0 c1 c2 c3
     generalize (((y1.setCell ⟨w.heap.size+1+1,0,none⟩ (.int .i64 m_i)).setCell ⟨w.heap.size+1+1,1,none⟩ (.bool m_g)).setCell ⟨w.heap.size+1+1,2,none⟩ (.slice m_o m_n m_c)).setCell ⟨w.heap.size+1+1,3,none⟩ (.int .i64 m_e)=y2 at HS2 HT2 U2 HV2 P2 Q2 M2 hb2 ⊢
     have B0:Below y2.heap.size y2 y2.drew:=(aq _).drew
     have KK:∀ W,Below y2.heap.size y2 W->(W.cell? ⟨b,off+(k+1)*4,none⟩=some (.int .i64 m_i)∧W.cell? ⟨b,off+(k+1)*4+1,none⟩=some (.bool m_g)∧W.cell? ⟨b,off+(k+1)*4+2,none⟩=some (.slice m_o m_n m_c)∧W.cell? ⟨b,off+(k+1)*4+3,none⟩=some (.int .i64 m_e))∧(W.cell? ⟨w.heap.size+1+1+1,0,none⟩=some (.int .i64 q_i)∧W.cell? ⟨w.heap.size+1+1+1,1,none⟩=some (.bool q_g)∧W.cell? ⟨w.heap.size+1+1+1,2,none⟩=some (.slice q_o q_n q_c)∧W.cell? ⟨w.heap.size+1+1+1,3,none⟩=some (.int .i64 q_e)):=fun W hW=>⟨hcl W (aa hb2 hW),ab (ac hW HV2.out) 0 rfl,ab (ac hW HV2.out) 1 rfl,ab (ac hW HV2.out) 2 rfl,ab (ac hW HV2.out) 3 rfl⟩
     go_region_held3 (fun W=>(W.cell? ⟨b,off+(k+1)*4,none⟩=some (.int .i64 m_i)∧W.cell? ⟨b,off+(k+1)*4+1,none⟩=some (.bool m_g)∧W.cell? ⟨b,off+(k+1)*4+2,none⟩=some (.slice m_o m_n m_c)∧W.cell? ⟨b,off+(k+1)*4+3,none⟩=some (.int .i64 m_e))∧(W.cell? ⟨w.heap.size+1+1+1,0,none⟩=some (.int .i64 q_i)∧W.cell? ⟨w.heap.size+1+1+1,1,none⟩=some (.bool q_g)∧W.cell? ⟨w.heap.size+1+1+1,2,none⟩=some (.slice q_o q_n q_c)∧W.cell? ⟨w.heap.size+1+1+1,3,none⟩=some (.int .i64 q_e)))
      (first|assumption|exact KK _ B0|exact KK _ B1|fail)
      ((go_at_call 41;refine(O2.out _ _ (Q2.out.keeps B0) (M2.out.keeps B0)).mono ?_;rintro _ y3 ⟨rfl,hs1⟩;have B1:=aa B0 hs1))
     clear KK O2 B0 hs1
     have HS3:=ay (ac B1 HS2.out)
     have HT3:=ay (ac B1 HT2.out)
     have U3:=ay (ac B1 U2.out)
     have V3:=ac B1 HV2.out
     have P3:=ay (P2.out.keeps B1)
     have Q3:=ay (Q2.out.keeps B1)
     have M3:=ay (M2.out.keeps B1)
     have hb3:=aa hb2 B1
     clear HS2 HT2 U2 HV2 P2 Q2 M2 hb2 B1
     have V4:=ay V3
     have HS4:=HS3
     have HT4:=HT3
     have U4:=U3
     have P4:=P3
     have Q4':=Q3
     have hb4:=hb3
     clear HS3 HT3 U3 V3 P3 Q3 M3 hb3
     go_wp2_with fail
     go_roundw
     case rel=>exact⟨k+1,m_i,m_g,m_o,m_n,m_c,m_e,q_i,q_g,q_o,q_n,q_c,q_e,hlt,by go_num,HS4.out,HT4.out,U4.out,V4.out,by rw[em3.out];exact P4.out,by rw[ex3.out];exact Q4'.out,hb4⟩
     case measure=>simp[intOf];omega
   ·by_cases hB:0<o2
    ·have em2:mn E (k+1)=mn E k:=by have:=em.out;rw[if_neg hA] at this;exact this
     have ex2:mx E (k+1)=E (k+1):=by have:=ex.out;rw[if_pos hB] at this;exact this
     have em3:=ay em2
     have ex3:=ay ex2
     clear em2 ex2 em ex
     go_wp2_with fail
     have B0:Below wr.heap.size wr wr.drew:=(aq _).drew
     have KK:∀ W,Below wr.heap.size wr W->(W.cell? ⟨b,off+(k+1)*4,none⟩=some (.int .i64 m_i)∧W.cell? ⟨b,off+(k+1)*4+1,none⟩=some (.bool m_g)∧W.cell? ⟨b,off+(k+1)*4+2,none⟩=some (.slice m_o m_n m_c)∧W.cell? ⟨b,off+(k+1)*4+3,none⟩=some (.int .i64 m_e))∧(W.cell? ⟨w.heap.size+1+1,0,none⟩=some (.int .i64 p_i)∧W.cell? ⟨w.heap.size+1+1,1,none⟩=some (.bool p_g)∧W.cell? ⟨w.heap.size+1+1,2,none⟩=some (.slice p_o p_n p_c)∧W.cell? ⟨w.heap.size+1+1,3,none⟩=some (.int .i64 p_e)):=fun W hW=>⟨hcl W (aa hbw hW),ab (ac hW HU.out) 0 rfl,ab (ac hW HU.out) 1 rfl,ab (ac hW HU.out) 2 rfl,ab (ac hW HU.out) 3 rfl⟩
     go_region_held3 (fun W=>(W.cell? ⟨b,off+(k+1)*4,none⟩=some (.int .i64 m_i)∧W.cell? ⟨b,off+(k+1)*4+1,none⟩=some (.bool m_g)∧W.cell? ⟨b,off+(k+1)*4+2,none⟩=some (.slice m_o m_n m_c)∧W.cell? ⟨b,off+(k+1)*4+3,none⟩=some (.int .i64 m_e))∧(W.cell? ⟨w.heap.size+1+1,0,none⟩=some (.int .i64 p_i)∧W.cell? ⟨w.heap.size+1+1,1,none⟩=some (.bool p_g)∧W.cell? ⟨w.heap.size+1+1,2,none⟩=some (.slice p_o p_n p_c)∧W.cell? ⟨w.heap.size+1+1,3,none⟩=some (.int .i64 p_e)))
      (first|assumption|exact KK _ B0|exact KK _ B1|fail)
      ((go_at_call 41;refine(O1.out _ B0).mono ?_;rintro _ y1 ⟨rfl,hs1⟩;have B1:=aa B0 hs1))
     clear KK O1 B0 hs1
     have HS1:=ay (ac B1 HS.out)
     have HT1:=ay (ac B1 HT.out)
     have U1:=ac B1 HU.out
     have HV1:=ay (ac B1 HV.out)
     have P1:=ay (HP.out.keeps B1)
     have Q1:=ay (HQ.out.keeps B1)
     have M1:=ay (hx.keeps B1)
     have hb1:=aa hbw B1
     clear HS HT HU HV HP HQ hx hbw B1
     have U2:=ay U1
     have HS2:=HS1
     have HT2:=HT1
     have HV2:=HV1
     have P2:=P1
     have Q2:=Q1
     have M2:=M1
     have hb2:=hb1
     clear U1 HS1 HT1 HV1 P1 Q1 M1 hb1
     go_wp2_with fail
     generalize y1=y2 at HS2 HT2 U2 HV2 P2 Q2 M2 hb2 ⊢
     have B0:Below y2.heap.size y2 y2.drew:=(aq _).drew
     have KK:∀ W,Below y2.heap.size y2 W->(W.cell? ⟨b,off+(k+1)*4,none⟩=some (.int .i64 m_i)∧W.cell? ⟨b,off+(k+1)*4+1,none⟩=some (.bool m_g)∧W.cell? ⟨b,off+(k+1)*4+2,none⟩=some (.slice m_o m_n m_c)∧W.cell? ⟨b,off+(k+1)*4+3,none⟩=some (.int .i64 m_e))∧(W.cell? ⟨w.heap.size+1+1+1,0,none⟩=some (.int .i64 q_i)∧W.cell? ⟨w.heap.size+1+1+1,1,none⟩=some (.bool q_g)∧W.cell? ⟨w.heap.size+1+1+1,2,none⟩=some (.slice q_o q_n q_c)∧W.cell? ⟨w.heap.size+1+1+1,3,none⟩=some (.int .i64 q_e)):=fun W hW=>⟨hcl W (aa hb2 hW),ab (ac hW HV2.out) 0 rfl,ab (ac hW HV2.out) 1 rfl,ab (ac hW HV2.out) 2 rfl,ab (ac hW HV2.out) 3 rfl⟩
     go_region_held3 (fun W=>(W.cell? ⟨b,off+(k+1)*4,none⟩=some (.int .i64 m_i)∧W.cell? ⟨b,off+(k+1)*4+1,none⟩=some (.bool m_g)∧W.cell? ⟨b,off+(k+1)*4+2,none⟩=some (.slice m_o m_n m_c)∧W.cell? ⟨b,off+(k+1)*4+3,none⟩=some (.int .i64 m_e))∧(W.cell? ⟨w.heap.size+1+1+1,0,none⟩=some (.int .i64 q_i)∧W.cell? ⟨w.heap.size+1+1+1,1,none⟩=some (.bool q_g)∧W.cell? ⟨w.heap.size+1+1+1,2,none⟩=some (.slice q_o q_n q_c)∧W.cell? ⟨w.heap.size+1+1+1,3,none⟩=some (.int .i64 q_e)))
      (first|assumption|exact KK _ B0|exact KK _ B1|fail)
      ((go_at_call 41;refine(O2.out _ _ (Q2.out.keeps B0) (M2.out.keeps B0)).mono ?_;rintro _ y3 ⟨rfl,hs1⟩;have B1:=aa B0 hs1))
     clear KK O2 B0 hs1
     have HS3:=ay (ac B1 HS2.out)
     have HT3:=ay (ac B1 HT2.out)
     have U3:=ay (ac B1 U2.out)
     have V3:=ac B1 HV2.out
     have P3:=ay (P2.out.keeps B1)
     have Q3:=ay (Q2.out.keeps B1)
     have M3:=ay (M2.out.keeps B1)
     have hb3:=aa hb2 B1
     clear HS2 HT2 U2 HV2 P2 Q2 M2 hb2 B1
     obtain⟨c0,c1,c2,c3⟩:=hcl _ hb3
     have f_u0:=ab V3 0 rfl
     have f_u1:=ab V3 1 rfl
     have f_u2:=ab V3 2 rfl
     have f_u3:=ab V3 3 rfl
     have z_u0:=ak V3 0
     have z_u1:=ak V3 1
     have z_u2:=ak V3 2
     have z_u3:=ak V3 3
     have HS4:=ay (cp HS3.out (show w.heap.size≠w.heap.size+1+1+1 by omega) (.int .i64 m_i) (.bool m_g) (.slice m_o m_n m_c) (.int .i64 m_e))
     have HT4:=ay (cp HT3.out (show w.heap.size+1≠w.heap.size+1+1+1 by omega) (.int .i64 m_i) (.bool m_g) (.slice m_o m_n m_c) (.int .i64 m_e))
     have V4:=ay (gP V3 (.int .i64 m_i) (.bool m_g) (.slice m_o m_n m_c) (.int .i64 m_e))
     have U4:=ay (cp U3.out (show w.heap.size+1+1≠w.heap.size+1+1+1 by omega) (.int .i64 m_i) (.bool m_g) (.slice m_o m_n m_c) (.int .i64 m_e))
     have P4:=ay (P3.out.set4 V3 (.int .i64 m_i) (.bool m_g) (.slice m_o m_n m_c) (.int .i64 m_e))
     have Q4':=ay (M3.out.set4 V3 (.int .i64 m_i) (.bool m_g) (.slice m_o m_n m_c) (.int .i64 m_e))
     have hb4:=gO hb3 (show w.heap.size<=w.heap.size+1+1+1 by omega) (.int .i64 m_i) (.bool m_g) (.slice m_o m_n m_c) (.int .i64 m_e)
     clear HS3 HT3 U3 P3 Q3 M3 hb3 V3
     go_wp2_with fail
     go_roundw
     case rel=>exact⟨k+1,p_i,p_g,p_o,p_n,p_c,p_e,m_i,m_g,m_o,m_n,m_c,m_e,hlt,by go_num,HS4.out,HT4.out,U4.out,V4.out,by rw[em3.out];exact P4.out,by rw[ex3.out];exact Q4'.out,hb4⟩
     case measure=>simp[intOf];omega
    ·have em2:mn E (k+1)=mn E k:=by have:=em.out;rw[if_neg hA] at this;exact this
     have ex2:mx E (k+1)=mx E k:=by have:=ex.out;rw[if_neg hB] at this;exact this
     have em3:=ay em2
     have ex3:=ay ex2
     clear em2 ex2 em ex
     go_wp2_with fail
     have B0:Below wr.heap.size wr wr.drew:=(aq _).drew
     have KK:∀ W,Below wr.heap.size wr W->(W.cell? ⟨b,off+(k+1)*4,none⟩=some (.int .i64 m_i)∧W.cell? ⟨b,off+(k+1)*4+1,none⟩=some (.bool m_g)∧W.cell? ⟨b,off+(k+1)*4+2,none⟩=some (.slice m_o m_n m_c)∧W.cell? ⟨b,off+(k+1)*4+3,none⟩=some (.int .i64 m_e))∧(W.cell? ⟨w.heap.size+1+1,0,none⟩=some (.int .i64 p_i)∧W.cell? ⟨w.heap.size+1+1,1,none⟩=some (.bool p_g)∧W.cell? ⟨w.heap.size+1+1,2,none⟩=some (.slice p_o p_n p_c)∧W.cell? ⟨w.heap.size+1+1,3,none⟩=some (.int .i64 p_e)):=fun W hW=>⟨hcl W (aa hbw hW),ab (ac hW HU.out) 0 rfl,ab (ac hW HU.out) 1 rfl,ab (ac hW HU.out) 2 rfl,ab (ac hW HU.out) 3 rfl⟩
     go_region_held3 (fun W=>(W.cell? ⟨b,off+(k+1)*4,none⟩=some (.int .i64 m_i)∧W.cell? ⟨b,off+(k+1)*4+1,none⟩=some (.bool m_g)∧W.cell? ⟨b,off+(k+1)*4+2,none⟩=some (.slice m_o m_n m_c)∧W.cell? ⟨b,off+(k+1)*4+3,none⟩=some (.int .i64 m_e))∧(W.cell? ⟨w.heap.size+1+1,0,none⟩=some (.int .i64 p_i)∧W.cell? ⟨w.heap.size+1+1,1,none⟩=some (.bool p_g)∧W.cell? ⟨w.heap.size+1+1,2,none⟩=some (.slice p_o p_n p_c)∧W.cell? ⟨w.heap.size+1+1,3,none⟩=some (.int .i64 p_e)))
      (first|assumption|exact KK _ B0|exact KK _ B1|fail)
      ((go_at_call 41;refine(O1.out _ B0).mono ?_;rintro _ y1 ⟨rfl,hs1⟩;have B1:=aa B0 hs1))
     clear KK O1 B0 hs1
     have HS1:=ay (ac B1 HS.out)
     have HT1:=ay (ac B1 HT.out)
     have U1:=ac B1 HU.out
     have HV1:=ay (ac B1 HV.out)
     have P1:=ay (HP.out.keeps B1)
     have Q1:=ay (HQ.out.keeps B1)
     have M1:=ay (hx.keeps B1)
     have hb1:=aa hbw B1
     clear HS HT HU HV HP HQ hx hbw B1
     have U2:=ay U1
     have HS2:=HS1
     have HT2:=HT1
     have HV2:=HV1
     have P2:=P1
     have Q2:=Q1
     have M2:=M1
     have hb2:=hb1
     clear U1 HS1 HT1 HV1 P1 Q1 M1 hb1
     go_wp2_with fail
     generalize y1=y2 at HS2 HT2 U2 HV2 P2 Q2 M2 hb2 ⊢
     have B0:Below y2.heap.size y2 y2.drew:=(aq _).drew
     have KK:∀ W,Below y2.heap.size y2 W->(W.cell? ⟨b,off+(k+1)*4,none⟩=some (.int .i64 m_i)∧W.cell? ⟨b,off+(k+1)*4+1,none⟩=some (.bool m_g)∧W.cell? ⟨b,off+(k+1)*4+2,none⟩=some (.slice m_o m_n m_c)∧W.cell? ⟨b,off+(k+1)*4+3,none⟩=some (.int .i64 m_e))∧(W.cell? ⟨w.heap.size+1+1+1,0,none⟩=some (.int .i64 q_i)∧W.cell? ⟨w.heap.size+1+1+1,1,none⟩=some (.bool q_g)∧W.cell? ⟨w.heap.size+1+1+1,2,none⟩=some (.slice q_o q_n q_c)∧W.cell? ⟨w.heap.size+1+1+1,3,none⟩=some (.int .i64 q_e)):=fun W hW=>⟨hcl W (aa hb2 hW),ab (ac hW HV2.out) 0 rfl,ab (ac hW HV2.out) 1 rfl,ab (ac hW HV2.out) 2 rfl,ab (ac hW HV2.out) 3 rfl⟩
     go_region_held3 (fun W=>(W.cell? ⟨b,off+(k+1)*4,none⟩=some (.int .i64 m_i)∧W.cell? ⟨b,off+(k+1)*4+1,none⟩=some (.bool m_g)∧W.cell? ⟨b,off+(k+1)*4+2,none⟩=some (.slice m_o m_n m_c)∧W.cell? ⟨b,off+(k+1)*4+3,none⟩=some (.int .i64 m_e))∧(W.cell? ⟨w.heap.size+1+1+1,0,none⟩=some (.int .i64 q_i)∧W.cell? ⟨w.heap.size+1+1+1,1,none⟩=some (.bool q_g)∧W.cell? ⟨w.heap.size+1+1+1,2,none⟩=some (.slice q_o q_n q_c)∧W.cell? ⟨w.heap.size+1+1+1,3,none⟩=some (.int .i64 q_e)))
      (first|assumption|exact KK _ B0|exact KK _ B1|fail)
      ((go_at_call 41;refine(O2.out _ _ (Q2.out.keeps B0) (M2.out.keeps B0)).mono ?_;rintro _ y3 ⟨rfl,hs1⟩;have B1:=aa B0 hs1))
     clear KK O2 B0 hs1
     have HS3:=ay (ac B1 HS2.out)
     have HT3:=ay (ac B1 HT2.out)
     have U3:=ay (ac B1 U2.out)
     have V3:=ac B1 HV2.out
     have P3:=ay (P2.out.keeps B1)
     have Q3:=ay (Q2.out.keeps B1)
     have M3:=ay (M2.out.keeps B1)
     have hb3:=aa hb2 B1
     clear HS2 HT2 U2 HV2 P2 Q2 M2 hb2 B1
     have V4:=ay V3
     have HS4:=HS3
     have HT4:=HT3
     have U4:=U3
     have P4:=P3
     have Q4':=Q3
     have hb4:=hb3
     clear HS3 HT3 U3 V3 P3 Q3 M3 hb3
     go_wp2_with fail
     go_roundw
     case rel=>exact⟨k+1,p_i,p_g,p_o,p_n,p_c,p_e,q_i,q_g,q_o,q_n,q_c,q_e,hlt,by go_num,HS4.out,HT4.out,U4.out,V4.out,by rw[em3.out];exact P4.out,by rw[ex3.out];exact Q4'.out,hb4⟩
     case measure=>simp[intOf];omega
  ·obtain rfl:n=k+1:=by omega
   have e1:k+1-1=k:=by omega
   replace e1:=ay e1
   clear h i0 h0 oE bE hlt
   have s_k:=HS.out
   have t_k:=HT.out
   clear HS HT
   go_wp2_with fail
   have kd:wr.drew.cell? ⟨w.heap.size+1+1,0,none⟩=some (.int .i64 p_i)∧wr.drew.cell? ⟨w.heap.size+1+1,1,none⟩=some (.bool p_g)∧wr.drew.cell? ⟨w.heap.size+1+1,2,none⟩=some (.slice p_o p_n p_c)∧wr.drew.cell? ⟨w.heap.size+1+1,3,none⟩=some (.int .i64 p_e)∧wr.drew.cell? ⟨w.heap.size+1+1+1,0,none⟩=some (.int .i64 q_i)∧wr.drew.cell? ⟨w.heap.size+1+1+1,1,none⟩=some (.bool q_g)∧wr.drew.cell? ⟨w.heap.size+1+1+1,2,none⟩=some (.slice q_o q_n q_c)∧wr.drew.cell? ⟨w.heap.size+1+1+1,3,none⟩=some (.int .i64 q_e):=⟨ab HU.out 0 rfl,ab HU.out 1 rfl,ab HU.out 2 rfl,ab HU.out 3 rfl,ab HV.out 0 rfl,ab HV.out 1 rfl,ab HV.out 2 rfl,ab HV.out 3 rfl⟩
   have f_s0:=ab s_k 0 rfl
   have f_s1:=ab s_k 1 rfl
   have f_s2:=ab s_k 2 rfl
   have f_s3:=ab s_k 3 rfl
   have z_s0:=ak s_k 0
   have z_s1:=ak s_k 1
   have z_s2:=ak s_k 2
   have z_s3:=ak s_k 3
   have f_t0:=ab t_k 0 rfl
   have f_t1:=ab t_k 1 rfl
   have f_t2:=ab t_k 2 rfl
   have f_t3:=ab t_k 3 rfl
   have z_t0:=ak t_k 0
   have z_t1:=ak t_k 1
   have z_t2:=ak t_k 2
   have z_t3:=ak t_k 3
   have n0:w.heap.size+1+1≠w.heap.size:=by omega
   have n1:w.heap.size+1+1≠w.heap.size+1:=by omega
   have n2:w.heap.size+1+1+1≠w.heap.size:=by omega
   have n3:w.heap.size+1+1+1≠w.heap.size+1:=by omega
   have kw:wr.cell? ⟨w.heap.size+1+1,0,none⟩=some (.int .i64 p_i)∧wr.cell? ⟨w.heap.size+1+1,1,none⟩=some (.bool p_g)∧wr.cell? ⟨w.heap.size+1+1,2,none⟩=some (.slice p_o p_n p_c)∧wr.cell? ⟨w.heap.size+1+1,3,none⟩=some (.int .i64 p_e)∧wr.cell? ⟨w.heap.size+1+1+1,0,none⟩=some (.int .i64 q_i)∧wr.cell? ⟨w.heap.size+1+1+1,1,none⟩=some (.bool q_g)∧wr.cell? ⟨w.heap.size+1+1+1,2,none⟩=some (.slice q_o q_n q_c)∧wr.cell? ⟨w.heap.size+1+1+1,3,none⟩=some (.int .i64 q_e):=⟨ab HU.out 0 rfl,ab HU.out 1 rfl,ab HU.out 2 rfl,ab HU.out 3 rfl,ab HV.out 0 rfl,ab HV.out 1 rfl,ab HV.out 2 rfl,ab HV.out 3 rfl⟩
   have kA':=lM n0 n2 kw (.int .i64 p_i) (.bool p_g) (.slice p_o p_n p_c) (.int .i64 p_e)
   have kB':=lM n1 n3 kw (.int .i64 q_i) (.bool q_g) (.slice q_o q_n q_c) (.int .i64 q_e)
   have kAB':=lM n1 n3 kA' (.int .i64 q_i) (.bool q_g) (.slice q_o q_n q_c) (.int .i64 q_e)
   have kBA':=lM n0 n2 kB' (.int .i64 p_i) (.bool p_g) (.slice p_o p_n p_c) (.int .i64 p_e)
   have kA:=oX kA'
   have kB:=oX kB'
   have kAB:=oX kAB'
   have kBA:=oX kBA'
   clear kw kA' kB' kAB' kBA'
   go_region_held3 (fun W=>W.cell? ⟨w.heap.size+1+1,0,none⟩=some (.int .i64 p_i)∧W.cell? ⟨w.heap.size+1+1,1,none⟩=some (.bool p_g)∧W.cell? ⟨w.heap.size+1+1,2,none⟩=some (.slice p_o p_n p_c)∧W.cell? ⟨w.heap.size+1+1,3,none⟩=some (.int .i64 p_e)∧W.cell? ⟨w.heap.size+1+1+1,0,none⟩=some (.int .i64 q_i)∧W.cell? ⟨w.heap.size+1+1+1,1,none⟩=some (.bool q_g)∧W.cell? ⟨w.heap.size+1+1+1,2,none⟩=some (.slice q_o q_n q_c)∧W.cell? ⟨w.heap.size+1+1+1,3,none⟩=some (.int .i64 q_e))
    (first|with_reducible assumption|with_reducible exact kd|with_reducible exact kA|with_reducible exact kB|with_reducible exact kAB|with_reducible exact kBA|fail)
    (fail)
   have s2:=gP s_k (.int .i64 p_i) (.bool p_g) (.slice p_o p_n p_c) (.int .i64 p_e)
   have t2:=cp t_k (show w.heap.size+1≠w.heap.size by omega) (.int .i64 p_i) (.bool p_g) (.slice p_o p_n p_c) (.int .i64 p_e)
   have s3:=cp s2 (show w.heap.size≠w.heap.size+1 by omega) (.int .i64 q_i) (.bool q_g) (.slice q_o q_n q_c) (.int .i64 q_e)
   have t3:=gP t2 (.int .i64 q_i) (.bool q_g) (.slice q_o q_n q_c) (.int .i64 q_e)
   have P3:=((HP.out.set4 s_k (.int .i64 p_i) (.bool p_g) (.slice p_o p_n p_c) (.int .i64 p_e)).set4 t2 (.int .i64 q_i) (.bool q_g) (.slice q_o q_n q_c) (.int .i64 q_e)).keeps (aq _).drew
   have Q3:=((HQ.out.set4 s_k (.int .i64 p_i) (.bool p_g) (.slice p_o p_n p_c) (.int .i64 p_e)).set4 t2 (.int .i64 q_i) (.bool q_g) (.slice q_o q_n q_c) (.int .i64 q_e)).keeps (aq _).drew
   have hb3:=(gO (gO hbw (Nat.le_refl _) (.int .i64 p_i) (.bool p_g) (.slice p_o p_n p_c) (.int .i64 p_e)) (show w.heap.size<=w.heap.size+1 by omega) (.int .i64 q_i) (.bool q_g) (.slice q_o q_n q_c) (.int .i64 q_e)).drew
   have e_s0:=(fh _ _).trans (ab s3 0 rfl)
   have e_s1:=(fh _ _).trans (ab s3 1 rfl)
   have e_s2:=(fh _ _).trans (ab s3 2 rfl)
   have e_s3:=(fh _ _).trans (ab s3 3 rfl)
   have e_t0:=(fh _ _).trans (ab t3 0 rfl)
   have e_t1:=(fh _ _).trans (ab t3 1 rfl)
   have e_t2:=(fh _ _).trans (ab t3 2 rfl)
   have e_t3:=(fh _ _).trans (ab t3 3 rfl)
   clear kd kA kB kAB kBA s2 t2 s3 t3 s_k t_k HU HV HP HQ f_s0 z_s0 f_s1 z_s1 f_s2 z_s2 f_s3 z_s3 f_t0 z_t0 f_t1 z_t1 f_t2 z_t2 f_t3 z_t3
   generalize ((((((((wr.setCell ⟨w.heap.size,0,none⟩ (.int .i64 p_i)).setCell ⟨w.heap.size,1,none⟩ (.bool p_g)).setCell ⟨w.heap.size,2,none⟩ (.slice p_o p_n p_c)).setCell ⟨w.heap.size,3,none⟩ (.int .i64 p_e)).setCell ⟨w.heap.size+1,0,none⟩ (.int .i64 q_i)).setCell ⟨w.heap.size+1,1,none⟩ (.bool q_g)).setCell ⟨w.heap.size+1,2,none⟩ (.slice q_o q_n q_c)).setCell ⟨w.heap.size+1,3,none⟩ (.int .i64 q_e)).drew=yy at P3 Q3 hb3 e_s0 e_s1 e_s2 e_s3 e_t0 e_t1 e_t2 e_t3 ⊢
   go_wp2
   refine bodyPost_ret (v:=.tuple #[.agg #[.int .i64 p_i,.bool p_g,.slice p_o p_n p_c,.int .i64 p_e],.agg #[.int .i64 q_i,.bool q_g,.slice q_o q_n q_c,.int .i64 q_e]]) (by simp[results,results54,go_sem,e_s0,e_s1,e_s2,e_s3,e_t0,e_t1,e_t2,e_t3]) rfl ⟨_,_,rfl,by rw[e1.out];exact P3,by rw[e1.out];exact Q3,hb3⟩
theorem vB {p g o:Nat} {x0 x1 val:Value} {W:World} (hp:p≠g) (h:W.cell? ⟨p,0,none⟩=some x0∧W.cell? ⟨p,1,none⟩=some x1) :
  (W.setCell ⟨g,o,none⟩ val).cell? ⟨p,0,none⟩=some x0∧(W.setCell ⟨g,o,none⟩ val).cell? ⟨p,1,none⟩=some x1:=by
 have hp':∀ k:Nat,(W.setCell ⟨g,o,none⟩ val).cell? ⟨p,k,none⟩=W.cell? ⟨p,k,none⟩:=fun k=>World.cell?_setCell_far _ _ _ _ (Ne.symm hp)
 rw[hp',hp']
 exact h
theorem tL:Bd 4000 0:=by
 have:=kD 0
 rw[iC.1] at this
 exact this
theorem cu (p:Int):Bd 4000 (ah p).v:=by
 by_cases h:rg p=9218868437227405312
 ·rw[dC h];exact tL
 ·rw[dU h];exact kD p
theorem vC {a:En} (h:Bd 4000 a.v):Bd 4000 (cX a).v:=h.neg
theorem Cx {a b:Int} (na:nn a) (nb:nn b) (w:World) :
    Calls prog 23 #[.agg #[.int .i64 a,.int .i64 b]] w fun e w'=>e=.returned (.agg #[.int .i64 (bM (cX (ah b))),.int .i64 (bN (cX (ah a)))])∧Below w.heap.size w w':=by
  have T:Hid (∀ (u v:Value) W,EA W u (cX (ah b))->EA W v (cX (ah a))->Calls prog 49 #[u,v] W fun r w'=>r=.returned (.agg #[.int .i64 (bM (cX (ah b))),.int .i64 (bN (cX (ah a)))])∧Below W.heap.size W w'):=fun u v W hu hv=>jH hu.ev hv.ev (fun _=>(vC (cu _)).ok (by omega)) (fun _=>(vC (cu _)).ok (by omega))
  generalize bM (cX (ah b))=X at *
  generalize bN (cX (ah a))=Y at *
  have hb:=aq w
  go_enter func23,ntmps23
  have s_k:(w.alloc (.cells #[.int .i64 a,.int .i64 b] 23)).heap[w.heap.size]?=some (.cells #[.int .i64 a,.int .i64 b] 23):=av (.cells #[.int .i64 a,.int .i64 b] 23) (by simp only[ar])
  have hb:=aa hb (ae w (.cells #[.int .i64 a,.int .i64 b] 23))
  have s_k:=am (.cells #[.int .i64 0,.int .i64 0] 23) s_k
  have r_k:((w.alloc (.cells #[.int .i64 a,.int .i64 b] 23)).alloc (.cells #[.int .i64 0,.int .i64 0] 23)).heap[w.heap.size+1]?=some (.cells #[.int .i64 0,.int .i64 0] 23):=av (.cells #[.int .i64 0,.int .i64 0] 23) (by simp only[ar])
  have hb:=aa hb (ae (w.alloc (.cells #[.int .i64 a,.int .i64 b] 23)) (.cells #[.int .i64 0,.int .i64 0] 23))
  go_wp2_with fail
  generalize ((w.alloc (.cells #[.int .i64 a,.int .i64 b] 23)).alloc (.cells #[.int .i64 0,.int .i64 0] 23))=x1 at s_k r_k hb ⊢
  have KK:∀ W,Below x1.heap.size x1 W->W.cell? ⟨w.heap.size,0,none⟩=some (.int .i64 a)∧W.cell? ⟨w.heap.size,1,none⟩=some (.int .i64 b):=fun W hW=>⟨af (ab s_k 0 rfl) hW,af (ab s_k 1 rfl) hW⟩
  have B0:Below x1.heap.size x1 x1.drew:=(aq _).drew
  have n_s:w.heap.size≠w.heap.size+1:=by omega
  go_region_held3 (fun W=>W.cell? ⟨w.heap.size,0,none⟩=some (.int .i64 a)∧W.cell? ⟨w.heap.size,1,none⟩=some (.int .i64 b))
    (first|assumption|exact KK _ B0|exact KK _ B1|exact KK _ B2|exact KK _ B3|exact KK _ B4|exact KK _ B5|(refine vB n_s (vB n_s ?_);exact KK _ B5)|fail)
    (first
      | (go_at_call 49;have _t:=hs4;refine(T.out _ _ _ (E2.keeps (aa hs3 hs4)) E4).mono ?_;rintro _ y_5 ⟨rfl,hs5⟩;have B5:=aa B4 hs5;have r_k:=ac B5 r_k;have f_r0:=ab r_k 0 rfl;have f_r1:=ab r_k 1 rfl;have z_r0:=ak r_k 0;have z_r1:=ak r_k 1)
      | (go_at_call 52;have _t:=hs3;refine(sE E3 (bd _)).mono ?_;rintro _ y_4 ⟨v4,rfl,E4,hs4⟩;have B4:=aa B3 hs4)
      | (go_at_call 40;have _t:=hs2;refine(ff na _).mono ?_;rintro _ y_3 ⟨v3,rfl,E3,hs3⟩;have B3:=aa B2 hs3)
      | (go_at_call 52;have _t:=hs1;refine(sE E1 (bd _)).mono ?_;rintro _ y_2 ⟨v2,rfl,E2,hs2⟩;have B2:=aa B1 hs2)
      | (go_at_call 40; refine (ff nb _).mono ?_; rintro _ y_1 ⟨v1,rfl,E1,hs1⟩; have B1:=aa B0 hs1))
  have hb:=aa hb B5
  have f_r0:=ab r_k 0 rfl
  have z_r0:=ak r_k 0
  have d_r0:=ag r_k 0 (.int .i64 X)
  have f_r1:=ab r_k 1 rfl
  have z_r1:=ak r_k 1
  have d_r1:=ag d_r0 1 (.int .i64 Y)
  have e_r0:=ab d_r1 0 rfl
  have e_r1:=ab d_r1 1 rfl
  have hbe:=((hb.setCell (p:=⟨w.heap.size+1,0,none⟩) (show w.heap.size<=w.heap.size+1 by omega) (.int .i64 X)).setCell (p:=⟨w.heap.size+1,1,none⟩) (show w.heap.size<=w.heap.size+1 by omega) (.int .i64 Y))
  clear r_k d_r0 d_r1
  go_wp2
  refine bodyPost_ret (v:=.agg #[.int .i64 X,.int .i64 Y]) (by simp[results,results23,go_sem,e_r0,e_r1]) rfl ⟨rfl,hbe⟩
theorem Bp (w:World) (L:eI w):Calls prog 5 #[] w fun e w'=>e=.returned (.bool true)∧Below w.heap.size w w':=by
 have CA:Hid (∀ W,eI W->Calls prog 8 #[.agg #[.int .i64 4607182418800017408,.int .i64 4607182418800017408],.agg #[.int .i64 4607182418800017408,.int .i64 4611686018427387904]] W fun e w'=>e=.returned (.tuple #[.agg #[.int .i64 4611686018427387904,.int .i64 4613937818241073152],.int .i64 0])∧Below W.heap.size W w'):=fun W LW=>Do W LW
 have CS:Hid (∀ W,Calls prog 9 #[.agg #[.int .i64 4611686018427387904,.int .i64 4613937818241073152]] W fun e w'=>e=.returned (.tuple #[.int .i64 1,.bool true,.int .i64 0])∧Below W.heap.size W w'):=fun W=>Cs W
 go_enter func5,ntmps5
 go_wp2_with fail
 refine(CA.out _ L).mono ?_
 rintro _ w1 ⟨rfl,hb1⟩
 have hba:=ae w1 (.cells #[.int .i64 4611686018427387904,.int .i64 4613937818241073152] 23)
 have hg:=gL w1 (.cells #[.int .i64 4611686018427387904,.int .i64 4613937818241073152] 23) rfl
 go_wp2_with fail
 generalize w1.alloc (.cells #[.int .i64 4611686018427387904,.int .i64 4613937818241073152] 23)=w2 at *
 refine(CS.out _).mono ?_
 rintro _ w3 ⟨rfl,hb2⟩
 have hg3:=(hb2.block _ (aGe hg).1).trans hg
 have c0:=ab hg3 0 rfl
 have c1:=ab hg3 1 rfl
 go_wp2
 go_ret
 exact⟨rfl,aa hb1 (aa hba hb2)⟩
end Go.Proofs.YtkkpppgfoilgmaaGreatDoor
