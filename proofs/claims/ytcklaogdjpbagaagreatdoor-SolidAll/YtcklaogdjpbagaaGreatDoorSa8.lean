/- Parts of the proof. -/
import Derived.Test.YtcklaogdjpbagaaGreatDoorSa6
import Derived.Deep.WholeRow
import Derived.Laws.CopyOwn
import Derived.Deep.RegionHeld3
set_option maxRecDepth 100000
set_option maxHeartbeats 8000000
set_option linter.unusedVariables false
set_option linter.unusedSimpArgs false
namespace Go.Proofs.YtcklaogdjpbagaaGreatDoor
open Go Go.Proofs.Tryz Go.RowKit Go.Proofs.YtcklaogdjpbagaaGreatDoor.M
theorem wP (u:Nat->Nat->Int):∀ p,p<4->∀ k,k<3->(#[.float .f64 (wd (u 0 0)),.float .f64 (wd (u 0 1)),.float .f64 (wd (u 0 2)),.float .f64 (wd (u 1 0)),.float .f64 (wd (u 1 1)),.float .f64 (wd (u 1 2)),.float .f64 (wd (u 2 0)),.float .f64 (wd (u 2 1)),.float .f64 (wd (u 2 2)),.float .f64 (wd (u 3 0)),.float .f64 (wd (u 3 1)),.float .f64 (wd (u 3 2))]:Array Value)[p*3+k]?=some (.float .f64 (wd (u p k)))
 | 0,_,0,_=>rfl
 | 0,_,1,_=>rfl
 | 0,_,2,_=>rfl
 | 1,_,0,_=>rfl
 | 1,_,1,_=>rfl
 | 1,_,2,_=>rfl
 | 2,_,0,_=>rfl
 | 2,_,1,_=>rfl
 | 2,_,2,_=>rfl
 | 3,_,0,_=>rfl
 | 3,_,1,_=>rfl
 | 3,_,2,_=>rfl
theorem BD (u:Nat->Nat->Int):∀ p,p<4->∀ k,k<3->(#[.float .f64 (wd (u 0 0)),.float .f64 (wd (u 0 1)),.float .f64 (wd (u 0 2)),.float .f64 (wd (u 1 0)),.float .f64 (wd (u 1 1)),.float .f64 (wd (u 1 2)),.float .f64 (wd (u 2 0)),.float .f64 (wd (u 2 1)),.float .f64 (wd (u 2 2)),.float .f64 (wd (u 3 0)),.float .f64 (wd (u 3 1)),.float .f64 (wd (u 3 2)),.float .f64 0,.float .f64 0,.float .f64 0,.float .f64 0,.float .f64 0,.float .f64 0,.float .f64 0,.float .f64 0,.float .f64 0,.float .f64 0,.float .f64 0,.float .f64 0,.float .f64 0,.float .f64 0,.float .f64 0,.float .f64 0,.float .f64 0,.float .f64 0,.float .f64 0,.float .f64 0,.float .f64 0,.float .f64 0,.float .f64 0,.float .f64 0,.float .f64 0,.float .f64 0,.float .f64 0,.float .f64 0,.float .f64 0,.float .f64 0,.float .f64 0,.float .f64 0]:Array Value)[p*3+k]?=some (.float .f64 (wd (u p k)))
 | 0,_,0,_=>rfl
 | 0,_,1,_=>rfl
 | 0,_,2,_=>rfl
 | 1,_,0,_=>rfl
 | 1,_,1,_=>rfl
 | 1,_,2,_=>rfl
 | 2,_,0,_=>rfl
 | 2,_,1,_=>rfl
 | 2,_,2,_=>rfl
 | 3,_,0,_=>rfl
 | 3,_,1,_=>rfl
 | 3,_,2,_=>rfl
structure ml (arr:Array Value) (u:Nat->Nat->Int) (Q P:Nat):Prop where
 n:arr.size=44
 o:arr.all (·.oneCell')=true
 l:∀ p,p<4->∀ k,k<3->arr[p*3+k]?=some (.float .f64 (wd (u p k)))
 m:∀ a b,a<b->b<4->(b<Q∨(b=Q∧a<P))->arr[12+a*8+b*2]?=some (.float .f64 (wd (mn u a b)))∧arr[12+a*8+b*2+1]?=some (.float .f64 (wd (sz u a b)))∧arr[12+b*8+a*2]?=some (.float .f64 (wd (mn u b a)))∧arr[12+b*8+a*2+1]?=some (.float .f64 (wd (sz u b a)))
theorem eT (arr:Array Value) (i j:Nat) (v:Value) (h:i<arr.size):(arr.setIfInBounds i v)[j]?=if i=j then some v else arr[j]?:=by
 rw[Array.getElem?_setIfInBounds]
 by_cases e:i=j
 ·subst e
  simp[h]
 ·simp[e]
theorem az {W:World} {g k:Nat} {X:Obj} (h:W.heap[k]?=some X) (hn:k≠g) (o:Nat) (v:Value):(W.setCell ⟨g,o,none⟩ v).heap[k]?=some X:=by
 have:=(Wr.refl g W).setCell o v
 exact(this.block k (aGe h).1 hn).trans h
theorem ia {arr:Array Value} (h:arr.all (·.oneCell')=true) (i:Nat) {v:Value} (hv:v.oneCell'=true):(arr.setIfInBounds i v).all (·.oneCell')=true:=by
 rw[Array.all_eq_true_iff_forall_mem] at h ⊢
 intro x hx
 rcases Array.mem_or_eq_of_mem_setIfInBounds hx with e|e
 ·exact h x e
 ·rw[e];exact hv
theorem ml.step {arr:Array Value} {u:Nat->Nat->Int} {q p:Nat} (h:ml arr u q p) (pq:p<q) (q4:q<4) :
  ml ((((arr.setIfInBounds (12+p*8+q*2) (.float .f64 (wd (mn u p q)))).setIfInBounds (12+p*8+q*2+1) (.float .f64 (wd (sz u p q)))).setIfInBounds (12+q*8+p*2) (.float .f64 (wd (mn u q p)))).setIfInBounds (12+q*8+p*2+1) (.float .f64 (wd (sz u q p)))) u q (p+1):=by
 have hn:=h.n
 have g:∀ j,((((arr.setIfInBounds (12+p*8+q*2) (.float .f64 (wd (mn u p q)))).setIfInBounds (12+p*8+q*2+1) (.float .f64 (wd (sz u p q)))).setIfInBounds (12+q*8+p*2) (.float .f64 (wd (mn u q p)))).setIfInBounds (12+q*8+p*2+1) (.float .f64 (wd (sz u q p))))[j]? =
   if 12+q*8+p*2+1=j then some (.float .f64 (wd (sz u q p))) else if 12+q*8+p*2=j then some (.float .f64 (wd (mn u q p))) else if 12+p*8+q*2+1=j then some (.float .f64 (wd (sz u p q))) else if 12+p*8+q*2=j then some (.float .f64 (wd (mn u p q))) else arr[j]?:=fun j=>by
  rw[eT _ _ _ _ (by simp only[Array.size_setIfInBounds];omega),eT _ _ _ _ (by simp only[Array.size_setIfInBounds];omega),eT _ _ _ _ (by simp only[Array.size_setIfInBounds];omega),eT _ _ _ _ (by omega)]
 refine⟨by simp only[Array.size_setIfInBounds];exact hn,ia (ia (ia (ia h.o _ rfl) _ rfl) _ rfl) _ rfl,fun a ha k hk=>?_,fun a b ab b4 hc=>?_⟩
 ·rw[g,if_neg (by omega),if_neg (by omega),if_neg (by omega),if_neg (by omega)]
  exact h.l a ha k hk
 ·by_cases e:a=p∧b=q
  ·obtain⟨rfl,rfl⟩:=e
   refine⟨?_,?_,?_,?_⟩
   ·rw[g,if_neg (by omega),if_neg (by omega),if_neg (by omega),if_pos rfl]
   ·rw[g,if_neg (by omega),if_neg (by omega),if_pos rfl]
   ·rw[g,if_neg (by omega),if_pos rfl]
   ·rw[g,if_pos rfl]
  ·obtain⟨h1,h2,h3,h4⟩:=h.m a b ab b4 (by omega)
   refine⟨?_,?_,?_,?_⟩
   ·rw[g,if_neg (by omega),if_neg (by omega),if_neg (by omega),if_neg (by omega)];exact h1
   ·rw[g,if_neg (by omega),if_neg (by omega),if_neg (by omega),if_neg (by omega)];exact h2
   ·rw[g,if_neg (by omega),if_neg (by omega),if_neg (by omega),if_neg (by omega)];exact h3
   ·rw[g,if_neg (by omega),if_neg (by omega),if_neg (by omega),if_neg (by omega)];exact h4
theorem ml.all {arr:Array Value} {u:Nat->Nat->Int} (h:ml arr u 4 0):gb arr u:=by
 refine⟨h.n,h.o,h.l,fun p hp q hq pq=>?_,fun p hp q hq pq=>?_⟩
 ·rcases Nat.lt_or_gt_of_ne pq with c|c
  ·exact(h.m p q c hq (.inl hq)).1
  ·exact(h.m q p c hp (.inl hp)).2.2.1
 ·rcases Nat.lt_or_gt_of_ne pq with c|c
  ·exact(h.m p q c hq (.inl hq)).2.1
  ·exact(h.m q p c hp (.inl hp)).2.2.2
theorem nL {u:Nat->Nat->Int} (hL:Lf u) (w:World) :
  Calls prog 66 #[.agg #[.float .f64 (wd (u 0 0)),.float .f64 (wd (u 0 1)),.float .f64 (wd (u 0 2)),.float .f64 (wd (u 1 0)),.float .f64 (wd (u 1 1)),.float .f64 (wd (u 1 2)),.float .f64 (wd (u 2 0)),.float .f64 (wd (u 2 1)),.float .f64 (wd (u 2 2)),.float .f64 (wd (u 3 0)),.float .f64 (wd (u 3 1)),.float .f64 (wd (u 3 2))]] w fun e w'=>∃ arr,e=.returned (.agg arr)∧gb arr u∧Below w.heap.size w w':=by
 go_enter func66,ntmps66
 iterate 15 go_step
 have hb0:=aL w (.cells #[.float .f64 (wd (u 0 0)),.float .f64 (wd (u 0 1)),.float .f64 (wd (u 0 2)),.float .f64 (wd (u 1 0)),.float .f64 (wd (u 1 1)),.float .f64 (wd (u 1 2)),.float .f64 (wd (u 2 0)),.float .f64 (wd (u 2 1)),.float .f64 (wd (u 2 2)),.float .f64 (wd (u 3 0)),.float .f64 (wd (u 3 1)),.float .f64 (wd (u 3 2))] 82) (.cells #[.float .f64 0,.float .f64 0,.float .f64 0,.float .f64 0,.float .f64 0,.float .f64 0,.float .f64 0,.float .f64 0,.float .f64 0,.float .f64 0,.float .f64 0,.float .f64 0,.float .f64 0,.float .f64 0,.float .f64 0,.float .f64 0,.float .f64 0,.float .f64 0,.float .f64 0,.float .f64 0,.float .f64 0,.float .f64 0,.float .f64 0,.float .f64 0,.float .f64 0,.float .f64 0,.float .f64 0,.float .f64 0,.float .f64 0,.float .f64 0,.float .f64 0,.float .f64 0,.float .f64 0,.float .f64 0,.float .f64 0,.float .f64 0,.float .f64 0,.float .f64 0,.float .f64 0,.float .f64 0,.float .f64 0,.float .f64 0,.float .f64 0,.float .f64 0] 103)
 have l_k:=bO w (.cells #[.float .f64 (wd (u 0 0)),.float .f64 (wd (u 0 1)),.float .f64 (wd (u 0 2)),.float .f64 (wd (u 1 0)),.float .f64 (wd (u 1 1)),.float .f64 (wd (u 1 2)),.float .f64 (wd (u 2 0)),.float .f64 (wd (u 2 1)),.float .f64 (wd (u 2 2)),.float .f64 (wd (u 3 0)),.float .f64 (wd (u 3 1)),.float .f64 (wd (u 3 2))] 82) (.cells #[.float .f64 0,.float .f64 0,.float .f64 0,.float .f64 0,.float .f64 0,.float .f64 0,.float .f64 0,.float .f64 0,.float .f64 0,.float .f64 0,.float .f64 0,.float .f64 0,.float .f64 0,.float .f64 0,.float .f64 0,.float .f64 0,.float .f64 0,.float .f64 0,.float .f64 0,.float .f64 0,.float .f64 0,.float .f64 0,.float .f64 0,.float .f64 0,.float .f64 0,.float .f64 0,.float .f64 0,.float .f64 0,.float .f64 0,.float .f64 0,.float .f64 0,.float .f64 0,.float .f64 0,.float .f64 0,.float .f64 0,.float .f64 0,.float .f64 0,.float .f64 0,.float .f64 0,.float .f64 0,.float .f64 0,.float .f64 0,.float .f64 0,.float .f64 0] 103)
 have r_k:=bH w (.cells #[.float .f64 (wd (u 0 0)),.float .f64 (wd (u 0 1)),.float .f64 (wd (u 0 2)),.float .f64 (wd (u 1 0)),.float .f64 (wd (u 1 1)),.float .f64 (wd (u 1 2)),.float .f64 (wd (u 2 0)),.float .f64 (wd (u 2 1)),.float .f64 (wd (u 2 2)),.float .f64 (wd (u 3 0)),.float .f64 (wd (u 3 1)),.float .f64 (wd (u 3 2))] 82) (.cells #[.float .f64 0,.float .f64 0,.float .f64 0,.float .f64 0,.float .f64 0,.float .f64 0,.float .f64 0,.float .f64 0,.float .f64 0,.float .f64 0,.float .f64 0,.float .f64 0,.float .f64 0,.float .f64 0,.float .f64 0,.float .f64 0,.float .f64 0,.float .f64 0,.float .f64 0,.float .f64 0,.float .f64 0,.float .f64 0,.float .f64 0,.float .f64 0,.float .f64 0,.float .f64 0,.float .f64 0,.float .f64 0,.float .f64 0,.float .f64 0,.float .f64 0,.float .f64 0,.float .f64 0,.float .f64 0,.float .f64 0,.float .f64 0,.float .f64 0,.float .f64 0,.float .f64 0,.float .f64 0,.float .f64 0,.float .f64 0,.float .f64 0,.float .f64 0] 103)
 generalize (w.alloc (.cells #[.float .f64 (wd (u 0 0)),.float .f64 (wd (u 0 1)),.float .f64 (wd (u 0 2)),.float .f64 (wd (u 1 0)),.float .f64 (wd (u 1 1)),.float .f64 (wd (u 1 2)),.float .f64 (wd (u 2 0)),.float .f64 (wd (u 2 1)),.float .f64 (wd (u 2 2)),.float .f64 (wd (u 3 0)),.float .f64 (wd (u 3 1)),.float .f64 (wd (u 3 2))] 82)).alloc (.cells #[.float .f64 0,.float .f64 0,.float .f64 0,.float .f64 0,.float .f64 0,.float .f64 0,.float .f64 0,.float .f64 0,.float .f64 0,.float .f64 0,.float .f64 0,.float .f64 0,.float .f64 0,.float .f64 0,.float .f64 0,.float .f64 0,.float .f64 0,.float .f64 0,.float .f64 0,.float .f64 0,.float .f64 0,.float .f64 0,.float .f64 0,.float .f64 0,.float .f64 0,.float .f64 0,.float .f64 0,.float .f64 0,.float .f64 0,.float .f64 0,.float .f64 0,.float .f64 0,.float .f64 0,.float .f64 0,.float .f64 0,.float .f64 0,.float .f64 0,.float .f64 0,.float .f64 0,.float .f64 0,.float .f64 0,.float .f64 0,.float .f64 0,.float .f64 0] 103)=x0 at hb0 l_k r_k ⊢
 refine wp_load_row 82 _ rfl w.heap.size rfl _ _ _ _ l_k underlying82 rfl (by kernel_rfl) ?_
 dsimp only[Act.put]
 have rk0:=r_k
 iterate 8 go_step
 have f_k0:=aA x0 (.cells #[.float .f64 0,.float .f64 0,.float .f64 0,.float .f64 0,.float .f64 0,.float .f64 0,.float .f64 0,.float .f64 0,.float .f64 0,.float .f64 0,.float .f64 0,.float .f64 0,.float .f64 0,.float .f64 0,.float .f64 0,.float .f64 0,.float .f64 0,.float .f64 0,.float .f64 0,.float .f64 0,.float .f64 0,.float .f64 0,.float .f64 0,.float .f64 0,.float .f64 0,.float .f64 0,.float .f64 0,.float .f64 0,.float .f64 0,.float .f64 0,.float .f64 0,.float .f64 0,.float .f64 0,.float .f64 0,.float .f64 0,.float .f64 0,.float .f64 0,.float .f64 0,.float .f64 0,.float .f64 0,.float .f64 0,.float .f64 0,.float .f64 0,.float .f64 0] 103)
 refine wp_store_row 103 _ _ rfl x0.heap.size #[.float .f64 (wd (u 0 0)),.float .f64 (wd (u 0 1)),.float .f64 (wd (u 0 2)),.float .f64 (wd (u 1 0)),.float .f64 (wd (u 1 1)),.float .f64 (wd (u 1 2)),.float .f64 (wd (u 2 0)),.float .f64 (wd (u 2 1)),.float .f64 (wd (u 2 2)),.float .f64 (wd (u 3 0)),.float .f64 (wd (u 3 1)),.float .f64 (wd (u 3 2)),.float .f64 0,.float .f64 0,.float .f64 0,.float .f64 0,.float .f64 0,.float .f64 0,.float .f64 0,.float .f64 0,.float .f64 0,.float .f64 0,.float .f64 0,.float .f64 0,.float .f64 0,.float .f64 0,.float .f64 0,.float .f64 0,.float .f64 0,.float .f64 0,.float .f64 0,.float .f64 0,.float .f64 0,.float .f64 0,.float .f64 0,.float .f64 0,.float .f64 0,.float .f64 0,.float .f64 0,.float .f64 0,.float .f64 0,.float .f64 0,.float .f64 0,.float .f64 0] rfl rfl _ _ f_k0 (by kernel_rfl) rfl (by kernel_rfl) ?_
 rw[World.setRow_alloc_new]
 dsimp only[Act.put]
 clear f_k0
 have f_k:=aA x0 (.cells #[.float .f64 (wd (u 0 0)),.float .f64 (wd (u 0 1)),.float .f64 (wd (u 0 2)),.float .f64 (wd (u 1 0)),.float .f64 (wd (u 1 1)),.float .f64 (wd (u 1 2)),.float .f64 (wd (u 2 0)),.float .f64 (wd (u 2 1)),.float .f64 (wd (u 2 2)),.float .f64 (wd (u 3 0)),.float .f64 (wd (u 3 1)),.float .f64 (wd (u 3 2)),.float .f64 0,.float .f64 0,.float .f64 0,.float .f64 0,.float .f64 0,.float .f64 0,.float .f64 0,.float .f64 0,.float .f64 0,.float .f64 0,.float .f64 0,.float .f64 0,.float .f64 0,.float .f64 0,.float .f64 0,.float .f64 0,.float .f64 0,.float .f64 0,.float .f64 0,.float .f64 0,.float .f64 0,.float .f64 0,.float .f64 0,.float .f64 0,.float .f64 0,.float .f64 0,.float .f64 0,.float .f64 0,.float .f64 0,.float .f64 0,.float .f64 0,.float .f64 0] 103)
 replace l_k:=ap (.cells #[.float .f64 (wd (u 0 0)),.float .f64 (wd (u 0 1)),.float .f64 (wd (u 0 2)),.float .f64 (wd (u 1 0)),.float .f64 (wd (u 1 1)),.float .f64 (wd (u 1 2)),.float .f64 (wd (u 2 0)),.float .f64 (wd (u 2 1)),.float .f64 (wd (u 2 2)),.float .f64 (wd (u 3 0)),.float .f64 (wd (u 3 1)),.float .f64 (wd (u 3 2)),.float .f64 0,.float .f64 0,.float .f64 0,.float .f64 0,.float .f64 0,.float .f64 0,.float .f64 0,.float .f64 0,.float .f64 0,.float .f64 0,.float .f64 0,.float .f64 0,.float .f64 0,.float .f64 0,.float .f64 0,.float .f64 0,.float .f64 0,.float .f64 0,.float .f64 0,.float .f64 0,.float .f64 0,.float .f64 0,.float .f64 0,.float .f64 0,.float .f64 0,.float .f64 0,.float .f64 0,.float .f64 0,.float .f64 0,.float .f64 0,.float .f64 0,.float .f64 0] 103) l_k
 replace r_k:=ap (.cells #[.float .f64 (wd (u 0 0)),.float .f64 (wd (u 0 1)),.float .f64 (wd (u 0 2)),.float .f64 (wd (u 1 0)),.float .f64 (wd (u 1 1)),.float .f64 (wd (u 1 2)),.float .f64 (wd (u 2 0)),.float .f64 (wd (u 2 1)),.float .f64 (wd (u 2 2)),.float .f64 (wd (u 3 0)),.float .f64 (wd (u 3 1)),.float .f64 (wd (u 3 2)),.float .f64 0,.float .f64 0,.float .f64 0,.float .f64 0,.float .f64 0,.float .f64 0,.float .f64 0,.float .f64 0,.float .f64 0,.float .f64 0,.float .f64 0,.float .f64 0,.float .f64 0,.float .f64 0,.float .f64 0,.float .f64 0,.float .f64 0,.float .f64 0,.float .f64 0,.float .f64 0,.float .f64 0,.float .f64 0,.float .f64 0,.float .f64 0,.float .f64 0,.float .f64 0,.float .f64 0,.float .f64 0,.float .f64 0,.float .f64 0,.float .f64 0,.float .f64 0] 103) r_k
 have hsz:w.heap.size+1<x0.heap.size:=(aGe (show x0.heap[w.heap.size+1]?=_ from rk0)).1
 replace hb0:=ac hb0 (ah x0 (.cells #[.float .f64 (wd (u 0 0)),.float .f64 (wd (u 0 1)),.float .f64 (wd (u 0 2)),.float .f64 (wd (u 1 0)),.float .f64 (wd (u 1 1)),.float .f64 (wd (u 1 2)),.float .f64 (wd (u 2 0)),.float .f64 (wd (u 2 1)),.float .f64 (wd (u 2 2)),.float .f64 (wd (u 3 0)),.float .f64 (wd (u 3 1)),.float .f64 (wd (u 3 2)),.float .f64 0,.float .f64 0,.float .f64 0,.float .f64 0,.float .f64 0,.float .f64 0,.float .f64 0,.float .f64 0,.float .f64 0,.float .f64 0,.float .f64 0,.float .f64 0,.float .f64 0,.float .f64 0,.float .f64 0,.float .f64 0,.float .f64 0,.float .f64 0,.float .f64 0,.float .f64 0,.float .f64 0,.float .f64 0,.float .f64 0,.float .f64 0,.float .f64 0,.float .f64 0,.float .f64 0,.float .f64 0,.float .f64 0,.float .f64 0,.float .f64 0,.float .f64 0] 103))
 have HN:ml #[.float .f64 (wd (u 0 0)),.float .f64 (wd (u 0 1)),.float .f64 (wd (u 0 2)),.float .f64 (wd (u 1 0)),.float .f64 (wd (u 1 1)),.float .f64 (wd (u 1 2)),.float .f64 (wd (u 2 0)),.float .f64 (wd (u 2 1)),.float .f64 (wd (u 2 2)),.float .f64 (wd (u 3 0)),.float .f64 (wd (u 3 1)),.float .f64 (wd (u 3 2)),.float .f64 0,.float .f64 0,.float .f64 0,.float .f64 0,.float .f64 0,.float .f64 0,.float .f64 0,.float .f64 0,.float .f64 0,.float .f64 0,.float .f64 0,.float .f64 0,.float .f64 0,.float .f64 0,.float .f64 0,.float .f64 0,.float .f64 0,.float .f64 0,.float .f64 0,.float .f64 0,.float .f64 0,.float .f64 0,.float .f64 0,.float .f64 0,.float .f64 0,.float .f64 0,.float .f64 0,.float .f64 0,.float .f64 0,.float .f64 0,.float .f64 0,.float .f64 0] u 0 0:=⟨rfl,by kernel_rfl,BD u,fun a b ab b4 hc=>by omega⟩
 generalize x0.alloc (.cells #[.float .f64 (wd (u 0 0)),.float .f64 (wd (u 0 1)),.float .f64 (wd (u 0 2)),.float .f64 (wd (u 1 0)),.float .f64 (wd (u 1 1)),.float .f64 (wd (u 1 2)),.float .f64 (wd (u 2 0)),.float .f64 (wd (u 2 1)),.float .f64 (wd (u 2 2)),.float .f64 (wd (u 3 0)),.float .f64 (wd (u 3 1)),.float .f64 (wd (u 3 2)),.float .f64 0,.float .f64 0,.float .f64 0,.float .f64 0,.float .f64 0,.float .f64 0,.float .f64 0,.float .f64 0,.float .f64 0,.float .f64 0,.float .f64 0,.float .f64 0,.float .f64 0,.float .f64 0,.float .f64 0,.float .f64 0,.float .f64 0,.float .f64 0,.float .f64 0,.float .f64 0,.float .f64 0,.float .f64 0,.float .f64 0,.float .f64 0,.float .f64 0,.float .f64 0,.float .f64 0,.float .f64 0,.float .f64 0,.float .f64 0,.float .f64 0,.float .f64 0] 103)=x1 at hb0 l_k r_k f_k ⊢
 generalize (#[.float .f64 (wd (u 0 0)),.float .f64 (wd (u 0 1)),.float .f64 (wd (u 0 2)),.float .f64 (wd (u 1 0)),.float .f64 (wd (u 1 1)),.float .f64 (wd (u 1 2)),.float .f64 (wd (u 2 0)),.float .f64 (wd (u 2 1)),.float .f64 (wd (u 2 2)),.float .f64 (wd (u 3 0)),.float .f64 (wd (u 3 1)),.float .f64 (wd (u 3 2)),.float .f64 0,.float .f64 0,.float .f64 0,.float .f64 0,.float .f64 0,.float .f64 0,.float .f64 0,.float .f64 0,.float .f64 0,.float .f64 0,.float .f64 0,.float .f64 0,.float .f64 0,.float .f64 0,.float .f64 0,.float .f64 0,.float .f64 0,.float .f64 0,.float .f64 0,.float .f64 0,.float .f64 0,.float .f64 0,.float .f64 0,.float .f64 0,.float .f64 0,.float .f64 0,.float .f64 0,.float .f64 0,.float .f64 0,.float .f64 0,.float .f64 0,.float .f64 0]:Array Value)=arr0 at f_k HN
 have hl:=wP u
 generalize (#[.float .f64 (wd (u 0 0)),.float .f64 (wd (u 0 1)),.float .f64 (wd (u 0 2)),.float .f64 (wd (u 1 0)),.float .f64 (wd (u 1 1)),.float .f64 (wd (u 1 2)),.float .f64 (wd (u 2 0)),.float .f64 (wd (u 2 1)),.float .f64 (wd (u 2 2)),.float .f64 (wd (u 3 0)),.float .f64 (wd (u 3 1)),.float .f64 (wd (u 3 2))]:Array Value)=larr at l_k hl ⊢
 generalize x0.heap.size=fb at *
 clear rk0
 go_wp2_with fail
 go_loopw [11] (fun i wr=>∃ q:Nat,q<=4∧i=.int .i64 q∧∃ arr,Hid (ml arr u q 0)∧wr.heap[fb]?=some (.cells arr 103 (0,0))∧wr.heap[w.heap.size]?=some (.cells larr 82 (0,0))∧wr.heap[w.heap.size+1]?=some (.cells #[.float .f64 0,.float .f64 0,.float .f64 0,.float .f64 0,.float .f64 0,.float .f64 0,.float .f64 0,.float .f64 0,.float .f64 0,.float .f64 0,.float .f64 0,.float .f64 0,.float .f64 0,.float .f64 0,.float .f64 0,.float .f64 0,.float .f64 0,.float .f64 0,.float .f64 0,.float .f64 0,.float .f64 0,.float .f64 0,.float .f64 0,.float .f64 0,.float .f64 0,.float .f64 0,.float .f64 0,.float .f64 0,.float .f64 0,.float .f64 0,.float .f64 0,.float .f64 0,.float .f64 0,.float .f64 0,.float .f64 0,.float .f64 0,.float .f64 0,.float .f64 0,.float .f64 0,.float .f64 0,.float .f64 0,.float .f64 0,.float .f64 0,.float .f64 0] 103 (0,0))∧Below w.heap.size w wr) (fun i _=>4-(intOf i).toNat)
 case atStart=>exact⟨0,by omega,rfl,arr0,HN,f_k,l_k,r_k,hb0⟩
 case round=>
  clear f_k l_k r_k hb0 HN
  obtain⟨q,hq,rfl,arr,HN,f_k,l_k,r_k,hbw⟩:=hrel
  by_cases q4:q<4
  ·have q4':(q:Int)<4:=by omega
   go_wp2_with fail
   go_loopw [15] (fun i wr=>∃ p:Nat,p<=q∧i=.int .i64 p∧∃ arr,Hid (ml arr u q p)∧wr.heap[fb]?=some (.cells arr 103 (0,0))∧wr.heap[w.heap.size]?=some (.cells larr 82 (0,0))∧wr.heap[w.heap.size+1]?=some (.cells #[.float .f64 0,.float .f64 0,.float .f64 0,.float .f64 0,.float .f64 0,.float .f64 0,.float .f64 0,.float .f64 0,.float .f64 0,.float .f64 0,.float .f64 0,.float .f64 0,.float .f64 0,.float .f64 0,.float .f64 0,.float .f64 0,.float .f64 0,.float .f64 0,.float .f64 0,.float .f64 0,.float .f64 0,.float .f64 0,.float .f64 0,.float .f64 0,.float .f64 0,.float .f64 0,.float .f64 0,.float .f64 0,.float .f64 0,.float .f64 0,.float .f64 0,.float .f64 0,.float .f64 0,.float .f64 0,.float .f64 0,.float .f64 0,.float .f64 0,.float .f64 0,.float .f64 0,.float .f64 0,.float .f64 0,.float .f64 0,.float .f64 0,.float .f64 0] 103 (0,0))∧Below w.heap.size w wr) (fun i _=>q-(intOf i).toNat)
   case atStart=>exact⟨0,by omega,rfl,arr,HN,f_k,l_k,r_k,hbw⟩
   case round=>
    clear f_k l_k r_k hbw HN
    obtain⟨p,hp,rfl,arr,HN,f_k,l_k,r_k,hbw⟩:=hrel
    by_cases pq:p<q
    ·have gp:=hL.lg (show p<4 by omega)
     have gq:=hL.lg q4
     obtain⟨fl,-⟩:=ii gp gq
     obtain⟨fr,-⟩:=ii gq gp
     have h1:=cT (gp.f 0 (by decide)) (gq.f 1 (by decide)) fl.p
     have h2:=cT (gq.f 0 (by decide)) (gp.f 1 (by decide)) fr.p
     have h3:=et fl.abs.1 fr.abs.1 (nK gp gq).1.p
     have h4:=jY fl fr (jD gp gq).1.p
     have h5:=jY fr fl (jD gq gp).1.p
     have CA:Hid (∀ W,Calls prog 43 #[.float .f64 (wd (pL u p q))] W fun e w'=>e=.returned (.float .f64 (wd (rg (pL u p q))))∧w'=W):=fun W=>cQ fl.r W
     have CB:Hid (∀ W,Calls prog 43 #[.float .f64 (wd (pL u q p))] W fun e w'=>e=.returned (.float .f64 (wd (rg (pL u q p))))∧w'=W):=fun W=>cQ fr.r W
     have esz:Hid (sz u q p=sz u p q):=tK gq gp
     change ∀ W,(binOp .mul 54 (.float .f64 (wd (u p 0))) (.float .f64 (wd (u q 1)))).run prog W=.ok (.float .f64 (wd (pL u p q))) W at h1
     change ∀ W,(binOp .mul 54 (.float .f64 (wd (u q 0))) (.float .f64 (wd (u p 1)))).run prog W=.ok (.float .f64 (wd (pL u q p))) W at h2
     change ∀ W,(binOp .add 54 (.float .f64 (wd (rg (pL u p q)))) (.float .f64 (wd (rg (pL u q p))))).run prog W=.ok (.float .f64 (wd (sz u p q))) W at h3
     change ∀ W,(binOp .sub 54 (.float .f64 (wd (pL u p q))) (.float .f64 (wd (pL u q p)))).run prog W=.ok (.float .f64 (wd (mn u p q))) W at h4
     change ∀ W,(binOp .sub 54 (.float .f64 (wd (pL u q p))) (.float .f64 (wd (pL u p q)))).run prog W=.ok (.float .f64 (wd (mn u q p))) W at h5
     clear gp gq fl fr
     have c1:=af l_k _ (hl p (by omega) 0 (by decide))
     have c2:=af l_k _ (hl q (by omega) 1 (by decide))
     have c3:=af l_k _ (hl q (by omega) 0 (by decide))
     have c4:=af l_k _ (hl p (by omega) 1 (by decide))
     rw[Nat.add_zero] at c1 c3
     have p4':(p:Int)<4:=by omega
     have pq':(p:Int)<q:=by omega
     go_wp2_with fail
     go_quiet (fail)
     go_wp2_with fail
     have hd:=aO (al wr) nq
     replace f_k:=ak hd f_k
     replace l_k:=ak hd l_k
     replace r_k:=ak hd r_k
     replace hbw:=ac hbw hd
     clear c1 c2 c3 c4 hd
     generalize wr.drewN nq=w1 at *
     refine(CA.out _).mono ?_
     rintro _ wz ⟨rfl,hwz⟩
     replace hwz:=hwz.symm
     subst hwz
     go_wp2_with fail
     refine(CB.out _).mono ?_
     rintro _ wz ⟨rfl,hwz⟩
     replace hwz:=hwz.symm
     subst hwz
     have hn:=HN.out.n
     have hst:∀ p x m w,(store p (.float .f64 x) m).run prog w=stored prog w p (.float .f64 x) m:=fun p x m w=>run_store _ w p _ m rfl
     have z1:=ar f_k (12+p*8+q*2)
     have z2:=ar f_k (12+p*8+q*2+1)
     have z3:=ar f_k (12+q*8+p*2)
     have z4:=ar f_k (12+q*8+p*2+1)
     obtain⟨v1,e1⟩:∃ v,arr[12+p*8+q*2]?=some v:=⟨_,Array.getElem?_eq_getElem (by omega)⟩
     obtain⟨v2,e2⟩:∃ v,arr[12+p*8+q*2+1]?=some v:=⟨_,Array.getElem?_eq_getElem (by omega)⟩
     obtain⟨v3,e3⟩:∃ v,arr[12+q*8+p*2]?=some v:=⟨_,Array.getElem?_eq_getElem (by omega)⟩
     obtain⟨v4,e4⟩:∃ v,arr[12+q*8+p*2+1]?=some v:=⟨_,Array.getElem?_eq_getElem (by omega)⟩
     have d1:=af f_k _ e1
     have d2:=af f_k _ e2
     have d3:=af f_k _ e3
     have d4:=af f_k _ e4
     clear e1 e2 e3 e4
     have HN':Hid (ml ((((arr.setIfInBounds (12+p*8+q*2) (.float .f64 (wd (mn u p q)))).setIfInBounds (12+p*8+q*2+1) (.float .f64 (wd (sz u p q)))).setIfInBounds (12+q*8+p*2) (.float .f64 (wd (mn u q p)))).setIfInBounds (12+q*8+p*2+1) (.float .f64 (wd (sz u p q)))) u q (p+1)):=by
      have:=HN.out.step pq q4
      rw[esz.out] at this
      exact this
     have hge:w.heap.size<=fb:=by omega
     have hne:w.heap.size≠fb:=by omega
     have hne1:w.heap.size+1≠fb:=by omega
     go_wp2_with fail
     go_roundw
     case rel=>exact⟨p+1,by omega,by go_num,_,HN',aq (aq (aq (aq f_k _ _) _ _) _ _) _ _,az (az (az (az l_k hne _ _) hne _ _) hne _ _) hne _ _,az (az (az (az r_k hne1 _ _) hne1 _ _) hne1 _ _) hne1 _ _,(((hbw.setCell (p:=⟨fb,_,none⟩) hge _).setCell (p:=⟨fb,_,none⟩) hge _).setCell (p:=⟨fb,_,none⟩) hge _).setCell (p:=⟨fb,_,none⟩) hge _⟩
     case measure=>simp[intOf];omega
    ·obtain rfl:p=q:=by omega
     have HN':Hid (ml arr u (p+1) 0):=⟨HN.out.n,HN.out.o,HN.out.l,fun a b ab b4 hc=>HN.out.m a b ab b4 (by omega)⟩
     go_wp2_with fail
     go_roundw
     case rel=>exact⟨p+1,by omega,by go_num,arr,HN',f_k,l_k,r_k,hbw⟩
     case measure=>simp[intOf];omega
  ·obtain rfl:q=4:=by omega
   have hi:(prog.info? 103).map (·.size)=some arr.size:=by rw[HN.out.n];kernel_rfl
   have h44:(#[.float .f64 0,.float .f64 0,.float .f64 0,.float .f64 0,.float .f64 0,.float .f64 0,.float .f64 0,.float .f64 0,.float .f64 0,.float .f64 0,.float .f64 0,.float .f64 0,.float .f64 0,.float .f64 0,.float .f64 0,.float .f64 0,.float .f64 0,.float .f64 0,.float .f64 0,.float .f64 0,.float .f64 0,.float .f64 0,.float .f64 0,.float .f64 0,.float .f64 0,.float .f64 0,.float .f64 0,.float .f64 0,.float .f64 0,.float .f64 0,.float .f64 0,.float .f64 0,.float .f64 0,.float .f64 0,.float .f64 0,.float .f64 0,.float .f64 0,.float .f64 0,.float .f64 0,.float .f64 0,.float .f64 0,.float .f64 0,.float .f64 0,.float .f64 0]:Array Value).size=arr.size:=HN.out.n.symm
   have ho:=HN.out.o
   repeat (first|(refine wp_load_row 103 _ rfl fb rfl _ _ _ _ f_k underlying103 rfl hi ?_;dsimp only[Act.put])|(refine wp_store_row 103 _ _ rfl (w.heap.size+1) arr rfl rfl _ _ r_k hi h44 ho ?_;dsimp only[Act.put])|go_step)
   have r_k2:=setRow_heap _ _ _ arr _ _ r_k
   exact bodyPost_ret (v:=.agg arr) (results_cell_row results66 _ _ (w.heap.size+1) 103 arr (0,0) _ (by simp) r_k2 underlying103 rfl hi) rfl ⟨_,rfl,HN.out.all,below_setRow hbw (by omega) _⟩
theorem zn (w:World):Calls prog 87 #[.int .i64 0] w fun e w'=>e=.returned (.tuple #[.int .i64 1,.int .i64 2,.int .i64 3])∧w'=w:=by
 go_enter func87,ntmps87
 go_wp2
 exact bodyPost_ret (v:=.tuple #[.int .i64 1,.int .i64 2,.int .i64 3]) (by simp[results,results87,go_sem]) rfl ⟨rfl,rfl⟩
theorem zo (w:World):Calls prog 87 #[.int .i64 1] w fun e w'=>e=.returned (.tuple #[.int .i64 2,.int .i64 3,.int .i64 0])∧w'=w:=by
 go_enter func87,ntmps87
 go_wp2
 exact bodyPost_ret (v:=.tuple #[.int .i64 2,.int .i64 3,.int .i64 0]) (by simp[results,results87,go_sem]) rfl ⟨rfl,rfl⟩
theorem zr (w:World):Calls prog 87 #[.int .i64 2] w fun e w'=>e=.returned (.tuple #[.int .i64 3,.int .i64 0,.int .i64 1])∧w'=w:=by
 go_enter func87,ntmps87
 go_wp2
 exact bodyPost_ret (v:=.tuple #[.int .i64 3,.int .i64 0,.int .i64 1]) (by simp[results,results87,go_sem]) rfl ⟨rfl,rfl⟩
theorem zt (w:World):Calls prog 87 #[.int .i64 3] w fun e w'=>e=.returned (.tuple #[.int .i64 0,.int .i64 1,.int .i64 2])∧w'=w:=by
 go_enter func87,ntmps87
 go_wp2
 exact bodyPost_ret (v:=.tuple #[.int .i64 0,.int .i64 1,.int .i64 2]) (by simp[results,results87,go_sem]) rfl ⟨rfl,rfl⟩
theorem nM {u:Nat->Nat->Int} (hL:Lf u) (w:World) :
  Calls prog 36 #[.agg #[.float .f64 (wd (u 0 0)),.float .f64 (wd (u 0 1)),.float .f64 (wd (u 0 2)),.float .f64 (wd (u 1 0)),.float .f64 (wd (u 1 1)),.float .f64 (wd (u 1 2)),.float .f64 (wd (u 2 0)),.float .f64 (wd (u 2 1)),.float .f64 (wd (u 2 2)),.float .f64 (wd (u 3 0)),.float .f64 (wd (u 3 1)),.float .f64 (wd (u 3 2))]] w fun e w'=>e=.returned (.tuple #[.float .f64 (wd (dt u 0 1 2)),.float .f64 (wd (bW u 0 1 2))])∧Below w.heap.size w w':=by
 have CF:Hid (∀ W,Calls prog 66 #[.agg #[.float .f64 (wd (u 0 0)),.float .f64 (wd (u 0 1)),.float .f64 (wd (u 0 2)),.float .f64 (wd (u 1 0)),.float .f64 (wd (u 1 1)),.float .f64 (wd (u 1 2)),.float .f64 (wd (u 2 0)),.float .f64 (wd (u 2 1)),.float .f64 (wd (u 2 2)),.float .f64 (wd (u 3 0)),.float .f64 (wd (u 3 1)),.float .f64 (wd (u 3 2))]] W fun e w'=>∃ arr,e=.returned (.agg arr)∧gb arr u∧Below W.heap.size W w'):=fun W=>nL hL W
 have CD:Hid (∀ arr g W,gb arr u->W.heap[g]?=some (.cells arr 103 (0,0))->Calls prog 67 #[.pointer (some ⟨g,0,none⟩),.int .i64 0,.int .i64 1,.int .i64 2] W fun e w'=>e=.returned (.float .f64 (wd (dt u 0 1 2)))∧Below W.heap.size W w'):=fun arr g W h k=>ji hL (p:=0) (q:=1) (r:=2) (by decide) (by decide) (by decide) (by decide) (by decide) (by decide) h g W k
 have CS:Hid (∀ arr g W,gb arr u->W.heap[g]?=some (.cells arr 103 (0,0))->Calls prog 68 #[.pointer (some ⟨g,0,none⟩),.int .i64 0,.int .i64 1,.int .i64 2] W fun e w'=>e=.returned (.float .f64 (wd (bW u 0 1 2)))∧Below W.heap.size W w'):=fun arr g W h k=>iw hL (p:=0) (q:=1) (r:=2) (by decide) (by decide) (by decide) (by decide) (by decide) (by decide) h g W k
 clear hL
 have hb0:=ah w (.cells #[.float .f64 (wd (u 0 0)),.float .f64 (wd (u 0 1)),.float .f64 (wd (u 0 2)),.float .f64 (wd (u 1 0)),.float .f64 (wd (u 1 1)),.float .f64 (wd (u 1 2)),.float .f64 (wd (u 2 0)),.float .f64 (wd (u 2 1)),.float .f64 (wd (u 2 2)),.float .f64 (wd (u 3 0)),.float .f64 (wd (u 3 1)),.float .f64 (wd (u 3 2))] 82)
 generalize wd (dt u 0 1 2)=D at *
 generalize wd (bW u 0 1 2)=S at *
 go_enter func36,ntmps36
 go_wp2_with fail
 generalize w.alloc (.cells #[.float .f64 (wd (u 0 0)),.float .f64 (wd (u 0 1)),.float .f64 (wd (u 0 2)),.float .f64 (wd (u 1 0)),.float .f64 (wd (u 1 1)),.float .f64 (wd (u 1 2)),.float .f64 (wd (u 2 0)),.float .f64 (wd (u 2 1)),.float .f64 (wd (u 2 2)),.float .f64 (wd (u 3 0)),.float .f64 (wd (u 3 1)),.float .f64 (wd (u 3 2))] 82)=x0 at hb0 ⊢
 refine(CF.out _).mono ?_
 rintro _ y1 ⟨arr,rfl,hA,hw⟩
 have hi:(prog.info? 103).map (·.size)=some arr.size:=by rw[hA.n];kernel_rfl
 have h44:(#[.float .f64 0,.float .f64 0,.float .f64 0,.float .f64 0,.float .f64 0,.float .f64 0,.float .f64 0,.float .f64 0,.float .f64 0,.float .f64 0,.float .f64 0,.float .f64 0,.float .f64 0,.float .f64 0,.float .f64 0,.float .f64 0,.float .f64 0,.float .f64 0,.float .f64 0,.float .f64 0,.float .f64 0,.float .f64 0,.float .f64 0,.float .f64 0,.float .f64 0,.float .f64 0,.float .f64 0,.float .f64 0,.float .f64 0,.float .f64 0,.float .f64 0,.float .f64 0,.float .f64 0,.float .f64 0,.float .f64 0,.float .f64 0,.float .f64 0,.float .f64 0,.float .f64 0,.float .f64 0,.float .f64 0,.float .f64 0,.float .f64 0,.float .f64 0]:Array Value).size=arr.size:=hA.n.symm
 have ho:=hA.o
 replace hb0:=ac (ac hb0 hw) (ah y1 (.cells arr 103))
 have f_k:=aA y1 (.cells arr 103)
 dsimp only
 repeat (first|(refine wp_store_row 103 _ _ rfl y1.heap.size arr rfl rfl _ _ (aA y1 (.cells #[.float .f64 0,.float .f64 0,.float .f64 0,.float .f64 0,.float .f64 0,.float .f64 0,.float .f64 0,.float .f64 0,.float .f64 0,.float .f64 0,.float .f64 0,.float .f64 0,.float .f64 0,.float .f64 0,.float .f64 0,.float .f64 0,.float .f64 0,.float .f64 0,.float .f64 0,.float .f64 0,.float .f64 0,.float .f64 0,.float .f64 0,.float .f64 0,.float .f64 0,.float .f64 0,.float .f64 0,.float .f64 0,.float .f64 0,.float .f64 0,.float .f64 0,.float .f64 0,.float .f64 0,.float .f64 0,.float .f64 0,.float .f64 0,.float .f64 0,.float .f64 0,.float .f64 0,.float .f64 0,.float .f64 0,.float .f64 0,.float .f64 0,.float .f64 0] 103)) hi h44 ho ?_;rw[World.setRow_alloc_new];dsimp only[Act.put])|go_step)
 generalize y1.alloc (.cells arr 103)=x2 at hb0 f_k ⊢
 generalize y1.heap.size=fb at *
 clear hw ho h44 hi
 refine(CD.out _ _ _ hA f_k).mono ?_
 rintro _ y3 ⟨rfl,hw3⟩
 replace f_k:=ak hw3 f_k
 go_wp2_with fail
 refine(CS.out _ _ _ hA f_k).mono ?_
 rintro _ y4 ⟨rfl,hw4⟩
 go_wp2
 exact bodyPost_ret (v:=.tuple #[.float .f64 D,.float .f64 S]) (by simp[results,results36,go_sem]) rfl ⟨rfl,ac (ac hb0 hw3) hw4⟩
theorem rB {u:Nat->Nat->Int} (hL:Lf u) (w:World) :
  Calls prog 59 #[.agg #[.float .f64 (wd (u 0 0)),.float .f64 (wd (u 0 1)),.float .f64 (wd (u 0 2)),.float .f64 (wd (u 1 0)),.float .f64 (wd (u 1 1)),.float .f64 (wd (u 1 2)),.float .f64 (wd (u 2 0)),.float .f64 (wd (u 2 1)),.float .f64 (wd (u 2 2)),.float .f64 (wd (u 3 0)),.float .f64 (wd (u 3 1)),.float .f64 (wd (u 3 2))]] w fun e w'=>e=.returned (.tuple #[.float .f64 (wd (fD u)),.float .f64 (wd (fS u))])∧Below w.heap.size w w':=by
 have CF:Hid (∀ W,Calls prog 66 #[.agg #[.float .f64 (wd (u 0 0)),.float .f64 (wd (u 0 1)),.float .f64 (wd (u 0 2)),.float .f64 (wd (u 1 0)),.float .f64 (wd (u 1 1)),.float .f64 (wd (u 1 2)),.float .f64 (wd (u 2 0)),.float .f64 (wd (u 2 1)),.float .f64 (wd (u 2 2)),.float .f64 (wd (u 3 0)),.float .f64 (wd (u 3 1)),.float .f64 (wd (u 3 2))]] W fun e w'=>∃ arr,e=.returned (.agg arr)∧gb arr u∧Below W.heap.size W w'):=fun W=>nL hL W
 have CL0:Hid (∀ arr g W,gb arr u->W.heap[g]?=some (.cells arr 103 (0,0))->Calls prog 88 #[.pointer (some ⟨g,0,none⟩),.int .i64 0] W fun e w'=>e=.returned (.float .f64 (wd (lf u 0)))∧Below W.heap.size W w'):=fun arr g W h k=>jE hL (p:=0) (by decide) h g W k
 have CD0:Hid (∀ arr g W,gb arr u->W.heap[g]?=some (.cells arr 103 (0,0))->Calls prog 67 #[.pointer (some ⟨g,0,none⟩),.int .i64 1,.int .i64 2,.int .i64 3] W fun e w'=>e=.returned (.float .f64 (wd (dt u 1 2 3)))∧Below W.heap.size W w'):=fun arr g W h k=>ji hL (p:=1) (q:=2) (r:=3) (by decide) (by decide) (by decide) (by decide) (by decide) (by decide) h g W k
 have CS0:Hid (∀ arr g W,gb arr u->W.heap[g]?=some (.cells arr 103 (0,0))->Calls prog 68 #[.pointer (some ⟨g,0,none⟩),.int .i64 3,.int .i64 1,.int .i64 2] W fun e w'=>e=.returned (.float .f64 (wd (bW u 3 1 2)))∧Below W.heap.size W w'):=fun arr g W h k=>iw hL (p:=3) (q:=1) (r:=2) (by decide) (by decide) (by decide) (by decide) (by decide) (by decide) h g W k
 have CL1:Hid (∀ arr g W,gb arr u->W.heap[g]?=some (.cells arr 103 (0,0))->Calls prog 88 #[.pointer (some ⟨g,0,none⟩),.int .i64 1] W fun e w'=>e=.returned (.float .f64 (wd (lf u 1)))∧Below W.heap.size W w'):=fun arr g W h k=>jE hL (p:=1) (by decide) h g W k
 have CD1:Hid (∀ arr g W,gb arr u->W.heap[g]?=some (.cells arr 103 (0,0))->Calls prog 67 #[.pointer (some ⟨g,0,none⟩),.int .i64 2,.int .i64 3,.int .i64 0] W fun e w'=>e=.returned (.float .f64 (wd (dt u 2 3 0)))∧Below W.heap.size W w'):=fun arr g W h k=>ji hL (p:=2) (q:=3) (r:=0) (by decide) (by decide) (by decide) (by decide) (by decide) (by decide) h g W k
 have CS1:Hid (∀ arr g W,gb arr u->W.heap[g]?=some (.cells arr 103 (0,0))->Calls prog 68 #[.pointer (some ⟨g,0,none⟩),.int .i64 0,.int .i64 2,.int .i64 3] W fun e w'=>e=.returned (.float .f64 (wd (bW u 0 2 3)))∧Below W.heap.size W w'):=fun arr g W h k=>iw hL (p:=0) (q:=2) (r:=3) (by decide) (by decide) (by decide) (by decide) (by decide) (by decide) h g W k
 have CL2:Hid (∀ arr g W,gb arr u->W.heap[g]?=some (.cells arr 103 (0,0))->Calls prog 88 #[.pointer (some ⟨g,0,none⟩),.int .i64 2] W fun e w'=>e=.returned (.float .f64 (wd (lf u 2)))∧Below W.heap.size W w'):=fun arr g W h k=>jE hL (p:=2) (by decide) h g W k
 have CD2:Hid (∀ arr g W,gb arr u->W.heap[g]?=some (.cells arr 103 (0,0))->Calls prog 67 #[.pointer (some ⟨g,0,none⟩),.int .i64 3,.int .i64 0,.int .i64 1] W fun e w'=>e=.returned (.float .f64 (wd (dt u 3 0 1)))∧Below W.heap.size W w'):=fun arr g W h k=>ji hL (p:=3) (q:=0) (r:=1) (by decide) (by decide) (by decide) (by decide) (by decide) (by decide) h g W k
 have CS2:Hid (∀ arr g W,gb arr u->W.heap[g]?=some (.cells arr 103 (0,0))->Calls prog 68 #[.pointer (some ⟨g,0,none⟩),.int .i64 1,.int .i64 3,.int .i64 0] W fun e w'=>e=.returned (.float .f64 (wd (bW u 1 3 0)))∧Below W.heap.size W w'):=fun arr g W h k=>iw hL (p:=1) (q:=3) (r:=0) (by decide) (by decide) (by decide) (by decide) (by decide) (by decide) h g W k
 have CL3:Hid (∀ arr g W,gb arr u->W.heap[g]?=some (.cells arr 103 (0,0))->Calls prog 88 #[.pointer (some ⟨g,0,none⟩),.int .i64 3] W fun e w'=>e=.returned (.float .f64 (wd (lf u 3)))∧Below W.heap.size W w'):=fun arr g W h k=>jE hL (p:=3) (by decide) h g W k
 have CD3:Hid (∀ arr g W,gb arr u->W.heap[g]?=some (.cells arr 103 (0,0))->Calls prog 67 #[.pointer (some ⟨g,0,none⟩),.int .i64 0,.int .i64 1,.int .i64 2] W fun e w'=>e=.returned (.float .f64 (wd (dt u 0 1 2)))∧Below W.heap.size W w'):=fun arr g W h k=>ji hL (p:=0) (q:=1) (r:=2) (by decide) (by decide) (by decide) (by decide) (by decide) (by decide) h g W k
 have CS3:Hid (∀ arr g W,gb arr u->W.heap[g]?=some (.cells arr 103 (0,0))->Calls prog 68 #[.pointer (some ⟨g,0,none⟩),.int .i64 2,.int .i64 0,.int .i64 1] W fun e w'=>e=.returned (.float .f64 (wd (bW u 2 0 1)))∧Below W.heap.size W w'):=fun arr g W h k=>iw hL (p:=2) (q:=0) (r:=1) (by decide) (by decide) (by decide) (by decide) (by decide) (by decide) h g W k
 have fl0:=(iJ (hL.lg (p:=0) (by decide))).1
 have fd0:=(fV (hL.lg (p:=1) (by decide)) (hL.lg (p:=2) (by decide)) (hL.lg (p:=3) (by decide))).1
 have fs0:=(fK (hL.lg (p:=3) (by decide)) (hL.lg (p:=1) (by decide)) (hL.lg (p:=2) (by decide))).1
 have ft0:=(gd (hL.lg (p:=0) (by decide)) (hL.lg (p:=1) (by decide)) (hL.lg (p:=2) (by decide)) (hL.lg (p:=3) (by decide))).1
 have fz0:=(ge (hL.lg (p:=0) (by decide)) (hL.lg (p:=1) (by decide)) (hL.lg (p:=2) (by decide)) (hL.lg (p:=3) (by decide))).1
 have m0:∀ W,(binOp .mul 54 (.float .f64 (wd (lf u 0))) (.float .f64 (wd (dt u 1 2 3)))).run prog W=.ok (.float .f64 (wd (tt u 0 1 2 3))) W:=cT fl0 fd0 ft0.p
 have n0:∀ W,(binOp .mul 54 (.float .f64 (wd (bW u 3 1 2))) (.float .f64 (wd (lf u 0)))).run prog W=.ok (.float .f64 (wd (ts u 0 1 2 3))) W:=cT fs0 fl0 fz0.p
 have fl1:=(iJ (hL.lg (p:=1) (by decide))).1
 have fd1:=(fV (hL.lg (p:=2) (by decide)) (hL.lg (p:=3) (by decide)) (hL.lg (p:=0) (by decide))).1
 have fs1:=(fK (hL.lg (p:=0) (by decide)) (hL.lg (p:=2) (by decide)) (hL.lg (p:=3) (by decide))).1
 have ft1:=(gd (hL.lg (p:=1) (by decide)) (hL.lg (p:=2) (by decide)) (hL.lg (p:=3) (by decide)) (hL.lg (p:=0) (by decide))).1
 have fz1:=(ge (hL.lg (p:=1) (by decide)) (hL.lg (p:=2) (by decide)) (hL.lg (p:=3) (by decide)) (hL.lg (p:=0) (by decide))).1
 have m1:∀ W,(binOp .mul 54 (.float .f64 (wd (lf u 1))) (.float .f64 (wd (dt u 2 3 0)))).run prog W=.ok (.float .f64 (wd (tt u 1 2 3 0))) W:=cT fl1 fd1 ft1.p
 have n1:∀ W,(binOp .mul 54 (.float .f64 (wd (bW u 0 2 3))) (.float .f64 (wd (lf u 1)))).run prog W=.ok (.float .f64 (wd (ts u 1 2 3 0))) W:=cT fs1 fl1 fz1.p
 have fl2:=(iJ (hL.lg (p:=2) (by decide))).1
 have fd2:=(fV (hL.lg (p:=3) (by decide)) (hL.lg (p:=0) (by decide)) (hL.lg (p:=1) (by decide))).1
 have fs2:=(fK (hL.lg (p:=1) (by decide)) (hL.lg (p:=3) (by decide)) (hL.lg (p:=0) (by decide))).1
 have ft2:=(gd (hL.lg (p:=2) (by decide)) (hL.lg (p:=3) (by decide)) (hL.lg (p:=0) (by decide)) (hL.lg (p:=1) (by decide))).1
 have fz2:=(ge (hL.lg (p:=2) (by decide)) (hL.lg (p:=3) (by decide)) (hL.lg (p:=0) (by decide)) (hL.lg (p:=1) (by decide))).1
 have m2:∀ W,(binOp .mul 54 (.float .f64 (wd (lf u 2))) (.float .f64 (wd (dt u 3 0 1)))).run prog W=.ok (.float .f64 (wd (tt u 2 3 0 1))) W:=cT fl2 fd2 ft2.p
 have n2:∀ W,(binOp .mul 54 (.float .f64 (wd (bW u 1 3 0))) (.float .f64 (wd (lf u 2)))).run prog W=.ok (.float .f64 (wd (ts u 2 3 0 1))) W:=cT fs2 fl2 fz2.p
 have fl3:=(iJ (hL.lg (p:=3) (by decide))).1
 have fd3:=(fV (hL.lg (p:=0) (by decide)) (hL.lg (p:=1) (by decide)) (hL.lg (p:=2) (by decide))).1
 have fs3:=(fK (hL.lg (p:=2) (by decide)) (hL.lg (p:=0) (by decide)) (hL.lg (p:=1) (by decide))).1
 have ft3:=(gd (hL.lg (p:=3) (by decide)) (hL.lg (p:=0) (by decide)) (hL.lg (p:=1) (by decide)) (hL.lg (p:=2) (by decide))).1
 have fz3:=(ge (hL.lg (p:=3) (by decide)) (hL.lg (p:=0) (by decide)) (hL.lg (p:=1) (by decide)) (hL.lg (p:=2) (by decide))).1
 have m3:∀ W,(binOp .mul 54 (.float .f64 (wd (lf u 3))) (.float .f64 (wd (dt u 0 1 2)))).run prog W=.ok (.float .f64 (wd (tt u 3 0 1 2))) W:=cT fl3 fd3 ft3.p
 have n3:∀ W,(binOp .mul 54 (.float .f64 (wd (bW u 2 0 1))) (.float .f64 (wd (lf u 3)))).run prog W=.ok (.float .f64 (wd (ts u 3 0 1 2))) W:=cT fs3 fl3 fz3.p
 have hg:∀ p,p<4->Lg (fun p k=>iV (u p k)) u p:=fun p hp=>hL.lg hp
 obtain⟨g0,-⟩:=iR fz0 (by decide)
 obtain⟨g1,-⟩:=g0.sum fz1 (by decide)
 obtain⟨g2,-⟩:=g1.sum (fz2.up (show 1848<=1850 by decide)) (by decide)
 have a0:=et (fv (a:=0) (b:=0)) fz0 g0.p
 have a1:=et g0 fz1 g1.p
 have a2:=et g1 fz2 g2.p
 have a3:∀ W,(binOp .add 54 (.float .f64 (wd (aE (aE (aE 0 (ts u 0 1 2 3)) (ts u 1 2 3 0)) (ts u 2 3 0 1)))) (.float .f64 (wd (ts u 3 0 1 2)))).run prog W=.ok (.float .f64 (wd (fS u))) W:=et g2 fz3 (mb hg).1.p
 rw[yE] at a0
 obtain⟨h1,-⟩:=ft3.sum ft2.neg.1 (by decide)
 obtain⟨h2,-⟩:=ft1.sum ft0.neg.1 (by decide)
 have s1:=jY ft3 ft2 h1.p
 have s2:=jY ft1 ft0 h2.p
 have s3:∀ W,(binOp .add 54 (.float .f64 (wd (aE (tt u 3 0 1 2) (neg (tt u 2 3 0 1))))) (.float .f64 (wd (aE (tt u 1 2 3 0) (neg (tt u 0 1 2 3)))))).run prog W=.ok (.float .f64 (wd (fD u))) W:=et h1 h2 (kI hg).1.p
 clear hg g0 g1 g2 h1 h2
 clear fl0 fd0 fs0 ft0 fz0
 clear fl1 fd1 fs1 ft1 fz1
 clear fl2 fd2 fs2 ft2 fz2
 clear fl3 fd3 fs3 ft3 fz3
 have hb0:=ah w (.cells #[.float .f64 (wd (u 0 0)),.float .f64 (wd (u 0 1)),.float .f64 (wd (u 0 2)),.float .f64 (wd (u 1 0)),.float .f64 (wd (u 1 1)),.float .f64 (wd (u 1 2)),.float .f64 (wd (u 2 0)),.float .f64 (wd (u 2 1)),.float .f64 (wd (u 2 2)),.float .f64 (wd (u 3 0)),.float .f64 (wd (u 3 1)),.float .f64 (wd (u 3 2))] 82)
 clear hL
 generalize wd (fS u)=S4 at *
 generalize wd (fD u)=D at *
 generalize wd (aE (aE (aE 0 (ts u 0 1 2 3)) (ts u 1 2 3 0)) (ts u 2 3 0 1))=S3 at *
 generalize wd (aE (aE 0 (ts u 0 1 2 3)) (ts u 1 2 3 0))=S2 at *
 generalize wd (aE 0 (ts u 0 1 2 3))=S1 at *
 generalize wd (aE (tt u 3 0 1 2) (neg (tt u 2 3 0 1)))=D1 at *
 generalize wd (aE (tt u 1 2 3 0) (neg (tt u 0 1 2 3)))=D2 at *
 generalize wd (tt u 0 1 2 3)=T0 at *
 generalize wd (ts u 0 1 2 3)=Z0 at *
 generalize wd (lf u 0)=L0 at *
 generalize wd (dt u 1 2 3)=E0 at *
 generalize wd (bW u 3 1 2)=X0 at *
 generalize wd (tt u 1 2 3 0)=T1 at *
 generalize wd (ts u 1 2 3 0)=Z1 at *
 generalize wd (lf u 1)=L1 at *
 generalize wd (dt u 2 3 0)=E1 at *
 generalize wd (bW u 0 2 3)=X1 at *
 generalize wd (tt u 2 3 0 1)=T2 at *
 generalize wd (ts u 2 3 0 1)=Z2 at *
 generalize wd (lf u 2)=L2 at *
 generalize wd (dt u 3 0 1)=E2 at *
 generalize wd (bW u 1 3 0)=X2 at *
 generalize wd (tt u 3 0 1 2)=T3 at *
 generalize wd (ts u 3 0 1 2)=Z3 at *
 generalize wd (lf u 3)=L3 at *
 generalize wd (dt u 0 1 2)=E3 at *
 generalize wd (bW u 2 0 1)=X3 at *
 go_enter func59,ntmps59
 go_wp2_with fail
 generalize w.alloc (.cells #[.float .f64 (wd (u 0 0)),.float .f64 (wd (u 0 1)),.float .f64 (wd (u 0 2)),.float .f64 (wd (u 1 0)),.float .f64 (wd (u 1 1)),.float .f64 (wd (u 1 2)),.float .f64 (wd (u 2 0)),.float .f64 (wd (u 2 1)),.float .f64 (wd (u 2 2)),.float .f64 (wd (u 3 0)),.float .f64 (wd (u 3 1)),.float .f64 (wd (u 3 2))] 82)=x0 at hb0 ⊢
 refine(CF.out _).mono ?_
 rintro _ y1 ⟨arr,rfl,hA,hw⟩
 have hi:(prog.info? 103).map (·.size)=some arr.size:=by rw[hA.n];kernel_rfl
 have h44:(#[.float .f64 0,.float .f64 0,.float .f64 0,.float .f64 0,.float .f64 0,.float .f64 0,.float .f64 0,.float .f64 0,.float .f64 0,.float .f64 0,.float .f64 0,.float .f64 0,.float .f64 0,.float .f64 0,.float .f64 0,.float .f64 0,.float .f64 0,.float .f64 0,.float .f64 0,.float .f64 0,.float .f64 0,.float .f64 0,.float .f64 0,.float .f64 0,.float .f64 0,.float .f64 0,.float .f64 0,.float .f64 0,.float .f64 0,.float .f64 0,.float .f64 0,.float .f64 0,.float .f64 0,.float .f64 0,.float .f64 0,.float .f64 0,.float .f64 0,.float .f64 0,.float .f64 0,.float .f64 0,.float .f64 0,.float .f64 0,.float .f64 0,.float .f64 0]:Array Value).size=arr.size:=hA.n.symm
 have ho:=hA.o
 have hB:w.heap.size<=y1.heap.size:=Nat.le_trans hb0.size hw.size
 replace hb0:=ac (ac hb0 hw) (aL y1 (.cells arr 103) (.cells #[.float .f64 0,.float .f64 0,.float .f64 0,.float .f64 0] 123))
 have f_k:=bO y1 (.cells arr 103) (.cells #[.float .f64 0,.float .f64 0,.float .f64 0,.float .f64 0] 123)
 have t_k:=bH y1 (.cells arr 103) (.cells #[.float .f64 0,.float .f64 0,.float .f64 0,.float .f64 0] 123)
 dsimp only
 iterate 5 go_step
 refine wp_store_row 103 _ _ rfl y1.heap.size arr rfl rfl _ _ (aA y1 (.cells #[.float .f64 0,.float .f64 0,.float .f64 0,.float .f64 0,.float .f64 0,.float .f64 0,.float .f64 0,.float .f64 0,.float .f64 0,.float .f64 0,.float .f64 0,.float .f64 0,.float .f64 0,.float .f64 0,.float .f64 0,.float .f64 0,.float .f64 0,.float .f64 0,.float .f64 0,.float .f64 0,.float .f64 0,.float .f64 0,.float .f64 0,.float .f64 0,.float .f64 0,.float .f64 0,.float .f64 0,.float .f64 0,.float .f64 0,.float .f64 0,.float .f64 0,.float .f64 0,.float .f64 0,.float .f64 0,.float .f64 0,.float .f64 0,.float .f64 0,.float .f64 0,.float .f64 0,.float .f64 0,.float .f64 0,.float .f64 0,.float .f64 0,.float .f64 0] 103)) hi h44 ho ?_
 rw[World.setRow_alloc_new]
 dsimp only[Act.put]
 go_wp2_with fail
 have hfb:y1.heap.size≠y1.heap.size+1:=by omega
 have hst:∀ p x m w,(store p (.float .f64 x) m).run prog w=stored prog w p (.float .f64 x) m:=fun p x m w=>run_store _ w p _ m rfl
 generalize (y1.alloc (.cells arr 103)).alloc (.cells #[.float .f64 0,.float .f64 0,.float .f64 0,.float .f64 0] 123)=x2 at hb0 f_k t_k ⊢
 go_loopw [13,3] (fun i x wr=>wr.heap[y1.heap.size]?=some (.cells arr 103 (0,0))∧Below w.heap.size w wr∧((i=.int .i64 0∧x=.float .f64 0∧wr.heap[y1.heap.size+1]?=some (.cells #[.float .f64 0,.float .f64 0,.float .f64 0,.float .f64 0] 123 (0,0)))∨(i=.int .i64 1∧x=.float .f64 S1∧wr.heap[y1.heap.size+1]?=some (.cells #[.float .f64 T0,.float .f64 0,.float .f64 0,.float .f64 0] 123 (0,0)))∨(i=.int .i64 2∧x=.float .f64 S2∧wr.heap[y1.heap.size+1]?=some (.cells #[.float .f64 T0,.float .f64 T1,.float .f64 0,.float .f64 0] 123 (0,0)))∨(i=.int .i64 3∧x=.float .f64 S3∧wr.heap[y1.heap.size+1]?=some (.cells #[.float .f64 T0,.float .f64 T1,.float .f64 T2,.float .f64 0] 123 (0,0)))∨(i=.int .i64 4∧x=.float .f64 S4∧wr.heap[y1.heap.size+1]?=some (.cells #[.float .f64 T0,.float .f64 T1,.float .f64 T2,.float .f64 T3] 123 (0,0))))) (fun i _ _=>4-(intOf i).toNat)
 case atStart=>exact⟨f_k,hb0,.inl ⟨rfl,rfl,t_k⟩⟩
 case round=>
  clear f_k t_k hb0
  obtain⟨f_k,hb0,hrel⟩:=hrel
  have hge:w.heap.size<=y1.heap.size+1:=by omega
  rcases hrel with⟨rfl,rfl,t_k⟩|⟨rfl,rfl,t_k⟩|⟨rfl,rfl,t_k⟩|⟨rfl,rfl,t_k⟩|⟨rfl,rfl,t_k⟩
  ·go_wp2_with fail
   refine(zn _).mono ?_
   rintro _ wz ⟨rfl,hwz⟩
   replace hwz:=hwz.symm
   subst hwz
   go_wp2_with fail
   refine(CL0.out _ _ _ hA f_k).mono ?_
   rintro _ y3 ⟨rfl,hw3⟩
   replace f_k:=ak hw3 f_k
   replace t_k:=ak hw3 t_k
   replace hb0:=ac hb0 hw3
   clear hw3
   go_wp2_with fail
   refine(CD0.out _ _ _ hA f_k).mono ?_
   rintro _ y4 ⟨rfl,hw4⟩
   replace f_k:=ak hw4 f_k
   replace t_k:=ak hw4 t_k
   replace hb0:=ac hb0 hw4
   clear hw4
   have e1:=af t_k 0 rfl
   have e2:=ar t_k 0
   go_wp2_with fail
   clear e1 e2
   replace f_k:=az f_k hfb 0 (.float .f64 T0)
   replace t_k:=aq t_k 0 (.float .f64 T0)
   replace hb0:=hb0.setCell (p:=⟨y1.heap.size+1,0,none⟩) hge (.float .f64 T0)
   change (y4.setCell ⟨y1.heap.size+1,0,none⟩ (.float .f64 T0)).heap[y1.heap.size+1]?=some (.cells #[.float .f64 T0,.float .f64 0,.float .f64 0,.float .f64 0] 123 (0,0)) at t_k
   generalize y4.setCell ⟨y1.heap.size+1,0,none⟩ (.float .f64 T0)=x5 at f_k t_k hb0 ⊢
   refine(CS0.out _ _ _ hA f_k).mono ?_
   rintro _ y6 ⟨rfl,hw6⟩
   replace f_k:=ak hw6 f_k
   replace t_k:=ak hw6 t_k
   replace hb0:=ac hb0 hw6
   clear hw6
   go_wp2_with fail
   go_roundw
   case rel=>exact⟨f_k,hb0,.inr (.inl ⟨by go_num,rfl,t_k⟩)⟩
   case measure=>simp[intOf]
  ·go_wp2_with fail
   refine(zo _).mono ?_
   rintro _ wz ⟨rfl,hwz⟩
   replace hwz:=hwz.symm
   subst hwz
   go_wp2_with fail
   refine(CL1.out _ _ _ hA f_k).mono ?_
   rintro _ y3 ⟨rfl,hw3⟩
   replace f_k:=ak hw3 f_k
   replace t_k:=ak hw3 t_k
   replace hb0:=ac hb0 hw3
   clear hw3
   go_wp2_with fail
   refine(CD1.out _ _ _ hA f_k).mono ?_
   rintro _ y4 ⟨rfl,hw4⟩
   replace f_k:=ak hw4 f_k
   replace t_k:=ak hw4 t_k
   replace hb0:=ac hb0 hw4
   clear hw4
   have e1:=af t_k 1 rfl
   have e2:=ar t_k 1
   go_wp2_with fail
   clear e1 e2
   replace f_k:=az f_k hfb 1 (.float .f64 T1)
   replace t_k:=aq t_k 1 (.float .f64 T1)
   replace hb0:=hb0.setCell (p:=⟨y1.heap.size+1,1,none⟩) hge (.float .f64 T1)
   change (y4.setCell ⟨y1.heap.size+1,1,none⟩ (.float .f64 T1)).heap[y1.heap.size+1]?=some (.cells #[.float .f64 T0,.float .f64 T1,.float .f64 0,.float .f64 0] 123 (0,0)) at t_k
   generalize y4.setCell ⟨y1.heap.size+1,1,none⟩ (.float .f64 T1)=x5 at f_k t_k hb0 ⊢
   refine(CS1.out _ _ _ hA f_k).mono ?_
   rintro _ y6 ⟨rfl,hw6⟩
   replace f_k:=ak hw6 f_k
   replace t_k:=ak hw6 t_k
   replace hb0:=ac hb0 hw6
   clear hw6
   go_wp2_with fail
   go_roundw
   case rel=>exact⟨f_k,hb0,.inr (.inr (.inl ⟨by go_num,rfl,t_k⟩))⟩
   case measure=>simp[intOf]
  ·go_wp2_with fail
   refine(zr _).mono ?_
   rintro _ wz ⟨rfl,hwz⟩
   replace hwz:=hwz.symm
   subst hwz
   go_wp2_with fail
   refine(CL2.out _ _ _ hA f_k).mono ?_
   rintro _ y3 ⟨rfl,hw3⟩
   replace f_k:=ak hw3 f_k
   replace t_k:=ak hw3 t_k
   replace hb0:=ac hb0 hw3
   clear hw3
   go_wp2_with fail
   refine(CD2.out _ _ _ hA f_k).mono ?_
   rintro _ y4 ⟨rfl,hw4⟩
   replace f_k:=ak hw4 f_k
   replace t_k:=ak hw4 t_k
   replace hb0:=ac hb0 hw4
   clear hw4
   have e1:=af t_k 2 rfl
   have e2:=ar t_k 2
   go_wp2_with fail
   clear e1 e2
   replace f_k:=az f_k hfb 2 (.float .f64 T2)
   replace t_k:=aq t_k 2 (.float .f64 T2)
   replace hb0:=hb0.setCell (p:=⟨y1.heap.size+1,2,none⟩) hge (.float .f64 T2)
   change (y4.setCell ⟨y1.heap.size+1,2,none⟩ (.float .f64 T2)).heap[y1.heap.size+1]?=some (.cells #[.float .f64 T0,.float .f64 T1,.float .f64 T2,.float .f64 0] 123 (0,0)) at t_k
   generalize y4.setCell ⟨y1.heap.size+1,2,none⟩ (.float .f64 T2)=x5 at f_k t_k hb0 ⊢
   refine(CS2.out _ _ _ hA f_k).mono ?_
   rintro _ y6 ⟨rfl,hw6⟩
   replace f_k:=ak hw6 f_k
   replace t_k:=ak hw6 t_k
   replace hb0:=ac hb0 hw6
   clear hw6
   go_wp2_with fail
   go_roundw
   case rel=>exact⟨f_k,hb0,.inr (.inr (.inr (.inl ⟨by go_num,rfl,t_k⟩)))⟩
   case measure=>simp[intOf]
  ·go_wp2_with fail
   refine(zt _).mono ?_
   rintro _ wz ⟨rfl,hwz⟩
   replace hwz:=hwz.symm
   subst hwz
   go_wp2_with fail
   refine(CL3.out _ _ _ hA f_k).mono ?_
   rintro _ y3 ⟨rfl,hw3⟩
   replace f_k:=ak hw3 f_k
   replace t_k:=ak hw3 t_k
   replace hb0:=ac hb0 hw3
   clear hw3
   go_wp2_with fail
   refine(CD3.out _ _ _ hA f_k).mono ?_
   rintro _ y4 ⟨rfl,hw4⟩
   replace f_k:=ak hw4 f_k
   replace t_k:=ak hw4 t_k
   replace hb0:=ac hb0 hw4
   clear hw4
   have e1:=af t_k 3 rfl
   have e2:=ar t_k 3
   go_wp2_with fail
   clear e1 e2
   replace f_k:=az f_k hfb 3 (.float .f64 T3)
   replace t_k:=aq t_k 3 (.float .f64 T3)
   replace hb0:=hb0.setCell (p:=⟨y1.heap.size+1,3,none⟩) hge (.float .f64 T3)
   change (y4.setCell ⟨y1.heap.size+1,3,none⟩ (.float .f64 T3)).heap[y1.heap.size+1]?=some (.cells #[.float .f64 T0,.float .f64 T1,.float .f64 T2,.float .f64 T3] 123 (0,0)) at t_k
   generalize y4.setCell ⟨y1.heap.size+1,3,none⟩ (.float .f64 T3)=x5 at f_k t_k hb0 ⊢
   refine(CS3.out _ _ _ hA f_k).mono ?_
   rintro _ y6 ⟨rfl,hw6⟩
   replace f_k:=ak hw6 f_k
   replace t_k:=ak hw6 t_k
   replace hb0:=ac hb0 hw6
   clear hw6
   go_wp2_with fail
   go_roundw
   case rel=>exact⟨f_k,hb0,.inr (.inr (.inr (.inr (⟨by go_num,rfl,t_k⟩))))⟩
   case measure=>simp[intOf]
  ·have e0:=af t_k 0 rfl
   have e1:=af t_k 1 rfl
   have e2:=af t_k 2 rfl
   have e3:=af t_k 3 rfl
   go_wp2
   exact bodyPost_ret (v:=.tuple #[.float .f64 D,.float .f64 S4]) (by simp[results,results59,go_sem]) rfl ⟨rfl,hb0⟩
structure eJ (w:World) (ao:Option Addr) (n cap:Nat) (s:Nat->Nat->Int):Prop where
 le:n<=cap
 max:cap<=9223372036854775807
 spot:0<n->∃ b off,ao=some ⟨b,off,none⟩∧b<w.heap.size∧∀ i,i<n->w.cell? ⟨b,off+i*3,none⟩=some (.int .i64 (s i 0))∧w.cell? ⟨b,off+i*3+1,none⟩=some (.int .i64 (s i 1))∧w.cell? ⟨b,off+i*3+2,none⟩=some (.int .i64 (s i 2))
theorem eJ.keeps {w w':World} {ao:Option Addr} {n cap:Nat} {s:Nat->Nat->Int} (h:eJ w ao n cap s) (hb:Below w.heap.size w w'):eJ w' ao n cap s :=
  ⟨h.le,h.max,fun hn=>by
    obtain⟨b,off,rfl,hlt,hc⟩:=h.spot hn
    exact ⟨b,off,rfl,Nat.lt_of_lt_of_le hlt hb.size,fun i hi=>⟨(hb.cell (p:=⟨b,off+i*3,none⟩) hlt).trans (hc i hi).1,(hb.cell (p:=⟨b,off+i*3+1,none⟩) hlt).trans (hc i hi).2.1,(hb.cell (p:=⟨b,off+i*3+2,none⟩) hlt).trans (hc i hi).2.2⟩⟩⟩
def ce (s:Nat->Nat->Int) (i:Nat):Bool:=aF (s i 0)&&aF (s i 1)&&aF (s i 2)
def dr (s:Nat->Nat->Int) (i:Nat):Bool:=bv (s i 0)&&bv (s i 1)&&bv (s i 2)
theorem gN (x y z:Int) (w:World):Calls prog 71 #[.agg #[.int .i64 x,.int .i64 y,.int .i64 z]] w fun e w'=>e=.returned (.agg #[.int .i64 x,.int .i64 y,.int .i64 z])∧Below w.heap.size w w':=by
 go_enter func71,ntmps71
 go_wp2
 exact bodyPost_ret (v:=.agg #[.int .i64 x,.int .i64 y,.int .i64 z]) (by simp[results,results71,go_sem]) rfl ⟨rfl,aL _ _ _⟩
theorem dF (ao:Option Addr) (n cap:Nat) (s:Nat->Nat->Int) (w:World) (h:eJ w ao n cap s) (hs:∀ i k,ax (s i k)) :
  Calls prog 38 #[.slice ao n cap] w fun x w'=>x=.returned (.bool (br (ce s) n))∧Below w.heap.size w w':=by
 have hl:=h.le
 have hm:=h.max
 have e0:lB true=0:=rfl
 have e1:lB false=10:=rfl
 have CC:Hid (∀ i W,Calls prog 70 #[.agg #[.int .i64 (s i 0),.int .i64 (s i 1),.int .i64 (s i 2)]] W fun e w'=>e=.returned (.int .i64 (lB (ce s i)))∧Below W.heap.size W w'):=fun i W=>nI (hs i 0) (hs i 1) (hs i 2) W
 clear hs
 go_enter func38,ntmps38
 go_wp2_with fail
 go_loopw [7] (fun i wr=>∃ k:Nat,k<=n∧i=.int .i64 k∧Hid (∀ j,j<k->ce s j=true)∧Below w.heap.size w wr) (fun i _=>n-(intOf i).toNat)
 case atStart=>exact⟨0,Nat.zero_le _,rfl,fun j hj=>by omega,al _⟩
 case round=>
  obtain⟨k,hk,rfl,HO,hbw⟩:=hrel
  by_cases hlt:k<n
  ·obtain⟨b,off,rfl,hb,hc⟩:=h.spot (by omega)
   have c0:=(hbw.cell (p:=⟨b,off+k*3,none⟩) hb).trans (hc k hlt).1
   have c1:=(hbw.cell (p:=⟨b,off+k*3+1,none⟩) hb).trans (hc k hlt).2.1
   have c2:=(hbw.cell (p:=⟨b,off+k*3+2,none⟩) hb).trans (hc k hlt).2.2
   have CK:Hid (∀ W,Calls prog 70 #[.agg #[.int .i64 (s k 0),.int .i64 (s k 1),.int .i64 (s k 2)]] W fun e w'=>e=.returned (.int .i64 (lB (ce s k)))∧Below W.heap.size W w'):=CC.out k
   have HK:Hid (∀ q:ce s k=false,false=br (ce s) n):=fun q=>(decide_eq_false fun hx=>by have:=hx k hlt;rw[this] at q;cases q).symm
   have HY:Hid (ce s k=true->∀ j,j<k+1->ce s j=true):=fun q j hj=>by
    by_cases e:j=k
    ·subst e;exact q
    ·exact HO.out j (by omega)
   clear hc
   by_cases hok:ce s k=true
   ·rw[hok,e0] at CK
    replace HY:Hid (∀ j,j<k+1->ce s j=true):=HY.out hok
    clear hok
    go_wp2_with (go_at_call 70;refine(CK.out _).mono ?_;rintro x w1 ⟨rfl,hb1⟩)
    go_roundw
    case rel=>exact⟨k+1,by omega,by go_num,HY,hbw.trans ((ac (ah _ _) hb1).mono hbw.size)⟩
    case measure=>simp[intOf];omega
   ·have hok':ce s k=false:=by simpa using hok
    rw[hok',e1] at CK
    replace HK:Hid (false=br (ce s) n):=HK.out hok'
    clear hok hok' HY
    go_wp2_with (go_at_call 70;refine(CK.out _).mono ?_;rintro x w1 ⟨rfl,hb1⟩)
    go_ret
    exact⟨bt HK.out,hbw.trans ((ac (ah _ _) hb1).mono hbw.size)⟩
  ·obtain rfl:k=n:=by omega
   have HD:Hid (true=br (ce s) k):=(decide_eq_true HO.out).symm
   go_wp2
   go_ret
   exact⟨bt HD.out,hbw⟩
theorem uD {x y z:Int} (hx:ax x) (hy:ax y) (hz:ax z) (w:World) :
  Calls prog 21 #[.agg #[.int .i64 x,.int .i64 y,.int .i64 z]] w fun e w'=>e=.returned (.bool (aF x&&aF y&&aF z))∧Below w.heap.size w w':=by
 cases h1:aF x<;>cases h2:aF y<;>cases h3:aF z
 all_goals
  go_enter func21,ntmps21
  go_wp2_with fail
  refine(ow hx _).mono ?_
  rintro _ _ ⟨rfl,rfl⟩
  go_wp2_with fail
  refine(ow hy _).mono ?_
  rintro _ _ ⟨rfl,rfl⟩
  go_wp2_with fail
  refine(ow hz _).mono ?_
  rintro _ _ ⟨rfl,rfl⟩
  go_wp2
  go_ret
  exact⟨rfl,ah _ _⟩
theorem iK (ao:Option Addr) (n cap:Nat) (s:Nat->Nat->Int) (w:World) (h:eJ w ao n cap s) (hs:∀ i k,ax (s i k)) :
  Calls prog 9 #[.slice ao n cap] w fun x w'=>x=.returned (.bool (br (ce s) n))∧Below w.heap.size w w':=by
 have hl:=h.le
 have hm:=h.max
 have CC:Hid (∀ i W,Calls prog 21 #[.agg #[.int .i64 (s i 0),.int .i64 (s i 1),.int .i64 (s i 2)]] W fun e w'=>e=.returned (.bool (ce s i))∧Below W.heap.size W w'):=fun i W=>uD (hs i 0) (hs i 1) (hs i 2) W
 clear hs
 go_enter func9,ntmps9
 go_wp2_with fail
 go_loopw [3] (fun i wr=>∃ k:Nat,k<=n∧i=.int .i64 k∧Hid (∀ j,j<k->ce s j=true)∧Below w.heap.size w wr) (fun i _=>n-(intOf i).toNat)
 case atStart=>exact⟨0,Nat.zero_le _,rfl,fun j hj=>by omega,al _⟩
 case round=>
  obtain⟨k,hk,rfl,HO,hbw⟩:=hrel
  by_cases hlt:k<n
  ·obtain⟨b,off,rfl,hb,hc⟩:=h.spot (by omega)
   have c0:=(hbw.cell (p:=⟨b,off+k*3,none⟩) hb).trans (hc k hlt).1
   have c1:=(hbw.cell (p:=⟨b,off+k*3+1,none⟩) hb).trans (hc k hlt).2.1
   have c2:=(hbw.cell (p:=⟨b,off+k*3+2,none⟩) hb).trans (hc k hlt).2.2
   have CK:Hid (∀ W,Calls prog 21 #[.agg #[.int .i64 (s k 0),.int .i64 (s k 1),.int .i64 (s k 2)]] W fun e w'=>e=.returned (.bool (ce s k))∧Below W.heap.size W w'):=CC.out k
   have HK:Hid (∀ q:ce s k=false,false=br (ce s) n):=fun q=>(decide_eq_false fun hx=>by have:=hx k hlt;rw[this] at q;cases q).symm
   have HY:Hid (ce s k=true->∀ j,j<k+1->ce s j=true):=fun q j hj=>by
    by_cases e:j=k
    ·subst e;exact q
    ·exact HO.out j (by omega)
   clear hc
   by_cases hok:ce s k=true
   ·rw[hok] at CK
    replace HY:Hid (∀ j,j<k+1->ce s j=true):=HY.out hok
    clear hok
    go_wp2_with (go_at_call 21;refine(CK.out _).mono ?_;rintro x w1 ⟨rfl,hb1⟩)
    go_roundw
    case rel=>exact⟨k+1,by omega,by go_num,HY,hbw.trans (hb1.mono hbw.size)⟩
    case measure=>simp[intOf];omega
   ·have hok':ce s k=false:=by simpa using hok
    rw[hok'] at CK
    replace HK:Hid (false=br (ce s) n):=HK.out hok'
    clear hok hok' HY
    go_wp2_with (go_at_call 21;refine(CK.out _).mono ?_;rintro x w1 ⟨rfl,hb1⟩)
    go_ret
    exact⟨bt HK.out,hbw.trans (hb1.mono hbw.size)⟩
  ·obtain rfl:k=n:=by omega
   have HD:Hid (true=br (ce s) k):=(decide_eq_true HO.out).symm
   go_wp2
   go_ret
   exact⟨bt HD.out,hbw⟩
theorem gB (ao:Option Addr) (n cap:Nat) (s:Nat->Nat->Int) (w:World) (h:eJ w ao n cap s) (hs:∀ i k,ax (s i k)) :
  Calls prog 39 #[.slice ao n cap] w fun x w'=>x=.returned (.bool (br (dr s) n))∧Below w.heap.size w w':=by
 have hl:=h.le
 have hm:=h.max
 have CT:Hid (∀ i k W,Calls prog 72 #[.int .i64 (s i k)] W fun e w'=>e=.returned (.bool (bv (s i k)))∧w'=W):=fun i k W=>ww (hs i k) W
 clear hs
 go_enter func39,ntmps39
 go_wp2_with fail
 go_loopw [9] (fun i wr=>∃ k:Nat,k<=n∧i=.int .i64 k∧Hid (∀ j,j<k->dr s j=true)∧Below w.heap.size w wr) (fun i _=>n-(intOf i).toNat)
 case atStart=>exact⟨0,Nat.zero_le _,rfl,fun j hj=>by omega,al _⟩
 case round=>
  obtain⟨k,hk,rfl,HO,hbw⟩:=hrel
  by_cases hlt:k<n
  ·obtain⟨b,off,rfl,hb,hc⟩:=h.spot (by omega)
   have c0:=(hbw.cell (p:=⟨b,off+k*3,none⟩) hb).trans (hc k hlt).1
   have c1:=(hbw.cell (p:=⟨b,off+k*3+1,none⟩) hb).trans (hc k hlt).2.1
   have c2:=(hbw.cell (p:=⟨b,off+k*3+2,none⟩) hb).trans (hc k hlt).2.2
   have C0:Hid (∀ W,Calls prog 72 #[.int .i64 (s k 0)] W fun e w'=>e=.returned (.bool (bv (s k 0)))∧w'=W):=CT.out k 0
   have C1:Hid (∀ W,Calls prog 72 #[.int .i64 (s k 1)] W fun e w'=>e=.returned (.bool (bv (s k 1)))∧w'=W):=CT.out k 1
   have C2:Hid (∀ W,Calls prog 72 #[.int .i64 (s k 2)] W fun e w'=>e=.returned (.bool (bv (s k 2)))∧w'=W):=CT.out k 2
   have HK:Hid (∀ q:dr s k=false,false=br (dr s) n):=fun q=>(decide_eq_false fun hx=>by have:=hx k hlt;rw[this] at q;cases q).symm
   have HY:Hid (dr s k=true->∀ j,j<k+1->dr s j=true):=fun q j hj=>by
    by_cases e:j=k
    ·subst e;exact q
    ·exact HO.out j (by omega)
   have HX:Hid (dr s k=(bv (s k 0)&&bv (s k 1)&&bv (s k 2))):=rfl
   clear hc
   generalize s k 0=x0 at *
   generalize s k 1=x1 at *
   generalize s k 2=x2 at *
   have i0:∀ w,(Instr.index 69 (.agg #[.int .i64 x0,.int .i64 x1,.int .i64 x2]) (.int .i64 0)).run prog w=.ok (.int .i64 x0) w:=fun _=>by kernel_rfl
   have i1:∀ w,(Instr.index 69 (.agg #[.int .i64 x0,.int .i64 x1,.int .i64 x2]) (.int .i64 1)).run prog w=.ok (.int .i64 x1) w:=fun _=>by kernel_rfl
   have i2:∀ w,(Instr.index 69 (.agg #[.int .i64 x0,.int .i64 x1,.int .i64 x2]) (.int .i64 2)).run prog w=.ok (.int .i64 x2) w:=fun _=>by kernel_rfl
   go_wp2_with fail
   refine(gN _ _ _ _).mono ?_
   rintro _ y1 ⟨rfl,hy1⟩
   replace hbw:=hbw.trans ((ac (ah _ _) hy1).mono hbw.size)
   clear c0 c1 c2 hy1
   go_wp2_with fail
   go_loopw [15] (fun i wr=>Hid (wr=y1)∧(i=.int .i64 0∨(i=.int .i64 1∧bv x0=true)∨(i=.int .i64 2∧bv x0=true∧bv x1=true)∨(i=.int .i64 3∧bv x0=true∧bv x1=true∧bv x2=true))) (fun i _=>3-(intOf i).toNat)
   case atStart=>exact⟨rfl,.inl rfl⟩
   case round=>
    obtain⟨HW,hrel⟩:=hrel
    obtain rfl:=HW.out
    rcases hrel with rfl|⟨rfl,t0⟩|⟨rfl,t0,t1⟩|⟨rfl,t0,t1,t2⟩
    ·cases hp:bv x0
     ·rw[hp] at C0
      replace HK:Hid (false=br (dr s) n):=HK.out (by rw[HX.out,hp];rfl)
      go_wp2_with fail
      refine(C0.out _).mono ?_
      rintro _ wz ⟨rfl,hwz⟩
      replace hwz:=hwz.symm
      subst hwz
      go_wp2
      go_ret
      exact⟨bt HK.out,hbw⟩
     ·have hp':Hid (bv x0=true):=hp
      rw[hp] at C0
      clear hp
      go_wp2_with fail
      refine(C0.out _).mono ?_
      rintro _ wz ⟨rfl,hwz⟩
      replace hwz:=hwz.symm
      subst hwz
      go_wp2
      go_roundw
      case rel=>exact⟨eG trivial,.inr (.inl ⟨by go_num,trivial⟩)⟩
      case measure=>simp[intOf]
    ·have t0:Hid (bv x0=true):=t0
     cases hp:bv x1
     ·rw[hp] at C1
      replace HK:Hid (false=br (dr s) n):=HK.out (by rw[HX.out,hp,t0.out];rfl)
      go_wp2_with fail
      refine(C1.out _).mono ?_
      rintro _ wz ⟨rfl,hwz⟩
      replace hwz:=hwz.symm
      subst hwz
      go_wp2
      go_ret
      exact⟨bt HK.out,hbw⟩
     ·have hp':Hid (bv x1=true):=hp
      rw[hp] at C1
      clear hp
      go_wp2_with fail
      refine(C1.out _).mono ?_
      rintro _ wz ⟨rfl,hwz⟩
      replace hwz:=hwz.symm
      subst hwz
      go_wp2
      go_roundw
      case rel=>exact⟨eG trivial,.inr (.inr (.inl ⟨by go_num,t0.out,trivial⟩))⟩
      case measure=>simp[intOf]
    ·have t0:Hid (bv x0=true∧bv x1=true):=⟨t0,t1⟩
     clear t1
     cases hp:bv x2
     ·rw[hp] at C2
      replace HK:Hid (false=br (dr s) n):=HK.out (by rw[HX.out,hp,t0.out.1,t0.out.2];rfl)
      go_wp2_with fail
      refine(C2.out _).mono ?_
      rintro _ wz ⟨rfl,hwz⟩
      replace hwz:=hwz.symm
      subst hwz
      go_wp2
      go_ret
      exact⟨bt HK.out,hbw⟩
     ·have hp':Hid (bv x2=true):=hp
      rw[hp] at C2
      clear hp
      go_wp2_with fail
      refine(C2.out _).mono ?_
      rintro _ wz ⟨rfl,hwz⟩
      replace hwz:=hwz.symm
      subst hwz
      go_wp2
      go_roundw
      case rel=>exact⟨eG trivial,.inr (.inr (.inr ⟨by go_num,t0.out.1,t0.out.2,trivial⟩))⟩
      case measure=>simp[intOf]
    ·replace HY:Hid (∀ j,j<k+1->dr s j=true):=HY.out (by rw[HX.out,t0,t1,t2];rfl)
     clear t0 t1 t2
     go_wp2
     go_roundw
     case rel=>exact⟨k+1,by omega,by go_num,HY,hbw⟩
     case measure=>simp[intOf];omega
  ·obtain rfl:k=n:=by omega
   have HD:Hid (true=br (dr s) k):=(decide_eq_true HO.out).symm
   go_wp2
   go_ret
   exact⟨bt HD.out,hbw⟩
structure jj (arr:Array Value) (u:Nat->Nat->Int) (I J:Nat):Prop where
 n:arr.size=12
 e:∀ p,p<4->∀ k,k<3->arr[p*3+k]?=some (.float .f64 (wd (if p<I∨(p=I∧k<J) then u p k else 0)))
theorem ka {W:World} {p:Addr} {v:Value} (h:W.cell? p=some v) {g:Nat} (hg:p.block≠g) (o:Nat) (x:Value):(W.setCell ⟨g,o,none⟩ x).cell? p=some v:=by
 rw[World.cell?_setCell_far _ _ _ _ (Ne.symm hg)]
 exact h
theorem jj.step {arr:Array Value} {u:Nat->Nat->Int} {i j:Nat} (h:jj arr u i j) (i4:i<4) (j3:j<3):jj (arr.setIfInBounds (i*3+j) (.float .f64 (wd (u i j)))) u i (j+1):=by
 have hn:=h.n
 refine⟨by simp only[Array.size_setIfInBounds];exact hn,fun p hp k hk=>?_⟩
 rw[eT _ _ _ _ (by omega)]
 by_cases e:p=i∧k=j
 ·obtain⟨rfl,rfl⟩:=e
  rw[if_pos rfl,if_pos (.inr ⟨rfl,by omega⟩)]
 ·rw[if_neg (by omega),h.e p hp k hk]
  by_cases c:p<i∨(p=i∧k<j)
  ·rw[if_pos c,if_pos (by omega)]
  ·rw[if_neg c,if_neg (by omega)]
theorem jj.roll {arr:Array Value} {u:Nat->Nat->Int} {i:Nat} (h:jj arr u i 3):jj arr u (i+1) 0:=by
 refine⟨h.n,fun p hp k hk=>?_⟩
 rw[h.e p hp k hk]
 by_cases c:p<i∨(p=i∧k<3)
 ·rw[if_pos c,if_pos (by omega)]
 ·rw[if_neg c,if_neg (by omega)]
def uL (s:Nat->Nat->Int) (m p k:Nat):Int:=if p<m then aE (s p k) (neg (s m k)) else 0
theorem Df {arr:Array Value} {u:Nat->Nat->Int} (hn:arr.size=12) (h:∀ p,p<4->∀ k,k<3->arr[p*3+k]?=some (.float .f64 (wd (u p k)))):arr=#[.float .f64 (wd (u 0 0)),.float .f64 (wd (u 0 1)),.float .f64 (wd (u 0 2)),.float .f64 (wd (u 1 0)),.float .f64 (wd (u 1 1)),.float .f64 (wd (u 1 2)),.float .f64 (wd (u 2 0)),.float .f64 (wd (u 2 1)),.float .f64 (wd (u 2 2)),.float .f64 (wd (u 3 0)),.float .f64 (wd (u 3 1)),.float .f64 (wd (u 3 2))]:=by
 apply Array.ext_getElem?
 intro i
 by_cases hi:i<12
 ·have e:i=i/3*3+i % 3:=by omega
  rw[e,h (i/3) (by omega) (i % 3) (by omega),wP u (i/3) (by omega) (i % 3) (by omega)]
 ·rw[Array.getElem?_eq_none (by omega),Array.getElem?_eq_none (by show 12<=i;omega)]
theorem jj.all {arr:Array Value} {s:Nat->Nat->Int} {m:Nat} (h:jj arr (fun p k=>aE (s p k) (neg (s m k))) m 0) (u:Nat->Nat->Int) (hu:u=uL s m):arr=#[.float .f64 (wd (u 0 0)),.float .f64 (wd (u 0 1)),.float .f64 (wd (u 0 2)),.float .f64 (wd (u 1 0)),.float .f64 (wd (u 1 1)),.float .f64 (wd (u 1 2)),.float .f64 (wd (u 2 0)),.float .f64 (wd (u 2 1)),.float .f64 (wd (u 2 2)),.float .f64 (wd (u 3 0)),.float .f64 (wd (u 3 1)),.float .f64 (wd (u 3 2))]:=by
 subst hu
 refine Df h.n fun p hp k hk=>?_
 rw[h.e p hp k hk]
 unfold uL
 by_cases c:p<m
 ·rw[if_pos (.inl c),if_pos c]
 ·rw[if_neg (by omega),if_neg c]
theorem qd {s:Nat->Nat->Int} {m:Nat} (hz:∀ i,i<=m->∀ k,k<3->Mz (s i k)):Lf (uL s m):=fun p hp k hk=>by
 unfold uL
 by_cases c:p<m
 ·rw[if_pos c]
  exact((hz p (by omega) k hk).diff (hz m (by omega) k hk)).1
 ·rw[if_neg c]
  exact fv
theorem iL (ao:Option Addr) (n m cap:Nat) (s:Nat->Nat->Int) (w:World) (h:eJ w ao n cap s) (hn:n=m+1) (m4:m<=4) (hz:∀ i,i<=m->∀ k,k<3->Mz (s i k)) (u:Nat->Nat->Int) (hu:u=uL s m) :
    Calls prog 41 #[.slice ao n cap,.func (.func 42) #[] #[]] w fun e w'=>e=.returned (.agg #[.float .f64 (wd (u 0 0)),.float .f64 (wd (u 0 1)),.float .f64 (wd (u 0 2)),.float .f64 (wd (u 1 0)),.float .f64 (wd (u 1 1)),.float .f64 (wd (u 1 2)),.float .f64 (wd (u 2 0)),.float .f64 (wd (u 2 1)),.float .f64 (wd (u 2 2)),.float .f64 (wd (u 3 0)),.float .f64 (wd (u 3 1)),.float .f64 (wd (u 3 2))])∧Below w.heap.size w w':=by
  have hl:=h.le
  have hm:=h.max
  have en:(n:Int)-1=m:=by omega
  have CN:Hid (∀ i k W,i<=m->k<3->Calls prog 42 #[.int .i64 (s i k),.int .i64 (s m k)] W fun r w'=>r=.returned (.float .f64 (wd (aE (s i k) (neg (s m k)))))∧Below W.heap.size W w'):=fun i k W hi hk=>(Da (hz i hi k hk) (hz m (Nat.le_refl _) k hk) W).mono fun _ _ hh=>⟨hh.1,by rw[hh.2];exact al _⟩
  have HU:Hid (u=uL s m):=hu
  clear hu hz
  obtain⟨b,off,rfl,hb,hc⟩:=h.spot (by omega)
  have l0:=(hc m (by omega)).1
  have l1:=(hc m (by omega)).2.1
  have l2:=(hc m (by omega)).2.2
  have hn':(m:Int)<n:=by omega
  have hb0:=aL w (.cells #[.float .f64 0,.float .f64 0,.float .f64 0,.float .f64 0,.float .f64 0,.float .f64 0,.float .f64 0,.float .f64 0,.float .f64 0,.float .f64 0,.float .f64 0,.float .f64 0] 82) (.cells #[.float .f64 0,.float .f64 0,.float .f64 0,.float .f64 0,.float .f64 0,.float .f64 0,.float .f64 0,.float .f64 0,.float .f64 0,.float .f64 0,.float .f64 0,.float .f64 0] 82)
  have r_k:=bO w (.cells #[.float .f64 0,.float .f64 0,.float .f64 0,.float .f64 0,.float .f64 0,.float .f64 0,.float .f64 0,.float .f64 0,.float .f64 0,.float .f64 0,.float .f64 0,.float .f64 0] 82) (.cells #[.float .f64 0,.float .f64 0,.float .f64 0,.float .f64 0,.float .f64 0,.float .f64 0,.float .f64 0,.float .f64 0,.float .f64 0,.float .f64 0,.float .f64 0,.float .f64 0] 82)
  have l_k:=bH w (.cells #[.float .f64 0,.float .f64 0,.float .f64 0,.float .f64 0,.float .f64 0,.float .f64 0,.float .f64 0,.float .f64 0,.float .f64 0,.float .f64 0,.float .f64 0,.float .f64 0] 82) (.cells #[.float .f64 0,.float .f64 0,.float .f64 0,.float .f64 0,.float .f64 0,.float .f64 0,.float .f64 0,.float .f64 0,.float .f64 0,.float .f64 0,.float .f64 0,.float .f64 0] 82)
  have HN:jj #[.float .f64 0,.float .f64 0,.float .f64 0,.float .f64 0,.float .f64 0,.float .f64 0,.float .f64 0,.float .f64 0,.float .f64 0,.float .f64 0,.float .f64 0,.float .f64 0] (fun p k=>aE (s p k) (neg (s m k))) 0 0:=⟨rfl,fun p hp k hk=>by
    rw[if_neg (by omega),yE]
    match p,hp,k,hk with
    | 0,_,0,_=>rfl
    | 0,_,1,_=>rfl
    | 0,_,2,_=>rfl
    | 1,_,0,_=>rfl
    | 1,_,1,_=>rfl
    | 1,_,2,_=>rfl
    | 2,_,0,_=>rfl
    | 2,_,1,_=>rfl
    | 2,_,2,_=>rfl
    | 3,_,0,_=>rfl
    | 3,_,1,_=>rfl
    | 3,_,2,_=>rfl⟩
  go_enter func41,ntmps41
  replace l0:=aX l0 hb0
  replace l1:=aX l1 hb0
  replace l2:=aX l2 hb0
  go_wp2_with fail
  clear l0 l1 l2
  generalize (w.alloc (.cells #[.float .f64 0,.float .f64 0,.float .f64 0,.float .f64 0,.float .f64 0,.float .f64 0,.float .f64 0,.float .f64 0,.float .f64 0,.float .f64 0,.float .f64 0,.float .f64 0] 82)).alloc (.cells #[.float .f64 0,.float .f64 0,.float .f64 0,.float .f64 0,.float .f64 0,.float .f64 0,.float .f64 0,.float .f64 0,.float .f64 0,.float .f64 0,.float .f64 0,.float .f64 0] 82)=x0 at hb0 r_k l_k ⊢
  have hsz:w.heap.size+1<x0.heap.size:=(aGe l_k).1
  refine(gN _ _ _ _).mono ?_
  rintro _ y1 ⟨rfl,hw1⟩
  have hsz1:w.heap.size+1<y1.heap.size:=Nat.lt_of_lt_of_le hsz hw1.size
  replace r_k:=ap (.cells #[.int .i64 (s m 0),.int .i64 (s m 1),.int .i64 (s m 2)] 69) (ak hw1 r_k)
  replace l_k:=ap (.cells #[.int .i64 (s m 0),.int .i64 (s m 1),.int .i64 (s m 2)] 69) (ak hw1 l_k)
  have f_k:=aA y1 (.cells #[.int .i64 (s m 0),.int .i64 (s m 1),.int .i64 (s m 2)] 69)
  replace hb0:=ac (ac hb0 hw1) (ah y1 (.cells #[.int .i64 (s m 0),.int .i64 (s m 1),.int .i64 (s m 2)] 69))
  clear hw1 hsz
  go_wp2_with fail
  generalize y1.alloc (.cells #[.int .i64 (s m 0),.int .i64 (s m 1),.int .i64 (s m 2)] 69)=x2 at hb0 r_k l_k f_k ⊢
  generalize y1.heap.size=fr at *
  generalize (#[.float .f64 0,.float .f64 0,.float .f64 0,.float .f64 0,.float .f64 0,.float .f64 0,.float .f64 0,.float .f64 0,.float .f64 0,.float .f64 0,.float .f64 0,.float .f64 0]:Array Value)=z12 at HN l_k
  go_loopw [20] (fun i wr=>∃ p:Nat,p<=m∧i=.int .i64 p∧∃ arr,Hid (jj arr (fun p k=>aE (s p k) (neg (s m k))) p 0)∧wr.heap[w.heap.size+1]?=some (.cells arr 82 (0,0))∧wr.heap[w.heap.size]?=some (.cells #[.float .f64 0,.float .f64 0,.float .f64 0,.float .f64 0,.float .f64 0,.float .f64 0,.float .f64 0,.float .f64 0,.float .f64 0,.float .f64 0,.float .f64 0,.float .f64 0] 82 (0,0))∧wr.heap[fr]?=some (.cells #[.int .i64 (s m 0),.int .i64 (s m 1),.int .i64 (s m 2)] 69 (0,0))∧Below w.heap.size w wr) (fun i _=>m-(intOf i).toNat)
  case atStart=>exact⟨0,by omega,rfl,z12,HN,l_k,r_k,f_k,hb0⟩
  case round=>
    clear l_k r_k f_k hb0 HN
    obtain⟨p,hp,rfl,arr,HN,l_k,r_k,f_k,hbw⟩:=hrel
    by_cases pm:p<m
    · have c0:=(hbw.cell (p:=⟨b,off+p*3,none⟩) hb).trans (hc p (by omega)).1
      have c1:=(hbw.cell (p:=⟨b,off+p*3+1,none⟩) hb).trans (hc p (by omega)).2.1
      have c2:=(hbw.cell (p:=⟨b,off+p*3+2,none⟩) hb).trans (hc p (by omega)).2.2
      have pm':(p:Int)<m:=by omega
      have pn':(p:Int)<n:=by omega
      have C0:Hid (∀ W,Calls prog 42 #[.int .i64 (s p 0),.int .i64 (s m 0)] W fun r w'=>r=.returned (.float .f64 (wd (aE (s p 0) (neg (s m 0)))))∧Below W.heap.size W w'):=fun W=>CN.out p 0 W hp (by decide)
      have C1:Hid (∀ W,Calls prog 42 #[.int .i64 (s p 1),.int .i64 (s m 1)] W fun r w'=>r=.returned (.float .f64 (wd (aE (s p 1) (neg (s m 1)))))∧Below W.heap.size W w'):=fun W=>CN.out p 1 W hp (by decide)
      have C2:Hid (∀ W,Calls prog 42 #[.int .i64 (s p 2),.int .i64 (s m 2)] W fun r w'=>r=.returned (.float .f64 (wd (aE (s p 2) (neg (s m 2)))))∧Below W.heap.size W w'):=fun W=>CN.out p 2 W hp (by decide)
      have p4:Hid (p<4):=by exact(show p<4 by omega)
      have p4':(p:Int)<4:=by omega
      go_wp2_with fail
      clear c0 c1 c2
      refine(gN _ _ _ _).mono ?_
      rintro _ y3 ⟨rfl,hw3⟩
      replace r_k:=ak hw3 r_k
      replace l_k:=ak hw3 l_k
      replace f_k:=ak hw3 f_k
      replace hbw:=ac hbw hw3
      clear hw3
      go_wp2_with fail
      go_loopw [28] (fun i wr=>∃ j:Nat,j<=3∧i=.int .i64 j∧∃ arr,Hid (jj arr (fun p k=>aE (s p k) (neg (s m k))) p j)∧wr.heap[w.heap.size+1]?=some (.cells arr 82 (0,0))∧wr.heap[w.heap.size]?=some (.cells #[.float .f64 0,.float .f64 0,.float .f64 0,.float .f64 0,.float .f64 0,.float .f64 0,.float .f64 0,.float .f64 0,.float .f64 0,.float .f64 0,.float .f64 0,.float .f64 0] 82 (0,0))∧wr.heap[fr]?=some (.cells #[.int .i64 (s m 0),.int .i64 (s m 1),.int .i64 (s m 2)] 69 (0,0))∧Below w.heap.size w wr) (fun i _=>3-(intOf i).toNat)
      case atStart=>exact⟨0,by omega,rfl,arr,HN,l_k,r_k,f_k,hbw⟩
      case round=>
        clear l_k r_k f_k hbw HN
        obtain⟨j,hj,rfl,arr,HN,l_k,r_k,f_k,hbw⟩:=hrel
        have j4:j=0∨j=1∨j=2∨j=3:=by omega
        rcases j4 with rfl|rfl|rfl|rfl
        · have HN':Hid (jj (arr.setIfInBounds (p*3) (.float .f64 (wd (aE (s p 0) (neg (s m 0)))))) (fun p k=>aE (s p k) (neg (s m k))) p (0+1)):=HN.out.step p4.out (by decide)
          obtain⟨v,ev⟩:∃ v,arr[p*3]?=some v:=⟨_,Array.getElem?_eq_getElem (by rw[HN.out.n];have:=p4.out;omega)⟩
          have i0:∀ w,(Instr.index 69 (.agg #[.int .i64 (s p 0),.int .i64 (s p 1),.int .i64 (s p 2)]) (.int .i64 0)).run prog w=.ok (.int .i64 (s p 0)) w:=fun _=>by kernel_rfl
          go_wp2_with fail
          have KK:∀ W,Below wr.heap.size wr W->W.cell? ⟨fr,0,none⟩=some (.int .i64 (s m 0))∧W.cell? ⟨w.heap.size+1,p*3,none⟩=some v∧W.frozen? ⟨w.heap.size+1,p*3,none⟩=false:=fun W hb=>⟨aj (af f_k 0 rfl) hb,aj (af l_k _ ev) hb,ar (ak hb l_k) _⟩
          have hst:∀ p x m w,(store p (.float .f64 x) m).run prog w=stored prog w p (.float .f64 x) m:=fun p x m w=>run_store _ w p _ m rfl
          have hC0:=(al wr).drew
          have hne:fr≠w.heap.size+1:=by omega
          go_region_held3 (fun W=>W.cell? ⟨fr,0,none⟩=some (.int .i64 (s m 0)))
            (with_reducible first|assumption|exact(KK _ hC0).1|exact(KK _ hC1).1|exact ka (KK _ hC1).1 hne _ _|fail)
            (first|(go_at_call 42;refine(C0.out _).mono ?_;rintro _ y5 ⟨rfl,hq⟩;have hC1:=ac hC0 hq;have e1:=(KK _ hC1).2.1;have e2:=(KK _ hC1).2.2))
          replace f_k:=az (ak hC1 f_k) hne (p*3) (.float .f64 (wd (aE (s p 0) (neg (s m 0)))))
          replace r_k:=az (ak hC1 r_k) (show w.heap.size≠w.heap.size+1 by omega) (p*3) (.float .f64 (wd (aE (s p 0) (neg (s m 0)))))
          replace l_k:=aq (ak hC1 l_k) (p*3) (.float .f64 (wd (aE (s p 0) (neg (s m 0)))))
          replace hbw:=(ac hbw hC1).setCell (p:=⟨w.heap.size+1,p*3,none⟩) (show w.heap.size<=w.heap.size+1 by omega) (.float .f64 (wd (aE (s p 0) (neg (s m 0)))))
          clear hC0 hC1 hq e1 e2 KK ev hst
          go_wp2_with fail
          go_roundw
          case rel=>exact⟨0+1,by omega,by go_num,_,HN',l_k,r_k,f_k,hbw⟩
          case measure=>simp[intOf]
        · have HN':Hid (jj (arr.setIfInBounds (p*3+1) (.float .f64 (wd (aE (s p 1) (neg (s m 1)))))) (fun p k=>aE (s p k) (neg (s m k))) p (1+1)):=HN.out.step p4.out (by decide)
          obtain⟨v,ev⟩:∃ v,arr[p*3+1]?=some v:=⟨_,Array.getElem?_eq_getElem (by rw[HN.out.n];have:=p4.out;omega)⟩
          have i1:∀ w,(Instr.index 69 (.agg #[.int .i64 (s p 0),.int .i64 (s p 1),.int .i64 (s p 2)]) (.int .i64 1)).run prog w=.ok (.int .i64 (s p 1)) w:=fun _=>by kernel_rfl
          go_wp2_with fail
          have KK:∀ W,Below wr.heap.size wr W->W.cell? ⟨fr,1,none⟩=some (.int .i64 (s m 1))∧W.cell? ⟨w.heap.size+1,p*3+1,none⟩=some v∧W.frozen? ⟨w.heap.size+1,p*3+1,none⟩=false:=fun W hb=>⟨aj (af f_k 1 rfl) hb,aj (af l_k _ ev) hb,ar (ak hb l_k) _⟩
          have hst:∀ p x m w,(store p (.float .f64 x) m).run prog w=stored prog w p (.float .f64 x) m:=fun p x m w=>run_store _ w p _ m rfl
          have hC0:=(al wr).drew
          have hne:fr≠w.heap.size+1:=by omega
          go_region_held3 (fun W=>W.cell? ⟨fr,1,none⟩=some (.int .i64 (s m 1)))
            (with_reducible first|assumption|exact(KK _ hC0).1|exact(KK _ hC1).1|exact ka (KK _ hC1).1 hne _ _|fail)
            (first|(go_at_call 42;refine(C1.out _).mono ?_;rintro _ y5 ⟨rfl,hq⟩;have hC1:=ac hC0 hq;have e1:=(KK _ hC1).2.1;have e2:=(KK _ hC1).2.2))
          replace f_k:=az (ak hC1 f_k) hne (p*3+1) (.float .f64 (wd (aE (s p 1) (neg (s m 1)))))
          replace r_k:=az (ak hC1 r_k) (show w.heap.size≠w.heap.size+1 by omega) (p*3+1) (.float .f64 (wd (aE (s p 1) (neg (s m 1)))))
          replace l_k:=aq (ak hC1 l_k) (p*3+1) (.float .f64 (wd (aE (s p 1) (neg (s m 1)))))
          replace hbw:=(ac hbw hC1).setCell (p:=⟨w.heap.size+1,p*3+1,none⟩) (show w.heap.size<=w.heap.size+1 by omega) (.float .f64 (wd (aE (s p 1) (neg (s m 1)))))
          clear hC0 hC1 hq e1 e2 KK ev hst
          go_wp2_with fail
          go_roundw
          case rel=>exact⟨1+1,by omega,by go_num,_,HN',l_k,r_k,f_k,hbw⟩
          case measure=>simp[intOf]
        · have HN':Hid (jj (arr.setIfInBounds (p*3+2) (.float .f64 (wd (aE (s p 2) (neg (s m 2)))))) (fun p k=>aE (s p k) (neg (s m k))) p (2+1)):=HN.out.step p4.out (by decide)
          obtain⟨v,ev⟩:∃ v,arr[p*3+2]?=some v:=⟨_,Array.getElem?_eq_getElem (by rw[HN.out.n];have:=p4.out;omega)⟩
          have i2:∀ w,(Instr.index 69 (.agg #[.int .i64 (s p 0),.int .i64 (s p 1),.int .i64 (s p 2)]) (.int .i64 2)).run prog w=.ok (.int .i64 (s p 2)) w:=fun _=>by kernel_rfl
          go_wp2_with fail
          have KK:∀ W,Below wr.heap.size wr W->W.cell? ⟨fr,2,none⟩=some (.int .i64 (s m 2))∧W.cell? ⟨w.heap.size+1,p*3+2,none⟩=some v∧W.frozen? ⟨w.heap.size+1,p*3+2,none⟩=false:=fun W hb=>⟨aj (af f_k 2 rfl) hb,aj (af l_k _ ev) hb,ar (ak hb l_k) _⟩
          have hst:∀ p x m w,(store p (.float .f64 x) m).run prog w=stored prog w p (.float .f64 x) m:=fun p x m w=>run_store _ w p _ m rfl
          have hC0:=(al wr).drew
          have hne:fr≠w.heap.size+1:=by omega
          go_region_held3 (fun W=>W.cell? ⟨fr,2,none⟩=some (.int .i64 (s m 2)))
            (with_reducible first|assumption|exact(KK _ hC0).1|exact(KK _ hC1).1|exact ka (KK _ hC1).1 hne _ _|fail)
            (first|(go_at_call 42;refine(C2.out _).mono ?_;rintro _ y5 ⟨rfl,hq⟩;have hC1:=ac hC0 hq;have e1:=(KK _ hC1).2.1;have e2:=(KK _ hC1).2.2))
          replace f_k:=az (ak hC1 f_k) hne (p*3+2) (.float .f64 (wd (aE (s p 2) (neg (s m 2)))))
          replace r_k:=az (ak hC1 r_k) (show w.heap.size≠w.heap.size+1 by omega) (p*3+2) (.float .f64 (wd (aE (s p 2) (neg (s m 2)))))
          replace l_k:=aq (ak hC1 l_k) (p*3+2) (.float .f64 (wd (aE (s p 2) (neg (s m 2)))))
          replace hbw:=(ac hbw hC1).setCell (p:=⟨w.heap.size+1,p*3+2,none⟩) (show w.heap.size<=w.heap.size+1 by omega) (.float .f64 (wd (aE (s p 2) (neg (s m 2)))))
          clear hC0 hC1 hq e1 e2 KK ev hst
          go_wp2_with fail
          go_roundw
          case rel=>exact⟨2+1,by omega,by go_num,_,HN',l_k,r_k,f_k,hbw⟩
          case measure=>simp[intOf]
        · have HN':Hid (jj arr (fun p k=>aE (s p k) (neg (s m k))) (p+1) 0):=HN.out.roll
          go_wp2_with fail
          go_roundw
          case rel=>exact⟨p+1,by omega,by go_num,arr,HN',l_k,r_k,f_k,hbw⟩
          case measure=>simp[intOf];omega
    · obtain rfl:p=m:=by omega
      have HE:=HN.out.all _ HU.out
      have hi:(prog.info? 82).map (·.size)=some arr.size:=by rw[HN.out.n];kernel_rfl
      have h12:(#[.float .f64 0,.float .f64 0,.float .f64 0,.float .f64 0,.float .f64 0,.float .f64 0,.float .f64 0,.float .f64 0,.float .f64 0,.float .f64 0,.float .f64 0,.float .f64 0]:Array Value).size=arr.size:=HN.out.n.symm
      have ho:arr.all (·.oneCell')=true:=by rw[HE];kernel_rfl
      repeat (first|(refine wp_load_row 82 _ rfl (w.heap.size+1) rfl _ _ _ _ l_k underlying82 rfl hi ?_;dsimp only[Act.put])|(refine wp_store_row 82 _ _ rfl w.heap.size arr rfl rfl _ _ r_k hi h12 ho ?_;dsimp only[Act.put])|go_step)
      have r_k2:=setRow_heap _ _ _ arr _ _ r_k
      exact bodyPost_ret (v:=.agg arr) (results_cell_row results41 _ _ w.heap.size 82 arr (0,0) _ (by simp) r_k2 underlying82 rfl hi) rfl ⟨by rw[HE],below_setRow hbw (by omega) _⟩
end Go.Proofs.YtcklaogdjpbagaaGreatDoor
