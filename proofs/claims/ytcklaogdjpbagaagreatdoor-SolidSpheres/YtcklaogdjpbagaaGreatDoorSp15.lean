/- Parts of the proof. -/
import Derived.Test.YtcklaogdjpbagaaGreatDoorSp13
import Derived.Deep.WholeRow
import Derived.Laws.CopyOwn
set_option maxRecDepth 100000
set_option maxHeartbeats 8000000
set_option linter.unusedVariables false
set_option linter.unusedSimpArgs false
namespace Go.Proofs.YtcklaogdjpbagaaGreatDoor
open Go Go.RowKit Go.Proofs.YtcklaogdjpbagaaGreatDoor.M
theorem xF (u:Nat->Nat->Int):∀ p,p<4->∀ k,k<3->(#[.float .f64 (wd (u 0 0)),.float .f64 (wd (u 0 1)),.float .f64 (wd (u 0 2)),.float .f64 (wd (u 1 0)),.float .f64 (wd (u 1 1)),.float .f64 (wd (u 1 2)),.float .f64 (wd (u 2 0)),.float .f64 (wd (u 2 1)),.float .f64 (wd (u 2 2)),.float .f64 (wd (u 3 0)),.float .f64 (wd (u 3 1)),.float .f64 (wd (u 3 2))]:Array Value)[p*3+k]?=some (.float .f64 (wd (u p k)))
 | 0,_,0,_=>rfl
 | 0,_,1,_=>rfl
 | 0,_,2,_=>rfl
 | 1,_,0,_=>rfl
 | 1,_,1,_=>rfl
 | 1,_,2,_=>rfl
 | 2,_,0,_=>rfl
 | 2,_,1,_=>rfl
 | 2,_,2,_=>rfl
 | 3,_,0,_=>rfl
 | 3,_,1,_=>rfl
 | 3,_,2,_=>rfl
theorem Cu (u:Nat->Nat->Int):∀ p,p<4->∀ k,k<3->(#[.float .f64 (wd (u 0 0)),.float .f64 (wd (u 0 1)),.float .f64 (wd (u 0 2)),.float .f64 (wd (u 1 0)),.float .f64 (wd (u 1 1)),.float .f64 (wd (u 1 2)),.float .f64 (wd (u 2 0)),.float .f64 (wd (u 2 1)),.float .f64 (wd (u 2 2)),.float .f64 (wd (u 3 0)),.float .f64 (wd (u 3 1)),.float .f64 (wd (u 3 2)),.float .f64 0,.float .f64 0,.float .f64 0,.float .f64 0,.float .f64 0,.float .f64 0,.float .f64 0,.float .f64 0,.float .f64 0,.float .f64 0,.float .f64 0,.float .f64 0,.float .f64 0,.float .f64 0,.float .f64 0,.float .f64 0,.float .f64 0,.float .f64 0,.float .f64 0,.float .f64 0,.float .f64 0,.float .f64 0,.float .f64 0,.float .f64 0,.float .f64 0,.float .f64 0,.float .f64 0,.float .f64 0,.float .f64 0,.float .f64 0,.float .f64 0,.float .f64 0]:Array Value)[p*3+k]?=some (.float .f64 (wd (u p k)))
 | 0,_,0,_=>rfl
 | 0,_,1,_=>rfl
 | 0,_,2,_=>rfl
 | 1,_,0,_=>rfl
 | 1,_,1,_=>rfl
 | 1,_,2,_=>rfl
 | 2,_,0,_=>rfl
 | 2,_,1,_=>rfl
 | 2,_,2,_=>rfl
 | 3,_,0,_=>rfl
 | 3,_,1,_=>rfl
 | 3,_,2,_=>rfl
structure mM (arr:Array Value) (u:Nat->Nat->Int) (Q P:Nat):Prop where
 n:arr.size=44
 o:arr.all (·.oneCell')=true
 l:∀ p,p<4->∀ k,k<3->arr[p*3+k]?=some (.float .f64 (wd (u p k)))
 m:∀ a b,a<b->b<4->(b<Q∨(b=Q∧a<P))->arr[12+a*8+b*2]?=some (.float .f64 (wd (mn u a b)))∧arr[12+a*8+b*2+1]?=some (.float .f64 (wd (sz u a b)))∧arr[12+b*8+a*2]?=some (.float .f64 (wd (mn u b a)))∧arr[12+b*8+a*2+1]?=some (.float .f64 (wd (sz u b a)))
theorem eZ (arr:Array Value) (i j:Nat) (v:Value) (h:i<arr.size):(arr.setIfInBounds i v)[j]?=if i=j then some v else arr[j]?:=by
 rw[Array.getElem?_setIfInBounds]
 by_cases e:i=j
 ·subst e
  simp[h]
 ·simp[e]
theorem aA {W:World} {g k:Nat} {X:Obj} (h:W.heap[k]?=some X) (hn:k≠g) (o:Nat) (v:Value):(W.setCell ⟨g,o,none⟩ v).heap[k]?=some X:=by
 have:=(Wr.refl g W).setCell o v
 exact(this.block k (aGe h).1 hn).trans h
theorem ix {arr:Array Value} (h:arr.all (·.oneCell')=true) (i:Nat) {v:Value} (hv:v.oneCell'=true):(arr.setIfInBounds i v).all (·.oneCell')=true:=by
 rw[Array.all_eq_true_iff_forall_mem] at h ⊢
 intro x hx
 rcases Array.mem_or_eq_of_mem_setIfInBounds hx with e|e
 ·exact h x e
 ·rw[e];exact hv
theorem mM.step {arr:Array Value} {u:Nat->Nat->Int} {q p:Nat} (h:mM arr u q p) (pq:p<q) (q4:q<4) :
  mM ((((arr.setIfInBounds (12+p*8+q*2) (.float .f64 (wd (mn u p q)))).setIfInBounds (12+p*8+q*2+1) (.float .f64 (wd (sz u p q)))).setIfInBounds (12+q*8+p*2) (.float .f64 (wd (mn u q p)))).setIfInBounds (12+q*8+p*2+1) (.float .f64 (wd (sz u q p)))) u q (p+1):=by
 have hn:=h.n
 have g:∀ j,((((arr.setIfInBounds (12+p*8+q*2) (.float .f64 (wd (mn u p q)))).setIfInBounds (12+p*8+q*2+1) (.float .f64 (wd (sz u p q)))).setIfInBounds (12+q*8+p*2) (.float .f64 (wd (mn u q p)))).setIfInBounds (12+q*8+p*2+1) (.float .f64 (wd (sz u q p))))[j]? =
   if 12+q*8+p*2+1=j then some (.float .f64 (wd (sz u q p))) else if 12+q*8+p*2=j then some (.float .f64 (wd (mn u q p))) else if 12+p*8+q*2+1=j then some (.float .f64 (wd (sz u p q))) else if 12+p*8+q*2=j then some (.float .f64 (wd (mn u p q))) else arr[j]?:=fun j=>by
  rw[eZ _ _ _ _ (by simp only[Array.size_setIfInBounds];omega),eZ _ _ _ _ (by simp only[Array.size_setIfInBounds];omega),eZ _ _ _ _ (by simp only[Array.size_setIfInBounds];omega),eZ _ _ _ _ (by omega)]
 refine⟨by simp only[Array.size_setIfInBounds];exact hn,ix (ix (ix (ix h.o _ rfl) _ rfl) _ rfl) _ rfl,fun a ha k hk=>?_,fun a b ab b4 hc=>?_⟩
 ·rw[g,if_neg (by omega),if_neg (by omega),if_neg (by omega),if_neg (by omega)]
  exact h.l a ha k hk
 ·by_cases e:a=p∧b=q
  ·obtain⟨rfl,rfl⟩:=e
   refine⟨?_,?_,?_,?_⟩
   ·rw[g,if_neg (by omega),if_neg (by omega),if_neg (by omega),if_pos rfl]
   ·rw[g,if_neg (by omega),if_neg (by omega),if_pos rfl]
   ·rw[g,if_neg (by omega),if_pos rfl]
   ·rw[g,if_pos rfl]
  ·obtain⟨h1,h2,h3,h4⟩:=h.m a b ab b4 (by omega)
   refine⟨?_,?_,?_,?_⟩
   ·rw[g,if_neg (by omega),if_neg (by omega),if_neg (by omega),if_neg (by omega)];exact h1
   ·rw[g,if_neg (by omega),if_neg (by omega),if_neg (by omega),if_neg (by omega)];exact h2
   ·rw[g,if_neg (by omega),if_neg (by omega),if_neg (by omega),if_neg (by omega)];exact h3
   ·rw[g,if_neg (by omega),if_neg (by omega),if_neg (by omega),if_neg (by omega)];exact h4
theorem mM.all {arr:Array Value} {u:Nat->Nat->Int} (h:mM arr u 4 0):gx arr u:=by
 refine⟨h.n,h.o,h.l,fun p hp q hq pq=>?_,fun p hp q hq pq=>?_⟩
 ·rcases Nat.lt_or_gt_of_ne pq with c|c
  ·exact(h.m p q c hq (.inl hq)).1
  ·exact(h.m q p c hp (.inl hp)).2.2.1
 ·rcases Nat.lt_or_gt_of_ne pq with c|c
  ·exact(h.m p q c hq (.inl hq)).2.1
  ·exact(h.m q p c hp (.inl hp)).2.2.2
theorem oe {u:Nat->Nat->Int} (hL:Lf u) (w:World) :
  Calls Tryz.prog 66 #[.agg #[.float .f64 (wd (u 0 0)),.float .f64 (wd (u 0 1)),.float .f64 (wd (u 0 2)),.float .f64 (wd (u 1 0)),.float .f64 (wd (u 1 1)),.float .f64 (wd (u 1 2)),.float .f64 (wd (u 2 0)),.float .f64 (wd (u 2 1)),.float .f64 (wd (u 2 2)),.float .f64 (wd (u 3 0)),.float .f64 (wd (u 3 1)),.float .f64 (wd (u 3 2))]] w fun e w'=>∃ arr,e=.returned (.agg arr)∧gx arr u∧Below w.heap.size w w':=by
 go_enter Tryz.func66,Tryz.ntmps66
 iterate 15 go_step
 have hb0:=aO w (.cells #[.float .f64 (wd (u 0 0)),.float .f64 (wd (u 0 1)),.float .f64 (wd (u 0 2)),.float .f64 (wd (u 1 0)),.float .f64 (wd (u 1 1)),.float .f64 (wd (u 1 2)),.float .f64 (wd (u 2 0)),.float .f64 (wd (u 2 1)),.float .f64 (wd (u 2 2)),.float .f64 (wd (u 3 0)),.float .f64 (wd (u 3 1)),.float .f64 (wd (u 3 2))] 82) (.cells #[.float .f64 0,.float .f64 0,.float .f64 0,.float .f64 0,.float .f64 0,.float .f64 0,.float .f64 0,.float .f64 0,.float .f64 0,.float .f64 0,.float .f64 0,.float .f64 0,.float .f64 0,.float .f64 0,.float .f64 0,.float .f64 0,.float .f64 0,.float .f64 0,.float .f64 0,.float .f64 0,.float .f64 0,.float .f64 0,.float .f64 0,.float .f64 0,.float .f64 0,.float .f64 0,.float .f64 0,.float .f64 0,.float .f64 0,.float .f64 0,.float .f64 0,.float .f64 0,.float .f64 0,.float .f64 0,.float .f64 0,.float .f64 0,.float .f64 0,.float .f64 0,.float .f64 0,.float .f64 0,.float .f64 0,.float .f64 0,.float .f64 0,.float .f64 0] 103)
 have l_k:=bX w (.cells #[.float .f64 (wd (u 0 0)),.float .f64 (wd (u 0 1)),.float .f64 (wd (u 0 2)),.float .f64 (wd (u 1 0)),.float .f64 (wd (u 1 1)),.float .f64 (wd (u 1 2)),.float .f64 (wd (u 2 0)),.float .f64 (wd (u 2 1)),.float .f64 (wd (u 2 2)),.float .f64 (wd (u 3 0)),.float .f64 (wd (u 3 1)),.float .f64 (wd (u 3 2))] 82) (.cells #[.float .f64 0,.float .f64 0,.float .f64 0,.float .f64 0,.float .f64 0,.float .f64 0,.float .f64 0,.float .f64 0,.float .f64 0,.float .f64 0,.float .f64 0,.float .f64 0,.float .f64 0,.float .f64 0,.float .f64 0,.float .f64 0,.float .f64 0,.float .f64 0,.float .f64 0,.float .f64 0,.float .f64 0,.float .f64 0,.float .f64 0,.float .f64 0,.float .f64 0,.float .f64 0,.float .f64 0,.float .f64 0,.float .f64 0,.float .f64 0,.float .f64 0,.float .f64 0,.float .f64 0,.float .f64 0,.float .f64 0,.float .f64 0,.float .f64 0,.float .f64 0,.float .f64 0,.float .f64 0,.float .f64 0,.float .f64 0,.float .f64 0,.float .f64 0] 103)
 have r_k:=bP w (.cells #[.float .f64 (wd (u 0 0)),.float .f64 (wd (u 0 1)),.float .f64 (wd (u 0 2)),.float .f64 (wd (u 1 0)),.float .f64 (wd (u 1 1)),.float .f64 (wd (u 1 2)),.float .f64 (wd (u 2 0)),.float .f64 (wd (u 2 1)),.float .f64 (wd (u 2 2)),.float .f64 (wd (u 3 0)),.float .f64 (wd (u 3 1)),.float .f64 (wd (u 3 2))] 82) (.cells #[.float .f64 0,.float .f64 0,.float .f64 0,.float .f64 0,.float .f64 0,.float .f64 0,.float .f64 0,.float .f64 0,.float .f64 0,.float .f64 0,.float .f64 0,.float .f64 0,.float .f64 0,.float .f64 0,.float .f64 0,.float .f64 0,.float .f64 0,.float .f64 0,.float .f64 0,.float .f64 0,.float .f64 0,.float .f64 0,.float .f64 0,.float .f64 0,.float .f64 0,.float .f64 0,.float .f64 0,.float .f64 0,.float .f64 0,.float .f64 0,.float .f64 0,.float .f64 0,.float .f64 0,.float .f64 0,.float .f64 0,.float .f64 0,.float .f64 0,.float .f64 0,.float .f64 0,.float .f64 0,.float .f64 0,.float .f64 0,.float .f64 0,.float .f64 0] 103)
 generalize (w.alloc (.cells #[.float .f64 (wd (u 0 0)),.float .f64 (wd (u 0 1)),.float .f64 (wd (u 0 2)),.float .f64 (wd (u 1 0)),.float .f64 (wd (u 1 1)),.float .f64 (wd (u 1 2)),.float .f64 (wd (u 2 0)),.float .f64 (wd (u 2 1)),.float .f64 (wd (u 2 2)),.float .f64 (wd (u 3 0)),.float .f64 (wd (u 3 1)),.float .f64 (wd (u 3 2))] 82)).alloc (.cells #[.float .f64 0,.float .f64 0,.float .f64 0,.float .f64 0,.float .f64 0,.float .f64 0,.float .f64 0,.float .f64 0,.float .f64 0,.float .f64 0,.float .f64 0,.float .f64 0,.float .f64 0,.float .f64 0,.float .f64 0,.float .f64 0,.float .f64 0,.float .f64 0,.float .f64 0,.float .f64 0,.float .f64 0,.float .f64 0,.float .f64 0,.float .f64 0,.float .f64 0,.float .f64 0,.float .f64 0,.float .f64 0,.float .f64 0,.float .f64 0,.float .f64 0,.float .f64 0,.float .f64 0,.float .f64 0,.float .f64 0,.float .f64 0,.float .f64 0,.float .f64 0,.float .f64 0,.float .f64 0,.float .f64 0,.float .f64 0,.float .f64 0,.float .f64 0] 103)=x0 at hb0 l_k r_k ⊢
 refine wp_load_row 82 _ rfl w.heap.size rfl _ _ _ _ l_k Tryz.underlying82 rfl (by kernel_rfl) ?_
 dsimp only[Act.put]
 have rk0:=r_k
 iterate 8 go_step
 have f_k0:=aC x0 (.cells #[.float .f64 0,.float .f64 0,.float .f64 0,.float .f64 0,.float .f64 0,.float .f64 0,.float .f64 0,.float .f64 0,.float .f64 0,.float .f64 0,.float .f64 0,.float .f64 0,.float .f64 0,.float .f64 0,.float .f64 0,.float .f64 0,.float .f64 0,.float .f64 0,.float .f64 0,.float .f64 0,.float .f64 0,.float .f64 0,.float .f64 0,.float .f64 0,.float .f64 0,.float .f64 0,.float .f64 0,.float .f64 0,.float .f64 0,.float .f64 0,.float .f64 0,.float .f64 0,.float .f64 0,.float .f64 0,.float .f64 0,.float .f64 0,.float .f64 0,.float .f64 0,.float .f64 0,.float .f64 0,.float .f64 0,.float .f64 0,.float .f64 0,.float .f64 0] 103)
 refine wp_store_row 103 _ _ rfl x0.heap.size #[.float .f64 (wd (u 0 0)),.float .f64 (wd (u 0 1)),.float .f64 (wd (u 0 2)),.float .f64 (wd (u 1 0)),.float .f64 (wd (u 1 1)),.float .f64 (wd (u 1 2)),.float .f64 (wd (u 2 0)),.float .f64 (wd (u 2 1)),.float .f64 (wd (u 2 2)),.float .f64 (wd (u 3 0)),.float .f64 (wd (u 3 1)),.float .f64 (wd (u 3 2)),.float .f64 0,.float .f64 0,.float .f64 0,.float .f64 0,.float .f64 0,.float .f64 0,.float .f64 0,.float .f64 0,.float .f64 0,.float .f64 0,.float .f64 0,.float .f64 0,.float .f64 0,.float .f64 0,.float .f64 0,.float .f64 0,.float .f64 0,.float .f64 0,.float .f64 0,.float .f64 0,.float .f64 0,.float .f64 0,.float .f64 0,.float .f64 0,.float .f64 0,.float .f64 0,.float .f64 0,.float .f64 0,.float .f64 0,.float .f64 0,.float .f64 0,.float .f64 0] rfl rfl _ _ f_k0 (by kernel_rfl) rfl (by kernel_rfl) ?_
 rw[World.setRow_alloc_new]
 dsimp only[Act.put]
 clear f_k0
 have f_k:=aC x0 (.cells #[.float .f64 (wd (u 0 0)),.float .f64 (wd (u 0 1)),.float .f64 (wd (u 0 2)),.float .f64 (wd (u 1 0)),.float .f64 (wd (u 1 1)),.float .f64 (wd (u 1 2)),.float .f64 (wd (u 2 0)),.float .f64 (wd (u 2 1)),.float .f64 (wd (u 2 2)),.float .f64 (wd (u 3 0)),.float .f64 (wd (u 3 1)),.float .f64 (wd (u 3 2)),.float .f64 0,.float .f64 0,.float .f64 0,.float .f64 0,.float .f64 0,.float .f64 0,.float .f64 0,.float .f64 0,.float .f64 0,.float .f64 0,.float .f64 0,.float .f64 0,.float .f64 0,.float .f64 0,.float .f64 0,.float .f64 0,.float .f64 0,.float .f64 0,.float .f64 0,.float .f64 0,.float .f64 0,.float .f64 0,.float .f64 0,.float .f64 0,.float .f64 0,.float .f64 0,.float .f64 0,.float .f64 0,.float .f64 0,.float .f64 0,.float .f64 0,.float .f64 0] 103)
 replace l_k:=ar (.cells #[.float .f64 (wd (u 0 0)),.float .f64 (wd (u 0 1)),.float .f64 (wd (u 0 2)),.float .f64 (wd (u 1 0)),.float .f64 (wd (u 1 1)),.float .f64 (wd (u 1 2)),.float .f64 (wd (u 2 0)),.float .f64 (wd (u 2 1)),.float .f64 (wd (u 2 2)),.float .f64 (wd (u 3 0)),.float .f64 (wd (u 3 1)),.float .f64 (wd (u 3 2)),.float .f64 0,.float .f64 0,.float .f64 0,.float .f64 0,.float .f64 0,.float .f64 0,.float .f64 0,.float .f64 0,.float .f64 0,.float .f64 0,.float .f64 0,.float .f64 0,.float .f64 0,.float .f64 0,.float .f64 0,.float .f64 0,.float .f64 0,.float .f64 0,.float .f64 0,.float .f64 0,.float .f64 0,.float .f64 0,.float .f64 0,.float .f64 0,.float .f64 0,.float .f64 0,.float .f64 0,.float .f64 0,.float .f64 0,.float .f64 0,.float .f64 0,.float .f64 0] 103) l_k
 replace r_k:=ar (.cells #[.float .f64 (wd (u 0 0)),.float .f64 (wd (u 0 1)),.float .f64 (wd (u 0 2)),.float .f64 (wd (u 1 0)),.float .f64 (wd (u 1 1)),.float .f64 (wd (u 1 2)),.float .f64 (wd (u 2 0)),.float .f64 (wd (u 2 1)),.float .f64 (wd (u 2 2)),.float .f64 (wd (u 3 0)),.float .f64 (wd (u 3 1)),.float .f64 (wd (u 3 2)),.float .f64 0,.float .f64 0,.float .f64 0,.float .f64 0,.float .f64 0,.float .f64 0,.float .f64 0,.float .f64 0,.float .f64 0,.float .f64 0,.float .f64 0,.float .f64 0,.float .f64 0,.float .f64 0,.float .f64 0,.float .f64 0,.float .f64 0,.float .f64 0,.float .f64 0,.float .f64 0,.float .f64 0,.float .f64 0,.float .f64 0,.float .f64 0,.float .f64 0,.float .f64 0,.float .f64 0,.float .f64 0,.float .f64 0,.float .f64 0,.float .f64 0,.float .f64 0] 103) r_k
 have hsz:w.heap.size+1<x0.heap.size:=(aGe (show x0.heap[w.heap.size+1]?=_ from rk0)).1
 replace hb0:=ac hb0 (ah x0 (.cells #[.float .f64 (wd (u 0 0)),.float .f64 (wd (u 0 1)),.float .f64 (wd (u 0 2)),.float .f64 (wd (u 1 0)),.float .f64 (wd (u 1 1)),.float .f64 (wd (u 1 2)),.float .f64 (wd (u 2 0)),.float .f64 (wd (u 2 1)),.float .f64 (wd (u 2 2)),.float .f64 (wd (u 3 0)),.float .f64 (wd (u 3 1)),.float .f64 (wd (u 3 2)),.float .f64 0,.float .f64 0,.float .f64 0,.float .f64 0,.float .f64 0,.float .f64 0,.float .f64 0,.float .f64 0,.float .f64 0,.float .f64 0,.float .f64 0,.float .f64 0,.float .f64 0,.float .f64 0,.float .f64 0,.float .f64 0,.float .f64 0,.float .f64 0,.float .f64 0,.float .f64 0,.float .f64 0,.float .f64 0,.float .f64 0,.float .f64 0,.float .f64 0,.float .f64 0,.float .f64 0,.float .f64 0,.float .f64 0,.float .f64 0,.float .f64 0,.float .f64 0] 103))
 have HN:mM #[.float .f64 (wd (u 0 0)),.float .f64 (wd (u 0 1)),.float .f64 (wd (u 0 2)),.float .f64 (wd (u 1 0)),.float .f64 (wd (u 1 1)),.float .f64 (wd (u 1 2)),.float .f64 (wd (u 2 0)),.float .f64 (wd (u 2 1)),.float .f64 (wd (u 2 2)),.float .f64 (wd (u 3 0)),.float .f64 (wd (u 3 1)),.float .f64 (wd (u 3 2)),.float .f64 0,.float .f64 0,.float .f64 0,.float .f64 0,.float .f64 0,.float .f64 0,.float .f64 0,.float .f64 0,.float .f64 0,.float .f64 0,.float .f64 0,.float .f64 0,.float .f64 0,.float .f64 0,.float .f64 0,.float .f64 0,.float .f64 0,.float .f64 0,.float .f64 0,.float .f64 0,.float .f64 0,.float .f64 0,.float .f64 0,.float .f64 0,.float .f64 0,.float .f64 0,.float .f64 0,.float .f64 0,.float .f64 0,.float .f64 0,.float .f64 0,.float .f64 0] u 0 0:=⟨rfl,by kernel_rfl,Cu u,fun a b ab b4 hc=>by omega⟩
 generalize x0.alloc (.cells #[.float .f64 (wd (u 0 0)),.float .f64 (wd (u 0 1)),.float .f64 (wd (u 0 2)),.float .f64 (wd (u 1 0)),.float .f64 (wd (u 1 1)),.float .f64 (wd (u 1 2)),.float .f64 (wd (u 2 0)),.float .f64 (wd (u 2 1)),.float .f64 (wd (u 2 2)),.float .f64 (wd (u 3 0)),.float .f64 (wd (u 3 1)),.float .f64 (wd (u 3 2)),.float .f64 0,.float .f64 0,.float .f64 0,.float .f64 0,.float .f64 0,.float .f64 0,.float .f64 0,.float .f64 0,.float .f64 0,.float .f64 0,.float .f64 0,.float .f64 0,.float .f64 0,.float .f64 0,.float .f64 0,.float .f64 0,.float .f64 0,.float .f64 0,.float .f64 0,.float .f64 0,.float .f64 0,.float .f64 0,.float .f64 0,.float .f64 0,.float .f64 0,.float .f64 0,.float .f64 0,.float .f64 0,.float .f64 0,.float .f64 0,.float .f64 0,.float .f64 0] 103)=x1 at hb0 l_k r_k f_k ⊢
 generalize (#[.float .f64 (wd (u 0 0)),.float .f64 (wd (u 0 1)),.float .f64 (wd (u 0 2)),.float .f64 (wd (u 1 0)),.float .f64 (wd (u 1 1)),.float .f64 (wd (u 1 2)),.float .f64 (wd (u 2 0)),.float .f64 (wd (u 2 1)),.float .f64 (wd (u 2 2)),.float .f64 (wd (u 3 0)),.float .f64 (wd (u 3 1)),.float .f64 (wd (u 3 2)),.float .f64 0,.float .f64 0,.float .f64 0,.float .f64 0,.float .f64 0,.float .f64 0,.float .f64 0,.float .f64 0,.float .f64 0,.float .f64 0,.float .f64 0,.float .f64 0,.float .f64 0,.float .f64 0,.float .f64 0,.float .f64 0,.float .f64 0,.float .f64 0,.float .f64 0,.float .f64 0,.float .f64 0,.float .f64 0,.float .f64 0,.float .f64 0,.float .f64 0,.float .f64 0,.float .f64 0,.float .f64 0,.float .f64 0,.float .f64 0,.float .f64 0,.float .f64 0]:Array Value)=arr0 at f_k HN
 have hl:=xF u
 generalize (#[.float .f64 (wd (u 0 0)),.float .f64 (wd (u 0 1)),.float .f64 (wd (u 0 2)),.float .f64 (wd (u 1 0)),.float .f64 (wd (u 1 1)),.float .f64 (wd (u 1 2)),.float .f64 (wd (u 2 0)),.float .f64 (wd (u 2 1)),.float .f64 (wd (u 2 2)),.float .f64 (wd (u 3 0)),.float .f64 (wd (u 3 1)),.float .f64 (wd (u 3 2))]:Array Value)=larr at l_k hl ⊢
 generalize x0.heap.size=fb at *
 clear rk0
 go_wp2_with fail
 go_loopw [11] (fun i wr=>∃ q:Nat,q<=4∧i=.int .i64 q∧∃ arr,Hid (mM arr u q 0)∧wr.heap[fb]?=some (.cells arr 103 (0,0))∧wr.heap[w.heap.size]?=some (.cells larr 82 (0,0))∧wr.heap[w.heap.size+1]?=some (.cells #[.float .f64 0,.float .f64 0,.float .f64 0,.float .f64 0,.float .f64 0,.float .f64 0,.float .f64 0,.float .f64 0,.float .f64 0,.float .f64 0,.float .f64 0,.float .f64 0,.float .f64 0,.float .f64 0,.float .f64 0,.float .f64 0,.float .f64 0,.float .f64 0,.float .f64 0,.float .f64 0,.float .f64 0,.float .f64 0,.float .f64 0,.float .f64 0,.float .f64 0,.float .f64 0,.float .f64 0,.float .f64 0,.float .f64 0,.float .f64 0,.float .f64 0,.float .f64 0,.float .f64 0,.float .f64 0,.float .f64 0,.float .f64 0,.float .f64 0,.float .f64 0,.float .f64 0,.float .f64 0,.float .f64 0,.float .f64 0,.float .f64 0,.float .f64 0] 103 (0,0))∧Below w.heap.size w wr) (fun i _=>4-(intOf i).toNat)
 case atStart=>exact⟨0,by omega,rfl,arr0,HN,f_k,l_k,r_k,hb0⟩
 case round=>
  clear f_k l_k r_k hb0 HN
  obtain⟨q,hq,rfl,arr,HN,f_k,l_k,r_k,hbw⟩:=hrel
  by_cases q4:q<4
  ·have q4':(q:Int)<4:=by omega
   go_wp2_with fail
   go_loopw [15] (fun i wr=>∃ p:Nat,p<=q∧i=.int .i64 p∧∃ arr,Hid (mM arr u q p)∧wr.heap[fb]?=some (.cells arr 103 (0,0))∧wr.heap[w.heap.size]?=some (.cells larr 82 (0,0))∧wr.heap[w.heap.size+1]?=some (.cells #[.float .f64 0,.float .f64 0,.float .f64 0,.float .f64 0,.float .f64 0,.float .f64 0,.float .f64 0,.float .f64 0,.float .f64 0,.float .f64 0,.float .f64 0,.float .f64 0,.float .f64 0,.float .f64 0,.float .f64 0,.float .f64 0,.float .f64 0,.float .f64 0,.float .f64 0,.float .f64 0,.float .f64 0,.float .f64 0,.float .f64 0,.float .f64 0,.float .f64 0,.float .f64 0,.float .f64 0,.float .f64 0,.float .f64 0,.float .f64 0,.float .f64 0,.float .f64 0,.float .f64 0,.float .f64 0,.float .f64 0,.float .f64 0,.float .f64 0,.float .f64 0,.float .f64 0,.float .f64 0,.float .f64 0,.float .f64 0,.float .f64 0,.float .f64 0] 103 (0,0))∧Below w.heap.size w wr) (fun i _=>q-(intOf i).toNat)
   case atStart=>exact⟨0,by omega,rfl,arr,HN,f_k,l_k,r_k,hbw⟩
   case round=>
    clear f_k l_k r_k hbw HN
    obtain⟨p,hp,rfl,arr,HN,f_k,l_k,r_k,hbw⟩:=hrel
    by_cases pq:p<q
    ·have gp:=hL.lg (show p<4 by omega)
     have gq:=hL.lg q4
     obtain⟨fl,-⟩:=jS gp gq
     obtain⟨fr,-⟩:=jS gq gp
     have h1:=cX (gp.f 0 (by decide)) (gq.f 1 (by decide)) fl.p
     have h2:=cX (gq.f 0 (by decide)) (gp.f 1 (by decide)) fr.p
     have h3:=ew fl.abs.1 fr.abs.1 (oc gp gq).1.p
     have h4:=kt fl fr (mC gp gq).1.p
     have h5:=kt fr fl (mC gq gp).1.p
     have CA:Hid (∀ W,Calls Tryz.prog 43 #[.float .f64 (wd (pL u p q))] W fun e w'=>e=.returned (.float .f64 (wd (rg (pL u p q))))∧w'=W):=fun W=>cW fl.r W
     have CB:Hid (∀ W,Calls Tryz.prog 43 #[.float .f64 (wd (pL u q p))] W fun e w'=>e=.returned (.float .f64 (wd (rg (pL u q p))))∧w'=W):=fun W=>cW fr.r W
     have esz:Hid (sz u q p=sz u p q):=ui gq gp
     change ∀ W,(binOp .mul 54 (.float .f64 (wd (u p 0))) (.float .f64 (wd (u q 1)))).run Tryz.prog W=.ok (.float .f64 (wd (pL u p q))) W at h1
     change ∀ W,(binOp .mul 54 (.float .f64 (wd (u q 0))) (.float .f64 (wd (u p 1)))).run Tryz.prog W=.ok (.float .f64 (wd (pL u q p))) W at h2
     change ∀ W,(binOp .add 54 (.float .f64 (wd (rg (pL u p q)))) (.float .f64 (wd (rg (pL u q p))))).run Tryz.prog W=.ok (.float .f64 (wd (sz u p q))) W at h3
     change ∀ W,(binOp .sub 54 (.float .f64 (wd (pL u p q))) (.float .f64 (wd (pL u q p)))).run Tryz.prog W=.ok (.float .f64 (wd (mn u p q))) W at h4
     change ∀ W,(binOp .sub 54 (.float .f64 (wd (pL u q p))) (.float .f64 (wd (pL u p q)))).run Tryz.prog W=.ok (.float .f64 (wd (mn u q p))) W at h5
     clear gp gq fl fr
     have c1:=af l_k _ (hl p (by omega) 0 (by decide))
     have c2:=af l_k _ (hl q (by omega) 1 (by decide))
     have c3:=af l_k _ (hl q (by omega) 0 (by decide))
     have c4:=af l_k _ (hl p (by omega) 1 (by decide))
     rw[Nat.add_zero] at c1 c3
     have p4':(p:Int)<4:=by omega
     have pq':(p:Int)<q:=by omega
     go_wp2_with fail
     go_quiet (fail)
     go_wp2_with fail
     have hd:=aN (ak wr) nq
     replace f_k:=am hd f_k
     replace l_k:=am hd l_k
     replace r_k:=am hd r_k
     replace hbw:=ac hbw hd
     clear c1 c2 c3 c4 hd
     generalize wr.drewN nq=w1 at *
     refine(CA.out _).mono ?_
     rintro _ wz ⟨rfl,hwz⟩
     replace hwz:=hwz.symm
     subst hwz
     go_wp2_with fail
     refine(CB.out _).mono ?_
     rintro _ wz ⟨rfl,hwz⟩
     replace hwz:=hwz.symm
     subst hwz
     have hn:=HN.out.n
     have hst:∀ p x m w,(store p (.float .f64 x) m).run Tryz.prog w=stored Tryz.prog w p (.float .f64 x) m:=fun p x m w=>run_store _ w p _ m rfl
     have z1:=av f_k (12+p*8+q*2)
     have z2:=av f_k (12+p*8+q*2+1)
     have z3:=av f_k (12+q*8+p*2)
     have z4:=av f_k (12+q*8+p*2+1)
     obtain⟨v1,e1⟩:∃ v,arr[12+p*8+q*2]?=some v:=⟨_,Array.getElem?_eq_getElem (by omega)⟩
     obtain⟨v2,e2⟩:∃ v,arr[12+p*8+q*2+1]?=some v:=⟨_,Array.getElem?_eq_getElem (by omega)⟩
     obtain⟨v3,e3⟩:∃ v,arr[12+q*8+p*2]?=some v:=⟨_,Array.getElem?_eq_getElem (by omega)⟩
     obtain⟨v4,e4⟩:∃ v,arr[12+q*8+p*2+1]?=some v:=⟨_,Array.getElem?_eq_getElem (by omega)⟩
     have d1:=af f_k _ e1
     have d2:=af f_k _ e2
     have d3:=af f_k _ e3
     have d4:=af f_k _ e4
     clear e1 e2 e3 e4
     have HN':Hid (mM ((((arr.setIfInBounds (12+p*8+q*2) (.float .f64 (wd (mn u p q)))).setIfInBounds (12+p*8+q*2+1) (.float .f64 (wd (sz u p q)))).setIfInBounds (12+q*8+p*2) (.float .f64 (wd (mn u q p)))).setIfInBounds (12+q*8+p*2+1) (.float .f64 (wd (sz u p q)))) u q (p+1)):=by
      have:=HN.out.step pq q4
      rw[esz.out] at this
      exact this
     have hge:w.heap.size<=fb:=by omega
     have hne:w.heap.size≠fb:=by omega
     have hne1:w.heap.size+1≠fb:=by omega
     go_wp2_with fail
     go_roundw
     case rel=>exact⟨p+1,by omega,by go_num,_,HN',ap (ap (ap (ap f_k _ _) _ _) _ _) _ _,aA (aA (aA (aA l_k hne _ _) hne _ _) hne _ _) hne _ _,aA (aA (aA (aA r_k hne1 _ _) hne1 _ _) hne1 _ _) hne1 _ _,(((hbw.setCell (p:=⟨fb,_,none⟩) hge _).setCell (p:=⟨fb,_,none⟩) hge _).setCell (p:=⟨fb,_,none⟩) hge _).setCell (p:=⟨fb,_,none⟩) hge _⟩
     case measure=>simp[intOf];omega
    ·obtain rfl:p=q:=by omega
     have HN':Hid (mM arr u (p+1) 0):=⟨HN.out.n,HN.out.o,HN.out.l,fun a b ab b4 hc=>HN.out.m a b ab b4 (by omega)⟩
     go_wp2_with fail
     go_roundw
     case rel=>exact⟨p+1,by omega,by go_num,arr,HN',f_k,l_k,r_k,hbw⟩
     case measure=>simp[intOf];omega
  ·obtain rfl:q=4:=by omega
   have hi:(Tryz.prog.info? 103).map (·.size)=some arr.size:=by rw[HN.out.n];kernel_rfl
   have h44:(#[.float .f64 0,.float .f64 0,.float .f64 0,.float .f64 0,.float .f64 0,.float .f64 0,.float .f64 0,.float .f64 0,.float .f64 0,.float .f64 0,.float .f64 0,.float .f64 0,.float .f64 0,.float .f64 0,.float .f64 0,.float .f64 0,.float .f64 0,.float .f64 0,.float .f64 0,.float .f64 0,.float .f64 0,.float .f64 0,.float .f64 0,.float .f64 0,.float .f64 0,.float .f64 0,.float .f64 0,.float .f64 0,.float .f64 0,.float .f64 0,.float .f64 0,.float .f64 0,.float .f64 0,.float .f64 0,.float .f64 0,.float .f64 0,.float .f64 0,.float .f64 0,.float .f64 0,.float .f64 0,.float .f64 0,.float .f64 0,.float .f64 0,.float .f64 0]:Array Value).size=arr.size:=HN.out.n.symm
   have ho:=HN.out.o
   repeat (first|(refine wp_load_row 103 _ rfl fb rfl _ _ _ _ f_k Tryz.underlying103 rfl hi ?_;dsimp only[Act.put])|(refine wp_store_row 103 _ _ rfl (w.heap.size+1) arr rfl rfl _ _ r_k hi h44 ho ?_;dsimp only[Act.put])|go_step)
   have r_k2:=setRow_heap _ _ _ arr _ _ r_k
   exact bodyPost_ret (v:=.agg arr) (results_cell_row Tryz.results66 _ _ (w.heap.size+1) 103 arr (0,0) _ (by simp) r_k2 Tryz.underlying103 rfl hi) rfl ⟨_,rfl,HN.out.all,below_setRow hbw (by omega) _⟩
theorem Aa (w:World):Calls Tryz.prog 87 #[.int .i64 0] w fun e w'=>e=.returned (.tuple #[.int .i64 1,.int .i64 2,.int .i64 3])∧w'=w:=by
 go_enter Tryz.func87,Tryz.ntmps87
 go_wp2
 exact bodyPost_ret (v:=.tuple #[.int .i64 1,.int .i64 2,.int .i64 3]) (by simp[results,Tryz.results87,go_sem]) rfl ⟨rfl,rfl⟩
theorem Ab (w:World):Calls Tryz.prog 87 #[.int .i64 1] w fun e w'=>e=.returned (.tuple #[.int .i64 2,.int .i64 3,.int .i64 0])∧w'=w:=by
 go_enter Tryz.func87,Tryz.ntmps87
 go_wp2
 exact bodyPost_ret (v:=.tuple #[.int .i64 2,.int .i64 3,.int .i64 0]) (by simp[results,Tryz.results87,go_sem]) rfl ⟨rfl,rfl⟩
theorem Ac (w:World):Calls Tryz.prog 87 #[.int .i64 2] w fun e w'=>e=.returned (.tuple #[.int .i64 3,.int .i64 0,.int .i64 1])∧w'=w:=by
 go_enter Tryz.func87,Tryz.ntmps87
 go_wp2
 exact bodyPost_ret (v:=.tuple #[.int .i64 3,.int .i64 0,.int .i64 1]) (by simp[results,Tryz.results87,go_sem]) rfl ⟨rfl,rfl⟩
theorem Ad (w:World):Calls Tryz.prog 87 #[.int .i64 3] w fun e w'=>e=.returned (.tuple #[.int .i64 0,.int .i64 1,.int .i64 2])∧w'=w:=by
 go_enter Tryz.func87,Tryz.ntmps87
 go_wp2
 exact bodyPost_ret (v:=.tuple #[.int .i64 0,.int .i64 1,.int .i64 2]) (by simp[results,Tryz.results87,go_sem]) rfl ⟨rfl,rfl⟩
theorem og {u:Nat->Nat->Int} (hL:Lf u) (w:World) :
  Calls Tryz.prog 36 #[.agg #[.float .f64 (wd (u 0 0)),.float .f64 (wd (u 0 1)),.float .f64 (wd (u 0 2)),.float .f64 (wd (u 1 0)),.float .f64 (wd (u 1 1)),.float .f64 (wd (u 1 2)),.float .f64 (wd (u 2 0)),.float .f64 (wd (u 2 1)),.float .f64 (wd (u 2 2)),.float .f64 (wd (u 3 0)),.float .f64 (wd (u 3 1)),.float .f64 (wd (u 3 2))]] w fun e w'=>e=.returned (.tuple #[.float .f64 (wd (dt u 0 1 2)),.float .f64 (wd (cw u 0 1 2))])∧Below w.heap.size w w':=by
 have CF:Hid (∀ W,Calls Tryz.prog 66 #[.agg #[.float .f64 (wd (u 0 0)),.float .f64 (wd (u 0 1)),.float .f64 (wd (u 0 2)),.float .f64 (wd (u 1 0)),.float .f64 (wd (u 1 1)),.float .f64 (wd (u 1 2)),.float .f64 (wd (u 2 0)),.float .f64 (wd (u 2 1)),.float .f64 (wd (u 2 2)),.float .f64 (wd (u 3 0)),.float .f64 (wd (u 3 1)),.float .f64 (wd (u 3 2))]] W fun e w'=>∃ arr,e=.returned (.agg arr)∧gx arr u∧Below W.heap.size W w'):=fun W=>oe hL W
 have CD:Hid (∀ arr g W,gx arr u->W.heap[g]?=some (.cells arr 103 (0,0))->Calls Tryz.prog 67 #[.pointer (some ⟨g,0,none⟩),.int .i64 0,.int .i64 1,.int .i64 2] W fun e w'=>e=.returned (.float .f64 (wd (dt u 0 1 2)))∧Below W.heap.size W w'):=fun arr g W h k=>jF hL (p:=0) (q:=1) (r:=2) (by decide) (by decide) (by decide) (by decide) (by decide) (by decide) h g W k
 have CS:Hid (∀ arr g W,gx arr u->W.heap[g]?=some (.cells arr 103 (0,0))->Calls Tryz.prog 68 #[.pointer (some ⟨g,0,none⟩),.int .i64 0,.int .i64 1,.int .i64 2] W fun e w'=>e=.returned (.float .f64 (wd (cw u 0 1 2)))∧Below W.heap.size W w'):=fun arr g W h k=>iK hL (p:=0) (q:=1) (r:=2) (by decide) (by decide) (by decide) (by decide) (by decide) (by decide) h g W k
 clear hL
 have hb0:=ah w (.cells #[.float .f64 (wd (u 0 0)),.float .f64 (wd (u 0 1)),.float .f64 (wd (u 0 2)),.float .f64 (wd (u 1 0)),.float .f64 (wd (u 1 1)),.float .f64 (wd (u 1 2)),.float .f64 (wd (u 2 0)),.float .f64 (wd (u 2 1)),.float .f64 (wd (u 2 2)),.float .f64 (wd (u 3 0)),.float .f64 (wd (u 3 1)),.float .f64 (wd (u 3 2))] 82)
 generalize wd (dt u 0 1 2)=D at *
 generalize wd (cw u 0 1 2)=S at *
 go_enter Tryz.func36,Tryz.ntmps36
 go_wp2_with fail
 generalize w.alloc (.cells #[.float .f64 (wd (u 0 0)),.float .f64 (wd (u 0 1)),.float .f64 (wd (u 0 2)),.float .f64 (wd (u 1 0)),.float .f64 (wd (u 1 1)),.float .f64 (wd (u 1 2)),.float .f64 (wd (u 2 0)),.float .f64 (wd (u 2 1)),.float .f64 (wd (u 2 2)),.float .f64 (wd (u 3 0)),.float .f64 (wd (u 3 1)),.float .f64 (wd (u 3 2))] 82)=x0 at hb0 ⊢
 refine(CF.out _).mono ?_
 rintro _ y1 ⟨arr,rfl,hA,hw⟩
 have hi:(Tryz.prog.info? 103).map (·.size)=some arr.size:=by rw[hA.n];kernel_rfl
 have h44:(#[.float .f64 0,.float .f64 0,.float .f64 0,.float .f64 0,.float .f64 0,.float .f64 0,.float .f64 0,.float .f64 0,.float .f64 0,.float .f64 0,.float .f64 0,.float .f64 0,.float .f64 0,.float .f64 0,.float .f64 0,.float .f64 0,.float .f64 0,.float .f64 0,.float .f64 0,.float .f64 0,.float .f64 0,.float .f64 0,.float .f64 0,.float .f64 0,.float .f64 0,.float .f64 0,.float .f64 0,.float .f64 0,.float .f64 0,.float .f64 0,.float .f64 0,.float .f64 0,.float .f64 0,.float .f64 0,.float .f64 0,.float .f64 0,.float .f64 0,.float .f64 0,.float .f64 0,.float .f64 0,.float .f64 0,.float .f64 0,.float .f64 0,.float .f64 0]:Array Value).size=arr.size:=hA.n.symm
 have ho:=hA.o
 replace hb0:=ac (ac hb0 hw) (ah y1 (.cells arr 103))
 have f_k:=aC y1 (.cells arr 103)
 dsimp only
 repeat (first|(refine wp_store_row 103 _ _ rfl y1.heap.size arr rfl rfl _ _ (aC y1 (.cells #[.float .f64 0,.float .f64 0,.float .f64 0,.float .f64 0,.float .f64 0,.float .f64 0,.float .f64 0,.float .f64 0,.float .f64 0,.float .f64 0,.float .f64 0,.float .f64 0,.float .f64 0,.float .f64 0,.float .f64 0,.float .f64 0,.float .f64 0,.float .f64 0,.float .f64 0,.float .f64 0,.float .f64 0,.float .f64 0,.float .f64 0,.float .f64 0,.float .f64 0,.float .f64 0,.float .f64 0,.float .f64 0,.float .f64 0,.float .f64 0,.float .f64 0,.float .f64 0,.float .f64 0,.float .f64 0,.float .f64 0,.float .f64 0,.float .f64 0,.float .f64 0,.float .f64 0,.float .f64 0,.float .f64 0,.float .f64 0,.float .f64 0,.float .f64 0] 103)) hi h44 ho ?_;rw[World.setRow_alloc_new];dsimp only[Act.put])|go_step)
 generalize y1.alloc (.cells arr 103)=x2 at hb0 f_k ⊢
 generalize y1.heap.size=fb at *
 clear hw ho h44 hi
 refine(CD.out _ _ _ hA f_k).mono ?_
 rintro _ y3 ⟨rfl,hw3⟩
 replace f_k:=am hw3 f_k
 go_wp2_with fail
 refine(CS.out _ _ _ hA f_k).mono ?_
 rintro _ y4 ⟨rfl,hw4⟩
 go_wp2
 exact bodyPost_ret (v:=.tuple #[.float .f64 D,.float .f64 S]) (by simp[results,Tryz.results36,go_sem]) rfl ⟨rfl,ac (ac hb0 hw3) hw4⟩
theorem sC {u:Nat->Nat->Int} (hL:Lf u) (w:World) :
  Calls Tryz.prog 59 #[.agg #[.float .f64 (wd (u 0 0)),.float .f64 (wd (u 0 1)),.float .f64 (wd (u 0 2)),.float .f64 (wd (u 1 0)),.float .f64 (wd (u 1 1)),.float .f64 (wd (u 1 2)),.float .f64 (wd (u 2 0)),.float .f64 (wd (u 2 1)),.float .f64 (wd (u 2 2)),.float .f64 (wd (u 3 0)),.float .f64 (wd (u 3 1)),.float .f64 (wd (u 3 2))]] w fun e w'=>e=.returned (.tuple #[.float .f64 (wd (fD u)),.float .f64 (wd (fS u))])∧Below w.heap.size w w':=by
 have CF:Hid (∀ W,Calls Tryz.prog 66 #[.agg #[.float .f64 (wd (u 0 0)),.float .f64 (wd (u 0 1)),.float .f64 (wd (u 0 2)),.float .f64 (wd (u 1 0)),.float .f64 (wd (u 1 1)),.float .f64 (wd (u 1 2)),.float .f64 (wd (u 2 0)),.float .f64 (wd (u 2 1)),.float .f64 (wd (u 2 2)),.float .f64 (wd (u 3 0)),.float .f64 (wd (u 3 1)),.float .f64 (wd (u 3 2))]] W fun e w'=>∃ arr,e=.returned (.agg arr)∧gx arr u∧Below W.heap.size W w'):=fun W=>oe hL W
 have CL0:Hid (∀ arr g W,gx arr u->W.heap[g]?=some (.cells arr 103 (0,0))->Calls Tryz.prog 88 #[.pointer (some ⟨g,0,none⟩),.int .i64 0] W fun e w'=>e=.returned (.float .f64 (wd (lf u 0)))∧Below W.heap.size W w'):=fun arr g W h k=>jT hL (p:=0) (by decide) h g W k
 have CD0:Hid (∀ arr g W,gx arr u->W.heap[g]?=some (.cells arr 103 (0,0))->Calls Tryz.prog 67 #[.pointer (some ⟨g,0,none⟩),.int .i64 1,.int .i64 2,.int .i64 3] W fun e w'=>e=.returned (.float .f64 (wd (dt u 1 2 3)))∧Below W.heap.size W w'):=fun arr g W h k=>jF hL (p:=1) (q:=2) (r:=3) (by decide) (by decide) (by decide) (by decide) (by decide) (by decide) h g W k
 have CS0:Hid (∀ arr g W,gx arr u->W.heap[g]?=some (.cells arr 103 (0,0))->Calls Tryz.prog 68 #[.pointer (some ⟨g,0,none⟩),.int .i64 3,.int .i64 1,.int .i64 2] W fun e w'=>e=.returned (.float .f64 (wd (cw u 3 1 2)))∧Below W.heap.size W w'):=fun arr g W h k=>iK hL (p:=3) (q:=1) (r:=2) (by decide) (by decide) (by decide) (by decide) (by decide) (by decide) h g W k
 have CL1:Hid (∀ arr g W,gx arr u->W.heap[g]?=some (.cells arr 103 (0,0))->Calls Tryz.prog 88 #[.pointer (some ⟨g,0,none⟩),.int .i64 1] W fun e w'=>e=.returned (.float .f64 (wd (lf u 1)))∧Below W.heap.size W w'):=fun arr g W h k=>jT hL (p:=1) (by decide) h g W k
 have CD1:Hid (∀ arr g W,gx arr u->W.heap[g]?=some (.cells arr 103 (0,0))->Calls Tryz.prog 67 #[.pointer (some ⟨g,0,none⟩),.int .i64 2,.int .i64 3,.int .i64 0] W fun e w'=>e=.returned (.float .f64 (wd (dt u 2 3 0)))∧Below W.heap.size W w'):=fun arr g W h k=>jF hL (p:=2) (q:=3) (r:=0) (by decide) (by decide) (by decide) (by decide) (by decide) (by decide) h g W k
 have CS1:Hid (∀ arr g W,gx arr u->W.heap[g]?=some (.cells arr 103 (0,0))->Calls Tryz.prog 68 #[.pointer (some ⟨g,0,none⟩),.int .i64 0,.int .i64 2,.int .i64 3] W fun e w'=>e=.returned (.float .f64 (wd (cw u 0 2 3)))∧Below W.heap.size W w'):=fun arr g W h k=>iK hL (p:=0) (q:=2) (r:=3) (by decide) (by decide) (by decide) (by decide) (by decide) (by decide) h g W k
 have CL2:Hid (∀ arr g W,gx arr u->W.heap[g]?=some (.cells arr 103 (0,0))->Calls Tryz.prog 88 #[.pointer (some ⟨g,0,none⟩),.int .i64 2] W fun e w'=>e=.returned (.float .f64 (wd (lf u 2)))∧Below W.heap.size W w'):=fun arr g W h k=>jT hL (p:=2) (by decide) h g W k
 have CD2:Hid (∀ arr g W,gx arr u->W.heap[g]?=some (.cells arr 103 (0,0))->Calls Tryz.prog 67 #[.pointer (some ⟨g,0,none⟩),.int .i64 3,.int .i64 0,.int .i64 1] W fun e w'=>e=.returned (.float .f64 (wd (dt u 3 0 1)))∧Below W.heap.size W w'):=fun arr g W h k=>jF hL (p:=3) (q:=0) (r:=1) (by decide) (by decide) (by decide) (by decide) (by decide) (by decide) h g W k
 have CS2:Hid (∀ arr g W,gx arr u->W.heap[g]?=some (.cells arr 103 (0,0))->Calls Tryz.prog 68 #[.pointer (some ⟨g,0,none⟩),.int .i64 1,.int .i64 3,.int .i64 0] W fun e w'=>e=.returned (.float .f64 (wd (cw u 1 3 0)))∧Below W.heap.size W w'):=fun arr g W h k=>iK hL (p:=1) (q:=3) (r:=0) (by decide) (by decide) (by decide) (by decide) (by decide) (by decide) h g W k
 have CL3:Hid (∀ arr g W,gx arr u->W.heap[g]?=some (.cells arr 103 (0,0))->Calls Tryz.prog 88 #[.pointer (some ⟨g,0,none⟩),.int .i64 3] W fun e w'=>e=.returned (.float .f64 (wd (lf u 3)))∧Below W.heap.size W w'):=fun arr g W h k=>jT hL (p:=3) (by decide) h g W k
 have CD3:Hid (∀ arr g W,gx arr u->W.heap[g]?=some (.cells arr 103 (0,0))->Calls Tryz.prog 67 #[.pointer (some ⟨g,0,none⟩),.int .i64 0,.int .i64 1,.int .i64 2] W fun e w'=>e=.returned (.float .f64 (wd (dt u 0 1 2)))∧Below W.heap.size W w'):=fun arr g W h k=>jF hL (p:=0) (q:=1) (r:=2) (by decide) (by decide) (by decide) (by decide) (by decide) (by decide) h g W k
 have CS3:Hid (∀ arr g W,gx arr u->W.heap[g]?=some (.cells arr 103 (0,0))->Calls Tryz.prog 68 #[.pointer (some ⟨g,0,none⟩),.int .i64 2,.int .i64 0,.int .i64 1] W fun e w'=>e=.returned (.float .f64 (wd (cw u 2 0 1)))∧Below W.heap.size W w'):=fun arr g W h k=>iK hL (p:=2) (q:=0) (r:=1) (by decide) (by decide) (by decide) (by decide) (by decide) (by decide) h g W k
 have fl0:=(jc (hL.lg (p:=0) (by decide))).1
 have fd0:=(gz (hL.lg (p:=1) (by decide)) (hL.lg (p:=2) (by decide)) (hL.lg (p:=3) (by decide))).1
 have fs0:=(fT (hL.lg (p:=3) (by decide)) (hL.lg (p:=1) (by decide)) (hL.lg (p:=2) (by decide))).1
 have ft0:=(gA (hL.lg (p:=0) (by decide)) (hL.lg (p:=1) (by decide)) (hL.lg (p:=2) (by decide)) (hL.lg (p:=3) (by decide))).1
 have fz0:=(gB (hL.lg (p:=0) (by decide)) (hL.lg (p:=1) (by decide)) (hL.lg (p:=2) (by decide)) (hL.lg (p:=3) (by decide))).1
 have m0:∀ W,(binOp .mul 54 (.float .f64 (wd (lf u 0))) (.float .f64 (wd (dt u 1 2 3)))).run Tryz.prog W=.ok (.float .f64 (wd (tt u 0 1 2 3))) W:=cX fl0 fd0 ft0.p
 have n0:∀ W,(binOp .mul 54 (.float .f64 (wd (cw u 3 1 2))) (.float .f64 (wd (lf u 0)))).run Tryz.prog W=.ok (.float .f64 (wd (ts u 0 1 2 3))) W:=cX fs0 fl0 fz0.p
 have fl1:=(jc (hL.lg (p:=1) (by decide))).1
 have fd1:=(gz (hL.lg (p:=2) (by decide)) (hL.lg (p:=3) (by decide)) (hL.lg (p:=0) (by decide))).1
 have fs1:=(fT (hL.lg (p:=0) (by decide)) (hL.lg (p:=2) (by decide)) (hL.lg (p:=3) (by decide))).1
 have ft1:=(gA (hL.lg (p:=1) (by decide)) (hL.lg (p:=2) (by decide)) (hL.lg (p:=3) (by decide)) (hL.lg (p:=0) (by decide))).1
 have fz1:=(gB (hL.lg (p:=1) (by decide)) (hL.lg (p:=2) (by decide)) (hL.lg (p:=3) (by decide)) (hL.lg (p:=0) (by decide))).1
 have m1:∀ W,(binOp .mul 54 (.float .f64 (wd (lf u 1))) (.float .f64 (wd (dt u 2 3 0)))).run Tryz.prog W=.ok (.float .f64 (wd (tt u 1 2 3 0))) W:=cX fl1 fd1 ft1.p
 have n1:∀ W,(binOp .mul 54 (.float .f64 (wd (cw u 0 2 3))) (.float .f64 (wd (lf u 1)))).run Tryz.prog W=.ok (.float .f64 (wd (ts u 1 2 3 0))) W:=cX fs1 fl1 fz1.p
 have fl2:=(jc (hL.lg (p:=2) (by decide))).1
 have fd2:=(gz (hL.lg (p:=3) (by decide)) (hL.lg (p:=0) (by decide)) (hL.lg (p:=1) (by decide))).1
 have fs2:=(fT (hL.lg (p:=1) (by decide)) (hL.lg (p:=3) (by decide)) (hL.lg (p:=0) (by decide))).1
 have ft2:=(gA (hL.lg (p:=2) (by decide)) (hL.lg (p:=3) (by decide)) (hL.lg (p:=0) (by decide)) (hL.lg (p:=1) (by decide))).1
 have fz2:=(gB (hL.lg (p:=2) (by decide)) (hL.lg (p:=3) (by decide)) (hL.lg (p:=0) (by decide)) (hL.lg (p:=1) (by decide))).1
 have m2:∀ W,(binOp .mul 54 (.float .f64 (wd (lf u 2))) (.float .f64 (wd (dt u 3 0 1)))).run Tryz.prog W=.ok (.float .f64 (wd (tt u 2 3 0 1))) W:=cX fl2 fd2 ft2.p
 have n2:∀ W,(binOp .mul 54 (.float .f64 (wd (cw u 1 3 0))) (.float .f64 (wd (lf u 2)))).run Tryz.prog W=.ok (.float .f64 (wd (ts u 2 3 0 1))) W:=cX fs2 fl2 fz2.p
 have fl3:=(jc (hL.lg (p:=3) (by decide))).1
 have fd3:=(gz (hL.lg (p:=0) (by decide)) (hL.lg (p:=1) (by decide)) (hL.lg (p:=2) (by decide))).1
 have fs3:=(fT (hL.lg (p:=2) (by decide)) (hL.lg (p:=0) (by decide)) (hL.lg (p:=1) (by decide))).1
 have ft3:=(gA (hL.lg (p:=3) (by decide)) (hL.lg (p:=0) (by decide)) (hL.lg (p:=1) (by decide)) (hL.lg (p:=2) (by decide))).1
 have fz3:=(gB (hL.lg (p:=3) (by decide)) (hL.lg (p:=0) (by decide)) (hL.lg (p:=1) (by decide)) (hL.lg (p:=2) (by decide))).1
 have m3:∀ W,(binOp .mul 54 (.float .f64 (wd (lf u 3))) (.float .f64 (wd (dt u 0 1 2)))).run Tryz.prog W=.ok (.float .f64 (wd (tt u 3 0 1 2))) W:=cX fl3 fd3 ft3.p
 have n3:∀ W,(binOp .mul 54 (.float .f64 (wd (cw u 2 0 1))) (.float .f64 (wd (lf u 3)))).run Tryz.prog W=.ok (.float .f64 (wd (ts u 3 0 1 2))) W:=cX fs3 fl3 fz3.p
 have hg:∀ p,p<4->Lg (fun p k=>iV (u p k)) u p:=fun p hp=>hL.lg hp
 obtain⟨g0,-⟩:=jm fz0 (by decide)
 obtain⟨g1,-⟩:=g0.sum fz1 (by decide)
 obtain⟨g2,-⟩:=g1.sum (fz2.up (show 1848<=1850 by decide)) (by decide)
 have a0:=ew (fE (a:=0) (b:=0)) fz0 g0.p
 have a1:=ew g0 fz1 g1.p
 have a2:=ew g1 fz2 g2.p
 have a3:∀ W,(binOp .add 54 (.float .f64 (wd (aE (aE (aE 0 (ts u 0 1 2 3)) (ts u 1 2 3 0)) (ts u 2 3 0 1)))) (.float .f64 (wd (ts u 3 0 1 2)))).run Tryz.prog W=.ok (.float .f64 (wd (fS u))) W:=ew g2 fz3 (mF hg).1.p
 rw[zl] at a0
 obtain⟨h1,-⟩:=ft3.sum ft2.neg.1 (by decide)
 obtain⟨h2,-⟩:=ft1.sum ft0.neg.1 (by decide)
 have s1:=kt ft3 ft2 h1.p
 have s2:=kt ft1 ft0 h2.p
 have s3:∀ W,(binOp .add 54 (.float .f64 (wd (aE (tt u 3 0 1 2) (neg (tt u 2 3 0 1))))) (.float .f64 (wd (aE (tt u 1 2 3 0) (neg (tt u 0 1 2 3)))))).run Tryz.prog W=.ok (.float .f64 (wd (fD u))) W:=ew h1 h2 (lm hg).1.p
 clear hg g0 g1 g2 h1 h2
 clear fl0 fd0 fs0 ft0 fz0
 clear fl1 fd1 fs1 ft1 fz1
 clear fl2 fd2 fs2 ft2 fz2
 clear fl3 fd3 fs3 ft3 fz3
 have hb0:=ah w (.cells #[.float .f64 (wd (u 0 0)),.float .f64 (wd (u 0 1)),.float .f64 (wd (u 0 2)),.float .f64 (wd (u 1 0)),.float .f64 (wd (u 1 1)),.float .f64 (wd (u 1 2)),.float .f64 (wd (u 2 0)),.float .f64 (wd (u 2 1)),.float .f64 (wd (u 2 2)),.float .f64 (wd (u 3 0)),.float .f64 (wd (u 3 1)),.float .f64 (wd (u 3 2))] 82)
 clear hL
 generalize wd (fS u)=S4 at *
 generalize wd (fD u)=D at *
 generalize wd (aE (aE (aE 0 (ts u 0 1 2 3)) (ts u 1 2 3 0)) (ts u 2 3 0 1))=S3 at *
 generalize wd (aE (aE 0 (ts u 0 1 2 3)) (ts u 1 2 3 0))=S2 at *
 generalize wd (aE 0 (ts u 0 1 2 3))=S1 at *
 generalize wd (aE (tt u 3 0 1 2) (neg (tt u 2 3 0 1)))=D1 at *
 generalize wd (aE (tt u 1 2 3 0) (neg (tt u 0 1 2 3)))=D2 at *
 generalize wd (tt u 0 1 2 3)=T0 at *
 generalize wd (ts u 0 1 2 3)=Z0 at *
 generalize wd (lf u 0)=L0 at *
 generalize wd (dt u 1 2 3)=E0 at *
 generalize wd (cw u 3 1 2)=X0 at *
 generalize wd (tt u 1 2 3 0)=T1 at *
 generalize wd (ts u 1 2 3 0)=Z1 at *
 generalize wd (lf u 1)=L1 at *
 generalize wd (dt u 2 3 0)=E1 at *
 generalize wd (cw u 0 2 3)=X1 at *
 generalize wd (tt u 2 3 0 1)=T2 at *
 generalize wd (ts u 2 3 0 1)=Z2 at *
 generalize wd (lf u 2)=L2 at *
 generalize wd (dt u 3 0 1)=E2 at *
 generalize wd (cw u 1 3 0)=X2 at *
 generalize wd (tt u 3 0 1 2)=T3 at *
 generalize wd (ts u 3 0 1 2)=Z3 at *
 generalize wd (lf u 3)=L3 at *
 generalize wd (dt u 0 1 2)=E3 at *
 generalize wd (cw u 2 0 1)=X3 at *
 go_enter Tryz.func59,Tryz.ntmps59
 go_wp2_with fail
 generalize w.alloc (.cells #[.float .f64 (wd (u 0 0)),.float .f64 (wd (u 0 1)),.float .f64 (wd (u 0 2)),.float .f64 (wd (u 1 0)),.float .f64 (wd (u 1 1)),.float .f64 (wd (u 1 2)),.float .f64 (wd (u 2 0)),.float .f64 (wd (u 2 1)),.float .f64 (wd (u 2 2)),.float .f64 (wd (u 3 0)),.float .f64 (wd (u 3 1)),.float .f64 (wd (u 3 2))] 82)=x0 at hb0 ⊢
 refine(CF.out _).mono ?_
 rintro _ y1 ⟨arr,rfl,hA,hw⟩
 have hi:(Tryz.prog.info? 103).map (·.size)=some arr.size:=by rw[hA.n];kernel_rfl
 have h44:(#[.float .f64 0,.float .f64 0,.float .f64 0,.float .f64 0,.float .f64 0,.float .f64 0,.float .f64 0,.float .f64 0,.float .f64 0,.float .f64 0,.float .f64 0,.float .f64 0,.float .f64 0,.float .f64 0,.float .f64 0,.float .f64 0,.float .f64 0,.float .f64 0,.float .f64 0,.float .f64 0,.float .f64 0,.float .f64 0,.float .f64 0,.float .f64 0,.float .f64 0,.float .f64 0,.float .f64 0,.float .f64 0,.float .f64 0,.float .f64 0,.float .f64 0,.float .f64 0,.float .f64 0,.float .f64 0,.float .f64 0,.float .f64 0,.float .f64 0,.float .f64 0,.float .f64 0,.float .f64 0,.float .f64 0,.float .f64 0,.float .f64 0,.float .f64 0]:Array Value).size=arr.size:=hA.n.symm
 have ho:=hA.o
 have hB:w.heap.size<=y1.heap.size:=Nat.le_trans hb0.size hw.size
 replace hb0:=ac (ac hb0 hw) (aO y1 (.cells arr 103) (.cells #[.float .f64 0,.float .f64 0,.float .f64 0,.float .f64 0] 123))
 have f_k:=bX y1 (.cells arr 103) (.cells #[.float .f64 0,.float .f64 0,.float .f64 0,.float .f64 0] 123)
 have t_k:=bP y1 (.cells arr 103) (.cells #[.float .f64 0,.float .f64 0,.float .f64 0,.float .f64 0] 123)
 dsimp only
 iterate 5 go_step
 refine wp_store_row 103 _ _ rfl y1.heap.size arr rfl rfl _ _ (aC y1 (.cells #[.float .f64 0,.float .f64 0,.float .f64 0,.float .f64 0,.float .f64 0,.float .f64 0,.float .f64 0,.float .f64 0,.float .f64 0,.float .f64 0,.float .f64 0,.float .f64 0,.float .f64 0,.float .f64 0,.float .f64 0,.float .f64 0,.float .f64 0,.float .f64 0,.float .f64 0,.float .f64 0,.float .f64 0,.float .f64 0,.float .f64 0,.float .f64 0,.float .f64 0,.float .f64 0,.float .f64 0,.float .f64 0,.float .f64 0,.float .f64 0,.float .f64 0,.float .f64 0,.float .f64 0,.float .f64 0,.float .f64 0,.float .f64 0,.float .f64 0,.float .f64 0,.float .f64 0,.float .f64 0,.float .f64 0,.float .f64 0,.float .f64 0,.float .f64 0] 103)) hi h44 ho ?_
 rw[World.setRow_alloc_new]
 dsimp only[Act.put]
 go_wp2_with fail
 have hfb:y1.heap.size≠y1.heap.size+1:=by omega
 have hst:∀ p x m w,(store p (.float .f64 x) m).run Tryz.prog w=stored Tryz.prog w p (.float .f64 x) m:=fun p x m w=>run_store _ w p _ m rfl
 generalize (y1.alloc (.cells arr 103)).alloc (.cells #[.float .f64 0,.float .f64 0,.float .f64 0,.float .f64 0] 123)=x2 at hb0 f_k t_k ⊢
 go_loopw [13,3] (fun i x wr=>wr.heap[y1.heap.size]?=some (.cells arr 103 (0,0))∧Below w.heap.size w wr∧((i=.int .i64 0∧x=.float .f64 0∧wr.heap[y1.heap.size+1]?=some (.cells #[.float .f64 0,.float .f64 0,.float .f64 0,.float .f64 0] 123 (0,0)))∨(i=.int .i64 1∧x=.float .f64 S1∧wr.heap[y1.heap.size+1]?=some (.cells #[.float .f64 T0,.float .f64 0,.float .f64 0,.float .f64 0] 123 (0,0)))∨(i=.int .i64 2∧x=.float .f64 S2∧wr.heap[y1.heap.size+1]?=some (.cells #[.float .f64 T0,.float .f64 T1,.float .f64 0,.float .f64 0] 123 (0,0)))∨(i=.int .i64 3∧x=.float .f64 S3∧wr.heap[y1.heap.size+1]?=some (.cells #[.float .f64 T0,.float .f64 T1,.float .f64 T2,.float .f64 0] 123 (0,0)))∨(i=.int .i64 4∧x=.float .f64 S4∧wr.heap[y1.heap.size+1]?=some (.cells #[.float .f64 T0,.float .f64 T1,.float .f64 T2,.float .f64 T3] 123 (0,0))))) (fun i _ _=>4-(intOf i).toNat)
 case atStart=>exact⟨f_k,hb0,.inl ⟨rfl,rfl,t_k⟩⟩
 case round=>
  clear f_k t_k hb0
  obtain⟨f_k,hb0,hrel⟩:=hrel
  have hge:w.heap.size<=y1.heap.size+1:=by omega
  rcases hrel with⟨rfl,rfl,t_k⟩|⟨rfl,rfl,t_k⟩|⟨rfl,rfl,t_k⟩|⟨rfl,rfl,t_k⟩|⟨rfl,rfl,t_k⟩
  ·go_wp2_with fail
   refine(Aa _).mono ?_
   rintro _ wz ⟨rfl,hwz⟩
   replace hwz:=hwz.symm
   subst hwz
   go_wp2_with fail
   refine(CL0.out _ _ _ hA f_k).mono ?_
   rintro _ y3 ⟨rfl,hw3⟩
   replace f_k:=am hw3 f_k
   replace t_k:=am hw3 t_k
   replace hb0:=ac hb0 hw3
   clear hw3
   go_wp2_with fail
   refine(CD0.out _ _ _ hA f_k).mono ?_
   rintro _ y4 ⟨rfl,hw4⟩
   replace f_k:=am hw4 f_k
   replace t_k:=am hw4 t_k
   replace hb0:=ac hb0 hw4
   clear hw4
   have e1:=af t_k 0 rfl
   have e2:=av t_k 0
   go_wp2_with fail
   clear e1 e2
   replace f_k:=aA f_k hfb 0 (.float .f64 T0)
   replace t_k:=ap t_k 0 (.float .f64 T0)
   replace hb0:=hb0.setCell (p:=⟨y1.heap.size+1,0,none⟩) hge (.float .f64 T0)
   change (y4.setCell ⟨y1.heap.size+1,0,none⟩ (.float .f64 T0)).heap[y1.heap.size+1]?=some (.cells #[.float .f64 T0,.float .f64 0,.float .f64 0,.float .f64 0] 123 (0,0)) at t_k
   generalize y4.setCell ⟨y1.heap.size+1,0,none⟩ (.float .f64 T0)=x5 at f_k t_k hb0 ⊢
   refine(CS0.out _ _ _ hA f_k).mono ?_
   rintro _ y6 ⟨rfl,hw6⟩
   replace f_k:=am hw6 f_k
   replace t_k:=am hw6 t_k
   replace hb0:=ac hb0 hw6
   clear hw6
   go_wp2_with fail
   go_roundw
   case rel=>exact⟨f_k,hb0,.inr (.inl ⟨by go_num,rfl,t_k⟩)⟩
   case measure=>simp[intOf]
  ·go_wp2_with fail
   refine(Ab _).mono ?_
   rintro _ wz ⟨rfl,hwz⟩
   replace hwz:=hwz.symm
   subst hwz
   go_wp2_with fail
   refine(CL1.out _ _ _ hA f_k).mono ?_
   rintro _ y3 ⟨rfl,hw3⟩
   replace f_k:=am hw3 f_k
   replace t_k:=am hw3 t_k
   replace hb0:=ac hb0 hw3
   clear hw3
   go_wp2_with fail
   refine(CD1.out _ _ _ hA f_k).mono ?_
   rintro _ y4 ⟨rfl,hw4⟩
   replace f_k:=am hw4 f_k
   replace t_k:=am hw4 t_k
   replace hb0:=ac hb0 hw4
   clear hw4
   have e1:=af t_k 1 rfl
   have e2:=av t_k 1
   go_wp2_with fail
   clear e1 e2
   replace f_k:=aA f_k hfb 1 (.float .f64 T1)
   replace t_k:=ap t_k 1 (.float .f64 T1)
   replace hb0:=hb0.setCell (p:=⟨y1.heap.size+1,1,none⟩) hge (.float .f64 T1)
   change (y4.setCell ⟨y1.heap.size+1,1,none⟩ (.float .f64 T1)).heap[y1.heap.size+1]?=some (.cells #[.float .f64 T0,.float .f64 T1,.float .f64 0,.float .f64 0] 123 (0,0)) at t_k
   generalize y4.setCell ⟨y1.heap.size+1,1,none⟩ (.float .f64 T1)=x5 at f_k t_k hb0 ⊢
   refine(CS1.out _ _ _ hA f_k).mono ?_
   rintro _ y6 ⟨rfl,hw6⟩
   replace f_k:=am hw6 f_k
   replace t_k:=am hw6 t_k
   replace hb0:=ac hb0 hw6
   clear hw6
   go_wp2_with fail
   go_roundw
   case rel=>exact⟨f_k,hb0,.inr (.inr (.inl ⟨by go_num,rfl,t_k⟩))⟩
   case measure=>simp[intOf]
  ·go_wp2_with fail
   refine(Ac _).mono ?_
   rintro _ wz ⟨rfl,hwz⟩
   replace hwz:=hwz.symm
   subst hwz
   go_wp2_with fail
   refine(CL2.out _ _ _ hA f_k).mono ?_
   rintro _ y3 ⟨rfl,hw3⟩
   replace f_k:=am hw3 f_k
   replace t_k:=am hw3 t_k
   replace hb0:=ac hb0 hw3
   clear hw3
   go_wp2_with fail
   refine(CD2.out _ _ _ hA f_k).mono ?_
   rintro _ y4 ⟨rfl,hw4⟩
   replace f_k:=am hw4 f_k
   replace t_k:=am hw4 t_k
   replace hb0:=ac hb0 hw4
   clear hw4
   have e1:=af t_k 2 rfl
   have e2:=av t_k 2
   go_wp2_with fail
   clear e1 e2
   replace f_k:=aA f_k hfb 2 (.float .f64 T2)
   replace t_k:=ap t_k 2 (.float .f64 T2)
   replace hb0:=hb0.setCell (p:=⟨y1.heap.size+1,2,none⟩) hge (.float .f64 T2)
   change (y4.setCell ⟨y1.heap.size+1,2,none⟩ (.float .f64 T2)).heap[y1.heap.size+1]?=some (.cells #[.float .f64 T0,.float .f64 T1,.float .f64 T2,.float .f64 0] 123 (0,0)) at t_k
   generalize y4.setCell ⟨y1.heap.size+1,2,none⟩ (.float .f64 T2)=x5 at f_k t_k hb0 ⊢
   refine(CS2.out _ _ _ hA f_k).mono ?_
   rintro _ y6 ⟨rfl,hw6⟩
   replace f_k:=am hw6 f_k
   replace t_k:=am hw6 t_k
   replace hb0:=ac hb0 hw6
   clear hw6
   go_wp2_with fail
   go_roundw
   case rel=>exact⟨f_k,hb0,.inr (.inr (.inr (.inl ⟨by go_num,rfl,t_k⟩)))⟩
   case measure=>simp[intOf]
  ·go_wp2_with fail
   refine(Ad _).mono ?_
   rintro _ wz ⟨rfl,hwz⟩
   replace hwz:=hwz.symm
   subst hwz
   go_wp2_with fail
   refine(CL3.out _ _ _ hA f_k).mono ?_
   rintro _ y3 ⟨rfl,hw3⟩
   replace f_k:=am hw3 f_k
   replace t_k:=am hw3 t_k
   replace hb0:=ac hb0 hw3
   clear hw3
   go_wp2_with fail
   refine(CD3.out _ _ _ hA f_k).mono ?_
   rintro _ y4 ⟨rfl,hw4⟩
   replace f_k:=am hw4 f_k
   replace t_k:=am hw4 t_k
   replace hb0:=ac hb0 hw4
   clear hw4
   have e1:=af t_k 3 rfl
   have e2:=av t_k 3
   go_wp2_with fail
   clear e1 e2
   replace f_k:=aA f_k hfb 3 (.float .f64 T3)
   replace t_k:=ap t_k 3 (.float .f64 T3)
   replace hb0:=hb0.setCell (p:=⟨y1.heap.size+1,3,none⟩) hge (.float .f64 T3)
   change (y4.setCell ⟨y1.heap.size+1,3,none⟩ (.float .f64 T3)).heap[y1.heap.size+1]?=some (.cells #[.float .f64 T0,.float .f64 T1,.float .f64 T2,.float .f64 T3] 123 (0,0)) at t_k
   generalize y4.setCell ⟨y1.heap.size+1,3,none⟩ (.float .f64 T3)=x5 at f_k t_k hb0 ⊢
   refine(CS3.out _ _ _ hA f_k).mono ?_
   rintro _ y6 ⟨rfl,hw6⟩
   replace f_k:=am hw6 f_k
   replace t_k:=am hw6 t_k
   replace hb0:=ac hb0 hw6
   clear hw6
   go_wp2_with fail
   go_roundw
   case rel=>exact⟨f_k,hb0,.inr (.inr (.inr (.inr (⟨by go_num,rfl,t_k⟩))))⟩
   case measure=>simp[intOf]
  ·have e0:=af t_k 0 rfl
   have e1:=af t_k 1 rfl
   have e2:=af t_k 2 rfl
   have e3:=af t_k 3 rfl
   go_wp2
   exact bodyPost_ret (v:=.tuple #[.float .f64 D,.float .f64 S4]) (by simp[results,Tryz.results59,go_sem]) rfl ⟨rfl,hb0⟩
end Go.Proofs.YtcklaogdjpbagaaGreatDoor
