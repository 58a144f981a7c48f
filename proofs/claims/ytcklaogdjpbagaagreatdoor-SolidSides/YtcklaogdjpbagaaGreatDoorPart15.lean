/- Parts of the proof. -/
import Derived.Test.YtcklaogdjpbagaaGreatDoorPart12
import Derived.Deep.WholeRow
import Derived.Laws.CopyOwn
import Derived.Test.YtcklaogdjpbagaaGreatDoorPart11
set_option linter.unusedVariables false
set_option linter.unusedSimpArgs false
namespace Go.Proofs.YtcklaogdjpbagaaGreatDoor
open Go Go.RowKit Go.Proofs.YtcklaogdjpbagaaGreatDoor.M
theorem lgA_at (u:Nat->Nat->Int):∀ p,p<4->∀ k,k<3->(#[.float .f64 (wd (u 0 0)),.float .f64 (wd (u 0 1)),.float .f64 (wd (u 0 2)),.float .f64 (wd (u 1 0)),.float .f64 (wd (u 1 1)),.float .f64 (wd (u 1 2)),.float .f64 (wd (u 2 0)),.float .f64 (wd (u 2 1)),.float .f64 (wd (u 2 2)),.float .f64 (wd (u 3 0)),.float .f64 (wd (u 3 1)),.float .f64 (wd (u 3 2))]:Array Value)[p*3+k]?=some (.float .f64 (wd (u p k)))
  | 0,_,0,_=>rfl
  | 0,_,1,_=>rfl
  | 0,_,2,_=>rfl
  | 1,_,0,_=>rfl
  | 1,_,1,_=>rfl
  | 1,_,2,_=>rfl
  | 2,_,0,_=>rfl
  | 2,_,1,_=>rfl
  | 2,_,2,_=>rfl
  | 3,_,0,_=>rfl
  | 3,_,1,_=>rfl
  | 3,_,2,_=>rfl
theorem frA_at (u:Nat->Nat->Int):∀ p,p<4->∀ k,k<3->(#[.float .f64 (wd (u 0 0)),.float .f64 (wd (u 0 1)),.float .f64 (wd (u 0 2)),.float .f64 (wd (u 1 0)),.float .f64 (wd (u 1 1)),.float .f64 (wd (u 1 2)),.float .f64 (wd (u 2 0)),.float .f64 (wd (u 2 1)),.float .f64 (wd (u 2 2)),.float .f64 (wd (u 3 0)),.float .f64 (wd (u 3 1)),.float .f64 (wd (u 3 2)),.float .f64 0,.float .f64 0,.float .f64 0,.float .f64 0,.float .f64 0,.float .f64 0,.float .f64 0,.float .f64 0,.float .f64 0,.float .f64 0,.float .f64 0,.float .f64 0,.float .f64 0,.float .f64 0,.float .f64 0,.float .f64 0,.float .f64 0,.float .f64 0,.float .f64 0,.float .f64 0,.float .f64 0,.float .f64 0,.float .f64 0,.float .f64 0,.float .f64 0,.float .f64 0,.float .f64 0,.float .f64 0,.float .f64 0,.float .f64 0,.float .f64 0,.float .f64 0]:Array Value)[p*3+k]?=some (.float .f64 (wd (u p k)))
  | 0,_,0,_=>rfl
  | 0,_,1,_=>rfl
  | 0,_,2,_=>rfl
  | 1,_,0,_=>rfl
  | 1,_,1,_=>rfl
  | 1,_,2,_=>rfl
  | 2,_,0,_=>rfl
  | 2,_,1,_=>rfl
  | 2,_,2,_=>rfl
  | 3,_,0,_=>rfl
  | 3,_,1,_=>rfl
  | 3,_,2,_=>rfl
structure FrN (arr:Array Value) (u:Nat->Nat->Int) (Q P:Nat):Prop where
  n:arr.size=44
  o:arr.all (·.oneCell')=true
  l:∀ p,p<4->∀ k,k<3->arr[p*3+k]?=some (.float .f64 (wd (u p k)))
  m:∀ a b,a<b->b<4->(b<Q∨(b=Q∧a<P))->arr[12+a*8+b*2]?=some (.float .f64 (wd (mn u a b)))∧arr[12+a*8+b*2+1]?=some (.float .f64 (wd (sz u a b)))∧arr[12+b*8+a*2]?=some (.float .f64 (wd (mn u b a)))∧arr[12+b*8+a*2+1]?=some (.float .f64 (wd (sz u b a)))
theorem get_set (arr:Array Value) (i j:Nat) (v:Value) (h:i<arr.size):(arr.setIfInBounds i v)[j]?=if i=j then some v else arr[j]?:=by
  rw [Array.getElem?_setIfInBounds]
  by_cases e:i=j
  . subst e
    simp [h]
  . simp [e]
theorem heap_ne {W:World} {g k:Nat} {X:Obj} (h:W.heap[k]?=some X) (hn:k≠g) (o:Nat) (v:Value):(W.setCell ⟨g,o,none⟩ v).heap[k]?=some X:=by
  have:=(Wr.refl g W).setCell o v
  exact (this.block k (Array.getElem?_eq_some_iff.1 h).1 hn).trans h
theorem all_set {arr:Array Value} (h:arr.all (·.oneCell')=true) (i:Nat) {v:Value} (hv:v.oneCell'=true):(arr.setIfInBounds i v).all (·.oneCell')=true:=by
  rw [Array.all_eq_true_iff_forall_mem] at h ⊢
  intro x hx
  rcases Array.mem_or_eq_of_mem_setIfInBounds hx with e | e
  . exact h x e
  . rw [e]; exact hv
theorem FrN.step {arr:Array Value} {u:Nat->Nat->Int} {q p:Nat} (h:FrN arr u q p) (pq:p<q) (q4:q<4) :
    FrN ((((arr.setIfInBounds (12+p*8+q*2) (.float .f64 (wd (mn u p q)))).setIfInBounds (12+p*8+q*2+1) (.float .f64 (wd (sz u p q)))).setIfInBounds (12+q*8+p*2) (.float .f64 (wd (mn u q p)))).setIfInBounds (12+q*8+p*2+1) (.float .f64 (wd (sz u q p)))) u q (p+1):=by
  have hn:=h.n
  have g:∀ j,((((arr.setIfInBounds (12+p*8+q*2) (.float .f64 (wd (mn u p q)))).setIfInBounds (12+p*8+q*2+1) (.float .f64 (wd (sz u p q)))).setIfInBounds (12+q*8+p*2) (.float .f64 (wd (mn u q p)))).setIfInBounds (12+q*8+p*2+1) (.float .f64 (wd (sz u q p))))[j]? =
      if 12+q*8+p*2+1=j then some (.float .f64 (wd (sz u q p))) else if 12+q*8+p*2=j then some (.float .f64 (wd (mn u q p))) else if 12+p*8+q*2+1=j then some (.float .f64 (wd (sz u p q))) else if 12+p*8+q*2=j then some (.float .f64 (wd (mn u p q))) else arr[j]?:=fun j=>by
    rw [get_set _ _ _ _ (by simp only [Array.size_setIfInBounds]; omega),get_set _ _ _ _ (by simp only [Array.size_setIfInBounds]; omega),get_set _ _ _ _ (by simp only [Array.size_setIfInBounds]; omega),get_set _ _ _ _ (by omega)]
  refine ⟨by simp only [Array.size_setIfInBounds]; exact hn,all_set (all_set (all_set (all_set h.o _ rfl) _ rfl) _ rfl) _ rfl,fun a ha k hk=>?_,fun a b ab b4 hc=>?_⟩
  . rw [g,if_neg (by omega),if_neg (by omega),if_neg (by omega),if_neg (by omega)]
    exact h.l a ha k hk
  . by_cases e:a=p∧b=q
    . obtain ⟨rfl,rfl⟩:=e
      refine ⟨?_,?_,?_,?_⟩
      . rw [g,if_neg (by omega),if_neg (by omega),if_neg (by omega),if_pos rfl]
      . rw [g,if_neg (by omega),if_neg (by omega),if_pos rfl]
      . rw [g,if_neg (by omega),if_pos rfl]
      . rw [g,if_pos rfl]
    . obtain ⟨h1,h2,h3,h4⟩:=h.m a b ab b4 (by omega)
      refine ⟨?_,?_,?_,?_⟩
      . rw [g,if_neg (by omega),if_neg (by omega),if_neg (by omega),if_neg (by omega)]; exact h1
      . rw [g,if_neg (by omega),if_neg (by omega),if_neg (by omega),if_neg (by omega)]; exact h2
      . rw [g,if_neg (by omega),if_neg (by omega),if_neg (by omega),if_neg (by omega)]; exact h3
      . rw [g,if_neg (by omega),if_neg (by omega),if_neg (by omega),if_neg (by omega)]; exact h4
theorem FrN.all {arr:Array Value} {u:Nat->Nat->Int} (h:FrN arr u 4 0):FrA arr u:=by
  refine ⟨h.n,h.o,h.l,fun p hp q hq pq=>?_,fun p hp q hq pq=>?_⟩
  . rcases Nat.lt_or_gt_of_ne pq with c | c
    . exact (h.m p q c hq (.inl hq)).1
    . exact (h.m q p c hp (.inl hp)).2.2.1
  . rcases Nat.lt_or_gt_of_ne pq with c | c
    . exact (h.m p q c hq (.inl hq)).2.1
    . exact (h.m q p c hp (.inl hp)).2.2.2
set_option maxRecDepth 100000 in
set_option maxHeartbeats 1000000 in
theorem sframe_any {u:Nat->Nat->Int} (hL:Lf u) (w:World) :
    Calls Tryz.prog 66 #[.agg #[.float .f64 (wd (u 0 0)),.float .f64 (wd (u 0 1)),.float .f64 (wd (u 0 2)),.float .f64 (wd (u 1 0)),.float .f64 (wd (u 1 1)),.float .f64 (wd (u 1 2)),.float .f64 (wd (u 2 0)),.float .f64 (wd (u 2 1)),.float .f64 (wd (u 2 2)),.float .f64 (wd (u 3 0)),.float .f64 (wd (u 3 1)),.float .f64 (wd (u 3 2))]] w fun e w'=>∃ arr,e=.returned (.agg arr)∧FrA arr u∧Below w.heap.size w w':=by
  go_enter Tryz.func66,Tryz.ntmps66
  iterate 15 go_step
  have hb0:=bel_alloc2 w (.cells #[.float .f64 (wd (u 0 0)),.float .f64 (wd (u 0 1)),.float .f64 (wd (u 0 2)),.float .f64 (wd (u 1 0)),.float .f64 (wd (u 1 1)),.float .f64 (wd (u 1 2)),.float .f64 (wd (u 2 0)),.float .f64 (wd (u 2 1)),.float .f64 (wd (u 2 2)),.float .f64 (wd (u 3 0)),.float .f64 (wd (u 3 1)),.float .f64 (wd (u 3 2))] 82) (.cells #[.float .f64 0,.float .f64 0,.float .f64 0,.float .f64 0,.float .f64 0,.float .f64 0,.float .f64 0,.float .f64 0,.float .f64 0,.float .f64 0,.float .f64 0,.float .f64 0,.float .f64 0,.float .f64 0,.float .f64 0,.float .f64 0,.float .f64 0,.float .f64 0,.float .f64 0,.float .f64 0,.float .f64 0,.float .f64 0,.float .f64 0,.float .f64 0,.float .f64 0,.float .f64 0,.float .f64 0,.float .f64 0,.float .f64 0,.float .f64 0,.float .f64 0,.float .f64 0,.float .f64 0,.float .f64 0,.float .f64 0,.float .f64 0,.float .f64 0,.float .f64 0,.float .f64 0,.float .f64 0,.float .f64 0,.float .f64 0,.float .f64 0,.float .f64 0] 103)
  have l_k:=heap_a2 w (.cells #[.float .f64 (wd (u 0 0)),.float .f64 (wd (u 0 1)),.float .f64 (wd (u 0 2)),.float .f64 (wd (u 1 0)),.float .f64 (wd (u 1 1)),.float .f64 (wd (u 1 2)),.float .f64 (wd (u 2 0)),.float .f64 (wd (u 2 1)),.float .f64 (wd (u 2 2)),.float .f64 (wd (u 3 0)),.float .f64 (wd (u 3 1)),.float .f64 (wd (u 3 2))] 82) (.cells #[.float .f64 0,.float .f64 0,.float .f64 0,.float .f64 0,.float .f64 0,.float .f64 0,.float .f64 0,.float .f64 0,.float .f64 0,.float .f64 0,.float .f64 0,.float .f64 0,.float .f64 0,.float .f64 0,.float .f64 0,.float .f64 0,.float .f64 0,.float .f64 0,.float .f64 0,.float .f64 0,.float .f64 0,.float .f64 0,.float .f64 0,.float .f64 0,.float .f64 0,.float .f64 0,.float .f64 0,.float .f64 0,.float .f64 0,.float .f64 0,.float .f64 0,.float .f64 0,.float .f64 0,.float .f64 0,.float .f64 0,.float .f64 0,.float .f64 0,.float .f64 0,.float .f64 0,.float .f64 0,.float .f64 0,.float .f64 0,.float .f64 0,.float .f64 0] 103)
  have r_k:=heap_b2 w (.cells #[.float .f64 (wd (u 0 0)),.float .f64 (wd (u 0 1)),.float .f64 (wd (u 0 2)),.float .f64 (wd (u 1 0)),.float .f64 (wd (u 1 1)),.float .f64 (wd (u 1 2)),.float .f64 (wd (u 2 0)),.float .f64 (wd (u 2 1)),.float .f64 (wd (u 2 2)),.float .f64 (wd (u 3 0)),.float .f64 (wd (u 3 1)),.float .f64 (wd (u 3 2))] 82) (.cells #[.float .f64 0,.float .f64 0,.float .f64 0,.float .f64 0,.float .f64 0,.float .f64 0,.float .f64 0,.float .f64 0,.float .f64 0,.float .f64 0,.float .f64 0,.float .f64 0,.float .f64 0,.float .f64 0,.float .f64 0,.float .f64 0,.float .f64 0,.float .f64 0,.float .f64 0,.float .f64 0,.float .f64 0,.float .f64 0,.float .f64 0,.float .f64 0,.float .f64 0,.float .f64 0,.float .f64 0,.float .f64 0,.float .f64 0,.float .f64 0,.float .f64 0,.float .f64 0,.float .f64 0,.float .f64 0,.float .f64 0,.float .f64 0,.float .f64 0,.float .f64 0,.float .f64 0,.float .f64 0,.float .f64 0,.float .f64 0,.float .f64 0,.float .f64 0] 103)
  generalize (w.alloc (.cells #[.float .f64 (wd (u 0 0)),.float .f64 (wd (u 0 1)),.float .f64 (wd (u 0 2)),.float .f64 (wd (u 1 0)),.float .f64 (wd (u 1 1)),.float .f64 (wd (u 1 2)),.float .f64 (wd (u 2 0)),.float .f64 (wd (u 2 1)),.float .f64 (wd (u 2 2)),.float .f64 (wd (u 3 0)),.float .f64 (wd (u 3 1)),.float .f64 (wd (u 3 2))] 82)).alloc (.cells #[.float .f64 0,.float .f64 0,.float .f64 0,.float .f64 0,.float .f64 0,.float .f64 0,.float .f64 0,.float .f64 0,.float .f64 0,.float .f64 0,.float .f64 0,.float .f64 0,.float .f64 0,.float .f64 0,.float .f64 0,.float .f64 0,.float .f64 0,.float .f64 0,.float .f64 0,.float .f64 0,.float .f64 0,.float .f64 0,.float .f64 0,.float .f64 0,.float .f64 0,.float .f64 0,.float .f64 0,.float .f64 0,.float .f64 0,.float .f64 0,.float .f64 0,.float .f64 0,.float .f64 0,.float .f64 0,.float .f64 0,.float .f64 0,.float .f64 0,.float .f64 0,.float .f64 0,.float .f64 0,.float .f64 0,.float .f64 0,.float .f64 0,.float .f64 0] 103)=x0 at hb0 l_k r_k ⊢
  refine wp_load_row 82 _ rfl w.heap.size rfl _ _ _ _ l_k Tryz.underlying82 rfl (by kernel_rfl) ?_
  dsimp only [Act.put]
  have rk0:=r_k
  iterate 8 go_step
  have f_k0:=heap_a1 x0 (.cells #[.float .f64 0,.float .f64 0,.float .f64 0,.float .f64 0,.float .f64 0,.float .f64 0,.float .f64 0,.float .f64 0,.float .f64 0,.float .f64 0,.float .f64 0,.float .f64 0,.float .f64 0,.float .f64 0,.float .f64 0,.float .f64 0,.float .f64 0,.float .f64 0,.float .f64 0,.float .f64 0,.float .f64 0,.float .f64 0,.float .f64 0,.float .f64 0,.float .f64 0,.float .f64 0,.float .f64 0,.float .f64 0,.float .f64 0,.float .f64 0,.float .f64 0,.float .f64 0,.float .f64 0,.float .f64 0,.float .f64 0,.float .f64 0,.float .f64 0,.float .f64 0,.float .f64 0,.float .f64 0,.float .f64 0,.float .f64 0,.float .f64 0,.float .f64 0] 103)
  refine wp_store_row 103 _ _ rfl x0.heap.size #[.float .f64 (wd (u 0 0)),.float .f64 (wd (u 0 1)),.float .f64 (wd (u 0 2)),.float .f64 (wd (u 1 0)),.float .f64 (wd (u 1 1)),.float .f64 (wd (u 1 2)),.float .f64 (wd (u 2 0)),.float .f64 (wd (u 2 1)),.float .f64 (wd (u 2 2)),.float .f64 (wd (u 3 0)),.float .f64 (wd (u 3 1)),.float .f64 (wd (u 3 2)),.float .f64 0,.float .f64 0,.float .f64 0,.float .f64 0,.float .f64 0,.float .f64 0,.float .f64 0,.float .f64 0,.float .f64 0,.float .f64 0,.float .f64 0,.float .f64 0,.float .f64 0,.float .f64 0,.float .f64 0,.float .f64 0,.float .f64 0,.float .f64 0,.float .f64 0,.float .f64 0,.float .f64 0,.float .f64 0,.float .f64 0,.float .f64 0,.float .f64 0,.float .f64 0,.float .f64 0,.float .f64 0,.float .f64 0,.float .f64 0,.float .f64 0,.float .f64 0] rfl rfl _ _ f_k0 (by kernel_rfl) rfl (by kernel_rfl) ?_
  rw [World.setRow_alloc_new]
  dsimp only [Act.put]
  clear f_k0
  have f_k:=heap_a1 x0 (.cells #[.float .f64 (wd (u 0 0)),.float .f64 (wd (u 0 1)),.float .f64 (wd (u 0 2)),.float .f64 (wd (u 1 0)),.float .f64 (wd (u 1 1)),.float .f64 (wd (u 1 2)),.float .f64 (wd (u 2 0)),.float .f64 (wd (u 2 1)),.float .f64 (wd (u 2 2)),.float .f64 (wd (u 3 0)),.float .f64 (wd (u 3 1)),.float .f64 (wd (u 3 2)),.float .f64 0,.float .f64 0,.float .f64 0,.float .f64 0,.float .f64 0,.float .f64 0,.float .f64 0,.float .f64 0,.float .f64 0,.float .f64 0,.float .f64 0,.float .f64 0,.float .f64 0,.float .f64 0,.float .f64 0,.float .f64 0,.float .f64 0,.float .f64 0,.float .f64 0,.float .f64 0,.float .f64 0,.float .f64 0,.float .f64 0,.float .f64 0,.float .f64 0,.float .f64 0,.float .f64 0,.float .f64 0,.float .f64 0,.float .f64 0,.float .f64 0,.float .f64 0] 103)
  replace l_k:=heap_past (.cells #[.float .f64 (wd (u 0 0)),.float .f64 (wd (u 0 1)),.float .f64 (wd (u 0 2)),.float .f64 (wd (u 1 0)),.float .f64 (wd (u 1 1)),.float .f64 (wd (u 1 2)),.float .f64 (wd (u 2 0)),.float .f64 (wd (u 2 1)),.float .f64 (wd (u 2 2)),.float .f64 (wd (u 3 0)),.float .f64 (wd (u 3 1)),.float .f64 (wd (u 3 2)),.float .f64 0,.float .f64 0,.float .f64 0,.float .f64 0,.float .f64 0,.float .f64 0,.float .f64 0,.float .f64 0,.float .f64 0,.float .f64 0,.float .f64 0,.float .f64 0,.float .f64 0,.float .f64 0,.float .f64 0,.float .f64 0,.float .f64 0,.float .f64 0,.float .f64 0,.float .f64 0,.float .f64 0,.float .f64 0,.float .f64 0,.float .f64 0,.float .f64 0,.float .f64 0,.float .f64 0,.float .f64 0,.float .f64 0,.float .f64 0,.float .f64 0,.float .f64 0] 103) l_k
  replace r_k:=heap_past (.cells #[.float .f64 (wd (u 0 0)),.float .f64 (wd (u 0 1)),.float .f64 (wd (u 0 2)),.float .f64 (wd (u 1 0)),.float .f64 (wd (u 1 1)),.float .f64 (wd (u 1 2)),.float .f64 (wd (u 2 0)),.float .f64 (wd (u 2 1)),.float .f64 (wd (u 2 2)),.float .f64 (wd (u 3 0)),.float .f64 (wd (u 3 1)),.float .f64 (wd (u 3 2)),.float .f64 0,.float .f64 0,.float .f64 0,.float .f64 0,.float .f64 0,.float .f64 0,.float .f64 0,.float .f64 0,.float .f64 0,.float .f64 0,.float .f64 0,.float .f64 0,.float .f64 0,.float .f64 0,.float .f64 0,.float .f64 0,.float .f64 0,.float .f64 0,.float .f64 0,.float .f64 0,.float .f64 0,.float .f64 0,.float .f64 0,.float .f64 0,.float .f64 0,.float .f64 0,.float .f64 0,.float .f64 0,.float .f64 0,.float .f64 0,.float .f64 0,.float .f64 0] 103) r_k
  have hsz:w.heap.size+1<x0.heap.size:=(Array.getElem?_eq_some_iff.1 (show x0.heap[w.heap.size+1]?=_ from rk0)).1
  replace hb0:=bel_trans hb0 (bel_alloc x0 (.cells #[.float .f64 (wd (u 0 0)),.float .f64 (wd (u 0 1)),.float .f64 (wd (u 0 2)),.float .f64 (wd (u 1 0)),.float .f64 (wd (u 1 1)),.float .f64 (wd (u 1 2)),.float .f64 (wd (u 2 0)),.float .f64 (wd (u 2 1)),.float .f64 (wd (u 2 2)),.float .f64 (wd (u 3 0)),.float .f64 (wd (u 3 1)),.float .f64 (wd (u 3 2)),.float .f64 0,.float .f64 0,.float .f64 0,.float .f64 0,.float .f64 0,.float .f64 0,.float .f64 0,.float .f64 0,.float .f64 0,.float .f64 0,.float .f64 0,.float .f64 0,.float .f64 0,.float .f64 0,.float .f64 0,.float .f64 0,.float .f64 0,.float .f64 0,.float .f64 0,.float .f64 0,.float .f64 0,.float .f64 0,.float .f64 0,.float .f64 0,.float .f64 0,.float .f64 0,.float .f64 0,.float .f64 0,.float .f64 0,.float .f64 0,.float .f64 0,.float .f64 0] 103))
  have HN:FrN #[.float .f64 (wd (u 0 0)),.float .f64 (wd (u 0 1)),.float .f64 (wd (u 0 2)),.float .f64 (wd (u 1 0)),.float .f64 (wd (u 1 1)),.float .f64 (wd (u 1 2)),.float .f64 (wd (u 2 0)),.float .f64 (wd (u 2 1)),.float .f64 (wd (u 2 2)),.float .f64 (wd (u 3 0)),.float .f64 (wd (u 3 1)),.float .f64 (wd (u 3 2)),.float .f64 0,.float .f64 0,.float .f64 0,.float .f64 0,.float .f64 0,.float .f64 0,.float .f64 0,.float .f64 0,.float .f64 0,.float .f64 0,.float .f64 0,.float .f64 0,.float .f64 0,.float .f64 0,.float .f64 0,.float .f64 0,.float .f64 0,.float .f64 0,.float .f64 0,.float .f64 0,.float .f64 0,.float .f64 0,.float .f64 0,.float .f64 0,.float .f64 0,.float .f64 0,.float .f64 0,.float .f64 0,.float .f64 0,.float .f64 0,.float .f64 0,.float .f64 0] u 0 0:=⟨rfl,by kernel_rfl,frA_at u,fun a b ab b4 hc=>by omega⟩
  generalize x0.alloc (.cells #[.float .f64 (wd (u 0 0)),.float .f64 (wd (u 0 1)),.float .f64 (wd (u 0 2)),.float .f64 (wd (u 1 0)),.float .f64 (wd (u 1 1)),.float .f64 (wd (u 1 2)),.float .f64 (wd (u 2 0)),.float .f64 (wd (u 2 1)),.float .f64 (wd (u 2 2)),.float .f64 (wd (u 3 0)),.float .f64 (wd (u 3 1)),.float .f64 (wd (u 3 2)),.float .f64 0,.float .f64 0,.float .f64 0,.float .f64 0,.float .f64 0,.float .f64 0,.float .f64 0,.float .f64 0,.float .f64 0,.float .f64 0,.float .f64 0,.float .f64 0,.float .f64 0,.float .f64 0,.float .f64 0,.float .f64 0,.float .f64 0,.float .f64 0,.float .f64 0,.float .f64 0,.float .f64 0,.float .f64 0,.float .f64 0,.float .f64 0,.float .f64 0,.float .f64 0,.float .f64 0,.float .f64 0,.float .f64 0,.float .f64 0,.float .f64 0,.float .f64 0] 103)=x1 at hb0 l_k r_k f_k ⊢
  generalize (#[.float .f64 (wd (u 0 0)),.float .f64 (wd (u 0 1)),.float .f64 (wd (u 0 2)),.float .f64 (wd (u 1 0)),.float .f64 (wd (u 1 1)),.float .f64 (wd (u 1 2)),.float .f64 (wd (u 2 0)),.float .f64 (wd (u 2 1)),.float .f64 (wd (u 2 2)),.float .f64 (wd (u 3 0)),.float .f64 (wd (u 3 1)),.float .f64 (wd (u 3 2)),.float .f64 0,.float .f64 0,.float .f64 0,.float .f64 0,.float .f64 0,.float .f64 0,.float .f64 0,.float .f64 0,.float .f64 0,.float .f64 0,.float .f64 0,.float .f64 0,.float .f64 0,.float .f64 0,.float .f64 0,.float .f64 0,.float .f64 0,.float .f64 0,.float .f64 0,.float .f64 0,.float .f64 0,.float .f64 0,.float .f64 0,.float .f64 0,.float .f64 0,.float .f64 0,.float .f64 0,.float .f64 0,.float .f64 0,.float .f64 0,.float .f64 0,.float .f64 0]:Array Value)=arr0 at f_k HN
  have hl:=lgA_at u
  generalize (#[.float .f64 (wd (u 0 0)),.float .f64 (wd (u 0 1)),.float .f64 (wd (u 0 2)),.float .f64 (wd (u 1 0)),.float .f64 (wd (u 1 1)),.float .f64 (wd (u 1 2)),.float .f64 (wd (u 2 0)),.float .f64 (wd (u 2 1)),.float .f64 (wd (u 2 2)),.float .f64 (wd (u 3 0)),.float .f64 (wd (u 3 1)),.float .f64 (wd (u 3 2))]:Array Value)=larr at l_k hl ⊢
  generalize x0.heap.size=fb at *
  clear rk0
  go_wp2_with fail
  go_loopw [11] (fun i wr=>∃ q:Nat,q<=4∧i=.int .i64 q∧∃ arr,Hid (FrN arr u q 0)∧wr.heap[fb]?=some (.cells arr 103 (0,0))∧wr.heap[w.heap.size]?=some (.cells larr 82 (0,0))∧wr.heap[w.heap.size+1]?=some (.cells #[.float .f64 0,.float .f64 0,.float .f64 0,.float .f64 0,.float .f64 0,.float .f64 0,.float .f64 0,.float .f64 0,.float .f64 0,.float .f64 0,.float .f64 0,.float .f64 0,.float .f64 0,.float .f64 0,.float .f64 0,.float .f64 0,.float .f64 0,.float .f64 0,.float .f64 0,.float .f64 0,.float .f64 0,.float .f64 0,.float .f64 0,.float .f64 0,.float .f64 0,.float .f64 0,.float .f64 0,.float .f64 0,.float .f64 0,.float .f64 0,.float .f64 0,.float .f64 0,.float .f64 0,.float .f64 0,.float .f64 0,.float .f64 0,.float .f64 0,.float .f64 0,.float .f64 0,.float .f64 0,.float .f64 0,.float .f64 0,.float .f64 0,.float .f64 0] 103 (0,0))∧Below w.heap.size w wr) (fun i _=>4-(intOf i).toNat)
  case atStart=>exact ⟨0,by omega,rfl,arr0,HN,f_k,l_k,r_k,hb0⟩
  case round=>
    clear f_k l_k r_k hb0 HN
    obtain ⟨q,hq,rfl,arr,HN,f_k,l_k,r_k,hbw⟩:=hrel
    by_cases q4:q<4
    . have q4':(q:Int)<4:=by omega
      go_wp2_with fail
      go_loopw [15] (fun i wr=>∃ p:Nat,p<=q∧i=.int .i64 p∧∃ arr,Hid (FrN arr u q p)∧wr.heap[fb]?=some (.cells arr 103 (0,0))∧wr.heap[w.heap.size]?=some (.cells larr 82 (0,0))∧wr.heap[w.heap.size+1]?=some (.cells #[.float .f64 0,.float .f64 0,.float .f64 0,.float .f64 0,.float .f64 0,.float .f64 0,.float .f64 0,.float .f64 0,.float .f64 0,.float .f64 0,.float .f64 0,.float .f64 0,.float .f64 0,.float .f64 0,.float .f64 0,.float .f64 0,.float .f64 0,.float .f64 0,.float .f64 0,.float .f64 0,.float .f64 0,.float .f64 0,.float .f64 0,.float .f64 0,.float .f64 0,.float .f64 0,.float .f64 0,.float .f64 0,.float .f64 0,.float .f64 0,.float .f64 0,.float .f64 0,.float .f64 0,.float .f64 0,.float .f64 0,.float .f64 0,.float .f64 0,.float .f64 0,.float .f64 0,.float .f64 0,.float .f64 0,.float .f64 0,.float .f64 0,.float .f64 0] 103 (0,0))∧Below w.heap.size w wr) (fun i _=>q-(intOf i).toNat)
      case atStart=>exact ⟨0,by omega,rfl,arr,HN,f_k,l_k,r_k,hbw⟩
      case round=>
        clear f_k l_k r_k hbw HN
        obtain ⟨p,hp,rfl,arr,HN,f_k,l_k,r_k,hbw⟩:=hrel
        by_cases pq:p<q
        . have gp:=hL.lg (show p<4 by omega)
          have gq:=hL.lg q4
          obtain ⟨fl,-⟩:=pL_fx gp gq
          obtain ⟨fr,-⟩:=pL_fx gq gp
          have h1:=mul_run (gp.f 0 (by decide)) (gq.f 1 (by decide)) fl.p
          have h2:=mul_run (gq.f 0 (by decide)) (gp.f 1 (by decide)) fr.p
          have h3:=add_run fl.abs.1 fr.abs.1 (sz_sz gp gq).1.p
          have h4:=sub_run fl fr (mn_dv gp gq).1.p
          have h5:=sub_run fr fl (mn_dv gq gp).1.p
          have CA:Hid (∀ W,Calls Tryz.prog 43 #[.float .f64 (wd (pL u p q))] W fun e w'=>e=.returned (.float .f64 (wd (rg (pL u p q))))∧w'=W):=fun W=>mathAbs fl.r W
          have CB:Hid (∀ W,Calls Tryz.prog 43 #[.float .f64 (wd (pL u q p))] W fun e w'=>e=.returned (.float .f64 (wd (rg (pL u q p))))∧w'=W):=fun W=>mathAbs fr.r W
          have esz:Hid (sz u q p=sz u p q):=sz_comm gq gp
          change ∀ W,(binOp .mul 54 (.float .f64 (wd (u p 0))) (.float .f64 (wd (u q 1)))).run Tryz.prog W=.ok (.float .f64 (wd (pL u p q))) W at h1
          change ∀ W,(binOp .mul 54 (.float .f64 (wd (u q 0))) (.float .f64 (wd (u p 1)))).run Tryz.prog W=.ok (.float .f64 (wd (pL u q p))) W at h2
          change ∀ W,(binOp .add 54 (.float .f64 (wd (rg (pL u p q)))) (.float .f64 (wd (rg (pL u q p))))).run Tryz.prog W=.ok (.float .f64 (wd (sz u p q))) W at h3
          change ∀ W,(binOp .sub 54 (.float .f64 (wd (pL u p q))) (.float .f64 (wd (pL u q p)))).run Tryz.prog W=.ok (.float .f64 (wd (mn u p q))) W at h4
          change ∀ W,(binOp .sub 54 (.float .f64 (wd (pL u q p))) (.float .f64 (wd (pL u p q)))).run Tryz.prog W=.ok (.float .f64 (wd (mn u q p))) W at h5
          clear gp gq fl fr
          have c1:=blkC l_k _ (hl p (by omega) 0 (by decide))
          have c2:=blkC l_k _ (hl q (by omega) 1 (by decide))
          have c3:=blkC l_k _ (hl q (by omega) 0 (by decide))
          have c4:=blkC l_k _ (hl p (by omega) 1 (by decide))
          rw [Nat.add_zero] at c1 c3
          have p4':(p:Int)<4:=by omega
          have pq':(p:Int)<q:=by omega
          go_wp2_with fail
          go_quiet (fail)
          go_wp2_with fail
          have hd:=bDrewN (bel_refl wr) nq
          replace f_k:=blk_us hd f_k
          replace l_k:=blk_us hd l_k
          replace r_k:=blk_us hd r_k
          replace hbw:=bel_trans hbw hd
          clear c1 c2 c3 c4 hd
          generalize wr.drewN nq=w1 at *
          refine (CA.out _).mono ?_
          rintro _ wz ⟨rfl,hwz⟩
          replace hwz:=hwz.symm
          subst hwz
          go_wp2_with fail
          refine (CB.out _).mono ?_
          rintro _ wz ⟨rfl,hwz⟩
          replace hwz:=hwz.symm
          subst hwz
          have hn:=HN.out.n
          have hst:∀ p x m w,(store p (.float .f64 x) m).run Tryz.prog w=stored Tryz.prog w p (.float .f64 x) m:=fun p x m w=>run_store _ w p _ m rfl
          have z1:=blkF f_k (12+p*8+q*2)
          have z2:=blkF f_k (12+p*8+q*2+1)
          have z3:=blkF f_k (12+q*8+p*2)
          have z4:=blkF f_k (12+q*8+p*2+1)
          obtain ⟨v1,e1⟩:∃ v,arr[12+p*8+q*2]?=some v:=⟨_,Array.getElem?_eq_getElem (by omega)⟩
          obtain ⟨v2,e2⟩:∃ v,arr[12+p*8+q*2+1]?=some v:=⟨_,Array.getElem?_eq_getElem (by omega)⟩
          obtain ⟨v3,e3⟩:∃ v,arr[12+q*8+p*2]?=some v:=⟨_,Array.getElem?_eq_getElem (by omega)⟩
          obtain ⟨v4,e4⟩:∃ v,arr[12+q*8+p*2+1]?=some v:=⟨_,Array.getElem?_eq_getElem (by omega)⟩
          have d1:=blkC f_k _ e1
          have d2:=blkC f_k _ e2
          have d3:=blkC f_k _ e3
          have d4:=blkC f_k _ e4
          clear e1 e2 e3 e4
          have HN':Hid (FrN ((((arr.setIfInBounds (12+p*8+q*2) (.float .f64 (wd (mn u p q)))).setIfInBounds (12+p*8+q*2+1) (.float .f64 (wd (sz u p q)))).setIfInBounds (12+q*8+p*2) (.float .f64 (wd (mn u q p)))).setIfInBounds (12+q*8+p*2+1) (.float .f64 (wd (sz u p q)))) u q (p+1)):=by
            have:=HN.out.step pq q4
            rw [esz.out] at this
            exact this
          have hge:w.heap.size<=fb:=by omega
          have hne:w.heap.size≠fb:=by omega
          have hne1:w.heap.size+1≠fb:=by omega
          go_wp2_with fail
          go_roundw
          case rel=>exact ⟨p+1,by omega,by go_num,_,HN',heap_set (heap_set (heap_set (heap_set f_k _ _) _ _) _ _) _ _,heap_ne (heap_ne (heap_ne (heap_ne l_k hne _ _) hne _ _) hne _ _) hne _ _,heap_ne (heap_ne (heap_ne (heap_ne r_k hne1 _ _) hne1 _ _) hne1 _ _) hne1 _ _,(((hbw.setCell (p:=⟨fb,_,none⟩) hge _).setCell (p:=⟨fb,_,none⟩) hge _).setCell (p:=⟨fb,_,none⟩) hge _).setCell (p:=⟨fb,_,none⟩) hge _⟩
          case measure=>simp [intOf]; omega
        . obtain rfl:p=q:=by omega
          have HN':Hid (FrN arr u (p+1) 0):=⟨HN.out.n,HN.out.o,HN.out.l,fun a b ab b4 hc=>HN.out.m a b ab b4 (by omega)⟩
          go_wp2_with fail
          go_roundw
          case rel=>exact ⟨p+1,by omega,by go_num,arr,HN',f_k,l_k,r_k,hbw⟩
          case measure=>simp [intOf]; omega
    . obtain rfl:q=4:=by omega
      have hi:(Tryz.prog.info? 103).map (·.size)=some arr.size:=by rw [HN.out.n]; kernel_rfl
      have h44:(#[.float .f64 0,.float .f64 0,.float .f64 0,.float .f64 0,.float .f64 0,.float .f64 0,.float .f64 0,.float .f64 0,.float .f64 0,.float .f64 0,.float .f64 0,.float .f64 0,.float .f64 0,.float .f64 0,.float .f64 0,.float .f64 0,.float .f64 0,.float .f64 0,.float .f64 0,.float .f64 0,.float .f64 0,.float .f64 0,.float .f64 0,.float .f64 0,.float .f64 0,.float .f64 0,.float .f64 0,.float .f64 0,.float .f64 0,.float .f64 0,.float .f64 0,.float .f64 0,.float .f64 0,.float .f64 0,.float .f64 0,.float .f64 0,.float .f64 0,.float .f64 0,.float .f64 0,.float .f64 0,.float .f64 0,.float .f64 0,.float .f64 0,.float .f64 0]:Array Value).size=arr.size:=HN.out.n.symm
      have ho:=HN.out.o
      repeat (first | (refine wp_load_row 103 _ rfl fb rfl _ _ _ _ f_k Tryz.underlying103 rfl hi ?_; dsimp only [Act.put]) | (refine wp_store_row 103 _ _ rfl (w.heap.size+1) arr rfl rfl _ _ r_k hi h44 ho ?_; dsimp only [Act.put]) | go_step)
      have r_k2:=setRow_heap _ _ _ arr _ _ r_k
      exact bodyPost_ret (v:=.agg arr) (results_cell_row Tryz.results66 _ _ (w.heap.size+1) 103 arr (0,0) _ (by simp) r_k2 Tryz.underlying103 rfl hi) rfl ⟨_,rfl,HN.out.all,below_setRow hbw (by omega) _⟩
set_option maxRecDepth 100000 in
set_option maxHeartbeats 1000000 in
theorem ssideF_any {u:Nat->Nat->Int} (hL:Lf u) (w:World) :
    Calls Tryz.prog 36 #[.agg #[.float .f64 (wd (u 0 0)),.float .f64 (wd (u 0 1)),.float .f64 (wd (u 0 2)),.float .f64 (wd (u 1 0)),.float .f64 (wd (u 1 1)),.float .f64 (wd (u 1 2)),.float .f64 (wd (u 2 0)),.float .f64 (wd (u 2 1)),.float .f64 (wd (u 2 2)),.float .f64 (wd (u 3 0)),.float .f64 (wd (u 3 1)),.float .f64 (wd (u 3 2))]] w fun e w'=>e=.returned (.tuple #[.float .f64 (wd (dt u 0 1 2)),.float .f64 (wd (sxz u 0 1 2))])∧Below w.heap.size w w':=by
  have CF:Hid (∀ W,Calls Tryz.prog 66 #[.agg #[.float .f64 (wd (u 0 0)),.float .f64 (wd (u 0 1)),.float .f64 (wd (u 0 2)),.float .f64 (wd (u 1 0)),.float .f64 (wd (u 1 1)),.float .f64 (wd (u 1 2)),.float .f64 (wd (u 2 0)),.float .f64 (wd (u 2 1)),.float .f64 (wd (u 2 2)),.float .f64 (wd (u 3 0)),.float .f64 (wd (u 3 1)),.float .f64 (wd (u 3 2))]] W fun e w'=>∃ arr,e=.returned (.agg arr)∧FrA arr u∧Below W.heap.size W w'):=fun W=>sframe_any hL W
  have CD:Hid (∀ arr g W,FrA arr u->W.heap[g]?=some (.cells arr 103 (0,0))->Calls Tryz.prog 67 #[.pointer (some ⟨g,0,none⟩),.int .i64 0,.int .i64 1,.int .i64 2] W fun e w'=>e=.returned (.float .f64 (wd (dt u 0 1 2)))∧Below W.heap.size W w'):=fun arr g W h k=>sdet_any hL (p:=0) (q:=1) (r:=2) (by decide) (by decide) (by decide) (by decide) (by decide) (by decide) h g W k
  have CS:Hid (∀ arr g W,FrA arr u->W.heap[g]?=some (.cells arr 103 (0,0))->Calls Tryz.prog 68 #[.pointer (some ⟨g,0,none⟩),.int .i64 0,.int .i64 1,.int .i64 2] W fun e w'=>e=.returned (.float .f64 (wd (sxz u 0 1 2)))∧Below W.heap.size W w'):=fun arr g W h k=>ssize_any hL (p:=0) (q:=1) (r:=2) (by decide) (by decide) (by decide) (by decide) (by decide) (by decide) h g W k
  clear hL
  have hb0:=bel_alloc w (.cells #[.float .f64 (wd (u 0 0)),.float .f64 (wd (u 0 1)),.float .f64 (wd (u 0 2)),.float .f64 (wd (u 1 0)),.float .f64 (wd (u 1 1)),.float .f64 (wd (u 1 2)),.float .f64 (wd (u 2 0)),.float .f64 (wd (u 2 1)),.float .f64 (wd (u 2 2)),.float .f64 (wd (u 3 0)),.float .f64 (wd (u 3 1)),.float .f64 (wd (u 3 2))] 82)
  generalize wd (dt u 0 1 2)=D at *
  generalize wd (sxz u 0 1 2)=S at *
  go_enter Tryz.func36,Tryz.ntmps36
  go_wp2_with fail
  generalize w.alloc (.cells #[.float .f64 (wd (u 0 0)),.float .f64 (wd (u 0 1)),.float .f64 (wd (u 0 2)),.float .f64 (wd (u 1 0)),.float .f64 (wd (u 1 1)),.float .f64 (wd (u 1 2)),.float .f64 (wd (u 2 0)),.float .f64 (wd (u 2 1)),.float .f64 (wd (u 2 2)),.float .f64 (wd (u 3 0)),.float .f64 (wd (u 3 1)),.float .f64 (wd (u 3 2))] 82)=x0 at hb0 ⊢
  refine (CF.out _).mono ?_
  rintro _ y1 ⟨arr,rfl,hA,hw⟩
  have hi:(Tryz.prog.info? 103).map (·.size)=some arr.size:=by rw [hA.n]; kernel_rfl
  have h44:(#[.float .f64 0,.float .f64 0,.float .f64 0,.float .f64 0,.float .f64 0,.float .f64 0,.float .f64 0,.float .f64 0,.float .f64 0,.float .f64 0,.float .f64 0,.float .f64 0,.float .f64 0,.float .f64 0,.float .f64 0,.float .f64 0,.float .f64 0,.float .f64 0,.float .f64 0,.float .f64 0,.float .f64 0,.float .f64 0,.float .f64 0,.float .f64 0,.float .f64 0,.float .f64 0,.float .f64 0,.float .f64 0,.float .f64 0,.float .f64 0,.float .f64 0,.float .f64 0,.float .f64 0,.float .f64 0,.float .f64 0,.float .f64 0,.float .f64 0,.float .f64 0,.float .f64 0,.float .f64 0,.float .f64 0,.float .f64 0,.float .f64 0,.float .f64 0]:Array Value).size=arr.size:=hA.n.symm
  have ho:=hA.o
  replace hb0:=bel_trans (bel_trans hb0 hw) (bel_alloc y1 (.cells arr 103))
  have f_k:=heap_a1 y1 (.cells arr 103)
  dsimp only
  repeat (first | (refine wp_store_row 103 _ _ rfl y1.heap.size arr rfl rfl _ _ (heap_a1 y1 (.cells #[.float .f64 0,.float .f64 0,.float .f64 0,.float .f64 0,.float .f64 0,.float .f64 0,.float .f64 0,.float .f64 0,.float .f64 0,.float .f64 0,.float .f64 0,.float .f64 0,.float .f64 0,.float .f64 0,.float .f64 0,.float .f64 0,.float .f64 0,.float .f64 0,.float .f64 0,.float .f64 0,.float .f64 0,.float .f64 0,.float .f64 0,.float .f64 0,.float .f64 0,.float .f64 0,.float .f64 0,.float .f64 0,.float .f64 0,.float .f64 0,.float .f64 0,.float .f64 0,.float .f64 0,.float .f64 0,.float .f64 0,.float .f64 0,.float .f64 0,.float .f64 0,.float .f64 0,.float .f64 0,.float .f64 0,.float .f64 0,.float .f64 0,.float .f64 0] 103)) hi h44 ho ?_; rw [World.setRow_alloc_new]; dsimp only [Act.put]) | go_step)
  generalize y1.alloc (.cells arr 103)=x2 at hb0 f_k ⊢
  generalize y1.heap.size=fb at *
  clear hw ho h44 hi
  refine (CD.out _ _ _ hA f_k).mono ?_
  rintro _ y3 ⟨rfl,hw3⟩
  replace f_k:=blk_us hw3 f_k
  go_wp2_with fail
  refine (CS.out _ _ _ hA f_k).mono ?_
  rintro _ y4 ⟨rfl,hw4⟩
  go_wp2
  exact bodyPost_ret (v:=.tuple #[.float .f64 D,.float .f64 S]) (by simp [results,Tryz.results36,go_sem]) rfl ⟨rfl,bel_trans (bel_trans hb0 hw3) hw4⟩
structure Sps (w:World) (ao:Option Addr) (n cap:Nat) (s:Nat->Nat->Int):Prop where
  le:n<=cap
  max:cap<=9223372036854775807
  spot:0<n->∃ b off,ao=some ⟨b,off,none⟩∧b<w.heap.size∧∀ i,i<n->w.cell? ⟨b,off+i*3,none⟩=some (.int .i64 (s i 0))∧w.cell? ⟨b,off+i*3+1,none⟩=some (.int .i64 (s i 1))∧w.cell? ⟨b,off+i*3+2,none⟩=some (.int .i64 (s i 2))
theorem Sps.keeps {w w':World} {ao:Option Addr} {n cap:Nat} {s:Nat->Nat->Int} (h:Sps w ao n cap s) (hb:Below w.heap.size w w'):Sps w' ao n cap s :=
  ⟨h.le,h.max,fun hn=>by
    obtain ⟨b,off,rfl,hlt,hc⟩:=h.spot hn
    exact ⟨b,off,rfl,Nat.lt_of_lt_of_le hlt hb.size,fun i hi=>⟨(hb.cell (p:=⟨b,off+i*3,none⟩) hlt).trans (hc i hi).1,(hb.cell (p:=⟨b,off+i*3+1,none⟩) hlt).trans (hc i hi).2.1,(hb.cell (p:=⟨b,off+i*3+2,none⟩) hlt).trans (hc i hi).2.2⟩⟩⟩
def sok (s:Nat->Nat->Int) (i:Nat):Bool:=pok (s i 0) && pok (s i 1) && pok (s i 2)
def stm (s:Nat->Nat->Int) (i:Nat):Bool:=tame (s i 0) && tame (s i 1) && tame (s i 2)
set_option maxRecDepth 100000 in
set_option maxHeartbeats 1000000 in
theorem scoord_any (x y z:Int) (w:World):Calls Tryz.prog 71 #[.agg #[.int .i64 x,.int .i64 y,.int .i64 z]] w fun e w'=>e=.returned (.agg #[.int .i64 x,.int .i64 y,.int .i64 z])∧Below w.heap.size w w':=by
  go_enter Tryz.func71,Tryz.ntmps71
  go_wp2
  exact bodyPost_ret (v:=.agg #[.int .i64 x,.int .i64 y,.int .i64 z]) (by simp [results,Tryz.results71,go_sem]) rfl ⟨rfl,bel_alloc2 _ _ _⟩
set_option maxRecDepth 100000 in
set_option maxHeartbeats 1000000 in
theorem sgood_any (ao:Option Addr) (n cap:Nat) (s:Nat->Nat->Int) (w:World) (h:Sps w ao n cap s) (hs:∀ i k,rng (s i k)) :
    Calls Tryz.prog 38 #[.slice ao n cap] w fun x w'=>x=.returned (.bool (allB (sok s) n))∧Below w.heap.size w w':=by
  have hl:=h.le
  have hm:=h.max
  have e0:errF true=0:=rfl
  have e1:errF false=10:=rfl
  have CC:Hid (∀ i W,Calls Tryz.prog 70 #[.agg #[.int .i64 (s i 0),.int .i64 (s i 1),.int .i64 (s i 2)]] W fun e w'=>e=.returned (.int .i64 (errF (sok s i)))∧Below W.heap.size W w'):=fun i W=>pointCheckSpace (hs i 0) (hs i 1) (hs i 2) W
  clear hs
  go_enter Tryz.func38,Tryz.ntmps38
  go_wp2_with fail
  go_loopw [7] (fun i wr=>∃ k:Nat,k<=n∧i=.int .i64 k∧Hid (∀ j,j<k->sok s j=true)∧Below w.heap.size w wr) (fun i _=>n-(intOf i).toNat)
  case atStart=>exact ⟨0,Nat.zero_le _,rfl,fun j hj=>by omega,bel_refl _⟩
  case round=>
    obtain ⟨k,hk,rfl,HO,hbw⟩:=hrel
    by_cases hlt:k<n
    . obtain ⟨b,off,rfl,hb,hc⟩:=h.spot (by omega)
      have c0:=(hbw.cell (p:=⟨b,off+k*3,none⟩) hb).trans (hc k hlt).1
      have c1:=(hbw.cell (p:=⟨b,off+k*3+1,none⟩) hb).trans (hc k hlt).2.1
      have c2:=(hbw.cell (p:=⟨b,off+k*3+2,none⟩) hb).trans (hc k hlt).2.2
      have CK:Hid (∀ W,Calls Tryz.prog 70 #[.agg #[.int .i64 (s k 0),.int .i64 (s k 1),.int .i64 (s k 2)]] W fun e w'=>e=.returned (.int .i64 (errF (sok s k)))∧Below W.heap.size W w'):=CC.out k
      have HK:Hid (∀ q:sok s k=false,false=allB (sok s) n):=fun q=>(decide_eq_false fun hx=>by have:=hx k hlt; rw [this] at q; cases q).symm
      have HY:Hid (sok s k=true->∀ j,j<k+1->sok s j=true):=fun q j hj=>by
        by_cases e:j=k
        . subst e; exact q
        . exact HO.out j (by omega)
      clear hc
      by_cases hok:sok s k=true
      . rw [hok,e0] at CK
        replace HY:Hid (∀ j,j<k+1->sok s j=true):=HY.out hok
        clear hok
        go_wp2_with (go_at_call 70; refine (CK.out _).mono ?_; rintro x w1 ⟨rfl,hb1⟩)
        go_roundw
        case rel=>exact ⟨k+1,by omega,by go_num,HY,hbw.trans ((bel_trans (bel_alloc _ _) hb1).mono hbw.size)⟩
        case measure=>simp [intOf]; omega
      . have hok':sok s k=false:=by simpa using hok
        rw [hok',e1] at CK
        replace HK:Hid (false=allB (sok s) n):=HK.out hok'
        clear hok hok' HY
        go_wp2_with (go_at_call 70; refine (CK.out _).mono ?_; rintro x w1 ⟨rfl,hb1⟩)
        go_ret
        exact ⟨ret_bool HK.out,hbw.trans ((bel_trans (bel_alloc _ _) hb1).mono hbw.size)⟩
    . obtain rfl:k=n:=by omega
      have HD:Hid (true=allB (sok s) k):=(decide_eq_true HO.out).symm
      go_wp2
      go_ret
      exact ⟨ret_bool HD.out,hbw⟩
theorem q_refSpace {x y z:Int} (hx:rng x) (hy:rng y) (hz:rng z) (w:World) :
    Calls Tryz.prog 21 #[.agg #[.int .i64 x,.int .i64 y,.int .i64 z]] w fun e w'=>e=.returned (.bool (pok x && pok y && pok z))∧Below w.heap.size w w':=by
  cases h1:pok x <;> cases h2:pok y <;> cases h3:pok z
  all_goals
    go_enter Tryz.func21,Tryz.ntmps21
    go_wp2_with fail
    refine (q_coord hx _).mono ?_
    rintro _ _ ⟨rfl,rfl⟩
    go_wp2_with fail
    refine (q_coord hy _).mono ?_
    rintro _ _ ⟨rfl,rfl⟩
    go_wp2_with fail
    refine (q_coord hz _).mono ?_
    rintro _ _ ⟨rfl,rfl⟩
    go_wp2
    go_ret
    exact ⟨rfl,bel_alloc _ _⟩
set_option maxRecDepth 100000 in
set_option maxHeartbeats 1000000 in
theorem slgood_any (ao:Option Addr) (n cap:Nat) (s:Nat->Nat->Int) (w:World) (h:Sps w ao n cap s) (hs:∀ i k,rng (s i k)) :
    Calls Tryz.prog 9 #[.slice ao n cap] w fun x w'=>x=.returned (.bool (allB (sok s) n))∧Below w.heap.size w w':=by
  have hl:=h.le
  have hm:=h.max
  have CC:Hid (∀ i W,Calls Tryz.prog 21 #[.agg #[.int .i64 (s i 0),.int .i64 (s i 1),.int .i64 (s i 2)]] W fun e w'=>e=.returned (.bool (sok s i))∧Below W.heap.size W w'):=fun i W=>q_refSpace (hs i 0) (hs i 1) (hs i 2) W
  clear hs
  go_enter Tryz.func9,Tryz.ntmps9
  go_wp2_with fail
  go_loopw [3] (fun i wr=>∃ k:Nat,k<=n∧i=.int .i64 k∧Hid (∀ j,j<k->sok s j=true)∧Below w.heap.size w wr) (fun i _=>n-(intOf i).toNat)
  case atStart=>exact ⟨0,Nat.zero_le _,rfl,fun j hj=>by omega,bel_refl _⟩
  case round=>
    obtain ⟨k,hk,rfl,HO,hbw⟩:=hrel
    by_cases hlt:k<n
    . obtain ⟨b,off,rfl,hb,hc⟩:=h.spot (by omega)
      have c0:=(hbw.cell (p:=⟨b,off+k*3,none⟩) hb).trans (hc k hlt).1
      have c1:=(hbw.cell (p:=⟨b,off+k*3+1,none⟩) hb).trans (hc k hlt).2.1
      have c2:=(hbw.cell (p:=⟨b,off+k*3+2,none⟩) hb).trans (hc k hlt).2.2
      have CK:Hid (∀ W,Calls Tryz.prog 21 #[.agg #[.int .i64 (s k 0),.int .i64 (s k 1),.int .i64 (s k 2)]] W fun e w'=>e=.returned (.bool (sok s k))∧Below W.heap.size W w'):=CC.out k
      have HK:Hid (∀ q:sok s k=false,false=allB (sok s) n):=fun q=>(decide_eq_false fun hx=>by have:=hx k hlt; rw [this] at q; cases q).symm
      have HY:Hid (sok s k=true->∀ j,j<k+1->sok s j=true):=fun q j hj=>by
        by_cases e:j=k
        . subst e; exact q
        . exact HO.out j (by omega)
      clear hc
      by_cases hok:sok s k=true
      . rw [hok] at CK
        replace HY:Hid (∀ j,j<k+1->sok s j=true):=HY.out hok
        clear hok
        go_wp2_with (go_at_call 21; refine (CK.out _).mono ?_; rintro x w1 ⟨rfl,hb1⟩)
        go_roundw
        case rel=>exact ⟨k+1,by omega,by go_num,HY,hbw.trans (hb1.mono hbw.size)⟩
        case measure=>simp [intOf]; omega
      . have hok':sok s k=false:=by simpa using hok
        rw [hok'] at CK
        replace HK:Hid (false=allB (sok s) n):=HK.out hok'
        clear hok hok' HY
        go_wp2_with (go_at_call 21; refine (CK.out _).mono ?_; rintro x w1 ⟨rfl,hb1⟩)
        go_ret
        exact ⟨ret_bool HK.out,hbw.trans (hb1.mono hbw.size)⟩
    . obtain rfl:k=n:=by omega
      have HD:Hid (true=allB (sok s) k):=(decide_eq_true HO.out).symm
      go_wp2
      go_ret
      exact ⟨ret_bool HD.out,hbw⟩
set_option maxRecDepth 100000 in
set_option maxHeartbeats 1000000 in
theorem stame_any (ao:Option Addr) (n cap:Nat) (s:Nat->Nat->Int) (w:World) (h:Sps w ao n cap s) (hs:∀ i k,rng (s i k)) :
    Calls Tryz.prog 39 #[.slice ao n cap] w fun x w'=>x=.returned (.bool (allB (stm s) n))∧Below w.heap.size w w':=by
  have hl:=h.le
  have hm:=h.max
  have CT:Hid (∀ i k W,Calls Tryz.prog 72 #[.int .i64 (s i k)] W fun e w'=>e=.returned (.bool (tame (s i k)))∧w'=W):=fun i k W=>pointTame (hs i k) W
  clear hs
  go_enter Tryz.func39,Tryz.ntmps39
  go_wp2_with fail
  go_loopw [9] (fun i wr=>∃ k:Nat,k<=n∧i=.int .i64 k∧Hid (∀ j,j<k->stm s j=true)∧Below w.heap.size w wr) (fun i _=>n-(intOf i).toNat)
  case atStart=>exact ⟨0,Nat.zero_le _,rfl,fun j hj=>by omega,bel_refl _⟩
  case round=>
    obtain ⟨k,hk,rfl,HO,hbw⟩:=hrel
    by_cases hlt:k<n
    . obtain ⟨b,off,rfl,hb,hc⟩:=h.spot (by omega)
      have c0:=(hbw.cell (p:=⟨b,off+k*3,none⟩) hb).trans (hc k hlt).1
      have c1:=(hbw.cell (p:=⟨b,off+k*3+1,none⟩) hb).trans (hc k hlt).2.1
      have c2:=(hbw.cell (p:=⟨b,off+k*3+2,none⟩) hb).trans (hc k hlt).2.2
      have C0:Hid (∀ W,Calls Tryz.prog 72 #[.int .i64 (s k 0)] W fun e w'=>e=.returned (.bool (tame (s k 0)))∧w'=W):=CT.out k 0
      have C1:Hid (∀ W,Calls Tryz.prog 72 #[.int .i64 (s k 1)] W fun e w'=>e=.returned (.bool (tame (s k 1)))∧w'=W):=CT.out k 1
      have C2:Hid (∀ W,Calls Tryz.prog 72 #[.int .i64 (s k 2)] W fun e w'=>e=.returned (.bool (tame (s k 2)))∧w'=W):=CT.out k 2
      have HK:Hid (∀ q:stm s k=false,false=allB (stm s) n):=fun q=>(decide_eq_false fun hx=>by have:=hx k hlt; rw [this] at q; cases q).symm
      have HY:Hid (stm s k=true->∀ j,j<k+1->stm s j=true):=fun q j hj=>by
        by_cases e:j=k
        . subst e; exact q
        . exact HO.out j (by omega)
      have HX:Hid (stm s k=(tame (s k 0) && tame (s k 1) && tame (s k 2))):=rfl
      clear hc
      generalize s k 0=x0 at *
      generalize s k 1=x1 at *
      generalize s k 2=x2 at *
      have i0:∀ w,(Instr.index 69 (.agg #[.int .i64 x0,.int .i64 x1,.int .i64 x2]) (.int .i64 0)).run Tryz.prog w=.ok (.int .i64 x0) w:=fun _=>by kernel_rfl
      have i1:∀ w,(Instr.index 69 (.agg #[.int .i64 x0,.int .i64 x1,.int .i64 x2]) (.int .i64 1)).run Tryz.prog w=.ok (.int .i64 x1) w:=fun _=>by kernel_rfl
      have i2:∀ w,(Instr.index 69 (.agg #[.int .i64 x0,.int .i64 x1,.int .i64 x2]) (.int .i64 2)).run Tryz.prog w=.ok (.int .i64 x2) w:=fun _=>by kernel_rfl
      go_wp2_with fail
      refine (scoord_any _ _ _ _).mono ?_
      rintro _ y1 ⟨rfl,hy1⟩
      replace hbw:=hbw.trans ((bel_trans (bel_alloc _ _) hy1).mono hbw.size)
      clear c0 c1 c2 hy1
      go_wp2_with fail
      go_loopw [15] (fun i wr=>Hid (wr=y1)∧(i=.int .i64 0∨(i=.int .i64 1∧tame x0=true)∨(i=.int .i64 2∧tame x0=true∧tame x1=true)∨(i=.int .i64 3∧tame x0=true∧tame x1=true∧tame x2=true))) (fun i _=>3-(intOf i).toNat)
      case atStart=>exact ⟨rfl,.inl rfl⟩
      case round=>
        obtain ⟨HW,hrel⟩:=hrel
        obtain rfl:=HW.out
        rcases hrel with rfl | ⟨rfl,t0⟩ | ⟨rfl,t0,t1⟩ | ⟨rfl,t0,t1,t2⟩
        . cases hp:tame x0
          . rw [hp] at C0
            replace HK:Hid (false=allB (stm s) n):=HK.out (by rw [HX.out,hp]; rfl)
            go_wp2_with fail
            refine (C0.out _).mono ?_
            rintro _ wz ⟨rfl,hwz⟩
            replace hwz:=hwz.symm
            subst hwz
            go_wp2
            go_ret
            exact ⟨ret_bool HK.out,hbw⟩
          . have hp':Hid (tame x0=true):=hp
            rw [hp] at C0
            clear hp
            go_wp2_with fail
            refine (C0.out _).mono ?_
            rintro _ wz ⟨rfl,hwz⟩
            replace hwz:=hwz.symm
            subst hwz
            go_wp2
            go_roundw
            case rel=>exact ⟨hideIt trivial,.inr (.inl ⟨by go_num,trivial⟩)⟩
            case measure=>simp [intOf]
        . have t0:Hid (tame x0=true):=t0
          cases hp:tame x1
          . rw [hp] at C1
            replace HK:Hid (false=allB (stm s) n):=HK.out (by rw [HX.out,hp,t0.out]; rfl)
            go_wp2_with fail
            refine (C1.out _).mono ?_
            rintro _ wz ⟨rfl,hwz⟩
            replace hwz:=hwz.symm
            subst hwz
            go_wp2
            go_ret
            exact ⟨ret_bool HK.out,hbw⟩
          . have hp':Hid (tame x1=true):=hp
            rw [hp] at C1
            clear hp
            go_wp2_with fail
            refine (C1.out _).mono ?_
            rintro _ wz ⟨rfl,hwz⟩
            replace hwz:=hwz.symm
            subst hwz
            go_wp2
            go_roundw
            case rel=>exact ⟨hideIt trivial,.inr (.inr (.inl ⟨by go_num,t0.out,trivial⟩))⟩
            case measure=>simp [intOf]
        . have t0:Hid (tame x0=true∧tame x1=true):=⟨t0,t1⟩
          clear t1
          cases hp:tame x2
          . rw [hp] at C2
            replace HK:Hid (false=allB (stm s) n):=HK.out (by rw [HX.out,hp,t0.out.1,t0.out.2]; rfl)
            go_wp2_with fail
            refine (C2.out _).mono ?_
            rintro _ wz ⟨rfl,hwz⟩
            replace hwz:=hwz.symm
            subst hwz
            go_wp2
            go_ret
            exact ⟨ret_bool HK.out,hbw⟩
          . have hp':Hid (tame x2=true):=hp
            rw [hp] at C2
            clear hp
            go_wp2_with fail
            refine (C2.out _).mono ?_
            rintro _ wz ⟨rfl,hwz⟩
            replace hwz:=hwz.symm
            subst hwz
            go_wp2
            go_roundw
            case rel=>exact ⟨hideIt trivial,.inr (.inr (.inr ⟨by go_num,t0.out.1,t0.out.2,trivial⟩))⟩
            case measure=>simp [intOf]
        . replace HY:Hid (∀ j,j<k+1->stm s j=true):=HY.out (by rw [HX.out,t0,t1,t2]; rfl)
          clear t0 t1 t2
          go_wp2
          go_roundw
          case rel=>exact ⟨k+1,by omega,by go_num,HY,hbw⟩
          case measure=>simp [intOf]; omega
    . obtain rfl:k=n:=by omega
      have HD:Hid (true=allB (stm s) k):=(decide_eq_true HO.out).symm
      go_wp2
      go_ret
      exact ⟨ret_bool HD.out,hbw⟩
end Go.Proofs.YtcklaogdjpbagaaGreatDoor
