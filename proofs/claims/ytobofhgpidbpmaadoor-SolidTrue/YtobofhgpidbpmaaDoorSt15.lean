/- Parts of the proof. -/
import Derived.Test.YtobofhgpidbpmaaDoorSt14
import Derived.Deep.RegionHeld3
import Derived.Test.YtobofhgpidbpmaaDoorSt12
set_option linter.unusedVariables false
set_option linter.unusedSimpArgs false
namespace Go.Proofs.YtobofhgpidbpmaaDoor
open Go Go.RowKit Go.Proofs.YtobofhgpidbpmaaDoor.M
structure LgN (arr:Array Value) (u:Nat->Nat->Int) (I J:Nat):Prop where
  n:arr.size=12
  e:∀ p,p<4->∀ k,k<3->arr[p*3+k]?=some (.float .f64 (wd (if p<I∨(p=I∧k<J) then u p k else 0)))
theorem cell_ne {W:World} {p:Addr} {v:Value} (h:W.cell? p=some v) {g:Nat} (hg:p.block≠g) (o:Nat) (x:Value):(W.setCell ⟨g,o,none⟩ x).cell? p=some v:=by
  rw [World.cell?_setCell_far _ _ _ _ (Ne.symm hg)]
  exact h
theorem LgN.step {arr:Array Value} {u:Nat->Nat->Int} {i j:Nat} (h:LgN arr u i j) (i4:i<4) (j3:j<3):LgN (arr.setIfInBounds (i*3+j) (.float .f64 (wd (u i j)))) u i (j+1):=by
  have hn:=h.n
  refine ⟨by simp only [Array.size_setIfInBounds]; exact hn,fun p hp k hk=>?_⟩
  rw [get_set _ _ _ _ (by omega)]
  by_cases e:p=i∧k=j
  . obtain ⟨rfl,rfl⟩:=e
    rw [if_pos rfl,if_pos (.inr ⟨rfl,by omega⟩)]
  . rw [if_neg (by omega),h.e p hp k hk]
    by_cases c:p<i∨(p=i∧k<j)
    . rw [if_pos c,if_pos (by omega)]
    . rw [if_neg c,if_neg (by omega)]
theorem LgN.roll {arr:Array Value} {u:Nat->Nat->Int} {i:Nat} (h:LgN arr u i 3):LgN arr u (i+1) 0:=by
  refine ⟨h.n,fun p hp k hk=>?_⟩
  rw [h.e p hp k hk]
  by_cases c:p<i∨(p=i∧k<3)
  . rw [if_pos c,if_pos (by omega)]
  . rw [if_neg c,if_neg (by omega)]
def uL (s:Nat->Nat->Int) (m p k:Nat):Int:=if p<m then fsum (s p k) (neg (s m k)) else 0
theorem lg_eq {arr:Array Value} {u:Nat->Nat->Int} (hn:arr.size=12) (h:∀ p,p<4->∀ k,k<3->arr[p*3+k]?=some (.float .f64 (wd (u p k)))):arr=#[.float .f64 (wd (u 0 0)),.float .f64 (wd (u 0 1)),.float .f64 (wd (u 0 2)),.float .f64 (wd (u 1 0)),.float .f64 (wd (u 1 1)),.float .f64 (wd (u 1 2)),.float .f64 (wd (u 2 0)),.float .f64 (wd (u 2 1)),.float .f64 (wd (u 2 2)),.float .f64 (wd (u 3 0)),.float .f64 (wd (u 3 1)),.float .f64 (wd (u 3 2))]:=by
  apply Array.ext_getElem?
  intro i
  by_cases hi:i<12
  . have e:i=i/3*3+i % 3:=by omega
    rw [e,h (i/3) (by omega) (i % 3) (by omega),lgA_at u (i/3) (by omega) (i % 3) (by omega)]
  . rw [Array.getElem?_eq_none (by omega),Array.getElem?_eq_none (by show 12<=i; omega)]
theorem LgN.all {arr:Array Value} {s:Nat->Nat->Int} {m:Nat} (h:LgN arr (fun p k=>fsum (s p k) (neg (s m k))) m 0) (u:Nat->Nat->Int) (hu:u=uL s m):arr=#[.float .f64 (wd (u 0 0)),.float .f64 (wd (u 0 1)),.float .f64 (wd (u 0 2)),.float .f64 (wd (u 1 0)),.float .f64 (wd (u 1 1)),.float .f64 (wd (u 1 2)),.float .f64 (wd (u 2 0)),.float .f64 (wd (u 2 1)),.float .f64 (wd (u 2 2)),.float .f64 (wd (u 3 0)),.float .f64 (wd (u 3 1)),.float .f64 (wd (u 3 2))]:=by
  subst hu
  refine lg_eq h.n fun p hp k hk=>?_
  rw [h.e p hp k hk]
  unfold uL
  by_cases c:p<m
  . rw [if_pos (.inl c),if_pos c]
  . rw [if_neg (by omega),if_neg c]
theorem uL_fx {s:Nat->Nat->Int} {m:Nat} (hz:∀ i,i<=m->∀ k,k<3->Mz (s i k)):Lf (uL s m):=fun p hp k hk=>by
  unfold uL
  by_cases c:p<m
  . rw [if_pos c]
    exact ((hz p (by omega) k hk).diff (hz m (by omega) k hk)).1
  . rw [if_neg c]
    exact fx_zero
set_option maxRecDepth 100000 in
set_option maxHeartbeats 1000000 in
theorem slegsF_any (ao:Option Addr) (n m cap:Nat) (s:Nat->Nat->Int) (w:World) (h:Sps w ao n cap s) (hn:n=m+1) (m4:m<=4) (hz:∀ i,i<=m->∀ k,k<3->Mz (s i k)) (u:Nat->Nat->Int) (hu:u=uL s m) :
    Calls Tryd.prog 23 #[.slice ao n cap,.func (.func 24) #[] #[]] w fun e w'=>e=.returned (.agg #[.float .f64 (wd (u 0 0)),.float .f64 (wd (u 0 1)),.float .f64 (wd (u 0 2)),.float .f64 (wd (u 1 0)),.float .f64 (wd (u 1 1)),.float .f64 (wd (u 1 2)),.float .f64 (wd (u 2 0)),.float .f64 (wd (u 2 1)),.float .f64 (wd (u 2 2)),.float .f64 (wd (u 3 0)),.float .f64 (wd (u 3 1)),.float .f64 (wd (u 3 2))])∧Below w.heap.size w w':=by
  have hl:=h.le
  have hm:=h.max
  have en:(n:Int)-1=m:=by omega
  have CN:Hid (∀ i k W,i<=m->k<3->Calls Tryd.prog 24 #[.int .i64 (s i k),.int .i64 (s m k)] W fun r w'=>r=.returned (.float .f64 (wd (fsum (s i k) (neg (s m k)))))∧Below W.heap.size W w'):=fun i k W hi hk=>(aNear (hz i hi k hk) (hz m (Nat.le_refl _) k hk) W).mono fun _ _ hh=>⟨hh.1,by rw [hh.2]; exact bel_refl _⟩
  have HU:Hid (u=uL s m):=hu
  clear hu hz
  obtain ⟨b,off,rfl,hb,hc⟩:=h.spot (by omega)
  have l0:=(hc m (by omega)).1
  have l1:=(hc m (by omega)).2.1
  have l2:=(hc m (by omega)).2.2
  have hn':(m:Int)<n:=by omega
  have hb0:=bel_alloc2 w (.cells #[.float .f64 0,.float .f64 0,.float .f64 0,.float .f64 0,.float .f64 0,.float .f64 0,.float .f64 0,.float .f64 0,.float .f64 0,.float .f64 0,.float .f64 0,.float .f64 0] 57) (.cells #[.float .f64 0,.float .f64 0,.float .f64 0,.float .f64 0,.float .f64 0,.float .f64 0,.float .f64 0,.float .f64 0,.float .f64 0,.float .f64 0,.float .f64 0,.float .f64 0] 57)
  have r_k:=heap_a2 w (.cells #[.float .f64 0,.float .f64 0,.float .f64 0,.float .f64 0,.float .f64 0,.float .f64 0,.float .f64 0,.float .f64 0,.float .f64 0,.float .f64 0,.float .f64 0,.float .f64 0] 57) (.cells #[.float .f64 0,.float .f64 0,.float .f64 0,.float .f64 0,.float .f64 0,.float .f64 0,.float .f64 0,.float .f64 0,.float .f64 0,.float .f64 0,.float .f64 0,.float .f64 0] 57)
  have l_k:=heap_b2 w (.cells #[.float .f64 0,.float .f64 0,.float .f64 0,.float .f64 0,.float .f64 0,.float .f64 0,.float .f64 0,.float .f64 0,.float .f64 0,.float .f64 0,.float .f64 0,.float .f64 0] 57) (.cells #[.float .f64 0,.float .f64 0,.float .f64 0,.float .f64 0,.float .f64 0,.float .f64 0,.float .f64 0,.float .f64 0,.float .f64 0,.float .f64 0,.float .f64 0,.float .f64 0] 57)
  have HN:LgN #[.float .f64 0,.float .f64 0,.float .f64 0,.float .f64 0,.float .f64 0,.float .f64 0,.float .f64 0,.float .f64 0,.float .f64 0,.float .f64 0,.float .f64 0,.float .f64 0] (fun p k=>fsum (s p k) (neg (s m k))) 0 0:=⟨rfl,fun p hp k hk=>by
    rw [if_neg (by omega),wd_0]
    match p,hp,k,hk with
    | 0,_,0,_=>rfl
    | 0,_,1,_=>rfl
    | 0,_,2,_=>rfl
    | 1,_,0,_=>rfl
    | 1,_,1,_=>rfl
    | 1,_,2,_=>rfl
    | 2,_,0,_=>rfl
    | 2,_,1,_=>rfl
    | 2,_,2,_=>rfl
    | 3,_,0,_=>rfl
    | 3,_,1,_=>rfl
    | 3,_,2,_=>rfl⟩
  go_enter Tryd.func23,Tryd.ntmps23
  replace l0:=cell_keeps l0 hb0
  replace l1:=cell_keeps l1 hb0
  replace l2:=cell_keeps l2 hb0
  go_wp2_with fail
  clear l0 l1 l2
  generalize (w.alloc (.cells #[.float .f64 0,.float .f64 0,.float .f64 0,.float .f64 0,.float .f64 0,.float .f64 0,.float .f64 0,.float .f64 0,.float .f64 0,.float .f64 0,.float .f64 0,.float .f64 0] 57)).alloc (.cells #[.float .f64 0,.float .f64 0,.float .f64 0,.float .f64 0,.float .f64 0,.float .f64 0,.float .f64 0,.float .f64 0,.float .f64 0,.float .f64 0,.float .f64 0,.float .f64 0] 57)=x0 at hb0 r_k l_k ⊢
  have hsz:w.heap.size+1<x0.heap.size:=(Array.getElem?_eq_some_iff.1 l_k).1
  refine (scoord_any _ _ _ _).mono ?_
  rintro _ y1 ⟨rfl,hw1⟩
  have hsz1:w.heap.size+1<y1.heap.size:=Nat.lt_of_lt_of_le hsz hw1.size
  replace r_k:=heap_past (.cells #[.int .i64 (s m 0),.int .i64 (s m 1),.int .i64 (s m 2)] 78) (blk_us hw1 r_k)
  replace l_k:=heap_past (.cells #[.int .i64 (s m 0),.int .i64 (s m 1),.int .i64 (s m 2)] 78) (blk_us hw1 l_k)
  have f_k:=heap_a1 y1 (.cells #[.int .i64 (s m 0),.int .i64 (s m 1),.int .i64 (s m 2)] 78)
  replace hb0:=bel_trans (bel_trans hb0 hw1) (bel_alloc y1 (.cells #[.int .i64 (s m 0),.int .i64 (s m 1),.int .i64 (s m 2)] 78))
  clear hw1 hsz
  go_wp2_with fail
  generalize y1.alloc (.cells #[.int .i64 (s m 0),.int .i64 (s m 1),.int .i64 (s m 2)] 78)=x2 at hb0 r_k l_k f_k ⊢
  generalize y1.heap.size=fr at *
  generalize (#[.float .f64 0,.float .f64 0,.float .f64 0,.float .f64 0,.float .f64 0,.float .f64 0,.float .f64 0,.float .f64 0,.float .f64 0,.float .f64 0,.float .f64 0,.float .f64 0]:Array Value)=z12 at HN l_k
  go_loopw [20] (fun i wr=>∃ p:Nat,p<=m∧i=.int .i64 p∧∃ arr,Hid (LgN arr (fun p k=>fsum (s p k) (neg (s m k))) p 0)∧wr.heap[w.heap.size+1]?=some (.cells arr 57 (0,0))∧wr.heap[w.heap.size]?=some (.cells #[.float .f64 0,.float .f64 0,.float .f64 0,.float .f64 0,.float .f64 0,.float .f64 0,.float .f64 0,.float .f64 0,.float .f64 0,.float .f64 0,.float .f64 0,.float .f64 0] 57 (0,0))∧wr.heap[fr]?=some (.cells #[.int .i64 (s m 0),.int .i64 (s m 1),.int .i64 (s m 2)] 78 (0,0))∧Below w.heap.size w wr) (fun i _=>m-(intOf i).toNat)
  case atStart=>exact ⟨0,by omega,rfl,z12,HN,l_k,r_k,f_k,hb0⟩
  case round=>
    clear l_k r_k f_k hb0 HN
    obtain ⟨p,hp,rfl,arr,HN,l_k,r_k,f_k,hbw⟩:=hrel
    by_cases pm:p<m
    . have c0:=(hbw.cell (p:=⟨b,off+p*3,none⟩) hb).trans (hc p (by omega)).1
      have c1:=(hbw.cell (p:=⟨b,off+p*3+1,none⟩) hb).trans (hc p (by omega)).2.1
      have c2:=(hbw.cell (p:=⟨b,off+p*3+2,none⟩) hb).trans (hc p (by omega)).2.2
      have pm':(p:Int)<m:=by omega
      have pn':(p:Int)<n:=by omega
      have C0:Hid (∀ W,Calls Tryd.prog 24 #[.int .i64 (s p 0),.int .i64 (s m 0)] W fun r w'=>r=.returned (.float .f64 (wd (fsum (s p 0) (neg (s m 0)))))∧Below W.heap.size W w'):=fun W=>CN.out p 0 W hp (by decide)
      have C1:Hid (∀ W,Calls Tryd.prog 24 #[.int .i64 (s p 1),.int .i64 (s m 1)] W fun r w'=>r=.returned (.float .f64 (wd (fsum (s p 1) (neg (s m 1)))))∧Below W.heap.size W w'):=fun W=>CN.out p 1 W hp (by decide)
      have C2:Hid (∀ W,Calls Tryd.prog 24 #[.int .i64 (s p 2),.int .i64 (s m 2)] W fun r w'=>r=.returned (.float .f64 (wd (fsum (s p 2) (neg (s m 2)))))∧Below W.heap.size W w'):=fun W=>CN.out p 2 W hp (by decide)
      have p4:Hid (p<4):=by exact (show p<4 by omega)
      have p4':(p:Int)<4:=by omega
      go_wp2_with fail
      clear c0 c1 c2
      refine (scoord_any _ _ _ _).mono ?_
      rintro _ y3 ⟨rfl,hw3⟩
      replace r_k:=blk_us hw3 r_k
      replace l_k:=blk_us hw3 l_k
      replace f_k:=blk_us hw3 f_k
      replace hbw:=bel_trans hbw hw3
      clear hw3
      go_wp2_with fail
      go_loopw [28] (fun i wr=>∃ j:Nat,j<=3∧i=.int .i64 j∧∃ arr,Hid (LgN arr (fun p k=>fsum (s p k) (neg (s m k))) p j)∧wr.heap[w.heap.size+1]?=some (.cells arr 57 (0,0))∧wr.heap[w.heap.size]?=some (.cells #[.float .f64 0,.float .f64 0,.float .f64 0,.float .f64 0,.float .f64 0,.float .f64 0,.float .f64 0,.float .f64 0,.float .f64 0,.float .f64 0,.float .f64 0,.float .f64 0] 57 (0,0))∧wr.heap[fr]?=some (.cells #[.int .i64 (s m 0),.int .i64 (s m 1),.int .i64 (s m 2)] 78 (0,0))∧Below w.heap.size w wr) (fun i _=>3-(intOf i).toNat)
      case atStart=>exact ⟨0,by omega,rfl,arr,HN,l_k,r_k,f_k,hbw⟩
      case round=>
        clear l_k r_k f_k hbw HN
        obtain ⟨j,hj,rfl,arr,HN,l_k,r_k,f_k,hbw⟩:=hrel
        have j4:j=0∨j=1∨j=2∨j=3:=by omega
        rcases j4 with rfl | rfl | rfl | rfl
        . have HN':Hid (LgN (arr.setIfInBounds (p*3) (.float .f64 (wd (fsum (s p 0) (neg (s m 0)))))) (fun p k=>fsum (s p k) (neg (s m k))) p (0+1)):=HN.out.step p4.out (by decide)
          obtain ⟨v,ev⟩:∃ v,arr[p*3]?=some v:=⟨_,Array.getElem?_eq_getElem (by rw [HN.out.n]; have:=p4.out; omega)⟩
          have i0:∀ w,(Instr.index 78 (.agg #[.int .i64 (s p 0),.int .i64 (s p 1),.int .i64 (s p 2)]) (.int .i64 0)).run Tryd.prog w=.ok (.int .i64 (s p 0)) w:=fun _=>by kernel_rfl
          go_wp2_with fail
          have KK:∀ W,Below wr.heap.size wr W->W.cell? ⟨fr,0,none⟩=some (.int .i64 (s m 0))∧W.cell? ⟨w.heap.size+1,p*3,none⟩=some v∧W.frozen? ⟨w.heap.size+1,p*3,none⟩=false:=fun W hb=>⟨q_cell (blkC f_k 0 rfl) hb,q_cell (blkC l_k _ ev) hb,blkF (blk_us hb l_k) _⟩
          have hst:∀ p x m w,(store p (.float .f64 x) m).run Tryd.prog w=stored Tryd.prog w p (.float .f64 x) m:=fun p x m w=>run_store _ w p _ m rfl
          have hC0:=(bel_refl wr).drew
          have hne:fr≠w.heap.size+1:=by omega
          go_region_held3 (fun W=>W.cell? ⟨fr,0,none⟩=some (.int .i64 (s m 0)))
            (with_reducible first | assumption | exact (KK _ hC0).1 | exact (KK _ hC1).1 | exact cell_ne (KK _ hC1).1 hne _ _ | fail)
            (first | (go_at_call 24; refine (C0.out _).mono ?_; rintro _ y5 ⟨rfl,hq⟩; have hC1:=bel_trans hC0 hq; have e1:=(KK _ hC1).2.1; have e2:=(KK _ hC1).2.2))
          replace f_k:=heap_ne (blk_us hC1 f_k) hne (p*3) (.float .f64 (wd (fsum (s p 0) (neg (s m 0)))))
          replace r_k:=heap_ne (blk_us hC1 r_k) (show w.heap.size≠w.heap.size+1 by omega) (p*3) (.float .f64 (wd (fsum (s p 0) (neg (s m 0)))))
          replace l_k:=heap_set (blk_us hC1 l_k) (p*3) (.float .f64 (wd (fsum (s p 0) (neg (s m 0)))))
          replace hbw:=(bel_trans hbw hC1).setCell (p:=⟨w.heap.size+1,p*3,none⟩) (show w.heap.size<=w.heap.size+1 by omega) (.float .f64 (wd (fsum (s p 0) (neg (s m 0)))))
          clear hC0 hC1 hq e1 e2 KK ev hst
          go_wp2_with fail
          go_roundw
          case rel=>exact ⟨0+1,by omega,by go_num,_,HN',l_k,r_k,f_k,hbw⟩
          case measure=>simp [intOf]
        . have HN':Hid (LgN (arr.setIfInBounds (p*3+1) (.float .f64 (wd (fsum (s p 1) (neg (s m 1)))))) (fun p k=>fsum (s p k) (neg (s m k))) p (1+1)):=HN.out.step p4.out (by decide)
          obtain ⟨v,ev⟩:∃ v,arr[p*3+1]?=some v:=⟨_,Array.getElem?_eq_getElem (by rw [HN.out.n]; have:=p4.out; omega)⟩
          have i1:∀ w,(Instr.index 78 (.agg #[.int .i64 (s p 0),.int .i64 (s p 1),.int .i64 (s p 2)]) (.int .i64 1)).run Tryd.prog w=.ok (.int .i64 (s p 1)) w:=fun _=>by kernel_rfl
          go_wp2_with fail
          have KK:∀ W,Below wr.heap.size wr W->W.cell? ⟨fr,1,none⟩=some (.int .i64 (s m 1))∧W.cell? ⟨w.heap.size+1,p*3+1,none⟩=some v∧W.frozen? ⟨w.heap.size+1,p*3+1,none⟩=false:=fun W hb=>⟨q_cell (blkC f_k 1 rfl) hb,q_cell (blkC l_k _ ev) hb,blkF (blk_us hb l_k) _⟩
          have hst:∀ p x m w,(store p (.float .f64 x) m).run Tryd.prog w=stored Tryd.prog w p (.float .f64 x) m:=fun p x m w=>run_store _ w p _ m rfl
          have hC0:=(bel_refl wr).drew
          have hne:fr≠w.heap.size+1:=by omega
          go_region_held3 (fun W=>W.cell? ⟨fr,1,none⟩=some (.int .i64 (s m 1)))
            (with_reducible first | assumption | exact (KK _ hC0).1 | exact (KK _ hC1).1 | exact cell_ne (KK _ hC1).1 hne _ _ | fail)
            (first | (go_at_call 24; refine (C1.out _).mono ?_; rintro _ y5 ⟨rfl,hq⟩; have hC1:=bel_trans hC0 hq; have e1:=(KK _ hC1).2.1; have e2:=(KK _ hC1).2.2))
          replace f_k:=heap_ne (blk_us hC1 f_k) hne (p*3+1) (.float .f64 (wd (fsum (s p 1) (neg (s m 1)))))
          replace r_k:=heap_ne (blk_us hC1 r_k) (show w.heap.size≠w.heap.size+1 by omega) (p*3+1) (.float .f64 (wd (fsum (s p 1) (neg (s m 1)))))
          replace l_k:=heap_set (blk_us hC1 l_k) (p*3+1) (.float .f64 (wd (fsum (s p 1) (neg (s m 1)))))
          replace hbw:=(bel_trans hbw hC1).setCell (p:=⟨w.heap.size+1,p*3+1,none⟩) (show w.heap.size<=w.heap.size+1 by omega) (.float .f64 (wd (fsum (s p 1) (neg (s m 1)))))
          clear hC0 hC1 hq e1 e2 KK ev hst
          go_wp2_with fail
          go_roundw
          case rel=>exact ⟨1+1,by omega,by go_num,_,HN',l_k,r_k,f_k,hbw⟩
          case measure=>simp [intOf]
        . have HN':Hid (LgN (arr.setIfInBounds (p*3+2) (.float .f64 (wd (fsum (s p 2) (neg (s m 2)))))) (fun p k=>fsum (s p k) (neg (s m k))) p (2+1)):=HN.out.step p4.out (by decide)
          obtain ⟨v,ev⟩:∃ v,arr[p*3+2]?=some v:=⟨_,Array.getElem?_eq_getElem (by rw [HN.out.n]; have:=p4.out; omega)⟩
          have i2:∀ w,(Instr.index 78 (.agg #[.int .i64 (s p 0),.int .i64 (s p 1),.int .i64 (s p 2)]) (.int .i64 2)).run Tryd.prog w=.ok (.int .i64 (s p 2)) w:=fun _=>by kernel_rfl
          go_wp2_with fail
          have KK:∀ W,Below wr.heap.size wr W->W.cell? ⟨fr,2,none⟩=some (.int .i64 (s m 2))∧W.cell? ⟨w.heap.size+1,p*3+2,none⟩=some v∧W.frozen? ⟨w.heap.size+1,p*3+2,none⟩=false:=fun W hb=>⟨q_cell (blkC f_k 2 rfl) hb,q_cell (blkC l_k _ ev) hb,blkF (blk_us hb l_k) _⟩
          have hst:∀ p x m w,(store p (.float .f64 x) m).run Tryd.prog w=stored Tryd.prog w p (.float .f64 x) m:=fun p x m w=>run_store _ w p _ m rfl
          have hC0:=(bel_refl wr).drew
          have hne:fr≠w.heap.size+1:=by omega
          go_region_held3 (fun W=>W.cell? ⟨fr,2,none⟩=some (.int .i64 (s m 2)))
            (with_reducible first | assumption | exact (KK _ hC0).1 | exact (KK _ hC1).1 | exact cell_ne (KK _ hC1).1 hne _ _ | fail)
            (first | (go_at_call 24; refine (C2.out _).mono ?_; rintro _ y5 ⟨rfl,hq⟩; have hC1:=bel_trans hC0 hq; have e1:=(KK _ hC1).2.1; have e2:=(KK _ hC1).2.2))
          replace f_k:=heap_ne (blk_us hC1 f_k) hne (p*3+2) (.float .f64 (wd (fsum (s p 2) (neg (s m 2)))))
          replace r_k:=heap_ne (blk_us hC1 r_k) (show w.heap.size≠w.heap.size+1 by omega) (p*3+2) (.float .f64 (wd (fsum (s p 2) (neg (s m 2)))))
          replace l_k:=heap_set (blk_us hC1 l_k) (p*3+2) (.float .f64 (wd (fsum (s p 2) (neg (s m 2)))))
          replace hbw:=(bel_trans hbw hC1).setCell (p:=⟨w.heap.size+1,p*3+2,none⟩) (show w.heap.size<=w.heap.size+1 by omega) (.float .f64 (wd (fsum (s p 2) (neg (s m 2)))))
          clear hC0 hC1 hq e1 e2 KK ev hst
          go_wp2_with fail
          go_roundw
          case rel=>exact ⟨2+1,by omega,by go_num,_,HN',l_k,r_k,f_k,hbw⟩
          case measure=>simp [intOf]
        . have HN':Hid (LgN arr (fun p k=>fsum (s p k) (neg (s m k))) (p+1) 0):=HN.out.roll
          go_wp2_with fail
          go_roundw
          case rel=>exact ⟨p+1,by omega,by go_num,arr,HN',l_k,r_k,f_k,hbw⟩
          case measure=>simp [intOf]; omega
    . obtain rfl:p=m:=by omega
      have HE:=HN.out.all _ HU.out
      have hi:(Tryd.prog.info? 57).map (·.size)=some arr.size:=by rw [HN.out.n]; kernel_rfl
      have h12:(#[.float .f64 0,.float .f64 0,.float .f64 0,.float .f64 0,.float .f64 0,.float .f64 0,.float .f64 0,.float .f64 0,.float .f64 0,.float .f64 0,.float .f64 0,.float .f64 0]:Array Value).size=arr.size:=HN.out.n.symm
      have ho:arr.all (·.oneCell')=true:=by rw [HE]; kernel_rfl
      repeat (first | (refine wp_load_row 57 _ rfl (w.heap.size+1) rfl _ _ _ _ l_k Tryd.underlying57 rfl hi ?_; dsimp only [Act.put]) | (refine wp_store_row 57 _ _ rfl w.heap.size arr rfl rfl _ _ r_k hi h12 ho ?_; dsimp only [Act.put]) | go_step)
      have r_k2:=setRow_heap _ _ _ arr _ _ r_k
      exact bodyPost_ret (v:=.agg arr) (results_cell_row Tryd.results23 _ _ w.heap.size 57 arr (0,0) _ (by simp) r_k2 Tryd.underlying57 rfl hi) rfl ⟨by rw [HE],below_setRow hbw (by omega) _⟩
theorem cell_g3 {W:World} {p:Addr} {v:Value} (h:W.cell? p=some v) {g:Nat} (o0 o1 o2:Nat) (x y z:Value) (hg:p.block≠g):(((W.setCell ⟨g,o0,none⟩ x).setCell ⟨g,o1,none⟩ y).setCell ⟨g,o2,none⟩ z).cell? p=some v :=
  ((wr3 W g o0 o1 o2 x y z).cell (World.block_lt_of_cell? W _ h) hg).trans h
structure LnN (W:World) (arr:Array Value) (V:Nat->Nat->Int) (I J:Nat) (R:Nat->Nat->NumR):Prop where
  n:arr.size=36
  o:arr.all (·.oneCell')=true
  e:∀ p,p<4->∀ k,k<3->arr[p*9+k*3]?=some (.bool (R p k).ng)∧arr[p*9+k*3+1]?=some (.slice (R p k).ao (R p k).n (R p k).cap)∧arr[p*9+k*3+2]?=some (.int .i64 (R p k).e)∧DAn 0 W (if p<I∨(p=I∧k<J) then V p k else 0) (R p k).v
theorem LnN.keeps {W W':World} {arr:Array Value} {V:Nat->Nat->Int} {I J:Nat} {R:Nat->Nat->NumR} (h:LnN W arr V I J R) (hb:Below W.heap.size W W'):LnN W' arr V I J R :=
  ⟨h.n,h.o,fun p hp k hk=>by obtain ⟨a,b,c,d⟩:=h.e p hp k hk; exact ⟨a,b,c,d.keeps hb⟩⟩
theorem LnN.step {W:World} {arr:Array Value} {V:Nat->Nat->Int} {i j:Nat} {R:Nat->Nat->NumR} (h:LnN W arr V i j R) (i4:i<4) (j3:j<3) {g:Nat} {z:Nat × Nat} (hg:W.heap[g]?=some (.cells arr 64 z)) (x:NumR) (hx:DAn 0 W (V i j) x.v) :
    LnN (((W.setCell ⟨g,i*9+j*3,none⟩ (.bool x.ng)).setCell ⟨g,i*9+j*3+1,none⟩ (.slice x.ao x.n x.cap)).setCell ⟨g,i*9+j*3+2,none⟩ (.int .i64 x.e)) (((arr.setIfInBounds (i*9+j*3) (.bool x.ng)).setIfInBounds (i*9+j*3+1) (.slice x.ao x.n x.cap)).setIfInBounds (i*9+j*3+2) (.int .i64 x.e)) V i (j+1) (fun p k=>if p=i∧k=j then x else R p k):=by
  have hn:=h.n
  have gg:∀ q,(((arr.setIfInBounds (i*9+j*3) (.bool x.ng)).setIfInBounds (i*9+j*3+1) (.slice x.ao x.n x.cap)).setIfInBounds (i*9+j*3+2) (.int .i64 x.e))[q]?=if i*9+j*3+2=q then some (.int .i64 x.e) else if i*9+j*3+1=q then some (.slice x.ao x.n x.cap) else if i*9+j*3=q then some (.bool x.ng) else arr[q]?:=fun q=>by
    rw [get_set _ _ _ _ (by simp only [Array.size_setIfInBounds]; omega),get_set _ _ _ _ (by simp only [Array.size_setIfInBounds]; omega),get_set _ _ _ _ (by omega)]
  have kp:∀ {v:Value} {U:Int},DAn 0 W U v->DAn 0 (((W.setCell ⟨g,i*9+j*3,none⟩ (.bool x.ng)).setCell ⟨g,i*9+j*3+1,none⟩ (.slice x.ao x.n x.cap)).setCell ⟨g,i*9+j*3+2,none⟩ (.int .i64 x.e)) U v:=fun hd=>
    hd.of_blocks fun k cur z' hk=>by
      have hne:k≠g:=fun e=>by
        subst e
        rw [hg] at hk
        simp only [Option.some.injEq,Obj.cells.injEq] at hk
        exact absurd hk.2.1 (by decide)
      exact (wr3 W g _ _ _ _ _ _).block k (Array.getElem?_eq_some_iff.1 hk).1 hne
  refine ⟨by simp only [Array.size_setIfInBounds]; exact hn,all_set (all_set (all_set h.o _ rfl) _ rfl) _ rfl,fun p hp k hk=>?_⟩
  by_cases e:p=i∧k=j
  . obtain ⟨rfl,rfl⟩:=e
    refine ⟨?_,?_,?_,?_⟩
    . rw [gg,if_neg (by omega),if_neg (by omega),if_pos rfl,if_pos ⟨rfl,rfl⟩]
    . rw [gg,if_neg (by omega),if_pos rfl,if_pos ⟨rfl,rfl⟩]
    . rw [gg,if_pos rfl,if_pos ⟨rfl,rfl⟩]
    . rw [if_pos (.inr ⟨rfl,by omega⟩),if_pos ⟨rfl,rfl⟩]
      exact kp hx
  . obtain ⟨a,b,c,d⟩:=h.e p hp k hk
    refine ⟨?_,?_,?_,?_⟩
    . rw [gg,if_neg (by omega),if_neg (by omega),if_neg (by omega),if_neg e]; exact a
    . rw [gg,if_neg (by omega),if_neg (by omega),if_neg (by omega),if_neg e]; exact b
    . rw [gg,if_neg (by omega),if_neg (by omega),if_neg (by omega),if_neg e]; exact c
    . rw [if_neg e]
      have d2:=kp d
      by_cases q:p<i∨(p=i∧k<j)
      . rw [if_pos q] at d2; rw [if_pos (by omega)]; exact d2
      . rw [if_neg q] at d2; rw [if_neg (by omega)]; exact d2
theorem LnN.roll {W:World} {arr:Array Value} {V:Nat->Nat->Int} {i:Nat} {R:Nat->Nat->NumR} (h:LnN W arr V i 3 R):LnN W arr V (i+1) 0 R:=by
  refine ⟨h.n,h.o,fun p hp k hk=>?_⟩
  obtain ⟨a,b,c,d⟩:=h.e p hp k hk
  refine ⟨a,b,c,?_⟩
  by_cases q:p<i∨(p=i∧k<3)
  . rw [if_pos q] at d; rw [if_pos (by omega)]; exact d
  . rw [if_neg q] at d; rw [if_neg (by omega)]; exact d
def vL (s:Nat->Nat->Int) (m p k:Nat):Int:=if p<m then patV (s p k)-patV (s m k) else 0
structure LnA (W:World) (arr:Array Value) (V:Nat->Nat->Int) (R:Nat->Nat->NumR):Prop where
  n:arr.size=36
  o:arr.all (·.oneCell')=true
  e:∀ p,p<4->∀ k,k<3->arr[p*9+k*3]?=some (.bool (R p k).ng)∧arr[p*9+k*3+1]?=some (.slice (R p k).ao (R p k).n (R p k).cap)∧arr[p*9+k*3+2]?=some (.int .i64 (R p k).e)∧DAn 0 W (V p k) (R p k).v
theorem LnN.all {W:World} {arr:Array Value} {s:Nat->Nat->Int} {m:Nat} {R:Nat->Nat->NumR} (h:LnN W arr (fun p k=>patV (s p k)-patV (s m k)) m 0 R):LnA W arr (vL s m) R:=by
  refine ⟨h.n,h.o,fun p hp k hk=>?_⟩
  obtain ⟨a,b,c,d⟩:=h.e p hp k hk
  refine ⟨a,b,c,?_⟩
  unfold vL
  by_cases q:p<m
  . rw [if_pos (.inl q)] at d; rw [if_pos q]; exact d
  . rw [if_neg (by omega)] at d; rw [if_neg q]; exact d
theorem dan_zero0 (w:World):DAn 0 w 0 (.agg #[.bool false,.slice none 0 0,.int .i64 0]):=((DAns.zero (bel_refl w)).dan).lower (Nat.zero_le _)
theorem LnA.keeps {W W':World} {arr:Array Value} {V:Nat->Nat->Int} {R:Nat->Nat->NumR} (h:LnA W arr V R) (hb:Below W.heap.size W W'):LnA W' arr V R :=
  ⟨h.n,h.o,fun p hp k hk=>by obtain ⟨a,b,c,d⟩:=h.e p hp k hk; exact ⟨a,b,c,d.keeps hb⟩⟩
theorem LnA.row {W:World} {arr:Array Value} {V:Nat->Nat->Int} {R:Nat->Nat->NumR} (h:LnA W arr V R) {g:Nat} {xs cs:Array Value} {z:Nat × Nat} (hg:W.heap[g]?=some (.cells xs 64 z)):LnA (W.setRow g cs) arr V R :=
  ⟨h.n,h.o,fun p hp k hk=>by
    obtain ⟨a,b,c,d⟩:=h.e p hp k hk
    exact ⟨a,b,c,d.of_blocks fun k cur z' hk=>setRow_other _ _ _ _ (fun e=>by
      subst e
      rw [hg] at hk
      simp only [Option.some.injEq,Obj.cells.injEq] at hk
      exact absurd hk.2.1 (by decide))⟩⟩
set_option maxRecDepth 100000 in
set_option maxHeartbeats 2000000 in
theorem slegsN_any (ao:Option Addr) (n m cap:Nat) (s:Nat->Nat->Int) (w:World) (h:Sps w ao n cap s) (hn:n=m+1) (m4:m<=4) (hz:∀ i,i<=m->∀ k,k<3->pok (s i k)=true) (H:Hold4 w) :
    Calls Tryd.prog 27 #[.slice ao n cap,.func (.func 28) #[] #[]] w fun e w'=>∃ arr R,e=.returned (.agg arr)∧LnA w' arr (vL s m) R∧Below w.heap.size w w':=by
  have hl:=h.le
  have hm:=h.max
  have en:(n:Int)-1=m:=by omega
  have CN:Hid (∀ i k W,i<=m->k<3->Below w.heap.size w W->Calls Tryd.prog 28 #[.int .i64 (s i k),.int .i64 (s m k)] W fun r w'=>∃ v,r=.returned v∧DAns W w' (patV (s i k)-patV (s m k)) v):=fun i k W hi hk hW=>oapart_any (hz i hi k hk) (hz m (Nat.le_refl _) k hk) W (H.keeps hW)
  clear hz H
  obtain ⟨b,off,rfl,hb,hc⟩:=h.spot (by omega)
  have l0:=(hc m (by omega)).1
  have l1:=(hc m (by omega)).2.1
  have l2:=(hc m (by omega)).2.2
  have hn':(m:Int)<n:=by omega
  have hb0:=bel_alloc2 w (.cells #[.bool false,.slice none 0 0,.int .i64 0,.bool false,.slice none 0 0,.int .i64 0,.bool false,.slice none 0 0,.int .i64 0,.bool false,.slice none 0 0,.int .i64 0,.bool false,.slice none 0 0,.int .i64 0,.bool false,.slice none 0 0,.int .i64 0,.bool false,.slice none 0 0,.int .i64 0,.bool false,.slice none 0 0,.int .i64 0,.bool false,.slice none 0 0,.int .i64 0,.bool false,.slice none 0 0,.int .i64 0,.bool false,.slice none 0 0,.int .i64 0,.bool false,.slice none 0 0,.int .i64 0] 64) (.cells #[.bool false,.slice none 0 0,.int .i64 0,.bool false,.slice none 0 0,.int .i64 0,.bool false,.slice none 0 0,.int .i64 0,.bool false,.slice none 0 0,.int .i64 0,.bool false,.slice none 0 0,.int .i64 0,.bool false,.slice none 0 0,.int .i64 0,.bool false,.slice none 0 0,.int .i64 0,.bool false,.slice none 0 0,.int .i64 0,.bool false,.slice none 0 0,.int .i64 0,.bool false,.slice none 0 0,.int .i64 0,.bool false,.slice none 0 0,.int .i64 0,.bool false,.slice none 0 0,.int .i64 0] 64)
  have r_k:=heap_a2 w (.cells #[.bool false,.slice none 0 0,.int .i64 0,.bool false,.slice none 0 0,.int .i64 0,.bool false,.slice none 0 0,.int .i64 0,.bool false,.slice none 0 0,.int .i64 0,.bool false,.slice none 0 0,.int .i64 0,.bool false,.slice none 0 0,.int .i64 0,.bool false,.slice none 0 0,.int .i64 0,.bool false,.slice none 0 0,.int .i64 0,.bool false,.slice none 0 0,.int .i64 0,.bool false,.slice none 0 0,.int .i64 0,.bool false,.slice none 0 0,.int .i64 0,.bool false,.slice none 0 0,.int .i64 0] 64) (.cells #[.bool false,.slice none 0 0,.int .i64 0,.bool false,.slice none 0 0,.int .i64 0,.bool false,.slice none 0 0,.int .i64 0,.bool false,.slice none 0 0,.int .i64 0,.bool false,.slice none 0 0,.int .i64 0,.bool false,.slice none 0 0,.int .i64 0,.bool false,.slice none 0 0,.int .i64 0,.bool false,.slice none 0 0,.int .i64 0,.bool false,.slice none 0 0,.int .i64 0,.bool false,.slice none 0 0,.int .i64 0,.bool false,.slice none 0 0,.int .i64 0,.bool false,.slice none 0 0,.int .i64 0] 64)
  have l_k:=heap_b2 w (.cells #[.bool false,.slice none 0 0,.int .i64 0,.bool false,.slice none 0 0,.int .i64 0,.bool false,.slice none 0 0,.int .i64 0,.bool false,.slice none 0 0,.int .i64 0,.bool false,.slice none 0 0,.int .i64 0,.bool false,.slice none 0 0,.int .i64 0,.bool false,.slice none 0 0,.int .i64 0,.bool false,.slice none 0 0,.int .i64 0,.bool false,.slice none 0 0,.int .i64 0,.bool false,.slice none 0 0,.int .i64 0,.bool false,.slice none 0 0,.int .i64 0,.bool false,.slice none 0 0,.int .i64 0] 64) (.cells #[.bool false,.slice none 0 0,.int .i64 0,.bool false,.slice none 0 0,.int .i64 0,.bool false,.slice none 0 0,.int .i64 0,.bool false,.slice none 0 0,.int .i64 0,.bool false,.slice none 0 0,.int .i64 0,.bool false,.slice none 0 0,.int .i64 0,.bool false,.slice none 0 0,.int .i64 0,.bool false,.slice none 0 0,.int .i64 0,.bool false,.slice none 0 0,.int .i64 0,.bool false,.slice none 0 0,.int .i64 0,.bool false,.slice none 0 0,.int .i64 0,.bool false,.slice none 0 0,.int .i64 0] 64)
  have HN0:∀ W,LnN W #[.bool false,.slice none 0 0,.int .i64 0,.bool false,.slice none 0 0,.int .i64 0,.bool false,.slice none 0 0,.int .i64 0,.bool false,.slice none 0 0,.int .i64 0,.bool false,.slice none 0 0,.int .i64 0,.bool false,.slice none 0 0,.int .i64 0,.bool false,.slice none 0 0,.int .i64 0,.bool false,.slice none 0 0,.int .i64 0,.bool false,.slice none 0 0,.int .i64 0,.bool false,.slice none 0 0,.int .i64 0,.bool false,.slice none 0 0,.int .i64 0,.bool false,.slice none 0 0,.int .i64 0] (fun p k=>patV (s p k)-patV (s m k)) 0 0 (fun _ _=>⟨false,none,0,0,fun _=>0,0⟩):=fun W=>⟨rfl,by kernel_rfl,fun p hp k hk=>by
    rw [if_neg (by omega)]
    match p,hp,k,hk with
    | 0,_,0,_=>exact ⟨rfl,rfl,rfl,dan_zero0 _⟩
    | 0,_,1,_=>exact ⟨rfl,rfl,rfl,dan_zero0 _⟩
    | 0,_,2,_=>exact ⟨rfl,rfl,rfl,dan_zero0 _⟩
    | 1,_,0,_=>exact ⟨rfl,rfl,rfl,dan_zero0 _⟩
    | 1,_,1,_=>exact ⟨rfl,rfl,rfl,dan_zero0 _⟩
    | 1,_,2,_=>exact ⟨rfl,rfl,rfl,dan_zero0 _⟩
    | 2,_,0,_=>exact ⟨rfl,rfl,rfl,dan_zero0 _⟩
    | 2,_,1,_=>exact ⟨rfl,rfl,rfl,dan_zero0 _⟩
    | 2,_,2,_=>exact ⟨rfl,rfl,rfl,dan_zero0 _⟩
    | 3,_,0,_=>exact ⟨rfl,rfl,rfl,dan_zero0 _⟩
    | 3,_,1,_=>exact ⟨rfl,rfl,rfl,dan_zero0 _⟩
    | 3,_,2,_=>exact ⟨rfl,rfl,rfl,dan_zero0 _⟩⟩
  go_enter Tryd.func27,Tryd.ntmps27
  replace l0:=cell_keeps l0 hb0
  replace l1:=cell_keeps l1 hb0
  replace l2:=cell_keeps l2 hb0
  go_wp2_with fail
  clear l0 l1 l2
  generalize (w.alloc (.cells #[.bool false,.slice none 0 0,.int .i64 0,.bool false,.slice none 0 0,.int .i64 0,.bool false,.slice none 0 0,.int .i64 0,.bool false,.slice none 0 0,.int .i64 0,.bool false,.slice none 0 0,.int .i64 0,.bool false,.slice none 0 0,.int .i64 0,.bool false,.slice none 0 0,.int .i64 0,.bool false,.slice none 0 0,.int .i64 0,.bool false,.slice none 0 0,.int .i64 0,.bool false,.slice none 0 0,.int .i64 0,.bool false,.slice none 0 0,.int .i64 0,.bool false,.slice none 0 0,.int .i64 0] 64)).alloc (.cells #[.bool false,.slice none 0 0,.int .i64 0,.bool false,.slice none 0 0,.int .i64 0,.bool false,.slice none 0 0,.int .i64 0,.bool false,.slice none 0 0,.int .i64 0,.bool false,.slice none 0 0,.int .i64 0,.bool false,.slice none 0 0,.int .i64 0,.bool false,.slice none 0 0,.int .i64 0,.bool false,.slice none 0 0,.int .i64 0,.bool false,.slice none 0 0,.int .i64 0,.bool false,.slice none 0 0,.int .i64 0,.bool false,.slice none 0 0,.int .i64 0,.bool false,.slice none 0 0,.int .i64 0] 64)=x0 at hb0 r_k l_k ⊢
  have hsz:w.heap.size+1<x0.heap.size:=(Array.getElem?_eq_some_iff.1 l_k).1
  refine (scoord_any _ _ _ _).mono ?_
  rintro _ y1 ⟨rfl,hw1⟩
  have hsz1:w.heap.size+1<y1.heap.size:=Nat.lt_of_lt_of_le hsz hw1.size
  replace r_k:=heap_past (.cells #[.int .i64 (s m 0),.int .i64 (s m 1),.int .i64 (s m 2)] 78) (blk_us hw1 r_k)
  replace l_k:=heap_past (.cells #[.int .i64 (s m 0),.int .i64 (s m 1),.int .i64 (s m 2)] 78) (blk_us hw1 l_k)
  have f_k:=heap_a1 y1 (.cells #[.int .i64 (s m 0),.int .i64 (s m 1),.int .i64 (s m 2)] 78)
  replace hb0:=bel_trans (bel_trans hb0 hw1) (bel_alloc y1 (.cells #[.int .i64 (s m 0),.int .i64 (s m 1),.int .i64 (s m 2)] 78))
  clear hw1 hsz
  go_wp2_with fail
  generalize y1.alloc (.cells #[.int .i64 (s m 0),.int .i64 (s m 1),.int .i64 (s m 2)] 78)=x2 at hb0 r_k l_k f_k ⊢
  generalize y1.heap.size=fr at *
  have HN:Hid (LnN x2 #[.bool false,.slice none 0 0,.int .i64 0,.bool false,.slice none 0 0,.int .i64 0,.bool false,.slice none 0 0,.int .i64 0,.bool false,.slice none 0 0,.int .i64 0,.bool false,.slice none 0 0,.int .i64 0,.bool false,.slice none 0 0,.int .i64 0,.bool false,.slice none 0 0,.int .i64 0,.bool false,.slice none 0 0,.int .i64 0,.bool false,.slice none 0 0,.int .i64 0,.bool false,.slice none 0 0,.int .i64 0,.bool false,.slice none 0 0,.int .i64 0,.bool false,.slice none 0 0,.int .i64 0] (fun p k=>patV (s p k)-patV (s m k)) 0 0 (fun _ _=>⟨false,none,0,0,fun _=>0,0⟩)):=HN0 x2
  clear HN0
  generalize (#[.bool false,.slice none 0 0,.int .i64 0,.bool false,.slice none 0 0,.int .i64 0,.bool false,.slice none 0 0,.int .i64 0,.bool false,.slice none 0 0,.int .i64 0,.bool false,.slice none 0 0,.int .i64 0,.bool false,.slice none 0 0,.int .i64 0,.bool false,.slice none 0 0,.int .i64 0,.bool false,.slice none 0 0,.int .i64 0,.bool false,.slice none 0 0,.int .i64 0,.bool false,.slice none 0 0,.int .i64 0,.bool false,.slice none 0 0,.int .i64 0,.bool false,.slice none 0 0,.int .i64 0]:Array Value)=z36 at HN l_k
  go_loopw [20] (fun i wr=>∃ p:Nat,p<=m∧i=.int .i64 p∧∃ arr R,Hid (LnN wr arr (fun p k=>patV (s p k)-patV (s m k)) p 0 R)∧wr.heap[w.heap.size+1]?=some (.cells arr 64 (0,0))∧wr.heap[w.heap.size]?=some (.cells #[.bool false,.slice none 0 0,.int .i64 0,.bool false,.slice none 0 0,.int .i64 0,.bool false,.slice none 0 0,.int .i64 0,.bool false,.slice none 0 0,.int .i64 0,.bool false,.slice none 0 0,.int .i64 0,.bool false,.slice none 0 0,.int .i64 0,.bool false,.slice none 0 0,.int .i64 0,.bool false,.slice none 0 0,.int .i64 0,.bool false,.slice none 0 0,.int .i64 0,.bool false,.slice none 0 0,.int .i64 0,.bool false,.slice none 0 0,.int .i64 0,.bool false,.slice none 0 0,.int .i64 0] 64 (0,0))∧wr.heap[fr]?=some (.cells #[.int .i64 (s m 0),.int .i64 (s m 1),.int .i64 (s m 2)] 78 (0,0))∧Below w.heap.size w wr) (fun i _=>m-(intOf i).toNat)
  case atStart=>exact ⟨0,by omega,rfl,z36,_,HN,l_k,r_k,f_k,hb0⟩
  case round=>
    clear l_k r_k f_k hb0 HN
    obtain ⟨p,hp,rfl,arr,R,HN,l_k,r_k,f_k,hbw⟩:=hrel
    by_cases pm:p<m
    . have c0:=(hbw.cell (p:=⟨b,off+p*3,none⟩) hb).trans (hc p (by omega)).1
      have c1:=(hbw.cell (p:=⟨b,off+p*3+1,none⟩) hb).trans (hc p (by omega)).2.1
      have c2:=(hbw.cell (p:=⟨b,off+p*3+2,none⟩) hb).trans (hc p (by omega)).2.2
      have pm':(p:Int)<m:=by omega
      have pn':(p:Int)<n:=by omega
      have C0:Hid (∀ W,Below w.heap.size w W->Calls Tryd.prog 28 #[.int .i64 (s p 0),.int .i64 (s m 0)] W fun r w'=>∃ v,r=.returned v∧DAns W w' (patV (s p 0)-patV (s m 0)) v):=fun W hW=>CN.out p 0 W hp (by decide) hW
      have C1:Hid (∀ W,Below w.heap.size w W->Calls Tryd.prog 28 #[.int .i64 (s p 1),.int .i64 (s m 1)] W fun r w'=>∃ v,r=.returned v∧DAns W w' (patV (s p 1)-patV (s m 1)) v):=fun W hW=>CN.out p 1 W hp (by decide) hW
      have C2:Hid (∀ W,Below w.heap.size w W->Calls Tryd.prog 28 #[.int .i64 (s p 2),.int .i64 (s m 2)] W fun r w'=>∃ v,r=.returned v∧DAns W w' (patV (s p 2)-patV (s m 2)) v):=fun W hW=>CN.out p 2 W hp (by decide) hW
      have p4:Hid (p<4):=by exact (show p<4 by omega)
      have p4':(p:Int)<4:=by omega
      go_wp2_with fail
      clear c0 c1 c2
      refine (scoord_any _ _ _ _).mono ?_
      rintro _ y3 ⟨rfl,hw3⟩
      replace r_k:=blk_us hw3 r_k
      replace l_k:=blk_us hw3 l_k
      replace f_k:=blk_us hw3 f_k
      have HN3:=HN.out.keeps hw3
      clear HN
      have HN:Hid (LnN y3 arr (fun p k=>patV (s p k)-patV (s m k)) p 0 R):=HN3
      clear HN3
      replace hbw:=bel_trans hbw hw3
      clear hw3
      go_wp2_with fail
      go_loopw [28] (fun i wr=>∃ j:Nat,j<=3∧i=.int .i64 j∧∃ arr R,Hid (LnN wr arr (fun p k=>patV (s p k)-patV (s m k)) p j R)∧wr.heap[w.heap.size+1]?=some (.cells arr 64 (0,0))∧wr.heap[w.heap.size]?=some (.cells #[.bool false,.slice none 0 0,.int .i64 0,.bool false,.slice none 0 0,.int .i64 0,.bool false,.slice none 0 0,.int .i64 0,.bool false,.slice none 0 0,.int .i64 0,.bool false,.slice none 0 0,.int .i64 0,.bool false,.slice none 0 0,.int .i64 0,.bool false,.slice none 0 0,.int .i64 0,.bool false,.slice none 0 0,.int .i64 0,.bool false,.slice none 0 0,.int .i64 0,.bool false,.slice none 0 0,.int .i64 0,.bool false,.slice none 0 0,.int .i64 0,.bool false,.slice none 0 0,.int .i64 0] 64 (0,0))∧wr.heap[fr]?=some (.cells #[.int .i64 (s m 0),.int .i64 (s m 1),.int .i64 (s m 2)] 78 (0,0))∧Below w.heap.size w wr) (fun i _=>3-(intOf i).toNat)
      case atStart=>exact ⟨0,by omega,rfl,arr,R,HN,l_k,r_k,f_k,hbw⟩
      case round=>
        clear l_k r_k f_k hbw HN
        obtain ⟨j,hj,rfl,arr,R,HN,l_k,r_k,f_k,hbw⟩:=hrel
        have j4:j=0∨j=1∨j=2∨j=3:=by omega
        rcases j4 with rfl | rfl | rfl | rfl
        . obtain ⟨a0,a1,a2,aD⟩:=HN.out.e p p4.out 0 (by decide)
          have i0:∀ w,(Instr.index 78 (.agg #[.int .i64 (s p 0),.int .i64 (s p 1),.int .i64 (s p 2)]) (.int .i64 0)).run Tryd.prog w=.ok (.int .i64 (s p 0)) w:=fun _=>by kernel_rfl
          change arr[p*9]?=_ at a0
          change arr[p*9+1]?=_ at a1
          change arr[p*9+2]?=_ at a2
          clear aD
          go_wp2_with fail
          have KK:∀ W,Below wr.heap.size wr W->W.cell? ⟨fr,0,none⟩=some (.int .i64 (s m 0)):=fun W hb=>q_cell (blkC f_k 0 rfl) hb
          have hC0:=(bel_refl wr).drew
          have hne:fr≠w.heap.size+1:=by omega
          go_region_held3 (fun W=>W.cell? ⟨fr,0,none⟩=some (.int .i64 (s m 0)))
            (with_reducible first | assumption | exact KK _ hC0 | exact KK _ hC1 | exact cell_g3 (KK _ hC1) _ _ _ _ _ _ hne | fail)
            (first | (go_at_call 28; refine (C0.out _ (bel_trans hbw hC0)).mono ?_; rintro _ y5 ⟨v,rfl,hd⟩; obtain ⟨n_g,n_o,n_n,n_c,n_e,rfl⟩:=dans_shape hd; have hC1:=bel_trans hC0 hd.below; have l_k2:=blk_us hC1 l_k; have e0:=blkC l_k2 _ a0; have e1:=blkC l_k2 _ a1; have e2:=blkC l_k2 _ a2; have z0:=blkF l_k2 (p*9); have z1:=blkF l_k2 (p*9+1); have z2:=blkF l_k2 (p*9+2)))
          replace f_k:=heap_ne (heap_ne (heap_ne (blk_us hC1 f_k) hne (p*9) (.bool n_g)) hne (p*9+1) (.slice n_o n_n n_c)) hne (p*9+2) (.int .i64 n_e)
          have hne2:w.heap.size≠w.heap.size+1:=by omega
          replace r_k:=heap_ne (heap_ne (heap_ne (blk_us hC1 r_k) hne2 (p*9) (.bool n_g)) hne2 (p*9+1) (.slice n_o n_n n_c)) hne2 (p*9+2) (.int .i64 n_e)
          have HN':Hid (LnN (((y5.setCell ⟨w.heap.size+1,p*9,none⟩ (.bool n_g)).setCell ⟨w.heap.size+1,p*9+1,none⟩ (.slice n_o n_n n_c)).setCell ⟨w.heap.size+1,p*9+2,none⟩ (.int .i64 n_e)) (((arr.setIfInBounds (p*9) (.bool n_g)).setIfInBounds (p*9+1) (.slice n_o n_n n_c)).setIfInBounds (p*9+2) (.int .i64 n_e)) (fun p k=>patV (s p k)-patV (s m k)) p (0+1) (fun p' k=>if p'=p∧k=0 then ⟨n_g,n_o,n_n,n_c,fun _=>0,n_e⟩ else R p' k)):=(HN.out.keeps hC1).step p4.out (by decide) l_k2 ⟨n_g,n_o,n_n,n_c,fun _=>0,n_e⟩ (hd.dan.lower (Nat.zero_le _))
          replace l_k:=heap_set (heap_set (heap_set l_k2 (p*9) (.bool n_g)) (p*9+1) (.slice n_o n_n n_c)) (p*9+2) (.int .i64 n_e)
          have hge:w.heap.size<=w.heap.size+1:=by omega
          replace hbw:=(((bel_trans hbw hC1).setCell (p:=⟨w.heap.size+1,p*9,none⟩) hge (.bool n_g)).setCell (p:=⟨w.heap.size+1,p*9+1,none⟩) hge (.slice n_o n_n n_c)).setCell (p:=⟨w.heap.size+1,p*9+2,none⟩) hge (.int .i64 n_e)
          clear hC0 hC1 hd l_k2 e0 e1 e2 KK a0 a1 a2 HN
          go_wp2_with fail
          go_roundw
          case rel=>exact ⟨0+1,by omega,by go_num,_,_,HN',l_k,r_k,f_k,hbw⟩
          case measure=>simp [intOf]
        . obtain ⟨a0,a1,a2,aD⟩:=HN.out.e p p4.out 1 (by decide)
          have i1:∀ w,(Instr.index 78 (.agg #[.int .i64 (s p 0),.int .i64 (s p 1),.int .i64 (s p 2)]) (.int .i64 1)).run Tryd.prog w=.ok (.int .i64 (s p 1)) w:=fun _=>by kernel_rfl
          change arr[p*9+3]?=_ at a0
          change arr[p*9+3+1]?=_ at a1
          change arr[p*9+3+2]?=_ at a2
          clear aD
          go_wp2_with fail
          have KK:∀ W,Below wr.heap.size wr W->W.cell? ⟨fr,1,none⟩=some (.int .i64 (s m 1)):=fun W hb=>q_cell (blkC f_k 1 rfl) hb
          have hC0:=(bel_refl wr).drew
          have hne:fr≠w.heap.size+1:=by omega
          go_region_held3 (fun W=>W.cell? ⟨fr,1,none⟩=some (.int .i64 (s m 1)))
            (with_reducible first | assumption | exact KK _ hC0 | exact KK _ hC1 | exact cell_g3 (KK _ hC1) _ _ _ _ _ _ hne | fail)
            (first | (go_at_call 28; refine (C1.out _ (bel_trans hbw hC0)).mono ?_; rintro _ y5 ⟨v,rfl,hd⟩; obtain ⟨n_g,n_o,n_n,n_c,n_e,rfl⟩:=dans_shape hd; have hC1:=bel_trans hC0 hd.below; have l_k2:=blk_us hC1 l_k; have e0:=blkC l_k2 _ a0; have e1:=blkC l_k2 _ a1; have e2:=blkC l_k2 _ a2; have z0:=blkF l_k2 (p*9+3); have z1:=blkF l_k2 (p*9+3+1); have z2:=blkF l_k2 (p*9+3+2)))
          replace f_k:=heap_ne (heap_ne (heap_ne (blk_us hC1 f_k) hne (p*9+3) (.bool n_g)) hne (p*9+3+1) (.slice n_o n_n n_c)) hne (p*9+3+2) (.int .i64 n_e)
          have hne2:w.heap.size≠w.heap.size+1:=by omega
          replace r_k:=heap_ne (heap_ne (heap_ne (blk_us hC1 r_k) hne2 (p*9+3) (.bool n_g)) hne2 (p*9+3+1) (.slice n_o n_n n_c)) hne2 (p*9+3+2) (.int .i64 n_e)
          have HN':Hid (LnN (((y5.setCell ⟨w.heap.size+1,p*9+3,none⟩ (.bool n_g)).setCell ⟨w.heap.size+1,p*9+3+1,none⟩ (.slice n_o n_n n_c)).setCell ⟨w.heap.size+1,p*9+3+2,none⟩ (.int .i64 n_e)) (((arr.setIfInBounds (p*9+3) (.bool n_g)).setIfInBounds (p*9+3+1) (.slice n_o n_n n_c)).setIfInBounds (p*9+3+2) (.int .i64 n_e)) (fun p k=>patV (s p k)-patV (s m k)) p (1+1) (fun p' k=>if p'=p∧k=1 then ⟨n_g,n_o,n_n,n_c,fun _=>0,n_e⟩ else R p' k)):=(HN.out.keeps hC1).step p4.out (by decide) l_k2 ⟨n_g,n_o,n_n,n_c,fun _=>0,n_e⟩ (hd.dan.lower (Nat.zero_le _))
          replace l_k:=heap_set (heap_set (heap_set l_k2 (p*9+3) (.bool n_g)) (p*9+3+1) (.slice n_o n_n n_c)) (p*9+3+2) (.int .i64 n_e)
          have hge:w.heap.size<=w.heap.size+1:=by omega
          replace hbw:=(((bel_trans hbw hC1).setCell (p:=⟨w.heap.size+1,p*9+3,none⟩) hge (.bool n_g)).setCell (p:=⟨w.heap.size+1,p*9+3+1,none⟩) hge (.slice n_o n_n n_c)).setCell (p:=⟨w.heap.size+1,p*9+3+2,none⟩) hge (.int .i64 n_e)
          clear hC0 hC1 hd l_k2 e0 e1 e2 KK a0 a1 a2 HN
          go_wp2_with fail
          go_roundw
          case rel=>exact ⟨1+1,by omega,by go_num,_,_,HN',l_k,r_k,f_k,hbw⟩
          case measure=>simp [intOf]
        . obtain ⟨a0,a1,a2,aD⟩:=HN.out.e p p4.out 2 (by decide)
          have i2:∀ w,(Instr.index 78 (.agg #[.int .i64 (s p 0),.int .i64 (s p 1),.int .i64 (s p 2)]) (.int .i64 2)).run Tryd.prog w=.ok (.int .i64 (s p 2)) w:=fun _=>by kernel_rfl
          change arr[p*9+6]?=_ at a0
          change arr[p*9+6+1]?=_ at a1
          change arr[p*9+6+2]?=_ at a2
          clear aD
          go_wp2_with fail
          have KK:∀ W,Below wr.heap.size wr W->W.cell? ⟨fr,2,none⟩=some (.int .i64 (s m 2)):=fun W hb=>q_cell (blkC f_k 2 rfl) hb
          have hC0:=(bel_refl wr).drew
          have hne:fr≠w.heap.size+1:=by omega
          go_region_held3 (fun W=>W.cell? ⟨fr,2,none⟩=some (.int .i64 (s m 2)))
            (with_reducible first | assumption | exact KK _ hC0 | exact KK _ hC1 | exact cell_g3 (KK _ hC1) _ _ _ _ _ _ hne | fail)
            (first | (go_at_call 28; refine (C2.out _ (bel_trans hbw hC0)).mono ?_; rintro _ y5 ⟨v,rfl,hd⟩; obtain ⟨n_g,n_o,n_n,n_c,n_e,rfl⟩:=dans_shape hd; have hC1:=bel_trans hC0 hd.below; have l_k2:=blk_us hC1 l_k; have e0:=blkC l_k2 _ a0; have e1:=blkC l_k2 _ a1; have e2:=blkC l_k2 _ a2; have z0:=blkF l_k2 (p*9+6); have z1:=blkF l_k2 (p*9+6+1); have z2:=blkF l_k2 (p*9+6+2)))
          replace f_k:=heap_ne (heap_ne (heap_ne (blk_us hC1 f_k) hne (p*9+6) (.bool n_g)) hne (p*9+6+1) (.slice n_o n_n n_c)) hne (p*9+6+2) (.int .i64 n_e)
          have hne2:w.heap.size≠w.heap.size+1:=by omega
          replace r_k:=heap_ne (heap_ne (heap_ne (blk_us hC1 r_k) hne2 (p*9+6) (.bool n_g)) hne2 (p*9+6+1) (.slice n_o n_n n_c)) hne2 (p*9+6+2) (.int .i64 n_e)
          have HN':Hid (LnN (((y5.setCell ⟨w.heap.size+1,p*9+6,none⟩ (.bool n_g)).setCell ⟨w.heap.size+1,p*9+6+1,none⟩ (.slice n_o n_n n_c)).setCell ⟨w.heap.size+1,p*9+6+2,none⟩ (.int .i64 n_e)) (((arr.setIfInBounds (p*9+6) (.bool n_g)).setIfInBounds (p*9+6+1) (.slice n_o n_n n_c)).setIfInBounds (p*9+6+2) (.int .i64 n_e)) (fun p k=>patV (s p k)-patV (s m k)) p (2+1) (fun p' k=>if p'=p∧k=2 then ⟨n_g,n_o,n_n,n_c,fun _=>0,n_e⟩ else R p' k)):=(HN.out.keeps hC1).step p4.out (by decide) l_k2 ⟨n_g,n_o,n_n,n_c,fun _=>0,n_e⟩ (hd.dan.lower (Nat.zero_le _))
          replace l_k:=heap_set (heap_set (heap_set l_k2 (p*9+6) (.bool n_g)) (p*9+6+1) (.slice n_o n_n n_c)) (p*9+6+2) (.int .i64 n_e)
          have hge:w.heap.size<=w.heap.size+1:=by omega
          replace hbw:=(((bel_trans hbw hC1).setCell (p:=⟨w.heap.size+1,p*9+6,none⟩) hge (.bool n_g)).setCell (p:=⟨w.heap.size+1,p*9+6+1,none⟩) hge (.slice n_o n_n n_c)).setCell (p:=⟨w.heap.size+1,p*9+6+2,none⟩) hge (.int .i64 n_e)
          clear hC0 hC1 hd l_k2 e0 e1 e2 KK a0 a1 a2 HN
          go_wp2_with fail
          go_roundw
          case rel=>exact ⟨2+1,by omega,by go_num,_,_,HN',l_k,r_k,f_k,hbw⟩
          case measure=>simp [intOf]
        . have HN':Hid (LnN wr arr (fun p k=>patV (s p k)-patV (s m k)) (p+1) 0 R):=HN.out.roll
          go_wp2_with fail
          go_roundw
          case rel=>exact ⟨p+1,by omega,by go_num,arr,R,HN',l_k,r_k,f_k,hbw⟩
          case measure=>simp [intOf]; omega
    . obtain rfl:p=m:=by omega
      have HE:=HN.out.all
      have hi:(Tryd.prog.info? 64).map (·.size)=some arr.size:=by rw [HN.out.n]; kernel_rfl
      have h36:(#[.bool false,.slice none 0 0,.int .i64 0,.bool false,.slice none 0 0,.int .i64 0,.bool false,.slice none 0 0,.int .i64 0,.bool false,.slice none 0 0,.int .i64 0,.bool false,.slice none 0 0,.int .i64 0,.bool false,.slice none 0 0,.int .i64 0,.bool false,.slice none 0 0,.int .i64 0,.bool false,.slice none 0 0,.int .i64 0,.bool false,.slice none 0 0,.int .i64 0,.bool false,.slice none 0 0,.int .i64 0,.bool false,.slice none 0 0,.int .i64 0,.bool false,.slice none 0 0,.int .i64 0]:Array Value).size=arr.size:=HN.out.n.symm
      have ho:arr.all (·.oneCell')=true:=HN.out.o
      repeat (first | (refine wp_load_row 64 _ rfl (w.heap.size+1) rfl _ _ _ _ l_k Tryd.underlying64 rfl hi ?_; dsimp only [Act.put]) | (refine wp_store_row 64 _ _ rfl w.heap.size arr rfl rfl _ _ r_k hi h36 ho ?_; dsimp only [Act.put]) | go_step)
      have r_k2:=setRow_heap _ _ _ arr _ _ r_k
      exact bodyPost_ret (v:=.agg arr) (results_cell_row Tryd.results27 _ _ w.heap.size 64 arr (0,0) _ (by simp) r_k2 Tryd.underlying64 rfl hi) rfl ⟨arr,R,rfl,HE.row r_k,below_setRow hbw (by omega) _⟩
end Go.Proofs.YtobofhgpidbpmaaDoor
