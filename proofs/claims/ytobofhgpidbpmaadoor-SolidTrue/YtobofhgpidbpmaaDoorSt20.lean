/- Parts of the proof. -/
import Derived.Test.YtobofhgpidbpmaaDoorSt19
import Derived.Test.YtobofhgpidbpmaaDoorSt6
import Derived.Test.YtobofhgpidbpmaaDoorSt17
set_option linter.unusedVariables false
set_option linter.unusedSimpArgs false
namespace Go.Proofs.YtobofhgpidbpmaaDoor
open Go Go.RowKit Go.Proofs.YtobofhgpidbpmaaDoor.M
theorem wd_eq1 {a b:Int} (ha:rng a) (hb:rng b) (h:wd a=wd b):a=b:=by
  unfold wd at h
  unfold rng at ha hb
  omega
theorem fsum_ev {a b:Nat} {p q r:Int} (hx:Fx a b p) (hy:Fx a b q) (hb:b+1<=2097) (rr:rng r) (h:Ieee.double.add (wd p) (wd q)=some (wd r)):fsum p q=r:=by
  obtain ⟨s,-⟩:=hx.sum hy hb
  rcases add_FW (FW.pat (q_fin hx.p) hx.r) (FW.pat (q_fin hy.p) hy.r) with ⟨z,e1,e2⟩ | ⟨e1,_⟩
  . rw [h] at e1
    cases e1
    obtain ⟨_,e3,_⟩:=e2.of (q_fin s.p)
    exact (wd_eq1 rr s.r e3).symm
  . rw [h] at e1
    cases e1
theorem fprod_ev {p q r:Int} (rp:rng p) (pp:pok p=true) (rq:rng q) (pq:pok q=true) (rr:rng r) (h:Ieee.double.mul (wd p) (wd q)=some (wd r)):fprod p q=r:=by
  have c:=cls_prod pp rp pq rq
  rcases mul_FW (FW.pat (q_fin pp) rp) (FW.pat (q_fin pq) rq) with ⟨z,e1,e2⟩ | ⟨e1,_⟩
  . rw [h] at e1
    cases e1
    obtain ⟨_,e3,_⟩:=e2.of c
    exact (wd_eq1 rr (fprod_rng rp rq) e3).symm
  . rw [h] at e1
    cases e1
def one1:Int:=4607182418800017408
theorem rng_one:rng one1:=by unfold rng one1; omega
theorem rng_nil:rng 0:=by unfold rng; omega
theorem fx_one:Fx 872 1226 one1:=(tame_Mz rng_one (by decide)).fx.up (by decide)
theorem fx_nil:Fx 872 1226 0:=fx_zero
theorem s10:fsum one1 (neg 0)=one1:=fsum_ev fx_one fx_nil.neg.1 (by decide) rng_one (by decide +kernel)
theorem s00:fsum 0 (neg 0)=0:=fsum_ev fx_nil fx_nil.neg.1 (by decide) rng_nil (by decide +kernel)
theorem t10:fsum one1 0=one1:=fsum_ev fx_one fx_nil (by decide) rng_one (by decide +kernel)
theorem t01:fsum 0 one1=one1:=fsum_ev fx_nil fx_one (by decide) rng_one (by decide +kernel)
theorem t00:fsum 0 0=0:=fsum_ev fx_nil fx_nil (by decide) rng_nil (by decide +kernel)
theorem p11:fprod one1 one1=one1:=fprod_ev rng_one (by decide) rng_one (by decide) rng_one (by decide +kernel)
theorem p10:fprod one1 0=0:=fprod_ev rng_one (by decide) rng_nil (by decide) rng_nil (by decide +kernel)
theorem p01:fprod 0 one1=0:=fprod_ev rng_nil (by decide) rng_one (by decide) rng_nil (by decide +kernel)
theorem p00:fprod 0 0=0:=fprod_ev rng_nil (by decide) rng_nil (by decide) rng_nil (by decide +kernel)
theorem pA1:fprod sA one1=sA:=fprod_ev rng_sA (by decide) rng_one (by decide) rng_sA (by decide +kernel)
theorem r_one:rg one1=one1:=by decide
theorem r_nil:rg 0=0:=by decide
set_option maxRecDepth 100000 in
theorem lnum12 (e:Int) (W:World):Calls Tryd.prog 11 #[.int .i64 e] W fun r w'=>r=.returned (.int .i64 e)∧w'=W:=by
  go_enter Tryd.func11,Tryd.ntmps11
  go_wp2
  go_ret
  exact ⟨rfl,rfl⟩
def sal (p k:Nat):Int:=if p=k then one1 else 0
theorem rng_sal (p k:Nat):rng (sal p k):=by unfold sal; split; exact rng_one; exact rng_nil
theorem u_sal (p k:Nat) (hp:p<3) (hk:k<3):uL sal 3 p k=if p=k then one1 else 0:=by
  unfold uL sal
  rw [if_pos hp,if_neg (show ¬ (3=k) by omega)]
  by_cases e:p=k
  . rw [if_pos e,s10]
  . rw [if_neg e,s00]
theorem m_sal (p q:Nat) (hp:p<3) (hq:q<3):pL (uL sal 3) p q=if p=0∧q=1 then one1 else 0:=by
  unfold pL
  rw [u_sal p 0 hp (by decide),u_sal q 1 hq (by decide)]
  by_cases a:p=0 <;> by_cases b:q=1
  . rw [if_pos a,if_pos b,if_pos ⟨a,b⟩,p11]
  . rw [if_pos a,if_neg b,if_neg (fun c=>b c.2),p10]
  . rw [if_neg a,if_pos b,if_neg (fun c=>a c.1),p01]
  . rw [if_neg a,if_neg b,if_neg (fun c=>a c.1),p00]
theorem d_sal:dt (uL sal 3) 0 1 2=one1:=by
  unfold dt mn
  rw [m_sal 1 2 (by decide) (by decide),m_sal 2 1 (by decide) (by decide),m_sal 0 2 (by decide) (by decide),m_sal 2 0 (by decide) (by decide),m_sal 0 1 (by decide) (by decide),m_sal 1 0 (by decide) (by decide),u_sal 0 2 (by decide) (by decide),u_sal 1 2 (by decide) (by decide),u_sal 2 2 (by decide) (by decide)]
  simp only [reduceIte,Nat.reduceEqDiff,and_true,and_false,false_and,true_and]
  rw [s00,p00,s00,s10,p11,t01]
theorem x_sal:sxz (uL sal 3) 0 1 2=one1:=by
  unfold sxz sz
  rw [m_sal 1 2 (by decide) (by decide),m_sal 2 1 (by decide) (by decide),m_sal 0 2 (by decide) (by decide),m_sal 2 0 (by decide) (by decide),m_sal 0 1 (by decide) (by decide),m_sal 1 0 (by decide) (by decide),u_sal 0 2 (by decide) (by decide),u_sal 1 2 (by decide) (by decide),u_sal 2 2 (by decide) (by decide)]
  simp only [reduceIte,Nat.reduceEqDiff,and_true,and_false,false_and,true_and,r_one,r_nil]
  rw [t00,p00,t00,t10,p11,t01]
theorem z_sal (i k:Nat):Mz (sal i k):=tame_Mz (rng_sal i k) (by unfold sal; split <;> decide)
theorem st_sal:st_side sal=1:=by
  unfold st_side
  rw [if_pos (by decide),d_sal,x_sal,pA1,if_pos (by decide)]
theorem ord_sal:ord (dX (vL sal 3) 0 1 2) 0=1:=by
  rw [<- sgn_side rng_sal (fun i _ k _=>z_sal i k) (by rw [d_sal,x_sal,pA1]; decide),d_sal]
  decide
set_option maxRecDepth 100000 in
set_option maxHeartbeats 1000000 in
theorem alive12 (w:World) (H:Hold4 w):Calls Tryd.prog 4 #[] w fun e w'=>e=.returned (.bool true)∧Below w.heap.size w w':=by
  have CS:Hid (∀ W,Hold4 W->Calls Tryd.prog 6 #[.agg #[.int .i64 4607182418800017408,.int .i64 0,.int .i64 0],.agg #[.int .i64 0,.int .i64 4607182418800017408,.int .i64 0],.agg #[.int .i64 0,.int .i64 0,.int .i64 4607182418800017408],.agg #[.int .i64 0,.int .i64 0,.int .i64 0]] W fun e w'=>e=.returned (.tuple #[.agg #[.int .i64 1,.int .i64 1],.int .i64 0])∧Below W.heap.size W w'):=fun W hW=>by
    have:=sSide_ok sal W rng_sal (by decide) hW
    rw [ord_sal,st_sal] at this
    exact this
  have CN:Hid (∀ W,Calls Tryd.prog 11 #[.int .i64 0] W fun r w'=>r=.returned (.int .i64 0)∧w'=W):=fun W=>lnum12 _ W
  go_enter Tryd.func4,Tryd.ntmps4
  go_wp2_with fail
  refine (CS.out _ H).mono ?_
  rintro _ y1 ⟨rfl,hw⟩
  have v_k:=heap_a1 y1 (.cells #[.int .i64 1,.int .i64 1] 29)
  have k0:=blkC v_k 0 rfl
  have k1:=blkC v_k 1 rfl
  go_wp2_with (first | (go_at_call 11; refine (CN.out _).mono ?_; rintro _ _ ⟨rfl,rfl⟩))
  go_ret
  exact ⟨rfl,bel_trans hw (bel_alloc _ _)⟩
end Go.Proofs.YtobofhgpidbpmaaDoor
namespace Go.Proofs.YtobofhgpidbpmaaDoor
open Go Go.ChangeShapes Go.WideShapes Go.ChangeAt Go.RowKit Go.Proofs.YtobofhgpidbpmaaDoor.M
theorem q_cells5:Tryd.prog.cellsOf 24=15:=by kernel_rfl
theorem q_cellsSpace:Tryd.prog.cellsOf 23=3:=by kernel_rfl
theorem q_cellsInt3:Tryd.prog.cellsOf 3=1:=by kernel_rfl
set_option maxRecDepth 100000 in
theorem space_cells {H:Type} {enc:TypeId × Value->H} {W:World} {n:Nat} {cs:List Value} {x:DataW H × List MemPlace}
    (h:DataW.trod enc Tryd.prog W 0 (fun _=>true) true n 23 cs=some x) :
    ∃ a b c:Int,cs=[.int .i64 a,.int .i64 b,.int .i64 c]∧rng a∧rng b∧rng c:=by
  obtain ⟨xs,m,_,rfl,hl,hlen,hf⟩:=DataW.trod_struct Tryd.underlying23 h
  rw [q_cellsSpace] at hl
  match cs,hl with
  | [v0,v1,v2],_=>
    match xs,hlen with
    | [y0,y1,y2],_=>
      have f0:DataW.trod enc Tryd.prog W 0 (fun _=>true) true m 3 (([v0,v1,v2].drop 0).take (Tryd.prog.cellsOf 3))=some y0:=hf 0 _ rfl
      have f1:DataW.trod enc Tryd.prog W 0 (fun _=>true) true m 3 (([v0,v1,v2].drop 1).take (Tryd.prog.cellsOf 3))=some y1:=hf 1 _ rfl
      have f2:DataW.trod enc Tryd.prog W 0 (fun _=>true) true m 3 (([v0,v1,v2].drop 2).take (Tryd.prog.cellsOf 3))=some y2:=hf 2 _ rfl
      rw [q_cellsInt3] at f0 f1 f2
      simp only [List.drop_zero,List.drop_succ_cons,List.take_succ_cons,List.take_zero] at f0 f1 f2
      obtain ⟨k0,e0,_,w0⟩:=DataW.trod_int Tryd.underlying3 f0
      obtain ⟨k1,e1,_,w1⟩:=DataW.trod_int Tryd.underlying3 f1
      obtain ⟨k2,e2,_,w2⟩:=DataW.trod_int Tryd.underlying3 f2
      simp at e0 e1 e2
      subst e0 e1 e2
      exact ⟨k0,k1,k2,rfl,rng_of w0,rng_of w1,rng_of w2⟩
theorem chop3 (cs:List Value) (k:Nat):cs.drop k=(cs.drop k).take 3 ++ cs.drop (k+3):=by
  rw [<- List.drop_drop]
  exact (List.take_append_drop 3 _).symm
def five (s:Nat->Nat->Int):Array Value:=#[.int .i64 (s 0 0),.int .i64 (s 0 1),.int .i64 (s 0 2),.int .i64 (s 1 0),.int .i64 (s 1 1),.int .i64 (s 1 2),.int .i64 (s 2 0),.int .i64 (s 2 1),.int .i64 (s 2 2),.int .i64 (s 3 0),.int .i64 (s 3 1),.int .i64 (s 3 2),.int .i64 (s 4 0),.int .i64 (s 4 1),.int .i64 (s 4 2)]
theorem rng_l3 {a b c:Int} (h:rng a∧rng b∧rng c) (k:Nat):rng (l3 a b c k):=by
  unfold l3
  split
  . exact h.1
  . split
    . exact h.2.1
    . exact h.2.2
set_option maxRecDepth 100000 in
theorem okWide_array5 {W:World} {base:Nat} {v:Value} (hv:Value.okWide Tryd.prog W .any base 24 v):∃ cs,v=.agg cs∧cs.size=15:=by
  unfold Value.okWide at hv
  rw [Tryd.underlying24] at hv
  dsimp only at hv
  obtain ⟨cs,h1,h2,_⟩:=hv
  exact ⟨cs,h1,by rw [h2]; exact q_cells5⟩
set_option maxRecDepth 100000 in
theorem spaces5_of {H:Type} {enc:TypeId × Value->H} {W:World} {base:Nat} {v:Value} {d:DataW H} {p:List MemPlace} (hv:Value.okWide Tryd.prog W .any base 24 v)
    (h:DataW.Trod enc Tryd.prog W 0 (fun _=>true) true 24 v d p):∃ s:Nat->Nat->Int,v=.agg (five s)∧∀ i k,rng (s i k):=by
  obtain ⟨cs,rfl,hc⟩:=okWide_array5 hv
  obtain ⟨fuel,hf⟩:=h
  obtain ⟨xs,m,_,_,hl,hx,hf⟩:=DataW.trod_array Tryd.underlying24 hf
  rw [q_cells5] at hl
  change cs.toList.length=15 at hl
  rw [q_cellsSpace] at hf
  have K:∀ i,i<5->∃ a b c:Int,(cs.toList.drop (i*3)).take 3=[.int .i64 a,.int .i64 b,.int .i64 c]∧rng a∧rng b∧rng c:=fun i hi=>
    space_cells ((hf i hi).trans (List.getElem?_eq_getElem (by omega)))
  obtain ⟨a0,b0,c0,e0,r0⟩:=K 0 (by decide)
  obtain ⟨a1,b1,c1,e1,r1⟩:=K 1 (by decide)
  obtain ⟨a2,b2,c2,e2,r2⟩:=K 2 (by decide)
  obtain ⟨a3,b3,c3,e3,r3⟩:=K 3 (by decide)
  obtain ⟨a4,b4,c4,e4,r4⟩:=K 4 (by decide)
  have hE:cs.toList.drop 15=[]:=List.drop_eq_nil_of_le (by omega)
  have hT:cs.toList=[.int .i64 a0,.int .i64 b0,.int .i64 c0,.int .i64 a1,.int .i64 b1,.int .i64 c1,.int .i64 a2,.int .i64 b2,.int .i64 c2,.int .i64 a3,.int .i64 b3,.int .i64 c3,.int .i64 a4,.int .i64 b4,.int .i64 c4]:=by
    have h0:=chop3 cs.toList 0
    have h1:=chop3 cs.toList 3
    have h2:=chop3 cs.toList 6
    have h3:=chop3 cs.toList 9
    have h4:=chop3 cs.toList 12
    simp only [Nat.reduceMul,Nat.reduceAdd] at h0 h1 h2 h3 h4 e0 e1 e2 e3 e4
    rw [hE,e4] at h4
    rw [h4,e3] at h3
    rw [h3,e2] at h2
    rw [h2,e1] at h1
    rw [h1,e0,List.drop_zero] at h0
    exact h0
  refine ⟨fun i=>if i=0 then l3 a0 b0 c0 else if i=1 then l3 a1 b1 c1 else if i=2 then l3 a2 b2 c2 else if i=3 then l3 a3 b3 c3 else l3 a4 b4 c4,?_,fun i k=>?_⟩
  . congr 1
    exact Array.toList_inj.1 hT
  . dsimp only
    split
    . exact rng_l3 r0 k
    . split
      . exact rng_l3 r1 k
      . split
        . exact rng_l3 r2 k
        . split
          . exact rng_l3 r3 k
          . exact rng_l3 r4 k
theorem sps5 (s:Nat->Nat->Int) (w:World) {g:Nat} {t:TypeId} (h:w.heap[g]?=some (.cells (five s) t (0,0))):Sps w (some ⟨g,0,none⟩) 5 5 s :=
  ⟨by omega,by omega,fun _=>⟨g,0,rfl,(Array.getElem?_eq_some_iff.1 h).1,fun i hi=>by
    match i,hi with
    | 0,_=>exact ⟨blkC h 0 rfl,blkC h 1 rfl,blkC h 2 rfl⟩
    | 1,_=>exact ⟨blkC h 3 rfl,blkC h 4 rfl,blkC h 5 rfl⟩
    | 2,_=>exact ⟨blkC h 6 rfl,blkC h 7 rfl,blkC h 8 rfl⟩
    | 3,_=>exact ⟨blkC h 9 rfl,blkC h 10 rfl,blkC h 11 rfl⟩
    | 4,_=>exact ⟨blkC h 12 rfl,blkC h 13 rfl,blkC h 14 rfl⟩⟩⟩
theorem sok54 {s:Nat->Nat->Int} (h:allB (sok s) 5=true):allB (sok s) 4=true:=decide_eq_true fun i hi=>(of_decide_eq_true h) i (by omega)
end Go.Proofs.YtobofhgpidbpmaaDoor
namespace Go.Proofs.YtobofhgpidbpmaaDoor
open Go Go.RowKit Go.Proofs.YtobofhgpidbpmaaDoor.M
theorem x3_01 (X Y:Nat->Nat->Int) (h0:∀ k,Y 0 k=X 1 k) (h1:∀ k,Y 1 k=X 0 k) (h2:∀ k,Y 2 k=X 2 k):dX Y 0 1 2=- dX X 0 1 2:=by
  unfold dX mX
  simp only [h0,h1,h2]
  grind
theorem x3_02 (X Y:Nat->Nat->Int) (h0:∀ k,Y 0 k=X 2 k) (h1:∀ k,Y 1 k=X 1 k) (h2:∀ k,Y 2 k=X 0 k):dX Y 0 1 2=- dX X 0 1 2:=by
  unfold dX mX
  simp only [h0,h1,h2]
  grind
theorem x3_03 (X Y:Nat->Nat->Int) (h0:∀ k,Y 0 k=- X 0 k) (h1:∀ k,Y 1 k=X 1 k-X 0 k) (h2:∀ k,Y 2 k=X 2 k-X 0 k):dX Y 0 1 2=- dX X 0 1 2:=by
  unfold dX mX
  simp only [h0,h1,h2]
  grind
theorem x3_12 (X Y:Nat->Nat->Int) (h0:∀ k,Y 0 k=X 0 k) (h1:∀ k,Y 1 k=X 2 k) (h2:∀ k,Y 2 k=X 1 k):dX Y 0 1 2=- dX X 0 1 2:=by
  unfold dX mX
  simp only [h0,h1,h2]
  grind
theorem x3_13 (X Y:Nat->Nat->Int) (h0:∀ k,Y 0 k=X 0 k-X 1 k) (h1:∀ k,Y 1 k=- X 1 k) (h2:∀ k,Y 2 k=X 2 k-X 1 k):dX Y 0 1 2=- dX X 0 1 2:=by
  unfold dX mX
  simp only [h0,h1,h2]
  grind
theorem x3_23 (X Y:Nat->Nat->Int) (h0:∀ k,Y 0 k=X 0 k-X 2 k) (h1:∀ k,Y 1 k=X 1 k-X 2 k) (h2:∀ k,Y 2 k=- X 2 k):dX Y 0 1 2=- dX X 0 1 2:=by
  unfold dX mX
  simp only [h0,h1,h2]
  grind
theorem x4_01 (X Y:Nat->Nat->Int) (h0:∀ k,Y 0 k=X 1 k) (h1:∀ k,Y 1 k=X 0 k) (h2:∀ k,Y 2 k=X 2 k) (h3:∀ k,Y 3 k=X 3 k):sX Y=- sX X:=by
  have l0:lX Y 0=lX X 1:=by unfold lX; simp only [h0]
  have l1:lX Y 1=lX X 0:=by unfold lX; simp only [h1]
  have l2:lX Y 2=lX X 2:=by unfold lX; simp only [h2]
  have l3:lX Y 3=lX X 3:=by unfold lX; simp only [h3]
  unfold sX
  rw [l0,l1,l2,l3]
  generalize lX X 0=L0
  generalize lX X 1=L1
  generalize lX X 2=L2
  generalize lX X 3=L3
  unfold dX mX
  simp only [h0,h1,h2,h3]
  grind
theorem x4_02 (X Y:Nat->Nat->Int) (h0:∀ k,Y 0 k=X 2 k) (h1:∀ k,Y 1 k=X 1 k) (h2:∀ k,Y 2 k=X 0 k) (h3:∀ k,Y 3 k=X 3 k):sX Y=- sX X:=by
  have l0:lX Y 0=lX X 2:=by unfold lX; simp only [h0]
  have l1:lX Y 1=lX X 1:=by unfold lX; simp only [h1]
  have l2:lX Y 2=lX X 0:=by unfold lX; simp only [h2]
  have l3:lX Y 3=lX X 3:=by unfold lX; simp only [h3]
  unfold sX
  rw [l0,l1,l2,l3]
  generalize lX X 0=L0
  generalize lX X 1=L1
  generalize lX X 2=L2
  generalize lX X 3=L3
  unfold dX mX
  simp only [h0,h1,h2,h3]
  grind
theorem x4_03 (X Y:Nat->Nat->Int) (h0:∀ k,Y 0 k=X 3 k) (h1:∀ k,Y 1 k=X 1 k) (h2:∀ k,Y 2 k=X 2 k) (h3:∀ k,Y 3 k=X 0 k):sX Y=- sX X:=by
  have l0:lX Y 0=lX X 3:=by unfold lX; simp only [h0]
  have l1:lX Y 1=lX X 1:=by unfold lX; simp only [h1]
  have l2:lX Y 2=lX X 2:=by unfold lX; simp only [h2]
  have l3:lX Y 3=lX X 0:=by unfold lX; simp only [h3]
  unfold sX
  rw [l0,l1,l2,l3]
  generalize lX X 0=L0
  generalize lX X 1=L1
  generalize lX X 2=L2
  generalize lX X 3=L3
  unfold dX mX
  simp only [h0,h1,h2,h3]
  grind
theorem x4_04 (X Y:Nat->Nat->Int) (h0:∀ k,Y 0 k=- X 0 k) (h1:∀ k,Y 1 k=X 1 k-X 0 k) (h2:∀ k,Y 2 k=X 2 k-X 0 k) (h3:∀ k,Y 3 k=X 3 k-X 0 k):sX Y=- sX X:=by
  have l0:lX Y 0=lX X 0:=by unfold lX; simp only [h0]; grind
  have l1:lX Y 1=lX X 1-2*(X 0 0*X 1 0+X 0 1*X 1 1+X 0 2*X 1 2)+lX X 0:=by unfold lX; simp only [h1]; grind
  have l2:lX Y 2=lX X 2-2*(X 0 0*X 2 0+X 0 1*X 2 1+X 0 2*X 2 2)+lX X 0:=by unfold lX; simp only [h2]; grind
  have l3:lX Y 3=lX X 3-2*(X 0 0*X 3 0+X 0 1*X 3 1+X 0 2*X 3 2)+lX X 0:=by unfold lX; simp only [h3]; grind
  have hi:lX X 0=X 0 0*X 0 0+X 0 1*X 0 1+X 0 2*X 0 2:=rfl
  unfold sX
  rw [l0,l1,l2,l3,hi]
  generalize lX X 1=L1
  generalize lX X 2=L2
  generalize lX X 3=L3
  clear l0 l1 l2 l3 hi
  unfold dX mX
  simp only [h0,h1,h2,h3]
  clear h0 h1 h2 h3
  generalize X 0 0=x00
  generalize X 0 1=x01
  generalize X 0 2=x02
  generalize X 1 0=x10
  generalize X 1 1=x11
  generalize X 1 2=x12
  generalize X 2 0=x20
  generalize X 2 1=x21
  generalize X 2 2=x22
  generalize X 3 0=x30
  generalize X 3 1=x31
  generalize X 3 2=x32
  grind
theorem x4_12 (X Y:Nat->Nat->Int) (h0:∀ k,Y 0 k=X 0 k) (h1:∀ k,Y 1 k=X 2 k) (h2:∀ k,Y 2 k=X 1 k) (h3:∀ k,Y 3 k=X 3 k):sX Y=- sX X:=by
  have l0:lX Y 0=lX X 0:=by unfold lX; simp only [h0]
  have l1:lX Y 1=lX X 2:=by unfold lX; simp only [h1]
  have l2:lX Y 2=lX X 1:=by unfold lX; simp only [h2]
  have l3:lX Y 3=lX X 3:=by unfold lX; simp only [h3]
  unfold sX
  rw [l0,l1,l2,l3]
  generalize lX X 0=L0
  generalize lX X 1=L1
  generalize lX X 2=L2
  generalize lX X 3=L3
  unfold dX mX
  simp only [h0,h1,h2,h3]
  grind
theorem x4_13 (X Y:Nat->Nat->Int) (h0:∀ k,Y 0 k=X 0 k) (h1:∀ k,Y 1 k=X 3 k) (h2:∀ k,Y 2 k=X 2 k) (h3:∀ k,Y 3 k=X 1 k):sX Y=- sX X:=by
  have l0:lX Y 0=lX X 0:=by unfold lX; simp only [h0]
  have l1:lX Y 1=lX X 3:=by unfold lX; simp only [h1]
  have l2:lX Y 2=lX X 2:=by unfold lX; simp only [h2]
  have l3:lX Y 3=lX X 1:=by unfold lX; simp only [h3]
  unfold sX
  rw [l0,l1,l2,l3]
  generalize lX X 0=L0
  generalize lX X 1=L1
  generalize lX X 2=L2
  generalize lX X 3=L3
  unfold dX mX
  simp only [h0,h1,h2,h3]
  grind
theorem x4_14 (X Y:Nat->Nat->Int) (h0:∀ k,Y 0 k=X 0 k-X 1 k) (h1:∀ k,Y 1 k=- X 1 k) (h2:∀ k,Y 2 k=X 2 k-X 1 k) (h3:∀ k,Y 3 k=X 3 k-X 1 k):sX Y=- sX X:=by
  have l0:lX Y 0=lX X 0-2*(X 1 0*X 0 0+X 1 1*X 0 1+X 1 2*X 0 2)+lX X 1:=by unfold lX; simp only [h0]; grind
  have l1:lX Y 1=lX X 1:=by unfold lX; simp only [h1]; grind
  have l2:lX Y 2=lX X 2-2*(X 1 0*X 2 0+X 1 1*X 2 1+X 1 2*X 2 2)+lX X 1:=by unfold lX; simp only [h2]; grind
  have l3:lX Y 3=lX X 3-2*(X 1 0*X 3 0+X 1 1*X 3 1+X 1 2*X 3 2)+lX X 1:=by unfold lX; simp only [h3]; grind
  have hi:lX X 1=X 1 0*X 1 0+X 1 1*X 1 1+X 1 2*X 1 2:=rfl
  unfold sX
  rw [l0,l1,l2,l3,hi]
  generalize lX X 0=L0
  generalize lX X 2=L2
  generalize lX X 3=L3
  clear l0 l1 l2 l3 hi
  unfold dX mX
  simp only [h0,h1,h2,h3]
  clear h0 h1 h2 h3
  generalize X 0 0=x00
  generalize X 0 1=x01
  generalize X 0 2=x02
  generalize X 1 0=x10
  generalize X 1 1=x11
  generalize X 1 2=x12
  generalize X 2 0=x20
  generalize X 2 1=x21
  generalize X 2 2=x22
  generalize X 3 0=x30
  generalize X 3 1=x31
  generalize X 3 2=x32
  grind
theorem x4_23 (X Y:Nat->Nat->Int) (h0:∀ k,Y 0 k=X 0 k) (h1:∀ k,Y 1 k=X 1 k) (h2:∀ k,Y 2 k=X 3 k) (h3:∀ k,Y 3 k=X 2 k):sX Y=- sX X:=by
  have l0:lX Y 0=lX X 0:=by unfold lX; simp only [h0]
  have l1:lX Y 1=lX X 1:=by unfold lX; simp only [h1]
  have l2:lX Y 2=lX X 3:=by unfold lX; simp only [h2]
  have l3:lX Y 3=lX X 2:=by unfold lX; simp only [h3]
  unfold sX
  rw [l0,l1,l2,l3]
  generalize lX X 0=L0
  generalize lX X 1=L1
  generalize lX X 2=L2
  generalize lX X 3=L3
  unfold dX mX
  simp only [h0,h1,h2,h3]
  grind
theorem x4_24 (X Y:Nat->Nat->Int) (h0:∀ k,Y 0 k=X 0 k-X 2 k) (h1:∀ k,Y 1 k=X 1 k-X 2 k) (h2:∀ k,Y 2 k=- X 2 k) (h3:∀ k,Y 3 k=X 3 k-X 2 k):sX Y=- sX X:=by
  have l0:lX Y 0=lX X 0-2*(X 2 0*X 0 0+X 2 1*X 0 1+X 2 2*X 0 2)+lX X 2:=by unfold lX; simp only [h0]; grind
  have l1:lX Y 1=lX X 1-2*(X 2 0*X 1 0+X 2 1*X 1 1+X 2 2*X 1 2)+lX X 2:=by unfold lX; simp only [h1]; grind
  have l2:lX Y 2=lX X 2:=by unfold lX; simp only [h2]; grind
  have l3:lX Y 3=lX X 3-2*(X 2 0*X 3 0+X 2 1*X 3 1+X 2 2*X 3 2)+lX X 2:=by unfold lX; simp only [h3]; grind
  have hi:lX X 2=X 2 0*X 2 0+X 2 1*X 2 1+X 2 2*X 2 2:=rfl
  unfold sX
  rw [l0,l1,l2,l3,hi]
  generalize lX X 0=L0
  generalize lX X 1=L1
  generalize lX X 3=L3
  clear l0 l1 l2 l3 hi
  unfold dX mX
  simp only [h0,h1,h2,h3]
  clear h0 h1 h2 h3
  generalize X 0 0=x00
  generalize X 0 1=x01
  generalize X 0 2=x02
  generalize X 1 0=x10
  generalize X 1 1=x11
  generalize X 1 2=x12
  generalize X 2 0=x20
  generalize X 2 1=x21
  generalize X 2 2=x22
  generalize X 3 0=x30
  generalize X 3 1=x31
  generalize X 3 2=x32
  grind
theorem x4_34 (X Y:Nat->Nat->Int) (h0:∀ k,Y 0 k=X 0 k-X 3 k) (h1:∀ k,Y 1 k=X 1 k-X 3 k) (h2:∀ k,Y 2 k=X 2 k-X 3 k) (h3:∀ k,Y 3 k=- X 3 k):sX Y=- sX X:=by
  have l0:lX Y 0=lX X 0-2*(X 3 0*X 0 0+X 3 1*X 0 1+X 3 2*X 0 2)+lX X 3:=by unfold lX; simp only [h0]; grind
  have l1:lX Y 1=lX X 1-2*(X 3 0*X 1 0+X 3 1*X 1 1+X 3 2*X 1 2)+lX X 3:=by unfold lX; simp only [h1]; grind
  have l2:lX Y 2=lX X 2-2*(X 3 0*X 2 0+X 3 1*X 2 1+X 3 2*X 2 2)+lX X 3:=by unfold lX; simp only [h2]; grind
  have l3:lX Y 3=lX X 3:=by unfold lX; simp only [h3]; grind
  have hi:lX X 3=X 3 0*X 3 0+X 3 1*X 3 1+X 3 2*X 3 2:=rfl
  unfold sX
  rw [l0,l1,l2,l3,hi]
  generalize lX X 0=L0
  generalize lX X 1=L1
  generalize lX X 2=L2
  clear l0 l1 l2 l3 hi
  unfold dX mX
  simp only [h0,h1,h2,h3]
  clear h0 h1 h2 h3
  generalize X 0 0=x00
  generalize X 0 1=x01
  generalize X 0 2=x02
  generalize X 1 0=x10
  generalize X 1 1=x11
  generalize X 1 2=x12
  generalize X 2 0=x20
  generalize X 2 1=x21
  generalize X 2 2=x22
  generalize X 3 0=x30
  generalize X 3 1=x31
  generalize X 3 2=x32
  grind
def sw (s:Nat->Nat->Int) (i j p k:Nat):Int:=if p=i then s j k else if p=j then s i k else s p k
def cp (s:Nat->Nat->Int) (i j p k:Nat):Int:=if p=i then s j k else s p k
theorem rng_sw {s:Nat->Nat->Int} (hr:∀ i k,rng (s i k)) (i j p k:Nat):rng (sw s i j p k):=by
  unfold sw
  split
  . exact hr j k
  . split
    . exact hr i k
    . exact hr p k
theorem rng_cp {s:Nat->Nat->Int} (hr:∀ i k,rng (s i k)) (i j p k:Nat):rng (cp s i j p k):=by
  unfold cp
  split
  . exact hr j k
  . exact hr p k
theorem sok_sw {s:Nat->Nat->Int} {n i j:Nat} (h:allB (sok s) n=true) (hi:i<n) (hj:j<n):allB (sok (sw s i j)) n=true:=decide_eq_true fun p hp=>by
  have e:sok (sw s i j) p=sok s (if p=i then j else if p=j then i else p):=by
    unfold sok sw
    by_cases a:p=i
    . simp only [a,if_true]
    . by_cases b:p=j
      . subst b
        simp only [a,if_false,if_true]
      . simp only [a,b,if_false]
  rw [e]
  refine (of_decide_eq_true h) _ ?_
  split
  . exact hj
  . split
    . exact hi
    . exact hp
theorem sok_cp {s:Nat->Nat->Int} {n i j:Nat} (h:allB (sok s) n=true) (hj:j<n):allB (sok (cp s i j)) n=true:=decide_eq_true fun p hp=>by
  have e:sok (cp s i j) p=sok s (if p=i then j else p):=by
    unfold sok cp
    by_cases a:p=i
    . simp only [a,if_true]
    . simp only [a,if_false]
  rw [e]
  refine (of_decide_eq_true h) _ ?_
  split
  . exact hj
  . exact hp
theorem sw_cp {s:Nat->Nat->Int} {i j:Nat} (h:i<j):sw (cp s i j) i j=cp s i j:=by
  funext p k
  unfold sw cp
  by_cases a:p=i
  . subst a
    rw [if_pos rfl,if_neg (by omega),if_pos rfl]
  . rw [if_neg a,if_neg a]
    by_cases b:p=j
    . subst b
      rw [if_pos rfl,if_pos rfl]
    . rw [if_neg b]
theorem ord_mir (a:Int):ord (- a) 0=- ord a 0:=by
  unfold ord
  by_cases h:a<0
  . rw [if_pos h,if_neg (by omega),if_pos (by omega)]; rfl
  . rw [if_neg h]
    by_cases e:0<a
    . rw [if_pos e,if_pos (by omega)]
    . rw [if_neg e,if_neg (by omega),if_neg (by omega)]; rfl
theorem side_sw (s:Nat->Nat->Int):∀ i j,i<j->j<4->dX (vL (sw s i j) 3) 0 1 2=- dX (vL s 3) 0 1 2
  | 0,1,_,_=>x3_01 _ _ (fun k=>by simp [vL,sw]) (fun k=>by simp [vL,sw]) (fun k=>by simp [vL,sw])
  | 0,2,_,_=>x3_02 _ _ (fun k=>by simp [vL,sw]) (fun k=>by simp [vL,sw]) (fun k=>by simp [vL,sw])
  | 0,3,_,_=>x3_03 _ _ (fun k=>by simp [vL,sw]; omega) (fun k=>by simp [vL,sw]; omega) (fun k=>by simp [vL,sw]; omega)
  | 1,2,_,_=>x3_12 _ _ (fun k=>by simp [vL,sw]) (fun k=>by simp [vL,sw]) (fun k=>by simp [vL,sw])
  | 1,3,_,_=>x3_13 _ _ (fun k=>by simp [vL,sw]; omega) (fun k=>by simp [vL,sw]; omega) (fun k=>by simp [vL,sw]; omega)
  | 2,3,_,_=>x3_23 _ _ (fun k=>by simp [vL,sw]; omega) (fun k=>by simp [vL,sw]; omega) (fun k=>by simp [vL,sw]; omega)
  | i+3,j,h,k=>absurd h (by omega)
theorem ord_side_sw (s:Nat->Nat->Int) {i j:Nat} (h:i<j) (k:j<4):ord (dX (vL (sw s i j) 3) 0 1 2) 0=- ord (dX (vL s 3) 0 1 2) 0:=by
  rw [side_sw s i j h k,ord_mir]
theorem sph_sw (s:Nat->Nat->Int):∀ i j,i<j->j<5->sX (vL (sw s i j) 4)=- sX (vL s 4)
  | 0,1,_,_=>x4_01 _ _ (fun k=>by simp [vL,sw]) (fun k=>by simp [vL,sw]) (fun k=>by simp [vL,sw]) (fun k=>by simp [vL,sw])
  | 0,2,_,_=>x4_02 _ _ (fun k=>by simp [vL,sw]) (fun k=>by simp [vL,sw]) (fun k=>by simp [vL,sw]) (fun k=>by simp [vL,sw])
  | 0,3,_,_=>x4_03 _ _ (fun k=>by simp [vL,sw]) (fun k=>by simp [vL,sw]) (fun k=>by simp [vL,sw]) (fun k=>by simp [vL,sw])
  | 0,4,_,_=>x4_04 _ _ (fun k=>by simp [vL,sw]; omega) (fun k=>by simp [vL,sw]; omega) (fun k=>by simp [vL,sw]; omega) (fun k=>by simp [vL,sw]; omega)
  | 1,2,_,_=>x4_12 _ _ (fun k=>by simp [vL,sw]) (fun k=>by simp [vL,sw]) (fun k=>by simp [vL,sw]) (fun k=>by simp [vL,sw])
  | 1,3,_,_=>x4_13 _ _ (fun k=>by simp [vL,sw]) (fun k=>by simp [vL,sw]) (fun k=>by simp [vL,sw]) (fun k=>by simp [vL,sw])
  | 1,4,_,_=>x4_14 _ _ (fun k=>by simp [vL,sw]; omega) (fun k=>by simp [vL,sw]; omega) (fun k=>by simp [vL,sw]; omega) (fun k=>by simp [vL,sw]; omega)
  | 2,3,_,_=>x4_23 _ _ (fun k=>by simp [vL,sw]) (fun k=>by simp [vL,sw]) (fun k=>by simp [vL,sw]) (fun k=>by simp [vL,sw])
  | 2,4,_,_=>x4_24 _ _ (fun k=>by simp [vL,sw]; omega) (fun k=>by simp [vL,sw]; omega) (fun k=>by simp [vL,sw]; omega) (fun k=>by simp [vL,sw]; omega)
  | 3,4,_,_=>x4_34 _ _ (fun k=>by simp [vL,sw]; omega) (fun k=>by simp [vL,sw]; omega) (fun k=>by simp [vL,sw]; omega) (fun k=>by simp [vL,sw]; omega)
  | i+4,j,h,k=>absurd h (by omega)
theorem ord_sph_sw (s:Nat->Nat->Int) {i j:Nat} (h:i<j) (k:j<5):ord (sX (vL (sw s i j) 4)) 0=- ord (sX (vL s 4)) 0:=by
  rw [sph_sw s i j h k,ord_mir]
theorem ord_sph_cp (s:Nat->Nat->Int) {i j:Nat} (h:i<j) (k:j<5):ord (sX (vL (cp s i j) 4)) 0=0:=by
  have:=ord_sph_sw (cp s i j) h k
  rw [sw_cp h] at this
  omega
set_option maxRecDepth 100000 in
set_option maxHeartbeats 1000000 in
theorem dSig {w:World} {g:Bool} {o:Option Addr} {n c:Nat} {e V:Int} (h:DNum w (.agg #[.bool g,.slice o n c,.int .i64 e]) V) :
    Calls Tryd.prog 10 #[.agg #[.bool g,.slice o n c,.int .i64 e]] w fun r w'=>r=.returned (.int .i64 (ord V 0))∧Below w.heap.size w w':=by
  obtain ⟨hs,hm⟩:=sgn_ord h
  rw [<- hs]
  clear hs h
  have b_k:=heap_a1 w (.cells #[.bool g,.slice o n c,.int .i64 e] 35)
  have f0:=blkC b_k 0 rfl
  have f1:=blkC b_k 1 rfl
  unfold sgn
  by_cases hn:n=0
  . subst hn
    rw [if_pos rfl]
    go_enter Tryd.func10,Tryd.ntmps10
    go_wp2
    go_ret
    exact ⟨rfl,bel_alloc _ _⟩
  . have hn':¬ (n:Int)=0:=by omega
    rw [if_neg hn]
    cases g
    . go_enter Tryd.func10,Tryd.ntmps10
      go_wp2
      go_ret
      exact ⟨rfl,bel_alloc _ _⟩
    . go_enter Tryd.func10,Tryd.ntmps10
      go_wp2
      go_ret
      exact ⟨rfl,bel_alloc _ _⟩
end Go.Proofs.YtobofhgpidbpmaaDoor
