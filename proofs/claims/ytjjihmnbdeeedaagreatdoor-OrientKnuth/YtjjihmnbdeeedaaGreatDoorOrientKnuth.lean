/-
  OrientKnuth: for every list of points the law returns true: Knuth's laws of five points, no three of which lie on one line. As a card: the library's tables and the layout of package bits start as the program's text lays them.
-/
import Derived.Test.YtjjihmnbdeeedaaGreatDoorKn15
import Derived.Test.YtjjihmnbdeeedaaGreatDoorKn14
import Derived.Test.YtjjihmnbdeeedaaGreatDoorKn11
import Derived.Test.YtjjihmnbdeeedaaGreatDoorKn6
import Derived.Test.YtjjihmnbdeeedaaGreatDoorCards
import Derived.Test.YtjjihmnbdeeedaaGreatDoorTie
import Derived.Deep.RegionHeld3
import Derived.Deep.CutRange
set_option maxRecDepth 100000
set_option maxHeartbeats 40000000
set_option linter.unusedVariables false
set_option linter.unusedSimpArgs false
namespace Go.Proofs.YtjjihmnbdeeedaaGreatDoor.orientKnuth
open Go Go.ChangeShapes Go.WideShapes Go.ChangeAt Go.RowKit Go.Proofs.YtjjihmnbdeeedaaGreatDoor Go.Proofs.YtjjihmnbdeeedaaGreatDoor.M
theorem zero_all:(List.range 125).all (fun i=>match Tryz.zeroCells26[i]? with | some (.bool false)=>true | _=>false)=true:=by kernel_rfl
theorem zero_bk:Bk Tryz.zeroCells26 (fun _ _ _=>false):=⟨by kernel_rfl,fun a b c ha hb hc=>by
  have h:=(List.all_eq_true.1 zero_all) (a*25+b*5+c) (List.mem_range.2 (by omega))
  split at h
  · rename_i e
    exact e
  · cases h⟩
theorem Kn.zero (px py:Nat->Int) (F:Nat->Nat->Nat->Bool):Kn px py F 0:=fun _ _ _ _ _ _ _ _ _ h=>absurd h (Nat.not_lt_zero _)
theorem pow_all {a b c:Bool} {a' b' c':Bool} (h:((a && a') && (b && b') && (c && c'))=true):a=true∧a'=true∧b=true∧b'=true∧c=true∧c'=true:=by
 revert h
 cases a <;> cases a' <;> cases b <;> cases b' <;> cases c <;> cases c' <;> simp
theorem ord_dec {s x:Int} (hs:s=ord x 0):(s=1->decide (0<x)=true∧x≠0)∧(s=-1->decide (0<x)=false∧x≠0):=by
 unfold ord at hs
 refine ⟨fun h=>?_,fun h=>?_⟩
 ·rw [hs] at h
  split at h
  ·omega
  ·split at h
   ·exact ⟨decide_eq_true (by omega),by omega⟩
   ·omega
 ·rw [hs] at h
  split at h
  ·exact ⟨decide_eq_false (by omega),by omega⟩
  ·split at h <;> omega
theorem sign3 (px py:Nat->Int) (p q r:Nat) (rp:rng (px p)∧rng (py p)) (rq:rng (px q)∧rng (py q)) (rr:rng (px r)∧rng (py r)) (w:World) (H:Hold4 w) :
  Calls Tryz.prog 7 #[.agg #[.int .i64 (px p),.int .i64 (py p)],.agg #[.int .i64 (px q),.int .i64 (py q)],.agg #[.int .i64 (px r),.int .i64 (py r)]] w fun x w'=>∃ s st e,x=.returned (.tuple #[.agg #[.int .i64 s,.int .i64 st],.int .i64 e])∧((e=10∧s=0)∨(e=0∧s=ord (dk px py p q r) 0))∧Below w.heap.size w w':=by
 cases h:((pok (px p) && pok (py p)) && (pok (px q) && pok (py q)) && (pok (px r) && pok (py r)))
 ·refine (oSign_no rp.1 rp.2 rq.1 rq.2 rr.1 rr.2 h w H).mono ?_
  rintro _ w' ⟨rfl,hb⟩
  exact ⟨0,0,10,rfl,.inl ⟨rfl,rfl⟩,hb⟩
 ·obtain ⟨a,a',b,b',c,c'⟩:=pow_all h
  refine (oSign_ok rp.1 rp.2 rq.1 rq.2 rr.1 rr.2 a a' b b' c c' w H).mono ?_
  rintro _ w' ⟨rfl,hb⟩
  exact ⟨_,_,0,rfl,.inr ⟨rfl,rfl⟩,hb⟩
theorem walk (a0:Option Addr) (l0 c0:Nat) (z0:Nat->Int × Int) (w:World) (h0:IsPtk w a0 l0 c0 z0) (H:Hold4 w) :
  Calls Tryz.prog 3 #[.slice a0 l0 c0] w fun e w'=>e=.returned (.bool true)∧Below w.heap.size w w':=by
 have HP:=hideIt h0.pts
 have HG:=hideIt h0.rg
 have hl1:=h0.pts.le
 have hl2:=h0.pts.max
 clear h0
 go_enter Tryz.func3,Tryz.ntmps3
 go_wp2_with fail
 refine (alive10 _).mono ?_
 rintro _ y1 ⟨rfl,hw1⟩
 by_cases h5:l0=5
 rotate_left
 ·have h5':(l0:Int)≠5:=by omega
  go_wp2_with fail
  go_ret
  exact ⟨rfl,hw1⟩
 ·subst h5
  have hB0:=bel_alloc y1 (.cells Tryz.zeroCells26 26)
  have hA0:=heap_a1 y1 (.cells Tryz.zeroCells26 26)
  replace HP:=hideIt (HP.out.keeps hw1)
  replace H:=H.keeps hw1
  obtain ⟨b,off,rfl,hbl,hcs⟩:=HP.out.spot (by decide)
  obtain ⟨px,hpx⟩:∃ px:Nat->Int,px=fun i=>(z0 i).1:=⟨_,rfl⟩
  obtain ⟨py,hpy⟩:∃ py:Nat->Int,py=fun i=>(z0 i).2:=⟨_,rfl⟩
  have CL:Hid (∀ i,i<5->y1.cell? ⟨b,off+i*2,none⟩=some (.int .i64 (px i))∧y1.cell? ⟨b,off+i*2+1,none⟩=some (.int .i64 (py i))):=hideIt (by rw [hpx,hpy]; exact hcs)
  have CG:Hid (∀ i,i<5->rng (px i)∧rng (py i)):=hideIt (by rw [hpx,hpy]; exact HG.out)
  have HB:Hid (b<y1.heap.size):=hideIt hbl
  clear HP HG hcs hpx hpy z0 hbl
  go_wp2_with fail
  go_loopw [5] (fun v wr=>∃ p:Nat,p<=5∧v=.int .i64 p∧∃ arr F,Bk arr F∧Kn px py F (p*25)∧wr.heap[y1.heap.size]?=some (.cells arr 26 (0,0))∧Below y1.heap.size y1 wr) (fun v _=>5-(intOf v).toNat)
  case atStart=>exact ⟨0,by omega,rfl,_,_,zero_bk,Kn.zero _ _ _,hA0,hB0⟩
  case round=>
   clear hA0 hB0
   obtain ⟨p,hp,rfl,arr,F,hF,hK,a_k,hbw⟩:=hrel
   by_cases hp5:p<5
   ·have p0:(0:Int)<=(p:Int):=by omega
    have p1:(p:Int)<5:=by omega
    go_wp2_with fail
    go_loopw [6] (fun v wr=>∃ q:Nat,q<=5∧v=.int .i64 q∧∃ arr F,Bk arr F∧Kn px py F (p*25+q*5)∧wr.heap[y1.heap.size]?=some (.cells arr 26 (0,0))∧Below y1.heap.size y1 wr) (fun v _=>5-(intOf v).toNat)
    case atStart=>exact ⟨0,by omega,rfl,_,_,hF,hK,a_k,hbw⟩
    case round=>
     clear a_k hbw hK hF
     clear F arr
     obtain ⟨q,hq,rfl,arr,F,hF,hK,a_k,hbw⟩:=hrel
     by_cases hq5:q<5
     ·have q0:(0:Int)<=(q:Int):=by omega
      have q1:(q:Int)<5:=by omega
      go_wp2_with fail
      go_loopw [7] (fun v wr=>∃ r:Nat,r<=5∧v=.int .i64 r∧∃ arr F,Bk arr F∧Kn px py F (p*25+q*5+r)∧wr.heap[y1.heap.size]?=some (.cells arr 26 (0,0))∧Below y1.heap.size y1 wr) (fun v _=>5-(intOf v).toNat)
      case atStart=>exact ⟨0,by omega,rfl,_,_,hF,hK,a_k,hbw⟩
      case round=>
       clear a_k hbw hK hF
       clear F arr
       obtain ⟨r,hr,rfl,arr,F,hF,hK,a_k,hbw⟩:=hrel
       by_cases hr5:r<5
       ·have r0:(0:Int)<=(r:Int):=by omega
        have r1:(r:Int)<5:=by omega
        by_cases same:p=q∨q=r∨p=r
        ·have hK2:=hK.same rfl hq5 hr5 same
         by_cases e1:p=q
         ·subst e1
          go_wp2_with fail
          go_roundw
          case rel=>exact ⟨r+1,by omega,by go_num,_,_,hF,hK2,a_k,hbw⟩
          case measure=>simp [intOf]; omega
         have n1:(p:Int)≠(q:Int):=by omega
         by_cases e2:q=r
         ·subst e2
          go_wp2_with fail
          go_roundw
          case rel=>exact ⟨q+1,by omega,by go_num,_,_,hF,hK2,a_k,hbw⟩
          case measure=>simp [intOf]; omega
         have n2:(q:Int)≠(r:Int):=by omega
         obtain rfl:p=r:=by omega
         go_wp2_with fail
         go_roundw
         case rel=>exact ⟨p+1,by omega,by go_num,_,_,hF,hK2,a_k,hbw⟩
         case measure=>simp [intOf]; omega
        ·have n1:(p:Int)≠(q:Int):=by omega
         have n2:(q:Int)≠(r:Int):=by omega
         have n3:(p:Int)≠(r:Int):=by omega
         have m1:((p:Int) == (q:Int))=false:=beq_false_of_ne n1
         have m2:((q:Int) == (r:Int))=false:=beq_false_of_ne n2
         have m3:((p:Int) == (r:Int))=false:=beq_false_of_ne n3
         obtain ⟨CLp,CLp'⟩:=CL.out p hp5
         obtain ⟨CLq,CLq'⟩:=CL.out q hq5
         obtain ⟨CLr,CLr'⟩:=CL.out r hr5
         have C2:=hideIt (fun W HW=>sign3 px py p q r (CG.out p hp5) (CG.out q hq5) (CG.out r hr5) W HW)
         have hxr:=H.keeps hbw
         have KK:∀ W,Below wr.heap.size wr W->W.cell? ⟨b,off+p*2,none⟩=some (.int .i64 (px p))∧W.cell? ⟨b,off+p*2+1,none⟩=some (.int .i64 (py p))∧W.cell? ⟨b,off+q*2,none⟩=some (.int .i64 (px q))∧W.cell? ⟨b,off+q*2+1,none⟩=some (.int .i64 (py q))∧W.cell? ⟨b,off+r*2,none⟩=some (.int .i64 (px r))∧W.cell? ⟨b,off+r*2+1,none⟩=some (.int .i64 (py r)):=fun W hb=>by
          have hz:=bel_trans hbw hb
          exact ⟨q_cell CLp hz,q_cell CLp' hz,q_cell CLq hz,q_cell CLq' hz,q_cell CLr hz,q_cell CLr' hz⟩
         clear CLp CLp' CLq CLq' CLr CLr'
         have hC0:=(bel_refl wr).drew
         have hB1:Hid (y1.heap.size<wr.heap.size):=hideIt (Array.getElem?_eq_some_iff.1 a_k).1
         have hla:(5:Int)<=5:=by decide
         go_upto_region 15 with (fail)
         go_region_held3 (fun W=>W.cell? ⟨b,off+p*2,none⟩=some (.int .i64 (px p))∧W.cell? ⟨b,off+p*2+1,none⟩=some (.int .i64 (py p))∧W.cell? ⟨b,off+q*2,none⟩=some (.int .i64 (px q))∧W.cell? ⟨b,off+q*2+1,none⟩=some (.int .i64 (py q))∧W.cell? ⟨b,off+r*2,none⟩=some (.int .i64 (px r))∧W.cell? ⟨b,off+r*2+1,none⟩=some (.int .i64 (py r)))
          (with_reducible first | assumption | exact KK _ hC0 | exact KK _ ((bel_alloc _ _).drew) | exact KK _ (bel_trans hC1 (bel_alloc _ _)) | exact KK _ hC1 | exact KK _ (hC1.setCell (Nat.le_refl _) _) | exact KK _ ((hC1.setCell (Nat.le_refl _) _).setCell (Nat.le_refl _) _) | fail)
          ((go_at_call 7; refine (C2.out _ (by with_reducible first | exact hxr.keeps (bel_refl wr).drew | exact hxr.keeps (bel_alloc wr _).drew)).mono ?_; rintro _ y5 ⟨s,st,e,rfl,hse,hq5'⟩; have hC1:Below wr.heap.size wr y5:=(by with_reducible first | exact bel_trans (bel_refl wr).drew hq5' | exact bel_trans (bel_alloc wr _).drew hq5'); (with_reducible first | (have qz:y5.heap[wr.heap.size]?=some (.cells #[.int .i64 0,.int .i64 0] 28 (0,0)):=blk_on hq5' (heap_a1d wr _); have cz0:=blkC qz 0 rfl; have zz0:=blkF qz 0; have cz1:=blkC qz 1 rfl; have zz1:=blkF qz 1) | skip)))
         all_goals
          first
           | (have _t:=qz; have q_k:=heap_set (heap_set qz 0 (.int .i64 s)) 1 (.int .i64 st); have hq6:Below wr.heap.size wr ((y5.setCell ⟨wr.heap.size,0,none⟩ (.int .i64 s)).setCell ⟨wr.heap.size,1,none⟩ (.int .i64 st)):=(hC1.setCell (Nat.le_refl _) _).setCell (Nat.le_refl _) _; clear cz0 cz1 zz0 zz1 qz; generalize (y5.setCell ⟨wr.heap.size,0,none⟩ (.int .i64 s)).setCell ⟨wr.heap.size,1,none⟩ (.int .i64 st)=x5 at q_k hq6 ⊢; obtain ⟨gq,hgq⟩:∃ g,g=wr.heap.size:=⟨_,rfl⟩; have hge:wr.heap.size<=gq:=Nat.le_of_eq hgq.symm; rw [<- hgq] at q_k ⊢; clear hgq)
           | (have q_k:=heap_a1 y5 (.cells #[.int .i64 s,.int .i64 st] 28); have hq6:Below wr.heap.size wr (y5.alloc (.cells #[.int .i64 s,.int .i64 st] 28)):=bel_trans hC1 (bel_alloc y5 _); generalize y5.alloc (.cells #[.int .i64 s,.int .i64 st] 28)=x5 at q_k hq6 ⊢; obtain ⟨gq,hgq⟩:∃ g,g=y5.heap.size:=⟨_,rfl⟩; have hge:wr.heap.size<=gq:=Nat.le_trans hC1.size (Nat.le_of_eq hgq.symm); rw [<- hgq] at q_k ⊢; clear hgq)
          clear hC1 hC0 hq5' KK
         all_goals
          have hng:gq≠y1.heap.size:=by have:=hB1.out; omega
          have a_5:=blk_on hq6 a_k
          have hb5:=bel_trans hbw hq6
          have v0:=blkC q_k 0 rfl
          rcases hse with ⟨rfl,rfl⟩ | ⟨rfl,hs⟩
          ·go_wp2_with fail
           refine (onum _ _).mono ?_
           rintro _ _ ⟨rfl,rfl⟩
           go_wp2
           go_ret
           exact ⟨rfl,bel_trans hw1 hb5⟩
          ·have ht:=ord_tri (dk px py p q r)
           rw [<- hs] at ht
           rcases ht with h1 | h1 | h1
           rotate_left
           ·rw [h1] at v0
            go_wp2_with fail
            refine (onum _ _).mono ?_
            rintro _ _ ⟨rfl,rfl⟩
            go_wp2
            go_ret
            exact ⟨rfl,bel_trans hw1 hb5⟩
           all_goals
            rw [h1] at v0
            go_wp2_with fail
            refine (onum _ _).mono ?_
            rintro _ _ ⟨rfl,rfl⟩
            have a0':=blkC a_5 (p*25+q*5+r) (hF.e p q r hp5 hq5 hr5)
            have z0':=blkF a_5 (p*25+q*5+r)
            go_upto_region 18 with (fail)
            go_region
            go_wp2_with fail
            go_roundw
            case rel=>
             first
              | exact ⟨r+1,by omega,by go_num,_,_,hF.set hp5 hq5 hr5 true,hK.step rfl hq5 hr5 ((ord_dec hs).1 h1).1.symm ((ord_dec hs).1 h1).2,heap_set a_5 _ _,(hb5.setCell (p:=⟨y1.heap.size,p*25+q*5+r,none⟩) (Nat.le_refl _) _).drew⟩
              | exact ⟨r+1,by omega,by go_num,_,_,hF.set hp5 hq5 hr5 false,hK.step rfl hq5 hr5 ((ord_dec hs).2 h1).1.symm ((ord_dec hs).2 h1).2,heap_set a_5 _ _,(hb5.setCell (p:=⟨y1.heap.size,p*25+q*5+r,none⟩) (Nat.le_refl _) _).drew⟩
            case measure=>simp [intOf]; omega
       ·obtain rfl:r=5:=by omega
        go_wp2_with fail
        go_roundw
        case rel=>exact ⟨q+1,by omega,by go_num,_,_,hF,(by rw [show p*25+(q+1)*5=p*25+q*5+5 by omega]; exact hK),a_k,hbw⟩
        case measure=>simp [intOf]; omega
     ·obtain rfl:q=5:=by omega
      go_wp2_with fail
      go_roundw
      case rel=>exact ⟨p+1,by omega,by go_num,_,_,hF,(by rw [show (p+1)*25=p*25+5*5 by omega]; exact hK),a_k,hbw⟩
      case measure=>simp [intOf]; omega
   ·obtain rfl:p=5:=by omega
    have hK2:Hid (Kn px py F 125):=hideIt hK
    have HF:=hideIt hF
    clear hK hF
    go_wp2_with fail
    go_loopw [15,10,11,12,13,14] (fun iv pv qv rv sv tv wr=>∃ i:Nat,i<=120∧iv=.int .i64 i∧∃ p q r s t:Nat,(p<5∧q<5∧r<5∧s<5∧t<5)∧(p≠q∧p≠r∧p≠s∧p≠t∧q≠r∧q≠s∧q≠t∧r≠s∧r≠t∧s≠t)∧pv=.int .i64 p∧qv=.int .i64 q∧rv=.int .i64 r∧sv=.int .i64 s∧tv=.int .i64 t∧wr.heap[y1.heap.size]?=some (.cells arr 26 (0,0))∧Below y1.heap.size y1 wr) (fun iv _ _ _ _ _ _=>120-(intOf iv).toNat)
    case atStart=>exact ⟨0,by omega,rfl,0,1,2,3,4,by decide,by decide,rfl,rfl,rfl,rfl,rfl,a_k,hbw⟩
    case round=>
     clear a_k hbw
     obtain ⟨i,hi,rfl,p,q,r,s,t,⟨hp,hq,hr,hs,ht⟩,⟨pq,pr,ps,pt,qr,qs,qt,rs,rt,st⟩,rfl,rfl,rfl,rfl,rfl,a_k,hbw⟩:=hrel
     by_cases hi5:i<120
     ·have i0:(0:Int)<=(i:Int):=by omega
      have i1:(i:Int)<120:=by omega
      have p0:(0:Int)<=(p:Int):=by omega
      have p1:(p:Int)<5:=by omega
      have q0:(0:Int)<=(q:Int):=by omega
      have q1:(q:Int)<5:=by omega
      have r0:(0:Int)<=(r:Int):=by omega
      have r1:(r:Int)<5:=by omega
      have s0:(0:Int)<=(s:Int):=by omega
      have s1:(s:Int)<5:=by omega
      have t0:(0:Int)<=(t:Int):=by omega
      have t1:(t:Int)<5:=by omega
      have c_tqr:=blkC a_k (t*25+q*5+r) (HF.out.e t q r ht hq hr)
      have c_ptr:=blkC a_k (p*25+t*5+r) (HF.out.e p t r hp ht hr)
      have c_pqt:=blkC a_k (p*25+q*5+t) (HF.out.e p q t hp hq ht)
      have c_pqr:=blkC a_k (p*25+q*5+r) (HF.out.e p q r hp hq hr)
      have c_tsp:=blkC a_k (t*25+s*5+p) (HF.out.e t s p ht hs hp)
      have c_tsq:=blkC a_k (t*25+s*5+q) (HF.out.e t s q ht hs hq)
      have c_tsr:=blkC a_k (t*25+s*5+r) (HF.out.e t s r ht hs hr)
      have c_tpq:=blkC a_k (t*25+p*5+q) (HF.out.e t p q ht hp hq)
      have c_tpr:=blkC a_k (t*25+p*5+r) (HF.out.e t p r ht hp hr)
      have L1:=hK2.out.law1 hp hq hr ht pq pr pt qr qt rt
      have L2:=hK2.out.law2 hp hq hr hs ht pq pr ps pt qr qs qt rs rt st
      generalize F t q r=f_tqr at c_tqr L1 L2
      generalize F p t r=f_ptr at c_ptr L1
      generalize F p q t=f_pqt at c_pqt L1
      generalize F p q r=f_pqr at c_pqr L1
      generalize F t s p=f_tsp at c_tsp L2
      generalize F t s q=f_tsq at c_tsq L2
      generalize F t s r=f_tsr at c_tsr L2
      generalize F t p q=f_tpq at c_tpq L2
      generalize F t p r=f_tpr at c_tpr L2
      have PA:∀ W,Calls Tryz.prog 9 #[.int .i64 i] W fun e w'=>∃ o:Nat->Nat,e=.returned (.agg #[.int .i64 (o 0),.int .i64 (o 1),.int .i64 (o 2),.int .i64 (o 3),.int .i64 (o 4)])∧((∀ j,j<5->o j<5)∧∀ a b,a<5->b<5->a≠b->o a≠o b)∧Below W.heap.size W w':=fun W=>by
       refine (permuted_any i i0 (by omega) W).mono ?_
       rintro _ w' ⟨o,rfl,hm,hb⟩
       have e:∀ j,j<5->((o j).toNat:Int)=o j:=fun j hj=>Int.toNat_of_nonneg (hm.r j hj).1
       refine ⟨fun j=>(o j).toNat,by dsimp only; rw [e 0 (by decide),e 1 (by decide),e 2 (by decide),e 3 (by decide),e 4 (by decide)],⟨fun j hj=>by have:=hm.r j hj; have:=e j hj; show (o j).toNat<5; omega,fun a b ha hb hab=>by have:=hm.d a b ha hb hab; have:=e a ha; have:=e b hb; show (o a).toNat≠(o b).toNat; omega⟩,hb⟩
      have HA:=hideIt PA
      clear PA HF hK2 CL CG
      have D1:f_tqr=false∨(f_tqr=true∧f_ptr=false)∨(f_tqr=true∧f_ptr=true∧f_pqt=false)∨(f_tqr=true∧f_ptr=true∧f_pqt=true∧f_pqr=true):=by
       cases f_tqr <;> cases f_ptr <;> cases f_pqt <;> simp_all
      have D2:f_tsp=false∨(f_tsp=true∧f_tsq=false)∨(f_tsp=true∧f_tsq=true∧f_tsr=false)∨(f_tsp=true∧f_tsq=true∧f_tsr=true∧f_tpq=false)∨(f_tsp=true∧f_tsq=true∧f_tsr=true∧f_tpq=true∧f_tqr=false)∨(f_tsp=true∧f_tsq=true∧f_tsr=true∧f_tpq=true∧f_tqr=true∧f_tpr=true):=by
       cases f_tsp <;> cases f_tsq <;> cases f_tsr <;> cases f_tpq <;> cases f_tqr <;> simp_all
      clear L1 L2
      go_upto_region 23 with (fail)
      go_cut [122] from 84 to 187 (fun v122 wx=>v122=.bool false∧wx=wr)
      case first=>
       clear D2 HA
       rcases D1 with rfl | ⟨rfl,rfl⟩ | ⟨rfl,rfl,rfl⟩ | ⟨rfl,rfl,rfl,rfl⟩
       all_goals
        go_wp2_with fail
        go_meet
        exact ⟨rfl,rfl⟩
      case rest=>
      obtain ⟨rfl,rfl⟩:=hcut
      clear D1
      go_upto_region 25 with (fail)
      go_cut [175] from 84 to 187 (fun v175 wx=>v175=.bool false∧wx=wc)
      case first=>
       clear HA
       rcases D2 with rfl | ⟨rfl,rfl⟩ | ⟨rfl,rfl,rfl⟩ | ⟨rfl,rfl,rfl,rfl⟩ | ⟨rfl,rfl,rfl,rfl,rfl⟩ | ⟨rfl,rfl,rfl,rfl,rfl,rfl⟩
       all_goals
        go_wp2_with fail
        go_meet
        exact ⟨rfl,rfl⟩
      case rest=>
       obtain ⟨rfl,rfl⟩:=hcut
       clear D2
       go_wp2_with fail
       refine (HA.out _).mono ?_
       rintro _ y5 ⟨o,rfl,⟨ho,hd⟩,hb⟩
       have b_k:=blk_on hb a_k
       have hb2:=bel_trans hbw hb
       clear c_tqr c_ptr c_pqt c_pqr c_tsp c_tsq c_tsr c_tpq c_tpr a_k hbw
       go_wp2_with fail
       have d_k:=heap_a1 y5 (.cells #[.int .i64 (o 0:Int),.int .i64 (o 1:Int),.int .i64 (o 2:Int),.int .i64 (o 3:Int),.int .i64 (o 4:Int)] 35)
       have hba:=bel_alloc y5 (.cells #[.int .i64 (o 0:Int),.int .i64 (o 1:Int),.int .i64 (o 2:Int),.int .i64 (o 3:Int),.int .i64 (o 4:Int)] 35)
       replace b_k:=blk_on hba b_k
       replace hb2:=bel_trans hb2 hba
       generalize y5.alloc (.cells #[.int .i64 (o 0:Int),.int .i64 (o 1:Int),.int .i64 (o 2:Int),.int .i64 (o 3:Int),.int .i64 (o 4:Int)] 35)=x6 at d_k b_k hb2 hba ⊢
       generalize y5.heap.size=gd at d_k ⊢
       clear hba hb
       have e0:=blkC d_k 0 rfl
       have e1:=blkC d_k 1 rfl
       have e2:=blkC d_k 2 rfl
       have e3:=blkC d_k 3 rfl
       have e4:=blkC d_k 4 rfl
       go_region
       go_wp2_with fail
       go_roundw
       case rel=>(repeat apply Exists.intro); exact ⟨⟨i+1,by omega,by go_num,o 0,o 1,o 2,o 3,o 4,⟨ho 0 (by decide),ho 1 (by decide),ho 2 (by decide),ho 3 (by decide),ho 4 (by decide)⟩,⟨hd 0 1 (by decide) (by decide) (by decide),hd 0 2 (by decide) (by decide) (by decide),hd 0 3 (by decide) (by decide) (by decide),hd 0 4 (by decide) (by decide) (by decide),hd 1 2 (by decide) (by decide) (by decide),hd 1 3 (by decide) (by decide) (by decide),hd 1 4 (by decide) (by decide) (by decide),hd 2 3 (by decide) (by decide) (by decide),hd 2 4 (by decide) (by decide) (by decide),hd 3 4 (by decide) (by decide) (by decide)⟩,rfl,rfl,rfl,rfl,rfl,b_k,hb2.drew⟩,rfl⟩
       case measure=>simp [intOf]; omega
     ·obtain rfl:i=120:=by omega
      go_wp2
      go_ret
      exact ⟨rfl,bel_trans hw1 hbw⟩
theorem own:ownKnob Tryz.prog.godebug=none:=by kernel_rfl
theorem laidOut:laidOutB Tryz.prog=true:=by kernel_rfl
theorem door_met (os:Os) (args:Array Value):laidMetH Tryz.prog Rows.orientKnuthRow.laid ((World.doorLaid Tryz.prog 400 os).forCall (fun _ _=>0) ⟨#[],args,[]⟩).memory :=
 laidMetH_of_parts3 (fuel:=8) (laidMet_of_run' 8 (by kernel_rfl) (by kernel_rfl)) (by kernel_rfl) (by kernel_rfl)
theorem lifted (os:Os) (started:os.Started) (H:Type) (enc:TypeId × Value->H) :
  ReturnsInHanded {} Tryz.checked os 3 .any (fun w args=>(Rows.orientKnuthSpec.pre enc Tryz.prog Tryz.f3 [] false w args∧laidMetH Tryz.prog Rows.orientKnuthRow.laid w)∧sizedMet enc Tryz.prog Tryz.f3 (OpenSpec.ofChange Rows.orientKnuthSpec) false w args)
   (Rows.orientKnuthSpec.post enc Tryz.prog Tryz.f3 false true false false):=by
 refine returnsInHanded_of_change_and (C:=Tryz.checked) (X:=fun w _=>laidMetH Tryz.prog Rows.orientKnuthRow.laid w) (fun _ _ _ hh h=>h.of_heap hh) own started (by kernel_rfl) Tryz.func3
  (ChangeSpec.witness_shaped (enc:=enc) (C:=Tryz.checked) (os:=os) (X:=fun w _=>laidMetH Tryz.prog Rows.orientKnuthRow.laid w) false (World.doorLaid Tryz.prog 400 os) #[.slice none 0 0] 8 rfl (World.shaped_of_RefB (by kernel_rfl) (by kernel_rfl)) (by kernel_rfl) (by kernel_rfl) (by kernel_rfl) (door_met os _)) ?_
 intro W base args ds gs before hval0 hW _ hsz hL _
 have hval:∀ (j:Nat) t v,Tryz.f3.params[j]?=some t->args[j]?=some v->Value.okWide Tryz.prog W .any base t v:=hval0
 have hW':=hW
 obtain ⟨p,q,hA0,hV,rfl,hfz,hnd⟩:=hW
 have hA:DataW.TrodAll enc Tryz.prog W 0 (fun _=>true) true Tryz.f3.params.toList args.toList ds p:=hA0
 rw [Tryz.params3] at hA hval
 obtain ⟨v0,vs0,d0,ds0,p0,q0,hargs,rfl,rfl,h0,r0⟩:=trodAll_cons hA
 obtain ⟨rfl,rfl,rfl⟩:=trodAll_nil r0
 obtain rfl:args=#[v0]:=by cases args; simp_all
 obtain ⟨rfl,rfl⟩:=trodVars_none hV
 obtain ⟨a0,l0,c0,rfl⟩:=okWide_slice Tryz.underlying22 (hval 0 22 v0 rfl rfl)
 have k0:=h0
 have lt0:∀ x ∈ p0,x.block<W.heap.size:=by obtain ⟨m,hm⟩:=k0; exact DataW.trod_lt m _ _ _ hm
 obtain ⟨fu0,hf0⟩:=h0
 obtain ⟨z0,w0⟩:=ptk_of (by simpa [Value.cells] using hf0) (fun n hn=>of_decide_eq_true (List.all_eq_true.1 hsz n (DataW.weights_mem_each (j:=0) (t:=22) (by kernel_rfl) rfl n hn)))
 clear hA0 hval0
 refine (walk a0 l0 c0 z0 W w0 (hold6_of hL)).mono fun e W' ⟨he,bel⟩=>?_
 subst he
 exact ⟨_,rfl,_,_,_,[],_,[],hW',trodAll_mk1 (shut_bool Tryz.underlying4 _),(trodAll_cons_mk (Below.trod laidOut (by kernel_rfl) (of_decide_eq_true (by kernel_rfl)) k0 bel lt0) trodAll_mk0),rfl,bel.frame _,fun h=>by cases h⟩
theorem said:Rows.OrientKnuthSaid :=
 OpenClaim.holds_of_wide 3 Tryz.f3 rfl rfl rfl rfl rfl rfl rfl ⟨rfl,rfl,rfl,rfl,rfl⟩ rfl rfl rfl rfl rfl (by kernel_rfl) Tryz.func3 (by kernel_rfl)
  (of_decide_eq_true (by kernel_rfl)) (by unfold Func.isWrapper; first | (rw [if_pos (by decide +kernel)]; kernel_rfl) | (rw [if_neg (by decide +kernel)]; exact ⟨rfl,rfl⟩))
  (fun os started H enc _=>lifted os started H enc)
theorem plain (f:FuncId) (fn:Func) (hf:Tryz.pinned.checked.prog.funcNamed Tryz.f3.name=some f) (hfn:Tryz.pinned.checked.prog.funcs[f]?=some fn) :
  true=Tryz.pinned.checked.prog.looks []∧∀ (j:Nat) t,fn.params[j]?=some t->Tryz.pinned.checked.prog.wantsStandIn t=false:=by
 obtain rfl:f=3:=Option.some.inj ((show Tryz.prog.funcNamed Tryz.f3.name=some 3 by kernel_rfl).symm.trans hf) |>.symm
 obtain rfl:fn=Tryz.f3:=(Option.some.inj (Tryz.func3.symm.trans hfn)).symm
 refine ⟨by kernel_rfl,fun j t ht=>?_⟩
 rw [Tryz.params3] at ht
 obtain rfl:t=22:=by simpa using Array.mem_of_getElem? ht
 exact (show Tryz.prog.wantsStandIn 22=false by kernel_rfl)
theorem card:Rows.OrientKnuthCardSaid :=
 Claim7.holds_tied_plain_at .later [] _ _ _ _ said (fun _ h=>by cases h) (by kernel_rfl) (fun _ h=>by cases h) orientKnuth_row_tie rfl ⟨rfl,rfl⟩ (by kernel_rfl) rfl plain (by kernel_rfl)
end Go.Proofs.YtjjihmnbdeeedaaGreatDoor.orientKnuth
namespace Go.Proofs.YtjjihmnbdeeedaaGreatDoor
theorem orientKnuth_holds:Rows.OrientKnuthCardSaid:=orientKnuth.card
end Go.Proofs.YtjjihmnbdeeedaaGreatDoor
