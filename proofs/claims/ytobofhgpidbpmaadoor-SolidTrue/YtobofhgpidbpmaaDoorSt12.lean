/- Parts of the proof. -/
import Derived.Test.YtobofhgpidbpmaaDoorSt11
import Derived.BigQuiet
import Derived.Laws.Rows
import Derived.Laws.Tables
import Derived.Test.YtobofhgpidbpmaaDoorSt6
import Derived.Test.YtobofhgpidbpmaaDoorSt5
import Derived.Maps.AppendAt
import Derived.Laws.AppendOwnNone
import Derived.Test.YtobofhgpidbpmaaDoorSt7
import Derived.Test.YtobofhgpidbpmaaDoorSt9
import Derived.Deep.RegionHeld3
set_option linter.unusedVariables false
set_option linter.unusedSimpArgs false
namespace Go.Proofs.YtobofhgpidbpmaaDoor
open Go Go.RowKit Go.Proofs.YtobofhgpidbpmaaDoor.M
theorem blk_us {w W:World} (h:Below w.heap.size w W) {g:Nat} {X:Obj} (k:w.heap[g]?=some X):W.heap[g]?=some X:=(h.block _ (Array.getElem?_eq_some_iff.1 k).1).trans k
structure FrA (arr:Array Value) (u:Nat->Nat->Int):Prop where
  n:arr.size=44
  o:arr.all (·.oneCell')=true
  l:∀ p,p<4->∀ k,k<3->arr[p*3+k]?=some (.float .f64 (wd (u p k)))
  m:∀ p,p<4->∀ q,q<4->p≠q->arr[12+p*8+q*2]?=some (.float .f64 (wd (mn u p q)))
  s:∀ p,p<4->∀ q,q<4->p≠q->arr[12+p*8+q*2+1]?=some (.float .f64 (wd (sz u p q)))
def Lf (u:Nat->Nat->Int):Prop:=∀ p,p<4->∀ k,k<3->Fx 872 1226 (u p k)
theorem Lf.lg {u:Nat->Nat->Int} (h:Lf u) {p:Nat} (hp:p<4):Lg (fun p k=>iV (u p k)) u p:=⟨fun k hk=>h p hp k hk,fun k hk=>by unfold Un; rw [Int.sub_self]; simp⟩
theorem mul_run {a b c d:Nat} {x y:Int} (hx:Fx a b x) (hy:Fx c d y) (hz:pok (fprod x y)=true):∀ W,(binOp .mul 45 (.float .f64 (wd x)) (.float .f64 (wd y))).run Tryd.prog W=.ok (.float .f64 (wd (fprod x y))) W:=fun W=>run_prodN _ (fx_fw hx) (fx_fw hy) (q_fin hz) W
theorem add_run {a b c d:Nat} {x y:Int} (hx:Fx a b x) (hy:Fx c d y) (hz:pok (fsum x y)=true):∀ W,(binOp .add 45 (.float .f64 (wd x)) (.float .f64 (wd y))).run Tryd.prog W=.ok (.float .f64 (wd (fsum x y))) W:=fun W=>run_sumN _ (fx_fw hx) (fx_fw hy) (q_fin hz) W
theorem sub_run {a b c d:Nat} {x y:Int} (hx:Fx a b x) (hy:Fx c d y) (hz:pok (fsum x (neg y))=true):∀ W,(binOp .sub 45 (.float .f64 (wd x)) (.float .f64 (wd y))).run Tryd.prog W=.ok (.float .f64 (wd (fsum x (neg y)))) W:=fun W=>run_diffN _ (fx_fw hx) (fx_fw hy) (q_fin hz) W
set_option maxRecDepth 100000 in
set_option maxHeartbeats 1000000 in
theorem sdet_any {u:Nat->Nat->Int} (hL:Lf u) {p q r:Nat} (hp:p<4) (hq:q<4) (hr:r<4) (pq:p≠q) (pr:p≠r) (qr:q≠r) {arr:Array Value} (hA:FrA arr u) (g:Nat) (w:World) (hg:w.heap[g]?=some (.cells arr 73 (0,0))) :
    Calls Tryd.prog 32 #[.pointer (some ⟨g,0,none⟩),.int .i64 p,.int .i64 q,.int .i64 r] w fun e w'=>e=.returned (.float .f64 (wd (dt u p q r)))∧Below w.heap.size w w':=by
  have gp:=hL.lg hp
  have gq:=hL.lg hq
  have gr:=hL.lg hr
  have m1:=(mn_dv gq gr).1
  have m2:=(mn_dv gp gr).1
  have m3:=(mn_dv gp gq).1
  have t1:=(tm_dv gp gq gr).1
  have t2:=(tm_dv gq gp gr).1
  have t3:=(tm_dv gr gp gq).1
  obtain ⟨s1,-⟩:=t1.sum t2.neg.1 (by decide)
  have h1:=mul_run (gp.f 2 (by decide)) m1 t1.p
  have h2:=mul_run (gq.f 2 (by decide)) m2 t2.p
  have h3:=mul_run (gr.f 2 (by decide)) m3 t3.p
  have h4:=sub_run t1 t2 s1.p
  have h5:=add_run s1 t3 (dt_dv gp gq gr).1.p
  have c1:=blkC hg _ (hA.l p hp 2 (by decide))
  have c2:=blkC hg _ (hA.l q hq 2 (by decide))
  have c3:=blkC hg _ (hA.l r hr 2 (by decide))
  have c4:=blkC hg _ (hA.m q hq r hr qr)
  have c5:=blkC hg _ (hA.m p hp r hr pr)
  have c6:=blkC hg _ (hA.m p hp q hq pq)
  have p3:(p:Int)<4:=by omega
  have q3:(q:Int)<4:=by omega
  have r3:(r:Int)<4:=by omega
  unfold dt
  clear gp gq gr m1 m2 m3 t1 t2 t3 s1 hL hA hg
  generalize fsum (fsum (fprod (u p 2) (mn u q r)) (neg (fprod (u q 2) (mn u p r)))) (fprod (u r 2) (mn u p q))=D at *
  generalize fsum (fprod (u p 2) (mn u q r)) (neg (fprod (u q 2) (mn u p r)))=S at *
  generalize fprod (u p 2) (mn u q r)=A at *
  generalize fprod (u q 2) (mn u p r)=B at *
  generalize fprod (u r 2) (mn u p q)=C at *
  generalize mn u q r=x1 at *
  generalize mn u p r=x2 at *
  generalize mn u p q=x3 at *
  go_enter Tryd.func32,Tryd.ntmps32
  go_wp2_with fail
  go_quiet (fail)
  go_wp2_with fail
  have hd:=bDrewN (bel_refl w) nq
  replace c2:=q_cell c2 hd
  replace c3:=q_cell c3 hd
  replace c5:=q_cell c5 hd
  replace c6:=q_cell c6 hd
  clear c1 c4
  generalize w.drewN nq=w1 at *
  go_quiet (fail)
  go_wp2_with fail
  have hd2:=bDrewN (bel_refl w1) nq
  replace c3:=q_cell c3 hd2
  replace c6:=q_cell c6 hd2
  clear c2 c5
  generalize w1.drewN nq=w2 at *
  go_quiet (fail)
  go_wp2
  go_ret
  exact ⟨rfl,bel_trans (bel_trans hd hd2) (bDrewN (bel_refl w2) _)⟩
set_option maxRecDepth 100000 in
set_option maxHeartbeats 1000000 in
theorem ssize_any {u:Nat->Nat->Int} (hL:Lf u) {p q r:Nat} (hp:p<4) (hq:q<4) (hr:r<4) (pq:p≠q) (pr:p≠r) (qr:q≠r) {arr:Array Value} (hA:FrA arr u) (g:Nat) (w:World) (hg:w.heap[g]?=some (.cells arr 73 (0,0))) :
    Calls Tryd.prog 33 #[.pointer (some ⟨g,0,none⟩),.int .i64 p,.int .i64 q,.int .i64 r] w fun e w'=>e=.returned (.float .f64 (wd (sxz u p q r)))∧Below w.heap.size w w':=by
  have gp:=hL.lg hp
  have gq:=hL.lg hq
  have gr:=hL.lg hr
  have m1:=(sz_sz gq gr).1
  have m2:=(sz_sz gr gp).1
  have m3:=(sz_sz gp gq).1
  have t1:=(ts_sz gp gq gr).1
  have t2:=(ts_sz gq gr gp).1
  have t3:=(ts_sz gr gp gq).1
  obtain ⟨s1,-⟩:=t1.sum t2 (by decide)
  have h1:=mul_run m1 (gp.f 2 (by decide)).abs.1 t1.p
  have h2:=mul_run m2 (gq.f 2 (by decide)).abs.1 t2.p
  have h3:=mul_run m3 (gr.f 2 (by decide)).abs.1 t3.p
  have h4:=add_run t1 t2 s1.p
  have h5:=add_run s1 t3 (sxz_sz gp gq gr).1.p
  have a1:Hid (∀ W,Calls Tryd.prog 25 #[.float .f64 (wd (u p 2))] W fun e w'=>e=.returned (.float .f64 (wd (rg (u p 2))))∧w'=W):=fun W=>mathAbs (gp.f 2 (by decide)).r W
  have a2:Hid (∀ W,Calls Tryd.prog 25 #[.float .f64 (wd (u q 2))] W fun e w'=>e=.returned (.float .f64 (wd (rg (u q 2))))∧w'=W):=fun W=>mathAbs (gq.f 2 (by decide)).r W
  have a3:Hid (∀ W,Calls Tryd.prog 25 #[.float .f64 (wd (u r 2))] W fun e w'=>e=.returned (.float .f64 (wd (rg (u r 2))))∧w'=W):=fun W=>mathAbs (gr.f 2 (by decide)).r W
  have c1:=blkC hg _ (hA.l p hp 2 (by decide))
  have c2:=blkC hg _ (hA.l q hq 2 (by decide))
  have c3:=blkC hg _ (hA.l r hr 2 (by decide))
  have c4:=blkC hg _ (hA.s q hq r hr qr)
  have c5:=blkC hg _ (hA.s r hr p hp (Ne.symm pr))
  have c6:=blkC hg _ (hA.s p hp q hq pq)
  have p3:(p:Int)<4:=by omega
  have q3:(q:Int)<4:=by omega
  have r3:(r:Int)<4:=by omega
  unfold sxz
  clear gp gq gr m1 m2 m3 t1 t2 t3 s1 hL hA hg
  generalize fsum (fsum (fprod (sz u q r) (rg (u p 2))) (fprod (sz u r p) (rg (u q 2)))) (fprod (sz u p q) (rg (u r 2)))=D at *
  generalize fsum (fprod (sz u q r) (rg (u p 2))) (fprod (sz u r p) (rg (u q 2)))=S at *
  generalize fprod (sz u q r) (rg (u p 2))=A at *
  generalize fprod (sz u r p) (rg (u q 2))=B at *
  generalize fprod (sz u p q) (rg (u r 2))=C at *
  generalize sz u q r=x1 at *
  generalize sz u r p=x2 at *
  generalize sz u p q=x3 at *
  generalize rg (u p 2)=y1 at *
  generalize rg (u q 2)=y2 at *
  generalize rg (u r 2)=y3 at *
  go_enter Tryd.func33,Tryd.ntmps33
  go_wp2_with fail
  go_quiet (first | (go_at_call 25; with_reducible exact Calls.quiet_of_same (a1.out _)))
  go_wp2_with fail
  have hd:=bDrewN (bel_refl w) nq
  replace c2:=q_cell c2 hd
  replace c3:=q_cell c3 hd
  replace c5:=q_cell c5 hd
  replace c6:=q_cell c6 hd
  clear c1 c4
  generalize w.drewN nq=w1 at *
  go_quiet (first | (go_at_call 25; with_reducible exact Calls.quiet_of_same (a2.out _)))
  go_wp2_with fail
  have hd2:=bDrewN (bel_refl w1) nq
  replace c3:=q_cell c3 hd2
  replace c6:=q_cell c6 hd2
  clear c2 c5
  generalize w1.drewN nq=w2 at *
  go_quiet (first | (go_at_call 25; with_reducible exact Calls.quiet_of_same (a3.out _)))
  go_wp2
  go_ret
  exact ⟨rfl,bel_trans (bel_trans hd hd2) (bDrewN (bel_refl w2) _)⟩
theorem wd_0:wd 0=0:=by decide
set_option maxRecDepth 100000 in
set_option maxHeartbeats 1000000 in
theorem slift_any {u:Nat->Nat->Int} (hL:Lf u) {p:Nat} (hp:p<4) {arr:Array Value} (hA:FrA arr u) (g:Nat) (w:World) (hg:w.heap[g]?=some (.cells arr 73 (0,0))) :
    Calls Tryd.prog 46 #[.pointer (some ⟨g,0,none⟩),.int .i64 p] w fun e w'=>e=.returned (.float .f64 (wd (lf u p)))∧Below w.heap.size w w':=by
  have gp:=hL.lg hp
  obtain ⟨f0,-,-⟩:=sq_fx gp 0 (by decide)
  obtain ⟨f1,-,-⟩:=sq_fx gp 1 (by decide)
  obtain ⟨f2,-,-⟩:=sq_fx gp 2 (by decide)
  obtain ⟨s0,-⟩:=sum0_fx f0 (by decide)
  obtain ⟨s1,-⟩:=s0.sum f1 (by decide)
  have h0:=mul_run (gp.f 0 (by decide)) (gp.f 0 (by decide)) f0.p
  have h1:=mul_run (gp.f 1 (by decide)) (gp.f 1 (by decide)) f1.p
  have h2:=mul_run (gp.f 2 (by decide)) (gp.f 2 (by decide)) f2.p
  have k0:=add_run (fx_zero (a:=0) (b:=0)) f0 s0.p
  have k1:=add_run s0 f1 s1.p
  have k2:=add_run s1 f2 (lf_dv gp).1.p
  have c0:=blkC hg _ (hA.l p hp 0 (by decide))
  have c1:=blkC hg _ (hA.l p hp 1 (by decide))
  have c2:=blkC hg _ (hA.l p hp 2 (by decide))
  have p3:(p:Int)<4:=by omega
  rw [wd_0] at k0
  rw [Nat.add_zero] at c0
  unfold lf
  clear gp f0 f1 f2 s0 s1 hL hA hg
  generalize fsum (fsum (fsum 0 (fprod (u p 0) (u p 0))) (fprod (u p 1) (u p 1))) (fprod (u p 2) (u p 2))=D at *
  generalize fsum (fsum 0 (fprod (u p 0) (u p 0))) (fprod (u p 1) (u p 1))=C at *
  generalize fsum 0 (fprod (u p 0) (u p 0))=B at *
  generalize fprod (u p 0) (u p 0)=q0 at *
  generalize fprod (u p 1) (u p 1)=q1 at *
  generalize fprod (u p 2) (u p 2)=q2 at *
  generalize u p 0=x0 at *
  generalize u p 1=x1 at *
  generalize u p 2=x2 at *
  have i0:∀ w,(Instr.index 55 (.agg #[.float .f64 (wd x0),.float .f64 (wd x1),.float .f64 (wd x2)]) (.int .i64 0)).run Tryd.prog w=.ok (.float .f64 (wd x0)) w:=fun _=>by kernel_rfl
  have i1:∀ w,(Instr.index 55 (.agg #[.float .f64 (wd x0),.float .f64 (wd x1),.float .f64 (wd x2)]) (.int .i64 1)).run Tryd.prog w=.ok (.float .f64 (wd x1)) w:=fun _=>by kernel_rfl
  have i2:∀ w,(Instr.index 55 (.agg #[.float .f64 (wd x0),.float .f64 (wd x1),.float .f64 (wd x2)]) (.int .i64 2)).run Tryd.prog w=.ok (.float .f64 (wd x2)) w:=fun _=>by kernel_rfl
  go_enter Tryd.func46,Tryd.ntmps46
  go_wp2_with fail
  clear c0 c1 c2
  go_loopw [14,5] (fun i x wr=>Hid (wr=w)∧((i=.int .i64 0∧x=.float .f64 0)∨(i=.int .i64 1∧x=.float .f64 (wd B))∨(i=.int .i64 2∧x=.float .f64 (wd C))∨(i=.int .i64 3∧x=.float .f64 (wd D)))) (fun i _ _=>3-(intOf i).toNat)
  case atStart=>exact ⟨rfl,.inl ⟨rfl,rfl⟩⟩
  case round=>
    obtain ⟨HW,hrel⟩:=hrel
    obtain rfl:=HW.out
    rcases hrel with ⟨rfl,rfl⟩ | ⟨rfl,rfl⟩ | ⟨rfl,rfl⟩ | ⟨rfl,rfl⟩
    . go_wp2
      go_roundw
      case rel=>exact ⟨hideIt trivial,.inr (.inl ⟨by go_num,rfl⟩)⟩
      case measure=>simp [intOf]
    . go_wp2
      go_roundw
      case rel=>exact ⟨hideIt trivial,.inr (.inr (.inl ⟨by go_num,rfl⟩))⟩
      case measure=>simp [intOf]
    . go_wp2
      go_roundw
      case rel=>exact ⟨hideIt trivial,.inr (.inr (.inr ⟨by go_num,rfl⟩))⟩
      case measure=>simp [intOf]
    . go_wp2
      go_ret
      exact ⟨rfl,bel_refl _⟩
def Lies (v:Value) (x y:Nat):Prop:=∀ g,v.ownBlock=some g->x<=g∧g<y
def RFit (w w':World) (V:Int) (v:Value) (er:Int):Prop:=DFit w w' V v er
theorem RFit.shape {w w':World} {V er:Int} {v:Value} (h:RFit w w' V v er):∃ ng so sn sc e,v=.agg #[.bool ng,.slice so sn sc,.int .i64 e]:=by
  exact DFit.shape h
def DAn (B:Nat) (w:World) (V:Int) (v:Value):Prop:=∃ ng s m e,v=.agg #[.bool ng,s,.int .i64 e]∧Dy V ng m e∧An B w s m
def DFitA (B:Nat) (w:World) (V:Int) (v:Value) (er:Int):Prop:=(Dok V∧er=0∧DAn B w V v)∨(¬ Dok V∧er=2∧v=zeroV)
theorem DAns.dan {w w':World} {V:Int} {v:Value} (h:DAns w w' V v):DAn w.heap.size w' V v:=by
  obtain ⟨ng,s,m,e,h1,h2,h3⟩:=h
  exact ⟨ng,s,m,e,h1,h2,h3.an⟩
theorem An.wr {B:Nat} {w w':World} {v:Value} {V:Int} {g:Nat} (h:An B w v V) (hw:Wr g w w') (hg:g<B):An B w' v V:=by
  obtain ⟨t,d,h1,h2⟩:=h
  exact ⟨t,d,h1.of_block fun g' hg'=>hw.block g' (h1.ge hg').2 (by have:=(h1.ge hg').1; omega),h2⟩
theorem DAn.wr {B:Nat} {w w':World} {v:Value} {V:Int} {g:Nat} (h:DAn B w V v) (hw:Wr g w w') (hg:g<B):DAn B w' V v:=by
  obtain ⟨ng,s,m,e,h1,h2,h3⟩:=h
  exact ⟨ng,s,m,e,h1,h2,h3.wr hw hg⟩
theorem DAn.keeps {B:Nat} {w w':World} {v:Value} {V:Int} (h:DAn B w V v) (k:Below w.heap.size w w'):DAn B w' V v:=by
  obtain ⟨ng,s,m,e,h1,h2,h3⟩:=h
  exact ⟨ng,s,m,e,h1,h2,h3.keeps k⟩
theorem DAn.lower {B B':Nat} {w:World} {v:Value} {V:Int} (h:DAn B w V v) (hB:B'<=B):DAn B' w V v:=by
  obtain ⟨ng,s,m,e,h1,h2,h3⟩:=h
  exact ⟨ng,s,m,e,h1,h2,h3.lower hB⟩
theorem DAn.num {B:Nat} {w:World} {v:Value} {V:Int} (h:DAn B w V v):DNum w v V:=by
  obtain ⟨ng,s,m,e,h1,h2,h3⟩:=h
  exact ⟨ng,s,m,e,h1,h2,h3.num⟩
theorem DFitA.wr {B:Nat} {w w':World} {v:Value} {V er:Int} {g:Nat} (h:DFitA B w V v er) (hw:Wr g w w') (hg:g<B):DFitA B w' V v er:=by
  rcases h with ⟨h1,h2,h3⟩ | h
  . exact .inl ⟨h1,h2,h3.wr hw hg⟩
  . exact .inr h
theorem DFitA.keeps {B:Nat} {w w':World} {v:Value} {V er:Int} (h:DFitA B w V v er) (k:Below w.heap.size w w'):DFitA B w' V v er:=by
  rcases h with ⟨h1,h2,h3⟩ | h
  . exact .inl ⟨h1,h2,h3.keeps k⟩
  . exact .inr h
theorem DFitA.lower {B B':Nat} {w:World} {v:Value} {V er:Int} (h:DFitA B w V v er) (hB:B'<=B):DFitA B' w V v er:=by
  rcases h with ⟨h1,h2,h3⟩ | h
  . exact .inl ⟨h1,h2,h3.lower hB⟩
  . exact .inr h
theorem DFitA.shape {B:Nat} {w:World} {v:Value} {V er:Int} (h:DFitA B w V v er):∃ ng so sn sc e,v=.agg #[.bool ng,.slice so sn sc,.int .i64 e]:=by
  rcases h with ⟨_,_,ng,s,m,e,h1,_,h3⟩ | ⟨_,_,rfl⟩
  . obtain ⟨so,sn,sc,rfl⟩:=h3.shape
    exact ⟨_,_,_,_,_,h1⟩
  . exact ⟨_,_,_,_,_,rfl⟩
theorem DFitA.ge {B:Nat} {w:World} {ng:Bool} {so:Option Addr} {sn sc:Nat} {e V er:Int} (h:DFitA B w V (.agg #[.bool ng,.slice so sn sc,.int .i64 e]) er):Lies (.slice so sn sc) B w.heap.size:=by
  intro g hg
  rcases h with ⟨_,_,ng',s,m,e',h1,_,h3⟩ | ⟨_,_,h1⟩
  . simp only [Value.agg.injEq,Array.mk.injEq,List.cons.injEq,Value.bool.injEq,Value.int.injEq,and_true,true_and] at h1
    obtain ⟨_,h1,_⟩:=h1
    rw [<- h1] at h3
    exact h3.ge hg
  . simp only [zeroV,Value.agg.injEq,Array.mk.injEq,List.cons.injEq,Value.bool.injEq,Value.int.injEq,Value.slice.injEq,and_true,true_and] at h1
    obtain ⟨_,⟨rfl,_,_⟩,_⟩:=h1
    simp [Value.ownBlock] at hg
theorem DAn.parts {B:Nat} {w:World} {ng:Bool} {so:Option Addr} {sn sc:Nat} {e V:Int} (h:DAn B w V (.agg #[.bool ng,.slice so sn sc,.int .i64 e])):∃ m,Dy V ng m e∧An B w (.slice so sn sc) m:=by
  obtain ⟨ng',s,m,e',h1,h2,h3⟩:=h
  simp only [Value.agg.injEq,Array.mk.injEq,List.cons.injEq,Value.bool.injEq,Value.int.injEq,and_true,true_and] at h1
  obtain ⟨rfl,rfl,rfl⟩:=h1
  exact ⟨m,h2,h3⟩
def cells3 (f:Nat->Value):Nat->List Value
  | 0=>[]
  | m+1=>cells3 f m ++ (f m).cells.toList
def Three (v:Value):Prop:=∃ ng so sn sc e,v=.agg #[.bool ng,.slice so sn sc,.int .i64 e]
theorem DAn.three {B:Nat} {w:World} {V:Int} {v:Value} (h:DAn B w V v):Three v:=by
  obtain ⟨ng,s,m,e,rfl,_,hA⟩:=h
  obtain ⟨so,sn,sc,rfl⟩:=hA.shape
  exact ⟨_,_,_,_,_,rfl⟩
theorem cells3_length {f:Nat->Value}:∀ m,(∀ i,i<m->Three (f i))->(cells3 f m).length=m*3
  | 0,_=>rfl
  | m+1,h=>by
    obtain ⟨ng,so,sn,sc,e,he⟩:=h m (by omega)
    rw [cells3,List.length_append,cells3_length m fun i hi=>h i (by omega),he]
    simp [Value.cells]
    omega
theorem cells3_at {f:Nat->Value}:∀ m,(∀ i,i<m->Three (f i))->∀ i j,i<m->j<3->(cells3 f m)[i*3+j]?=(f i).cells[j]?
  | 0,_,i,j,hi,_=>by omega
  | m+1,h,i,j,hi,hj=>by
    have hl:=cells3_length m fun i hi=>h i (by omega)
    rw [cells3]
    by_cases e:i=m
    . subst e
      rw [List.getElem?_append_right (by omega),hl,show i*3+j-i*3=j by omega]
      simp
    . rw [List.getElem?_append_left (by omega)]
      exact cells3_at m (fun i hi=>h i (by omega)) i j (by omega) hj
def OutN (B:Nat) (w:World) (x:Value) (m:Nat) (f:Nat->Value):Prop:=w.ownsRow B 35 3 x m (cells3 f m)
theorem OutN.nil (B:Nat) (w:World) (f:Nat->Value):OutN B w (.slice none 0 0) 0 f:=⟨rfl,.inl ⟨rfl,rfl⟩⟩
theorem OutN.of_block {B:Nat} {w w':World} {x:Value} {m:Nat} {f:Nat->Value} (h:OutN B w x m f) (hb:∀ g,x.ownBlock=some g->w'.heap[g]?=w.heap[g]?):OutN B w' x m f:=by
  refine ⟨h.1,?_⟩
  rcases h.2 with hn | ⟨g,cap,cur,rfl,hbb,hg,rest⟩
  . exact .inl hn
  . exact .inr ⟨g,cap,cur,rfl,hbb,(hb g rfl).trans hg,rest⟩
theorem OutN.typed {B:Nat} {w:World} {x:Value} {m:Nat} {f:Nat->Value} (h:OutN B w x m f) {g:Nat} (hg:x.ownBlock=some g):B<=g∧g<w.heap.size∧∃ cur z,w.heap[g]?=some (.cells cur 35 z):=by
  rcases h.2 with ⟨rfl,_⟩ | ⟨g',cap,cur,rfl,hbb,hg',rest⟩
  . simp [Value.ownBlock] at hg
  . simp only [Value.ownBlock,Option.some.injEq] at hg; subst hg; exact ⟨hbb,(Array.getElem?_eq_some_iff.1 hg').1,cur,_,hg'⟩
theorem OutN.keeps {B:Nat} {w w':World} {x:Value} {m:Nat} {f:Nat->Value} (h:OutN B w x m f) (hb:Below w.heap.size w w'):OutN B w' x m f:=h.of_block fun g hg=>hb.block g (h.typed hg).2.1
theorem OutN.shape {B:Nat} {w:World} {x:Value} {m:Nat} {f:Nat->Value} (h:OutN B w x m f):∃ xo xc,x=.slice xo m xc∧m<=xc∧(0<m->∃ g,xo=some ⟨g,0,none⟩):=by
  rcases h.2 with ⟨rfl,rfl⟩ | ⟨g,cap,cur,rfl,hb,hg,hn,hm,_⟩
  . exact ⟨none,0,rfl,Nat.le_refl _,fun h=>by omega⟩
  . exact ⟨_,cap,rfl,hn,fun _=>⟨g,rfl⟩⟩
theorem OutN.cell {B:Nat} {w:World} {xo:Option Addr} {m xc g:Nat} {f:Nat->Value} (h:OutN B w (.slice xo m xc) m f) (ht:∀ i,i<m->Three (f i)) (hx:xo=some ⟨g,0,none⟩) {i j:Nat} (hi:i<m) (hj:j<3):w.cell? ⟨g,i*3+j,none⟩=(f i).cells[j]?:=by
  rcases h.2 with ⟨_,rfl⟩ | ⟨g',cap,cur,e,hb,hg,hn,hm,hs,ht'⟩
  . omega
  . simp only [Value.slice.injEq] at e
    obtain ⟨rfl,_,rfl⟩:=e
    simp only [Option.some.injEq,Addr.mk.injEq] at hx
    obtain ⟨rfl,_⟩:=hx
    rw [cell_of_row w g' (i*3+j) cur _ _ hg,<- cells3_at m ht i j hi hj,<- ht',List.getElem?_take_of_lt (by omega)]
    simp
theorem DAn.of_blocks {B:Nat} {w w':World} {V:Int} {v:Value} (h:DAn B w V v) (hb:∀ (g:Nat) (cur:Array Value) z,w.heap[g]?=some (.cells cur 3 z)->w'.heap[g]?=w.heap[g]?):DAn B w' V v:=by
  obtain ⟨ng,s,m,e,h1,h2,t,d,hO,h3⟩:=h
  exact ⟨ng,s,m,e,h1,h2,t,d,hO.of_block fun g hg=>by obtain ⟨cur,z,hc⟩:=hO.typed hg; exact hb g cur z hc,h3⟩
structure LS (B:Nat) (w:World) (N:Nat) (X:Nat->Value) (M:Nat->Nat) (F:Nat->Nat->Value):Prop where
  own:∀ j,j<N->OutN B w (X j) (M j) (F j)
  ne:∀ i j,i<N->j<N->i≠j->∀ g,(X i).ownBlock=some g->(X j).ownBlock≠some g
theorem LS.keeps {B:Nat} {w w':World} {N:Nat} {X:Nat->Value} {M:Nat->Nat} {F:Nat->Nat->Value} (h:LS B w N X M F) (hb:Below w.heap.size w w'):LS B w' N X M F:=⟨fun j hj=>(h.own j hj).keeps hb,h.ne⟩
theorem LS.put {B:Nat} {w w':World} {N:Nat} {X:Nat->Value} {M:Nat->Nat} {F:Nat->Nat->Value} (h:LS B w N X M F) (j0:Nat) {row:Option Nat} (hg:w.grownBy w' row) {v':Value} {M':Nat} {F':Nat->Value} (hO:OutN B w' v' M' F') (h1:∀ j,j<N->j≠j0->∀ g,(X j).ownBlock=some g->row≠some g) (h2:∀ j,j<N->j≠j0->∀ g,(X j).ownBlock=some g->v'.ownBlock≠some g) :
    LS B w' N (updV X j0 v') (updV M j0 M') (updV F j0 F'):=by
  refine ⟨fun j hj=>?_,fun i j hi hj hij g hgi=>?_⟩
  . by_cases e:j=j0
    . subst e; rw [updV_same,updV_same,updV_same]; exact hO
    . rw [updV_other _ _ e,updV_other _ _ e,updV_other _ _ e]
      exact (h.own j hj).of_block fun g hgx=>hg.block g ((h.own j hj).typed hgx).2.1 fun e'=>h1 j hj e g hgx e'.symm
  . by_cases e:i=j0
    . subst e
      rw [updV_same] at hgi
      rw [updV_other _ _ (Ne.symm hij)]
      exact fun hgj=>h2 j hj (Ne.symm hij) g hgj hgi
    . rw [updV_other _ _ e] at hgi
      by_cases e2:j=j0
      . subst e2
        rw [updV_same]
        exact h2 i hi e g hgi
      . rw [updV_other _ _ e2]
        exact h.ne i j hi hj hij g hgi
theorem LS.row {B:Nat} {w:World} {N:Nat} {X:Nat->Value} {M:Nat->Nat} {F:Nat->Nat->Value} (h:LS B w N X M F) {j:Nat} (hj:j<N):∀ g,(X j).ownBlock=some g->∃ (cur:Array Value) (z:Nat × Nat),w.heap[g]?=some (Obj.cells cur 35 z):=fun g hg=>(((h.own j hj).typed hg).2.2)
theorem LS.ge {B:Nat} {w:World} {N:Nat} {X:Nat->Value} {M:Nat->Nat} {F:Nat->Nat->Value} (h:LS B w N X M F) {j:Nat} (hj:j<N):∀ g,(X j).ownBlock=some g->B<=g:=fun g hg=>((h.own j hj).typed hg).1
theorem OutN.nums {B:Nat} {w:World} {xo:Option Addr} {m xc:Nat} {f:Nat->Value} {r:Nat->NumR} (h:OutN B w (.slice xo m xc) m f) (hm:m<=100000) (hr:∀ i,i<m->f i=(r i).v∧Row w (r i).ao (r i).n (r i).cap (r i).d):∃ c2,xc=c2∧Nums w xo m xc r:=by
  have ht:∀ i,i<m->Three (f i):=fun i hi=>⟨_,_,_,_,_,(hr i hi).1⟩
  refine ⟨xc,rfl,?_⟩
  obtain ⟨xo',xc',e,hle,hsp⟩:=h.shape
  simp only [Value.slice.injEq] at e
  obtain ⟨rfl,_,rfl⟩:=e
  refine ⟨hle,?_,fun hm0=>?_⟩
  . rcases h.2 with ⟨e,_⟩ | ⟨g,cap,cur,e,hb,hg,hn,hmx,hs,_⟩
    . simp only [Value.slice.injEq] at e; omega
    . simp only [Value.slice.injEq] at e
      obtain ⟨_,_,rfl⟩:=e
      unfold maxLen at hmx
      omega
  . obtain ⟨g,rfl⟩:=hsp hm0
    have hlt:g<w.heap.size:=(h.typed (g:=g) rfl).2.1
    refine ⟨g,0,rfl,hlt,fun i hi=>?_⟩
    obtain ⟨h1,h2⟩:=hr i hi
    have c:=fun j (hj:j<3)=>h.cell ht rfl hi (j:=j) hj
    rw [h1] at c
    rw [Nat.zero_add]
    exact ⟨c 0 (by decide),c 1 (by decide),c 2 (by decide),h2⟩
theorem bd_form {K:Nat} {A:Int} {ng:Bool} {m e:Int} (h:Bd K A) (hy:Dy A ng m e) (hK:K<=4194304) (h0:0<m):-(K:Int)<=e∧e<=K∧m*2^(e+K).toNat<2^(2*K):=by
  obtain ⟨c,hc,c1,c2⟩:=h
  have key:∀ (b:Bool) (C:Int),0<C->C<2^(2*K)->A=sg b C*pw (-(K:Int))->-(K:Int)<=e∧e<=K∧m*2^(e+K).toNat<2^(2*K):=fun b C hC hlt hA=>by
    obtain ⟨l,hl⟩:=isLow_ex hC
    have hy2:=Dy.of b hl hC (show -4194304 <= -(K:Int) by omega)
    rw [<- hA] at hy2
    obtain ⟨_,rfl,rfl⟩:=hy.unique hy2
    obtain ⟨d1,d2,d3⟩:=isLow_odd hl hC
    have hl2:l<2*K:=by
      have h3:(1:Int)*2^l<=C/2^l*2^l:=Int.mul_le_mul_of_nonneg_right (by omega) (Int.le_of_lt (two_pos l))
      rw [d3] at h3
      exact two_lt_iff (by omega)
    refine ⟨by omega,by omega,?_⟩
    rw [show (-(K:Int)+l+K).toNat=l by omega,d3]
    exact hlt
  by_cases hz:c=0
  . exfalso
    rw [hz,Int.zero_mul] at hc
    have:=hy.eq_zero.1 hc
    omega
  . by_cases hp:0<c
    . exact key false c hp c2 (by simpa [sg] using hc)
    . exact key true (-c) (by omega) (by omega) (by simpa [sg] using hc)
def RSum (w w':World) (A B:Int) (x y v:Value):Prop:=Below w.heap.size w w'∧(DAns w w' (A+B) v∨(A=0∧v=y)∨(B=0∧v=x))
theorem RSum.num {w w':World} {A B:Int} {x y v:Value} (h:RSum w w' A B x y v) (hx:DNum w x A) (hy:DNum w y B):DNum w' v (A+B):=by
  rcases h.2 with h1 | ⟨rfl,rfl⟩ | ⟨rfl,rfl⟩
  . exact h1.num
  . rw [Int.zero_add]; exact hy.keeps h.1
  . rw [Int.add_zero]; exact hx.keeps h.1
theorem Num.digits {w:World} {so:Option Addr} {sn sc:Nat} {M:Int} (h:Num w (.slice so sn sc) M) {K:Nat} (hK:K<=560000) (hM:M<2^(2*K)+2^(2*K)):∃ d,Row w so sn sc d∧Nrm d sn∧val d sn=M∧sn<=37500:=by
  obtain ⟨ao,n,ca,d,e,hR,hN,hv⟩:=h
  simp only [Value.slice.injEq] at e
  obtain ⟨rfl,rfl,rfl⟩:=e
  refine ⟨d,hR,hN,hv,?_⟩
  by_cases h1:sn<=37500
  . exact h1
  . exfalso
    have a:=val_top hN.1 (by omega) hN.2
    have b:=P_le (show 37500<=sn-1 by omega)
    have c:(2:Int)^(2*K)<=2^(30*37400):=two_le (by omega)
    have c2:(2:Int)^(30*37400)*2<=2^(30*37500):=by
      rw [<- Int.pow_succ]
      exact two_le (by omega)
    rw [<- P_two 37500] at c2
    generalize P 37500=Y at *
    generalize (2:Int)^(30*37400)=Z at *
    omega
def sumF (V:Nat->Int):Nat->Int | 0=>0 | m+1=>sumF V m+V m
theorem bd_zero (K:Nat):Bd K 0:=⟨0,by rw [Int.zero_mul],by have:=two_pos (2*K); omega,by have:=two_pos (2*K); omega⟩
theorem dotV_F {a b:Nat->NumR} {V W:Nat->Int}:∀ m,(∀ i,i<m->(a i).V=V i∧Half (a i))->(∀ i,i<m->(b i).V=W i∧Half (b i))->dotV a b m*2^4194304=sumF (fun i=>V i*W i) m
  | 0,_,_=>by show 0*_=(0:Int); rw [Int.zero_mul]
  | m+1,h,k=>by
    have h1:=h m (by omega)
    have k1:=k m (by omega)
    unfold Half at h1 k1
    show (dotV a b m+mulV (a m) (b m))*2^4194304=sumF (fun i=>V i*W i) m+V m*W m
    rw [Int.add_mul,dotV_F m (fun i hi=>h i (by omega)) (fun i hi=>k i (by omega)),mulV_eq (by omega) (by omega),h1.1,k1.1]
theorem bd_dotV {a b:Nat->NumR} {V W:Nat->Int} {K:Nat} (hK:K<=10000):∀ m,m<=1000->(∀ i,i<m->(a i).V=V i∧Half (a i)∧Bd K (V i))->(∀ i,i<m->(b i).V=W i∧Half (b i)∧Bd K (W i))->Bd (2*K+m) (dotV a b m)
  | 0,_,_,_=>bd_zero _
  | m+1,hm,h,k=>by
    obtain ⟨h1,h2,h3⟩:=h m (by omega)
    obtain ⟨k1,k2,k3⟩:=k m (by omega)
    unfold Half at h2 k2
    have e:=mulV_eq (x:=a m) (y:=b m) (by omega) (by omega)
    rw [h1,k1] at e
    exact (bd_dotV hK m (by omega) (fun i hi=>h i (by omega)) (fun i hi=>k i (by omega))).add ((h3.mul k3 e (by omega)).up (by omega) (by omega)) (by omega)
theorem dans_past {w w':World} {V:Int} {v:Value} (h:DAns w w' V v) (o:Obj):DAns w (w'.alloc o) V v:=h.stays (bel_alloc _ _)
set_option maxRecDepth 100000 in
set_option maxHeartbeats 2000000 in
theorem oapart_any {p q:Int} (pp:pok p=true) (pq:pok q=true) (w:World) (H:Hold4 w) :
    Calls Tryd.prog 28 #[.int .i64 p,.int .i64 q] w fun r w'=>∃ v,r=.returned v∧DAns w w' (patV p-patV q) v:=by
  have r_k:=heap_a1 w (.cells #[.bool false,.slice none 0 0,.int .i64 0] 35)
  have hb0:=bel_alloc w (.cells #[.bool false,.slice none 0 0,.int .i64 0] 35)
  have B1:=patV_bd pp
  have B2:=patV_bd pq
  go_enter Tryd.func28,Tryd.ntmps28
  go_wp2_with fail
  generalize w.alloc (.cells #[.bool false,.slice none 0 0,.int .i64 0] 35)=x0 at r_k hb0 ⊢
  have H:=H.keeps hb0
  refine (of_ok pp H).mono ?_
  rintro _ y1 ⟨v,rfl,h1⟩
  obtain ⟨x_g,x_o,x_n,x_c,x_e,rfl⟩:=dans_shape h1
  have hw1:=h1.below
  have x_D:=h1.num
  have H:=H.keeps hw1
  have r_k:=(hw1.block _ (Array.getElem?_eq_some_iff.1 r_k).1).trans r_k
  have hb1:=bel_trans hb0 hw1
  have r_k:=heap_past (.cells #[.bool x_g,.slice x_o x_n x_c,.int .i64 x_e] 35) r_k
  have x_k:=heap_a1 y1 (.cells #[.bool x_g,.slice x_o x_n x_c,.int .i64 x_e] 35)
  have x_D:=x_D.keeps (bel_alloc y1 (.cells #[.bool x_g,.slice x_o x_n x_c,.int .i64 x_e] 35))
  have H:=H.keeps (bel_alloc y1 (.cells #[.bool x_g,.slice x_o x_n x_c,.int .i64 x_e] 35))
  have hb2':=bel_trans hb1 (bel_alloc y1 (.cells #[.bool x_g,.slice x_o x_n x_c,.int .i64 x_e] 35))
  go_wp2_with fail
  generalize y1.alloc (.cells #[.bool x_g,.slice x_o x_n x_c,.int .i64 x_e] 35)=x2 at r_k x_k x_D H hb2' ⊢
  refine (of_ok pq H).mono ?_
  rintro _ y2 ⟨v,rfl,h2⟩
  obtain ⟨y_g,y_o,y_n,y_c,y_e,rfl⟩:=dans_shape h2
  have hw2:=h2.below
  have y_D:=h2.num
  have H:=H.keeps hw2
  have r_k:=(hw2.block _ (Array.getElem?_eq_some_iff.1 r_k).1).trans r_k
  have x_k:=(hw2.block _ (Array.getElem?_eq_some_iff.1 x_k).1).trans x_k
  have x_D:=x_D.keeps hw2
  have hb2:=bel_trans hb2' hw2
  have r_k:=heap_past (.cells #[.bool y_g,.slice y_o y_n y_c,.int .i64 y_e] 35) r_k
  have x_k:=heap_past (.cells #[.bool y_g,.slice y_o y_n y_c,.int .i64 y_e] 35) x_k
  have y_k:=heap_a1 y2 (.cells #[.bool y_g,.slice y_o y_n y_c,.int .i64 y_e] 35)
  have x_D:=x_D.keeps (bel_alloc y2 (.cells #[.bool y_g,.slice y_o y_n y_c,.int .i64 y_e] 35))
  have y_D:=y_D.keeps (bel_alloc y2 (.cells #[.bool y_g,.slice y_o y_n y_c,.int .i64 y_e] 35))
  have H:=H.keeps (bel_alloc y2 (.cells #[.bool y_g,.slice y_o y_n y_c,.int .i64 y_e] 35))
  have hb3':=bel_trans hb2 (bel_alloc y2 (.cells #[.bool y_g,.slice y_o y_n y_c,.int .i64 y_e] 35))
  have f_x0:=blkC x_k 0 rfl
  have f_x1:=blkC x_k 1 rfl
  have f_x2:=blkC x_k 2 rfl
  go_wp2_with fail
  clear f_x0 f_x1 f_x2
  generalize y2.alloc (.cells #[.bool y_g,.slice y_o y_n y_c,.int .i64 y_e] 35)=x3 at r_k x_k y_k x_D y_D H hb3' ⊢
  have hs0:=(Array.getElem?_eq_some_iff.1 r_k).1
  refine (sub_B x_D y_D B1 B2 (by omega) H.tab).mono ?_
  rintro _ y3 ⟨v,rfl,h3⟩
  obtain ⟨n_g,n_o,n_n,n_c,n_e,rfl⟩:=dans_shape h3
  have hw3:=h3.below
  have n_D:=h3.num
  have H:=H.keeps hw3
  have r_k:=(hw3.block _ (Array.getElem?_eq_some_iff.1 r_k).1).trans r_k
  have x_k:=(hw3.block _ (Array.getElem?_eq_some_iff.1 x_k).1).trans x_k
  have x_D:=x_D.keeps hw3
  have y_k:=(hw3.block _ (Array.getElem?_eq_some_iff.1 y_k).1).trans y_k
  have y_D:=y_D.keeps hw3
  have hb3:=bel_trans hb3' hw3
  have r_k:=heap_past (.cells #[.bool n_g,.slice n_o n_n n_c,.int .i64 n_e] 35) r_k
  have k0:=blkC r_k 0 rfl
  have k1:=blkC r_k 1 rfl
  have k2:=blkC r_k 2 rfl
  have z0:=blkF r_k 0
  have z1:=blkF r_k 1
  have z2:=blkF r_k 2
  go_wp2
  refine bodyPost_ret (v:=.agg #[.bool n_g,.slice n_o n_n n_c,.int .i64 n_e]) (by simp [results,Tryd.results28,go_sem,k0,k1,k2]) rfl ⟨_,rfl,?_⟩
  exact dans_res3 (g:=w.heap.size) (dans_past h3 _) (by assumption) (Nat.le_refl _) hs0 _ _ _
structure NumC (w:World) (b o:Nat) (V:Int):Prop where
  x:∃ ng so sn sc e,w.cell? ⟨b,o,none⟩=some (.bool ng)∧w.cell? ⟨b,o+1,none⟩=some (.slice so sn sc)∧w.cell? ⟨b,o+2,none⟩=some (.int .i64 e)∧DNum w (.agg #[.bool ng,.slice so sn sc,.int .i64 e]) V
theorem numsC {w:World} {b off n c K:Nat} {V:Nat->Int} (h:∀ i,i<n->NumC w b (off+i*3) (V i)∧Bd K (V i)) (hK:K<=20000) (hn:n<=c) (hc:c<=9223372036854775807) :
    ∃ r,Nums w (some ⟨b,off,none⟩) n c r∧allOk r n=true∧∀ i,i<n->(r i).V=V i∧Half (r i):=by
  have hx:∀ i,i<n->∃ y:NumR,At3 w b (off+i*3) y∧okR y=true∧y.V=V i∧Half y:=fun i hi=>by
    obtain ⟨⟨ng,so,sn,sc,e,c0,c1,c2,hD⟩,hB⟩:=h i hi
    obtain ⟨d,hR,ok,hV⟩:=hD.open2 (hB.ok (by omega))
    refine ⟨⟨ng,so,sn,sc,d,e⟩,⟨c0,c1,c2,hR⟩,ok,hV,?_⟩
    have hy:=(okR_dy ok).1
    unfold Half
    rcases hy.form with ⟨_,_,h0⟩ | ⟨h0,_⟩
    . simp only at h0 ⊢; omega
    . rw [hV] at hy
      have:=bd_form hB hy (by omega) h0
      simp only at this ⊢
      omega
  have hr:∀ i,i<n->At3 w b (off+i*3) (if hi:i<n then Classical.choose (hx i hi) else default)∧okR (if hi:i<n then Classical.choose (hx i hi) else default)=true∧(if hi:i<n then Classical.choose (hx i hi) else default:NumR).V=V i∧Half (if hi:i<n then Classical.choose (hx i hi) else default):=fun i hi=>by
    rw [dif_pos hi]
    exact Classical.choose_spec (hx i hi)
  generalize hrr:(fun i=>(if hi:i<n then Classical.choose (hx i hi) else default:NumR))=r
  have hr2:∀ i,i<n->At3 w b (off+i*3) (r i)∧okR (r i)=true∧(r i).V=V i∧Half (r i):=fun i hi=>by rw [<- hrr]; exact hr i hi
  refine ⟨r,⟨hn,hc,fun h0=>⟨b,off,rfl,?_,fun i hi=>(hr2 i hi).1⟩⟩,decide_eq_true fun i hi=>(hr2 i hi).2.1,fun i hi=>(hr2 i hi).2.2⟩
  exact World.block_lt_of_cell? w _ (hr2 0 h0).1.c0
set_option maxRecDepth 100000 in
set_option maxHeartbeats 1000000 in
theorem sdot_any {w:World} {b off b' off' n c c' K:Nat} {V W:Nat->Int} (h:∀ i,i<n->NumC w b (off+i*3) (V i)∧Bd K (V i)) (h':∀ i,i<n->NumC w b' (off'+i*3) (W i)∧Bd K (W i)) (hK:K<=9000) (n10:n<=10) (hn:n<=c) (hc:c<=100) (hn':n<=c') (hc':c'<=100) (hT:Tab w) :
    Calls Tryd.prog 47 #[.slice (some ⟨b,off,none⟩) n c,.slice (some ⟨b',off',none⟩) n c'] w fun r w'=>∃ v D,r=.returned v∧DAns w w' D v∧D*2^4194304=sumF (fun i=>V i*W i) n∧Bd (2*K+n) D:=by
  obtain ⟨r,hN,hA,hr⟩:=numsC h (by omega) hn (by omega)
  obtain ⟨q,hN',hA',hq⟩:=numsC h' (by omega) hn' (by omega)
  have hb:=bd_dotV (by omega) n (by omega) (fun i hi=>⟨(hr i hi).1,(hr i hi).2,(h i hi).2⟩) (fun i hi=>⟨(hq i hi).1,(hq i hi).2,(h' i hi).2⟩)
  have CD:Hid (∀ W',Below w.heap.size w W'->Calls Tryd.prog 59 #[.slice (some ⟨b,off,none⟩) n c,.slice (some ⟨b',off',none⟩) n c'] W' fun x w'=>∃ v,x=.returned (.tuple #[v,.int .i64 0])∧DAns W' w' (dotV r q n) v):=fun W' hW=>by
    refine (ddot_ok _ _ n c c' r q W' (hN.keeps hW) (hN'.keeps hW) hA hA' (fun i hi=>(hr i hi).2) (fun i hi=>(hq i hi).2) (by omega) (hT.keeps hW)).mono ?_
    rintro z w' ⟨v,er,rfl,hF⟩
    obtain ⟨rfl,hD⟩:=hF.yes (hb.ok (by omega))
    exact ⟨v,rfl,hD⟩
  have hE:=dotV_F n (fun i hi=>⟨(hr i hi).1,(hr i hi).2⟩) (fun i hi=>⟨(hq i hi).1,(hq i hi).2⟩)
  generalize dotV r q n=D at *
  clear hN hN' hA hA' hr hq h h'
  have r_k:=heap_a1 w (.cells #[.bool false,.slice none 0 0,.int .i64 0] 35)
  have hb0:=bel_alloc w (.cells #[.bool false,.slice none 0 0,.int .i64 0] 35)
  go_enter Tryd.func47,Tryd.ntmps47
  go_wp2_with fail
  generalize w.alloc (.cells #[.bool false,.slice none 0 0,.int .i64 0] 35)=x0 at r_k hb0 ⊢
  have hs0:=(Array.getElem?_eq_some_iff.1 r_k).1
  refine (CD.out _ hb0).mono ?_
  rintro _ y1 ⟨v,rfl,h1⟩
  obtain ⟨n_g,n_o,n_n,n_c,n_e,rfl⟩:=dans_shape h1
  have r_k:=blk_us h1.below r_k
  have r_k:=heap_past (.cells #[.bool n_g,.slice n_o n_n n_c,.int .i64 n_e] 35) r_k
  have k0:=blkC r_k 0 rfl
  have k1:=blkC r_k 1 rfl
  have k2:=blkC r_k 2 rfl
  have z0:=blkF r_k 0
  have z1:=blkF r_k 1
  have z2:=blkF r_k 2
  go_wp2
  refine bodyPost_ret (v:=.agg #[.bool n_g,.slice n_o n_n n_c,.int .i64 n_e]) (by simp [results,Tryd.results47,go_sem,k0,k1,k2]) rfl ⟨_,D,rfl,?_,hE,hb⟩
  exact dans_res3 (g:=w.heap.size) (dans_past h1 _) hb0 (Nat.le_refl _) hs0 _ _ _
set_option maxRecDepth 100000 in
set_option maxHeartbeats 1000000 in
theorem sturn_any {w:World} {x_g:Bool} {x_o:Option Addr} {x_n x_c:Nat} {x_e A:Int} (hx:DNum w (.agg #[.bool x_g,.slice x_o x_n x_c,.int .i64 x_e]) A) (oA:Dok A) :
    Calls Tryd.prog 48 #[.agg #[.bool x_g,.slice x_o x_n x_c,.int .i64 x_e]] w fun r w'=>∃ v,r=.returned v∧DAns w w' (-A) v:=by
  have CD:Hid (∀ W',Below w.heap.size w W'->Calls Tryd.prog 60 #[.agg #[.bool x_g,.slice x_o x_n x_c,.int .i64 x_e]] W' fun x w'=>∃ v,x=.returned (.tuple #[v,.int .i64 0])∧DAns W' w' (-A) v):=fun W' hW=>neg_D (hx.keeps hW) oA
  clear hx
  have r_k:=heap_b2 w (.cells #[.bool x_g,.slice x_o x_n x_c,.int .i64 x_e] 35) (.cells #[.bool false,.slice none 0 0,.int .i64 0] 35)
  have hb0:=bel_alloc2 w (.cells #[.bool x_g,.slice x_o x_n x_c,.int .i64 x_e] 35) (.cells #[.bool false,.slice none 0 0,.int .i64 0] 35)
  go_enter Tryd.func48,Tryd.ntmps48
  go_wp2_with fail
  generalize (w.alloc (.cells #[.bool x_g,.slice x_o x_n x_c,.int .i64 x_e] 35)).alloc (.cells #[.bool false,.slice none 0 0,.int .i64 0] 35)=x0 at r_k hb0 ⊢
  have hs0:=(Array.getElem?_eq_some_iff.1 r_k).1
  refine (CD.out _ hb0).mono ?_
  rintro _ y1 ⟨v,rfl,h1⟩
  obtain ⟨n_g,n_o,n_n,n_c,n_e,rfl⟩:=dans_shape h1
  have r_k:=blk_us h1.below r_k
  have r_k:=heap_past (.cells #[.bool n_g,.slice n_o n_n n_c,.int .i64 n_e] 35) r_k
  have k0:=blkC r_k 0 rfl
  have k1:=blkC r_k 1 rfl
  have k2:=blkC r_k 2 rfl
  have z0:=blkF r_k 0
  have z1:=blkF r_k 1
  have z2:=blkF r_k 2
  go_wp2
  refine bodyPost_ret (v:=.agg #[.bool n_g,.slice n_o n_n n_c,.int .i64 n_e]) (by simp [results,Tryd.results48,go_sem,k0,k1,k2]) rfl ⟨_,rfl,?_⟩
  exact dans_res3 (g:=w.heap.size+1) (dans_past h1 _) hb0 (by omega) hs0 _ _ _
theorem numC_at {w:World} {g o:Nat} {xs:Array Value} {t:TypeId} {x_g:Bool} {x_o:Option Addr} {x_n x_c:Nat} {x_e V:Int} (h:w.heap[g]?=some (.cells xs t (0,0))) (a:xs[o]?=some (.bool x_g)) (b:xs[o+1]?=some (.slice x_o x_n x_c)) (c:xs[o+2]?=some (.int .i64 x_e)) (hD:DNum w (.agg #[.bool x_g,.slice x_o x_n x_c,.int .i64 x_e]) V):NumC w g o V :=
  ⟨⟨x_g,x_o,x_n,x_c,x_e,blkC h o a,blkC h (o+1) b,blkC h (o+2) c,hD⟩⟩
theorem alS {w W:World} (h:Below w.heap.size w W) (o:Obj):Below w.heap.size w (W.alloc o):=h.alloc h.size o
theorem heap_ad (w:World) (o:Obj):(w.alloc o).drew.heap[w.heap.size]?=some o:=heap_a1 w o
theorem alD {w W:World} (h:Below w.heap.size w W) (o:Obj):Below w.heap.size w (W.alloc o).drew:=(alS h o).drew
theorem cell_s3 {W:World} {p:Addr} {v:Value} (h:W.cell? p=some v) {g:Nat} (x y z:Value) (hg:p.block≠g):(((W.setCell ⟨g,0,none⟩ x).setCell ⟨g,1,none⟩ y).setCell ⟨g,2,none⟩ z).cell? p=some v :=
  ((wr3 W g 0 1 2 x y z).cell (World.block_lt_of_cell? W _ h) hg).trans h
def f2 (a b:Int) (i:Nat):Int:=if i=0 then a else b
set_option maxRecDepth 100000 in
set_option maxHeartbeats 4000000 in
theorem sminor_any {w:World} {p0_g:Bool} {p0_o:Option Addr} {p0_n p0_c:Nat} {p0_e:Int} {p1_g:Bool} {p1_o:Option Addr} {p1_n p1_c:Nat} {p1_e:Int} {p2_g:Bool} {p2_o:Option Addr} {p2_n p2_c:Nat} {p2_e:Int} {q0_g:Bool} {q0_o:Option Addr} {q0_n q0_c:Nat} {q0_e:Int} {q1_g:Bool} {q1_o:Option Addr} {q1_n q1_c:Nat} {q1_e:Int} {q2_g:Bool} {q2_o:Option Addr} {q2_n q2_c:Nat} {q2_e:Int} {A0 A1 B0 B1:Int} {K:Nat} (h0:DNum w (.agg #[.bool p0_g,.slice p0_o p0_n p0_c,.int .i64 p0_e]) A0) (h1:DNum w (.agg #[.bool p1_g,.slice p1_o p1_n p1_c,.int .i64 p1_e]) A1) (k0:DNum w (.agg #[.bool q0_g,.slice q0_o q0_n q0_c,.int .i64 q0_e]) B0) (k1:DNum w (.agg #[.bool q1_g,.slice q1_o q1_n q1_c,.int .i64 q1_e]) B1) (bA0:Bd K A0) (bA1:Bd K A1) (bB0:Bd K B0) (bB1:Bd K B1) (hK:K<=9000) (hT:Tab w) :
    Calls Tryd.prog 49 #[.agg #[.bool p0_g,.slice p0_o p0_n p0_c,.int .i64 p0_e,.bool p1_g,.slice p1_o p1_n p1_c,.int .i64 p1_e,.bool p2_g,.slice p2_o p2_n p2_c,.int .i64 p2_e],.agg #[.bool q0_g,.slice q0_o q0_n q0_c,.int .i64 q0_e,.bool q1_g,.slice q1_o q1_n q1_c,.int .i64 q1_e,.bool q2_g,.slice q2_o q2_n q2_c,.int .i64 q2_e]] w fun r w'=>∃ v D,r=.returned v∧DAns w w' D v∧D*2^4194304=A0*B1-B0*A1∧Bd (2*K+2) D:=by
  have CT:Hid (∀ W,Below w.heap.size w W->Calls Tryd.prog 48 #[.agg #[.bool q0_g,.slice q0_o q0_n q0_c,.int .i64 q0_e]] W fun r w'=>∃ v,r=.returned v∧DAns W w' (-B0) v):=fun W hW=>sturn_any (k0.keeps hW) (bB0.ok (by omega))
  have CD:Hid (∀ W g1 g2 n_g n_o n_n n_c n_e,Below w.heap.size w W->DNum W (.agg #[.bool n_g,.slice n_o n_n n_c,.int .i64 n_e]) (-B0)->W.heap[g1]?=some (.cells #[.bool p0_g,.slice p0_o p0_n p0_c,.int .i64 p0_e,.bool n_g,.slice n_o n_n n_c,.int .i64 n_e] 35 (0,0))->W.heap[g2]?=some (.cells #[.bool q1_g,.slice q1_o q1_n q1_c,.int .i64 q1_e,.bool p1_g,.slice p1_o p1_n p1_c,.int .i64 p1_e] 35 (0,0))->Calls Tryd.prog 47 #[.slice (some ⟨g1,0,none⟩) 2 2,.slice (some ⟨g2,0,none⟩) 2 2] W fun r w'=>∃ v D,r=.returned v∧DAns W w' D v∧D*2^4194304=A0*B1-B0*A1∧Bd (2*K+2) D):=fun W g1 g2 n_g n_o n_n n_c n_e hW hD e1 e2=>by
    refine (sdot_any (w:=W) (b:=g1) (off:=0) (b':=g2) (off':=0) (n:=2) (c:=2) (c':=2) (K:=K) (V:=f2 A0 (-B0)) (W:=f2 B1 A1) (fun i hi=>?_) (fun i hi=>?_) hK (by decide) (by decide) (by decide) (by decide) (by decide) (hT.keeps hW)).mono ?_
    . match i,hi with
      | 0,_=>exact ⟨numC_at e1 rfl rfl rfl (h0.keeps hW),bA0⟩
      | 1,_=>exact ⟨numC_at e1 rfl rfl rfl hD,bB0.neg⟩
    . match i,hi with
      | 0,_=>exact ⟨numC_at e2 rfl rfl rfl (k1.keeps hW),bB1⟩
      | 1,_=>exact ⟨numC_at e2 rfl rfl rfl (h1.keeps hW),bA1⟩
    . rintro _ w' ⟨v,D,rfl,hd,he,hb⟩
      refine ⟨v,D,rfl,hd,he.trans ?_,hb⟩
      show 0+A0*B1 + -B0*A1=A0*B1-B0*A1
      rw [Int.neg_mul]
      omega
  clear h0 h1 k0 k1 hT
  have hb0:=bel_a3 w (.cells #[.bool p0_g,.slice p0_o p0_n p0_c,.int .i64 p0_e,.bool p1_g,.slice p1_o p1_n p1_c,.int .i64 p1_e,.bool p2_g,.slice p2_o p2_n p2_c,.int .i64 p2_e] 62) (.cells #[.bool q0_g,.slice q0_o q0_n q0_c,.int .i64 q0_e,.bool q1_g,.slice q1_o q1_n q1_c,.int .i64 q1_e,.bool q2_g,.slice q2_o q2_n q2_c,.int .i64 q2_e] 62) (.cells #[.bool false,.slice none 0 0,.int .i64 0] 35)
  have p_k:=h3_0 w (.cells #[.bool p0_g,.slice p0_o p0_n p0_c,.int .i64 p0_e,.bool p1_g,.slice p1_o p1_n p1_c,.int .i64 p1_e,.bool p2_g,.slice p2_o p2_n p2_c,.int .i64 p2_e] 62) (.cells #[.bool q0_g,.slice q0_o q0_n q0_c,.int .i64 q0_e,.bool q1_g,.slice q1_o q1_n q1_c,.int .i64 q1_e,.bool q2_g,.slice q2_o q2_n q2_c,.int .i64 q2_e] 62) (.cells #[.bool false,.slice none 0 0,.int .i64 0] 35)
  have q_k:=h3_1 w (.cells #[.bool p0_g,.slice p0_o p0_n p0_c,.int .i64 p0_e,.bool p1_g,.slice p1_o p1_n p1_c,.int .i64 p1_e,.bool p2_g,.slice p2_o p2_n p2_c,.int .i64 p2_e] 62) (.cells #[.bool q0_g,.slice q0_o q0_n q0_c,.int .i64 q0_e,.bool q1_g,.slice q1_o q1_n q1_c,.int .i64 q1_e,.bool q2_g,.slice q2_o q2_n q2_c,.int .i64 q2_e] 62) (.cells #[.bool false,.slice none 0 0,.int .i64 0] 35)
  have r_k:=h3_2 w (.cells #[.bool p0_g,.slice p0_o p0_n p0_c,.int .i64 p0_e,.bool p1_g,.slice p1_o p1_n p1_c,.int .i64 p1_e,.bool p2_g,.slice p2_o p2_n p2_c,.int .i64 p2_e] 62) (.cells #[.bool q0_g,.slice q0_o q0_n q0_c,.int .i64 q0_e,.bool q1_g,.slice q1_o q1_n q1_c,.int .i64 q1_e,.bool q2_g,.slice q2_o q2_n q2_c,.int .i64 q2_e] 62) (.cells #[.bool false,.slice none 0 0,.int .i64 0] 35)
  go_enter Tryd.func49,Tryd.ntmps49
  go_wp2_with fail
  generalize ((w.alloc (.cells #[.bool p0_g,.slice p0_o p0_n p0_c,.int .i64 p0_e,.bool p1_g,.slice p1_o p1_n p1_c,.int .i64 p1_e,.bool p2_g,.slice p2_o p2_n p2_c,.int .i64 p2_e] 62)).alloc (.cells #[.bool q0_g,.slice q0_o q0_n q0_c,.int .i64 q0_e,.bool q1_g,.slice q1_o q1_n q1_c,.int .i64 q1_e,.bool q2_g,.slice q2_o q2_n q2_c,.int .i64 q2_e] 62)).alloc (.cells #[.bool false,.slice none 0 0,.int .i64 0] 35)=x3 at hb0 p_k q_k r_k ⊢
  have hs0:=(Array.getElem?_eq_some_iff.1 r_k).1
  have KK:∀ W,Below x3.heap.size x3 W->W.cell? ⟨w.heap.size,0,none⟩=some (.bool p0_g)∧W.cell? ⟨w.heap.size,1,none⟩=some (.slice p0_o p0_n p0_c)∧W.cell? ⟨w.heap.size,2,none⟩=some (.int .i64 p0_e)∧W.cell? ⟨w.heap.size,3,none⟩=some (.bool p1_g)∧W.cell? ⟨w.heap.size,4,none⟩=some (.slice p1_o p1_n p1_c)∧W.cell? ⟨w.heap.size,5,none⟩=some (.int .i64 p1_e)∧W.cell? ⟨w.heap.size+1,0,none⟩=some (.bool q0_g)∧W.cell? ⟨w.heap.size+1,1,none⟩=some (.slice q0_o q0_n q0_c)∧W.cell? ⟨w.heap.size+1,2,none⟩=some (.int .i64 q0_e)∧W.cell? ⟨w.heap.size+1,3,none⟩=some (.bool q1_g)∧W.cell? ⟨w.heap.size+1,4,none⟩=some (.slice q1_o q1_n q1_c)∧W.cell? ⟨w.heap.size+1,5,none⟩=some (.int .i64 q1_e):=fun W hb=>⟨q_cell (blkC p_k 0 rfl) hb,q_cell (blkC p_k 1 rfl) hb,q_cell (blkC p_k 2 rfl) hb,q_cell (blkC p_k 3 rfl) hb,q_cell (blkC p_k 4 rfl) hb,q_cell (blkC p_k 5 rfl) hb,q_cell (blkC q_k 0 rfl) hb,q_cell (blkC q_k 1 rfl) hb,q_cell (blkC q_k 2 rfl) hb,q_cell (blkC q_k 3 rfl) hb,q_cell (blkC q_k 4 rfl) hb,q_cell (blkC q_k 5 rfl) hb⟩
  have KN:∀ W a b c,Below x3.heap.size x3 W->(((W.setCell ⟨w.heap.size+2,0,none⟩ a).setCell ⟨w.heap.size+2,1,none⟩ b).setCell ⟨w.heap.size+2,2,none⟩ c).cell? ⟨w.heap.size,0,none⟩=some (.bool p0_g)∧(((W.setCell ⟨w.heap.size+2,0,none⟩ a).setCell ⟨w.heap.size+2,1,none⟩ b).setCell ⟨w.heap.size+2,2,none⟩ c).cell? ⟨w.heap.size,1,none⟩=some (.slice p0_o p0_n p0_c)∧(((W.setCell ⟨w.heap.size+2,0,none⟩ a).setCell ⟨w.heap.size+2,1,none⟩ b).setCell ⟨w.heap.size+2,2,none⟩ c).cell? ⟨w.heap.size,2,none⟩=some (.int .i64 p0_e)∧(((W.setCell ⟨w.heap.size+2,0,none⟩ a).setCell ⟨w.heap.size+2,1,none⟩ b).setCell ⟨w.heap.size+2,2,none⟩ c).cell? ⟨w.heap.size,3,none⟩=some (.bool p1_g)∧(((W.setCell ⟨w.heap.size+2,0,none⟩ a).setCell ⟨w.heap.size+2,1,none⟩ b).setCell ⟨w.heap.size+2,2,none⟩ c).cell? ⟨w.heap.size,4,none⟩=some (.slice p1_o p1_n p1_c)∧(((W.setCell ⟨w.heap.size+2,0,none⟩ a).setCell ⟨w.heap.size+2,1,none⟩ b).setCell ⟨w.heap.size+2,2,none⟩ c).cell? ⟨w.heap.size,5,none⟩=some (.int .i64 p1_e)∧(((W.setCell ⟨w.heap.size+2,0,none⟩ a).setCell ⟨w.heap.size+2,1,none⟩ b).setCell ⟨w.heap.size+2,2,none⟩ c).cell? ⟨w.heap.size+1,0,none⟩=some (.bool q0_g)∧(((W.setCell ⟨w.heap.size+2,0,none⟩ a).setCell ⟨w.heap.size+2,1,none⟩ b).setCell ⟨w.heap.size+2,2,none⟩ c).cell? ⟨w.heap.size+1,1,none⟩=some (.slice q0_o q0_n q0_c)∧(((W.setCell ⟨w.heap.size+2,0,none⟩ a).setCell ⟨w.heap.size+2,1,none⟩ b).setCell ⟨w.heap.size+2,2,none⟩ c).cell? ⟨w.heap.size+1,2,none⟩=some (.int .i64 q0_e)∧(((W.setCell ⟨w.heap.size+2,0,none⟩ a).setCell ⟨w.heap.size+2,1,none⟩ b).setCell ⟨w.heap.size+2,2,none⟩ c).cell? ⟨w.heap.size+1,3,none⟩=some (.bool q1_g)∧(((W.setCell ⟨w.heap.size+2,0,none⟩ a).setCell ⟨w.heap.size+2,1,none⟩ b).setCell ⟨w.heap.size+2,2,none⟩ c).cell? ⟨w.heap.size+1,4,none⟩=some (.slice q1_o q1_n q1_c)∧(((W.setCell ⟨w.heap.size+2,0,none⟩ a).setCell ⟨w.heap.size+2,1,none⟩ b).setCell ⟨w.heap.size+2,2,none⟩ c).cell? ⟨w.heap.size+1,5,none⟩=some (.int .i64 q1_e):=fun W a b c hb=>⟨cell_s3 (KK W hb).1 a b c (show w.heap.size≠w.heap.size+2 by omega),cell_s3 (KK W hb).2.1 a b c (show w.heap.size≠w.heap.size+2 by omega),cell_s3 (KK W hb).2.2.1 a b c (show w.heap.size≠w.heap.size+2 by omega),cell_s3 (KK W hb).2.2.2.1 a b c (show w.heap.size≠w.heap.size+2 by omega),cell_s3 (KK W hb).2.2.2.2.1 a b c (show w.heap.size≠w.heap.size+2 by omega),cell_s3 (KK W hb).2.2.2.2.2.1 a b c (show w.heap.size≠w.heap.size+2 by omega),cell_s3 (KK W hb).2.2.2.2.2.2.1 a b c (show w.heap.size+1≠w.heap.size+2 by omega),cell_s3 (KK W hb).2.2.2.2.2.2.2.1 a b c (show w.heap.size+1≠w.heap.size+2 by omega),cell_s3 (KK W hb).2.2.2.2.2.2.2.2.1 a b c (show w.heap.size+1≠w.heap.size+2 by omega),cell_s3 (KK W hb).2.2.2.2.2.2.2.2.2.1 a b c (show w.heap.size+1≠w.heap.size+2 by omega),cell_s3 (KK W hb).2.2.2.2.2.2.2.2.2.2.1 a b c (show w.heap.size+1≠w.heap.size+2 by omega),cell_s3 (KK W hb).2.2.2.2.2.2.2.2.2.2.2 a b c (show w.heap.size+1≠w.heap.size+2 by omega)⟩
  have hR0:=bel_refl x3
  have hC0:=(bel_refl x3).drew
  go_region_held3 (fun W=>W.cell? ⟨w.heap.size,0,none⟩=some (.bool p0_g)∧W.cell? ⟨w.heap.size,1,none⟩=some (.slice p0_o p0_n p0_c)∧W.cell? ⟨w.heap.size,2,none⟩=some (.int .i64 p0_e)∧W.cell? ⟨w.heap.size,3,none⟩=some (.bool p1_g)∧W.cell? ⟨w.heap.size,4,none⟩=some (.slice p1_o p1_n p1_c)∧W.cell? ⟨w.heap.size,5,none⟩=some (.int .i64 p1_e)∧W.cell? ⟨w.heap.size+1,0,none⟩=some (.bool q0_g)∧W.cell? ⟨w.heap.size+1,1,none⟩=some (.slice q0_o q0_n q0_c)∧W.cell? ⟨w.heap.size+1,2,none⟩=some (.int .i64 q0_e)∧W.cell? ⟨w.heap.size+1,3,none⟩=some (.bool q1_g)∧W.cell? ⟨w.heap.size+1,4,none⟩=some (.slice q1_o q1_n q1_c)∧W.cell? ⟨w.heap.size+1,5,none⟩=some (.int .i64 q1_e))
    (with_reducible first | assumption | exact KK _ hC0 | exact KK _ (alS hC0 _) | exact KK _ (alD hR0 _) | exact KK _ hC1 | exact KK _ (alS hC1 _) | exact KK _ (alS (alS hC1 _) _) | exact KK _ hC2 | exact KN _ _ _ _ hC2 | fail)
    (first | (go_at_call 47; refine (CD.out _ _ _ n_g n_o n_n n_c n_e (bel_trans hb0 (by with_reducible first | exact alS hC1 _ | exact alS (alS hC1 _) _)) (nD.keeps (by with_reducible first | exact bel_alloc _ _ | exact bel_alloc2 _ _ _)) (by with_reducible first | exact heap_a1 _ _ | exact heap_a2 _ _ _ | exact heap_b2 _ _ _) (by with_reducible first | exact heap_past _ (blk_us hq (heap_ad _ _)) | exact heap_a2 _ _ _ | exact heap_b2 _ _ _)).mono ?_; rintro _ y2 ⟨v,D,rfl,hd,he,hbd⟩; obtain ⟨v_g,v_o,v_n,v_c,v_e,rfl⟩:=dans_shape hd; have hC2:=bel_trans (by with_reducible first | exact alS hC1 _ | exact alS (alS hC1 _) _) hd.below; have dA:=DAns.from hd (by with_reducible first | exact alS hC1 _ | exact alS (alS hC1 _) _); have r_k2:=blk_us hC2 r_k; have a0:=blkC r_k2 0 rfl; have a1:=blkC r_k2 1 rfl; have a2:=blkC r_k2 2 rfl; have z0:=blkF r_k2 0; have z1:=blkF r_k2 1; have z2:=blkF r_k2 2) | (go_at_call 48; refine (CT.out _ (bel_trans hb0 (by with_reducible first | exact hC0 | exact alD hR0 _))).mono ?_; rintro _ y1 ⟨vn,rfl,hn⟩; obtain ⟨n_g,n_o,n_n,n_c,n_e,rfl⟩:=dans_shape hn; have hq:=hn.below; have nD:=hn.num; have hC1:=bel_trans (by with_reducible first | exact hC0 | exact alD hR0 _) hq))
  all_goals
    go_wp2
    refine bodyPost_ret (v:=.agg #[.bool v_g,.slice v_o v_n v_c,.int .i64 v_e]) (by simp [results,Tryd.results49,go_sem,a0,a1,a2]) rfl ⟨_,D,rfl,?_,he,hbd⟩
    exact dans_res3 (g:=w.heap.size+2) dA hb0 (by omega) hs0 _ _ _
end Go.Proofs.YtobofhgpidbpmaaDoor
