/- Parts of the proof. -/
import Derived.Test.YtcklaogdjpbagaaGreatDoorSp12
import Derived.BigQuiet
import Derived.Laws.Rows
import Derived.Laws.Tables
import Derived.Test.YtcklaogdjpbagaaGreatDoorSp7
import Derived.Test.YtcklaogdjpbagaaGreatDoorSp5
import Derived.Maps.AppendAt
import Derived.Laws.AppendOwnNone
import Derived.Test.YtcklaogdjpbagaaGreatDoorSp6
set_option maxRecDepth 100000
set_option maxHeartbeats 8000000
set_option linter.unusedVariables false
set_option linter.unusedSimpArgs false
namespace Go.Proofs.YtcklaogdjpbagaaGreatDoor
open Go Go.RowKit Go.Proofs.YtcklaogdjpbagaaGreatDoor.M
theorem am {w W:World} (h:Below w.heap.size w W) {g:Nat} {X:Obj} (k:w.heap[g]?=some X):W.heap[g]?=some X:=(h.block _ (aGe k).1).trans k
structure gx (arr:Array Value) (u:Nat->Nat->Int):Prop where
 n:arr.size=44
 o:arr.all (·.oneCell')=true
 l:∀ p,p<4->∀ k,k<3->arr[p*3+k]?=some (.float .f64 (wd (u p k)))
 m:∀ p,p<4->∀ q,q<4->p≠q->arr[12+p*8+q*2]?=some (.float .f64 (wd (mn u p q)))
 s:∀ p,p<4->∀ q,q<4->p≠q->arr[12+p*8+q*2+1]?=some (.float .f64 (wd (sz u p q)))
def Lf (u:Nat->Nat->Int):Prop:=∀ p,p<4->∀ k,k<3->Fx 872 1226 (u p k)
theorem Lf.lg {u:Nat->Nat->Int} (h:Lf u) {p:Nat} (hp:p<4):Lg (fun p k=>iV (u p k)) u p:=⟨fun k hk=>h p hp k hk,fun k hk=>by unfold Un;rw[Int.sub_self];simp⟩
theorem cX {a b c d:Nat} {x y:Int} (hx:Fx a b x) (hy:Fx c d y) (hz:aF (ay x y)=true):∀ W,(binOp .mul 54 (.float .f64 (wd x)) (.float .f64 (wd y))).run Tryz.prog W=.ok (.float .f64 (wd (ay x y))) W:=fun W=>iJ _ (mB hx) (mB hy) (cr hz) W
theorem ew {a b c d:Nat} {x y:Int} (hx:Fx a b x) (hy:Fx c d y) (hz:aF (aE x y)=true):∀ W,(binOp .add 54 (.float .f64 (wd x)) (.float .f64 (wd y))).run Tryz.prog W=.ok (.float .f64 (wd (aE x y))) W:=fun W=>zg _ (mB hx) (mB hy) (cr hz) W
theorem kt {a b c d:Nat} {x y:Int} (hx:Fx a b x) (hy:Fx c d y) (hz:aF (aE x (neg y))=true):∀ W,(binOp .sub 54 (.float .f64 (wd x)) (.float .f64 (wd y))).run Tryz.prog W=.ok (.float .f64 (wd (aE x (neg y)))) W:=fun W=>pZ _ (mB hx) (mB hy) (cr hz) W
theorem jF {u:Nat->Nat->Int} (hL:Lf u) {p q r:Nat} (hp:p<4) (hq:q<4) (hr:r<4) (pq:p≠q) (pr:p≠r) (qr:q≠r) {arr:Array Value} (hA:gx arr u) (g:Nat) (w:World) (hg:w.heap[g]?=some (.cells arr 103 (0,0))) :
  Calls Tryz.prog 67 #[.pointer (some ⟨g,0,none⟩),.int .i64 p,.int .i64 q,.int .i64 r] w fun e w'=>e=.returned (.float .f64 (wd (dt u p q r)))∧Below w.heap.size w w':=by
 have gp:=hL.lg hp
 have gq:=hL.lg hq
 have gr:=hL.lg hr
 have m1:=(mC gq gr).1
 have m2:=(mC gp gr).1
 have m3:=(mC gp gq).1
 have t1:=(mD gp gq gr).1
 have t2:=(mD gq gp gr).1
 have t3:=(mD gr gp gq).1
 obtain⟨s1,-⟩:=t1.sum t2.neg.1 (by decide)
 have h1:=cX (gp.f 2 (by decide)) m1 t1.p
 have h2:=cX (gq.f 2 (by decide)) m2 t2.p
 have h3:=cX (gr.f 2 (by decide)) m3 t3.p
 have h4:=kt t1 t2 s1.p
 have h5:=ew s1 t3 (gz gp gq gr).1.p
 have c1:=af hg _ (hA.l p hp 2 (by decide))
 have c2:=af hg _ (hA.l q hq 2 (by decide))
 have c3:=af hg _ (hA.l r hr 2 (by decide))
 have c4:=af hg _ (hA.m q hq r hr qr)
 have c5:=af hg _ (hA.m p hp r hr pr)
 have c6:=af hg _ (hA.m p hp q hq pq)
 have p3:(p:Int)<4:=by omega
 have q3:(q:Int)<4:=by omega
 have r3:(r:Int)<4:=by omega
 unfold dt
 clear gp gq gr m1 m2 m3 t1 t2 t3 s1 hL hA hg
 generalize aE (aE (ay (u p 2) (mn u q r)) (neg (ay (u q 2) (mn u p r)))) (ay (u r 2) (mn u p q))=D at *
 generalize aE (ay (u p 2) (mn u q r)) (neg (ay (u q 2) (mn u p r)))=S at *
 generalize ay (u p 2) (mn u q r)=A at *
 generalize ay (u q 2) (mn u p r)=B at *
 generalize ay (u r 2) (mn u p q)=C at *
 generalize mn u q r=x1 at *
 generalize mn u p r=x2 at *
 generalize mn u p q=x3 at *
 go_enter Tryz.func67,Tryz.ntmps67
 go_wp2_with fail
 go_quiet (fail)
 go_wp2_with fail
 have hd:=aN (ak w) nq
 replace c2:=aj c2 hd
 replace c3:=aj c3 hd
 replace c5:=aj c5 hd
 replace c6:=aj c6 hd
 clear c1 c4
 generalize w.drewN nq=w1 at *
 go_quiet (fail)
 go_wp2_with fail
 have hd2:=aN (ak w1) nq
 replace c3:=aj c3 hd2
 replace c6:=aj c6 hd2
 clear c2 c5
 generalize w1.drewN nq=w2 at *
 go_quiet (fail)
 go_wp2
 go_ret
 exact⟨rfl,ac (ac hd hd2) (aN (ak w2) _)⟩
theorem iK {u:Nat->Nat->Int} (hL:Lf u) {p q r:Nat} (hp:p<4) (hq:q<4) (hr:r<4) (pq:p≠q) (pr:p≠r) (qr:q≠r) {arr:Array Value} (hA:gx arr u) (g:Nat) (w:World) (hg:w.heap[g]?=some (.cells arr 103 (0,0))) :
  Calls Tryz.prog 68 #[.pointer (some ⟨g,0,none⟩),.int .i64 p,.int .i64 q,.int .i64 r] w fun e w'=>e=.returned (.float .f64 (wd (cw u p q r)))∧Below w.heap.size w w':=by
 have gp:=hL.lg hp
 have gq:=hL.lg hq
 have gr:=hL.lg hr
 have m1:=(oc gq gr).1
 have m2:=(oc gr gp).1
 have m3:=(oc gp gq).1
 have t1:=(mE gp gq gr).1
 have t2:=(mE gq gr gp).1
 have t3:=(mE gr gp gq).1
 obtain⟨s1,-⟩:=t1.sum t2 (by decide)
 have h1:=cX m1 (gp.f 2 (by decide)).abs.1 t1.p
 have h2:=cX m2 (gq.f 2 (by decide)).abs.1 t2.p
 have h3:=cX m3 (gr.f 2 (by decide)).abs.1 t3.p
 have h4:=ew t1 t2 s1.p
 have h5:=ew s1 t3 (fT gp gq gr).1.p
 have a1:Hid (∀ W,Calls Tryz.prog 43 #[.float .f64 (wd (u p 2))] W fun e w'=>e=.returned (.float .f64 (wd (rg (u p 2))))∧w'=W):=fun W=>cW (gp.f 2 (by decide)).r W
 have a2:Hid (∀ W,Calls Tryz.prog 43 #[.float .f64 (wd (u q 2))] W fun e w'=>e=.returned (.float .f64 (wd (rg (u q 2))))∧w'=W):=fun W=>cW (gq.f 2 (by decide)).r W
 have a3:Hid (∀ W,Calls Tryz.prog 43 #[.float .f64 (wd (u r 2))] W fun e w'=>e=.returned (.float .f64 (wd (rg (u r 2))))∧w'=W):=fun W=>cW (gr.f 2 (by decide)).r W
 have c1:=af hg _ (hA.l p hp 2 (by decide))
 have c2:=af hg _ (hA.l q hq 2 (by decide))
 have c3:=af hg _ (hA.l r hr 2 (by decide))
 have c4:=af hg _ (hA.s q hq r hr qr)
 have c5:=af hg _ (hA.s r hr p hp (Ne.symm pr))
 have c6:=af hg _ (hA.s p hp q hq pq)
 have p3:(p:Int)<4:=by omega
 have q3:(q:Int)<4:=by omega
 have r3:(r:Int)<4:=by omega
 unfold cw
 clear gp gq gr m1 m2 m3 t1 t2 t3 s1 hL hA hg
 generalize aE (aE (ay (sz u q r) (rg (u p 2))) (ay (sz u r p) (rg (u q 2)))) (ay (sz u p q) (rg (u r 2)))=D at *
 generalize aE (ay (sz u q r) (rg (u p 2))) (ay (sz u r p) (rg (u q 2)))=S at *
 generalize ay (sz u q r) (rg (u p 2))=A at *
 generalize ay (sz u r p) (rg (u q 2))=B at *
 generalize ay (sz u p q) (rg (u r 2))=C at *
 generalize sz u q r=x1 at *
 generalize sz u r p=x2 at *
 generalize sz u p q=x3 at *
 generalize rg (u p 2)=y1 at *
 generalize rg (u q 2)=y2 at *
 generalize rg (u r 2)=y3 at *
 go_enter Tryz.func68,Tryz.ntmps68
 go_wp2_with fail
 go_quiet (first|(go_at_call 43;with_reducible exact Calls.quiet_of_same (a1.out _)))
 go_wp2_with fail
 have hd:=aN (ak w) nq
 replace c2:=aj c2 hd
 replace c3:=aj c3 hd
 replace c5:=aj c5 hd
 replace c6:=aj c6 hd
 clear c1 c4
 generalize w.drewN nq=w1 at *
 go_quiet (first|(go_at_call 43;with_reducible exact Calls.quiet_of_same (a2.out _)))
 go_wp2_with fail
 have hd2:=aN (ak w1) nq
 replace c3:=aj c3 hd2
 replace c6:=aj c6 hd2
 clear c2 c5
 generalize w1.drewN nq=w2 at *
 go_quiet (first|(go_at_call 43;with_reducible exact Calls.quiet_of_same (a3.out _)))
 go_wp2
 go_ret
 exact⟨rfl,ac (ac hd hd2) (aN (ak w2) _)⟩
theorem zl:wd 0=0:=by decide
theorem jT {u:Nat->Nat->Int} (hL:Lf u) {p:Nat} (hp:p<4) {arr:Array Value} (hA:gx arr u) (g:Nat) (w:World) (hg:w.heap[g]?=some (.cells arr 103 (0,0))) :
  Calls Tryz.prog 88 #[.pointer (some ⟨g,0,none⟩),.int .i64 p] w fun e w'=>e=.returned (.float .f64 (wd (lf u p)))∧Below w.heap.size w w':=by
 have gp:=hL.lg hp
 obtain⟨f0,-,-⟩:=jb gp 0 (by decide)
 obtain⟨f1,-,-⟩:=jb gp 1 (by decide)
 obtain⟨f2,-,-⟩:=jb gp 2 (by decide)
 obtain⟨s0,-⟩:=jm f0 (by decide)
 obtain⟨s1,-⟩:=s0.sum f1 (by decide)
 have h0:=cX (gp.f 0 (by decide)) (gp.f 0 (by decide)) f0.p
 have h1:=cX (gp.f 1 (by decide)) (gp.f 1 (by decide)) f1.p
 have h2:=cX (gp.f 2 (by decide)) (gp.f 2 (by decide)) f2.p
 have k0:=ew (fE (a:=0) (b:=0)) f0 s0.p
 have k1:=ew s0 f1 s1.p
 have k2:=ew s1 f2 (jc gp).1.p
 have c0:=af hg _ (hA.l p hp 0 (by decide))
 have c1:=af hg _ (hA.l p hp 1 (by decide))
 have c2:=af hg _ (hA.l p hp 2 (by decide))
 have p3:(p:Int)<4:=by omega
 rw[zl] at k0
 rw[Nat.add_zero] at c0
 unfold lf
 clear gp f0 f1 f2 s0 s1 hL hA hg
 generalize aE (aE (aE 0 (ay (u p 0) (u p 0))) (ay (u p 1) (u p 1))) (ay (u p 2) (u p 2))=D at *
 generalize aE (aE 0 (ay (u p 0) (u p 0))) (ay (u p 1) (u p 1))=C at *
 generalize aE 0 (ay (u p 0) (u p 0))=B at *
 generalize ay (u p 0) (u p 0)=q0 at *
 generalize ay (u p 1) (u p 1)=q1 at *
 generalize ay (u p 2) (u p 2)=q2 at *
 generalize u p 0=x0 at *
 generalize u p 1=x1 at *
 generalize u p 2=x2 at *
 have i0:∀ w,(Instr.index 80 (.agg #[.float .f64 (wd x0),.float .f64 (wd x1),.float .f64 (wd x2)]) (.int .i64 0)).run Tryz.prog w=.ok (.float .f64 (wd x0)) w:=fun _=>by kernel_rfl
 have i1:∀ w,(Instr.index 80 (.agg #[.float .f64 (wd x0),.float .f64 (wd x1),.float .f64 (wd x2)]) (.int .i64 1)).run Tryz.prog w=.ok (.float .f64 (wd x1)) w:=fun _=>by kernel_rfl
 have i2:∀ w,(Instr.index 80 (.agg #[.float .f64 (wd x0),.float .f64 (wd x1),.float .f64 (wd x2)]) (.int .i64 2)).run Tryz.prog w=.ok (.float .f64 (wd x2)) w:=fun _=>by kernel_rfl
 go_enter Tryz.func88,Tryz.ntmps88
 go_wp2_with fail
 clear c0 c1 c2
 go_loopw [14,5] (fun i x wr=>Hid (wr=w)∧((i=.int .i64 0∧x=.float .f64 0)∨(i=.int .i64 1∧x=.float .f64 (wd B))∨(i=.int .i64 2∧x=.float .f64 (wd C))∨(i=.int .i64 3∧x=.float .f64 (wd D)))) (fun i _ _=>3-(intOf i).toNat)
 case atStart=>exact⟨rfl,.inl ⟨rfl,rfl⟩⟩
 case round=>
  obtain⟨HW,hrel⟩:=hrel
  obtain rfl:=HW.out
  rcases hrel with⟨rfl,rfl⟩|⟨rfl,rfl⟩|⟨rfl,rfl⟩|⟨rfl,rfl⟩
  ·go_wp2
   go_roundw
   case rel=>exact⟨fO trivial,.inr (.inl ⟨by go_num,rfl⟩)⟩
   case measure=>simp[intOf]
  ·go_wp2
   go_roundw
   case rel=>exact⟨fO trivial,.inr (.inr (.inl ⟨by go_num,rfl⟩))⟩
   case measure=>simp[intOf]
  ·go_wp2
   go_roundw
   case rel=>exact⟨fO trivial,.inr (.inr (.inr ⟨by go_num,rfl⟩))⟩
   case measure=>simp[intOf]
  ·go_wp2
   go_ret
   exact⟨rfl,ak _⟩
def EI (v:Value) (x y:Nat):Prop:=∀ g,v.ownBlock=some g->x<=g∧g<y
theorem vg (ng:Bool) (ao:Option Addr) (n cap:Nat) (e:Int) (w:World) (hm:n<=9223372036854775807) :
  Calls Tryz.prog 50 #[.agg #[.bool ng,.slice ao n cap,.int .i64 e]] w fun r w'=>r=.returned (.int .i64 (sgn ng n))∧Below w.heap.size w w':=by
 by_cases h0:n=0
 ·subst h0
  go_enter Tryz.func50,Tryz.ntmps50
  go_wp2
  go_ret
  exact⟨rfl,ah _ _⟩
 ·have hn0:((n:Int) == 0)=false:=by simp;omega
  cases ng
  ·go_enter Tryz.func50,Tryz.ntmps50
   go_wp2
   go_ret
   exact⟨cx (by simp[sgn,h0]),ah _ _⟩
  ·go_enter Tryz.func50,Tryz.ntmps50
   go_wp2
   go_ret
   exact⟨cx (by simp[sgn,h0]),ah _ _⟩
def aG.opp (x:aG):aG:=⟨if x.n=0 then x.ng else !x.ng,x.ao,x.n,x.cap,x.d,x.e⟩
theorem qd (x:aG) (w:World) (hm:x.n<=9223372036854775807) :
  Calls Tryz.prog 91 #[x.v] w fun r w'=>r=.returned x.opp.v∧Below w.heap.size w w':=by
 obtain⟨ng,ao,n,cap,d,e⟩:=x
 unfold aG.v aG.opp
 simp only at *
 by_cases h0:n=0
 ·subst h0
  go_enter Tryz.func91,Tryz.ntmps91
  go_wp2
  refine bodyPost_ret (v:=.agg #[.bool ng,.slice ao 0 cap,.int .i64 e]) (by simp[results,Tryz.results91,go_sem]) rfl ⟨rfl,?_⟩
  exact aO _ _ _
 ·have hn0:(0:Int)<n:=by omega
  rw[if_neg h0]
  go_enter Tryz.func91,Tryz.ntmps91
  go_wp2
  refine bodyPost_ret (v:=.agg #[.bool (!ng),.slice ao n cap,.int .i64 e]) (by simp[results,Tryz.results91,go_sem]) rfl ⟨rfl,?_⟩
  exact aO _ _ _
def Cs (w w':World) (V:Int) (v:Value) (er:Int):Prop:=gE w w' V v er
theorem Cs.shape {w w':World} {V er:Int} {v:Value} (h:Cs w w' V v er):∃ ng so sn sc e,v=.agg #[.bool ng,.slice so sn sc,.int .i64 e]:=by
 exact gE.shape h
def bH (B:Nat) (w:World) (V:Int) (v:Value):Prop:=∃ ng s m e,v=.agg #[.bool ng,s,.int .i64 e]∧Dy V ng m e∧An B w s m
def gj (B:Nat) (w:World) (V:Int) (v:Value) (er:Int):Prop:=(de V∧er=0∧bH B w V v)∨(¬ de V∧er=2∧v=dN)
theorem aX.dan {w w':World} {V:Int} {v:Value} (h:aX w w' V v):bH w.heap.size w' V v:=by
 obtain⟨ng,s,m,e,h1,h2,h3⟩:=h
 exact⟨ng,s,m,e,h1,h2,h3.an⟩
theorem An.wr {B:Nat} {w w':World} {v:Value} {V:Int} {g:Nat} (h:An B w v V) (hw:Wr g w w') (hg:g<B):An B w' v V:=by
 obtain⟨t,d,h1,h2⟩:=h
 exact⟨t,d,h1.of_block fun g' hg'=>hw.block g' (h1.ge hg').2 (by have:=(h1.ge hg').1;omega),h2⟩
theorem bH.wr {B:Nat} {w w':World} {v:Value} {V:Int} {g:Nat} (h:bH B w V v) (hw:Wr g w w') (hg:g<B):bH B w' V v:=by
 obtain⟨ng,s,m,e,h1,h2,h3⟩:=h
 exact⟨ng,s,m,e,h1,h2,h3.wr hw hg⟩
theorem bH.keeps {B:Nat} {w w':World} {v:Value} {V:Int} (h:bH B w V v) (k:Below w.heap.size w w'):bH B w' V v:=by
 obtain⟨ng,s,m,e,h1,h2,h3⟩:=h
 exact⟨ng,s,m,e,h1,h2,h3.keeps k⟩
theorem bH.lower {B B':Nat} {w:World} {v:Value} {V:Int} (h:bH B w V v) (hB:B'<=B):bH B' w V v:=by
 obtain⟨ng,s,m,e,h1,h2,h3⟩:=h
 exact⟨ng,s,m,e,h1,h2,h3.lower hB⟩
theorem bH.num {B:Nat} {w:World} {v:Value} {V:Int} (h:bH B w V v):aR w v V:=by
 obtain⟨ng,s,m,e,h1,h2,h3⟩:=h
 exact⟨ng,s,m,e,h1,h2,h3.num⟩
theorem gj.wr {B:Nat} {w w':World} {v:Value} {V er:Int} {g:Nat} (h:gj B w V v er) (hw:Wr g w w') (hg:g<B):gj B w' V v er:=by
 rcases h with⟨h1,h2,h3⟩|h
 ·exact .inl ⟨h1,h2,h3.wr hw hg⟩
 ·exact .inr h
theorem gj.keeps {B:Nat} {w w':World} {v:Value} {V er:Int} (h:gj B w V v er) (k:Below w.heap.size w w'):gj B w' V v er:=by
 rcases h with⟨h1,h2,h3⟩|h
 ·exact .inl ⟨h1,h2,h3.keeps k⟩
 ·exact .inr h
theorem gj.lower {B B':Nat} {w:World} {v:Value} {V er:Int} (h:gj B w V v er) (hB:B'<=B):gj B' w V v er:=by
 rcases h with⟨h1,h2,h3⟩|h
 ·exact .inl ⟨h1,h2,h3.lower hB⟩
 ·exact .inr h
theorem gj.shape {B:Nat} {w:World} {v:Value} {V er:Int} (h:gj B w V v er):∃ ng so sn sc e,v=.agg #[.bool ng,.slice so sn sc,.int .i64 e]:=by
 rcases h with⟨_,_,ng,s,m,e,h1,_,h3⟩|⟨_,_,rfl⟩
 ·obtain⟨so,sn,sc,rfl⟩:=h3.shape
  exact⟨_,_,_,_,_,h1⟩
 ·exact⟨_,_,_,_,_,rfl⟩
theorem gj.ge {B:Nat} {w:World} {ng:Bool} {so:Option Addr} {sn sc:Nat} {e V er:Int} (h:gj B w V (.agg #[.bool ng,.slice so sn sc,.int .i64 e]) er):EI (.slice so sn sc) B w.heap.size:=by
 intro g hg
 rcases h with⟨_,_,ng',s,m,e',h1,_,h3⟩|⟨_,_,h1⟩
 ·simp only[Value.agg.injEq,Array.mk.injEq,List.cons.injEq,Value.bool.injEq,Value.int.injEq,and_true,true_and] at h1
  obtain⟨_,h1,_⟩:=h1
  rw[<- h1] at h3
  exact h3.ge hg
 ·simp only[dN,Value.agg.injEq,Array.mk.injEq,List.cons.injEq,Value.bool.injEq,Value.int.injEq,Value.slice.injEq,and_true,true_and] at h1
  obtain⟨_,⟨rfl,_,_⟩,_⟩:=h1
  simp[Value.ownBlock] at hg
theorem bH.parts {B:Nat} {w:World} {ng:Bool} {so:Option Addr} {sn sc:Nat} {e V:Int} (h:bH B w V (.agg #[.bool ng,.slice so sn sc,.int .i64 e])):∃ m,Dy V ng m e∧An B w (.slice so sn sc) m:=by
 obtain⟨ng',s,m,e',h1,h2,h3⟩:=h
 simp only[Value.agg.injEq,Array.mk.injEq,List.cons.injEq,Value.bool.injEq,Value.int.injEq,and_true,true_and] at h1
 obtain⟨rfl,rfl,rfl⟩:=h1
 exact⟨m,h2,h3⟩
def ku (f:Nat->Value):Nat->List Value
 | 0=>[]
 | m+1=>ku f m ++ (f m).cells.toList
def od (v:Value):Prop:=∃ ng so sn sc e,v=.agg #[.bool ng,.slice so sn sc,.int .i64 e]
theorem bH.three {B:Nat} {w:World} {V:Int} {v:Value} (h:bH B w V v):od v:=by
 obtain⟨ng,s,m,e,rfl,_,hA⟩:=h
 obtain⟨so,sn,sc,rfl⟩:=hA.shape
 exact⟨_,_,_,_,_,rfl⟩
theorem lx {f:Nat->Value}:∀ m,(∀ i,i<m->od (f i))->(ku f m).length=m*3
 | 0,_=>rfl
 | m+1,h=>by
  obtain⟨ng,so,sn,sc,e,he⟩:=h m (by omega)
  rw[ku,List.length_append,lx m fun i hi=>h i (by omega),he]
  simp[Value.cells]
  omega
theorem qe {f:Nat->Value}:∀ m,(∀ i,i<m->od (f i))->∀ i j,i<m->j<3->(ku f m)[i*3+j]?=(f i).cells[j]?
 | 0,_,i,j,hi,_=>by omega
 | m+1,h,i,j,hi,hj=>by
  have hl:=lx m fun i hi=>h i (by omega)
  rw[ku]
  by_cases e:i=m
  ·subst e
   rw[List.getElem?_append_right (by omega),hl,show i*3+j-i*3=j by omega]
   simp
  ·rw[List.getElem?_append_left (by omega)]
   exact qe m (fun i hi=>h i (by omega)) i j (by omega) hj
def fH (B:Nat) (w:World) (x:Value) (m:Nat) (f:Nat->Value):Prop:=w.ownsRow B 33 3 x m (ku f m)
theorem fH.nil (B:Nat) (w:World) (f:Nat->Value):fH B w (.slice none 0 0) 0 f:=⟨rfl,.inl ⟨rfl,rfl⟩⟩
theorem fH.of_block {B:Nat} {w w':World} {x:Value} {m:Nat} {f:Nat->Value} (h:fH B w x m f) (hb:∀ g,x.ownBlock=some g->w'.heap[g]?=w.heap[g]?):fH B w' x m f:=by
 refine⟨h.1,?_⟩
 rcases h.2 with hn|⟨g,cap,cur,rfl,hbb,hg,rest⟩
 ·exact .inl hn
 ·exact .inr ⟨g,cap,cur,rfl,hbb,(hb g rfl).trans hg,rest⟩
theorem fH.typed {B:Nat} {w:World} {x:Value} {m:Nat} {f:Nat->Value} (h:fH B w x m f) {g:Nat} (hg:x.ownBlock=some g):B<=g∧g<w.heap.size∧∃ cur z,w.heap[g]?=some (.cells cur 33 z):=by
 rcases h.2 with⟨rfl,_⟩|⟨g',cap,cur,rfl,hbb,hg',rest⟩
 ·simp[Value.ownBlock] at hg
 ·simp only[Value.ownBlock,Option.some.injEq] at hg;subst hg;exact⟨hbb,(aGe hg').1,cur,_,hg'⟩
theorem fH.keeps {B:Nat} {w w':World} {x:Value} {m:Nat} {f:Nat->Value} (h:fH B w x m f) (hb:Below w.heap.size w w'):fH B w' x m f:=h.of_block fun g hg=>hb.block g (h.typed hg).2.1
theorem fH.shape {B:Nat} {w:World} {x:Value} {m:Nat} {f:Nat->Value} (h:fH B w x m f):∃ xo xc,x=.slice xo m xc∧m<=xc∧(0<m->∃ g,xo=some ⟨g,0,none⟩):=by
 rcases h.2 with⟨rfl,rfl⟩|⟨g,cap,cur,rfl,hb,hg,hn,hm,_⟩
 ·exact⟨none,0,rfl,Nat.le_refl _,fun h=>by omega⟩
 ·exact⟨_,cap,rfl,hn,fun _=>⟨g,rfl⟩⟩
theorem fH.cell {B:Nat} {w:World} {xo:Option Addr} {m xc g:Nat} {f:Nat->Value} (h:fH B w (.slice xo m xc) m f) (ht:∀ i,i<m->od (f i)) (hx:xo=some ⟨g,0,none⟩) {i j:Nat} (hi:i<m) (hj:j<3):w.cell? ⟨g,i*3+j,none⟩=(f i).cells[j]?:=by
 rcases h.2 with⟨_,rfl⟩|⟨g',cap,cur,e,hb,hg,hn,hm,hs,ht'⟩
 ·omega
 ·simp only[Value.slice.injEq] at e
  obtain⟨rfl,_,rfl⟩:=e
  simp only[Option.some.injEq,Addr.mk.injEq] at hx
  obtain⟨rfl,_⟩:=hx
  rw[cell_of_row w g' (i*3+j) cur _ _ hg,<- qe m ht i j hi hj,<- ht',List.getElem?_take_of_lt (by omega)]
  simp
theorem bH.of_blocks {B:Nat} {w w':World} {V:Int} {v:Value} (h:bH B w V v) (hb:∀ (g:Nat) (cur:Array Value) z,w.heap[g]?=some (.cells cur 3 z)->w'.heap[g]?=w.heap[g]?):bH B w' V v:=by
 obtain⟨ng,s,m,e,h1,h2,t,d,hO,h3⟩:=h
 exact⟨ng,s,m,e,h1,h2,t,d,hO.of_block fun g hg=>by obtain⟨cur,z,hc⟩:=hO.typed hg;exact hb g cur z hc,h3⟩
structure LS (B:Nat) (w:World) (N:Nat) (X:Nat->Value) (M:Nat->Nat) (F:Nat->Nat->Value):Prop where
 own:∀ j,j<N->fH B w (X j) (M j) (F j)
 ne:∀ i j,i<N->j<N->i≠j->∀ g,(X i).ownBlock=some g->(X j).ownBlock≠some g
theorem LS.keeps {B:Nat} {w w':World} {N:Nat} {X:Nat->Value} {M:Nat->Nat} {F:Nat->Nat->Value} (h:LS B w N X M F) (hb:Below w.heap.size w w'):LS B w' N X M F:=⟨fun j hj=>(h.own j hj).keeps hb,h.ne⟩
theorem LS.put {B:Nat} {w w':World} {N:Nat} {X:Nat->Value} {M:Nat->Nat} {F:Nat->Nat->Value} (h:LS B w N X M F) (j0:Nat) {row:Option Nat} (hg:w.grownBy w' row) {v':Value} {M':Nat} {F':Nat->Value} (hO:fH B w' v' M' F') (h1:∀ j,j<N->j≠j0->∀ g,(X j).ownBlock=some g->row≠some g) (h2:∀ j,j<N->j≠j0->∀ g,(X j).ownBlock=some g->v'.ownBlock≠some g) :
  LS B w' N (mW X j0 v') (mW M j0 M') (mW F j0 F'):=by
 refine⟨fun j hj=>?_,fun i j hi hj hij g hgi=>?_⟩
 ·by_cases e:j=j0
  ·subst e;rw[iG,iG,iG];exact hO
  ·rw[gf _ _ e,gf _ _ e,gf _ _ e]
   exact(h.own j hj).of_block fun g hgx=>hg.block g ((h.own j hj).typed hgx).2.1 fun e'=>h1 j hj e g hgx e'.symm
 ·by_cases e:i=j0
  ·subst e
   rw[iG] at hgi
   rw[gf _ _ (Ne.symm hij)]
   exact fun hgj=>h2 j hj (Ne.symm hij) g hgj hgi
  ·rw[gf _ _ e] at hgi
   by_cases e2:j=j0
   ·subst e2
    rw[iG]
    exact h2 i hi e g hgi
   ·rw[gf _ _ e2]
    exact h.ne i j hi hj hij g hgi
theorem LS.row {B:Nat} {w:World} {N:Nat} {X:Nat->Value} {M:Nat->Nat} {F:Nat->Nat->Value} (h:LS B w N X M F) {j:Nat} (hj:j<N):∀ g,(X j).ownBlock=some g->∃ (cur:Array Value) (z:Nat × Nat),w.heap[g]?=some (Obj.cells cur 33 z):=fun g hg=>(((h.own j hj).typed hg).2.2)
theorem LS.ge {B:Nat} {w:World} {N:Nat} {X:Nat->Value} {M:Nat->Nat} {F:Nat->Nat->Value} (h:LS B w N X M F) {j:Nat} (hj:j<N):∀ g,(X j).ownBlock=some g->B<=g:=fun g hg=>((h.own j hj).typed hg).1
theorem fH.nums {B:Nat} {w:World} {xo:Option Addr} {m xc:Nat} {f:Nat->Value} {r:Nat->aG} (h:fH B w (.slice xo m xc) m f) (hm:m<=100000) (hr:∀ i,i<m->f i=(r i).v∧aM w (r i).ao (r i).n (r i).cap (r i).d):∃ c2,xc=c2∧eW w xo m xc r:=by
 have ht:∀ i,i<m->od (f i):=fun i hi=>⟨_,_,_,_,_,(hr i hi).1⟩
 refine⟨xc,rfl,?_⟩
 obtain⟨xo',xc',e,hle,hsp⟩:=h.shape
 simp only[Value.slice.injEq] at e
 obtain⟨rfl,_,rfl⟩:=e
 refine⟨hle,?_,fun hm0=>?_⟩
 ·rcases h.2 with⟨e,_⟩|⟨g,cap,cur,e,hb,hg,hn,hmx,hs,_⟩
  ·simp only[Value.slice.injEq] at e;omega
  ·simp only[Value.slice.injEq] at e
   obtain⟨_,_,rfl⟩:=e
   unfold maxLen at hmx
   omega
 ·obtain⟨g,rfl⟩:=hsp hm0
  have hlt:g<w.heap.size:=(h.typed (g:=g) rfl).2.1
  refine⟨g,0,rfl,hlt,fun i hi=>?_⟩
  obtain⟨h1,h2⟩:=hr i hi
  have c:=fun j (hj:j<3)=>h.cell ht rfl hi (j:=j) hj
  rw[h1] at c
  rw[Nat.zero_add]
  exact⟨c 0 (by decide),c 1 (by decide),c 2 (by decide),h2⟩
theorem qg (x y:aG) (w:World) (hx:aM w x.ao x.n x.cap x.d) (hy:aM w y.ao y.n y.cap y.d) (sx:dR x) (sy:dR y) :
  Calls Tryz.prog 62 #[x.v,y.v] w fun r w'=>∃ v,r=.returned v∧aX w w' (lP x y) v:=by
 have hV:lP x y=sg (x.ng != y.ng) (val x.d x.n*val y.d y.n)*pw (x.e+y.e):=rfl
 have he:-4194304<=x.e+y.e∧x.e+y.e<=4194304:=by have:=sx.2.2.1;have:=sy.2.2.1;have:=sx.2.2.2;have:=sy.2.2.2;omega
 have hlen:val x.d x.n*val y.d y.n<P 10000:=by
  have a1:=ck sx.1.1
  have a2:=ck sy.1.1
  have b1:=bl sx.1.1
  have b2:=bl sy.1.1
  have c1:val x.d x.n*val y.d y.n<=P x.n*val y.d y.n:=Int.mul_le_mul_of_nonneg_right (by omega) b2
  have c2:P x.n*val y.d y.n<P x.n*P y.n:=Int.mul_lt_mul_of_pos_left a2 (bU _)
  rw[<- kA] at c2
  have:=gD (show x.n+y.n<=10000 by have:=sx.2.1;have:=sy.2.1;omega)
  omega
 obtain⟨an,ao,n,ca,a,e⟩:=x
 obtain⟨bn,bo,m,cb,b,f⟩:=y
 obtain⟨s1,s2,s3,s4⟩:=sx
 obtain⟨t1,t2,t3,t4⟩:=sy
 unfold aG.v
 simp only at *
 rw[hV]
 clear hV
 generalize hVV:sg (an != bn) (val a n*val b m)*pw (e+f)=V
 have HVV:Hid (sg (an != bn) (val a n*val b m)*pw (e+f)=V):=hVV
 clear hVV
 have hw:IntKind.i64.wrap (e+f)=e+f:=by rw[bw];omega
 have hb3:=df w (.cells #[.bool an,.slice ao n ca,.int .i64 e] 33) (.cells #[.bool bn,.slice bo m cb,.int .i64 f] 33) (.cells #[.bool false,.slice none 0 0,.int .i64 0] 33)
 have g0:=lL w (.cells #[.bool an,.slice ao n ca,.int .i64 e] 33) (.cells #[.bool bn,.slice bo m cb,.int .i64 f] 33) (.cells #[.bool false,.slice none 0 0,.int .i64 0] 33)
 have g1:=lM w (.cells #[.bool an,.slice ao n ca,.int .i64 e] 33) (.cells #[.bool bn,.slice bo m cb,.int .i64 f] 33) (.cells #[.bool false,.slice none 0 0,.int .i64 0] 33)
 have g2:=jw w (.cells #[.bool an,.slice ao n ca,.int .i64 e] 33) (.cells #[.bool bn,.slice bo m cb,.int .i64 f] 33) (.cells #[.bool false,.slice none 0 0,.int .i64 0] 33)
 have hs3:=iZ w (.cells #[.bool an,.slice ao n ca,.int .i64 e] 33) (.cells #[.bool bn,.slice bo m cb,.int .i64 f] 33) (.cells #[.bool false,.slice none 0 0,.int .i64 0] 33)
 go_enter Tryz.func62,Tryz.ntmps62
 go_wp2_with fail
 have HX:=hx.keeps hb3
 have HY:=hy.keeps hb3
 generalize ((w.alloc (.cells #[.bool an,.slice ao n ca,.int .i64 e] 33)).alloc (.cells #[.bool bn,.slice bo m cb,.int .i64 f] 33)).alloc (.cells #[.bool false,.slice none 0 0,.int .i64 0] 33)=wx at hb3 g0 g1 g2 hs3 HX HY ⊢
 have k0:=af g0 0 rfl
 have k1:=af g0 1 rfl
 have k2:=af g0 2 rfl
 have j0:=af g1 0 rfl
 have j1:=af g1 1 rfl
 have j2:=af g1 2 rfl
 have hb1:=ak wx
 have C1:∀ W,Below wx.heap.size wx W->Calls Tryz.prog 93 #[.slice ao n ca,.slice bo m cb] W fun r w'=>∃ so sn sc,r=.returned (.slice so sn sc)∧cP W w' (val a n*val b m) (.slice so sn sc)∧Below W.heap.size W w':=fun W h=>by
  refine(yu ao bo n m ca cb a b W (HX.keeps h) (HY.keeps h) s1 t1 (by omega) (by omega)).mono ?_
  rintro r w' ⟨v,rfl,hA⟩
  obtain⟨so,sn,sc,rfl⟩:=hA.num.shape
  exact⟨so,sn,sc,rfl,hA,hA.below⟩
 have C2:∀ W so sn sc,bQ W (.slice so sn sc) (val a n*val b m)->Calls Tryz.prog 92 #[.bool (!(an == bn)),.slice so sn sc,.int .i64 (e+f)] W fun r w'=>∃ ng s1 s2 s3 e1,r=.returned (.agg #[.bool ng,.slice s1 s2 s3,.int .i64 e1])∧aX W w' V (.agg #[.bool ng,.slice s1 s2 s3,.int .i64 e1])∧Below W.heap.size W w':=fun W so sn sc hN=>by
  have hsn:sn<=10000:=hN.len hlen
  obtain⟨ao',n',ca',d,e1,hR,h2,h3⟩:=hN
  simp only[Value.slice.injEq] at e1
  obtain⟨rfl,rfl,rfl⟩:=e1
  refine(lR (an != bn) _ _ _ d (e+f) W hR h2.1 (by omega) (by omega) (by omega)).mono ?_
  rw[h3,HVV.out]
  rintro r w' ⟨v,rfl,hD⟩
  obtain⟨ng,s,m',e1,rfl,_,hA⟩:=id hD
  obtain⟨q1,q2,q3,rfl⟩:=hA.num.shape
  exact⟨ng,q1,q2,q3,e1,rfl,hD,hD.below⟩
 clear hlen
 go_region_held3 (fun W=>(W.cell? ⟨w.heap.size,0,none⟩=some (.bool an)∧W.cell? ⟨w.heap.size,1,none⟩=some (.slice ao n ca)∧W.cell? ⟨w.heap.size,2,none⟩=some (.int .i64 e))∧W.cell? ⟨w.heap.size+1,0,none⟩=some (.bool bn)∧W.cell? ⟨w.heap.size+1,1,none⟩=some (.slice bo m cb)∧W.cell? ⟨w.heap.size+1,2,none⟩=some (.int .i64 f))
  (first|assumption|exact⟨⟨k0,k1,k2⟩,j0,j1,j2⟩|exact bN (W:=wx.drew) hbv1 ⟨⟨k0,k1,k2⟩,j0,j1,j2⟩|exact bN hbv2 (bN (W:=wx.drew) hbv1 ⟨⟨k0,k1,k2⟩,j0,j1,j2⟩)|exact⟨fJ (bN hbv2 (bN (W:=wx.drew) hbv1 ⟨⟨k0,k1,k2⟩,j0,j1,j2⟩)).1 (by omega) _ _ _,fJ (bN hbv2 (bN (W:=wx.drew) hbv1 ⟨⟨k0,k1,k2⟩,j0,j1,j2⟩)).2 (by omega) _ _ _⟩)
  (first|(go_at_call 92;refine(C2 _ _ _ _ hv1.num).mono ?_;rintro y w4 ⟨ng4,o4,n4,c4,e4,rfl,hv2,hbv2⟩;have q0:=((ac hbv1 hbv2).block (w.heap.size+2) (by show _<wx.heap.size;omega)).trans g2;have x0:=af q0 0 rfl;have x1:=af q0 1 rfl;have x2:=af q0 2 rfl;have z0:=av q0 0;have z1:=av q0 1;have z2:=av q0 2)|(go_at_call 93;refine(C1 _ hb1.drew).mono ?_;rintro y w3 ⟨so,sn,sc,rfl,hv1,hbv1⟩))
 all_goals go_wp2
 all_goals
  refine bodyPost_ret (v:=.agg #[.bool ng4,.slice o4 n4 c4,.int .i64 e4]) (by simp[results,Tryz.results62,go_sem,x0,x1,x2]) rfl ⟨_,rfl,?_⟩
  exact bM (g:=w.heap.size+2) hv2 (ac hb3 (ac hb1.drew hbv1)) (by omega) (Nat.lt_of_lt_of_le (show _<wx.heap.size by omega) hbv1.size) _ _ _
theorem kv {K:Nat} {A:Int} {ng:Bool} {m e:Int} (h:Bd K A) (hy:Dy A ng m e) (hK:K<=4194304) (h0:0<m):-(K:Int)<=e∧e<=K∧m*2^(e+K).toNat<2^(2*K):=by
 obtain⟨c,hc,c1,c2⟩:=h
 have bk:∀ (b:Bool) (C:Int),0<C->C<2^(2*K)->A=sg b C*pw (-(K:Int))->-(K:Int)<=e∧e<=K∧m*2^(e+K).toNat<2^(2*K):=fun b C hC hlt hA=>by
  obtain⟨l,hl⟩:=ii hC
  have hy2:=Dy.of b hl hC (show -4194304 <= -(K:Int) by omega)
  rw[<- hA] at hy2
  obtain⟨_,rfl,rfl⟩:=hy.unique hy2
  obtain⟨d1,d2,d3⟩:=ff hl hC
  have hl2:l<2*K:=by
   have h3:(1:Int)*2^l<=C/2^l*2^l:=Int.mul_le_mul_of_nonneg_right (by omega) (Int.le_of_lt (aJ l))
   rw[d3] at h3
   exact eG (by omega)
  refine⟨by omega,by omega,?_⟩
  rw[show(-(K:Int)+l+K).toNat=l by omega,d3]
  exact hlt
 by_cases hz:c=0
 ·exfalso
  rw[hz,Int.zero_mul] at hc
  have:=hy.eq_zero.1 hc
  omega
 ·by_cases hp:0<c
  ·exact bk false c hp c2 (by simpa [sg] using hc)
  ·exact bk true (-c) (by omega) (by omega) (by simpa [sg] using hc)
theorem sw {K:Nat} {A:Int} {ng:Bool} {m e low:Int} (h:Bd K A) (hy:Dy A ng m e) (hK:K<=4194304) (h0:0<m) (h1:-(K:Int)<=low) (h2:low<=e):m*2^(e-low).toNat<2^(2*K):=by
 obtain⟨a,b,c⟩:=kv h hy hK h0
 have h3:(2:Int)^(e-low).toNat<=2^(e+K).toNat:=di (by omega)
 have h4:m*2^(e-low).toNat<=m*2^(e+K).toNat:=Int.mul_le_mul_of_nonneg_left h3 (by omega)
 omega
theorem uk {K:Nat} {A:Int} {ng:Bool} {m e:Int} (h:Bd K A) (hy:Dy A ng m e) (hK:K<=4194304) (h0:0<m):m<2^(2*K):=by
 obtain⟨a,b,c⟩:=kv h hy hK h0
 have h3:(1:Int)<=2^(e+K).toNat:=aJ _
 have h4:m*1<=m*2^(e+K).toNat:=Int.mul_le_mul_of_nonneg_left h3 (by omega)
 omega
theorem qh {K:Nat} {d:Nat->Int} {n:Nat} (hK:K<=560000) (hN:bZ d n) (h:val d n<2^(2*K)):n<=37400:=by
 by_cases h1:n<=37400
 ·exact h1
 ·exfalso
  have a:=ef hN.1 (by omega) hN.2
  have b:=gD (show 37400<=n-1 by omega)
  have c:(2:Int)^(2*K)<=2^(30*37400):=di (by omega)
  rw[<- dC] at c
  generalize P 37400=Y at *
  omega
def iR (w w':World) (A B:Int) (x y v:Value):Prop:=Below w.heap.size w w'∧(aX w w' (A+B) v∨(A=0∧v=y)∨(B=0∧v=x))
theorem iR.num {w w':World} {A B:Int} {x y v:Value} (h:iR w w' A B x y v) (hx:aR w x A) (hy:aR w y B):aR w' v (A+B):=by
 rcases h.2 with h1|⟨rfl,rfl⟩|⟨rfl,rfl⟩
 ·exact h1.num
 ·rw[Int.zero_add];exact hy.keeps h.1
 ·rw[Int.add_zero];exact hx.keeps h.1
theorem vh (x y:aG) (w:World) (hm:x.n<=9223372036854775807) (hm':y.n<=9223372036854775807) (h:x.n=0) :
  Calls Tryz.prog 63 #[x.v,y.v] w fun r w'=>r=.returned y.v∧Below w.heap.size w w':=by
 obtain⟨an,ao,n,ca,a,e⟩:=x
 obtain⟨bn,bo,m,cb,b,f⟩:=y
 unfold aG.v at *
 simp only at *
 subst h
 go_enter Tryz.func63,Tryz.ntmps63
 go_wp2
 refine bodyPost_ret (v:=.agg #[.bool bn,.slice bo m cb,.int .i64 f]) (by simp[results,Tryz.results63,go_sem]) rfl ⟨rfl,?_⟩
 exact df _ _ _ _
theorem tx (x y:aG) (w:World) (hm:x.n<=9223372036854775807) (hm':y.n<=9223372036854775807) (h0:0<x.n) (h:y.n=0) :
  Calls Tryz.prog 63 #[x.v,y.v] w fun r w'=>r=.returned x.v∧Below w.heap.size w w':=by
 obtain⟨an,ao,n,ca,a,e⟩:=x
 obtain⟨bn,bo,m,cb,b,f⟩:=y
 unfold aG.v at *
 simp only at *
 have hn0:((n:Int) == 0)=false:=by simp;omega
 subst h
 go_enter Tryz.func63,Tryz.ntmps63
 go_wp2
 refine bodyPost_ret (v:=.agg #[.bool an,.slice ao n ca,.int .i64 e]) (by simp[results,Tryz.results63,go_sem]) rfl ⟨rfl,?_⟩
 exact df _ _ _ _
theorem vi (x y:aG) (w:World) (hx:aM w x.ao x.n x.cap x.d) (hy:aM w y.ao y.n y.cap y.d) (n0:0<x.n) (m0:0<y.n) (low A B V:Int)
  (hlow:low=min x.e y.e) (hl0:-600000<=low) (he:x.e<=600000) (hf:y.e<=600000)
  (H1:∀ W,Below w.heap.size w W->Calls Tryz.prog 94 #[.slice x.ao x.n x.cap,.int .i64 (x.e-low)] W fun r w'=>∃ so sn sc,r=.returned (.slice so sn sc)∧bQ w' (.slice so sn sc) A∧Below W.heap.size W w')
  (H2:∀ W,Below w.heap.size w W->Calls Tryz.prog 94 #[.slice y.ao y.n y.cap,.int .i64 (y.e-low)] W fun r w'=>∃ so sn sc,r=.returned (.slice so sn sc)∧bQ w' (.slice so sn sc) B∧Below W.heap.size W w')
  (H3:∀ W p q,bQ W p A->bQ W q B->Calls Tryz.prog 95 #[p,q] W fun r w'=>∃ so sn sc,r=.returned (.slice so sn sc)∧bQ w' (.slice so sn sc) (A+B)∧Below W.heap.size W w')
  (H4:∀ W p q,bQ W p A->bQ W q B->Calls Tryz.prog 96 #[p,q] W fun r w'=>r=.returned (.int .i64 (aZ A B))∧Below W.heap.size W w')
  (H5:∀ W p q,bQ W p A->bQ W q B->B<=A->Calls Tryz.prog 97 #[p,q] W fun r w'=>∃ so sn sc,r=.returned (.slice so sn sc)∧bQ w' (.slice so sn sc) (A-B)∧Below W.heap.size W w')
  (H6:∀ W p q,bQ W p A->bQ W q B->A<=B->Calls Tryz.prog 97 #[q,p] W fun r w'=>∃ so sn sc,r=.returned (.slice so sn sc)∧bQ w' (.slice so sn sc) (B-A)∧Below W.heap.size W w')
  (H7:∀ W ng s M,bQ W s M->((x.ng=y.ng∧ng=x.ng∧M=A+B)∨(x.ng≠y.ng∧B<=A∧ng=x.ng∧M=A-B)∨(x.ng≠y.ng∧A<B∧ng=y.ng∧M=B-A))->Calls Tryz.prog 92 #[.bool ng,s,.int .i64 low] W fun r w'=>∃ ng s1 s2 s3 e1,r=.returned (.agg #[.bool ng,.slice s1 s2 s3,.int .i64 e1])∧aX W w' V (.agg #[.bool ng,.slice s1 s2 s3,.int .i64 e1])∧Below W.heap.size W w') :
  Calls Tryz.prog 63 #[x.v,y.v] w fun r w'=>∃ v,r=.returned v∧aX w w' V v:=by
 have hmin:∀ (ts:Array TypeId) (t:TypeId) (w:World),(Builtin.min_ ts t #[.int .i64 x.e,.int .i64 y.e]).run Tryz.prog w=.ok (.int .i64 low) w:=fun ts t w=>by rw[run_min_int2,hlow];congr 2;omega
 have hl1:low<=x.e:=by omega
 have hl2:low<=y.e:=by omega
 have HH7:Hid _:=H7
 have hm:=hx.max
 have hm':=hy.max
 clear hlow H7
 obtain⟨an,ao,n,ca,a,e⟩:=x
 obtain⟨bn,bo,m,cb,b,f⟩:=y
 unfold aG.v
 simp only at *
 have hn0:((n:Int) == 0)=false:=by simp;omega
 have hm0:((m:Int) == 0)=false:=by simp;omega
 have hb3:Below w.heap.size w (((w.alloc (.cells #[.bool an,.slice ao n ca,.int .i64 e] 33)).alloc (.cells #[.bool bn,.slice bo m cb,.int .i64 f] 33)).alloc (.cells #[.bool false,.slice none 0 0,.int .i64 0] 33)):=df _ _ _ _
 have g0:=lL w (.cells #[.bool an,.slice ao n ca,.int .i64 e] 33) (.cells #[.bool bn,.slice bo m cb,.int .i64 f] 33) (.cells #[.bool false,.slice none 0 0,.int .i64 0] 33)
 have g1:=lM w (.cells #[.bool an,.slice ao n ca,.int .i64 e] 33) (.cells #[.bool bn,.slice bo m cb,.int .i64 f] 33) (.cells #[.bool false,.slice none 0 0,.int .i64 0] 33)
 have g2:=jw w (.cells #[.bool an,.slice ao n ca,.int .i64 e] 33) (.cells #[.bool bn,.slice bo m cb,.int .i64 f] 33) (.cells #[.bool false,.slice none 0 0,.int .i64 0] 33)
 go_enter Tryz.func63,Tryz.ntmps63
 go_wp2_with fail
 generalize ((w.alloc (.cells #[.bool an,.slice ao n ca,.int .i64 e] 33)).alloc (.cells #[.bool bn,.slice bo m cb,.int .i64 f] 33)).alloc (.cells #[.bool false,.slice none 0 0,.int .i64 0] 33)=wx at hb3 g0 g1 g2 ⊢
 refine(H1 _ hb3).mono ?_
 rintro r w1 ⟨po,pn,pc,rfl,hP,hb1⟩
 have hbx1:=ac hb3 hb1
 replace g0:=(hb1.block _ (aGe g0).1).trans g0
 replace g1:=(hb1.block _ (aGe g1).1).trans g1
 replace g2:=(hb1.block _ (aGe g2).1).trans g2
 have j1:=af g1 1 rfl
 have j2:=af g1 2 rfl
 go_wp2_with fail
 clear j1 j2
 refine(H2 _ hbx1).mono ?_
 rintro r w2 ⟨qo,qn,qc,rfl,hQ,hb2⟩
 have hbx2:=ac hbx1 hb2
 replace hP:=hP.keeps hb2
 replace g0:=(hb2.block _ (aGe g0).1).trans g0
 replace g1:=(hb2.block _ (aGe g1).1).trans g1
 replace g2:=(hb2.block _ (aGe g2).1).trans g2
 have k0:=af g0 0 rfl
 have k1:=af g0 1 rfl
 have k2:=af g0 2 rfl
 have j0:=af g1 0 rfl
 have j1:=af g1 1 rfl
 have j2:=af g1 2 rfl
 by_cases hng:an=bn
 ·subst hng
  have C1:∀ W,Below w2.heap.size w2 W->Calls Tryz.prog 95 #[.slice po pn pc,.slice qo qn qc] W fun r w'=>∃ so sn sc,r=.returned (.slice so sn sc)∧bQ w' (.slice so sn sc) (A+B)∧Below W.heap.size W w':=fun W h=>H3 W _ _ (hP.keeps h) (hQ.keeps h)
  have C2:∀ W so sn sc,bQ W (.slice so sn sc) (A+B)->Calls Tryz.prog 92 #[.bool an,.slice so sn sc,.int .i64 low] W fun r w'=>∃ ng s1 s2 s3 e1,r=.returned (.agg #[.bool ng,.slice s1 s2 s3,.int .i64 e1])∧aX W w' V (.agg #[.bool ng,.slice s1 s2 s3,.int .i64 e1])∧Below W.heap.size W w':=fun W so sn sc hN=>HH7.out W an _ _ hN (.inl ⟨rfl,rfl,rfl⟩)
  clear H1 H2 H3 H4 H5 H6 HH7
  have hs3:=(aGe g2).1
  go_wp2_with fail
  have hb1:=ak w2
  go_region_held3 (fun W=>(W.cell? ⟨w.heap.size,0,none⟩=some (.bool an)∧W.cell? ⟨w.heap.size,1,none⟩=some (.slice ao n ca)∧W.cell? ⟨w.heap.size,2,none⟩=some (.int .i64 e))∧W.cell? ⟨w.heap.size+1,0,none⟩=some (.bool an)∧W.cell? ⟨w.heap.size+1,1,none⟩=some (.slice bo m cb)∧W.cell? ⟨w.heap.size+1,2,none⟩=some (.int .i64 f))
   (first|assumption|exact⟨⟨k0,k1,k2⟩,j0,j1,j2⟩|exact bN (W:=w2.drew) hbv1 ⟨⟨k0,k1,k2⟩,j0,j1,j2⟩|exact bN hbv2 (bN (W:=w2.drew) hbv1 ⟨⟨k0,k1,k2⟩,j0,j1,j2⟩)|exact⟨fJ (bN hbv2 (bN (W:=w2.drew) hbv1 ⟨⟨k0,k1,k2⟩,j0,j1,j2⟩)).1 (by omega) _ _ _,fJ (bN hbv2 (bN (W:=w2.drew) hbv1 ⟨⟨k0,k1,k2⟩,j0,j1,j2⟩)).2 (by omega) _ _ _⟩)
   (first|(go_at_call 92;refine(C2 _ _ _ _ hv1).mono ?_;rintro y w4 ⟨ng4,o4,n4,c4,e4,rfl,hv2,hbv2⟩;have q0:=((ac hbv1 hbv2).block (w.heap.size+2) (by show _<w2.heap.size;omega)).trans g2;have x0:=af q0 0 rfl;have x1:=af q0 1 rfl;have x2:=af q0 2 rfl;have z0:=av q0 0;have z1:=av q0 1;have z2:=av q0 2)|(go_at_call 95;refine(C1 _ hb1.drew).mono ?_;rintro y w3 ⟨so,sn,sc,rfl,hv1,hbv1⟩))
  all_goals go_wp2
  all_goals
   refine bodyPost_ret (v:=.agg #[.bool ng4,.slice o4 n4 c4,.int .i64 e4]) (by simp[results,Tryz.results63,go_sem,x0,x1,x2]) rfl ⟨_,rfl,?_⟩
   exact bM (g:=w.heap.size+2) hv2 (ac hbx2 (ac hb1.drew hbv1)) (by omega) (Nat.lt_of_lt_of_le (show _<w2.heap.size by omega) hbv1.size) _ _ _
 ·have hng':(an == bn)=false:=by simp[hng]
  go_wp2_with fail
  refine(H4 _ _ _ hP hQ).mono ?_
  rintro r w3 ⟨rfl,hb3'⟩
  have hbx3:=ac hbx2 hb3'
  replace hP:=hP.keeps hb3'
  replace hQ:=hQ.keeps hb3'
  replace g0:=(hb3'.block _ (aGe g0).1).trans g0
  replace g1:=(hb3'.block _ (aGe g1).1).trans g1
  replace g2:=(hb3'.block _ (aGe g2).1).trans g2
  replace k0:=af g0 0 rfl
  replace k1:=af g0 1 rfl
  replace k2:=af g0 2 rfl
  replace j0:=af g1 0 rfl
  replace j1:=af g1 1 rfl
  replace j2:=af g1 2 rfl
  have hs3:=(aGe g2).1
  by_cases hAB:B<=A
  ·have ho:(0:Int)<=aZ A B:=by
    rcases Int.lt_trichotomy A B with h|h|h
    ·omega
    ·rw[fw h];decide
    ·rw[dK h];decide
   have C1:∀ W,Below w3.heap.size w3 W->Calls Tryz.prog 97 #[.slice po pn pc,.slice qo qn qc] W fun r w'=>∃ so sn sc,r=.returned (.slice so sn sc)∧bQ w' (.slice so sn sc) (A-B)∧Below W.heap.size W w':=fun W h=>H5 W _ _ (hP.keeps h) (hQ.keeps h) hAB
   have C2:∀ W so sn sc,bQ W (.slice so sn sc) (A-B)->Calls Tryz.prog 92 #[.bool an,.slice so sn sc,.int .i64 low] W fun r w'=>∃ ng s1 s2 s3 e1,r=.returned (.agg #[.bool ng,.slice s1 s2 s3,.int .i64 e1])∧aX W w' V (.agg #[.bool ng,.slice s1 s2 s3,.int .i64 e1])∧Below W.heap.size W w':=fun W so sn sc hN=>HH7.out W an _ _ hN (.inr (.inl ⟨hng,hAB,rfl,rfl⟩))
   generalize aZ A B=oAB at ho ⊢
   clear H1 H2 H3 H4 H5 H6 HH7 hAB
   go_wp2_with fail
   have hb1:=ak w3
   go_region_held3 (fun W=>(W.cell? ⟨w.heap.size,0,none⟩=some (.bool an)∧W.cell? ⟨w.heap.size,1,none⟩=some (.slice ao n ca)∧W.cell? ⟨w.heap.size,2,none⟩=some (.int .i64 e))∧W.cell? ⟨w.heap.size+1,0,none⟩=some (.bool bn)∧W.cell? ⟨w.heap.size+1,1,none⟩=some (.slice bo m cb)∧W.cell? ⟨w.heap.size+1,2,none⟩=some (.int .i64 f))
    (first|assumption|exact⟨⟨k0,k1,k2⟩,j0,j1,j2⟩|exact bN (W:=w3.drew) hbv1 ⟨⟨k0,k1,k2⟩,j0,j1,j2⟩|exact bN hbv2 (bN (W:=w3.drew) hbv1 ⟨⟨k0,k1,k2⟩,j0,j1,j2⟩)|exact⟨fJ (bN hbv2 (bN (W:=w3.drew) hbv1 ⟨⟨k0,k1,k2⟩,j0,j1,j2⟩)).1 (by omega) _ _ _,fJ (bN hbv2 (bN (W:=w3.drew) hbv1 ⟨⟨k0,k1,k2⟩,j0,j1,j2⟩)).2 (by omega) _ _ _⟩)
    (first|(go_at_call 92;refine(C2 _ _ _ _ hv1).mono ?_;rintro y w4 ⟨ng4,o4,n4,c4,e4,rfl,hv2,hbv2⟩;have q0:=((ac hbv1 hbv2).block (w.heap.size+2) (by show _<w3.heap.size;omega)).trans g2;have x0:=af q0 0 rfl;have x1:=af q0 1 rfl;have x2:=af q0 2 rfl;have z0:=av q0 0;have z1:=av q0 1;have z2:=av q0 2)|(go_at_call 97;refine(C1 _ hb1.drew).mono ?_;rintro y w3' ⟨so,sn,sc,rfl,hv1,hbv1⟩))
   all_goals go_wp2
   all_goals
    refine bodyPost_ret (v:=.agg #[.bool ng4,.slice o4 n4 c4,.int .i64 e4]) (by simp[results,Tryz.results63,go_sem,x0,x1,x2]) rfl ⟨_,rfl,?_⟩
    exact bM (g:=w.heap.size+2) hv2 (ac hbx3 (ac hb1.drew hbv1)) (by omega) (Nat.lt_of_lt_of_le (show _<w3.heap.size by omega) hbv1.size) _ _ _
  ·have ho:aZ A B<(0:Int):=by rw[dJ (by omega)];decide
   have C1:∀ W,Below w3.heap.size w3 W->Calls Tryz.prog 97 #[.slice qo qn qc,.slice po pn pc] W fun r w'=>∃ so sn sc,r=.returned (.slice so sn sc)∧bQ w' (.slice so sn sc) (B-A)∧Below W.heap.size W w':=fun W h=>H6 W _ _ (hP.keeps h) (hQ.keeps h) (by omega)
   have C2:∀ W so sn sc,bQ W (.slice so sn sc) (B-A)->Calls Tryz.prog 92 #[.bool bn,.slice so sn sc,.int .i64 low] W fun r w'=>∃ ng s1 s2 s3 e1,r=.returned (.agg #[.bool ng,.slice s1 s2 s3,.int .i64 e1])∧aX W w' V (.agg #[.bool ng,.slice s1 s2 s3,.int .i64 e1])∧Below W.heap.size W w':=fun W so sn sc hN=>HH7.out W bn _ _ hN (.inr (.inr ⟨hng,by omega,rfl,rfl⟩))
   generalize aZ A B=oAB at ho ⊢
   clear H1 H2 H3 H4 H5 H6 HH7 hAB
   go_wp2_with fail
   have hb1:=ak w3
   go_region_held3 (fun W=>(W.cell? ⟨w.heap.size,0,none⟩=some (.bool an)∧W.cell? ⟨w.heap.size,1,none⟩=some (.slice ao n ca)∧W.cell? ⟨w.heap.size,2,none⟩=some (.int .i64 e))∧W.cell? ⟨w.heap.size+1,0,none⟩=some (.bool bn)∧W.cell? ⟨w.heap.size+1,1,none⟩=some (.slice bo m cb)∧W.cell? ⟨w.heap.size+1,2,none⟩=some (.int .i64 f))
    (first|assumption|exact⟨⟨k0,k1,k2⟩,j0,j1,j2⟩|exact bN (W:=w3.drew) hbv1 ⟨⟨k0,k1,k2⟩,j0,j1,j2⟩|exact bN hbv2 (bN (W:=w3.drew) hbv1 ⟨⟨k0,k1,k2⟩,j0,j1,j2⟩)|exact⟨fJ (bN hbv2 (bN (W:=w3.drew) hbv1 ⟨⟨k0,k1,k2⟩,j0,j1,j2⟩)).1 (by omega) _ _ _,fJ (bN hbv2 (bN (W:=w3.drew) hbv1 ⟨⟨k0,k1,k2⟩,j0,j1,j2⟩)).2 (by omega) _ _ _⟩)
    (first|(go_at_call 92;refine(C2 _ _ _ _ hv1).mono ?_;rintro y w4 ⟨ng4,o4,n4,c4,e4,rfl,hv2,hbv2⟩;have q0:=((ac hbv1 hbv2).block (w.heap.size+2) (by show _<w3.heap.size;omega)).trans g2;have x0:=af q0 0 rfl;have x1:=af q0 1 rfl;have x2:=af q0 2 rfl;have z0:=av q0 0;have z1:=av q0 1;have z2:=av q0 2)|(go_at_call 97;refine(C1 _ hb1.drew).mono ?_;rintro y w3' ⟨so,sn,sc,rfl,hv1,hbv1⟩))
   all_goals go_wp2
   all_goals
    refine bodyPost_ret (v:=.agg #[.bool ng4,.slice o4 n4 c4,.int .i64 e4]) (by simp[results,Tryz.results63,go_sem,x0,x1,x2]) rfl ⟨_,rfl,?_⟩
    exact bM (g:=w.heap.size+2) hv2 (ac hbx3 (ac hb1.drew hbv1)) (by omega) (Nat.lt_of_lt_of_le (show _<w3.heap.size by omega) hbv1.size) _ _ _
theorem Ct {an bn:Bool} {A B low:Int} {ng:Bool} {M:Int} (h:(an=bn∧ng=an∧M=A+B)∨(an≠bn∧B<=A∧ng=an∧M=A-B)∨(an≠bn∧A<B∧ng=bn∧M=B-A)) :
  sg ng M*pw low=sg an A*pw low+sg bn B*pw low:=by
 rw[<- Int.add_mul]
 congr 1
 rcases h with⟨rfl,rfl,rfl⟩|⟨h1,h2,rfl,rfl⟩|⟨h1,h2,rfl,rfl⟩
 ·cases ng<;>simp[sg]<;>omega
 ·cases ng<;>cases bn<;>simp[sg] at *<;>omega
 ·cases an<;>cases ng<;>simp[sg] at *<;>omega
theorem bQ.digits {w:World} {so:Option Addr} {sn sc:Nat} {M:Int} (h:bQ w (.slice so sn sc) M) {K:Nat} (hK:K<=560000) (hM:M<2^(2*K)+2^(2*K)):∃ d,aM w so sn sc d∧bZ d sn∧val d sn=M∧sn<=37500:=by
 obtain⟨ao,n,ca,d,e,hR,hN,hv⟩:=h
 simp only[Value.slice.injEq] at e
 obtain⟨rfl,rfl,rfl⟩:=e
 refine⟨d,hR,hN,hv,?_⟩
 by_cases h1:sn<=37500
 ·exact h1
 ·exfalso
  have a:=ef hN.1 (by omega) hN.2
  have b:=gD (show 37500<=sn-1 by omega)
  have c:(2:Int)^(2*K)<=2^(30*37400):=di (by omega)
  have c2:(2:Int)^(30*37400)*2<=2^(30*37500):=by
   rw[<- Int.pow_succ]
   exact di (by omega)
  rw[<- dC 37500] at c2
  generalize P 37500=Y at *
  generalize (2:Int)^(30*37400)=Z at *
  omega
theorem qj (x y:aG) (w:World) (hx:aM w x.ao x.n x.cap x.d) (hy:aM w y.ao y.n y.cap y.d) (dx:Dy x.V x.ng (val x.d x.n) x.e) (nx:bZ x.d x.n) (dy:Dy y.V y.ng (val y.d y.n) y.e) (ny:bZ y.d y.n) {K:Nat} (hK:K<=560000) (bx:Bd K x.V) (bY:Bd K y.V) :
  Calls Tryz.prog 63 #[x.v,y.v] w fun r w'=>∃ v,r=.returned v∧iR w w' x.V y.V x.v y.v v:=by
 by_cases h0:x.n=0
 ·refine(vh x y w (Nat.le_trans hx.le hx.max) (Nat.le_trans hy.le hy.max) h0).mono ?_
  rintro r w' ⟨rfl,hb⟩
  exact⟨_,rfl,hb,.inr (.inl ⟨dx.eq_zero.2 (by rw[h0];rfl),rfl⟩)⟩
 ·by_cases h1:y.n=0
  ·refine(tx x y w (Nat.le_trans hx.le hx.max) (Nat.le_trans hy.le hy.max) (by omega) h1).mono ?_
   rintro r w' ⟨rfl,hb⟩
   exact⟨_,rfl,hb,.inr (.inr ⟨dy.eq_zero.2 (by rw[h1];rfl),rfl⟩)⟩
  ·have px:=fz nx (show 0<x.n by omega)
   have py:=fz ny (show 0<y.n by omega)
   obtain⟨a1,a2,_⟩:=kv bx dx (by omega) px
   obtain⟨b1,b2,_⟩:=kv bY dy (by omega) py
   obtain⟨low,hlow⟩:∃ low:Int,low=min x.e y.e:=⟨_,rfl⟩
   have hl0:-(K:Int)<=low:=by omega
   have s1:=sw bx dx (by omega) px hl0 (by omega)
   have s2:=sw bY dy (by omega) py hl0 (by omega)
   have v1:=dx.at (low:=low) (by omega) (by omega)
   have v2:=dy.at (low:=low) (by omega) (by omega)
   have dgx:=qh hK nx (uk bx dx (by omega) px)
   have dgy:=qh hK ny (uk bY dy (by omega) py)
   have q1:0<=val x.d x.n*2^(x.e-low).toNat:=Int.mul_nonneg (by omega) (Int.le_of_lt (aJ _))
   have q2:0<=val y.d y.n*2^(y.e-low).toNat:=Int.mul_nonneg (by omega) (Int.le_of_lt (aJ _))
   have e1:x.e-low=((x.e-low).toNat:Int):=by omega
   have e2:y.e-low=((y.e-low).toNat:Int):=by omega
   have H1:∀ W,Below w.heap.size w W->Calls Tryz.prog 94 #[.slice x.ao x.n x.cap,.int .i64 (x.e-low)] W fun r w'=>∃ so sn sc,r=.returned (.slice so sn sc)∧bQ w' (.slice so sn sc) (val x.d x.n*2^(x.e-low).toNat)∧Below W.heap.size W w':=fun W hb=>by
    rw[e1]
    refine(mV x.ao x.n x.cap _ x.d W (hx.keeps hb) nx.1 (by omega) (by omega)).mono ?_
    rintro r w' ⟨v,rfl,hA⟩
    obtain⟨so,sn,sc,rfl⟩:=hA.num.shape
    exact⟨so,sn,sc,rfl,by rw[<- e1];exact hA.num,hA.below⟩
   have H2:∀ W,Below w.heap.size w W->Calls Tryz.prog 94 #[.slice y.ao y.n y.cap,.int .i64 (y.e-low)] W fun r w'=>∃ so sn sc,r=.returned (.slice so sn sc)∧bQ w' (.slice so sn sc) (val y.d y.n*2^(y.e-low).toNat)∧Below W.heap.size W w':=fun W hb=>by
    rw[e2]
    refine(mV y.ao y.n y.cap _ y.d W (hy.keeps hb) ny.1 (by omega) (by omega)).mono ?_
    rintro r w' ⟨v,rfl,hA⟩
    obtain⟨so,sn,sc,rfl⟩:=hA.num.shape
    exact⟨so,sn,sc,rfl,by rw[<- e2];exact hA.num,hA.below⟩
   generalize val x.d x.n*2^(x.e-low).toNat=A at *
   generalize val y.d y.n*2^(y.e-low).toNat=B at *
   have dg:=fun W so sn sc M (h:bQ W (.slice so sn sc) M) hM=>h.digits hK hM
   have bk:∀ W p M,bQ W p M->M<2^(2*K)+2^(2*K)->∃ so sn sc d,p=.slice so sn sc∧aM W so sn sc d∧bZ d sn∧val d sn=M∧sn<=37500:=fun W p M h hM=>by
    obtain⟨so,sn,sc,rfl⟩:=h.shape
    obtain⟨d,h1,h2,h3,h4⟩:=h.digits hK hM
    exact⟨so,sn,sc,d,rfl,h1,h2,h3,h4⟩
   refine(vi x y w hx hy (by omega) (by omega) low A B (x.V+y.V) hlow (by omega) (by omega) (by omega) H1 H2 ?_ ?_ ?_ ?_ ?_).mono ?_
   ·intro W p q hp hq
    obtain⟨po,pn,pc,d,rfl,r1,r2,r3,r4⟩:=bk W p A hp (by omega)
    obtain⟨qo,qn,qc,d',rfl,u1,u2,u3,u4⟩:=bk W q B hq (by omega)
    refine(yr _ _ _ _ _ _ d d' W r1 u1 r2 u2 (by omega) (by omega)).mono ?_
    rw[r3,u3]
    rintro r w' ⟨v,rfl,hA⟩
    obtain⟨so,sn,sc,rfl⟩:=hA.num.shape
    exact⟨so,sn,sc,rfl,hA.num,hA.below⟩
   ·intro W p q hp hq
    obtain⟨po,pn,pc,d,rfl,r1,r2,r3,r4⟩:=bk W p A hp (by omega)
    obtain⟨qo,qn,qc,d',rfl,u1,u2,u3,u4⟩:=bk W q B hq (by omega)
    have:=yt po qo pn qn pc qc d d' W r1 u1 r2 u2
    rwa [r3,u3] at this
   ·intro W p q hp hq hle
    obtain⟨po,pn,pc,d,rfl,r1,r2,r3,r4⟩:=bk W p A hp (by omega)
    obtain⟨qo,qn,qc,d',rfl,u1,u2,u3,u4⟩:=bk W q B hq (by omega)
    refine(rj _ _ _ _ _ _ d d' W r1 u1 r2 u2 (by omega) (by rw[r3,u3];exact hle)).mono ?_
    rw[r3,u3]
    rintro r w' ⟨v,rfl,hA⟩
    obtain⟨so,sn,sc,rfl⟩:=hA.num.shape
    exact⟨so,sn,sc,rfl,hA.num,hA.below⟩
   ·intro W p q hp hq hle
    obtain⟨po,pn,pc,d,rfl,r1,r2,r3,r4⟩:=bk W p A hp (by omega)
    obtain⟨qo,qn,qc,d',rfl,u1,u2,u3,u4⟩:=bk W q B hq (by omega)
    refine(rj _ _ _ _ _ _ d' d W u1 r1 u2 r2 (by omega) (by rw[r3,u3];exact hle)).mono ?_
    rw[r3,u3]
    rintro r w' ⟨v,rfl,hA⟩
    obtain⟨so,sn,sc,rfl⟩:=hA.num.shape
    exact⟨so,sn,sc,rfl,hA.num,hA.below⟩
   ·intro W ng s M hs hc
    have hM:M<2^(2*K)+2^(2*K):=by rcases hc with⟨_,_,h⟩|⟨_,_,_,h⟩|⟨_,_,_,h⟩<;>omega
    obtain⟨po,pn,pc,d,rfl,r1,r2,r3,r4⟩:=bk W s M hs hM
    have hV:=Ct (low:=low) hc
    rw[<- v1,<- v2] at hV
    refine(lR ng po pn pc d low W r1 r2.1 (by omega) (by omega) (by omega)).mono ?_
    rw[r3,hV]
    rintro r w' ⟨v,rfl,hD⟩
    obtain⟨ng',s,m',e1,rfl,_,hA⟩:=id hD
    obtain⟨q1,q2,q3,rfl⟩:=hA.num.shape
    exact⟨ng',q1,q2,q3,e1,rfl,hD,hD.below⟩
   ·rintro r w' ⟨v,rfl,hD⟩
    exact⟨v,rfl,hD.below,.inl hD⟩
theorem xD {w:World} {x y:Value} {A B:Int} (hx:aR w x A) (hy:aR w y B) {K:Nat} (hK:K<=560000) (bx:Bd K A) (bY:Bd K B) :
  Calls Tryz.prog 63 #[x,y] w fun r w'=>∃ v,r=.returned v∧iR w w' A B x y v:=by
 obtain⟨ng,s,m,e,rfl,dx,ao,n,cap,d,rfl,hR,hN,rfl⟩:=hx
 obtain⟨ng',s',m',e',rfl,dy,ao',n',cap',d',rfl,hR',hN',rfl⟩:=hy
 obtain rfl:A=(⟨ng,ao,n,cap,d,e⟩:aG).V:=dx.val
 obtain rfl:B=(⟨ng',ao',n',cap',d',e'⟩:aG).V:=dy.val
 exact qj ⟨ng,ao,n,cap,d,e⟩ ⟨ng',ao',n',cap',d',e'⟩ w hR hR' dx hN dy hN' hK bx bY
end Go.Proofs.YtcklaogdjpbagaaGreatDoor
