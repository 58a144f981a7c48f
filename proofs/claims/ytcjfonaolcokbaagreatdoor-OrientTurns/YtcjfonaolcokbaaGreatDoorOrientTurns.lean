/-
  OrientTurns: for every three points the law returns true: exchanging two points turns the sign and the exact value, going around keeps them; of one place twice it is 0; -0 is 0. As a card: the library's tables and the layout of package bits start as the program's text lays them.
-/
import Derived.Test.YtcjfonaolcokbaaGreatDoorPart15
import Derived.Deep.WholeRow
import Derived.Test.YtcjfonaolcokbaaGreatDoorCards
import Derived.Test.YtcjfonaolcokbaaGreatDoorTie
set_option maxRecDepth 100000
set_option maxHeartbeats 8000000
set_option linter.unusedVariables false
set_option linter.unusedSimpArgs false
namespace Go.Proofs.YtcjfonaolcokbaaGreatDoor.orientTurns
open Go Go.ChangeShapes Go.WideShapes Go.ChangeAt Go.RowKit Go.Proofs.YtcjfonaolcokbaaGreatDoor Go.Proofs.YtcjfonaolcokbaaGreatDoor.M
theorem Kj {ax ay bx by' cx cy:Int} (CG':∀ W,Calls Tryz.prog 5 #[.agg #[.int .i64 ax,.int .i64 ay],.agg #[.int .i64 bx,.int .i64 by'],.agg #[.int .i64 cx,.int .i64 cy]] W fun r w'=>r=.returned (.bool false)∧Below W.heap.size W w') (w:World) (H:aD w) :
  Calls Tryz.prog 3 #[.agg #[.int .i64 ax,.int .i64 ay],.agg #[.int .i64 bx,.int .i64 by'],.agg #[.int .i64 cx,.int .i64 cy]] w fun e w'=>e=.returned (.bool true)∧Below w.heap.size w w':=by
 have CG:Hid _:=cH CG'
 clear CG'
 obtain ⟨hb0,a_k,b_k,c_k,hsz0⟩:=IC w (.cells #[.int .i64 ax,.int .i64 ay] 23) (.cells #[.int .i64 bx,.int .i64 by'] 23) (.cells #[.int .i64 cx,.int .i64 cy] 23)
 clear hsz0
 go_enter Tryz.func3,Tryz.ntmps3
 go_wp2_with fail
 generalize (((w.alloc (.cells #[.int .i64 ax,.int .i64 ay] 23)).alloc (.cells #[.int .i64 bx,.int .i64 by'] 23)).alloc (.cells #[.int .i64 cx,.int .i64 cy] 23))=x0 at hb0 a_k b_k c_k ⊢
 replace H:=H.keeps hb0
 refine (A5 _).mono ?_
 rintro _ y1 ⟨rfl,hw1⟩
 replace a_k:=am hw1 a_k
 replace b_k:=am hw1 b_k
 replace c_k:=am hw1 c_k
 replace hb0:=aa hb0 hw1
 replace H:=H.keeps hw1
 have f_a0:=ac a_k 0 rfl
 have f_a1:=ac a_k 1 rfl
 have f_b0:=ac b_k 0 rfl
 have f_b1:=ac b_k 1 rfl
 have f_c0:=ac c_k 0 rfl
 have f_c1:=ac c_k 1 rfl
 go_wp2_with fail
 clear f_a0 f_a1 f_b0 f_b1 f_c0 f_c1
 refine (CG.out _).mono ?_
 rintro _ y2 ⟨rfl,hw2⟩
 replace a_k:=am hw2 a_k
 replace b_k:=am hw2 b_k
 replace c_k:=am hw2 c_k
 replace hb0:=aa hb0 hw2
 replace H:=H.keeps hw2
 go_wp2
 go_ret
 exact ⟨rfl,hb0⟩
theorem Hw {P:Program} {T:TypeId} {i j:Nat} {pos:String} {ty:TypeId} {af:Array Edge} {a:Act} {w w':World} {K:Act->World->Prop} {Q:Exit->Act->World->Prop} (h:(Instr.storeAt T (a.eval (.tmp i)) (a.eval (.tmp j))).run P w=.ok () w') (k:K (a.put none undef) w'):Oper.wp P { dst:=none,op:=.store T (.tmp i) (.tmp j),type:=ty,pos:=pos,after:=af,guard:=none } a w K Q:=by
 unfold Oper.wp
 have e:(execOp a.eval { dst:=none,op:=.store T (.tmp i) (.tmp j),type:=ty,pos:=pos,after:=af,guard:=none }).run P w=.ok .skip w':=by
  show (do Instr.storeAt T (a.eval (.tmp i)) (a.eval (.tmp j)); pure Next.skip:Sem Next).run P w=_
  rw [Sem.run_bind,h]
  rfl
 rw [e]
 exact k
theorem Kk {s:Int} (h:s=1∨s=-1) (D:Int):wrap64 (bz D 0*s)=bz (s*D) 0:=by
 have e:bz D 0=-1∨bz D 0=0∨bz D 0=1:=rf D
 have w:wrap64 (bz D 0*s)=bz D 0*s:=IntWalk.wrap64_in _ ⟨by rcases h with rfl | rfl <;> omega,by rcases h with rfl | rfl <;> omega⟩
 rw [w]
 rcases h with rfl | rfl
 ·rw [Int.mul_one,Int.one_mul]
 ·rw [show -1*D=-D by omega]
  unfold bz
  split <;> split <;> (try split) <;> (try split) <;> omega
structure OD (ax ay bx by' cx cy:Int) (k n0 n1 n2:Nat) (s px py qx qy tx ty:Int):Prop where
 h0:n0<3
 h1:n1<3
 h2:n2<3
 hs:s=1∨s=-1
 ho:∀ (W:World) (g:Nat),W.heap[g]?=some (.cells #[.int .i64 0,.int .i64 1,.int .i64 2,.int .i64 1,.int .i64 1,.int .i64 2,.int .i64 0,.int .i64 1,.int .i64 2,.int .i64 0,.int .i64 1,.int .i64 1,.int .i64 1,.int .i64 0,.int .i64 2,.int .i64 (-1),.int .i64 0,.int .i64 2,.int .i64 1,.int .i64 (-1),.int .i64 2,.int .i64 1,.int .i64 0,.int .i64 (-1)] 38 (0,0))->W.cell? ⟨g,k*4,none⟩=some (.int .i64 n0)∧W.cell? ⟨g,k*4+1,none⟩=some (.int .i64 n1)∧W.cell? ⟨g,k*4+2,none⟩=some (.int .i64 n2)∧W.cell? ⟨g,k*4+3,none⟩=some (.int .i64 s)
 hl:∀ (W:World) (g:Nat),W.heap[g]?=some (.cells #[.int .i64 ax,.int .i64 ay,.int .i64 bx,.int .i64 by',.int .i64 cx,.int .i64 cy] 26 (0,0))->W.cell? ⟨g,n0*2,none⟩=some (.int .i64 px)∧W.cell? ⟨g,n0*2+1,none⟩=some (.int .i64 py)∧W.cell? ⟨g,n1*2,none⟩=some (.int .i64 qx)∧W.cell? ⟨g,n1*2+1,none⟩=some (.int .i64 qy)∧W.cell? ⟨g,n2*2,none⟩=some (.int .i64 tx)∧W.cell? ⟨g,n2*2+1,none⟩=some (.int .i64 ty)
 hd:bV px py qx qy tx ty=s*bV ax ay bx by' cx cy
 hr:(aj ax∧aj ay∧aj bx∧aj by'∧aj cx∧aj cy)->aj px∧aj py∧aj qx∧aj qy∧aj tx∧aj ty
 hp:(ak ax=true∧ak ay=true∧ak bx=true∧ak by'=true∧ak cx=true∧ak cy=true)->ak px=true∧ak py=true∧ak qx=true∧ak qy=true∧ak tx=true∧ak ty=true
theorem Ma (ax ay bx by' cx cy:Int) {k:Nat} (hk:k<6):∃ n0 n1 n2 s px py qx qy tx ty,OD ax ay bx by' cx cy k n0 n1 n2 s px py qx qy tx ty:=by
 obtain ⟨e1,e2,e3,e4,e5⟩:=Hv ax ay bx by' cx cy
 rcases (show k=0∨k=1∨k=2∨k=3∨k=4∨k=5 by omega) with rfl | rfl | rfl | rfl | rfl | rfl
 ·exact ⟨0,1,2,1,ax,ay,bx,by',cx,cy,by omega,by omega,by omega,by omega,fun W g h=>⟨ac h 0 rfl,ac h 1 rfl,ac h 2 rfl,ac h 3 rfl⟩,fun W g h=>⟨ac h 0 rfl,ac h 1 rfl,ac h 2 rfl,ac h 3 rfl,ac h 4 rfl,ac h 5 rfl⟩,by omega,fun ⟨a,b,c,d,e,f⟩=>⟨a,b,c,d,e,f⟩,fun ⟨a,b,c,d,e,f⟩=>⟨a,b,c,d,e,f⟩⟩
 ·exact ⟨1,2,0,1,bx,by',cx,cy,ax,ay,by omega,by omega,by omega,by omega,fun W g h=>⟨ac h 4 rfl,ac h 5 rfl,ac h 6 rfl,ac h 7 rfl⟩,fun W g h=>⟨ac h 2 rfl,ac h 3 rfl,ac h 4 rfl,ac h 5 rfl,ac h 0 rfl,ac h 1 rfl⟩,by rw [e1]; omega,fun ⟨a,b,c,d,e,f⟩=>⟨c,d,e,f,a,b⟩,fun ⟨a,b,c,d,e,f⟩=>⟨c,d,e,f,a,b⟩⟩
 ·exact ⟨2,0,1,1,cx,cy,ax,ay,bx,by',by omega,by omega,by omega,by omega,fun W g h=>⟨ac h 8 rfl,ac h 9 rfl,ac h 10 rfl,ac h 11 rfl⟩,fun W g h=>⟨ac h 4 rfl,ac h 5 rfl,ac h 0 rfl,ac h 1 rfl,ac h 2 rfl,ac h 3 rfl⟩,by rw [e2]; omega,fun ⟨a,b,c,d,e,f⟩=>⟨e,f,a,b,c,d⟩,fun ⟨a,b,c,d,e,f⟩=>⟨e,f,a,b,c,d⟩⟩
 ·exact ⟨1,0,2,-1,bx,by',ax,ay,cx,cy,by omega,by omega,by omega,by omega,fun W g h=>⟨ac h 12 rfl,ac h 13 rfl,ac h 14 rfl,ac h 15 rfl⟩,fun W g h=>⟨ac h 2 rfl,ac h 3 rfl,ac h 0 rfl,ac h 1 rfl,ac h 4 rfl,ac h 5 rfl⟩,by rw [e3]; omega,fun ⟨a,b,c,d,e,f⟩=>⟨c,d,a,b,e,f⟩,fun ⟨a,b,c,d,e,f⟩=>⟨c,d,a,b,e,f⟩⟩
 ·exact ⟨0,2,1,-1,ax,ay,cx,cy,bx,by',by omega,by omega,by omega,by omega,fun W g h=>⟨ac h 16 rfl,ac h 17 rfl,ac h 18 rfl,ac h 19 rfl⟩,fun W g h=>⟨ac h 0 rfl,ac h 1 rfl,ac h 4 rfl,ac h 5 rfl,ac h 2 rfl,ac h 3 rfl⟩,by rw [e4]; omega,fun ⟨a,b,c,d,e,f⟩=>⟨a,b,e,f,c,d⟩,fun ⟨a,b,c,d,e,f⟩=>⟨a,b,e,f,c,d⟩⟩
 ·exact ⟨2,1,0,-1,cx,cy,bx,by',ax,ay,by omega,by omega,by omega,by omega,fun W g h=>⟨ac h 20 rfl,ac h 21 rfl,ac h 22 rfl,ac h 23 rfl⟩,fun W g h=>⟨ac h 4 rfl,ac h 5 rfl,ac h 2 rfl,ac h 3 rfl,ac h 0 rfl,ac h 1 rfl⟩,by rw [e5]; omega,fun ⟨a,b,c,d,e,f⟩=>⟨e,f,c,d,a,b⟩,fun ⟨a,b,c,d,e,f⟩=>⟨e,f,c,d,a,b⟩⟩
theorem Fm {w0 w:World} {g o:Nat} (h:Below w0.heap.size w0 w) (hg:w0.heap.size<=g) (x:Value):Below w0.heap.size w0 (w.setCell ⟨g,o,none⟩ x):=h.setCell (p:=⟨g,o,none⟩) hg x
theorem Mb {B:Nat} {w:World} {g:Bool} {so:Option Addr} {sn sc:Nat} {e V:Int} (h:fG B w V (.agg #[.bool g,.slice so sn sc,.int .i64 e])):(sn=0 ↔ V=0)∧sn<=9223372036854775807∧(sn≠0->fG B w (-V) (.agg #[.bool (!g),.slice so sn sc,.int .i64 e])):=by
 obtain ⟨ng,s,m,e',h1,hy,t,d,hO,hN,hv⟩:=h
 simp only [Value.agg.injEq,Array.mk.injEq,List.cons.injEq,Value.bool.injEq,Value.int.injEq,true_and,and_true] at h1
 obtain ⟨rfl,rfl,rfl⟩:=h1
 obtain ⟨ao,cap,h2,hR⟩:=hO.row
 simp only [Value.slice.injEq] at h2
 obtain ⟨rfl,rfl,rfl⟩:=h2
 have z:sn=0 ↔ V=0:=by
  rw [hy.eq_zero]
  constructor
  ·intro q
   subst q
   exact hv.symm.trans rfl
  ·intro q
   rcases Nat.eq_zero_or_pos sn with z | z
   ·exact z
   ·have h1:=jL hN.1 z hN.2
    have:=cw (sn-1)
    omega
 refine ⟨z,by have:=hR.le; have:=hR.max; omega,fun h0=>⟨_,_,m,_,rfl,hy.neg ?_,_,d,hO,hN,hv⟩⟩
 have:=hy.nonneg
 have:m≠0:=fun q=>h0 (z.2 (hy.eq_zero.2 q))
 omega
theorem sY {B:Nat} {w:World} {V:Int} {v:Value} (hv:fG B w V v) {g:Nat} {xs:Array Value} {z:Nat × Nat} (hg:w.heap[g]?=some (.cells xs 34 z)) (o:Nat) (a:Value):fG B (w.setCell ⟨g,o,none⟩ a) V v :=
 hv.of_blocks fun g' cur z' h=>Below.heap_setCell _ _ _ _ fun e=>by
  change g'=g at e
  rw [e,hg] at h
  simp at h
theorem Hz {ax ay bx by' cx cy:Int} (rax:aj ax) (ray:aj ay) (rbx:aj bx) (rby:aj by') (rcx:aj cx) (rcy:aj cy) (pax:ak ax=true) (pay:ak ay=true) (pbx:ak bx=true) (pby:ak by'=true) (pcx:ak cx=true) (pcy:ak cy=true) (w:World) (H:aD w) :
    Calls Tryz.prog 3 #[.agg #[.int .i64 ax,.int .i64 ay],.agg #[.int .i64 bx,.int .i64 by'],.agg #[.int .i64 cx,.int .i64 cy]] w fun e w'=>e=.returned (.bool true)∧Below w.heap.size w w':=by
  obtain ⟨X0,hX0⟩:∃ X,X=bV ax ay bx by' cx cy*pw (-2148):=⟨_,rfl⟩
  have CG:Hid (∀ W,Calls Tryz.prog 5 #[.agg #[.int .i64 ax,.int .i64 ay],.agg #[.int .i64 bx,.int .i64 by'],.agg #[.int .i64 cx,.int .i64 cy]] W fun r w'=>r=.returned (.bool true)∧Below W.heap.size W w'):=fun W=>by
    have:=wm rax ray rbx rby rcx rcy W
    rw [pax,pay,pbx,pby,pcx,pcy] at this
    exact this
  have CS:Hid (∀ W,aD W->Calls Tryz.prog 6 #[.agg #[.int .i64 ax,.int .i64 ay],.agg #[.int .i64 bx,.int .i64 by'],.agg #[.int .i64 cx,.int .i64 cy]] W fun r w'=>r=.returned (.tuple #[.agg #[.int .i64 (bz (bV ax ay bx by' cx cy) 0),.int .i64 (n7 ax ay bx by' cx cy)],.int .i64 0])∧Below W.heap.size W w'):=fun W h=>pj rax ray rbx rby rcx rcy pax pay pbx pby pcx pcy W h
  have CE:Hid (∀ W,aD W->Calls Tryz.prog 7 #[.agg #[.int .i64 ax,.int .i64 ay],.agg #[.int .i64 bx,.int .i64 by'],.agg #[.int .i64 cx,.int .i64 cy]] W fun r w'=>∃ g o n c e,r=.returned (.tuple #[.agg #[.bool g,.slice o n c,.int .i64 e],.int .i64 0])∧df w' (.agg #[.bool g,.slice o n c,.int .i64 e]) X0∧Below W.heap.size W w'):=fun W h=>by
    refine (rN rax ray rbx rby rcx rcy pax pay pbx pby pcx pcy W h).mono ?_
    rintro _ w' ⟨v,V,rfl,hA,hV,hB⟩
    obtain ⟨g,o,n,c,e,rfl⟩:=bW hA
    rw [hV.unique (Ci rax ray rbx rby rcx rcy pax pay pbx pby pcx pcy),<- hX0] at hA
    exact ⟨g,o,n,c,e,rfl,hA.num,hA.below⟩
  have HX0:Hid (X0=bV ax ay bx by' cx cy*pw (-2148)):=hX0
  clear hX0
  obtain ⟨hb0,a_k,b_k,c_k,hsz0⟩:=IC w (.cells #[.int .i64 ax,.int .i64 ay] 23) (.cells #[.int .i64 bx,.int .i64 by'] 23) (.cells #[.int .i64 cx,.int .i64 cy] 23)
  clear hsz0
  go_enter Tryz.func3,Tryz.ntmps3
  go_wp2_with fail
  generalize (((w.alloc (.cells #[.int .i64 ax,.int .i64 ay] 23)).alloc (.cells #[.int .i64 bx,.int .i64 by'] 23)).alloc (.cells #[.int .i64 cx,.int .i64 cy] 23))=x0 at hb0 a_k b_k c_k ⊢
  replace H:=H.keeps hb0
  refine (A5 _).mono ?_
  rintro _ y1 ⟨rfl,hw1⟩
  replace a_k:=am hw1 a_k
  replace b_k:=am hw1 b_k
  replace c_k:=am hw1 c_k
  replace hb0:=aa hb0 hw1
  replace H:=H.keeps hw1
  have f_a0:=ac a_k 0 rfl
  have f_a1:=ac a_k 1 rfl
  have f_b0:=ac b_k 0 rfl
  have f_b1:=ac b_k 1 rfl
  have f_c0:=ac c_k 0 rfl
  have f_c1:=ac c_k 1 rfl
  go_wp2_with fail
  clear f_a0 f_a1 f_b0 f_b1 f_c0 f_c1
  refine (CG.out _).mono ?_
  rintro _ y2 ⟨rfl,hw2⟩
  replace a_k:=am hw2 a_k
  replace b_k:=am hw2 b_k
  replace c_k:=am hw2 c_k
  replace hb0:=aa hb0 hw2
  replace H:=H.keeps hw2
  have f_a0:=ac a_k 0 rfl
  have f_a1:=ac a_k 1 rfl
  have f_b0:=ac b_k 0 rfl
  have f_b1:=ac b_k 1 rfl
  have f_c0:=ac c_k 0 rfl
  have f_c1:=ac c_k 1 rfl
  replace a_k:=az (.cells #[.int .i64 ax,.int .i64 ay,.int .i64 bx,.int .i64 by',.int .i64 cx,.int .i64 cy] 26) a_k
  replace b_k:=az (.cells #[.int .i64 ax,.int .i64 ay,.int .i64 bx,.int .i64 by',.int .i64 cx,.int .i64 cy] 26) b_k
  replace c_k:=az (.cells #[.int .i64 ax,.int .i64 ay,.int .i64 bx,.int .i64 by',.int .i64 cx,.int .i64 cy] 26) c_k
  have e_a0:=ac a_k 0 rfl
  have e_a1:=ac a_k 1 rfl
  have e_b0:=ac b_k 0 rfl
  have e_b1:=ac b_k 1 rfl
  have e_c0:=ac c_k 0 rfl
  have e_c1:=ac c_k 1 rfl
  go_wp2_with fail
  clear f_a0 f_a1 f_b0 f_b1 f_c0 f_c1
  clear e_a0 e_a1 e_b0 e_b1 e_c0 e_c1
  have l_k:=aB y2 (.cells #[.int .i64 ax,.int .i64 ay,.int .i64 bx,.int .i64 by',.int .i64 cx,.int .i64 cy] 26)
  replace hb0:=aa hb0 (ah y2 (.cells #[.int .i64 ax,.int .i64 ay,.int .i64 bx,.int .i64 by',.int .i64 cx,.int .i64 cy] 26))
  replace H:=H.keeps (ah y2 (.cells #[.int .i64 ax,.int .i64 ay,.int .i64 bx,.int .i64 by',.int .i64 cx,.int .i64 cy] 26))
  generalize hgl:y2.heap.size=gl at l_k ⊢
  clear hgl
  generalize y2.alloc (.cells #[.int .i64 ax,.int .i64 ay,.int .i64 bx,.int .i64 by',.int .i64 cx,.int .i64 cy] 26)=x1 at a_k b_k c_k l_k hb0 H ⊢
  refine (CS.out _ H).mono ?_
  rintro _ y3 ⟨rfl,hw3⟩
  generalize hsg:bz (bV ax ay bx by' cx cy) 0=sgn
  generalize hst0:n7 ax ay bx by' cx cy=st
  replace a_k:=az (.cells #[.int .i64 sgn,.int .i64 st] 28) (am hw3 a_k)
  replace b_k:=az (.cells #[.int .i64 sgn,.int .i64 st] 28) (am hw3 b_k)
  replace c_k:=az (.cells #[.int .i64 sgn,.int .i64 st] 28) (am hw3 c_k)
  replace l_k:=az (.cells #[.int .i64 sgn,.int .i64 st] 28) (am hw3 l_k)
  have v_k:=aB y3 (.cells #[.int .i64 sgn,.int .i64 st] 28)
  replace hb0:=aa (aa hb0 hw3) (ah y3 (.cells #[.int .i64 sgn,.int .i64 st] 28))
  replace H:=(H.keeps hw3).keeps (ah y3 (.cells #[.int .i64 sgn,.int .i64 st] 28))
  have f_a0:=ac a_k 0 rfl
  have f_a1:=ac a_k 1 rfl
  have f_b0:=ac b_k 0 rfl
  have f_b1:=ac b_k 1 rfl
  have f_c0:=ac c_k 0 rfl
  have f_c1:=ac c_k 1 rfl
  go_wp2_with fail
  clear f_a0 f_a1 f_b0 f_b1 f_c0 f_c1
  generalize hgv:y3.heap.size=gv at v_k ⊢
  clear hgv
  generalize y3.alloc (.cells #[.int .i64 sgn,.int .i64 st] 28)=x2 at a_k b_k c_k l_k v_k hb0 H ⊢
  refine (CE.out _ H).mono ?_
  rintro _ y4 ⟨x_g,x_o,x_n,x_c,x_e,rfl,x_D,hw4⟩
  replace a_k:=az (.cells #[.bool x_g,.slice x_o x_n x_c,.int .i64 x_e] 34) (am hw4 a_k)
  replace b_k:=az (.cells #[.bool x_g,.slice x_o x_n x_c,.int .i64 x_e] 34) (am hw4 b_k)
  replace c_k:=az (.cells #[.bool x_g,.slice x_o x_n x_c,.int .i64 x_e] 34) (am hw4 c_k)
  replace l_k:=az (.cells #[.bool x_g,.slice x_o x_n x_c,.int .i64 x_e] 34) (am hw4 l_k)
  replace v_k:=az (.cells #[.bool x_g,.slice x_o x_n x_c,.int .i64 x_e] 34) (am hw4 v_k)
  have x_k:=aB y4 (.cells #[.bool x_g,.slice x_o x_n x_c,.int .i64 x_e] 34)
  replace x_D:=x_D.keeps (ah y4 (.cells #[.bool x_g,.slice x_o x_n x_c,.int .i64 x_e] 34))
  replace hb0:=aa (aa hb0 hw4) (ah y4 (.cells #[.bool x_g,.slice x_o x_n x_c,.int .i64 x_e] 34))
  replace H:=(H.keeps hw4).keeps (ah y4 (.cells #[.bool x_g,.slice x_o x_n x_c,.int .i64 x_e] 34))
  have hT40:(Instr.storeAt 38 (.pointer (some ⟨y4.heap.size+1,0,none⟩)) (.agg #[.int .i64 0,.int .i64 1,.int .i64 2,.int .i64 1,.int .i64 1,.int .i64 2,.int .i64 0,.int .i64 1,.int .i64 2,.int .i64 0,.int .i64 1,.int .i64 1,.int .i64 1,.int .i64 0,.int .i64 2,.int .i64 (-1),.int .i64 0,.int .i64 2,.int .i64 1,.int .i64 (-1),.int .i64 2,.int .i64 1,.int .i64 0,.int .i64 (-1)])).run Tryz.prog ((y4.alloc (.cells #[.bool x_g,.slice x_o x_n x_c,.int .i64 x_e] 34)).alloc (.cells #[.int .i64 0,.int .i64 0,.int .i64 0,.int .i64 0,.int .i64 0,.int .i64 0,.int .i64 0,.int .i64 0,.int .i64 0,.int .i64 0,.int .i64 0,.int .i64 0,.int .i64 0,.int .i64 0,.int .i64 0,.int .i64 0,.int .i64 0,.int .i64 0,.int .i64 0,.int .i64 0,.int .i64 0,.int .i64 0,.int .i64 0,.int .i64 0] 38))=.ok () ((y4.alloc (.cells #[.bool x_g,.slice x_o x_n x_c,.int .i64 x_e] 34)).alloc (.cells #[.int .i64 0,.int .i64 1,.int .i64 2,.int .i64 1,.int .i64 1,.int .i64 2,.int .i64 0,.int .i64 1,.int .i64 2,.int .i64 0,.int .i64 1,.int .i64 1,.int .i64 1,.int .i64 0,.int .i64 2,.int .i64 (-1),.int .i64 0,.int .i64 2,.int .i64 1,.int .i64 (-1),.int .i64 2,.int .i64 1,.int .i64 0,.int .i64 (-1)] 38)):=by
    have:=run_storeAt_new (P:=Tryz.prog) (y4.alloc (.cells #[.bool x_g,.slice x_o x_n x_c,.int .i64 x_e] 34)) 38 #[.int .i64 0,.int .i64 0,.int .i64 0,.int .i64 0,.int .i64 0,.int .i64 0,.int .i64 0,.int .i64 0,.int .i64 0,.int .i64 0,.int .i64 0,.int .i64 0,.int .i64 0,.int .i64 0,.int .i64 0,.int .i64 0,.int .i64 0,.int .i64 0,.int .i64 0,.int .i64 0,.int .i64 0,.int .i64 0,.int .i64 0,.int .i64 0] #[.int .i64 0,.int .i64 1,.int .i64 2,.int .i64 1,.int .i64 1,.int .i64 2,.int .i64 0,.int .i64 1,.int .i64 2,.int .i64 0,.int .i64 1,.int .i64 1,.int .i64 1,.int .i64 0,.int .i64 2,.int .i64 (-1),.int .i64 0,.int .i64 2,.int .i64 1,.int .i64 (-1),.int .i64 2,.int .i64 1,.int .i64 0,.int .i64 (-1)] (by kernel_rfl) rfl (by kernel_rfl)
    rw [a8] at this
    exact this
  have HT40:=cH hT40
  clear hT40
  dsimp only
  iterate 49 go_step
  refine Hw HT40.out ?_
  dsimp only [Act.put]
  go_wp2_with fail
  clear HT40
  replace a_k:=az (.cells #[.int .i64 0,.int .i64 1,.int .i64 2,.int .i64 1,.int .i64 1,.int .i64 2,.int .i64 0,.int .i64 1,.int .i64 2,.int .i64 0,.int .i64 1,.int .i64 1,.int .i64 1,.int .i64 0,.int .i64 2,.int .i64 (-1),.int .i64 0,.int .i64 2,.int .i64 1,.int .i64 (-1),.int .i64 2,.int .i64 1,.int .i64 0,.int .i64 (-1)] 38) a_k
  replace b_k:=az (.cells #[.int .i64 0,.int .i64 1,.int .i64 2,.int .i64 1,.int .i64 1,.int .i64 2,.int .i64 0,.int .i64 1,.int .i64 2,.int .i64 0,.int .i64 1,.int .i64 1,.int .i64 1,.int .i64 0,.int .i64 2,.int .i64 (-1),.int .i64 0,.int .i64 2,.int .i64 1,.int .i64 (-1),.int .i64 2,.int .i64 1,.int .i64 0,.int .i64 (-1)] 38) b_k
  replace c_k:=az (.cells #[.int .i64 0,.int .i64 1,.int .i64 2,.int .i64 1,.int .i64 1,.int .i64 2,.int .i64 0,.int .i64 1,.int .i64 2,.int .i64 0,.int .i64 1,.int .i64 1,.int .i64 1,.int .i64 0,.int .i64 2,.int .i64 (-1),.int .i64 0,.int .i64 2,.int .i64 1,.int .i64 (-1),.int .i64 2,.int .i64 1,.int .i64 0,.int .i64 (-1)] 38) c_k
  replace l_k:=az (.cells #[.int .i64 0,.int .i64 1,.int .i64 2,.int .i64 1,.int .i64 1,.int .i64 2,.int .i64 0,.int .i64 1,.int .i64 2,.int .i64 0,.int .i64 1,.int .i64 1,.int .i64 1,.int .i64 0,.int .i64 2,.int .i64 (-1),.int .i64 0,.int .i64 2,.int .i64 1,.int .i64 (-1),.int .i64 2,.int .i64 1,.int .i64 0,.int .i64 (-1)] 38) l_k
  replace v_k:=az (.cells #[.int .i64 0,.int .i64 1,.int .i64 2,.int .i64 1,.int .i64 1,.int .i64 2,.int .i64 0,.int .i64 1,.int .i64 2,.int .i64 0,.int .i64 1,.int .i64 1,.int .i64 1,.int .i64 0,.int .i64 2,.int .i64 (-1),.int .i64 0,.int .i64 2,.int .i64 1,.int .i64 (-1),.int .i64 2,.int .i64 1,.int .i64 0,.int .i64 (-1)] 38) v_k
  replace x_k:=az (.cells #[.int .i64 0,.int .i64 1,.int .i64 2,.int .i64 1,.int .i64 1,.int .i64 2,.int .i64 0,.int .i64 1,.int .i64 2,.int .i64 0,.int .i64 1,.int .i64 1,.int .i64 1,.int .i64 0,.int .i64 2,.int .i64 (-1),.int .i64 0,.int .i64 2,.int .i64 1,.int .i64 (-1),.int .i64 2,.int .i64 1,.int .i64 0,.int .i64 (-1)] 38) x_k
  have o_k:((y4.alloc (.cells #[.bool x_g,.slice x_o x_n x_c,.int .i64 x_e] 34)).alloc (.cells #[.int .i64 0,.int .i64 1,.int .i64 2,.int .i64 1,.int .i64 1,.int .i64 2,.int .i64 0,.int .i64 1,.int .i64 2,.int .i64 0,.int .i64 1,.int .i64 1,.int .i64 1,.int .i64 0,.int .i64 2,.int .i64 (-1),.int .i64 0,.int .i64 2,.int .i64 1,.int .i64 (-1),.int .i64 2,.int .i64 1,.int .i64 0,.int .i64 (-1)] 38)).heap[y4.heap.size+1]?=some (.cells #[.int .i64 0,.int .i64 1,.int .i64 2,.int .i64 1,.int .i64 1,.int .i64 2,.int .i64 0,.int .i64 1,.int .i64 2,.int .i64 0,.int .i64 1,.int .i64 1,.int .i64 1,.int .i64 0,.int .i64 2,.int .i64 (-1),.int .i64 0,.int .i64 2,.int .i64 1,.int .i64 (-1),.int .i64 2,.int .i64 1,.int .i64 0,.int .i64 (-1)] 38):=bJ (.cells #[.int .i64 0,.int .i64 1,.int .i64 2,.int .i64 1,.int .i64 1,.int .i64 2,.int .i64 0,.int .i64 1,.int .i64 2,.int .i64 0,.int .i64 1,.int .i64 1,.int .i64 1,.int .i64 0,.int .i64 2,.int .i64 (-1),.int .i64 0,.int .i64 2,.int .i64 1,.int .i64 (-1),.int .i64 2,.int .i64 1,.int .i64 0,.int .i64 (-1)] 38) (a8 _ _).symm
  replace x_D:=x_D.keeps (ah (y4.alloc (.cells #[.bool x_g,.slice x_o x_n x_c,.int .i64 x_e] 34)) (.cells #[.int .i64 0,.int .i64 1,.int .i64 2,.int .i64 1,.int .i64 1,.int .i64 2,.int .i64 0,.int .i64 1,.int .i64 2,.int .i64 0,.int .i64 1,.int .i64 1,.int .i64 1,.int .i64 0,.int .i64 2,.int .i64 (-1),.int .i64 0,.int .i64 2,.int .i64 1,.int .i64 (-1),.int .i64 2,.int .i64 1,.int .i64 0,.int .i64 (-1)] 38))
  replace hb0:=aa hb0 (ah (y4.alloc (.cells #[.bool x_g,.slice x_o x_n x_c,.int .i64 x_e] 34)) (.cells #[.int .i64 0,.int .i64 1,.int .i64 2,.int .i64 1,.int .i64 1,.int .i64 2,.int .i64 0,.int .i64 1,.int .i64 2,.int .i64 0,.int .i64 1,.int .i64 1,.int .i64 1,.int .i64 0,.int .i64 2,.int .i64 (-1),.int .i64 0,.int .i64 2,.int .i64 1,.int .i64 (-1),.int .i64 2,.int .i64 1,.int .i64 0,.int .i64 (-1)] 38))
  replace H:=H.keeps (ah (y4.alloc (.cells #[.bool x_g,.slice x_o x_n x_c,.int .i64 x_e] 34)) (.cells #[.int .i64 0,.int .i64 1,.int .i64 2,.int .i64 1,.int .i64 1,.int .i64 2,.int .i64 0,.int .i64 1,.int .i64 2,.int .i64 0,.int .i64 1,.int .i64 1,.int .i64 1,.int .i64 0,.int .i64 2,.int .i64 (-1),.int .i64 0,.int .i64 2,.int .i64 1,.int .i64 (-1),.int .i64 2,.int .i64 1,.int .i64 0,.int .i64 (-1)] 38))
  have HSG:Hid (bz (bV ax ay bx by' cx cy) 0=sgn):=hsg
  have HST:Hid (n7 ax ay bx by' cx cy=st):=hst0
  clear hsg hst0
  generalize (y4.alloc (.cells #[.bool x_g,.slice x_o x_n x_c,.int .i64 x_e] 34)).alloc (.cells #[.int .i64 0,.int .i64 1,.int .i64 2,.int .i64 1,.int .i64 1,.int .i64 2,.int .i64 0,.int .i64 1,.int .i64 2,.int .i64 0,.int .i64 1,.int .i64 1,.int .i64 1,.int .i64 0,.int .i64 2,.int .i64 (-1),.int .i64 0,.int .i64 2,.int .i64 1,.int .i64 (-1),.int .i64 2,.int .i64 1,.int .i64 0,.int .i64 (-1)] 38)=x4 at a_k b_k c_k l_k v_k x_k o_k x_D hb0 H ⊢
  obtain ⟨go,hgo⟩:∃ g,g=y4.heap.size+1:=⟨_,rfl⟩
  rw [<- hgo] at o_k ⊢
  clear hgo
  generalize y4.heap.size=gx at x_k ⊢
  go_loopw [15] (fun iv wr=>∃ k:Nat,k<=6∧iv=.int .i64 k∧Below x4.heap.size x4 wr) (fun iv _=>6-(intOf iv).toNat)
  case atStart=>exact ⟨0,by omega,rfl,aA _⟩
  case round=>
    obtain ⟨k,hk,rfl,hbw⟩:=hrel
    by_cases hlt:k<6
    · obtain ⟨n0,n1,n2,s,px,py,qx,qy,tx,ty,R⟩:=Ma ax ay bx by' cx cy hlt
      obtain ⟨co0,co1,co2,co3⟩:=R.ho wr go (am hbw o_k)
      have i0:(0:Int)<=(k:Int):=by omega
      have i1:(k:Int)<6:=by omega
      have C2:Hid (∀ W,aD W->Calls Tryz.prog 6 #[.agg #[.int .i64 px,.int .i64 py],.agg #[.int .i64 qx,.int .i64 qy],.agg #[.int .i64 tx,.int .i64 ty]] W fun r w'=>r=.returned (.tuple #[.agg #[.int .i64 (bz (bV px py qx qy tx ty) 0),.int .i64 (n7 px py qx qy tx ty)],.int .i64 0])∧Below W.heap.size W w'):=fun W h=>by
        obtain ⟨r1,r2,r3,r4,r5,r6⟩:=R.hr ⟨rax,ray,rbx,rby,rcx,rcy⟩
        obtain ⟨p1,p2,p3,p4,p5,p6⟩:=R.hp ⟨pax,pay,pbx,pby,pcx,pcy⟩
        exact pj r1 r2 r3 r4 r5 r6 p1 p2 p3 p4 p5 p6 W h
      have E2:Hid (∀ W,aD W->Calls Tryz.prog 7 #[.agg #[.int .i64 px,.int .i64 py],.agg #[.int .i64 qx,.int .i64 qy],.agg #[.int .i64 tx,.int .i64 ty]] W fun r w'=>∃ g o n c e,r=.returned (.tuple #[.agg #[.bool g,.slice o n c,.int .i64 e],.int .i64 0])∧bG W w' (s*X0) (.agg #[.bool g,.slice o n c,.int .i64 e])):=fun W h=>by
        obtain ⟨r1,r2,r3,r4,r5,r6⟩:=R.hr ⟨rax,ray,rbx,rby,rcx,rcy⟩
        obtain ⟨p1,p2,p3,p4,p5,p6⟩:=R.hp ⟨pax,pay,pbx,pby,pcx,pcy⟩
        refine (rN r1 r2 r3 r4 r5 r6 p1 p2 p3 p4 p5 p6 W h).mono ?_
        rintro _ w' ⟨v,V,rfl,hA,hV,hB⟩
        obtain ⟨g,o,n,c,e,rfl⟩:=bW hA
        rw [hV.unique (Ci r1 r2 r3 r4 r5 r6 p1 p2 p3 p4 p5 p6),R.hd,Int.mul_assoc,<- HX0.out] at hA
        exact ⟨g,o,n,c,e,rfl,hA⟩
      have hj0:(n0:Int)<3:=by have:=R.h0; omega
      have hj1:(n1:Int)<3:=by have:=R.h1; omega
      have hj2:(n2:Int)<3:=by have:=R.h2; omega
      generalize hs2:bz (bV px py qx qy tx ty) 0=sg2 at C2
      generalize n7 px py qx qy tx ty=st2 at C2
      have HM:Hid (wrap64 (sgn*s)=sg2):=by
        rw [<- hs2,R.hd,<- HSG.out]
        exact Kk R.hs _
      clear hs2
      have RL:=fun W h=>R.hl W gl h
      have RLh:=cH RL
      clear RL
      have RS:Hid (s=1∨s=-1):=R.hs
      clear R
      go_wp2_with fail
      clear co0 co1 co2 co3
      have a_r:=az (.cells #[.int .i64 n0,.int .i64 n1,.int .i64 n2,.int .i64 s] 37) (am hbw a_k)
      have b_r:=az (.cells #[.int .i64 n0,.int .i64 n1,.int .i64 n2,.int .i64 s] 37) (am hbw b_k)
      have c_r:=az (.cells #[.int .i64 n0,.int .i64 n1,.int .i64 n2,.int .i64 s] 37) (am hbw c_k)
      have l_r:=az (.cells #[.int .i64 n0,.int .i64 n1,.int .i64 n2,.int .i64 s] 37) (am hbw l_k)
      have v_r:=az (.cells #[.int .i64 n0,.int .i64 n1,.int .i64 n2,.int .i64 s] 37) (am hbw v_k)
      have x_r:=az (.cells #[.int .i64 n0,.int .i64 n1,.int .i64 n2,.int .i64 s] 37) (am hbw x_k)
      have o_r:=az (.cells #[.int .i64 n0,.int .i64 n1,.int .i64 n2,.int .i64 s] 37) (am hbw o_k)
      have g_k:=aB wr (.cells #[.int .i64 n0,.int .i64 n1,.int .i64 n2,.int .i64 s] 37)
      have hbr:=aa hb0 (aa hbw (ah wr (.cells #[.int .i64 n0,.int .i64 n1,.int .i64 n2,.int .i64 s] 37)))
      have Hr:=H.keeps (aa hbw (ah wr (.cells #[.int .i64 n0,.int .i64 n1,.int .i64 n2,.int .i64 s] 37)))
      have xr_D:=x_D.keeps (aa hbw (ah wr (.cells #[.int .i64 n0,.int .i64 n1,.int .i64 n2,.int .i64 s] 37)))
      have hsx:Below x4.heap.size x4 (wr.alloc (.cells #[.int .i64 n0,.int .i64 n1,.int .i64 n2,.int .i64 s] 37)):=aa hbw (ah wr (.cells #[.int .i64 n0,.int .i64 n1,.int .i64 n2,.int .i64 s] 37))
      generalize hg4:wr.heap.size=g4 at g_k ⊢
      clear hg4
      generalize wr.alloc (.cells #[.int .i64 n0,.int .i64 n1,.int .i64 n2,.int .i64 s] 37)=xr at a_r b_r c_r l_r v_r x_r o_r g_k hbr Hr xr_D hsx ⊢
      have HHy5:=Hr
      have KKy5:∀ W,Below xr.heap.size xr W->W.cell? ⟨g4,0,none⟩=some (.int .i64 n0)∧W.cell? ⟨g4,1,none⟩=some (.int .i64 n1)∧W.cell? ⟨g4,2,none⟩=some (.int .i64 n2)∧W.cell? ⟨gl,n0*2,none⟩=some (.int .i64 px)∧W.cell? ⟨gl,n0*2+1,none⟩=some (.int .i64 py)∧W.cell? ⟨gl,n1*2,none⟩=some (.int .i64 qx)∧W.cell? ⟨gl,n1*2+1,none⟩=some (.int .i64 qy)∧W.cell? ⟨gl,n2*2,none⟩=some (.int .i64 tx)∧W.cell? ⟨gl,n2*2+1,none⟩=some (.int .i64 ty):=fun W hb=>⟨aF (ac g_k 0 rfl) hb,aF (ac g_k 1 rfl) hb,aF (ac g_k 2 rfl) hb,aF ((RLh.out _ l_r).1) hb,aF ((RLh.out _ l_r).2.1) hb,aF ((RLh.out _ l_r).2.2.1) hb,aF ((RLh.out _ l_r).2.2.2.1) hb,aF ((RLh.out _ l_r).2.2.2.2.1) hb,aF ((RLh.out _ l_r).2.2.2.2.2) hb⟩
      have hC0:=(aA xr).drew
      go_wp2_with fail
      go_region_held3 (fun W=>W.cell? ⟨g4,0,none⟩=some (.int .i64 n0)∧W.cell? ⟨g4,1,none⟩=some (.int .i64 n1)∧W.cell? ⟨g4,2,none⟩=some (.int .i64 n2)∧W.cell? ⟨gl,n0*2,none⟩=some (.int .i64 px)∧W.cell? ⟨gl,n0*2+1,none⟩=some (.int .i64 py)∧W.cell? ⟨gl,n1*2,none⟩=some (.int .i64 qx)∧W.cell? ⟨gl,n1*2+1,none⟩=some (.int .i64 qy)∧W.cell? ⟨gl,n2*2,none⟩=some (.int .i64 tx)∧W.cell? ⟨gl,n2*2+1,none⟩=some (.int .i64 ty))
        (with_reducible first | assumption | exact KKy5 _ (hC0) | exact KKy5 _ ((ah _ _).drew) | exact KKy5 _ (aa hC1 (ah _ _)) | exact KKy5 _ (hC1) | exact KKy5 _ ((hC1).setCell (Nat.le_refl _) _) | exact KKy5 _ (((hC1).setCell (Nat.le_refl _) _).setCell (Nat.le_refl _) _) | fail)
        ((go_at_call 6; refine (C2.out _ (by with_reducible first | exact HHy5.keeps (aA xr).drew | exact HHy5.keeps (ah xr _).drew)).mono ?_; rintro _ y5 ⟨rfl,hq⟩; skip; have hC1:Below xr.heap.size xr y5:=(by with_reducible first | exact aa (aA xr).drew hq | exact aa (ah xr _).drew hq); (with_reducible first | (have qz:y5.heap[xr.heap.size]?=some (.cells #[.int .i64 0,.int .i64 0] 28 (0,0)):=am hq (gL xr _); have cz0:=ac qz 0 rfl; have zz0:=aw qz 0; have cz1:=ac qz 1 rfl; have zz1:=aw qz 1) | skip)))
      all_goals
        first
          | (have _t:=qz; have q_k:=aE (aE qz 0 (.int .i64 sg2)) 1 (.int .i64 st2); have hq6:Below xr.heap.size xr ((y5.setCell ⟨xr.heap.size,0,none⟩ (.int .i64 sg2)).setCell ⟨xr.heap.size,1,none⟩ (.int .i64 st2)):=(hC1.setCell (Nat.le_refl _) _).setCell (Nat.le_refl _) _; clear cz0 cz1 zz0 zz1 qz; generalize (y5.setCell ⟨xr.heap.size,0,none⟩ (.int .i64 sg2)).setCell ⟨xr.heap.size,1,none⟩ (.int .i64 st2)=x5 at q_k hq6 ⊢; obtain ⟨gq,hgq⟩:∃ g,g=xr.heap.size:=⟨_,rfl⟩; rw [<- hgq] at q_k ⊢; clear hgq)
          | (have q_k:=aB y5 (.cells #[.int .i64 sg2,.int .i64 st2] 28); have hq6:Below xr.heap.size xr (y5.alloc (.cells #[.int .i64 sg2,.int .i64 st2] 28)):=aa hC1 (ah y5 _); generalize y5.alloc (.cells #[.int .i64 sg2,.int .i64 st2] 28)=x5 at q_k hq6 ⊢; obtain ⟨gq,hgq⟩:∃ g,g=y5.heap.size:=⟨_,rfl⟩; rw [<- hgq] at q_k ⊢; clear hgq)
        clear hC1 hC0 hq KKy5
      all_goals
        have a_5:=am hq6 a_r
        have b_5:=am hq6 b_r
        have c_5:=am hq6 c_r
        have l_5:=am hq6 l_r
        have v_5:=am hq6 v_r
        have x_5:=am hq6 x_r
        have o_5:=am hq6 o_r
        have g_5:=am hq6 g_k
        have HHy6:=Hr.keeps hq6
        have x5_D:=xr_D.keeps hq6
        have hbr5:=aa hbr hq6
        have hsx5:=aa hsx hq6
        have KKy6:∀ W,Below x5.heap.size x5 W->W.cell? ⟨g4,0,none⟩=some (.int .i64 n0)∧W.cell? ⟨g4,1,none⟩=some (.int .i64 n1)∧W.cell? ⟨g4,2,none⟩=some (.int .i64 n2)∧W.cell? ⟨gl,n0*2,none⟩=some (.int .i64 px)∧W.cell? ⟨gl,n0*2+1,none⟩=some (.int .i64 py)∧W.cell? ⟨gl,n1*2,none⟩=some (.int .i64 qx)∧W.cell? ⟨gl,n1*2+1,none⟩=some (.int .i64 qy)∧W.cell? ⟨gl,n2*2,none⟩=some (.int .i64 tx)∧W.cell? ⟨gl,n2*2+1,none⟩=some (.int .i64 ty):=fun W hb=>⟨aF (ac g_5 0 rfl) hb,aF (ac g_5 1 rfl) hb,aF (ac g_5 2 rfl) hb,aF ((RLh.out _ l_5).1) hb,aF ((RLh.out _ l_5).2.1) hb,aF ((RLh.out _ l_5).2.2.1) hb,aF ((RLh.out _ l_5).2.2.2.1) hb,aF ((RLh.out _ l_5).2.2.2.2.1) hb,aF ((RLh.out _ l_5).2.2.2.2.2) hb⟩
        have hC0:=(aA x5).drew
        go_wp2_with fail
        go_region_held3 (fun W=>W.cell? ⟨g4,0,none⟩=some (.int .i64 n0)∧W.cell? ⟨g4,1,none⟩=some (.int .i64 n1)∧W.cell? ⟨g4,2,none⟩=some (.int .i64 n2)∧W.cell? ⟨gl,n0*2,none⟩=some (.int .i64 px)∧W.cell? ⟨gl,n0*2+1,none⟩=some (.int .i64 py)∧W.cell? ⟨gl,n1*2,none⟩=some (.int .i64 qx)∧W.cell? ⟨gl,n1*2+1,none⟩=some (.int .i64 qy)∧W.cell? ⟨gl,n2*2,none⟩=some (.int .i64 tx)∧W.cell? ⟨gl,n2*2+1,none⟩=some (.int .i64 ty))
          (with_reducible first | assumption | exact KKy6 _ (hC0) | exact KKy6 _ ((ah _ _).drew) | exact KKy6 _ (aa hC1 (ah _ _)) | exact KKy6 _ (hC1) | exact KKy6 _ ((hC1).setCell (Nat.le_refl _) _) | exact KKy6 _ (((hC1).setCell (Nat.le_refl _) _).setCell (Nat.le_refl _) _) | exact KKy6 _ ((((hC1).setCell (Nat.le_refl _) _).setCell (Nat.le_refl _) _).setCell (Nat.le_refl _) _) | fail)
          ((go_at_call 7; refine (E2.out _ (by with_reducible first | exact HHy6.keeps (aA x5).drew | exact HHy6.keeps (ah x5 _).drew)).mono ?_; rintro _ y6 ⟨yg,yo,yn,yc,ye,rfl,hA6⟩; have hq:=hA6.below; have hC1:Below x5.heap.size x5 y6:=(by with_reducible first | exact aa (aA x5).drew hq | exact aa (ah x5 _).drew hq); (with_reducible first | (have qz:y6.heap[x5.heap.size]?=some (.cells #[.bool false,.slice none 0 0,.int .i64 0] 34 (0,0)):=am hq (gL x5 _); have cz0:=ac qz 0 rfl; have zz0:=aw qz 0; have cz1:=ac qz 1 rfl; have zz1:=aw qz 1; have cz2:=ac qz 2 rfl; have zz2:=aw qz 2) | skip)))
        all_goals
          first
            | (have _t:=qz; have y_k:=aE (aE (aE qz 0 (.bool yg)) 1 (.slice yo yn yc)) 2 (.int .i64 ye); have hq7:Below x5.heap.size x5 (((y6.setCell ⟨x5.heap.size,0,none⟩ (.bool yg)).setCell ⟨x5.heap.size,1,none⟩ (.slice yo yn yc)).setCell ⟨x5.heap.size,2,none⟩ (.int .i64 ye)):=bC hC1 (Nat.le_refl _) _ _ _; have y_D:fG x5.heap.size (((y6.setCell ⟨x5.heap.size,0,none⟩ (.bool yg)).setCell ⟨x5.heap.size,1,none⟩ (.slice yo yn yc)).setCell ⟨x5.heap.size,2,none⟩ (.int .i64 ye)) (s*X0) (.agg #[.bool yg,.slice yo yn yc,.int .i64 ye]):=fK (hA6.dan.lower (ah x5 _).size) qz _ _ _; clear cz0 cz1 cz2 zz0 zz1 zz2 qz hA6; generalize ((y6.setCell ⟨x5.heap.size,0,none⟩ (.bool yg)).setCell ⟨x5.heap.size,1,none⟩ (.slice yo yn yc)).setCell ⟨x5.heap.size,2,none⟩ (.int .i64 ye)=x6 at y_k hq7 y_D ⊢; obtain ⟨gy,hgy⟩:∃ g,g=x5.heap.size:=⟨_,rfl⟩; have hge:x5.heap.size<=gy:=Nat.le_of_eq hgy.symm; rw [<- hgy] at y_k ⊢; clear hgy)
            | (have y_k:=aB y6 (.cells #[.bool yg,.slice yo yn yc,.int .i64 ye] 34); have hq7:Below x5.heap.size x5 (y6.alloc (.cells #[.bool yg,.slice yo yn yc,.int .i64 ye] 34)):=aa hC1 (ah y6 _); have y_D:fG x5.heap.size (y6.alloc (.cells #[.bool yg,.slice yo yn yc,.int .i64 ye] 34)) (s*X0) (.agg #[.bool yg,.slice yo yn yc,.int .i64 ye]):=(hA6.dan.lower (aA x5).drew.size).keeps (ah y6 _); clear hA6; generalize y6.alloc (.cells #[.bool yg,.slice yo yn yc,.int .i64 ye] 34)=x6 at y_k hq7 y_D ⊢; obtain ⟨gy,hgy⟩:∃ g,g=y6.heap.size:=⟨_,rfl⟩; have hge:x5.heap.size<=gy:=Nat.le_trans hC1.size (Nat.le_of_eq hgy.symm); rw [<- hgy] at y_k ⊢; clear hgy)
          clear hC1 hC0 hq KKy6
        all_goals
          have q_6:=am hq7 q_k
          have v_6:=am hq7 v_5
          have x_6:=am hq7 x_5
          have g_6:=am hq7 g_5
          have x6_D:=x5_D.keeps hq7
          have hsx6:=aa hsx5 hq7
          have hm:=HM.out
          have w0:=ac q_6 0 rfl
          have w1:=ac v_6 0 rfl
          have w2:=ac g_6 3 rfl
          have NU:∀ x W,Calls Tryz.prog 8 #[.int .i64 x] W fun e w'=>e=.returned (.int .i64 x)∧w'=W:=Ch
          have HNU:=cH NU
          clear NU
          obtain ⟨zl,zm,zn⟩:=Mb y_D
          have HZN:=cH zn
          clear zn
          have k0:=ac y_k 0 rfl
          have k1:=ac y_k 1 rfl
          have k2:=ac y_k 2 rfl
          have f0:=aw y_k 0
          have j0:=ac x_6 0 rfl
          have j1:=ac x_6 1 rfl
          have j2:=ac x_6 2 rfl
          go_wp2_with fail
          refine (HNU.out _ _).mono ?_
          rintro _ wn ⟨rfl,hwn⟩
          replace hwn:=hwn.symm
          subst hwn
          go_wp2_with fail
          refine (HNU.out _ _).mono ?_
          rintro _ wn ⟨rfl,hwn⟩
          replace hwn:=hwn.symm
          subst hwn
          have ht:sgn=-1∨sgn=0∨sgn=1:=by
            rw [<- HSG.out]
            exact rf _
          have HSG':Hid True:=trivial
          clear HSG hm
          rcases ht with rfl | rfl | rfl
          · rcases RS.out with rfl | rfl
            · have e2:sg2=(-1):=by rw [<- HM.out]; exact (IntWalk.wrap64_in _ ⟨by decide,by decide⟩).trans (by decide)
              subst e2
              clear HM
              have CM:Hid (Calls Tryz.prog 9 #[.agg #[.bool x_g,.slice x_o x_n x_c,.int .i64 x_e],.agg #[.bool yg,.slice yo yn yc,.int .i64 ye]] x6 fun r w'=>r=.returned (.bool true)∧Below x6.heap.size x6 w'):=by
                have:=ji x6_D y_D.num
                rw [Int.one_mul,decide_eq_true rfl] at this
                exact this
              go_wp2_with fail
              refine CM.out.mono ?_
              rintro _ x7 ⟨rfl,hw7⟩
              go_wp2
              go_roundw
              case rel=>exact ⟨k+1,by omega,by go_num,aa hsx6 hw7⟩
              case measure=>simp [intOf]; omega
            · have e2:sg2=1:=by rw [<- HM.out]; exact (IntWalk.wrap64_in _ ⟨by decide,by decide⟩).trans (by decide)
              subst e2
              clear HM
              by_cases hy0:yn=0
              · have d0:¬ 0<yn:=by omega
                have CM:Hid (Calls Tryz.prog 9 #[.agg #[.bool x_g,.slice x_o x_n x_c,.int .i64 x_e],.agg #[.bool yg,.slice yo yn yc,.int .i64 ye]] x6 fun r w'=>r=.returned (.bool true)∧Below x6.heap.size x6 w'):=by
                  have e:=zl.1 hy0
                  have:=ji x6_D y_D.num
                  rw [decide_eq_true (show X0=-1*X0 by omega)] at this
                  exact this
                clear zl zm d0
                subst hy0
                go_wp2_with fail
                refine CM.out.mono ?_
                rintro _ x7 ⟨rfl,hw7⟩
                go_wp2
                go_roundw
                case rel=>exact ⟨k+1,by omega,by go_num,aa hsx6 hw7⟩
                case measure=>simp [intOf]; omega
              · have d0:0<yn:=by omega
                have d1:(0:Int)<(yn:Int):=by omega
                have y7_k:=aE y_k 0 (.bool (!yg))
                have hq8:Below x5.heap.size x5 (x6.setCell ⟨gy,0,none⟩ (.bool (!yg))):=hq7.setCell (p:=⟨gy,0,none⟩) hge _
                have hsx8:Below x4.heap.size x4 (x6.setCell ⟨gy,0,none⟩ (.bool (!yg))):=hsx6.setCell (p:=⟨gy,0,none⟩) (Nat.le_trans hsx5.size hge) _
                have y7_D:=sY (HZN.out hy0) y_k 0 (.bool (!yg))
                have x7_D:=x5_D.keeps hq8
                have x_7:=am hq8 x_5
                have k3:=ac y7_k 0 rfl
                have k4:=ac y7_k 1 rfl
                have k5:=ac y7_k 2 rfl
                have j3:=ac x_7 0 rfl
                have j4:=ac x_7 1 rfl
                have j5:=ac x_7 2 rfl
                have CM:Hid (Calls Tryz.prog 9 #[.agg #[.bool x_g,.slice x_o x_n x_c,.int .i64 x_e],.agg #[.bool (!yg),.slice yo yn yc,.int .i64 ye]] (x6.setCell ⟨gy,0,none⟩ (.bool (!yg))) fun r w'=>r=.returned (.bool true)∧Below (x6.setCell ⟨gy,0,none⟩ (.bool (!yg))).heap.size (x6.setCell ⟨gy,0,none⟩ (.bool (!yg))) w'):=by
                  have:=ji x7_D y7_D.num
                  rw [decide_eq_true (show X0=- (-1*X0) by omega)] at this
                  exact this
                go_wp2_with fail
                refine CM.out.mono ?_
                rintro _ x9 ⟨rfl,hw9⟩
                go_wp2
                go_roundw
                case rel=>exact ⟨k+1,by omega,by go_num,aa hsx8 hw9⟩
                case measure=>simp [intOf]; omega
          · rcases RS.out with rfl | rfl
            · have e2:sg2=0:=by rw [<- HM.out]; exact (IntWalk.wrap64_in _ ⟨by decide,by decide⟩).trans (by decide)
              subst e2
              clear HM
              have CM:Hid (Calls Tryz.prog 9 #[.agg #[.bool x_g,.slice x_o x_n x_c,.int .i64 x_e],.agg #[.bool yg,.slice yo yn yc,.int .i64 ye]] x6 fun r w'=>r=.returned (.bool true)∧Below x6.heap.size x6 w'):=by
                have:=ji x6_D y_D.num
                rw [Int.one_mul,decide_eq_true rfl] at this
                exact this
              go_wp2_with fail
              refine CM.out.mono ?_
              rintro _ x7 ⟨rfl,hw7⟩
              go_wp2
              go_roundw
              case rel=>exact ⟨k+1,by omega,by go_num,aa hsx6 hw7⟩
              case measure=>simp [intOf]; omega
            · have e2:sg2=0:=by rw [<- HM.out]; exact (IntWalk.wrap64_in _ ⟨by decide,by decide⟩).trans (by decide)
              subst e2
              clear HM
              by_cases hy0:yn=0
              · have d0:¬ 0<yn:=by omega
                have CM:Hid (Calls Tryz.prog 9 #[.agg #[.bool x_g,.slice x_o x_n x_c,.int .i64 x_e],.agg #[.bool yg,.slice yo yn yc,.int .i64 ye]] x6 fun r w'=>r=.returned (.bool true)∧Below x6.heap.size x6 w'):=by
                  have e:=zl.1 hy0
                  have:=ji x6_D y_D.num
                  rw [decide_eq_true (show X0=-1*X0 by omega)] at this
                  exact this
                clear zl zm d0
                subst hy0
                go_wp2_with fail
                refine CM.out.mono ?_
                rintro _ x7 ⟨rfl,hw7⟩
                go_wp2
                go_roundw
                case rel=>exact ⟨k+1,by omega,by go_num,aa hsx6 hw7⟩
                case measure=>simp [intOf]; omega
              · have d0:0<yn:=by omega
                have d1:(0:Int)<(yn:Int):=by omega
                have y7_k:=aE y_k 0 (.bool (!yg))
                have hq8:Below x5.heap.size x5 (x6.setCell ⟨gy,0,none⟩ (.bool (!yg))):=hq7.setCell (p:=⟨gy,0,none⟩) hge _
                have hsx8:Below x4.heap.size x4 (x6.setCell ⟨gy,0,none⟩ (.bool (!yg))):=hsx6.setCell (p:=⟨gy,0,none⟩) (Nat.le_trans hsx5.size hge) _
                have y7_D:=sY (HZN.out hy0) y_k 0 (.bool (!yg))
                have x7_D:=x5_D.keeps hq8
                have x_7:=am hq8 x_5
                have k3:=ac y7_k 0 rfl
                have k4:=ac y7_k 1 rfl
                have k5:=ac y7_k 2 rfl
                have j3:=ac x_7 0 rfl
                have j4:=ac x_7 1 rfl
                have j5:=ac x_7 2 rfl
                have CM:Hid (Calls Tryz.prog 9 #[.agg #[.bool x_g,.slice x_o x_n x_c,.int .i64 x_e],.agg #[.bool (!yg),.slice yo yn yc,.int .i64 ye]] (x6.setCell ⟨gy,0,none⟩ (.bool (!yg))) fun r w'=>r=.returned (.bool true)∧Below (x6.setCell ⟨gy,0,none⟩ (.bool (!yg))).heap.size (x6.setCell ⟨gy,0,none⟩ (.bool (!yg))) w'):=by
                  have:=ji x7_D y7_D.num
                  rw [decide_eq_true (show X0=- (-1*X0) by omega)] at this
                  exact this
                go_wp2_with fail
                refine CM.out.mono ?_
                rintro _ x9 ⟨rfl,hw9⟩
                go_wp2
                go_roundw
                case rel=>exact ⟨k+1,by omega,by go_num,aa hsx8 hw9⟩
                case measure=>simp [intOf]; omega
          · rcases RS.out with rfl | rfl
            · have e2:sg2=1:=by rw [<- HM.out]; exact (IntWalk.wrap64_in _ ⟨by decide,by decide⟩).trans (by decide)
              subst e2
              clear HM
              have CM:Hid (Calls Tryz.prog 9 #[.agg #[.bool x_g,.slice x_o x_n x_c,.int .i64 x_e],.agg #[.bool yg,.slice yo yn yc,.int .i64 ye]] x6 fun r w'=>r=.returned (.bool true)∧Below x6.heap.size x6 w'):=by
                have:=ji x6_D y_D.num
                rw [Int.one_mul,decide_eq_true rfl] at this
                exact this
              go_wp2_with fail
              refine CM.out.mono ?_
              rintro _ x7 ⟨rfl,hw7⟩
              go_wp2
              go_roundw
              case rel=>exact ⟨k+1,by omega,by go_num,aa hsx6 hw7⟩
              case measure=>simp [intOf]; omega
            · have e2:sg2=(-1):=by rw [<- HM.out]; exact (IntWalk.wrap64_in _ ⟨by decide,by decide⟩).trans (by decide)
              subst e2
              clear HM
              by_cases hy0:yn=0
              · have d0:¬ 0<yn:=by omega
                have CM:Hid (Calls Tryz.prog 9 #[.agg #[.bool x_g,.slice x_o x_n x_c,.int .i64 x_e],.agg #[.bool yg,.slice yo yn yc,.int .i64 ye]] x6 fun r w'=>r=.returned (.bool true)∧Below x6.heap.size x6 w'):=by
                  have e:=zl.1 hy0
                  have:=ji x6_D y_D.num
                  rw [decide_eq_true (show X0=-1*X0 by omega)] at this
                  exact this
                clear zl zm d0
                subst hy0
                go_wp2_with fail
                refine CM.out.mono ?_
                rintro _ x7 ⟨rfl,hw7⟩
                go_wp2
                go_roundw
                case rel=>exact ⟨k+1,by omega,by go_num,aa hsx6 hw7⟩
                case measure=>simp [intOf]; omega
              · have d0:0<yn:=by omega
                have d1:(0:Int)<(yn:Int):=by omega
                have y7_k:=aE y_k 0 (.bool (!yg))
                have hq8:Below x5.heap.size x5 (x6.setCell ⟨gy,0,none⟩ (.bool (!yg))):=hq7.setCell (p:=⟨gy,0,none⟩) hge _
                have hsx8:Below x4.heap.size x4 (x6.setCell ⟨gy,0,none⟩ (.bool (!yg))):=hsx6.setCell (p:=⟨gy,0,none⟩) (Nat.le_trans hsx5.size hge) _
                have y7_D:=sY (HZN.out hy0) y_k 0 (.bool (!yg))
                have x7_D:=x5_D.keeps hq8
                have x_7:=am hq8 x_5
                have k3:=ac y7_k 0 rfl
                have k4:=ac y7_k 1 rfl
                have k5:=ac y7_k 2 rfl
                have j3:=ac x_7 0 rfl
                have j4:=ac x_7 1 rfl
                have j5:=ac x_7 2 rfl
                have CM:Hid (Calls Tryz.prog 9 #[.agg #[.bool x_g,.slice x_o x_n x_c,.int .i64 x_e],.agg #[.bool (!yg),.slice yo yn yc,.int .i64 ye]] (x6.setCell ⟨gy,0,none⟩ (.bool (!yg))) fun r w'=>r=.returned (.bool true)∧Below (x6.setCell ⟨gy,0,none⟩ (.bool (!yg))).heap.size (x6.setCell ⟨gy,0,none⟩ (.bool (!yg))) w'):=by
                  have:=ji x7_D y7_D.num
                  rw [decide_eq_true (show X0=- (-1*X0) by omega)] at this
                  exact this
                go_wp2_with fail
                refine CM.out.mono ?_
                rintro _ x9 ⟨rfl,hw9⟩
                go_wp2
                go_roundw
                case rel=>exact ⟨k+1,by omega,by go_num,aa hsx8 hw9⟩
                case measure=>simp [intOf]; omega
    · obtain rfl:k=6:=by omega
      have i1:¬ ((6:Nat):Int)<6:=by omega
      have hd2:=Fk ax ay bx by'
      obtain ⟨eS,eD⟩:=Nq rax ray rbx rby rcx rcy pax pay pbx pby pcx pcy
      have CW:Hid (∀ W,aD W->∃ st3,Calls Tryz.prog 6 #[.agg #[.int .i64 ax,.int .i64 ay],.agg #[.int .i64 bx,.int .i64 by'],.agg #[.int .i64 ax,.int .i64 ay]] W fun r w'=>r=.returned (.tuple #[.agg #[.int .i64 0,.int .i64 st3],.int .i64 0])∧Below W.heap.size W w'):=fun W h=>by
        have:=pj rax ray rbx rby rax ray pax pay pbx pby pax pay W h
        rw [hd2,show bz (0:Int) 0=0 by decide] at this
        exact ⟨_,this⟩
      obtain ⟨r1,p1,_⟩:=eO rax pax
      obtain ⟨r2,p2,_⟩:=eO ray pay
      obtain ⟨r3,p3,_⟩:=eO rbx pbx
      obtain ⟨r4,p4,_⟩:=eO rby pby
      obtain ⟨r5,p5,_⟩:=eO rcx pcx
      obtain ⟨r6,p6,_⟩:=eO rcy pcy
      have CU:Hid (∀ W,aD W->Calls Tryz.prog 6 #[.agg #[.int .i64 (q0 ax),.int .i64 (q0 ay)],.agg #[.int .i64 (q0 bx),.int .i64 (q0 by')],.agg #[.int .i64 (q0 cx),.int .i64 (q0 cy)]] W fun r w'=>r=.returned (.tuple #[.agg #[.int .i64 sgn,.int .i64 st],.int .i64 0])∧Below W.heap.size W w'):=fun W h=>by
        have:=pj r1 r2 r3 r4 r5 r6 p1 p2 p3 p4 p5 p6 W h
        rw [eS,eD,HSG.out,HST.out] at this
        exact this
      have NA:Hid (∀ W,Calls Tryz.prog 10 #[.agg #[.int .i64 ax,.int .i64 ay]] W fun e w'=>e=.returned (.agg #[.int .i64 (q0 ax),.int .i64 (q0 ay)])∧Below W.heap.size W w'):=fun W=>nt _ _ W
      have NB:Hid (∀ W,Calls Tryz.prog 10 #[.agg #[.int .i64 bx,.int .i64 by']] W fun e w'=>e=.returned (.agg #[.int .i64 (q0 bx),.int .i64 (q0 by')])∧Below W.heap.size W w'):=fun W=>nt _ _ W
      have NC:Hid (∀ W,Calls Tryz.prog 10 #[.agg #[.int .i64 cx,.int .i64 cy]] W fun e w'=>e=.returned (.agg #[.int .i64 (q0 cx),.int .i64 (q0 cy)])∧Below W.heap.size W w'):=fun W=>nt _ _ W
      clear hd2 eS eD r1 r2 r3 r4 r5 r6 p1 p2 p3 p4 p5 p6 rax ray rbx rby rcx rcy pax pay pbx pby pcx pcy HX0 CG CS CE
      generalize q0 ax=A1 at *
      generalize q0 ay=A2 at *
      generalize q0 bx=B1 at *
      generalize q0 by'=B2 at *
      generalize q0 cx=C1' at *
      generalize q0 cy=C2' at *
      have a_6:=am hbw a_k
      have b_6:=am hbw b_k
      have c_6:=am hbw c_k
      have v_6:=am hbw v_k
      have hb6:=aa hb0 hbw
      have H6:=H.keeps hbw
      have f_a0:=ac a_6 0 rfl
      have f_a1:=ac a_6 1 rfl
      have f_b0:=ac b_6 0 rfl
      have f_b1:=ac b_6 1 rfl
      obtain ⟨st3,CW3⟩:=CW.out _ H6
      have CWH:=cH CW3
      clear CW CW3
      go_wp2_with fail
      clear f_a0 f_a1 f_b0 f_b1
      refine CWH.out.mono ?_
      rintro _ y7 ⟨rfl,hw7⟩
      have hq7:=aa hw7 (ah y7 (.cells #[.int .i64 0,.int .i64 st3] 28))
      have w_k:=aB y7 (.cells #[.int .i64 0,.int .i64 st3] 28)
      have a_7:=am hq7 a_6
      have b_7:=am hq7 b_6
      have c_7:=am hq7 c_6
      have v_7:=am hq7 v_6
      have hb7:=aa hb6 hq7
      have H7:=H6.keeps hq7
      go_wp2_with fail
      generalize y7.alloc (.cells #[.int .i64 0,.int .i64 st3] 28)=x7 at *
      obtain ⟨gw,hgw⟩:∃ g,g=y7.heap.size:=⟨_,rfl⟩
      rw [<- hgw] at w_k ⊢
      clear hgw
      have KK:∀ W,Below x7.heap.size x7 W->W.cell? ⟨w.heap.size,0,none⟩=some (.int .i64 ax)∧W.cell? ⟨w.heap.size,1,none⟩=some (.int .i64 ay)∧W.cell? ⟨w.heap.size+1,0,none⟩=some (.int .i64 bx)∧W.cell? ⟨w.heap.size+1,1,none⟩=some (.int .i64 by')∧W.cell? ⟨w.heap.size+1+1,0,none⟩=some (.int .i64 cx)∧W.cell? ⟨w.heap.size+1+1,1,none⟩=some (.int .i64 cy):=fun W hb=>⟨aF (ac a_7 0 rfl) hb,aF (ac a_7 1 rfl) hb,aF (ac b_7 0 rfl) hb,aF (ac b_7 1 rfl) hb,aF (ac c_7 0 rfl) hb,aF (ac c_7 1 rfl) hb⟩
      have hC0:=(aA x7).drew
      go_region_held3 (fun W=>W.cell? ⟨w.heap.size,0,none⟩=some (.int .i64 ax)∧W.cell? ⟨w.heap.size,1,none⟩=some (.int .i64 ay)∧W.cell? ⟨w.heap.size+1,0,none⟩=some (.int .i64 bx)∧W.cell? ⟨w.heap.size+1,1,none⟩=some (.int .i64 by')∧W.cell? ⟨w.heap.size+1+1,0,none⟩=some (.int .i64 cx)∧W.cell? ⟨w.heap.size+1+1,1,none⟩=some (.int .i64 cy))
        (with_reducible first | assumption | exact KK _ (hC0) | exact KK _ ((ah _ _).drew) | exact KK _ (hC1) | exact KK _ (aa hC1 (ah _ _)) | exact KK _ (hC2) | exact KK _ (aa hC2 (ah _ _)) | exact KK _ (hC3) | exact KK _ (aa hC3 (ah _ _)) | exact KK _ (hC4) | exact KK _ (aa hC4 (ah _ _)) | exact KK _ (Fm hC4 hz _) | exact KK _ (cQ hC4 hz _ _) | fail)
        (first
          | (go_at_call 6; have _t:=hr3; refine (CU.out _ (by with_reducible first | exact H7.keeps hC3 | exact H7.keeps (aa hC3 (ah _ _)))).mono ?_; rintro _ r4 ⟨rfl,hr4⟩; have hC4:Below x7.heap.size x7 r4:=(by with_reducible first | exact aa hC3 hr4 | exact aa (aa hC3 (ah _ _)) hr4); (with_reducible first | (have qz:r4.heap[x7.heap.size]?=some (.cells #[.int .i64 0,.int .i64 0] 28 (0,0)):=am hr4 (am hr3 (am hr2 (am hr1 (gL x7 _)))); have hz:x7.heap.size<=x7.heap.size:=Nat.le_refl _; have cz0:=ac qz 0 rfl; have cz1:=ac qz 1 rfl; have zz0:=aw qz 0; have zz1:=aw qz 1) | (have qz:r4.heap[r1.heap.size]?=some (.cells #[.int .i64 0,.int .i64 0] 28 (0,0)):=am hr4 (am hr3 (am hr2 (aB r1 _))); have hz:=hC1.size; have cz0:=ac qz 0 rfl; have cz1:=ac qz 1 rfl; have zz0:=aw qz 0; have zz1:=aw qz 1) | (have qz:r4.heap[r2.heap.size]?=some (.cells #[.int .i64 0,.int .i64 0] 28 (0,0)):=am hr4 (am hr3 (aB r2 _)); have hz:=hC2.size; have cz0:=ac qz 0 rfl; have cz1:=ac qz 1 rfl; have zz0:=aw qz 0; have zz1:=aw qz 1) | (have qz:r4.heap[r3.heap.size]?=some (.cells #[.int .i64 0,.int .i64 0] 28 (0,0)):=am hr4 (aB r3 _); have hz:=hC3.size; have cz0:=ac qz 0 rfl; have cz1:=ac qz 1 rfl; have zz0:=aw qz 0; have zz1:=aw qz 1) | skip))
          | (go_at_call 10; have _t:=hr2; refine (NC.out _).mono ?_; rintro _ r3 ⟨rfl,hr3⟩; have hC3:Below x7.heap.size x7 r3:=(by with_reducible first | exact aa hC2 hr3 | exact aa (aa hC2 (ah _ _)) hr3))
          | (go_at_call 10; have _t:=hr1; refine (NB.out _).mono ?_; rintro _ r2 ⟨rfl,hr2⟩; have hC2:Below x7.heap.size x7 r2:=(by with_reducible first | exact aa hC1 hr2 | exact aa (aa hC1 (ah _ _)) hr2))
          | (go_at_call 10; refine (NA.out _).mono ?_; rintro _ r1 ⟨rfl,hr1⟩; have hC1:Below x7.heap.size x7 r1:=(by with_reducible first | exact aa hC0 hr1 | exact aa ((ah x7 _).drew) hr1)))
      all_goals
        have HU:∀ (W:World) (gu:Nat),Below x7.heap.size x7 W->W.heap[gu]?=some (.cells #[.int .i64 sgn,.int .i64 st] 28 (0,0))->W.cell? ⟨gu,0,none⟩=some (.int .i64 sgn)∧W.cell? ⟨gu,1,none⟩=some (.int .i64 st)∧W.cell? ⟨gw,0,none⟩=some (.int .i64 0)∧W.cell? ⟨gv,0,none⟩=some (.int .i64 sgn)∧W.cell? ⟨gv,1,none⟩=some (.int .i64 st):=fun W gu hb hu=>⟨ac hu 0 rfl,ac hu 1 rfl,aF (ac w_k 0 rfl) hb,aF (ac v_7 0 rfl) hb,aF (ac v_7 1 rfl) hb⟩
        have HUN:=cH HU
        clear HU KK
      all_goals
        first
          | (have _t:=qz; have hU:=cQ hC4 hz (.int .i64 sgn) (.int .i64 st); obtain ⟨m0,m1,n0,o0,o1⟩:=HUN.out _ _ hU (aE (aE qz 0 (.int .i64 sgn)) 1 (.int .i64 st)); clear cz0 cz1 zz0 zz1 qz hz)
          | (have hU:=aa hC4 (ah r4 (.cells #[.int .i64 sgn,.int .i64 st] 28)); obtain ⟨m0,m1,n0,o0,o1⟩:=HUN.out _ _ hU (aB r4 (.cells #[.int .i64 sgn,.int .i64 st] 28)))
      all_goals
        go_wp2_with fail
        refine (Ch _ _).mono ?_
        rintro _ _ ⟨rfl,rfl⟩
        go_wp2_with fail
        refine (Ch _ _).mono ?_
        rintro _ _ ⟨rfl,rfl⟩
        go_wp2
        go_ret
        exact ⟨rfl,aa hb7 hU⟩
theorem walk (ax ay bx by' cx cy:Int) (w:World) (rax:aj ax) (ray:aj ay) (rbx:aj bx) (rby:aj by') (rcx:aj cx) (rcy:aj cy) (H:aD w) :
    Calls Tryz.prog 3 #[.agg #[.int .i64 ax,.int .i64 ay],.agg #[.int .i64 bx,.int .i64 by'],.agg #[.int .i64 cx,.int .i64 cy]] w fun e w'=>e=.returned (.bool true)∧Below w.heap.size w w':=by
  by_cases h:((ak ax && ak ay) && (ak bx && ak by') && (ak cx && ak cy))=true
  · obtain ⟨⟨⟨h1,h2⟩,h3,h4⟩,h5,h6⟩:((ak ax=true∧ak ay=true)∧ak bx=true∧ak by'=true)∧ak cx=true∧ak cy=true:=by simpa using h
    exact Hz rax ray rbx rby rcx rcy h1 h2 h3 h4 h5 h6 w H
  · have e:((ak ax && ak ay) && (ak bx && ak by') && (ak cx && ak cy))=false:=Bool.eq_false_iff.2 h
    exact Kj (fun W=>by
      have:=wm rax ray rbx rby rcx rcy W
      rw [e] at this
      exact this) w H
theorem own:ownKnob Tryz.prog.godebug=none:=by kernel_rfl
theorem laidOut:laidOutB Tryz.prog=true:=by kernel_rfl
theorem door_met (os:Os) (args:Array Value):laidMetH Tryz.prog Rows.orientTurnsRow.laid ((World.doorLaid Tryz.prog 400 os).forCall (fun _ _=>0) ⟨#[],args,[]⟩).memory :=
 laidMetH_of_parts3 (fuel:=8) (laidMet_of_run' 8 (by kernel_rfl) (by kernel_rfl)) (by kernel_rfl) (by kernel_rfl)
theorem lifted (os:Os) (started:os.Started) (H:Type) (enc:TypeId × Value->H) :
  ReturnsInHanded {} Tryz.checked os 3 .any (fun w args=>(Rows.orientTurnsSpec.pre enc Tryz.prog Tryz.f3 [] false w args∧laidMetH Tryz.prog Rows.orientTurnsRow.laid w)∧sizedMet enc Tryz.prog Tryz.f3 (OpenSpec.ofChange Rows.orientTurnsSpec) false w args)
   (Rows.orientTurnsSpec.post enc Tryz.prog Tryz.f3 false true false false):=by
 refine returnsInHanded_of_change_and (C:=Tryz.checked) (X:=fun w _=>laidMetH Tryz.prog Rows.orientTurnsRow.laid w) (fun _ _ _ hh h=>h.of_heap hh) own started (by kernel_rfl) Tryz.func3
  (ChangeSpec.witness_shaped (enc:=enc) (C:=Tryz.checked) (os:=os) (X:=fun w _=>laidMetH Tryz.prog Rows.orientTurnsRow.laid w) false (World.doorLaid Tryz.prog 400 os) #[.agg #[.int .i64 0,.int .i64 0],.agg #[.int .i64 0,.int .i64 0],.agg #[.int .i64 0,.int .i64 0]] 8 rfl (World.shaped_of_RefB (by kernel_rfl) (by kernel_rfl)) (by kernel_rfl) (by kernel_rfl) (by kernel_rfl) (door_met os _)) ?_
 intro W base args ds gs before hval0 hW _ _ hL _
 have hval:∀ (j:Nat) t v,Tryz.f3.params[j]?=some t->args[j]?=some v->Value.okWide Tryz.prog W .any base t v:=hval0
 have hW':=hW
 obtain ⟨p,q,hA0,hV,rfl,hfz,hnd⟩:=hW
 have hA:DataW.TrodAll enc Tryz.prog W 0 (fun _=>true) true Tryz.f3.params.toList args.toList ds p:=hA0
 rw [Tryz.params3] at hA hval
 obtain ⟨v0,vs0,d0,ds0,p0,q0,hargs,rfl,rfl,h0,r0⟩:=trodAll_cons hA
 obtain ⟨v1,vs1,d1,ds1,p1,q1,rfl,rfl,rfl,h1,r1⟩:=trodAll_cons r0
 obtain ⟨v2,vs2,d2,ds2,p2,q2,rfl,rfl,rfl,h2,r2⟩:=trodAll_cons r1
 obtain ⟨rfl,rfl,rfl⟩:=trodAll_nil r2
 obtain rfl:args=#[v0,v1,v2]:=by cases args; simp_all
 obtain ⟨rfl,rfl⟩:=trodVars_none hV
 have k0:=h0
 have lt0:∀ x ∈ p0,x.block<W.heap.size:=by obtain ⟨m,hm⟩:=k0; exact DataW.trod_lt m _ _ _ hm
 obtain ⟨x0,y0,rfl,w0,g0⟩:=sX (hval 0 23 v0 rfl rfl) h0
 have k1:=h1
 have lt1:∀ x ∈ p1,x.block<W.heap.size:=by obtain ⟨m,hm⟩:=k1; exact DataW.trod_lt m _ _ _ hm
 obtain ⟨x1,y1,rfl,w1,g1⟩:=sX (hval 1 23 v1 rfl rfl) h1
 have k2:=h2
 have lt2:∀ x ∈ p2,x.block<W.heap.size:=by obtain ⟨m,hm⟩:=k2; exact DataW.trod_lt m _ _ _ hm
 obtain ⟨x2,y2,rfl,w2,g2⟩:=sX (hval 2 23 v2 rfl rfl) h2
 clear hA0 hval0
 refine (walk x0 y0 x1 y1 x2 y2 W w0 g0 w1 g1 w2 g2 (Gq hL)).mono fun e W' ⟨he,bel⟩=>?_
 subst he
 exact ⟨_,rfl,_,_,_,[],_,[],hW',trodAll_mk1 (shut_bool Tryz.underlying4 _),(trodAll_cons_mk (Below.trod laidOut (by kernel_rfl) (of_decide_eq_true (by kernel_rfl)) k0 bel lt0) (trodAll_cons_mk (Below.trod laidOut (by kernel_rfl) (of_decide_eq_true (by kernel_rfl)) k1 bel lt1) (trodAll_cons_mk (Below.trod laidOut (by kernel_rfl) (of_decide_eq_true (by kernel_rfl)) k2 bel lt2) trodAll_mk0))),rfl,bel.frame _,fun h=>by cases h⟩
theorem said:Rows.OrientTurnsSaid :=
 OpenClaim.holds_of_wide 3 Tryz.f3 rfl rfl rfl rfl rfl rfl rfl ⟨rfl,rfl,rfl,rfl,rfl⟩ rfl rfl rfl rfl rfl (by kernel_rfl) Tryz.func3 (by kernel_rfl)
  (of_decide_eq_true (by kernel_rfl)) (by unfold Func.isWrapper; first | (rw [if_pos (by decide +kernel)]; kernel_rfl) | (rw [if_neg (by decide +kernel)]; exact ⟨rfl,rfl⟩))
  (fun os started H enc _=>lifted os started H enc)
theorem un (f:FuncId) (fn:Func) (hf:Tryz.pinned.checked.prog.funcNamed Tryz.f3.name=some f) (hfn:Tryz.pinned.checked.prog.funcs[f]?=some fn) :
  true=Tryz.pinned.checked.prog.looks []∧∀ (j:Nat) t,fn.params[j]?=some t->Tryz.pinned.checked.prog.wantsStandIn t=false:=by
 obtain rfl:f=3:=Option.some.inj ((show Tryz.prog.funcNamed Tryz.f3.name=some 3 by kernel_rfl).symm.trans hf) |>.symm
 obtain rfl:fn=Tryz.f3:=(Option.some.inj (Tryz.func3.symm.trans hfn)).symm
 refine ⟨by kernel_rfl,fun j t ht=>?_⟩
 rw [Tryz.params3] at ht
 obtain rfl:t=23:=by simpa using Array.mem_of_getElem? ht
 exact (show Tryz.prog.wantsStandIn 23=false by kernel_rfl)
theorem card:Rows.OrientTurnsCardSaid :=
 Claim7.holds_tied_plain_at .later [] _ _ _ _ said (fun _ h=>by cases h) (by kernel_rfl) (fun _ h=>by cases h) orientTurns_row_tie rfl ⟨rfl,rfl⟩ (by kernel_rfl) rfl un (by kernel_rfl)
end Go.Proofs.YtcjfonaolcokbaaGreatDoor.orientTurns
namespace Go.Proofs.YtcjfonaolcokbaaGreatDoor
theorem orientTurns_holds:Rows.OrientTurnsCardSaid:=orientTurns.card
end Go.Proofs.YtcjfonaolcokbaaGreatDoor
