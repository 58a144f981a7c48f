/-
  plumbref4's To, plumbref8's told and span, by their contracts (tools/p8.py)
-/
import Derived.Test.YtkkpppgfoilgmaaGreatDoorPart24
import Derived.Test.YtkkpppgfoilgmaaGreatDoorPart23
import Derived.Test.YtkkpppgfoilgmaaGreatDoorPart6
import Derived.Deep.RegionHeld3
set_option maxRecDepth 100000
set_option maxHeartbeats 8000000
set_option linter.unusedVariables false
set_option linter.unusedSimpArgs false
namespace Go.Proofs.YtkkpppgfoilgmaaGreatDoor
open Go Go.Proofs.Tryz Go.RowKit Go.Proofs.YtkkpppgfoilgmaaGreatDoor.M
def tP (way V:Int):Int:=if V=0 then 0 else aH (cq way V)
def eW (way:Int) (a:En):Int:=if 0<a.i then 9218868437227405312 else if a.i<0 then -4503599627370496 else tP way a.v
theorem vy (V:Int):V=sg (decide (V<0)) (V.natAbs:Int):=by
 by_cases h:V<0
 ·rw[decide_eq_true h];show V=-(V.natAbs:Int);omega
 ·rw[decide_eq_false h];show V=(V.natAbs:Int);omega
theorem zD {way V p:Int} (h0:V≠0) (h:vw way (decide (V<0)) V.natAbs p):p=cq way V:=by
 obtain⟨r0,l,h1,h2⟩:=h
 exact(lh h0 ⟨V.natAbs,r0,l,vy V,h1,h2⟩).symm
theorem Dq (w:World):Calls prog 94 #[] w fun x w'=>x=.returned (.agg #[.int .i64 53,.int .i64 (-1074),.int .i64 1024,.int .i64 9218868437227405312,.int .i64 (-9223372036854775808)])∧Below w.heap.size w w':=by
 go_enter func94,ntmps94
 go_wp2
 refine bodyPost_ret (v:=.agg #[.int .i64 53,.int .i64 (-1074),.int .i64 1024,.int .i64 9218868437227405312,.int .i64 (-9223372036854775808)]) (by simp[results,results94,go_sem]) rfl ⟨rfl,?_⟩
 exact ae _ _
theorem vz (way:Int) {g:Bool} {so:Option Addr} {sn sc:Nat} {e:Int} {w:World} (h:aX w (.agg #[.bool g,.slice so sn sc,.int .i64 e]) 0) :
  Calls prog 119 #[.agg #[.int .i64 53,.int .i64 (-1074),.int .i64 1024,.int .i64 9218868437227405312,.int .i64 (-9223372036854775808)],.bool g,.slice so sn sc,.int .i64 e,.bool false,.int .i64 way] w fun x w'=>x=.returned (.tuple #[.int .i64 0,.bool false])∧Below w.heap.size w w':=by
 obtain⟨ng,s,m,e',h1,hy,ao,n,cap,d,h2,hR,hN,hv⟩:=h
 simp only[Value.agg.injEq,Array.mk.injEq,List.cons.injEq,Value.bool.injEq,Value.int.injEq,true_and,and_true] at h1
 obtain⟨rfl,rfl,rfl⟩:=h1
 simp only[Value.slice.injEq] at h2
 obtain⟨rfl,rfl,rfl⟩:=h2
 obtain⟨e1,e2,e3⟩:=hy.unique Dy.zero
 subst e1 e2 e3
 have hn0:sn=0:=by
  rcases Nat.eq_zero_or_pos sn with z|z
  ·exact z
  ·have h1:=cI hN.1 z hN.2
   have:=bp (sn-1)
   omega
 subst hn0
 have hb1:=ae w (.cells #[.int .i64 53,.int .i64 (-1074),.int .i64 1024,.int .i64 9218868437227405312,.int .i64 (-9223372036854775808)] 133)
 have CB:Hid (∀ W,Below w.heap.size w W->Calls prog 136 #[.slice so 0 sc] W fun e w'=>e=.returned (.int .i64 0)∧w'=W):=fun W hb=>by
  have:=n7 so 0 sc d W (hR.keeps hb) hN (by omega)
  exact this
 go_enter func119,ntmps119
 go_wp2_with fail
 refine(CB.out _ hb1).mono ?_
 rintro _ _ ⟨rfl,rfl⟩
 go_wp2
 refine bodyPost_ret (v:=.tuple #[.int .i64 0,.bool false]) (by simp[results,results119,go_sem]) rfl ⟨rfl,hb1⟩
theorem Bn (b:Int) (hb:nn b) (o:Bool) (w:World):Calls prog 118 #[.agg #[.int .i64 53,.int .i64 (-1074),.int .i64 1024,.int .i64 9218868437227405312,.int .i64 (-9223372036854775808)],.int .i64 b,.bool o] w fun x w'=>x=.returned (.tuple #[.int .i64 (aH b),.bool o])∧Below w.heap.size w w':=by
 have hba:=ae w (.cells #[.int .i64 53,.int .i64 (-1074),.int .i64 1024,.int .i64 9218868437227405312,.int .i64 (-9223372036854775808)] 133)
 have k_k:=a9 w (.cells #[.int .i64 53,.int .i64 (-1074),.int .i64 1024,.int .i64 9218868437227405312,.int .i64 (-9223372036854775808)] 133)
 have f4:=ab k_k 4 rfl
 have c0:=zV hb.1
 by_cases h:b=-9223372036854775808
 ·subst h
  have hc:aH (-9223372036854775808)=0:=by decide
  rw[hc]
  go_enter func118,ntmps118
  go_wp2
  refine bodyPost_ret (v:=.tuple #[.int .i64 0,.bool o]) (by simp[results,results118,go_sem]) rfl ⟨rfl,hba⟩
 ·have hc:aH b=b:=by
   unfold aH
   rw[if_neg hb.2]
   split
   ·rename_i q
    rcases c0.1 q with r|r
    ·exact r.symm
    ·exact absurd r h
   ·rfl
  rw[hc]
  have h2:(b == -9223372036854775808)=false:=by simp;exact h
  clear h hc c0 hb
  go_enter func118,ntmps118
  go_wp2
  refine bodyPost_ret (v:=.tuple #[.int .i64 b,.bool o]) (by simp[results,results118,go_sem]) rfl ⟨rfl,hba⟩
theorem Dr {way:Int} (hw:1<=way∧way<=2) {w:World} {x_g:Bool} {x_o:Option Addr} {x_n x_c:Nat} {x_e V:Int} (hx:aX w (.agg #[.bool x_g,.slice x_o x_n x_c,.int .i64 x_e]) V) (ok:b7 V):Calls prog 95 #[.agg #[.int .i64 53,.int .i64 (-1074),.int .i64 1024,.int .i64 9218868437227405312,.int .i64 (-9223372036854775808)],.agg #[.bool x_g,.slice x_o x_n x_c,.int .i64 x_e],.int .i64 way] w fun r w'=>∃ o,r=.returned (.tuple #[.int .i64 (tP way V),.bool o])∧Below w.heap.size w w':=by
  have CC:Hid (∀ W,Below w.heap.size w W->Calls prog 119 #[.agg #[.int .i64 53,.int .i64 (-1074),.int .i64 1024,.int .i64 9218868437227405312,.int .i64 (-9223372036854775808)],.bool x_g,.slice x_o x_n x_c,.int .i64 x_e,.bool false,.int .i64 way] W fun r w'=>∃ p o,r=.returned (.tuple #[.int .i64 p,.bool o])∧nn p∧aH p=tP way V∧Below W.heap.size W w'):=fun W hb=>by
    by_cases h0:V=0
    · subst h0
      refine(vz way (hx.keeps hb)).mono ?_
      rintro r w' ⟨rfl,h⟩
      exact⟨_,_,rfl,cP.1,by unfold tP;rw[if_pos rfl];decide,h⟩
    · refine(Cw way hw (hx.keeps hb) ok h0).mono ?_
      rintro r w' ⟨p,o,rfl,h,hR⟩
      have:=zD h0 hR
      subst this
      exact⟨_,_,rfl,⟨(iJ way h0).1,(iJ way h0).2⟩,by unfold tP;rw[if_neg h0],h⟩
  have CT:Hid (∀ (p:Int) (o:Bool) W,nn p->Calls prog 118 #[.agg #[.int .i64 53,.int .i64 (-1074),.int .i64 1024,.int .i64 9218868437227405312,.int .i64 (-9223372036854775808)],.int .i64 p,.bool o] W fun r w'=>r=.returned (.tuple #[.int .i64 (aH p),.bool o])∧Below W.heap.size W w'):=fun p o W hp=>Bn p hp o W
  generalize tP way V=R at *
  clear hx ok
  have hb:=aq w
  go_enter func95,ntmps95
  have k_k:(w.alloc (.cells #[.int .i64 53,.int .i64 (-1074),.int .i64 1024,.int .i64 9218868437227405312,.int .i64 (-9223372036854775808)] 133)).heap[w.heap.size]?=some (.cells #[.int .i64 53,.int .i64 (-1074),.int .i64 1024,.int .i64 9218868437227405312,.int .i64 (-9223372036854775808)] 133):=av (.cells #[.int .i64 53,.int .i64 (-1074),.int .i64 1024,.int .i64 9218868437227405312,.int .i64 (-9223372036854775808)] 133) (by simp only[ar])
  have hb:=aa hb (ae w (.cells #[.int .i64 53,.int .i64 (-1074),.int .i64 1024,.int .i64 9218868437227405312,.int .i64 (-9223372036854775808)] 133))
  have k_k:=am (.cells #[.bool x_g,.slice x_o x_n x_c,.int .i64 x_e] 26) k_k
  have x_k:((w.alloc (.cells #[.int .i64 53,.int .i64 (-1074),.int .i64 1024,.int .i64 9218868437227405312,.int .i64 (-9223372036854775808)] 133)).alloc (.cells #[.bool x_g,.slice x_o x_n x_c,.int .i64 x_e] 26)).heap[w.heap.size+1]?=some (.cells #[.bool x_g,.slice x_o x_n x_c,.int .i64 x_e] 26):=av (.cells #[.bool x_g,.slice x_o x_n x_c,.int .i64 x_e] 26) (by simp only[ar])
  have hb:=aa hb (ae (w.alloc (.cells #[.int .i64 53,.int .i64 (-1074),.int .i64 1024,.int .i64 9218868437227405312,.int .i64 (-9223372036854775808)] 133)) (.cells #[.bool x_g,.slice x_o x_n x_c,.int .i64 x_e] 26))
  go_wp2_with fail
  generalize ((w.alloc (.cells #[.int .i64 53,.int .i64 (-1074),.int .i64 1024,.int .i64 9218868437227405312,.int .i64 (-9223372036854775808)] 133)).alloc (.cells #[.bool x_g,.slice x_o x_n x_c,.int .i64 x_e] 26))=x1 at k_k x_k hb ⊢
  have KK:∀ W,Below x1.heap.size x1 W->W.cell? ⟨w.heap.size,0,none⟩=some (.int .i64 53)∧W.cell? ⟨w.heap.size,1,none⟩=some (.int .i64 (-1074))∧W.cell? ⟨w.heap.size,2,none⟩=some (.int .i64 1024)∧W.cell? ⟨w.heap.size,3,none⟩=some (.int .i64 9218868437227405312)∧W.cell? ⟨w.heap.size,4,none⟩=some (.int .i64 (-9223372036854775808))∧W.cell? ⟨w.heap.size+1,0,none⟩=some (.bool x_g)∧W.cell? ⟨w.heap.size+1,1,none⟩=some (.slice x_o x_n x_c)∧W.cell? ⟨w.heap.size+1,2,none⟩=some (.int .i64 x_e):=fun W hW=>⟨af (ab k_k 0 rfl) hW,af (ab k_k 1 rfl) hW,af (ab k_k 2 rfl) hW,af (ab k_k 3 rfl) hW,af (ab k_k 4 rfl) hW,af (ab x_k 0 rfl) hW,af (ab x_k 1 rfl) hW,af (ab x_k 2 rfl) hW⟩
  have B0:Below x1.heap.size x1 x1.drew:=(aq _).drew
  go_region_held3 (fun W=>W.cell? ⟨w.heap.size,0,none⟩=some (.int .i64 53)∧W.cell? ⟨w.heap.size,1,none⟩=some (.int .i64 (-1074))∧W.cell? ⟨w.heap.size,2,none⟩=some (.int .i64 1024)∧W.cell? ⟨w.heap.size,3,none⟩=some (.int .i64 9218868437227405312)∧W.cell? ⟨w.heap.size,4,none⟩=some (.int .i64 (-9223372036854775808))∧W.cell? ⟨w.heap.size+1,0,none⟩=some (.bool x_g)∧W.cell? ⟨w.heap.size+1,1,none⟩=some (.slice x_o x_n x_c)∧W.cell? ⟨w.heap.size+1,2,none⟩=some (.int .i64 x_e))
    (first|assumption|exact KK _ B0|exact KK _ B1|exact KK _ B2|fail)
    (first
      | (go_at_call 118;have _t:=hs1;refine(CT.out _ _ _ np).mono ?_;rintro _ y3 ⟨rfl,hs2⟩;have B2:=aa B1 hs2)
      | (go_at_call 119; refine (CC.out _ (aa hb B0)).mono ?_; rintro _ y2 ⟨p,o,rfl,np,ep,hs1⟩; have B1:=aa B0 hs1))
  go_wp2
  refine bodyPost_ret (v:=.tuple #[.int .i64 (aH p),.bool o]) (by simp[results,results95,go_sem,ep]) rfl ⟨o,by rw[ep],aa hb B2⟩
theorem vA {way:Int} (hw:1<=way∧way<=2) {w:World} {v:Value} {a:En} (h:EV w v a) (ok:a.i=0->b7 a.v):Calls prog 72 #[v,.int .i64 way] w fun r w'=>r=.returned (.int .i64 (eW way a))∧Below w.heap.size w w':=by
  obtain⟨a_g,a_o,a_n,a_c,a_e,rfl,a_D⟩:=h
  have CK:Hid (∀ W,Calls prog 94 #[] W fun x w'=>x=.returned (.agg #[.int .i64 53,.int .i64 (-1074),.int .i64 1024,.int .i64 9218868437227405312,.int .i64 (-9223372036854775808)])∧Below W.heap.size W w'):=fun W=>Dq W
  have fl3:∀ w:World,(Instr.field 133 (.agg #[.int .i64 53,.int .i64 (-1074),.int .i64 1024,.int .i64 9218868437227405312,.int .i64 (-9223372036854775808)]) 3).run prog w=.ok (.int .i64 9218868437227405312) w:=fun w=>by kernel_rfl
  have fl4:∀ w:World,(Instr.field 133 (.agg #[.int .i64 53,.int .i64 (-1074),.int .i64 1024,.int .i64 9218868437227405312,.int .i64 (-9223372036854775808)]) 4).run prog w=.ok (.int .i64 (-9223372036854775808)) w:=fun w=>by kernel_rfl
  unfold eW
  by_cases h1:0<a.i
  · rw[if_pos h1]
    generalize a.i=ai at *
    clear ok a_D
    have hb:=aq w
    go_enter func72,ntmps72
    have a_k:(w.alloc (.cells #[.int .i64 ai,.bool a_g,.slice a_o a_n a_c,.int .i64 a_e] 68)).heap[w.heap.size]?=some (.cells #[.int .i64 ai,.bool a_g,.slice a_o a_n a_c,.int .i64 a_e] 68):=av (.cells #[.int .i64 ai,.bool a_g,.slice a_o a_n a_c,.int .i64 a_e] 68) (by simp only[ar])
    have hb:=aa hb (ae w (.cells #[.int .i64 ai,.bool a_g,.slice a_o a_n a_c,.int .i64 a_e] 68))
    have f_a0:=ab a_k 0 rfl
    have f_a1:=ab a_k 1 rfl
    have f_a2:=ab a_k 2 rfl
    have f_a3:=ab a_k 3 rfl
    go_wp2_with fail
    clear f_a0 f_a1 f_a2 f_a3
    generalize (w.alloc (.cells #[.int .i64 ai,.bool a_g,.slice a_o a_n a_c,.int .i64 a_e] 68))=x1 at a_k hb ⊢
    refine(CK.out _).mono ?_
    rintro _ y2 ⟨rfl,hw1⟩
    have a_k:=ac hw1 a_k
    have hb:=aa hb hw1
    go_wp2
    go_ret
    exact⟨rfl,hb⟩
  · rw[if_neg h1]
    by_cases h2:a.i<0
    · rw[if_pos h2]
      generalize a.i=ai at *
      clear ok a_D
      have hb:=aq w
      go_enter func72,ntmps72
      have a_k:(w.alloc (.cells #[.int .i64 ai,.bool a_g,.slice a_o a_n a_c,.int .i64 a_e] 68)).heap[w.heap.size]?=some (.cells #[.int .i64 ai,.bool a_g,.slice a_o a_n a_c,.int .i64 a_e] 68):=av (.cells #[.int .i64 ai,.bool a_g,.slice a_o a_n a_c,.int .i64 a_e] 68) (by simp only[ar])
      have hb:=aa hb (ae w (.cells #[.int .i64 ai,.bool a_g,.slice a_o a_n a_c,.int .i64 a_e] 68))
      have f_a0:=ab a_k 0 rfl
      have f_a1:=ab a_k 1 rfl
      have f_a2:=ab a_k 2 rfl
      have f_a3:=ab a_k 3 rfl
      go_wp2_with fail
      clear f_a0 f_a1 f_a2 f_a3
      generalize (w.alloc (.cells #[.int .i64 ai,.bool a_g,.slice a_o a_n a_c,.int .i64 a_e] 68))=x1 at a_k hb ⊢
      refine(CK.out _).mono ?_
      rintro _ y2 ⟨rfl,hw1⟩
      have a_k:=ac hw1 a_k
      have hb:=aa hb hw1
      go_wp2_with fail
      refine(CK.out _).mono ?_
      rintro _ y3 ⟨rfl,hw2⟩
      have a_k:=ac hw2 a_k
      have hb:=aa hb hw2
      go_wp2
      go_ret
      exact⟨rfl,hb⟩
    · rw[if_neg h2]
      have h0:a.i=0:=by omega
      rw[h0]
      have CT:Hid (∀ W,Below w.heap.size w W->Calls prog 95 #[.agg #[.int .i64 53,.int .i64 (-1074),.int .i64 1024,.int .i64 9218868437227405312,.int .i64 (-9223372036854775808)],.agg #[.bool a_g,.slice a_o a_n a_c,.int .i64 a_e],.int .i64 way] W fun r w'=>∃ o,r=.returned (.tuple #[.int .i64 (tP way a.v),.bool o])∧Below W.heap.size W w'):=fun W hb=>Dr hw (a_D.keeps hb) (ok h0)
      generalize tP way a.v=R at *
      clear ok a_D h1 h2 h0 fl3 fl4
      have hb:=aq w
      go_enter func72,ntmps72
      have a_k:(w.alloc (.cells #[.int .i64 0,.bool a_g,.slice a_o a_n a_c,.int .i64 a_e] 68)).heap[w.heap.size]?=some (.cells #[.int .i64 0,.bool a_g,.slice a_o a_n a_c,.int .i64 a_e] 68):=av (.cells #[.int .i64 0,.bool a_g,.slice a_o a_n a_c,.int .i64 a_e] 68) (by simp only[ar])
      have hb:=aa hb (ae w (.cells #[.int .i64 0,.bool a_g,.slice a_o a_n a_c,.int .i64 a_e] 68))
      have f_a0:=ab a_k 0 rfl
      have f_a1:=ab a_k 1 rfl
      have f_a2:=ab a_k 2 rfl
      have f_a3:=ab a_k 3 rfl
      go_wp2_with fail
      clear f_a0 f_a1 f_a2 f_a3
      generalize (w.alloc (.cells #[.int .i64 0,.bool a_g,.slice a_o a_n a_c,.int .i64 a_e] 68))=x1 at a_k hb ⊢
      have KK:∀ W,Below x1.heap.size x1 W->W.cell? ⟨w.heap.size,0,none⟩=some (.int .i64 0)∧W.cell? ⟨w.heap.size,1,none⟩=some (.bool a_g)∧W.cell? ⟨w.heap.size,2,none⟩=some (.slice a_o a_n a_c)∧W.cell? ⟨w.heap.size,3,none⟩=some (.int .i64 a_e):=fun W hW=>⟨af (ab a_k 0 rfl) hW,af (ab a_k 1 rfl) hW,af (ab a_k 2 rfl) hW,af (ab a_k 3 rfl) hW⟩
      have B0:Below x1.heap.size x1 x1.drew:=(aq _).drew
      go_region_held3 (fun W=>W.cell? ⟨w.heap.size,0,none⟩=some (.int .i64 0)∧W.cell? ⟨w.heap.size,1,none⟩=some (.bool a_g)∧W.cell? ⟨w.heap.size,2,none⟩=some (.slice a_o a_n a_c)∧W.cell? ⟨w.heap.size,3,none⟩=some (.int .i64 a_e))
        (first|assumption|exact KK _ B0|exact KK _ B1|exact KK _ B2|fail)
        (first
          | (go_at_call 95;have _t:=hs1;refine(CT.out _ (aa hb B1)).mono ?_;rintro _ y3 ⟨o,rfl,hs2⟩;have B2:=aa B1 hs2)
          | (go_at_call 94; refine (CK.out _).mono ?_; rintro _ y2 ⟨rfl,hs1⟩; have B1:=aa B0 hs1))
      go_wp2
      go_ret
      exact⟨rfl,aa hb B2⟩
theorem Bo {p q g o:Nat} {x0 x1 x2 x3 x4 x5 x6 x7 u:Value} {W:World} (hp:p≠g) (hq:q≠g) (h:W.cell? ⟨p,0,none⟩=some x0∧W.cell? ⟨p,1,none⟩=some x1∧W.cell? ⟨p,2,none⟩=some x2∧W.cell? ⟨p,3,none⟩=some x3∧W.cell? ⟨q,0,none⟩=some x4∧W.cell? ⟨q,1,none⟩=some x5∧W.cell? ⟨q,2,none⟩=some x6∧W.cell? ⟨q,3,none⟩=some x7) :
  (W.setCell ⟨g,o,none⟩ u).cell? ⟨p,0,none⟩=some x0∧(W.setCell ⟨g,o,none⟩ u).cell? ⟨p,1,none⟩=some x1∧(W.setCell ⟨g,o,none⟩ u).cell? ⟨p,2,none⟩=some x2∧(W.setCell ⟨g,o,none⟩ u).cell? ⟨p,3,none⟩=some x3∧(W.setCell ⟨g,o,none⟩ u).cell? ⟨q,0,none⟩=some x4∧(W.setCell ⟨g,o,none⟩ u).cell? ⟨q,1,none⟩=some x5∧(W.setCell ⟨g,o,none⟩ u).cell? ⟨q,2,none⟩=some x6∧(W.setCell ⟨g,o,none⟩ u).cell? ⟨q,3,none⟩=some x7:=by
 have hn:∀ k:Nat,(W.setCell ⟨g,o,none⟩ u).cell? ⟨p,k,none⟩=W.cell? ⟨p,k,none⟩:=fun k=>World.cell?_setCell_far _ _ _ _ (Ne.symm hp)
 have hm:∀ k:Nat,(W.setCell ⟨g,o,none⟩ u).cell? ⟨q,k,none⟩=W.cell? ⟨q,k,none⟩:=fun k=>World.cell?_setCell_far _ _ _ _ (Ne.symm hq)
 rw[hn,hn,hn,hn,hm,hm,hm,hm]
 exact h
theorem jH {w:World} {v u:Value} {a b:En} (h:EV w v a) (k:EV w u b) (oa:a.i=0->b7 a.v) (ob:b.i=0->b7 b.v):Calls prog 49 #[v,u] w fun r w'=>r=.returned (cQ (bM a) (bN b))∧Below w.heap.size w w':=by
  have T1:Hid (∀ W,Below w.heap.size w W->Calls prog 72 #[v,.int .i64 1] W fun r w'=>r=.returned (.int .i64 (bM a))∧Below W.heap.size W w'):=fun W hb=>vA (way:=1) (by omega) (h.keeps hb) oa
  have T2:Hid (∀ W,Below w.heap.size w W->Calls prog 72 #[u,.int .i64 2] W fun r w'=>r=.returned (.int .i64 (bN b))∧Below W.heap.size W w'):=fun W hb=>vA (way:=2) (by omega) (k.keeps hb) ob
  obtain⟨a_g,a_o,a_n,a_c,a_e,rfl,a_D⟩:=h
  obtain⟨b_g,b_o,b_n,b_c,b_e,rfl,b_D⟩:=k
  unfold cQ
  generalize bM a=X at *
  generalize bN b=Y at *
  generalize a.i=ai at *
  generalize b.i=bi at *
  clear oa ob a_D b_D
  have hb:=aq w
  go_enter func49,ntmps49
  have p_k:(w.alloc (.cells #[.int .i64 ai,.bool a_g,.slice a_o a_n a_c,.int .i64 a_e] 68)).heap[w.heap.size]?=some (.cells #[.int .i64 ai,.bool a_g,.slice a_o a_n a_c,.int .i64 a_e] 68):=av (.cells #[.int .i64 ai,.bool a_g,.slice a_o a_n a_c,.int .i64 a_e] 68) (by simp only[ar])
  have hb:=aa hb (ae w (.cells #[.int .i64 ai,.bool a_g,.slice a_o a_n a_c,.int .i64 a_e] 68))
  have p_k:=am (.cells #[.int .i64 bi,.bool b_g,.slice b_o b_n b_c,.int .i64 b_e] 68) p_k
  have q_k:((w.alloc (.cells #[.int .i64 ai,.bool a_g,.slice a_o a_n a_c,.int .i64 a_e] 68)).alloc (.cells #[.int .i64 bi,.bool b_g,.slice b_o b_n b_c,.int .i64 b_e] 68)).heap[w.heap.size+1]?=some (.cells #[.int .i64 bi,.bool b_g,.slice b_o b_n b_c,.int .i64 b_e] 68):=av (.cells #[.int .i64 bi,.bool b_g,.slice b_o b_n b_c,.int .i64 b_e] 68) (by simp only[ar])
  have hb:=aa hb (ae (w.alloc (.cells #[.int .i64 ai,.bool a_g,.slice a_o a_n a_c,.int .i64 a_e] 68)) (.cells #[.int .i64 bi,.bool b_g,.slice b_o b_n b_c,.int .i64 b_e] 68))
  have p_k:=am (.cells #[.int .i64 0,.int .i64 0] 23) p_k
  have q_k:=am (.cells #[.int .i64 0,.int .i64 0] 23) q_k
  have r_k:(((w.alloc (.cells #[.int .i64 ai,.bool a_g,.slice a_o a_n a_c,.int .i64 a_e] 68)).alloc (.cells #[.int .i64 bi,.bool b_g,.slice b_o b_n b_c,.int .i64 b_e] 68)).alloc (.cells #[.int .i64 0,.int .i64 0] 23)).heap[w.heap.size+1+1]?=some (.cells #[.int .i64 0,.int .i64 0] 23):=av (.cells #[.int .i64 0,.int .i64 0] 23) (by simp only[ar])
  have hb:=aa hb (ae ((w.alloc (.cells #[.int .i64 ai,.bool a_g,.slice a_o a_n a_c,.int .i64 a_e] 68)).alloc (.cells #[.int .i64 bi,.bool b_g,.slice b_o b_n b_c,.int .i64 b_e] 68)) (.cells #[.int .i64 0,.int .i64 0] 23))
  go_wp2_with fail
  generalize (((w.alloc (.cells #[.int .i64 ai,.bool a_g,.slice a_o a_n a_c,.int .i64 a_e] 68)).alloc (.cells #[.int .i64 bi,.bool b_g,.slice b_o b_n b_c,.int .i64 b_e] 68)).alloc (.cells #[.int .i64 0,.int .i64 0] 23))=x1 at p_k q_k r_k hb ⊢
  have KK:∀ W,Below x1.heap.size x1 W->W.cell? ⟨w.heap.size,0,none⟩=some (.int .i64 ai)∧W.cell? ⟨w.heap.size,1,none⟩=some (.bool a_g)∧W.cell? ⟨w.heap.size,2,none⟩=some (.slice a_o a_n a_c)∧W.cell? ⟨w.heap.size,3,none⟩=some (.int .i64 a_e)∧W.cell? ⟨w.heap.size+1,0,none⟩=some (.int .i64 bi)∧W.cell? ⟨w.heap.size+1,1,none⟩=some (.bool b_g)∧W.cell? ⟨w.heap.size+1,2,none⟩=some (.slice b_o b_n b_c)∧W.cell? ⟨w.heap.size+1,3,none⟩=some (.int .i64 b_e):=fun W hW=>⟨af (ab p_k 0 rfl) hW,af (ab p_k 1 rfl) hW,af (ab p_k 2 rfl) hW,af (ab p_k 3 rfl) hW,af (ab q_k 0 rfl) hW,af (ab q_k 1 rfl) hW,af (ab q_k 2 rfl) hW,af (ab q_k 3 rfl) hW⟩
  have B0:Below x1.heap.size x1 x1.drew:=(aq _).drew
  have n1:w.heap.size≠w.heap.size+1+1:=by omega
  have n2:w.heap.size+1≠w.heap.size+1+1:=by omega
  go_region_held3 (fun W=>W.cell? ⟨w.heap.size,0,none⟩=some (.int .i64 ai)∧W.cell? ⟨w.heap.size,1,none⟩=some (.bool a_g)∧W.cell? ⟨w.heap.size,2,none⟩=some (.slice a_o a_n a_c)∧W.cell? ⟨w.heap.size,3,none⟩=some (.int .i64 a_e)∧W.cell? ⟨w.heap.size+1,0,none⟩=some (.int .i64 bi)∧W.cell? ⟨w.heap.size+1,1,none⟩=some (.bool b_g)∧W.cell? ⟨w.heap.size+1,2,none⟩=some (.slice b_o b_n b_c)∧W.cell? ⟨w.heap.size+1,3,none⟩=some (.int .i64 b_e))
    (first|assumption|(repeat (first|exact KK _ B0|exact KK _ B1|exact KK _ B2|refine Bo n1 n2 ?_)))
    (first
      | (go_at_call 72;have _t:=hs1;refine(T2.out _ (aa hb B1)).mono ?_;rintro _ y3 ⟨rfl,hs2⟩;have B2:=aa B1 hs2;have r_k:=ac B2 r_k;have f_r0:=ab r_k 0 rfl;have f_r1:=ab r_k 1 rfl;have z_r0:=ak r_k 0;have z_r1:=ak r_k 1)
      | (go_at_call 72; refine (T1.out _ (aa hb B0)).mono ?_; rintro _ y2 ⟨rfl,hs1⟩; have B1:=aa B0 hs1))
  have hb:=aa hb B2
  have f_r0:=ab r_k 0 rfl
  have z_r0:=ak r_k 0
  have d_r0:=ag r_k 0 (.int .i64 X)
  have f_r1:=ab r_k 1 rfl
  have z_r1:=ak r_k 1
  have d_r1:=ag d_r0 1 (.int .i64 Y)
  have e_r0:=ab d_r1 0 rfl
  have e_r1:=ab d_r1 1 rfl
  have hbe:=((hb.setCell (p:=⟨w.heap.size+1+1,0,none⟩) (show w.heap.size<=w.heap.size+1+1 by omega) (.int .i64 X)).setCell (p:=⟨w.heap.size+1+1,1,none⟩) (show w.heap.size<=w.heap.size+1+1 by omega) (.int .i64 Y))
  clear r_k d_r0 d_r1
  go_wp2
  refine bodyPost_ret (v:=.agg #[.int .i64 X,.int .i64 Y]) (by simp[results,results49,go_sem,e_r0,e_r1]) rfl ⟨rfl,hbe⟩
end Go.Proofs.YtkkpppgfoilgmaaGreatDoor
