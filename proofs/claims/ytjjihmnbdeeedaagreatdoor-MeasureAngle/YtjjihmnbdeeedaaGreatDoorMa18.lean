/-
  plumbref4's To, plumbref8's told and span, by their contracts (tools/p8.py)
-/
import Derived.Test.YtjjihmnbdeeedaaGreatDoorMa17
import Derived.Test.YtjjihmnbdeeedaaGreatDoorMa15
import Derived.Test.YtjjihmnbdeeedaaGreatDoorMa4
import Derived.Deep.RegionHeld3
set_option maxRecDepth 100000
set_option maxHeartbeats 8000000
set_option linter.unusedVariables false
set_option linter.unusedSimpArgs false
namespace Go.Proofs.YtjjihmnbdeeedaaGreatDoor
open Go Go.Proofs.Tryz Go.RowKit Go.Proofs.YtjjihmnbdeeedaaGreatDoor.M
def tP (way V:Int):Int:=if V=0 then 0 else aL (fH way V)
def eW (way:Int) (a:En):Int:=if 0<a.i then 9218868437227405312 else if a.i<0 then -4503599627370496 else tP way a.v
theorem IE (V:Int):V=sg (decide (V<0)) (V.natAbs:Int):=by
 by_cases h:V<0
 ·rw[decide_eq_true h];show V=-(V.natAbs:Int);omega
 ·rw[decide_eq_false h];show V=(V.natAbs:Int);omega
theorem NV {way V p:Int} (h0:V≠0) (h:wo way (decide (V<0)) V.natAbs p):p=fH way V:=by
 obtain⟨r0,l,h1,h2⟩:=h
 exact(tb h0 ⟨V.natAbs,r0,l,IE V,h1,h2⟩).symm
theorem Sr (w:World):Calls prog 116 #[] w fun x w'=>x=.returned (.agg #[G6 53,G6 (-1074),G6 1024,G6 9218868437227405312,G6 (-9223372036854775808)])∧Below w.heap.size w w':=by
 go_enter func116,ntmps116
 go_wp2
 refine bodyPost_ret (v:=.agg #[G6 53,G6 (-1074),G6 1024,G6 9218868437227405312,G6 (-9223372036854775808)]) (by simp[results,results116,go_sem]) rfl ⟨rfl,?_⟩
 exact af _ _
theorem IF (way:Int) {g:Bool} {so:Option Addr} {sn sc:Nat} {e:Int} {w:World} (h:br w (.agg #[.bool g,.slice so sn sc,G6 e]) 0) :
  Calls prog 234 #[.agg #[G6 53,G6 (-1074),G6 1024,G6 9218868437227405312,G6 (-9223372036854775808)],.bool g,.slice so sn sc,G6 e,.bool false,G6 way] w fun x w'=>x=.returned (.tuple #[G6 0,.bool false])∧Below w.heap.size w w':=by
 obtain⟨ng,s,m,e',h1,hy,ao,n,cap,d,h2,hR,hN,hv⟩:=h
 simp only[Value.agg.injEq,Array.mk.injEq,List.cons.injEq,Value.bool.injEq,Value.int.injEq,true_and,and_true] at h1
 obtain⟨rfl,rfl,rfl⟩:=h1
 simp only[Value.slice.injEq] at h2
 obtain⟨rfl,rfl,rfl⟩:=h2
 obtain⟨e1,e2,e3⟩:=hy.unique Dy.zero
 subst e1 e2 e3
 have hn0:sn=0:=by
  rcases Nat.eq_zero_or_pos sn with z|z
  ·exact z
  ·have h1:=ik hN.1 z hN.2
   have:=dt (sn-1)
   omega
 subst hn0
 have hb1:=af w (.cells #[G6 53,G6 (-1074),G6 1024,G6 9218868437227405312,G6 (-9223372036854775808)] 147)
 have CB:Hid (∀ W,Below w.heap.size w W->Calls prog 274 #[.slice so 0 sc] W fun e w'=>e=.returned (G6 0)∧w'=W):=fun W hb=>by
  have:=xN so 0 sc d W (hR.keeps hb) hN (by omega)
  exact this
 go_enter func234,ntmps234
 go_wp2_with fail
 refine(CB.out _ hb1).mono ?_
 rintro _ _ ⟨rfl,rfl⟩
 go_wp2
 refine bodyPost_ret (v:=.tuple #[G6 0,.bool false]) (by simp[results,results234,go_sem]) rfl ⟨rfl,hb1⟩
theorem PY (b:Int) (hb:nn b) (o:Bool) (w:World):Calls prog 273 #[.agg #[G6 53,G6 (-1074),G6 1024,G6 9218868437227405312,G6 (-9223372036854775808)],G6 b,.bool o] w fun x w'=>x=.returned (.tuple #[G6 (aL b),.bool o])∧Below w.heap.size w w':=by
 have hba:=af w (.cells #[G6 53,G6 (-1074),G6 1024,G6 9218868437227405312,G6 (-9223372036854775808)] 147)
 have k_k:=aD w (.cells #[G6 53,G6 (-1074),G6 1024,G6 9218868437227405312,G6 (-9223372036854775808)] 147)
 have f4:=ae k_k 4 rfl
 have c0:=Oe hb.1
 by_cases h:b=-9223372036854775808
 ·subst h
  have hc:aL (-9223372036854775808)=0:=by decide
  rw[hc]
  go_enter func273,ntmps273
  go_wp2
  refine bodyPost_ret (v:=.tuple #[G6 0,.bool o]) (by simp[results,results273,go_sem]) rfl ⟨rfl,hba⟩
 ·have hc:aL b=b:=by
   unfold aL
   rw[if_neg hb.2]
   split
   ·rename_i q
    rcases c0.1 q with r|r
    ·exact r.symm
    ·exact absurd r h
   ·rfl
  rw[hc]
  have h2:(b == -9223372036854775808)=false:=by simp;exact h
  clear h hc c0 hb
  go_enter func273,ntmps273
  go_wp2
  refine bodyPost_ret (v:=.tuple #[G6 b,.bool o]) (by simp[results,results273,go_sem]) rfl ⟨rfl,hba⟩
theorem Ss {way:Int} (hw:0<=way∧way<=3) {w:World} {x_g:Bool} {x_o:Option Addr} {x_n x_c:Nat} {x_e V:Int} (hx:br w (.agg #[.bool x_g,.slice x_o x_n x_c,G6 x_e]) V) (ok:eR V):Calls prog 227 #[.agg #[G6 53,G6 (-1074),G6 1024,G6 9218868437227405312,G6 (-9223372036854775808)],.agg #[.bool x_g,.slice x_o x_n x_c,G6 x_e],G6 way] w fun r w'=>∃ o,r=.returned (.tuple #[G6 (tP way V),.bool o])∧Below w.heap.size w w':=by
  have CC:Hid (∀ W,Below w.heap.size w W->Calls prog 234 #[.agg #[G6 53,G6 (-1074),G6 1024,G6 9218868437227405312,G6 (-9223372036854775808)],.bool x_g,.slice x_o x_n x_c,G6 x_e,.bool false,G6 way] W fun r w'=>∃ p o,r=.returned (.tuple #[G6 p,.bool o])∧nn p∧aL p=tP way V∧Below W.heap.size W w'):=fun W hb=>by
    by_cases h0:V=0
    · subst h0
      refine(IF way (hx.keeps hb)).mono ?_
      rintro r w' ⟨rfl,h⟩
      exact⟨_,_,rfl,kK.1,by unfold tP;rw[if_pos rfl];decide,h⟩
    · refine(Fk way hw (hx.keeps hb) ok h0).mono ?_
      rintro r w' ⟨p,o,rfl,h,hR⟩
      have:=NV h0 hR
      subst this
      exact⟨_,_,rfl,⟨(nU way h0).1,(nU way h0).2⟩,by unfold tP;rw[if_neg h0],h⟩
  have CT:Hid (∀ (p:Int) (o:Bool) W,nn p->Calls prog 273 #[.agg #[G6 53,G6 (-1074),G6 1024,G6 9218868437227405312,G6 (-9223372036854775808)],G6 p,.bool o] W fun r w'=>r=.returned (.tuple #[G6 (aL p),.bool o])∧Below W.heap.size W w'):=fun p o W hp=>PY p hp o W
  generalize tP way V=R at *
  clear hx ok
  have hb:=ap w
  go_enter func227,ntmps227
  have k_k:(w.alloc (.cells #[G6 53,G6 (-1074),G6 1024,G6 9218868437227405312,G6 (-9223372036854775808)] 147)).heap[w.heap.size]?=some (.cells #[G6 53,G6 (-1074),G6 1024,G6 9218868437227405312,G6 (-9223372036854775808)] 147):=aE (.cells #[G6 53,G6 (-1074),G6 1024,G6 9218868437227405312,G6 (-9223372036854775808)] 147) (by simp only[aw])
  have hb:=ac hb (af w (.cells #[G6 53,G6 (-1074),G6 1024,G6 9218868437227405312,G6 (-9223372036854775808)] 147))
  have k_k:=am (.cells #[.bool x_g,.slice x_o x_n x_c,G6 x_e] 40) k_k
  have x_k:((w.alloc (.cells #[G6 53,G6 (-1074),G6 1024,G6 9218868437227405312,G6 (-9223372036854775808)] 147)).alloc (.cells #[.bool x_g,.slice x_o x_n x_c,G6 x_e] 40)).heap[w.heap.size+1]?=some (.cells #[.bool x_g,.slice x_o x_n x_c,G6 x_e] 40):=aE (.cells #[.bool x_g,.slice x_o x_n x_c,G6 x_e] 40) (by simp only[aw])
  have hb:=ac hb (af (w.alloc (.cells #[G6 53,G6 (-1074),G6 1024,G6 9218868437227405312,G6 (-9223372036854775808)] 147)) (.cells #[.bool x_g,.slice x_o x_n x_c,G6 x_e] 40))
  go_wp2_with fail
  generalize ((w.alloc (.cells #[G6 53,G6 (-1074),G6 1024,G6 9218868437227405312,G6 (-9223372036854775808)] 147)).alloc (.cells #[.bool x_g,.slice x_o x_n x_c,G6 x_e] 40))=x1 at k_k x_k hb ⊢
  have KK:∀ W,Below x1.heap.size x1 W->W.cell? ⟨w.heap.size,0,none⟩=some (G6 53)∧W.cell? ⟨w.heap.size,1,none⟩=some (G6 (-1074))∧W.cell? ⟨w.heap.size,2,none⟩=some (G6 1024)∧W.cell? ⟨w.heap.size,3,none⟩=some (G6 9218868437227405312)∧W.cell? ⟨w.heap.size,4,none⟩=some (G6 (-9223372036854775808))∧W.cell? ⟨w.heap.size+1,0,none⟩=some (.bool x_g)∧W.cell? ⟨w.heap.size+1,1,none⟩=some (.slice x_o x_n x_c)∧W.cell? ⟨w.heap.size+1,2,none⟩=some (G6 x_e):=fun W hW=>⟨ar (ae k_k 0 rfl) hW,ar (ae k_k 1 rfl) hW,ar (ae k_k 2 rfl) hW,ar (ae k_k 3 rfl) hW,ar (ae k_k 4 rfl) hW,ar (ae x_k 0 rfl) hW,ar (ae x_k 1 rfl) hW,ar (ae x_k 2 rfl) hW⟩
  have B0:Below x1.heap.size x1 x1.drew:=(ap _).drew
  go_region_held3 (fun W=>W.cell? ⟨w.heap.size,0,none⟩=some (G6 53)∧W.cell? ⟨w.heap.size,1,none⟩=some (G6 (-1074))∧W.cell? ⟨w.heap.size,2,none⟩=some (G6 1024)∧W.cell? ⟨w.heap.size,3,none⟩=some (G6 9218868437227405312)∧W.cell? ⟨w.heap.size,4,none⟩=some (G6 (-9223372036854775808))∧W.cell? ⟨w.heap.size+1,0,none⟩=some (.bool x_g)∧W.cell? ⟨w.heap.size+1,1,none⟩=some (.slice x_o x_n x_c)∧W.cell? ⟨w.heap.size+1,2,none⟩=some (G6 x_e))
    (first|assumption|exact KK _ B0|exact KK _ B1|exact KK _ B2|fail)
    (first
      | (go_at_call 273;have _t:=hs1;refine(CT.out _ _ _ np).mono ?_;rintro _ y3 ⟨rfl,hs2⟩;have B2:=ac B1 hs2)
      | (go_at_call 234; refine (CC.out _ (ac hb B0)).mono ?_; rintro _ y2 ⟨p,o,rfl,np,ep,hs1⟩; have B1:=ac B0 hs1))
  go_wp2
  refine bodyPost_ret (v:=.tuple #[G6 (aL p),.bool o]) (by simp[results,results227,go_sem,ep]) rfl ⟨o,by rw[ep],ac hb B2⟩
theorem IG {way:Int} (hw:0<=way∧way<=3) {w:World} {v:Value} {a:En} (h:EV w v a) (ok:a.i=0->eR a.v):Calls prog 171 #[v,G6 way] w fun r w'=>r=.returned (G6 (eW way a))∧Below w.heap.size w w':=by
  obtain⟨a_g,a_o,a_n,a_c,a_e,rfl,a_D⟩:=h
  have CK:Hid (∀ W,Calls prog 116 #[] W fun x w'=>x=.returned (.agg #[G6 53,G6 (-1074),G6 1024,G6 9218868437227405312,G6 (-9223372036854775808)])∧Below W.heap.size W w'):=fun W=>Sr W
  have fl3:∀ w:World,(Instr.field 147 (.agg #[G6 53,G6 (-1074),G6 1024,G6 9218868437227405312,G6 (-9223372036854775808)]) 3).run prog w=.ok (G6 9218868437227405312) w:=fun w=>by kernel_rfl
  have fl4:∀ w:World,(Instr.field 147 (.agg #[G6 53,G6 (-1074),G6 1024,G6 9218868437227405312,G6 (-9223372036854775808)]) 4).run prog w=.ok (G6 (-9223372036854775808)) w:=fun w=>by kernel_rfl
  unfold eW
  by_cases h1:0<a.i
  · rw[if_pos h1]
    generalize a.i=ai at *
    clear ok a_D
    have hb:=ap w
    go_enter func171,ntmps171
    have a_k:(w.alloc (.cells #[G6 ai,.bool a_g,.slice a_o a_n a_c,G6 a_e] 137)).heap[w.heap.size]?=some (.cells #[G6 ai,.bool a_g,.slice a_o a_n a_c,G6 a_e] 137):=aE (.cells #[G6 ai,.bool a_g,.slice a_o a_n a_c,G6 a_e] 137) (by simp only[aw])
    have hb:=ac hb (af w (.cells #[G6 ai,.bool a_g,.slice a_o a_n a_c,G6 a_e] 137))
    have f_a0:=ae a_k 0 rfl
    have f_a1:=ae a_k 1 rfl
    have f_a2:=ae a_k 2 rfl
    have f_a3:=ae a_k 3 rfl
    go_wp2_with fail
    clear f_a0 f_a1 f_a2 f_a3
    generalize (w.alloc (.cells #[G6 ai,.bool a_g,.slice a_o a_n a_c,G6 a_e] 137))=x1 at a_k hb ⊢
    refine(CK.out _).mono ?_
    rintro _ y2 ⟨rfl,hw1⟩
    have a_k:=aB hw1 a_k
    have hb:=ac hb hw1
    go_wp2
    go_ret
    exact⟨rfl,hb⟩
  · rw[if_neg h1]
    by_cases h2:a.i<0
    · rw[if_pos h2]
      generalize a.i=ai at *
      clear ok a_D
      have hb:=ap w
      go_enter func171,ntmps171
      have a_k:(w.alloc (.cells #[G6 ai,.bool a_g,.slice a_o a_n a_c,G6 a_e] 137)).heap[w.heap.size]?=some (.cells #[G6 ai,.bool a_g,.slice a_o a_n a_c,G6 a_e] 137):=aE (.cells #[G6 ai,.bool a_g,.slice a_o a_n a_c,G6 a_e] 137) (by simp only[aw])
      have hb:=ac hb (af w (.cells #[G6 ai,.bool a_g,.slice a_o a_n a_c,G6 a_e] 137))
      have f_a0:=ae a_k 0 rfl
      have f_a1:=ae a_k 1 rfl
      have f_a2:=ae a_k 2 rfl
      have f_a3:=ae a_k 3 rfl
      go_wp2_with fail
      clear f_a0 f_a1 f_a2 f_a3
      generalize (w.alloc (.cells #[G6 ai,.bool a_g,.slice a_o a_n a_c,G6 a_e] 137))=x1 at a_k hb ⊢
      refine(CK.out _).mono ?_
      rintro _ y2 ⟨rfl,hw1⟩
      have a_k:=aB hw1 a_k
      have hb:=ac hb hw1
      go_wp2_with fail
      refine(CK.out _).mono ?_
      rintro _ y3 ⟨rfl,hw2⟩
      have a_k:=aB hw2 a_k
      have hb:=ac hb hw2
      go_wp2
      go_ret
      exact⟨rfl,hb⟩
    · rw[if_neg h2]
      have h0:a.i=0:=by omega
      rw[h0]
      have CT:Hid (∀ W,Below w.heap.size w W->Calls prog 227 #[.agg #[G6 53,G6 (-1074),G6 1024,G6 9218868437227405312,G6 (-9223372036854775808)],.agg #[.bool a_g,.slice a_o a_n a_c,G6 a_e],G6 way] W fun r w'=>∃ o,r=.returned (.tuple #[G6 (tP way a.v),.bool o])∧Below W.heap.size W w'):=fun W hb=>Ss hw (a_D.keeps hb) (ok h0)
      generalize tP way a.v=R at *
      clear ok a_D h1 h2 h0 fl3 fl4
      have hb:=ap w
      go_enter func171,ntmps171
      have a_k:(w.alloc (.cells #[G6 0,.bool a_g,.slice a_o a_n a_c,G6 a_e] 137)).heap[w.heap.size]?=some (.cells #[G6 0,.bool a_g,.slice a_o a_n a_c,G6 a_e] 137):=aE (.cells #[G6 0,.bool a_g,.slice a_o a_n a_c,G6 a_e] 137) (by simp only[aw])
      have hb:=ac hb (af w (.cells #[G6 0,.bool a_g,.slice a_o a_n a_c,G6 a_e] 137))
      have f_a0:=ae a_k 0 rfl
      have f_a1:=ae a_k 1 rfl
      have f_a2:=ae a_k 2 rfl
      have f_a3:=ae a_k 3 rfl
      go_wp2_with fail
      clear f_a0 f_a1 f_a2 f_a3
      generalize (w.alloc (.cells #[G6 0,.bool a_g,.slice a_o a_n a_c,G6 a_e] 137))=x1 at a_k hb ⊢
      have KK:∀ W,Below x1.heap.size x1 W->W.cell? ⟨w.heap.size,0,none⟩=some (G6 0)∧W.cell? ⟨w.heap.size,1,none⟩=some (.bool a_g)∧W.cell? ⟨w.heap.size,2,none⟩=some (.slice a_o a_n a_c)∧W.cell? ⟨w.heap.size,3,none⟩=some (G6 a_e):=fun W hW=>⟨ar (ae a_k 0 rfl) hW,ar (ae a_k 1 rfl) hW,ar (ae a_k 2 rfl) hW,ar (ae a_k 3 rfl) hW⟩
      have B0:Below x1.heap.size x1 x1.drew:=(ap _).drew
      go_region_held3 (fun W=>W.cell? ⟨w.heap.size,0,none⟩=some (G6 0)∧W.cell? ⟨w.heap.size,1,none⟩=some (.bool a_g)∧W.cell? ⟨w.heap.size,2,none⟩=some (.slice a_o a_n a_c)∧W.cell? ⟨w.heap.size,3,none⟩=some (G6 a_e))
        (first|assumption|exact KK _ B0|exact KK _ B1|exact KK _ B2|fail)
        (first
          | (go_at_call 227;have _t:=hs1;refine(CT.out _ (ac hb B1)).mono ?_;rintro _ y3 ⟨o,rfl,hs2⟩;have B2:=ac B1 hs2)
          | (go_at_call 116; refine (CK.out _).mono ?_; rintro _ y2 ⟨rfl,hs1⟩; have B1:=ac B0 hs1))
      go_wp2
      go_ret
      exact⟨rfl,ac hb B2⟩
theorem PZ {p q g o:Nat} {x0 x1 x2 x3 x4 x5 x6 x7 u:Value} {W:World} (hp:p≠g) (hq:q≠g) (h:W.cell? ⟨p,0,none⟩=some x0∧W.cell? ⟨p,1,none⟩=some x1∧W.cell? ⟨p,2,none⟩=some x2∧W.cell? ⟨p,3,none⟩=some x3∧W.cell? ⟨q,0,none⟩=some x4∧W.cell? ⟨q,1,none⟩=some x5∧W.cell? ⟨q,2,none⟩=some x6∧W.cell? ⟨q,3,none⟩=some x7) :
  (W.setCell ⟨g,o,none⟩ u).cell? ⟨p,0,none⟩=some x0∧(W.setCell ⟨g,o,none⟩ u).cell? ⟨p,1,none⟩=some x1∧(W.setCell ⟨g,o,none⟩ u).cell? ⟨p,2,none⟩=some x2∧(W.setCell ⟨g,o,none⟩ u).cell? ⟨p,3,none⟩=some x3∧(W.setCell ⟨g,o,none⟩ u).cell? ⟨q,0,none⟩=some x4∧(W.setCell ⟨g,o,none⟩ u).cell? ⟨q,1,none⟩=some x5∧(W.setCell ⟨g,o,none⟩ u).cell? ⟨q,2,none⟩=some x6∧(W.setCell ⟨g,o,none⟩ u).cell? ⟨q,3,none⟩=some x7:=by
 have hn:∀ k:Nat,(W.setCell ⟨g,o,none⟩ u).cell? ⟨p,k,none⟩=W.cell? ⟨p,k,none⟩:=fun k=>World.cell?_setCell_far _ _ _ _ (Ne.symm hp)
 have hm:∀ k:Nat,(W.setCell ⟨g,o,none⟩ u).cell? ⟨q,k,none⟩=W.cell? ⟨q,k,none⟩:=fun k=>World.cell?_setCell_far _ _ _ _ (Ne.symm hq)
 rw[hn,hn,hn,hn,hm,hm,hm,hm]
 exact h
theorem wu {w:World} {v u:Value} {a b:En} (h:EV w v a) (k:EV w u b) (oa:a.i=0->eR a.v) (ob:b.i=0->eR b.v):Calls prog 106 #[v,u] w fun r w'=>r=.returned (ek (cD a) (cF b))∧Below w.heap.size w w':=by
  have T1:Hid (∀ W,Below w.heap.size w W->Calls prog 171 #[v,G6 1] W fun r w'=>r=.returned (G6 (cD a))∧Below W.heap.size W w'):=fun W hb=>IG (way:=1) (by omega) (h.keeps hb) oa
  have T2:Hid (∀ W,Below w.heap.size w W->Calls prog 171 #[u,G6 2] W fun r w'=>r=.returned (G6 (cF b))∧Below W.heap.size W w'):=fun W hb=>IG (way:=2) (by omega) (k.keeps hb) ob
  obtain⟨a_g,a_o,a_n,a_c,a_e,rfl,a_D⟩:=h
  obtain⟨b_g,b_o,b_n,b_c,b_e,rfl,b_D⟩:=k
  unfold ek
  generalize cD a=X at *
  generalize cF b=Y at *
  generalize a.i=ai at *
  generalize b.i=bi at *
  clear oa ob a_D b_D
  have hb:=ap w
  go_enter func106,ntmps106
  have p_k:(w.alloc (.cells #[G6 ai,.bool a_g,.slice a_o a_n a_c,G6 a_e] 137)).heap[w.heap.size]?=some (.cells #[G6 ai,.bool a_g,.slice a_o a_n a_c,G6 a_e] 137):=aE (.cells #[G6 ai,.bool a_g,.slice a_o a_n a_c,G6 a_e] 137) (by simp only[aw])
  have hb:=ac hb (af w (.cells #[G6 ai,.bool a_g,.slice a_o a_n a_c,G6 a_e] 137))
  have p_k:=am (.cells #[G6 bi,.bool b_g,.slice b_o b_n b_c,G6 b_e] 137) p_k
  have q_k:((w.alloc (.cells #[G6 ai,.bool a_g,.slice a_o a_n a_c,G6 a_e] 137)).alloc (.cells #[G6 bi,.bool b_g,.slice b_o b_n b_c,G6 b_e] 137)).heap[w.heap.size+1]?=some (.cells #[G6 bi,.bool b_g,.slice b_o b_n b_c,G6 b_e] 137):=aE (.cells #[G6 bi,.bool b_g,.slice b_o b_n b_c,G6 b_e] 137) (by simp only[aw])
  have hb:=ac hb (af (w.alloc (.cells #[G6 ai,.bool a_g,.slice a_o a_n a_c,G6 a_e] 137)) (.cells #[G6 bi,.bool b_g,.slice b_o b_n b_c,G6 b_e] 137))
  have p_k:=am (.cells #[G6 0,G6 0] 72) p_k
  have q_k:=am (.cells #[G6 0,G6 0] 72) q_k
  have r_k:(((w.alloc (.cells #[G6 ai,.bool a_g,.slice a_o a_n a_c,G6 a_e] 137)).alloc (.cells #[G6 bi,.bool b_g,.slice b_o b_n b_c,G6 b_e] 137)).alloc (.cells #[G6 0,G6 0] 72)).heap[w.heap.size+1+1]?=some (.cells #[G6 0,G6 0] 72):=aE (.cells #[G6 0,G6 0] 72) (by simp only[aw])
  have hb:=ac hb (af ((w.alloc (.cells #[G6 ai,.bool a_g,.slice a_o a_n a_c,G6 a_e] 137)).alloc (.cells #[G6 bi,.bool b_g,.slice b_o b_n b_c,G6 b_e] 137)) (.cells #[G6 0,G6 0] 72))
  go_wp2_with fail
  generalize (((w.alloc (.cells #[G6 ai,.bool a_g,.slice a_o a_n a_c,G6 a_e] 137)).alloc (.cells #[G6 bi,.bool b_g,.slice b_o b_n b_c,G6 b_e] 137)).alloc (.cells #[G6 0,G6 0] 72))=x1 at p_k q_k r_k hb ⊢
  have KK:∀ W,Below x1.heap.size x1 W->W.cell? ⟨w.heap.size,0,none⟩=some (G6 ai)∧W.cell? ⟨w.heap.size,1,none⟩=some (.bool a_g)∧W.cell? ⟨w.heap.size,2,none⟩=some (.slice a_o a_n a_c)∧W.cell? ⟨w.heap.size,3,none⟩=some (G6 a_e)∧W.cell? ⟨w.heap.size+1,0,none⟩=some (G6 bi)∧W.cell? ⟨w.heap.size+1,1,none⟩=some (.bool b_g)∧W.cell? ⟨w.heap.size+1,2,none⟩=some (.slice b_o b_n b_c)∧W.cell? ⟨w.heap.size+1,3,none⟩=some (G6 b_e):=fun W hW=>⟨ar (ae p_k 0 rfl) hW,ar (ae p_k 1 rfl) hW,ar (ae p_k 2 rfl) hW,ar (ae p_k 3 rfl) hW,ar (ae q_k 0 rfl) hW,ar (ae q_k 1 rfl) hW,ar (ae q_k 2 rfl) hW,ar (ae q_k 3 rfl) hW⟩
  have B0:Below x1.heap.size x1 x1.drew:=(ap _).drew
  have n1:w.heap.size≠w.heap.size+1+1:=by omega
  have n2:w.heap.size+1≠w.heap.size+1+1:=by omega
  go_region_held3 (fun W=>W.cell? ⟨w.heap.size,0,none⟩=some (G6 ai)∧W.cell? ⟨w.heap.size,1,none⟩=some (.bool a_g)∧W.cell? ⟨w.heap.size,2,none⟩=some (.slice a_o a_n a_c)∧W.cell? ⟨w.heap.size,3,none⟩=some (G6 a_e)∧W.cell? ⟨w.heap.size+1,0,none⟩=some (G6 bi)∧W.cell? ⟨w.heap.size+1,1,none⟩=some (.bool b_g)∧W.cell? ⟨w.heap.size+1,2,none⟩=some (.slice b_o b_n b_c)∧W.cell? ⟨w.heap.size+1,3,none⟩=some (G6 b_e))
    (first|assumption|(repeat (first|exact KK _ B0|exact KK _ B1|exact KK _ B2|refine PZ n1 n2 ?_)))
    (first
      | (go_at_call 171;have _t:=hs1;refine(T2.out _ (ac hb B1)).mono ?_;rintro _ y3 ⟨rfl,hs2⟩;have B2:=ac B1 hs2;have r_k:=aB B2 r_k;have f_r0:=ae r_k 0 rfl;have f_r1:=ae r_k 1 rfl;have z_r0:=ah r_k 0;have z_r1:=ah r_k 1)
      | (go_at_call 171; refine (T1.out _ (ac hb B0)).mono ?_; rintro _ y2 ⟨rfl,hs1⟩; have B1:=ac B0 hs1))
  have hb:=ac hb B2
  have f_r0:=ae r_k 0 rfl
  have z_r0:=ah r_k 0
  have d_r0:=az r_k 0 (G6 X)
  have f_r1:=ae r_k 1 rfl
  have z_r1:=ah r_k 1
  have d_r1:=az d_r0 1 (G6 Y)
  have e_r0:=ae d_r1 0 rfl
  have e_r1:=ae d_r1 1 rfl
  have hbe:=((hb.setCell (p:=⟨w.heap.size+1+1,0,none⟩) (show w.heap.size<=w.heap.size+1+1 by omega) (G6 X)).setCell (p:=⟨w.heap.size+1+1,1,none⟩) (show w.heap.size<=w.heap.size+1+1 by omega) (G6 Y))
  clear r_k d_r0 d_r1
  go_wp2
  refine bodyPost_ret (v:=.agg #[G6 X,G6 Y]) (by simp[results,results106,go_sem,e_r0,e_r1]) rfl ⟨rfl,hbe⟩
end Go.Proofs.YtjjihmnbdeeedaaGreatDoor
