/- Parts of the proof. -/
import Derived.Test.YtkkpppgfoilgmaaGreatDoorPart17
import Derived.Test.YtkkpppgfoilgmaaGreatDoorPart7
import Derived.Test.YtkkpppgfoilgmaaGreatDoorPart12
import Derived.Maps.AppendAt
import Derived.Laws.AppendOwnNone
set_option maxRecDepth 100000
set_option maxHeartbeats 8000000
set_option linter.unusedVariables false
set_option linter.unusedSimpArgs false
namespace Go.Proofs.YtkkpppgfoilgmaaGreatDoor
open Go Go.Proofs.Tryz Go.RowKit Go.Proofs.YtkkpppgfoilgmaaGreatDoor.M
theorem la {K:Nat} {A:Int} {ng:Bool} {m e:Int} (h:Bd K A) (hy:Dy A ng m e) (hK:K<=4194304) (h0:0<m):-(K:Int)<=e∧e<=K∧m*2^(e+K).toNat<2^(2*K):=by
 obtain⟨c,hc,c1,c2⟩:=h
 have aw:∀ (b:Bool) (C:Int),0<C->C<2^(2*K)->A=sg b C*pw (-(K:Int))->-(K:Int)<=e∧e<=K∧m*2^(e+K).toNat<2^(2*K):=fun b C hC hlt hA=>by
  obtain⟨l,hl⟩:=iQ hC
  have hy2:=Dy.of b hl hC (show -4194304 <= -(K:Int) by omega)
  rw[<- hA] at hy2
  obtain⟨_,rfl,rfl⟩:=hy.unique hy2
  obtain⟨d1,d2,d3⟩:=fl hl hC
  have hl2:l<2*K:=by
   have h3:(1:Int)*2^l<=C/2^l*2^l:=Int.mul_le_mul_of_nonneg_right (by omega) (Int.le_of_lt (aJ l))
   rw[d3] at h3
   exact eO (by omega)
  refine⟨by omega,by omega,?_⟩
  rw[show(-(K:Int)+l+K).toNat=l by omega,d3]
  exact hlt
 by_cases hz:c=0
 ·exfalso
  rw[hz,Int.zero_mul] at hc
  have:=hy.eq_zero.1 hc
  omega
 ·by_cases hp:0<c
  ·exact aw false c hp c2 (by simpa [sg] using hc)
  ·exact aw true (-c) (by omega) (by omega) (by simpa [sg] using hc)
theorem td {K:Nat} {A:Int} {ng:Bool} {m e low:Int} (h:Bd K A) (hy:Dy A ng m e) (hK:K<=4194304) (h0:0<m) (h1:-(K:Int)<=low) (h2:low<=e):m*2^(e-low).toNat<2^(2*K):=by
 obtain⟨a,b,c⟩:=la h hy hK h0
 have h3:(2:Int)^(e-low).toNat<=2^(e+K).toNat:=cJ (by omega)
 have h4:m*2^(e-low).toNat<=m*2^(e+K).toNat:=Int.mul_le_mul_of_nonneg_left h3 (by omega)
 omega
theorem pO {K:Nat} {A:Int} {ng:Bool} {m e:Int} (h:Bd K A) (hy:Dy A ng m e) (hK:K<=4194304) (h0:0<m):m<2^(2*K):=by
 obtain⟨a,b,c⟩:=la h hy hK h0
 have h3:(1:Int)<=2^(e+K).toNat:=aJ _
 have h4:m*1<=m*2^(e+K).toNat:=Int.mul_le_mul_of_nonneg_left h3 (by omega)
 omega
theorem qE {K:Nat} {d:Nat->Int} {n:Nat} (hK:K<=560000) (hN:bV d n) (h:val d n<2^(2*K)):n<=37400:=by
 by_cases h1:n<=37400
 ·exact h1
 ·exfalso
  have a:=dH hN.1 (by omega) hN.2
  have b:=gW (show 37400<=n-1 by omega)
  have c:(2:Int)^(2*K)<=2^(30*37400):=cJ (by omega)
  rw[<- di] at c
  generalize P 37400=Y at *
  omega
def hH (w w':World) (A B:Int) (x y v:Value):Prop:=Below w.heap.size w w'∧(bv w w' (A+B) v∨(A=0∧v=y)∨(B=0∧v=x))
theorem hH.num {w w':World} {A B:Int} {x y v:Value} (h:hH w w' A B x y v) (hx:bk w x A) (hy:bk w y B):bk w' v (A+B):=by
 rcases h.2 with h1|⟨rfl,rfl⟩|⟨rfl,rfl⟩
 ·exact h1.num
 ·rw[Int.zero_add];exact hy.keeps h.1
 ·rw[Int.add_zero];exact hx.keeps h.1
theorem o7 (x y:aI) (w:World) (hm:x.n<=9223372036854775807) (hm':y.n<=9223372036854775807) (h:x.n=0) :
  Calls prog 76 #[x.v,y.v] w fun r w'=>r=.returned y.v∧Below w.heap.size w w':=by
 obtain⟨an,ao,n,ca,a,e⟩:=x
 obtain⟨bn,bo,m,cb,b,f⟩:=y
 unfold aI.v at *
 simp only at *
 subst h
 go_enter func76,ntmps76
 go_wp2
 refine bodyPost_ret (v:=.agg #[.bool bn,.slice bo m cb,.int .i64 f]) (by simp[results,results76,go_sem]) rfl ⟨rfl,?_⟩
 exact eg _ _ _ _
theorem nE (x y:aI) (w:World) (hm:x.n<=9223372036854775807) (hm':y.n<=9223372036854775807) (h0:0<x.n) (h:y.n=0) :
  Calls prog 76 #[x.v,y.v] w fun r w'=>r=.returned x.v∧Below w.heap.size w w':=by
 obtain⟨an,ao,n,ca,a,e⟩:=x
 obtain⟨bn,bo,m,cb,b,f⟩:=y
 unfold aI.v at *
 simp only at *
 have hn0:((n:Int) == 0)=false:=by simp;omega
 subst h
 go_enter func76,ntmps76
 go_wp2
 refine bodyPost_ret (v:=.agg #[.bool an,.slice ao n ca,.int .i64 e]) (by simp[results,results76,go_sem]) rfl ⟨rfl,?_⟩
 exact eg _ _ _ _
theorem vT (x y:aI) (w:World) (hx:aL w x.ao x.n x.cap x.d) (hy:aL w y.ao y.n y.cap y.d) (n0:0<x.n) (m0:0<y.n) (low A B V:Int)
  (hlow:low=min x.e y.e) (hl0:-600000<=low) (he:x.e<=600000) (hf:y.e<=600000)
  (H1:∀ W,Below w.heap.size w W->Calls prog 97 #[.slice x.ao x.n x.cap,.int .i64 (x.e-low)] W fun r w'=>∃ so sn sc,r=.returned (.slice so sn sc)∧bd w' (.slice so sn sc) A∧Below W.heap.size W w')
  (H2:∀ W,Below w.heap.size w W->Calls prog 97 #[.slice y.ao y.n y.cap,.int .i64 (y.e-low)] W fun r w'=>∃ so sn sc,r=.returned (.slice so sn sc)∧bd w' (.slice so sn sc) B∧Below W.heap.size W w')
  (H3:∀ W p q,bd W p A->bd W q B->Calls prog 98 #[p,q] W fun r w'=>∃ so sn sc,r=.returned (.slice so sn sc)∧bd w' (.slice so sn sc) (A+B)∧Below W.heap.size W w')
  (H4:∀ W p q,bd W p A->bd W q B->Calls prog 99 #[p,q] W fun r w'=>r=.returned (.int .i64 (bS A B))∧Below W.heap.size W w')
  (H5:∀ W p q,bd W p A->bd W q B->B<=A->Calls prog 100 #[p,q] W fun r w'=>∃ so sn sc,r=.returned (.slice so sn sc)∧bd w' (.slice so sn sc) (A-B)∧Below W.heap.size W w')
  (H6:∀ W p q,bd W p A->bd W q B->A<=B->Calls prog 100 #[q,p] W fun r w'=>∃ so sn sc,r=.returned (.slice so sn sc)∧bd w' (.slice so sn sc) (B-A)∧Below W.heap.size W w')
  (H7:∀ W ng s M,bd W s M->((x.ng=y.ng∧ng=x.ng∧M=A+B)∨(x.ng≠y.ng∧B<=A∧ng=x.ng∧M=A-B)∨(x.ng≠y.ng∧A<B∧ng=y.ng∧M=B-A))->Calls prog 80 #[.bool ng,s,.int .i64 low] W fun r w'=>∃ ng s1 s2 s3 e1,r=.returned (.agg #[.bool ng,.slice s1 s2 s3,.int .i64 e1])∧bv W w' V (.agg #[.bool ng,.slice s1 s2 s3,.int .i64 e1])∧Below W.heap.size W w') :
  Calls prog 76 #[x.v,y.v] w fun r w'=>∃ v,r=.returned v∧bv w w' V v:=by
 have hmin:∀ (ts:Array TypeId) (t:TypeId) (w:World),(Builtin.min_ ts t #[.int .i64 x.e,.int .i64 y.e]).run prog w=.ok (.int .i64 low) w:=fun ts t w=>by rw[run_min_int2,hlow];congr 2;omega
 have hl1:low<=x.e:=by omega
 have hl2:low<=y.e:=by omega
 have HH7:Hid _:=H7
 have hm:=hx.max
 have hm':=hy.max
 clear hlow H7
 obtain⟨an,ao,n,ca,a,e⟩:=x
 obtain⟨bn,bo,m,cb,b,f⟩:=y
 unfold aI.v
 simp only at *
 have hn0:((n:Int) == 0)=false:=by simp;omega
 have hm0:((m:Int) == 0)=false:=by simp;omega
 have hb3:Below w.heap.size w (((w.alloc (.cells #[.bool an,.slice ao n ca,.int .i64 e] 26)).alloc (.cells #[.bool bn,.slice bo m cb,.int .i64 f] 26)).alloc (.cells #[.bool false,.slice none 0 0,.int .i64 0] 26)):=eg _ _ _ _
 have g0:=gJ w (.cells #[.bool an,.slice ao n ca,.int .i64 e] 26) (.cells #[.bool bn,.slice bo m cb,.int .i64 f] 26) (.cells #[.bool false,.slice none 0 0,.int .i64 0] 26)
 have g1:=gK w (.cells #[.bool an,.slice ao n ca,.int .i64 e] 26) (.cells #[.bool bn,.slice bo m cb,.int .i64 f] 26) (.cells #[.bool false,.slice none 0 0,.int .i64 0] 26)
 have g2:=jV w (.cells #[.bool an,.slice ao n ca,.int .i64 e] 26) (.cells #[.bool bn,.slice bo m cb,.int .i64 f] 26) (.cells #[.bool false,.slice none 0 0,.int .i64 0] 26)
 go_enter func76,ntmps76
 go_wp2_with fail
 generalize ((w.alloc (.cells #[.bool an,.slice ao n ca,.int .i64 e] 26)).alloc (.cells #[.bool bn,.slice bo m cb,.int .i64 f] 26)).alloc (.cells #[.bool false,.slice none 0 0,.int .i64 0] 26)=wx at hb3 g0 g1 g2 ⊢
 refine(H1 _ hb3).mono ?_
 rintro r w1 ⟨po,pn,pc,rfl,hP,hb1⟩
 have hbx1:=ab hb3 hb1
 replace g0:=(hb1.block _ (aGe g0).1).trans g0
 replace g1:=(hb1.block _ (aGe g1).1).trans g1
 replace g2:=(hb1.block _ (aGe g2).1).trans g2
 have j1:=aa g1 1 rfl
 have j2:=aa g1 2 rfl
 go_wp2_with fail
 clear j1 j2
 refine(H2 _ hbx1).mono ?_
 rintro r w2 ⟨qo,qn,qc,rfl,hQ,hb2⟩
 have hbx2:=ab hbx1 hb2
 replace hP:=hP.keeps hb2
 replace g0:=(hb2.block _ (aGe g0).1).trans g0
 replace g1:=(hb2.block _ (aGe g1).1).trans g1
 replace g2:=(hb2.block _ (aGe g2).1).trans g2
 have k0:=aa g0 0 rfl
 have k1:=aa g0 1 rfl
 have k2:=aa g0 2 rfl
 have j0:=aa g1 0 rfl
 have j1:=aa g1 1 rfl
 have j2:=aa g1 2 rfl
 by_cases hng:an=bn
 ·subst hng
  have C1:∀ W,Below w2.heap.size w2 W->Calls prog 98 #[.slice po pn pc,.slice qo qn qc] W fun r w'=>∃ so sn sc,r=.returned (.slice so sn sc)∧bd w' (.slice so sn sc) (A+B)∧Below W.heap.size W w':=fun W h=>H3 W _ _ (hP.keeps h) (hQ.keeps h)
  have C2:∀ W so sn sc,bd W (.slice so sn sc) (A+B)->Calls prog 80 #[.bool an,.slice so sn sc,.int .i64 low] W fun r w'=>∃ ng s1 s2 s3 e1,r=.returned (.agg #[.bool ng,.slice s1 s2 s3,.int .i64 e1])∧bv W w' V (.agg #[.bool ng,.slice s1 s2 s3,.int .i64 e1])∧Below W.heap.size W w':=fun W so sn sc hN=>HH7.out W an _ _ hN (.inl ⟨rfl,rfl,rfl⟩)
  clear H1 H2 H3 H4 H5 H6 HH7
  have hs3:=(aGe g2).1
  go_wp2_with fail
  have hb1:=ap w2
  go_region_held3 (fun W=>(W.cell? ⟨w.heap.size,0,none⟩=some (.bool an)∧W.cell? ⟨w.heap.size,1,none⟩=some (.slice ao n ca)∧W.cell? ⟨w.heap.size,2,none⟩=some (.int .i64 e))∧W.cell? ⟨w.heap.size+1,0,none⟩=some (.bool an)∧W.cell? ⟨w.heap.size+1,1,none⟩=some (.slice bo m cb)∧W.cell? ⟨w.heap.size+1,2,none⟩=some (.int .i64 f))
   (first|assumption|exact⟨⟨k0,k1,k2⟩,j0,j1,j2⟩|exact aQ (W:=w2.drew) hbv1 ⟨⟨k0,k1,k2⟩,j0,j1,j2⟩|exact aQ hbv2 (aQ (W:=w2.drew) hbv1 ⟨⟨k0,k1,k2⟩,j0,j1,j2⟩)|exact⟨dI (aQ hbv2 (aQ (W:=w2.drew) hbv1 ⟨⟨k0,k1,k2⟩,j0,j1,j2⟩)).1 (by omega) _ _ _,dI (aQ hbv2 (aQ (W:=w2.drew) hbv1 ⟨⟨k0,k1,k2⟩,j0,j1,j2⟩)).2 (by omega) _ _ _⟩)
   (first|(go_at_call 80;refine(C2 _ _ _ _ hv1).mono ?_;rintro y w4 ⟨ng4,o4,n4,c4,e4,rfl,hv2,hbv2⟩;have q0:=((ab hbv1 hbv2).block (w.heap.size+2) (by show _<w2.heap.size;omega)).trans g2;have x0:=aa q0 0 rfl;have x1:=aa q0 1 rfl;have x2:=aa q0 2 rfl;have z0:=af q0 0;have z1:=af q0 1;have z2:=af q0 2)|(go_at_call 98;refine(C1 _ hb1.drew).mono ?_;rintro y w3 ⟨so,sn,sc,rfl,hv1,hbv1⟩))
  all_goals go_wp2
  all_goals
   refine bodyPost_ret (v:=.agg #[.bool ng4,.slice o4 n4 c4,.int .i64 e4]) (by simp[results,results76,go_sem,x0,x1,x2]) rfl ⟨_,rfl,?_⟩
   exact cD (g:=w.heap.size+2) hv2 (ab hbx2 (ab hb1.drew hbv1)) (by omega) (Nat.lt_of_lt_of_le (show _<w2.heap.size by omega) hbv1.size) _ _ _
 ·have hng':(an == bn)=false:=by simp[hng]
  go_wp2_with fail
  refine(H4 _ _ _ hP hQ).mono ?_
  rintro r w3 ⟨rfl,hb3'⟩
  have hbx3:=ab hbx2 hb3'
  replace hP:=hP.keeps hb3'
  replace hQ:=hQ.keeps hb3'
  replace g0:=(hb3'.block _ (aGe g0).1).trans g0
  replace g1:=(hb3'.block _ (aGe g1).1).trans g1
  replace g2:=(hb3'.block _ (aGe g2).1).trans g2
  replace k0:=aa g0 0 rfl
  replace k1:=aa g0 1 rfl
  replace k2:=aa g0 2 rfl
  replace j0:=aa g1 0 rfl
  replace j1:=aa g1 1 rfl
  replace j2:=aa g1 2 rfl
  have hs3:=(aGe g2).1
  by_cases hAB:B<=A
  ·have ho:(0:Int)<=bS A B:=by
    rcases Int.lt_trichotomy A B with h|h|h
    ·omega
    ·rw[fK h];decide
    ·rw[dE h];decide
   have C1:∀ W,Below w3.heap.size w3 W->Calls prog 100 #[.slice po pn pc,.slice qo qn qc] W fun r w'=>∃ so sn sc,r=.returned (.slice so sn sc)∧bd w' (.slice so sn sc) (A-B)∧Below W.heap.size W w':=fun W h=>H5 W _ _ (hP.keeps h) (hQ.keeps h) hAB
   have C2:∀ W so sn sc,bd W (.slice so sn sc) (A-B)->Calls prog 80 #[.bool an,.slice so sn sc,.int .i64 low] W fun r w'=>∃ ng s1 s2 s3 e1,r=.returned (.agg #[.bool ng,.slice s1 s2 s3,.int .i64 e1])∧bv W w' V (.agg #[.bool ng,.slice s1 s2 s3,.int .i64 e1])∧Below W.heap.size W w':=fun W so sn sc hN=>HH7.out W an _ _ hN (.inr (.inl ⟨hng,hAB,rfl,rfl⟩))
   generalize bS A B=oAB at ho ⊢
   clear H1 H2 H3 H4 H5 H6 HH7 hAB
   go_wp2_with fail
   have hb1:=ap w3
   go_region_held3 (fun W=>(W.cell? ⟨w.heap.size,0,none⟩=some (.bool an)∧W.cell? ⟨w.heap.size,1,none⟩=some (.slice ao n ca)∧W.cell? ⟨w.heap.size,2,none⟩=some (.int .i64 e))∧W.cell? ⟨w.heap.size+1,0,none⟩=some (.bool bn)∧W.cell? ⟨w.heap.size+1,1,none⟩=some (.slice bo m cb)∧W.cell? ⟨w.heap.size+1,2,none⟩=some (.int .i64 f))
    (first|assumption|exact⟨⟨k0,k1,k2⟩,j0,j1,j2⟩|exact aQ (W:=w3.drew) hbv1 ⟨⟨k0,k1,k2⟩,j0,j1,j2⟩|exact aQ hbv2 (aQ (W:=w3.drew) hbv1 ⟨⟨k0,k1,k2⟩,j0,j1,j2⟩)|exact⟨dI (aQ hbv2 (aQ (W:=w3.drew) hbv1 ⟨⟨k0,k1,k2⟩,j0,j1,j2⟩)).1 (by omega) _ _ _,dI (aQ hbv2 (aQ (W:=w3.drew) hbv1 ⟨⟨k0,k1,k2⟩,j0,j1,j2⟩)).2 (by omega) _ _ _⟩)
    (first|(go_at_call 80;refine(C2 _ _ _ _ hv1).mono ?_;rintro y w4 ⟨ng4,o4,n4,c4,e4,rfl,hv2,hbv2⟩;have q0:=((ab hbv1 hbv2).block (w.heap.size+2) (by show _<w3.heap.size;omega)).trans g2;have x0:=aa q0 0 rfl;have x1:=aa q0 1 rfl;have x2:=aa q0 2 rfl;have z0:=af q0 0;have z1:=af q0 1;have z2:=af q0 2)|(go_at_call 100;refine(C1 _ hb1.drew).mono ?_;rintro y w3' ⟨so,sn,sc,rfl,hv1,hbv1⟩))
   all_goals go_wp2
   all_goals
    refine bodyPost_ret (v:=.agg #[.bool ng4,.slice o4 n4 c4,.int .i64 e4]) (by simp[results,results76,go_sem,x0,x1,x2]) rfl ⟨_,rfl,?_⟩
    exact cD (g:=w.heap.size+2) hv2 (ab hbx3 (ab hb1.drew hbv1)) (by omega) (Nat.lt_of_lt_of_le (show _<w3.heap.size by omega) hbv1.size) _ _ _
  ·have ho:bS A B<(0:Int):=by rw[dD (by omega)];decide
   have C1:∀ W,Below w3.heap.size w3 W->Calls prog 100 #[.slice qo qn qc,.slice po pn pc] W fun r w'=>∃ so sn sc,r=.returned (.slice so sn sc)∧bd w' (.slice so sn sc) (B-A)∧Below W.heap.size W w':=fun W h=>H6 W _ _ (hP.keeps h) (hQ.keeps h) (by omega)
   have C2:∀ W so sn sc,bd W (.slice so sn sc) (B-A)->Calls prog 80 #[.bool bn,.slice so sn sc,.int .i64 low] W fun r w'=>∃ ng s1 s2 s3 e1,r=.returned (.agg #[.bool ng,.slice s1 s2 s3,.int .i64 e1])∧bv W w' V (.agg #[.bool ng,.slice s1 s2 s3,.int .i64 e1])∧Below W.heap.size W w':=fun W so sn sc hN=>HH7.out W bn _ _ hN (.inr (.inr ⟨hng,by omega,rfl,rfl⟩))
   generalize bS A B=oAB at ho ⊢
   clear H1 H2 H3 H4 H5 H6 HH7 hAB
   go_wp2_with fail
   have hb1:=ap w3
   go_region_held3 (fun W=>(W.cell? ⟨w.heap.size,0,none⟩=some (.bool an)∧W.cell? ⟨w.heap.size,1,none⟩=some (.slice ao n ca)∧W.cell? ⟨w.heap.size,2,none⟩=some (.int .i64 e))∧W.cell? ⟨w.heap.size+1,0,none⟩=some (.bool bn)∧W.cell? ⟨w.heap.size+1,1,none⟩=some (.slice bo m cb)∧W.cell? ⟨w.heap.size+1,2,none⟩=some (.int .i64 f))
    (first|assumption|exact⟨⟨k0,k1,k2⟩,j0,j1,j2⟩|exact aQ (W:=w3.drew) hbv1 ⟨⟨k0,k1,k2⟩,j0,j1,j2⟩|exact aQ hbv2 (aQ (W:=w3.drew) hbv1 ⟨⟨k0,k1,k2⟩,j0,j1,j2⟩)|exact⟨dI (aQ hbv2 (aQ (W:=w3.drew) hbv1 ⟨⟨k0,k1,k2⟩,j0,j1,j2⟩)).1 (by omega) _ _ _,dI (aQ hbv2 (aQ (W:=w3.drew) hbv1 ⟨⟨k0,k1,k2⟩,j0,j1,j2⟩)).2 (by omega) _ _ _⟩)
    (first|(go_at_call 80;refine(C2 _ _ _ _ hv1).mono ?_;rintro y w4 ⟨ng4,o4,n4,c4,e4,rfl,hv2,hbv2⟩;have q0:=((ab hbv1 hbv2).block (w.heap.size+2) (by show _<w3.heap.size;omega)).trans g2;have x0:=aa q0 0 rfl;have x1:=aa q0 1 rfl;have x2:=aa q0 2 rfl;have z0:=af q0 0;have z1:=af q0 1;have z2:=af q0 2)|(go_at_call 100;refine(C1 _ hb1.drew).mono ?_;rintro y w3' ⟨so,sn,sc,rfl,hv1,hbv1⟩))
   all_goals go_wp2
   all_goals
    refine bodyPost_ret (v:=.agg #[.bool ng4,.slice o4 n4 c4,.int .i64 e4]) (by simp[results,results76,go_sem,x0,x1,x2]) rfl ⟨_,rfl,?_⟩
    exact cD (g:=w.heap.size+2) hv2 (ab hbx3 (ab hb1.drew hbv1)) (by omega) (Nat.lt_of_lt_of_le (show _<w3.heap.size by omega) hbv1.size) _ _ _
theorem xQ {an bn:Bool} {A B low:Int} {ng:Bool} {M:Int} (h:(an=bn∧ng=an∧M=A+B)∨(an≠bn∧B<=A∧ng=an∧M=A-B)∨(an≠bn∧A<B∧ng=bn∧M=B-A)) :
  sg ng M*pw low=sg an A*pw low+sg bn B*pw low:=by
 rw[<- Int.add_mul]
 congr 1
 rcases h with⟨rfl,rfl,rfl⟩|⟨h1,h2,rfl,rfl⟩|⟨h1,h2,rfl,rfl⟩
 ·cases ng<;>simp[sg]<;>omega
 ·cases ng<;>cases bn<;>simp[sg] at *<;>omega
 ·cases an<;>cases ng<;>simp[sg] at *<;>omega
theorem bd.digits {w:World} {so:Option Addr} {sn sc:Nat} {M:Int} (h:bd w (.slice so sn sc) M) {K:Nat} (hK:K<=560000) (hM:M<2^(2*K)+2^(2*K)):∃ d,aL w so sn sc d∧bV d sn∧val d sn=M∧sn<=37500:=by
 obtain⟨ao,n,ca,d,e,hR,hN,hv⟩:=h
 simp only[Value.slice.injEq] at e
 obtain⟨rfl,rfl,rfl⟩:=e
 refine⟨d,hR,hN,hv,?_⟩
 by_cases h1:sn<=37500
 ·exact h1
 ·exfalso
  have a:=dH hN.1 (by omega) hN.2
  have b:=gW (show 37500<=sn-1 by omega)
  have c:(2:Int)^(2*K)<=2^(30*37400):=cJ (by omega)
  have c2:(2:Int)^(30*37400)*2<=2^(30*37500):=by
   rw[<- Int.pow_succ]
   exact cJ (by omega)
  rw[<- di 37500] at c2
  generalize P 37500=Y at *
  generalize (2:Int)^(30*37400)=Z at *
  omega
theorem qF (x y:aI) (w:World) (hx:aL w x.ao x.n x.cap x.d) (hy:aL w y.ao y.n y.cap y.d) (dx:Dy x.V x.ng (val x.d x.n) x.e) (nx:bV x.d x.n) (dy:Dy y.V y.ng (val y.d y.n) y.e) (ny:bV y.d y.n) {K:Nat} (hK:K<=560000) (bx:Bd K x.V) (bY:Bd K y.V) :
  Calls prog 76 #[x.v,y.v] w fun r w'=>∃ v,r=.returned v∧hH w w' x.V y.V x.v y.v v:=by
 by_cases h0:x.n=0
 ·refine(o7 x y w (Nat.le_trans hx.le hx.max) (Nat.le_trans hy.le hy.max) h0).mono ?_
  rintro r w' ⟨rfl,hb⟩
  exact⟨_,rfl,hb,.inr (.inl ⟨dx.eq_zero.2 (by rw[h0];rfl),rfl⟩)⟩
 ·by_cases h1:y.n=0
  ·refine(nE x y w (Nat.le_trans hx.le hx.max) (Nat.le_trans hy.le hy.max) (by omega) h1).mono ?_
   rintro r w' ⟨rfl,hb⟩
   exact⟨_,rfl,hb,.inr (.inr ⟨dy.eq_zero.2 (by rw[h1];rfl),rfl⟩)⟩
  ·have px:=ff nx (show 0<x.n by omega)
   have py:=ff ny (show 0<y.n by omega)
   obtain⟨a1,a2,_⟩:=la bx dx (by omega) px
   obtain⟨b1,b2,_⟩:=la bY dy (by omega) py
   obtain⟨low,hlow⟩:∃ low:Int,low=min x.e y.e:=⟨_,rfl⟩
   have hl0:-(K:Int)<=low:=by omega
   have s1:=td bx dx (by omega) px hl0 (by omega)
   have s2:=td bY dy (by omega) py hl0 (by omega)
   have v1:=dx.at (low:=low) (by omega) (by omega)
   have v2:=dy.at (low:=low) (by omega) (by omega)
   have dgx:=qE hK nx (pO bx dx (by omega) px)
   have dgy:=qE hK ny (pO bY dy (by omega) py)
   have q1:0<=val x.d x.n*2^(x.e-low).toNat:=Int.mul_nonneg (by omega) (Int.le_of_lt (aJ _))
   have q2:0<=val y.d y.n*2^(y.e-low).toNat:=Int.mul_nonneg (by omega) (Int.le_of_lt (aJ _))
   have e1:x.e-low=((x.e-low).toNat:Int):=by omega
   have e2:y.e-low=((y.e-low).toNat:Int):=by omega
   have H1:∀ W,Below w.heap.size w W->Calls prog 97 #[.slice x.ao x.n x.cap,.int .i64 (x.e-low)] W fun r w'=>∃ so sn sc,r=.returned (.slice so sn sc)∧bd w' (.slice so sn sc) (val x.d x.n*2^(x.e-low).toNat)∧Below W.heap.size W w':=fun W hb=>by
    rw[e1]
    refine(jX x.ao x.n x.cap _ x.d W (hx.keeps hb) nx.1 (by omega) (by omega)).mono ?_
    rintro r w' ⟨v,rfl,hA⟩
    obtain⟨so,sn,sc,rfl⟩:=hA.num.shape
    exact⟨so,sn,sc,rfl,by rw[<- e1];exact hA.num,hA.below⟩
   have H2:∀ W,Below w.heap.size w W->Calls prog 97 #[.slice y.ao y.n y.cap,.int .i64 (y.e-low)] W fun r w'=>∃ so sn sc,r=.returned (.slice so sn sc)∧bd w' (.slice so sn sc) (val y.d y.n*2^(y.e-low).toNat)∧Below W.heap.size W w':=fun W hb=>by
    rw[e2]
    refine(jX y.ao y.n y.cap _ y.d W (hy.keeps hb) ny.1 (by omega) (by omega)).mono ?_
    rintro r w' ⟨v,rfl,hA⟩
    obtain⟨so,sn,sc,rfl⟩:=hA.num.shape
    exact⟨so,sn,sc,rfl,by rw[<- e2];exact hA.num,hA.below⟩
   generalize val x.d x.n*2^(x.e-low).toNat=A at *
   generalize val y.d y.n*2^(y.e-low).toNat=B at *
   have dg:=fun W so sn sc M (h:bd W (.slice so sn sc) M) hM=>h.digits hK hM
   have aw:∀ W p M,bd W p M->M<2^(2*K)+2^(2*K)->∃ so sn sc d,p=.slice so sn sc∧aL W so sn sc d∧bV d sn∧val d sn=M∧sn<=37500:=fun W p M h hM=>by
    obtain⟨so,sn,sc,rfl⟩:=h.shape
    obtain⟨d,h1,h2,h3,h4⟩:=h.digits hK hM
    exact⟨so,sn,sc,d,rfl,h1,h2,h3,h4⟩
   refine(vT x y w hx hy (by omega) (by omega) low A B (x.V+y.V) hlow (by omega) (by omega) (by omega) H1 H2 ?_ ?_ ?_ ?_ ?_).mono ?_
   ·intro W p q hp hq
    obtain⟨po,pn,pc,d,rfl,r1,r2,r3,r4⟩:=aw W p A hp (by omega)
    obtain⟨qo,qn,qc,d',rfl,u1,u2,u3,u4⟩:=aw W q B hq (by omega)
    refine(rQ _ _ _ _ _ _ d d' W r1 u1 r2 u2 (by omega) (by omega)).mono ?_
    rw[r3,u3]
    rintro r w' ⟨v,rfl,hA⟩
    obtain⟨so,sn,sc,rfl⟩:=hA.num.shape
    exact⟨so,sn,sc,rfl,hA.num,hA.below⟩
   ·intro W p q hp hq
    obtain⟨po,pn,pc,d,rfl,r1,r2,r3,r4⟩:=aw W p A hp (by omega)
    obtain⟨qo,qn,qc,d',rfl,u1,u2,u3,u4⟩:=aw W q B hq (by omega)
    have:=rR po qo pn qn pc qc d d' W r1 u1 r2 u2
    rwa [r3,u3] at this
   ·intro W p q hp hq hle
    obtain⟨po,pn,pc,d,rfl,r1,r2,r3,r4⟩:=aw W p A hp (by omega)
    obtain⟨qo,qn,qc,d',rfl,u1,u2,u3,u4⟩:=aw W q B hq (by omega)
    refine(ly _ _ _ _ _ _ d d' W r1 u1 r2 u2 (by omega) (by rw[r3,u3];exact hle)).mono ?_
    rw[r3,u3]
    rintro r w' ⟨v,rfl,hA⟩
    obtain⟨so,sn,sc,rfl⟩:=hA.num.shape
    exact⟨so,sn,sc,rfl,hA.num,hA.below⟩
   ·intro W p q hp hq hle
    obtain⟨po,pn,pc,d,rfl,r1,r2,r3,r4⟩:=aw W p A hp (by omega)
    obtain⟨qo,qn,qc,d',rfl,u1,u2,u3,u4⟩:=aw W q B hq (by omega)
    refine(ly _ _ _ _ _ _ d' d W u1 r1 u2 r2 (by omega) (by rw[r3,u3];exact hle)).mono ?_
    rw[r3,u3]
    rintro r w' ⟨v,rfl,hA⟩
    obtain⟨so,sn,sc,rfl⟩:=hA.num.shape
    exact⟨so,sn,sc,rfl,hA.num,hA.below⟩
   ·intro W ng s M hs hc
    have hM:M<2^(2*K)+2^(2*K):=by rcases hc with⟨_,_,h⟩|⟨_,_,_,h⟩|⟨_,_,_,h⟩<;>omega
    obtain⟨po,pn,pc,d,rfl,r1,r2,r3,r4⟩:=aw W s M hs hM
    have hV:=xQ (low:=low) hc
    rw[<- v1,<- v2] at hV
    refine(ku ng po pn pc d low W r1 r2.1 (by omega) (by omega) (by omega)).mono ?_
    rw[r3,hV]
    rintro r w' ⟨v,rfl,hD⟩
    obtain⟨ng',s,m',e1,rfl,_,hA⟩:=id hD
    obtain⟨q1,q2,q3,rfl⟩:=hA.num.shape
    exact⟨ng',q1,q2,q3,e1,rfl,hD,hD.below⟩
   ·rintro r w' ⟨v,rfl,hD⟩
    exact⟨v,rfl,hD.below,.inl hD⟩
theorem Ea {w:World} {x y:Value} {A B:Int} (hx:bk w x A) (hy:bk w y B) {K:Nat} (hK:K<=560000) (bx:Bd K A) (bY:Bd K B) :
  Calls prog 76 #[x,y] w fun r w'=>∃ v,r=.returned v∧hH w w' A B x y v:=by
 obtain⟨ng,s,m,e,rfl,dx,ao,n,cap,d,rfl,hR,hN,rfl⟩:=hx
 obtain⟨ng',s',m',e',rfl,dy,ao',n',cap',d',rfl,hR',hN',rfl⟩:=hy
 obtain rfl:A=(⟨ng,ao,n,cap,d,e⟩:aI).V:=dx.val
 obtain rfl:B=(⟨ng',ao',n',cap',d',e'⟩:aI).V:=dy.val
 exact qF ⟨ng,ao,n,cap,d,e⟩ ⟨ng',ao',n',cap',d',e'⟩ w hR hR' dx hN dy hN' hK bx bY
theorem q7 {x:aI} (ok:cr x=true):x.opp.V=-x.V∧Dy x.opp.V x.opp.ng (val x.opp.d x.opp.n) x.opp.e:=by
 have hy:=(gQ ok).1
 have hN:=(bG ok).1
 by_cases h0:x.n=0
 ·have hv:val x.d x.n=0:=by rw[h0];rfl
  have e:x.opp=x:=by unfold aI.opp;rw[if_pos h0]
  rw[e]
  have:=hy.eq_zero.2 hv
  exact⟨by omega,hy⟩
 ·have hp:=ff hN (show 0<x.n by omega)
  have e:x.opp=⟨!x.ng,x.ao,x.n,x.cap,x.d,x.e⟩:=by unfold aI.opp;rw[if_neg h0]
  rw[e]
  have h1:=hy.neg hp
  have hV:aI.V ⟨!x.ng,x.ao,x.n,x.cap,x.d,x.e⟩=-x.V:=h1.val.symm
  rw[hV]
  exact⟨rfl,h1⟩
theorem hH.shape {w w':World} {A B:Int} {x y:aI} {v:Value} (h:hH w w' A B x.v y.v v):∃ ng so sn sc e,v=.agg #[.bool ng,.slice so sn sc,.int .i64 e]:=by
 rcases h.2 with⟨ng,s,m,e,rfl,_,hA⟩|⟨_,rfl⟩|⟨_,rfl⟩
 ·obtain⟨so,sn,sc,rfl⟩:=hA.num.shape
  exact⟨_,_,_,_,_,rfl⟩
 ·exact⟨_,_,_,_,_,rfl⟩
 ·exact⟨_,_,_,_,_,rfl⟩
theorem te {w W w3:World} {A B:Int} {x y v:Value} (hv:hH W w3 A B x y v) (hb:Below w.heap.size w W) {g:Nat} (h0:w.heap.size<=g) (h1:g<W.heap.size) (a b c:Value) :
  hH w (((w3.setCell ⟨g,0,none⟩ a).setCell ⟨g,1,none⟩ b).setCell ⟨g,2,none⟩ c) A B x y v:=by
 refine⟨nR (ab hb hv.1) h0 _ _ _,?_⟩
 rcases hv.2 with h|h|h
 ·exact .inl (cD h hb h0 h1 a b c)
 ·exact .inr (.inl h)
 ·exact .inr (.inr h)
theorem xR (x y:aI) (w:World) (hx:aL w x.ao x.n x.cap x.d) (hy:aL w y.ao y.n y.cap y.d) (ox:cr x=true) (oy:cr y=true) {K:Nat} (hK:K<=560000) (bx:Bd K x.V) (bY:Bd K y.V) :
  Calls prog 82 #[x.v,y.v] w fun r w'=>∃ v,r=.returned v∧hH w w' x.V (-y.V) x.v y.opp.v v:=by
 obtain⟨e1,e2⟩:=q7 oy
 have hop:=fun W=>mK y W (by have:=hy.le;have:=hy.max;omega)
 have C2:∀ W,Below w.heap.size w W->Calls prog 76 #[x.v,y.opp.v] W fun r w'=>∃ ng so sn sc e,r=.returned (.agg #[.bool ng,.slice so sn sc,.int .i64 e])∧hH W w' x.V (-y.V) x.v y.opp.v (.agg #[.bool ng,.slice so sn sc,.int .i64 e])∧Below W.heap.size W w':=fun W hb=>by
  refine(qF x y.opp W (hx.keeps hb) (hy.keeps hb) (gQ ox).1 (bG ox).1 e2 (bG oy).1 hK bx (by rw[e1];exact bY.neg)).mono ?_
  rintro r w' ⟨v,rfl,h⟩
  rw[e1] at h
  obtain⟨ng,so,sn,sc,e,rfl⟩:=h.shape
  exact⟨_,_,_,_,_,rfl,h,h.1⟩
 have hmy:=hy.max
 have hly:=hy.le
 obtain⟨VV,hVV⟩:∃ V,V=x.V:=⟨_,rfl⟩
 obtain⟨UU,hUU⟩:∃ V,V=-y.V:=⟨_,rfl⟩
 rw[<- hVV,<- hUU] at C2 ⊢
 clear e1 e2 bx bY hVV hUU ox oy
 unfold aI.opp at *
 obtain⟨on,hon⟩:∃ V,V=(if y.n=0 then y.ng else !y.ng):=⟨_,rfl⟩
 rw[<- hon] at hop C2 ⊢
 clear hon
 obtain⟨an,ao,n,ca,a,e⟩:=x
 obtain⟨bn,bo,m,cb,b,f⟩:=y
 unfold aI.v at *
 simp only at *
 have hb3:Below w.heap.size w (((w.alloc (.cells #[.bool an,.slice ao n ca,.int .i64 e] 26)).alloc (.cells #[.bool bn,.slice bo m cb,.int .i64 f] 26)).alloc (.cells #[.bool false,.slice none 0 0,.int .i64 0] 26)):=eg _ _ _ _
 have g0:=gJ w (.cells #[.bool an,.slice ao n ca,.int .i64 e] 26) (.cells #[.bool bn,.slice bo m cb,.int .i64 f] 26) (.cells #[.bool false,.slice none 0 0,.int .i64 0] 26)
 have g1:=gK w (.cells #[.bool an,.slice ao n ca,.int .i64 e] 26) (.cells #[.bool bn,.slice bo m cb,.int .i64 f] 26) (.cells #[.bool false,.slice none 0 0,.int .i64 0] 26)
 have g2:=jV w (.cells #[.bool an,.slice ao n ca,.int .i64 e] 26) (.cells #[.bool bn,.slice bo m cb,.int .i64 f] 26) (.cells #[.bool false,.slice none 0 0,.int .i64 0] 26)
 go_enter func82,ntmps82
 go_wp2_with fail
 generalize ((w.alloc (.cells #[.bool an,.slice ao n ca,.int .i64 e] 26)).alloc (.cells #[.bool bn,.slice bo m cb,.int .i64 f] 26)).alloc (.cells #[.bool false,.slice none 0 0,.int .i64 0] 26)=wx at hb3 g0 g1 g2 ⊢
 have k0:=aa g0 0 rfl
 have k1:=aa g0 1 rfl
 have k2:=aa g0 2 rfl
 have j0:=aa g1 0 rfl
 have j1:=aa g1 1 rfl
 have j2:=aa g1 2 rfl
 have hb1:=ap wx
 have hs3:=(aGe g2).1
 go_region_held3 (fun W=>(W.cell? ⟨w.heap.size,0,none⟩=some (.bool an)∧W.cell? ⟨w.heap.size,1,none⟩=some (.slice ao n ca)∧W.cell? ⟨w.heap.size,2,none⟩=some (.int .i64 e))∧W.cell? ⟨w.heap.size+1,0,none⟩=some (.bool bn)∧W.cell? ⟨w.heap.size+1,1,none⟩=some (.slice bo m cb)∧W.cell? ⟨w.heap.size+1,2,none⟩=some (.int .i64 f))
  (first|assumption|exact⟨⟨k0,k1,k2⟩,j0,j1,j2⟩|exact aQ (W:=wx.drew) hbv1 ⟨⟨k0,k1,k2⟩,j0,j1,j2⟩|exact aQ hbv2 (aQ (W:=wx.drew) hbv1 ⟨⟨k0,k1,k2⟩,j0,j1,j2⟩)|exact⟨dI (aQ hbv2 (aQ (W:=wx.drew) hbv1 ⟨⟨k0,k1,k2⟩,j0,j1,j2⟩)).1 (by omega) _ _ _,dI (aQ hbv2 (aQ (W:=wx.drew) hbv1 ⟨⟨k0,k1,k2⟩,j0,j1,j2⟩)).2 (by omega) _ _ _⟩)
  (first|(go_at_call 76;refine(C2 _ (ab hb3 (ab hb1.drew hbv1))).mono ?_;rintro y w4 ⟨ng4,o4,n4,c4,e4,rfl,hv2,hbv2⟩;have q0:=((ab hbv1 hbv2).block (w.heap.size+2) (by show _<wx.heap.size;omega)).trans g2;have x0:=aa q0 0 rfl;have x1:=aa q0 1 rfl;have x2:=aa q0 2 rfl;have z0:=af q0 0;have z1:=af q0 1;have z2:=af q0 2)|(go_at_call 74;refine(hop _).mono ?_;rintro y w3 ⟨rfl,hbv1⟩))
 all_goals go_wp2
 all_goals
  refine bodyPost_ret (v:=.agg #[.bool ng4,.slice o4 n4 c4,.int .i64 e4]) (by simp[results,results82,go_sem,x0,x1,x2]) rfl ⟨_,rfl,?_⟩
  exact te (g:=w.heap.size+2) hv2 (ab hb3 (ab hb1.drew hbv1)) (by omega) (Nat.lt_of_lt_of_le (show _<wx.heap.size by omega) hbv1.size) _ _ _
theorem uy {w:World} {ng:Bool} {so:Option Addr} {sn sc:Nat} {e V:Int} (h:bk w (.agg #[.bool ng,.slice so sn sc,.int .i64 e]) V):sgn ng sn=bS V 0∧sn<=9223372036854775807:=by
 obtain⟨ng',s,m,e',h1,hy,ao,n,cap,d,rfl,hR,hN,rfl⟩:=h
 simp only[Value.agg.injEq,Array.mk.injEq,List.cons.injEq,Value.bool.injEq,Value.int.injEq,Value.slice.injEq,and_true,true_and] at h1
 obtain⟨rfl,⟨rfl,rfl,rfl⟩,rfl⟩:=h1
 refine⟨?_,by have:=hR.le;have:=hR.max;omega⟩
 by_cases h0:sn=0
 ·have:=hy.eq_zero.2 (by rw[h0];rfl)
  rw[this,fK rfl]
  simp[sgn,h0]
 ·have hp:=ff hN (show 0<sn by omega)
  cases ng
  ·have hn:¬ V<0:=fun h=>by have:=hy.neg_iff.2 h;simp at this
   have hz:V≠0:=fun h=>by have:=hy.eq_zero.1 h;omega
   rw[dE (by omega)]
   simp[sgn,h0]
  ·have hn:=hy.neg_iff.1 rfl
   rw[dD hn]
   simp[sgn,h0]
def lb (f:Nat->Value):Nat->List Value
 | 0=>[]
 | m+1=>lb f m ++ (f m).cells.toList
def o8 (v:Value):Prop:=∃ ng so sn sc e,v=.agg #[.bool ng,.slice so sn sc,.int .i64 e]
theorem bH.three {B:Nat} {w:World} {V:Int} {v:Value} (h:bH B w V v):o8 v:=by
 obtain⟨ng,s,m,e,rfl,_,hA⟩:=h
 obtain⟨so,sn,sc,rfl⟩:=hA.shape
 exact⟨_,_,_,_,_,rfl⟩
theorem lZ {f:Nat->Value}:∀ m,(∀ i,i<m->o8 (f i))->(lb f m).length=m*3
 | 0,_=>rfl
 | m+1,h=>by
  obtain⟨ng,so,sn,sc,e,he⟩:=h m (by omega)
  rw[lb,List.length_append,lZ m fun i hi=>h i (by omega),he]
  simp[Value.cells]
  omega
theorem qG {f:Nat->Value}:∀ m,(∀ i,i<m->o8 (f i))->∀ i j,i<m->j<3->(lb f m)[i*3+j]?=(f i).cells[j]?
 | 0,_,i,j,hi,_=>by omega
 | m+1,h,i,j,hi,hj=>by
  have hl:=lZ m fun i hi=>h i (by omega)
  rw[lb]
  by_cases e:i=m
  ·subst e
   rw[List.getElem?_append_right (by omega),hl,show i*3+j-i*3=j by omega]
   simp
  ·rw[List.getElem?_append_left (by omega)]
   exact qG m (fun i hi=>h i (by omega)) i j (by omega) hj
def fR (B:Nat) (w:World) (x:Value) (m:Nat) (f:Nat->Value):Prop:=w.ownsRow B 26 3 x m (lb f m)
theorem fR.nil (B:Nat) (w:World) (f:Nat->Value):fR B w (.slice none 0 0) 0 f:=⟨rfl,.inl ⟨rfl,rfl⟩⟩
theorem fR.of_block {B:Nat} {w w':World} {x:Value} {m:Nat} {f:Nat->Value} (h:fR B w x m f) (hb:∀ g,x.ownBlock=some g->w'.heap[g]?=w.heap[g]?):fR B w' x m f:=by
 refine⟨h.1,?_⟩
 rcases h.2 with hn|⟨g,cap,cur,rfl,hbb,hg,rest⟩
 ·exact .inl hn
 ·exact .inr ⟨g,cap,cur,rfl,hbb,(hb g rfl).trans hg,rest⟩
theorem fR.typed {B:Nat} {w:World} {x:Value} {m:Nat} {f:Nat->Value} (h:fR B w x m f) {g:Nat} (hg:x.ownBlock=some g):B<=g∧g<w.heap.size∧∃ cur z,w.heap[g]?=some (.cells cur 26 z):=by
 rcases h.2 with⟨rfl,_⟩|⟨g',cap,cur,rfl,hbb,hg',rest⟩
 ·simp[Value.ownBlock] at hg
 ·simp only[Value.ownBlock,Option.some.injEq] at hg;subst hg;exact⟨hbb,(aGe hg').1,cur,_,hg'⟩
theorem fR.keeps {B:Nat} {w w':World} {x:Value} {m:Nat} {f:Nat->Value} (h:fR B w x m f) (hb:Below w.heap.size w w'):fR B w' x m f:=h.of_block fun g hg=>hb.block g (h.typed hg).2.1
theorem fR.shape {B:Nat} {w:World} {x:Value} {m:Nat} {f:Nat->Value} (h:fR B w x m f):∃ xo xc,x=.slice xo m xc∧m<=xc∧(0<m->∃ g,xo=some ⟨g,0,none⟩):=by
 rcases h.2 with⟨rfl,rfl⟩|⟨g,cap,cur,rfl,hb,hg,hn,hm,_⟩
 ·exact⟨none,0,rfl,Nat.le_refl _,fun h=>by omega⟩
 ·exact⟨_,cap,rfl,hn,fun _=>⟨g,rfl⟩⟩
theorem fR.cell {B:Nat} {w:World} {xo:Option Addr} {m xc g:Nat} {f:Nat->Value} (h:fR B w (.slice xo m xc) m f) (ht:∀ i,i<m->o8 (f i)) (hx:xo=some ⟨g,0,none⟩) {i j:Nat} (hi:i<m) (hj:j<3):w.cell? ⟨g,i*3+j,none⟩=(f i).cells[j]?:=by
 rcases h.2 with⟨_,rfl⟩|⟨g',cap,cur,e,hb,hg,hn,hm,hs,ht'⟩
 ·omega
 ·simp only[Value.slice.injEq] at e
  obtain⟨rfl,_,rfl⟩:=e
  simp only[Option.some.injEq,Addr.mk.injEq] at hx
  obtain⟨rfl,_⟩:=hx
  rw[cell_of_row w g' (i*3+j) cur _ _ hg,<- qG m ht i j hi hj,<- ht',List.getElem?_take_of_lt (by omega)]
  simp
theorem bH.of_blocks {B:Nat} {w w':World} {V:Int} {v:Value} (h:bH B w V v) (hb:∀ (g:Nat) (cur:Array Value) z,w.heap[g]?=some (.cells cur 3 z)->w'.heap[g]?=w.heap[g]?):bH B w' V v:=by
 obtain⟨ng,s,m,e,h1,h2,t,d,hO,h3⟩:=h
 exact⟨ng,s,m,e,h1,h2,t,d,hO.of_block fun g hg=>by obtain⟨cur,z,hc⟩:=hO.typed hg;exact hb g cur z hc,h3⟩
structure LS (B:Nat) (w:World) (N:Nat) (X:Nat->Value) (M:Nat->Nat) (F:Nat->Nat->Value):Prop where
 own:∀ j,j<N->fR B w (X j) (M j) (F j)
 ne:∀ i j,i<N->j<N->i≠j->∀ g,(X i).ownBlock=some g->(X j).ownBlock≠some g
theorem LS.keeps {B:Nat} {w w':World} {N:Nat} {X:Nat->Value} {M:Nat->Nat} {F:Nat->Nat->Value} (h:LS B w N X M F) (hb:Below w.heap.size w w'):LS B w' N X M F:=⟨fun j hj=>(h.own j hj).keeps hb,h.ne⟩
theorem LS.put {B:Nat} {w w':World} {N:Nat} {X:Nat->Value} {M:Nat->Nat} {F:Nat->Nat->Value} (h:LS B w N X M F) (j0:Nat) {row:Option Nat} (hg:w.grownBy w' row) {v':Value} {M':Nat} {F':Nat->Value} (hO:fR B w' v' M' F') (h1:∀ j,j<N->j≠j0->∀ g,(X j).ownBlock=some g->row≠some g) (h2:∀ j,j<N->j≠j0->∀ g,(X j).ownBlock=some g->v'.ownBlock≠some g) :
  LS B w' N (nS X j0 v') (nS M j0 M') (nS F j0 F'):=by
 refine⟨fun j hj=>?_,fun i j hi hj hij g hgi=>?_⟩
 ·by_cases e:j=j0
  ·subst e;rw[ji,ji,ji];exact hO
  ·rw[gz _ _ e,gz _ _ e,gz _ _ e]
   exact(h.own j hj).of_block fun g hgx=>hg.block g ((h.own j hj).typed hgx).2.1 fun e'=>h1 j hj e g hgx e'.symm
 ·by_cases e:i=j0
  ·subst e
   rw[ji] at hgi
   rw[gz _ _ (Ne.symm hij)]
   exact fun hgj=>h2 j hj (Ne.symm hij) g hgj hgi
  ·rw[gz _ _ e] at hgi
   by_cases e2:j=j0
   ·subst e2
    rw[ji]
    exact h2 i hi e g hgi
   ·rw[gz _ _ e2]
    exact h.ne i j hi hj hij g hgi
theorem LS.row {B:Nat} {w:World} {N:Nat} {X:Nat->Value} {M:Nat->Nat} {F:Nat->Nat->Value} (h:LS B w N X M F) {j:Nat} (hj:j<N):∀ g,(X j).ownBlock=some g->∃ (cur:Array Value) (z:Nat × Nat),w.heap[g]?=some (Obj.cells cur 26 z):=fun g hg=>(((h.own j hj).typed hg).2.2)
theorem LS.ge {B:Nat} {w:World} {N:Nat} {X:Nat->Value} {M:Nat->Nat} {F:Nat->Nat->Value} (h:LS B w N X M F) {j:Nat} (hj:j<N):∀ g,(X j).ownBlock=some g->B<=g:=fun g hg=>((h.own j hj).typed hg).1
theorem fR.nums {B:Nat} {w:World} {xo:Option Addr} {m xc:Nat} {f:Nat->Value} {r:Nat->aI} (h:fR B w (.slice xo m xc) m f) (hm:m<=100000) (hr:∀ i,i<m->f i=(r i).v∧aL w (r i).ao (r i).n (r i).cap (r i).d):∃ c2,xc=c2∧gf w xo m xc r:=by
 have ht:∀ i,i<m->o8 (f i):=fun i hi=>⟨_,_,_,_,_,(hr i hi).1⟩
 refine⟨xc,rfl,?_⟩
 obtain⟨xo',xc',e,hle,hsp⟩:=h.shape
 simp only[Value.slice.injEq] at e
 obtain⟨rfl,_,rfl⟩:=e
 refine⟨hle,?_,fun hm0=>?_⟩
 ·rcases h.2 with⟨e,_⟩|⟨g,cap,cur,e,hb,hg,hn,hmx,hs,_⟩
  ·simp only[Value.slice.injEq] at e;omega
  ·simp only[Value.slice.injEq] at e
   obtain⟨_,_,rfl⟩:=e
   unfold maxLen at hmx
   omega
 ·obtain⟨g,rfl⟩:=hsp hm0
  have hlt:g<w.heap.size:=(h.typed (g:=g) rfl).2.1
  refine⟨g,0,rfl,hlt,fun i hi=>?_⟩
  obtain⟨h1,h2⟩:=hr i hi
  have c:=fun j (hj:j<3)=>h.cell ht rfl hi (j:=j) hj
  rw[h1] at c
  rw[Nat.zero_add]
  exact⟨c 0 (by decide),c 1 (by decide),c 2 (by decide),h2⟩
end Go.Proofs.YtkkpppgfoilgmaaGreatDoor
