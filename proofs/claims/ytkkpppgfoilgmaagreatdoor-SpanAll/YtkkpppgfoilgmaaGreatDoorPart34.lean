/- Parts of the proof. -/
import Derived.Test.YtkkpppgfoilgmaaGreatDoorPart18
import Derived.Test.YtkkpppgfoilgmaaGreatDoorPart33
import Derived.Deep.RegionHeld3
import Derived.Maps.AppendAt
set_option maxRecDepth 100000
set_option maxHeartbeats 8000000
set_option linter.unusedVariables false
set_option linter.unusedSimpArgs false
namespace Go.Proofs.YtkkpppgfoilgmaaGreatDoor
open Go Go.Proofs.Tryz Go.RowKit Go.Proofs.YtkkpppgfoilgmaaGreatDoor.M
def Wd (x y:aI):Prop:=(-1500000<=x.e∧x.e<=1500000)∧(-1500000<=y.e∧y.e<=1500000∧x.e-y.e<=1900000∧y.e-x.e<=1900000)∧val x.d x.n*2^(x.e-min x.e y.e).toNat<2^(2*560000)∧val y.d y.n*2^(y.e-min x.e y.e).toNat<2^(2*560000)∧x.n<=37400∧y.n<=37400
theorem tD (x y:aI) (w:World) (hx:aL w x.ao x.n x.cap x.d) (hy:aL w y.ao y.n y.cap y.d) (n0:0<x.n) (m0:0<y.n) (low A B V:Int)
  (hlow:low=min x.e y.e) (hl0:-2000000<=low) (he:x.e<=2000000) (hf:y.e<=2000000)
  (H1:∀ W,Below w.heap.size w W->Calls prog 97 #[.slice x.ao x.n x.cap,.int .i64 (x.e-low)] W fun r w'=>∃ so sn sc,r=.returned (.slice so sn sc)∧bd w' (.slice so sn sc) A∧Below W.heap.size W w')
  (H2:∀ W,Below w.heap.size w W->Calls prog 97 #[.slice y.ao y.n y.cap,.int .i64 (y.e-low)] W fun r w'=>∃ so sn sc,r=.returned (.slice so sn sc)∧bd w' (.slice so sn sc) B∧Below W.heap.size W w')
  (H3:∀ W p q,bd W p A->bd W q B->Calls prog 98 #[p,q] W fun r w'=>∃ so sn sc,r=.returned (.slice so sn sc)∧bd w' (.slice so sn sc) (A+B)∧Below W.heap.size W w')
  (H4:∀ W p q,bd W p A->bd W q B->Calls prog 99 #[p,q] W fun r w'=>r=.returned (.int .i64 (bS A B))∧Below W.heap.size W w')
  (H5:∀ W p q,bd W p A->bd W q B->B<=A->Calls prog 100 #[p,q] W fun r w'=>∃ so sn sc,r=.returned (.slice so sn sc)∧bd w' (.slice so sn sc) (A-B)∧Below W.heap.size W w')
  (H6:∀ W p q,bd W p A->bd W q B->A<=B->Calls prog 100 #[q,p] W fun r w'=>∃ so sn sc,r=.returned (.slice so sn sc)∧bd w' (.slice so sn sc) (B-A)∧Below W.heap.size W w')
  (H7:∀ W ng s M,bd W s M->((x.ng=y.ng∧ng=x.ng∧M=A+B)∨(x.ng≠y.ng∧B<=A∧ng=x.ng∧M=A-B)∨(x.ng≠y.ng∧A<B∧ng=y.ng∧M=B-A))->Calls prog 80 #[.bool ng,s,.int .i64 low] W fun r w'=>∃ ng s1 s2 s3 e1,r=.returned (.agg #[.bool ng,.slice s1 s2 s3,.int .i64 e1])∧bv W w' V (.agg #[.bool ng,.slice s1 s2 s3,.int .i64 e1])∧Below W.heap.size W w') :
  Calls prog 76 #[x.v,y.v] w fun r w'=>∃ v,r=.returned v∧bv w w' V v:=by
 have hmin:∀ (ts:Array TypeId) (t:TypeId) (w:World),(Builtin.min_ ts t #[.int .i64 x.e,.int .i64 y.e]).run prog w=.ok (.int .i64 low) w:=fun ts t w=>by rw[run_min_int2,hlow];congr 2;omega
 have hl1:low<=x.e:=by omega
 have hl2:low<=y.e:=by omega
 have HH7:Hid _:=H7
 have hm:=hx.max
 have hm':=hy.max
 clear hlow H7
 obtain⟨an,ao,n,ca,a,e⟩:=x
 obtain⟨bn,bo,m,cb,b,f⟩:=y
 unfold aI.v
 simp only at *
 have hn0:((n:Int) == 0)=false:=by simp;omega
 have hm0:((m:Int) == 0)=false:=by simp;omega
 have hb3:Below w.heap.size w (((w.alloc (.cells #[.bool an,.slice ao n ca,.int .i64 e] 26)).alloc (.cells #[.bool bn,.slice bo m cb,.int .i64 f] 26)).alloc (.cells #[.bool false,.slice none 0 0,.int .i64 0] 26)):=eg _ _ _ _
 have g0:=gJ w (.cells #[.bool an,.slice ao n ca,.int .i64 e] 26) (.cells #[.bool bn,.slice bo m cb,.int .i64 f] 26) (.cells #[.bool false,.slice none 0 0,.int .i64 0] 26)
 have g1:=gK w (.cells #[.bool an,.slice ao n ca,.int .i64 e] 26) (.cells #[.bool bn,.slice bo m cb,.int .i64 f] 26) (.cells #[.bool false,.slice none 0 0,.int .i64 0] 26)
 have g2:=jV w (.cells #[.bool an,.slice ao n ca,.int .i64 e] 26) (.cells #[.bool bn,.slice bo m cb,.int .i64 f] 26) (.cells #[.bool false,.slice none 0 0,.int .i64 0] 26)
 go_enter func76,ntmps76
 go_wp2_with fail
 generalize ((w.alloc (.cells #[.bool an,.slice ao n ca,.int .i64 e] 26)).alloc (.cells #[.bool bn,.slice bo m cb,.int .i64 f] 26)).alloc (.cells #[.bool false,.slice none 0 0,.int .i64 0] 26)=wx at hb3 g0 g1 g2 ⊢
 refine(H1 _ hb3).mono ?_
 rintro r w1 ⟨po,pn,pc,rfl,hP,hb1⟩
 have hbx1:=ab hb3 hb1
 replace g0:=(hb1.block _ (aGe g0).1).trans g0
 replace g1:=(hb1.block _ (aGe g1).1).trans g1
 replace g2:=(hb1.block _ (aGe g2).1).trans g2
 have j1:=aa g1 1 rfl
 have j2:=aa g1 2 rfl
 go_wp2_with fail
 clear j1 j2
 refine(H2 _ hbx1).mono ?_
 rintro r w2 ⟨qo,qn,qc,rfl,hQ,hb2⟩
 have hbx2:=ab hbx1 hb2
 replace hP:=hP.keeps hb2
 replace g0:=(hb2.block _ (aGe g0).1).trans g0
 replace g1:=(hb2.block _ (aGe g1).1).trans g1
 replace g2:=(hb2.block _ (aGe g2).1).trans g2
 have k0:=aa g0 0 rfl
 have k1:=aa g0 1 rfl
 have k2:=aa g0 2 rfl
 have j0:=aa g1 0 rfl
 have j1:=aa g1 1 rfl
 have j2:=aa g1 2 rfl
 by_cases hng:an=bn
 ·subst hng
  have C1:∀ W,Below w2.heap.size w2 W->Calls prog 98 #[.slice po pn pc,.slice qo qn qc] W fun r w'=>∃ so sn sc,r=.returned (.slice so sn sc)∧bd w' (.slice so sn sc) (A+B)∧Below W.heap.size W w':=fun W h=>H3 W _ _ (hP.keeps h) (hQ.keeps h)
  have C2:∀ W so sn sc,bd W (.slice so sn sc) (A+B)->Calls prog 80 #[.bool an,.slice so sn sc,.int .i64 low] W fun r w'=>∃ ng s1 s2 s3 e1,r=.returned (.agg #[.bool ng,.slice s1 s2 s3,.int .i64 e1])∧bv W w' V (.agg #[.bool ng,.slice s1 s2 s3,.int .i64 e1])∧Below W.heap.size W w':=fun W so sn sc hN=>HH7.out W an _ _ hN (.inl ⟨rfl,rfl,rfl⟩)
  clear H1 H2 H3 H4 H5 H6 HH7
  have hs3:=(aGe g2).1
  go_wp2_with fail
  have hb1:=ap w2
  go_region_held3 (fun W=>(W.cell? ⟨w.heap.size,0,none⟩=some (.bool an)∧W.cell? ⟨w.heap.size,1,none⟩=some (.slice ao n ca)∧W.cell? ⟨w.heap.size,2,none⟩=some (.int .i64 e))∧W.cell? ⟨w.heap.size+1,0,none⟩=some (.bool an)∧W.cell? ⟨w.heap.size+1,1,none⟩=some (.slice bo m cb)∧W.cell? ⟨w.heap.size+1,2,none⟩=some (.int .i64 f))
   (first|assumption|exact⟨⟨k0,k1,k2⟩,j0,j1,j2⟩|exact aQ (W:=w2.drew) hbv1 ⟨⟨k0,k1,k2⟩,j0,j1,j2⟩|exact aQ hbv2 (aQ (W:=w2.drew) hbv1 ⟨⟨k0,k1,k2⟩,j0,j1,j2⟩)|exact⟨dI (aQ hbv2 (aQ (W:=w2.drew) hbv1 ⟨⟨k0,k1,k2⟩,j0,j1,j2⟩)).1 (by omega) _ _ _,dI (aQ hbv2 (aQ (W:=w2.drew) hbv1 ⟨⟨k0,k1,k2⟩,j0,j1,j2⟩)).2 (by omega) _ _ _⟩)
   (first|(go_at_call 80;refine(C2 _ _ _ _ hv1).mono ?_;rintro y w4 ⟨ng4,o4,n4,c4,e4,rfl,hv2,hbv2⟩;have q0:=((ab hbv1 hbv2).block (w.heap.size+2) (by show _<w2.heap.size;omega)).trans g2;have x0:=aa q0 0 rfl;have x1:=aa q0 1 rfl;have x2:=aa q0 2 rfl;have z0:=af q0 0;have z1:=af q0 1;have z2:=af q0 2)|(go_at_call 98;refine(C1 _ hb1.drew).mono ?_;rintro y w3 ⟨so,sn,sc,rfl,hv1,hbv1⟩))
  all_goals go_wp2
  all_goals
   refine bodyPost_ret (v:=.agg #[.bool ng4,.slice o4 n4 c4,.int .i64 e4]) (by simp[results,results76,go_sem,x0,x1,x2]) rfl ⟨_,rfl,?_⟩
   exact cD (g:=w.heap.size+2) hv2 (ab hbx2 (ab hb1.drew hbv1)) (by omega) (Nat.lt_of_lt_of_le (show _<w2.heap.size by omega) hbv1.size) _ _ _
 ·have hng':(an == bn)=false:=by simp[hng]
  go_wp2_with fail
  refine(H4 _ _ _ hP hQ).mono ?_
  rintro r w3 ⟨rfl,hb3'⟩
  have hbx3:=ab hbx2 hb3'
  replace hP:=hP.keeps hb3'
  replace hQ:=hQ.keeps hb3'
  replace g0:=(hb3'.block _ (aGe g0).1).trans g0
  replace g1:=(hb3'.block _ (aGe g1).1).trans g1
  replace g2:=(hb3'.block _ (aGe g2).1).trans g2
  replace k0:=aa g0 0 rfl
  replace k1:=aa g0 1 rfl
  replace k2:=aa g0 2 rfl
  replace j0:=aa g1 0 rfl
  replace j1:=aa g1 1 rfl
  replace j2:=aa g1 2 rfl
  have hs3:=(aGe g2).1
  by_cases hAB:B<=A
  ·have ho:(0:Int)<=bS A B:=by
    rcases Int.lt_trichotomy A B with h|h|h
    ·omega
    ·rw[fK h];decide
    ·rw[dE h];decide
   have C1:∀ W,Below w3.heap.size w3 W->Calls prog 100 #[.slice po pn pc,.slice qo qn qc] W fun r w'=>∃ so sn sc,r=.returned (.slice so sn sc)∧bd w' (.slice so sn sc) (A-B)∧Below W.heap.size W w':=fun W h=>H5 W _ _ (hP.keeps h) (hQ.keeps h) hAB
   have C2:∀ W so sn sc,bd W (.slice so sn sc) (A-B)->Calls prog 80 #[.bool an,.slice so sn sc,.int .i64 low] W fun r w'=>∃ ng s1 s2 s3 e1,r=.returned (.agg #[.bool ng,.slice s1 s2 s3,.int .i64 e1])∧bv W w' V (.agg #[.bool ng,.slice s1 s2 s3,.int .i64 e1])∧Below W.heap.size W w':=fun W so sn sc hN=>HH7.out W an _ _ hN (.inr (.inl ⟨hng,hAB,rfl,rfl⟩))
   generalize bS A B=oAB at ho ⊢
   clear H1 H2 H3 H4 H5 H6 HH7 hAB
   go_wp2_with fail
   have hb1:=ap w3
   go_region_held3 (fun W=>(W.cell? ⟨w.heap.size,0,none⟩=some (.bool an)∧W.cell? ⟨w.heap.size,1,none⟩=some (.slice ao n ca)∧W.cell? ⟨w.heap.size,2,none⟩=some (.int .i64 e))∧W.cell? ⟨w.heap.size+1,0,none⟩=some (.bool bn)∧W.cell? ⟨w.heap.size+1,1,none⟩=some (.slice bo m cb)∧W.cell? ⟨w.heap.size+1,2,none⟩=some (.int .i64 f))
    (first|assumption|exact⟨⟨k0,k1,k2⟩,j0,j1,j2⟩|exact aQ (W:=w3.drew) hbv1 ⟨⟨k0,k1,k2⟩,j0,j1,j2⟩|exact aQ hbv2 (aQ (W:=w3.drew) hbv1 ⟨⟨k0,k1,k2⟩,j0,j1,j2⟩)|exact⟨dI (aQ hbv2 (aQ (W:=w3.drew) hbv1 ⟨⟨k0,k1,k2⟩,j0,j1,j2⟩)).1 (by omega) _ _ _,dI (aQ hbv2 (aQ (W:=w3.drew) hbv1 ⟨⟨k0,k1,k2⟩,j0,j1,j2⟩)).2 (by omega) _ _ _⟩)
    (first|(go_at_call 80;refine(C2 _ _ _ _ hv1).mono ?_;rintro y w4 ⟨ng4,o4,n4,c4,e4,rfl,hv2,hbv2⟩;have q0:=((ab hbv1 hbv2).block (w.heap.size+2) (by show _<w3.heap.size;omega)).trans g2;have x0:=aa q0 0 rfl;have x1:=aa q0 1 rfl;have x2:=aa q0 2 rfl;have z0:=af q0 0;have z1:=af q0 1;have z2:=af q0 2)|(go_at_call 100;refine(C1 _ hb1.drew).mono ?_;rintro y w3' ⟨so,sn,sc,rfl,hv1,hbv1⟩))
   all_goals go_wp2
   all_goals
    refine bodyPost_ret (v:=.agg #[.bool ng4,.slice o4 n4 c4,.int .i64 e4]) (by simp[results,results76,go_sem,x0,x1,x2]) rfl ⟨_,rfl,?_⟩
    exact cD (g:=w.heap.size+2) hv2 (ab hbx3 (ab hb1.drew hbv1)) (by omega) (Nat.lt_of_lt_of_le (show _<w3.heap.size by omega) hbv1.size) _ _ _
  ·have ho:bS A B<(0:Int):=by rw[dD (by omega)];decide
   have C1:∀ W,Below w3.heap.size w3 W->Calls prog 100 #[.slice qo qn qc,.slice po pn pc] W fun r w'=>∃ so sn sc,r=.returned (.slice so sn sc)∧bd w' (.slice so sn sc) (B-A)∧Below W.heap.size W w':=fun W h=>H6 W _ _ (hP.keeps h) (hQ.keeps h) (by omega)
   have C2:∀ W so sn sc,bd W (.slice so sn sc) (B-A)->Calls prog 80 #[.bool bn,.slice so sn sc,.int .i64 low] W fun r w'=>∃ ng s1 s2 s3 e1,r=.returned (.agg #[.bool ng,.slice s1 s2 s3,.int .i64 e1])∧bv W w' V (.agg #[.bool ng,.slice s1 s2 s3,.int .i64 e1])∧Below W.heap.size W w':=fun W so sn sc hN=>HH7.out W bn _ _ hN (.inr (.inr ⟨hng,by omega,rfl,rfl⟩))
   generalize bS A B=oAB at ho ⊢
   clear H1 H2 H3 H4 H5 H6 HH7 hAB
   go_wp2_with fail
   have hb1:=ap w3
   go_region_held3 (fun W=>(W.cell? ⟨w.heap.size,0,none⟩=some (.bool an)∧W.cell? ⟨w.heap.size,1,none⟩=some (.slice ao n ca)∧W.cell? ⟨w.heap.size,2,none⟩=some (.int .i64 e))∧W.cell? ⟨w.heap.size+1,0,none⟩=some (.bool bn)∧W.cell? ⟨w.heap.size+1,1,none⟩=some (.slice bo m cb)∧W.cell? ⟨w.heap.size+1,2,none⟩=some (.int .i64 f))
    (first|assumption|exact⟨⟨k0,k1,k2⟩,j0,j1,j2⟩|exact aQ (W:=w3.drew) hbv1 ⟨⟨k0,k1,k2⟩,j0,j1,j2⟩|exact aQ hbv2 (aQ (W:=w3.drew) hbv1 ⟨⟨k0,k1,k2⟩,j0,j1,j2⟩)|exact⟨dI (aQ hbv2 (aQ (W:=w3.drew) hbv1 ⟨⟨k0,k1,k2⟩,j0,j1,j2⟩)).1 (by omega) _ _ _,dI (aQ hbv2 (aQ (W:=w3.drew) hbv1 ⟨⟨k0,k1,k2⟩,j0,j1,j2⟩)).2 (by omega) _ _ _⟩)
    (first|(go_at_call 80;refine(C2 _ _ _ _ hv1).mono ?_;rintro y w4 ⟨ng4,o4,n4,c4,e4,rfl,hv2,hbv2⟩;have q0:=((ab hbv1 hbv2).block (w.heap.size+2) (by show _<w3.heap.size;omega)).trans g2;have x0:=aa q0 0 rfl;have x1:=aa q0 1 rfl;have x2:=aa q0 2 rfl;have z0:=af q0 0;have z1:=af q0 1;have z2:=af q0 2)|(go_at_call 100;refine(C1 _ hb1.drew).mono ?_;rintro y w3' ⟨so,sn,sc,rfl,hv1,hbv1⟩))
   all_goals go_wp2
   all_goals
    refine bodyPost_ret (v:=.agg #[.bool ng4,.slice o4 n4 c4,.int .i64 e4]) (by simp[results,results76,go_sem,x0,x1,x2]) rfl ⟨_,rfl,?_⟩
    exact cD (g:=w.heap.size+2) hv2 (ab hbx3 (ab hb1.drew hbv1)) (by omega) (Nat.lt_of_lt_of_le (show _<w3.heap.size by omega) hbv1.size) _ _ _
theorem Ep (x y:aI) (w:World) (hx:aL w x.ao x.n x.cap x.d) (hy:aL w y.ao y.n y.cap y.d) (dx:Dy x.V x.ng (val x.d x.n) x.e) (nx:bV x.d x.n) (dy:Dy y.V y.ng (val y.d y.n) y.e) (ny:bV y.d y.n) (hW:Wd x y) :
  Calls prog 76 #[x.v,y.v] w fun r w'=>∃ v,r=.returned v∧hH w w' x.V y.V x.v y.v v:=by
 by_cases h0:x.n=0
 ·refine(o7 x y w (Nat.le_trans hx.le hx.max) (Nat.le_trans hy.le hy.max) h0).mono ?_
  rintro r w' ⟨rfl,hb⟩
  exact⟨_,rfl,hb,.inr (.inl ⟨dx.eq_zero.2 (by rw[h0];rfl),rfl⟩)⟩
 ·by_cases h1:y.n=0
  ·refine(nE x y w (Nat.le_trans hx.le hx.max) (Nat.le_trans hy.le hy.max) (by omega) h1).mono ?_
   rintro r w' ⟨rfl,hb⟩
   exact⟨_,rfl,hb,.inr (.inr ⟨dy.eq_zero.2 (by rw[h1];rfl),rfl⟩)⟩
  ·have px:=ff nx (show 0<x.n by omega)
   have py:=ff ny (show 0<y.n by omega)
   obtain⟨⟨a1,a2⟩,⟨b1,b2,ab1,ab2⟩,s1,s2,dgx,dgy⟩:=hW
   obtain⟨K,hK0⟩:∃ K:Nat,K=560000:=⟨_,rfl⟩
   have hK:K<=560000:=by omega
   rw[<- hK0] at s1 s2
   obtain⟨low,hlow⟩:∃ low:Int,low=min x.e y.e:=⟨_,rfl⟩
   rw[<- hlow] at s1 s2
   have v1:=dx.at (low:=low) (by omega) (by omega)
   have v2:=dy.at (low:=low) (by omega) (by omega)
   have q1:0<=val x.d x.n*2^(x.e-low).toNat:=Int.mul_nonneg (by omega) (Int.le_of_lt (aJ _))
   have q2:0<=val y.d y.n*2^(y.e-low).toNat:=Int.mul_nonneg (by omega) (Int.le_of_lt (aJ _))
   have e1:x.e-low=((x.e-low).toNat:Int):=by omega
   have e2:y.e-low=((y.e-low).toNat:Int):=by omega
   have H1:∀ W,Below w.heap.size w W->Calls prog 97 #[.slice x.ao x.n x.cap,.int .i64 (x.e-low)] W fun r w'=>∃ so sn sc,r=.returned (.slice so sn sc)∧bd w' (.slice so sn sc) (val x.d x.n*2^(x.e-low).toNat)∧Below W.heap.size W w':=fun W hb=>by
    rw[e1]
    refine(jX x.ao x.n x.cap _ x.d W (hx.keeps hb) nx.1 (by omega) (by omega)).mono ?_
    rintro r w' ⟨v,rfl,hA⟩
    obtain⟨so,sn,sc,rfl⟩:=hA.num.shape
    exact⟨so,sn,sc,rfl,by rw[<- e1];exact hA.num,hA.below⟩
   have H2:∀ W,Below w.heap.size w W->Calls prog 97 #[.slice y.ao y.n y.cap,.int .i64 (y.e-low)] W fun r w'=>∃ so sn sc,r=.returned (.slice so sn sc)∧bd w' (.slice so sn sc) (val y.d y.n*2^(y.e-low).toNat)∧Below W.heap.size W w':=fun W hb=>by
    rw[e2]
    refine(jX y.ao y.n y.cap _ y.d W (hy.keeps hb) ny.1 (by omega) (by omega)).mono ?_
    rintro r w' ⟨v,rfl,hA⟩
    obtain⟨so,sn,sc,rfl⟩:=hA.num.shape
    exact⟨so,sn,sc,rfl,by rw[<- e2];exact hA.num,hA.below⟩
   generalize val x.d x.n*2^(x.e-low).toNat=A at *
   generalize val y.d y.n*2^(y.e-low).toNat=B at *
   have dg:=fun W so sn sc M (h:bd W (.slice so sn sc) M) hM=>h.digits hK hM
   have aw:∀ W p M,bd W p M->M<2^(2*K)+2^(2*K)->∃ so sn sc d,p=.slice so sn sc∧aL W so sn sc d∧bV d sn∧val d sn=M∧sn<=37500:=fun W p M h hM=>by
    obtain⟨so,sn,sc,rfl⟩:=h.shape
    obtain⟨d,h1,h2,h3,h4⟩:=h.digits hK hM
    exact⟨so,sn,sc,d,rfl,h1,h2,h3,h4⟩
   refine(tD x y w hx hy (by omega) (by omega) low A B (x.V+y.V) hlow (by omega) (by omega) (by omega) H1 H2 ?_ ?_ ?_ ?_ ?_).mono ?_
   ·intro W p q hp hq
    obtain⟨po,pn,pc,d,rfl,r1,r2,r3,r4⟩:=aw W p A hp (by omega)
    obtain⟨qo,qn,qc,d',rfl,u1,u2,u3,u4⟩:=aw W q B hq (by omega)
    refine(rQ _ _ _ _ _ _ d d' W r1 u1 r2 u2 (by omega) (by omega)).mono ?_
    rw[r3,u3]
    rintro r w' ⟨v,rfl,hA⟩
    obtain⟨so,sn,sc,rfl⟩:=hA.num.shape
    exact⟨so,sn,sc,rfl,hA.num,hA.below⟩
   ·intro W p q hp hq
    obtain⟨po,pn,pc,d,rfl,r1,r2,r3,r4⟩:=aw W p A hp (by omega)
    obtain⟨qo,qn,qc,d',rfl,u1,u2,u3,u4⟩:=aw W q B hq (by omega)
    have:=rR po qo pn qn pc qc d d' W r1 u1 r2 u2
    rwa [r3,u3] at this
   ·intro W p q hp hq hle
    obtain⟨po,pn,pc,d,rfl,r1,r2,r3,r4⟩:=aw W p A hp (by omega)
    obtain⟨qo,qn,qc,d',rfl,u1,u2,u3,u4⟩:=aw W q B hq (by omega)
    refine(ly _ _ _ _ _ _ d d' W r1 u1 r2 u2 (by omega) (by rw[r3,u3];exact hle)).mono ?_
    rw[r3,u3]
    rintro r w' ⟨v,rfl,hA⟩
    obtain⟨so,sn,sc,rfl⟩:=hA.num.shape
    exact⟨so,sn,sc,rfl,hA.num,hA.below⟩
   ·intro W p q hp hq hle
    obtain⟨po,pn,pc,d,rfl,r1,r2,r3,r4⟩:=aw W p A hp (by omega)
    obtain⟨qo,qn,qc,d',rfl,u1,u2,u3,u4⟩:=aw W q B hq (by omega)
    refine(ly _ _ _ _ _ _ d' d W u1 r1 u2 r2 (by omega) (by rw[r3,u3];exact hle)).mono ?_
    rw[r3,u3]
    rintro r w' ⟨v,rfl,hA⟩
    obtain⟨so,sn,sc,rfl⟩:=hA.num.shape
    exact⟨so,sn,sc,rfl,hA.num,hA.below⟩
   ·intro W ng s M hs hc
    have hM:M<2^(2*K)+2^(2*K):=by rcases hc with⟨_,_,h⟩|⟨_,_,_,h⟩|⟨_,_,_,h⟩<;>omega
    obtain⟨po,pn,pc,d,rfl,r1,r2,r3,r4⟩:=aw W s M hs hM
    have hV:=xQ (low:=low) hc
    rw[<- v1,<- v2] at hV
    refine(ku ng po pn pc d low W r1 r2.1 (by omega) (by omega) (by omega)).mono ?_
    rw[r3,hV]
    rintro r w' ⟨v,rfl,hD⟩
    obtain⟨ng',s,m',e1,rfl,_,hA⟩:=id hD
    obtain⟨q1,q2,q3,rfl⟩:=hA.num.shape
    exact⟨ng',q1,q2,q3,e1,rfl,hD,hD.below⟩
   ·rintro r w' ⟨v,rfl,hD⟩
    exact⟨v,rfl,hD.below,.inl hD⟩
theorem Eq (x y:aI) (w:World) (hx:aL w x.ao x.n x.cap x.d) (hy:aL w y.ao y.n y.cap y.d) (ox:cr x=true) (oy:cr y=true) (hW:Wd x y) :
  Calls prog 82 #[x.v,y.v] w fun r w'=>∃ v,r=.returned v∧hH w w' x.V (-y.V) x.v y.opp.v v:=by
 obtain⟨e1,e2⟩:=q7 oy
 have hop:=fun W=>mK y W (by have:=hy.le;have:=hy.max;omega)
 have C2:∀ W,Below w.heap.size w W->Calls prog 76 #[x.v,y.opp.v] W fun r w'=>∃ ng so sn sc e,r=.returned (.agg #[.bool ng,.slice so sn sc,.int .i64 e])∧hH W w' x.V (-y.V) x.v y.opp.v (.agg #[.bool ng,.slice so sn sc,.int .i64 e])∧Below W.heap.size W w':=fun W hb=>by
  refine(Ep x y.opp W (hx.keeps hb) (hy.keeps hb) (gQ ox).1 (bG ox).1 e2 (bG oy).1 hW).mono ?_
  rintro r w' ⟨v,rfl,h⟩
  rw[e1] at h
  obtain⟨ng,so,sn,sc,e,rfl⟩:=h.shape
  exact⟨_,_,_,_,_,rfl,h,h.1⟩
 have hmy:=hy.max
 have hly:=hy.le
 obtain⟨VV,hVV⟩:∃ V,V=x.V:=⟨_,rfl⟩
 obtain⟨UU,hUU⟩:∃ V,V=-y.V:=⟨_,rfl⟩
 rw[<- hVV,<- hUU] at C2 ⊢
 clear e1 e2 hW hVV hUU ox oy
 unfold aI.opp at *
 obtain⟨on,hon⟩:∃ V,V=(if y.n=0 then y.ng else !y.ng):=⟨_,rfl⟩
 rw[<- hon] at hop C2 ⊢
 clear hon
 obtain⟨an,ao,n,ca,a,e⟩:=x
 obtain⟨bn,bo,m,cb,b,f⟩:=y
 unfold aI.v at *
 simp only at *
 have hb3:Below w.heap.size w (((w.alloc (.cells #[.bool an,.slice ao n ca,.int .i64 e] 26)).alloc (.cells #[.bool bn,.slice bo m cb,.int .i64 f] 26)).alloc (.cells #[.bool false,.slice none 0 0,.int .i64 0] 26)):=eg _ _ _ _
 have g0:=gJ w (.cells #[.bool an,.slice ao n ca,.int .i64 e] 26) (.cells #[.bool bn,.slice bo m cb,.int .i64 f] 26) (.cells #[.bool false,.slice none 0 0,.int .i64 0] 26)
 have g1:=gK w (.cells #[.bool an,.slice ao n ca,.int .i64 e] 26) (.cells #[.bool bn,.slice bo m cb,.int .i64 f] 26) (.cells #[.bool false,.slice none 0 0,.int .i64 0] 26)
 have g2:=jV w (.cells #[.bool an,.slice ao n ca,.int .i64 e] 26) (.cells #[.bool bn,.slice bo m cb,.int .i64 f] 26) (.cells #[.bool false,.slice none 0 0,.int .i64 0] 26)
 go_enter func82,ntmps82
 go_wp2_with fail
 generalize ((w.alloc (.cells #[.bool an,.slice ao n ca,.int .i64 e] 26)).alloc (.cells #[.bool bn,.slice bo m cb,.int .i64 f] 26)).alloc (.cells #[.bool false,.slice none 0 0,.int .i64 0] 26)=wx at hb3 g0 g1 g2 ⊢
 have k0:=aa g0 0 rfl
 have k1:=aa g0 1 rfl
 have k2:=aa g0 2 rfl
 have j0:=aa g1 0 rfl
 have j1:=aa g1 1 rfl
 have j2:=aa g1 2 rfl
 have hb1:=ap wx
 have hs3:=(aGe g2).1
 go_region_held3 (fun W=>(W.cell? ⟨w.heap.size,0,none⟩=some (.bool an)∧W.cell? ⟨w.heap.size,1,none⟩=some (.slice ao n ca)∧W.cell? ⟨w.heap.size,2,none⟩=some (.int .i64 e))∧W.cell? ⟨w.heap.size+1,0,none⟩=some (.bool bn)∧W.cell? ⟨w.heap.size+1,1,none⟩=some (.slice bo m cb)∧W.cell? ⟨w.heap.size+1,2,none⟩=some (.int .i64 f))
  (first|assumption|exact⟨⟨k0,k1,k2⟩,j0,j1,j2⟩|exact aQ (W:=wx.drew) hbv1 ⟨⟨k0,k1,k2⟩,j0,j1,j2⟩|exact aQ hbv2 (aQ (W:=wx.drew) hbv1 ⟨⟨k0,k1,k2⟩,j0,j1,j2⟩)|exact⟨dI (aQ hbv2 (aQ (W:=wx.drew) hbv1 ⟨⟨k0,k1,k2⟩,j0,j1,j2⟩)).1 (by omega) _ _ _,dI (aQ hbv2 (aQ (W:=wx.drew) hbv1 ⟨⟨k0,k1,k2⟩,j0,j1,j2⟩)).2 (by omega) _ _ _⟩)
  (first|(go_at_call 76;refine(C2 _ (ab hb3 (ab hb1.drew hbv1))).mono ?_;rintro y w4 ⟨ng4,o4,n4,c4,e4,rfl,hv2,hbv2⟩;have q0:=((ab hbv1 hbv2).block (w.heap.size+2) (by show _<wx.heap.size;omega)).trans g2;have x0:=aa q0 0 rfl;have x1:=aa q0 1 rfl;have x2:=aa q0 2 rfl;have z0:=af q0 0;have z1:=af q0 1;have z2:=af q0 2)|(go_at_call 74;refine(hop _).mono ?_;rintro y w3 ⟨rfl,hbv1⟩))
 all_goals go_wp2
 all_goals
  refine bodyPost_ret (v:=.agg #[.bool ng4,.slice o4 n4 c4,.int .i64 e4]) (by simp[results,results82,go_sem,x0,x1,x2]) rfl ⟨_,rfl,?_⟩
  exact te (g:=w.heap.size+2) hv2 (ab hb3 (ab hb1.drew hbv1)) (by omega) (Nat.lt_of_lt_of_le (show _<wx.heap.size by omega) hbv1.size) _ _ _
theorem yd (x y:aI) (w:World) (hx:aL w x.ao x.n x.cap x.d) (hy:aL w y.ao y.n y.cap y.d) (ox:cr x=true) (oy:cr y=true) (hW:Wd x y) :
  Calls prog 63 #[x.v,y.v] w fun r w'=>r=.returned (.int .i64 (bS x.V y.V))∧Below w.heap.size w w':=by
 have nx:∀ W,Below w.heap.size w W->bk W x.v x.V:=fun W hb=>⟨_,_,_,_,rfl,(gQ ox).1,_,_,_,_,rfl,hx.keeps hb,(bG ox).1,rfl⟩
 have ny:∀ W,Below w.heap.size w W->bk W y.opp.v (-y.V):=fun W hb=>by
  obtain⟨e1,e2⟩:=q7 oy
  rw[e1] at e2
  exact⟨_,_,_,_,rfl,e2,_,_,_,_,rfl,hy.keeps hb,(bG oy).1,rfl⟩
 have C1:∀ W,Below w.heap.size w W->Calls prog 82 #[x.v,y.v] W fun r w'=>∃ ng so sn sc e,r=.returned (.agg #[.bool ng,.slice so sn sc,.int .i64 e])∧sgn ng sn=bS x.V y.V∧sn<=9223372036854775807∧Below W.heap.size W w':=fun W hb=>by
  refine(Eq x y W (hx.keeps hb) (hy.keeps hb) ox oy hW).mono ?_
  rintro r w' ⟨v,rfl,h⟩
  obtain⟨ng,so,sn,sc,e,rfl⟩:=h.shape
  obtain⟨s1,s2⟩:=uy (h.num (nx W hb) (ny W hb))
  refine⟨_,_,_,_,_,rfl,?_,s2,h.1⟩
  rw[s1]
  have:=t5 x.V y.V
  rw[<- this]
  congr 1
 obtain⟨VV,hVV⟩:∃ V,V=bS x.V y.V:=⟨_,rfl⟩
 rw[<- hVV] at C1 ⊢
 clear nx ny hW hVV ox oy
 obtain⟨an,ao,n,ca,a,e⟩:=x
 obtain⟨bn,bo,m,cb,b,f⟩:=y
 unfold aI.v at *
 simp only at *
 go_enter func63,ntmps63
 go_wp2_with fail
 refine(C1 _ (ar _ _ _)).mono ?_
 rintro r w1 ⟨ng,so,sn,sc,e1,rfl,hs,hm,hb1⟩
 have HS:Hid (sgn ng sn=VV):=hs
 clear hs
 go_wp2_with fail
 refine(lP ng so sn sc e1 _ hm).mono ?_
 rintro r w2 ⟨rfl,hb2⟩
 go_wp2
 go_ret
 exact⟨ck HS.out,ab (ab (ar _ _ _) hb1) hb2⟩
theorem uD {x y:aI} (ox:cr x=true) (oy:cr y=true) (by':Bd 4000 y.V):val x.d x.n*2^(x.e-min x.e y.e).toNat<2^(2*560000)∧val y.d y.n*2^(y.e-min x.e y.e).toNat<2^(2*560000)∧x.n<=37400∧y.n<=37400∧(-1500000<=x.e∧x.e<=1500000)∧(-1500000<=y.e∧y.e<=1500000)∧x.e-y.e<=1900000∧y.e-x.e<=1900000:=by
 obtain⟨hx1,hx2,hx3⟩:=(gQ ox)
 obtain⟨hy1,hy2,hy3⟩:=(gQ oy)
 obtain⟨mx,ex1,ex2⟩:=hx1.ok.1 hx3
 obtain⟨my,ey1,ey2⟩:=hy1.ok.1 hy3
 have nx:=(bG ox).1
 have ny:=(bG oy).1
 have gx:=(bG ox).2.1
 have gy:=(bG oy).2.1
 have pw2:∀ (a:Nat) (v:Int) (s:Nat),v<2^a->a+s<=1120000->0<=v->v*2^s<2^(2*560000):=fun a v s hv hs h0=>by
  have h1:v*2^s<2^a*2^s:=Int.mul_lt_mul_of_pos_right hv (aJ s)
  rw[<- Int.pow_add] at h1
  exact Int.lt_of_lt_of_le h1 (cJ (by omega))
 have vx0:=aP nx.1
 have vy0:=aP ny.1
 have P2:P 2000=2^60000:=by rw[di]
 rw[P2] at mx my
 by_cases hz:val y.d y.n=0
 ·have yz:y.e=0:=by
   rcases hy1.form with⟨_,_,h⟩|⟨h,_⟩
   ·exact h
   ·omega
  refine⟨pw2 60000 _ _ mx (by omega) vx0,?_,by omega,by omega,by omega,by omega,by omega,by omega⟩
  rw[hz,Int.zero_mul]
  exact aJ _
 ·obtain⟨f1,f2,f3⟩:=la by' hy1 (by omega) (by omega)
  have f4:=pO by' hy1 (by omega) (by omega)
  exact⟨pw2 60000 _ _ mx (by omega) vx0,pw2 (2*4000) _ _ f4 (by omega) vy0,by omega,by omega,by omega,by omega,by omega,by omega⟩
theorem Co {w:World} {x y:Value} {A B:Int} (hx:bk w x A) (hy:bk w y B) (oA:cB A) (oB:cB B) (b:Bd 4000 B):Calls prog 63 #[x,y] w fun r w'=>r=.returned (.int .i64 (bS A B))∧Below w.heap.size w w':=by
 obtain⟨x,rfl,hR,ok,rfl⟩:=hx.open oA
 obtain⟨y,rfl,hR',ok',rfl⟩:=hy.open oB
 obtain⟨h1,h2,h3,h4,h5,h6,h7,h8⟩:=uD ok ok' b
 exact yd x y w hR hR' ok ok' ⟨h5,⟨h6.1,h6.2,h7,h8⟩,h1,h2,h3,h4⟩
theorem Cp {w:World} {x y:Value} {A B:Int} (hx:bk w x A) (hy:bk w y B) (oA:cB A) (oB:cB B) (b:Bd 4000 A):Calls prog 63 #[x,y] w fun r w'=>r=.returned (.int .i64 (bS A B))∧Below w.heap.size w w':=by
 obtain⟨x,rfl,hR,ok,rfl⟩:=hx.open oA
 obtain⟨y,rfl,hR',ok',rfl⟩:=hy.open oB
 obtain⟨h1,h2,h3,h4,h5,h6,h7,h8⟩:=uD ok' ok b
 rw[Int.min_comm] at h1 h2
 exact yd x y w hR hR' ok ok' ⟨h6,⟨h5.1,h5.2,h8,h7⟩,h2,h1,h4,h3⟩
theorem FA {a b:Int} (na:nn a) (nb:nn b) {x_g:Bool} {x_o:Option Addr} {x_n x_c:Nat} {x_e V:Int} {w:World} (hx:bk w (.agg #[.bool x_g,.slice x_o x_n x_c,.int .i64 x_e]) V) (ok:cB V) :
    Calls prog 25 #[.agg #[.int .i64 a,.int .i64 b],.agg #[.bool x_g,.slice x_o x_n x_c,.int .i64 x_e]] w fun e w'=>e=.returned (.bool (decide (cc (ag a) ⟨0,V⟩ <= 0)&&decide (cc ⟨0,V⟩ (ag b)<=0)))∧Below w.heap.size w w':=by
  have T1:Hid (∀ (u:Value) W,Below w.heap.size w W->EA W u (ag a)->Calls prog 41 #[u,.agg #[.int .i64 0,.bool x_g,.slice x_o x_n x_c,.int .i64 x_e]] W fun r w'=>r=.returned (.int .i64 (cc (ag a) ⟨0,V⟩))∧Below W.heap.size W w'):=fun u W hb hu=>mL (b:=⟨0,V⟩) hu.ev ⟨_,_,_,_,_,rfl,hx.keeps hb⟩ (fun _ _ x y W' h1 h2=>Cp h1 h2 ((aV a).ok (by omega)) ok (aV a))
  have T2:Hid (∀ (u:Value) W,Below w.heap.size w W->EA W u (ag b)->Calls prog 41 #[.agg #[.int .i64 0,.bool x_g,.slice x_o x_n x_c,.int .i64 x_e],u] W fun r w'=>r=.returned (.int .i64 (cc ⟨0,V⟩ (ag b)))∧Below W.heap.size W w'):=fun u W hb hu=>mL (a:=⟨0,V⟩) ⟨_,_,_,_,_,rfl,hx.keeps hb⟩ hu.ev (fun _ _ x y W' h1 h2=>Co h1 h2 ok ((aV b).ok (by omega)) (aV b))
  generalize cc (ag a) ⟨0,V⟩=O1 at *
  generalize cc ⟨0,V⟩ (ag b)=O2 at *
  clear hx ok
  by_cases hc:O1<=0
  · have e1:decide (O1<=0)=true:=decide_eq_true hc
    rw[e1,Bool.true_and]
    have hb:=ap w
    go_enter func25,ntmps25
    have s_k:(w.alloc (.cells #[.int .i64 a,.int .i64 b] 23)).heap[w.heap.size]?=some (.cells #[.int .i64 a,.int .i64 b] 23):=av (.cells #[.int .i64 a,.int .i64 b] 23) (by simp only[ak])
    have hb:=ab hb (ae w (.cells #[.int .i64 a,.int .i64 b] 23))
    have s_k:=ah (.cells #[.bool x_g,.slice x_o x_n x_c,.int .i64 x_e] 26) s_k
    have x_k:((w.alloc (.cells #[.int .i64 a,.int .i64 b] 23)).alloc (.cells #[.bool x_g,.slice x_o x_n x_c,.int .i64 x_e] 26)).heap[w.heap.size+1]?=some (.cells #[.bool x_g,.slice x_o x_n x_c,.int .i64 x_e] 26):=av (.cells #[.bool x_g,.slice x_o x_n x_c,.int .i64 x_e] 26) (by simp only[ak])
    have hb:=ab hb (ae (w.alloc (.cells #[.int .i64 a,.int .i64 b] 23)) (.cells #[.bool x_g,.slice x_o x_n x_c,.int .i64 x_e] 26))
    go_wp2_with fail
    generalize ((w.alloc (.cells #[.int .i64 a,.int .i64 b] 23)).alloc (.cells #[.bool x_g,.slice x_o x_n x_c,.int .i64 x_e] 26))=x1 at s_k x_k hb ⊢
    have KK:∀ W,Below x1.heap.size x1 W->W.cell? ⟨w.heap.size,0,none⟩=some (.int .i64 a)∧W.cell? ⟨w.heap.size,1,none⟩=some (.int .i64 b)∧W.cell? ⟨w.heap.size+1,0,none⟩=some (.bool x_g)∧W.cell? ⟨w.heap.size+1,1,none⟩=some (.slice x_o x_n x_c)∧W.cell? ⟨w.heap.size+1,2,none⟩=some (.int .i64 x_e):=fun W hW=>⟨am (aa s_k 0 rfl) hW,am (aa s_k 1 rfl) hW,am (aa x_k 0 rfl) hW,am (aa x_k 1 rfl) hW,am (aa x_k 2 rfl) hW⟩
    have B0:Below x1.heap.size x1 x1.drew:=(ap _).drew
    go_region_held3 (fun W=>W.cell? ⟨w.heap.size,0,none⟩=some (.int .i64 a)∧W.cell? ⟨w.heap.size,1,none⟩=some (.int .i64 b)∧W.cell? ⟨w.heap.size+1,0,none⟩=some (.bool x_g)∧W.cell? ⟨w.heap.size+1,1,none⟩=some (.slice x_o x_n x_c)∧W.cell? ⟨w.heap.size+1,2,none⟩=some (.int .i64 x_e))
      (with_reducible first|assumption|exact KK _ B0|exact KK _ B1|exact KK _ B2|exact KK _ B3|exact KK _ B4|fail)
      (first
        | (go_at_call 41;have _t:=hs3;refine(T2.out _ _ (ab hb B3) E3).mono ?_;rintro _ y4 ⟨rfl,hs4⟩;have B4:=ab B3 hs4)
        | (go_at_call 40;have _t:=hs2;refine(cA nb _).mono ?_;rintro _ y3 ⟨z3,rfl,E3,hs3⟩;have B3:=ab B2 hs3)
        | (go_at_call 41;have _t:=hs1;refine(T1.out _ _ (ab hb B1) E1).mono ?_;rintro _ y2 ⟨rfl,hs2⟩;have B2:=ab B1 hs2)
        | (go_at_call 40; refine (cA na _).mono ?_; rintro _ y1 ⟨z1,rfl,E1,hs1⟩; have B1:=ab B0 hs1))
    go_wp2
    all_goals go_ret
    all_goals exact⟨rfl,ab hb B4⟩
  · have e1:decide (O1<=0)=false:=decide_eq_false hc
    rw[e1,Bool.false_and]
    have hb:=ap w
    go_enter func25,ntmps25
    have s_k:(w.alloc (.cells #[.int .i64 a,.int .i64 b] 23)).heap[w.heap.size]?=some (.cells #[.int .i64 a,.int .i64 b] 23):=av (.cells #[.int .i64 a,.int .i64 b] 23) (by simp only[ak])
    have hb:=ab hb (ae w (.cells #[.int .i64 a,.int .i64 b] 23))
    have s_k:=ah (.cells #[.bool x_g,.slice x_o x_n x_c,.int .i64 x_e] 26) s_k
    have x_k:((w.alloc (.cells #[.int .i64 a,.int .i64 b] 23)).alloc (.cells #[.bool x_g,.slice x_o x_n x_c,.int .i64 x_e] 26)).heap[w.heap.size+1]?=some (.cells #[.bool x_g,.slice x_o x_n x_c,.int .i64 x_e] 26):=av (.cells #[.bool x_g,.slice x_o x_n x_c,.int .i64 x_e] 26) (by simp only[ak])
    have hb:=ab hb (ae (w.alloc (.cells #[.int .i64 a,.int .i64 b] 23)) (.cells #[.bool x_g,.slice x_o x_n x_c,.int .i64 x_e] 26))
    go_wp2_with fail
    generalize ((w.alloc (.cells #[.int .i64 a,.int .i64 b] 23)).alloc (.cells #[.bool x_g,.slice x_o x_n x_c,.int .i64 x_e] 26))=x1 at s_k x_k hb ⊢
    have KK:∀ W,Below x1.heap.size x1 W->W.cell? ⟨w.heap.size,0,none⟩=some (.int .i64 a)∧W.cell? ⟨w.heap.size,1,none⟩=some (.int .i64 b)∧W.cell? ⟨w.heap.size+1,0,none⟩=some (.bool x_g)∧W.cell? ⟨w.heap.size+1,1,none⟩=some (.slice x_o x_n x_c)∧W.cell? ⟨w.heap.size+1,2,none⟩=some (.int .i64 x_e):=fun W hW=>⟨am (aa s_k 0 rfl) hW,am (aa s_k 1 rfl) hW,am (aa x_k 0 rfl) hW,am (aa x_k 1 rfl) hW,am (aa x_k 2 rfl) hW⟩
    have B0:Below x1.heap.size x1 x1.drew:=(ap _).drew
    have kc0:x1.drew.cell? ⟨w.heap.size,0,none⟩=some (.int .i64 a)∧x1.drew.cell? ⟨w.heap.size,1,none⟩=some (.int .i64 b)∧x1.drew.cell? ⟨w.heap.size+1,0,none⟩=some (.bool x_g)∧x1.drew.cell? ⟨w.heap.size+1,1,none⟩=some (.slice x_o x_n x_c)∧x1.drew.cell? ⟨w.heap.size+1,2,none⟩=some (.int .i64 x_e):=KK _ B0
    refine wp_region_held_drew (S:=fun W=>W.cell? ⟨w.heap.size,0,none⟩=some (.int .i64 a)∧W.cell? ⟨w.heap.size,1,none⟩=some (.int .i64 b)∧W.cell? ⟨w.heap.size+1,0,none⟩=some (.bool x_g)∧W.cell? ⟨w.heap.size+1,1,none⟩=some (.slice x_o x_n x_c)∧W.cell? ⟨w.heap.size+1,2,none⟩=some (.int .i64 x_e)) (by kernel_rfl) kc0 (fun hHeld0=>?_)
    refine wpAnyH_take (i:=0) (v:=?_) rfl (by kernel_rfl) (by kernel_rfl) (by kernel_rfl) (fun _ _ _ h=>h) (Or.inl ⟨by kernel_rfl,?_⟩) (by assumption) ?_
    rotate_left
    · intro w hSw;(try dsimp only at hSw);go_simp;first|done|with_reducible rfl
    simp only[Act.put,List.setIfInBounds_toArray,List.set_cons_zero,List.set_cons_succ,List.getElem_toArray,List.getElem_cons_zero,List.getElem_cons_succ]
    refine wpAnyH_take (i:=1) (v:=?_) rfl (by kernel_rfl) (by kernel_rfl) (by kernel_rfl) (fun _ _ _ h=>h) (Or.inl ⟨by kernel_rfl,?_⟩) (by assumption) ?_
    rotate_left
    · intro w hSw;(try dsimp only at hSw);go_simp;first|done|with_reducible rfl
    simp only[Act.put,List.setIfInBounds_toArray,List.set_cons_zero,List.set_cons_succ,List.getElem_toArray,List.getElem_cons_zero,List.getElem_cons_succ]
    refine wpAnyH_take (i:=3) (v:=?_) rfl (by kernel_rfl) (by kernel_rfl) (by kernel_rfl) (fun _ _ _ h=>h) (Or.inl ⟨by kernel_rfl,?_⟩) (by assumption) ?_
    rotate_left
    · intro w hSw;(try dsimp only at hSw);go_simp;first|done|with_reducible rfl
    simp only[Act.put,List.setIfInBounds_toArray,List.set_cons_zero,List.set_cons_succ,List.getElem_toArray,List.getElem_cons_zero,List.getElem_cons_succ]
    refine wpAnyH_take (i:=4) (v:=?_) rfl (by kernel_rfl) (by kernel_rfl) (by kernel_rfl) (fun _ _ _ h=>h) (Or.inl ⟨by kernel_rfl,?_⟩) (by assumption) ?_
    rotate_left
    · intro w hSw;(try dsimp only at hSw);go_simp;first|done|with_reducible rfl
    simp only[Act.put,List.setIfInBounds_toArray,List.set_cons_zero,List.set_cons_succ,List.getElem_toArray,List.getElem_cons_zero,List.getElem_cons_succ]
    refine wpAnyH_ready (rs:=[2]) (by kernel_rfl) (by simp) ?_
    refine AllReadyH.cons rfl (fun K hK=>?_) AllReadyH.nil
    go_simp
    refine(cA na _).mono ?_
    rintro _ y1 ⟨z1,rfl,E1,hs1⟩
    have B1:=ab B0 hs1
    have kc1:y1.cell? ⟨w.heap.size,0,none⟩=some (.int .i64 a)∧y1.cell? ⟨w.heap.size,1,none⟩=some (.int .i64 b)∧y1.cell? ⟨w.heap.size+1,0,none⟩=some (.bool x_g)∧y1.cell? ⟨w.heap.size+1,1,none⟩=some (.slice x_o x_n x_c)∧y1.cell? ⟨w.heap.size+1,2,none⟩=some (.int .i64 x_e):=KK _ B1
    refine hK.out _ _ kc1 (fun hHeld1=>?_)
    clear hK K hHeld0
    try simp only[Act.put,List.setIfInBounds_toArray,List.set_cons_zero,List.set_cons_succ,List.getElem_toArray,List.getElem_cons_zero,List.getElem_cons_succ]
    refine wpAnyH_ready (rs:=[5]) (by kernel_rfl) (by simp) ?_
    refine AllReadyH.cons rfl (fun K hK=>?_) AllReadyH.nil
    go_simp
    refine(T1.out _ _ (ab hb B1) E1).mono ?_
    rintro _ y2 ⟨rfl,hs2⟩
    have B2:=ab B1 hs2
    have kc2:y2.cell? ⟨w.heap.size,0,none⟩=some (.int .i64 a)∧y2.cell? ⟨w.heap.size,1,none⟩=some (.int .i64 b)∧y2.cell? ⟨w.heap.size+1,0,none⟩=some (.bool x_g)∧y2.cell? ⟨w.heap.size+1,1,none⟩=some (.slice x_o x_n x_c)∧y2.cell? ⟨w.heap.size+1,2,none⟩=some (.int .i64 x_e):=KK _ B2
    refine hK.out _ _ kc2 (fun hHeld2=>?_)
    clear hK K hHeld1
    try simp only[Act.put,List.setIfInBounds_toArray,List.set_cons_zero,List.set_cons_succ,List.getElem_toArray,List.getElem_cons_zero,List.getElem_cons_succ]
    refine wpAnyH_take (i:=6) (v:=.bool false) rfl (by kernel_rfl) (by kernel_rfl) (by kernel_rfl) (fun _ _ _ h=>h) (Or.inl ⟨by kernel_rfl,?_⟩) (by assumption) ?_
    · intro w hSw;(try dsimp only at hSw);go_simp;first|done|simp[hc]
    simp only[Act.put,List.setIfInBounds_toArray,List.set_cons_zero,List.set_cons_succ,List.getElem_toArray,List.getElem_cons_zero,List.getElem_cons_succ]
    refine wpAnyH_take (i:=7) (v:=?_) rfl (by kernel_rfl) (by kernel_rfl) (by kernel_rfl) (fun _ _ _ h=>h) (Or.inl ⟨by kernel_rfl,?_⟩) (by assumption) ?_
    rotate_left
    · intro w hSw;(try dsimp only at hSw);go_simp;first|done|with_reducible rfl
    simp only[Act.put,List.setIfInBounds_toArray,List.set_cons_zero,List.set_cons_succ,List.getElem_toArray,List.getElem_cons_zero,List.getElem_cons_succ]
    refine wpAnyH_take (i:=8) (v:=undef) rfl (by kernel_rfl) (by kernel_rfl) (by kernel_rfl) (fun _ _ _ h=>h) (Or.inr ⟨by kernel_rfl,rfl⟩) (by assumption) ?_
    simp only[Act.put,List.setIfInBounds_toArray,List.set_cons_zero,List.set_cons_succ,List.getElem_toArray,List.getElem_cons_zero,List.getElem_cons_succ]
    refine wpAnyH_take (i:=9) (v:=undef) rfl (by kernel_rfl) (by kernel_rfl) (by kernel_rfl) (fun _ _ _ h=>h) (Or.inr ⟨by kernel_rfl,rfl⟩) (by assumption) ?_
    simp only[Act.put,List.setIfInBounds_toArray,List.set_cons_zero,List.set_cons_succ,List.getElem_toArray,List.getElem_cons_zero,List.getElem_cons_succ]
    refine wpAnyH_take (i:=10) (v:=undef) rfl (by kernel_rfl) (by kernel_rfl) (by kernel_rfl) (fun _ _ _ h=>h) (Or.inr ⟨by kernel_rfl,rfl⟩) (by assumption) ?_
    simp only[Act.put,List.setIfInBounds_toArray,List.set_cons_zero,List.set_cons_succ,List.getElem_toArray,List.getElem_cons_zero,List.getElem_cons_succ]
    refine wpAnyH_take (i:=11) (v:=undef) rfl (by kernel_rfl) (by kernel_rfl) (by kernel_rfl) (fun _ _ _ h=>h) (Or.inr ⟨by kernel_rfl,rfl⟩) (by assumption) ?_
    simp only[Act.put,List.setIfInBounds_toArray,List.set_cons_zero,List.set_cons_succ,List.getElem_toArray,List.getElem_cons_zero,List.getElem_cons_succ]
    refine wpAnyH_take (i:=12) (v:=undef) rfl (by kernel_rfl) (by kernel_rfl) (by kernel_rfl) (fun _ _ _ h=>h) (Or.inr ⟨by kernel_rfl,rfl⟩) (by assumption) ?_
    simp only[Act.put,List.setIfInBounds_toArray,List.set_cons_zero,List.set_cons_succ,List.getElem_toArray,List.getElem_cons_zero,List.getElem_cons_succ]
    refine wpAnyH_take (i:=13) (v:=undef) rfl (by kernel_rfl) (by kernel_rfl) (by kernel_rfl) (fun _ _ _ h=>h) (Or.inr ⟨by kernel_rfl,rfl⟩) (by assumption) ?_
    simp only[Act.put,List.setIfInBounds_toArray,List.set_cons_zero,List.set_cons_succ,List.getElem_toArray,List.getElem_cons_zero,List.getElem_cons_succ]
    refine wpAnyH_take (i:=14) (v:=undef) rfl (by kernel_rfl) (by kernel_rfl) (by kernel_rfl) (fun _ _ _ h=>h) (Or.inr ⟨by kernel_rfl,rfl⟩) (by assumption) ?_
    simp only[Act.put,List.setIfInBounds_toArray,List.set_cons_zero,List.set_cons_succ,List.getElem_toArray,List.getElem_cons_zero,List.getElem_cons_succ]
    refine wpAnyH_take (i:=15) (v:=?_) rfl (by kernel_rfl) (by kernel_rfl) (by kernel_rfl) (fun _ _ _ h=>h) (Or.inl ⟨by kernel_rfl,?_⟩) (by assumption) ?_
    rotate_left
    · intro w hSw;(try dsimp only at hSw);go_simp;first|done|with_reducible rfl
    simp only[Act.put,List.setIfInBounds_toArray,List.set_cons_zero,List.set_cons_succ,List.getElem_toArray,List.getElem_cons_zero,List.getElem_cons_succ]
    refine wpAnyH_take (i:=16) (v:=?_) rfl (by kernel_rfl) (by kernel_rfl) (by kernel_rfl) (fun _ _ _ h=>h) (Or.inl ⟨by kernel_rfl,?_⟩) (by assumption) ?_
    rotate_left
    · intro w hSw;(try dsimp only at hSw);go_simp;first|done|with_reducible rfl
    simp only[Act.put,List.setIfInBounds_toArray,List.set_cons_zero,List.set_cons_succ,List.getElem_toArray,List.getElem_cons_zero,List.getElem_cons_succ]
    refine wpAnyH_done (by kernel_rfl) ?_ _
    go_wp2
    all_goals go_ret
    all_goals exact⟨rfl,ab hb B2⟩
theorem Cq:(prog.info? 68).map (fun i=>(i.zero,i.size,i.bytes))=some (some (.agg #[.int .i64 0,.bool false,.slice none 0 0,.int .i64 0]),4,48):=by kernel_rfl
theorem ye {B:Nat} {w:World} {v:Value} {n:Nat} {xs:List Value} (h:w.ownsRow B 68 4 v (n+1) xs):∃ g cap,v=.slice (some ⟨g,0,none⟩) (n+1) cap∧B<=g∧g<w.heap.size∧(n+1<=cap∧cap<=9223372036854775807)∧∀ j x,j<(n+1)*4->xs[j]?=some x->w.cell? ⟨g,j,none⟩=some x:=by
 rcases h.2 with⟨rfl,e⟩|⟨g,cap,cur,rfl,hb,hg,hn,hm,hs,ht⟩
 ·simp at e
 ·refine⟨g,cap,rfl,hb,(aGe hg).1,⟨hn,by unfold maxLen at hm;omega⟩,fun j x hj hx=>?_⟩
  rw[cell_of_row w g j cur _ _ hg]
  rw[<- ht,List.getElem?_take_of_lt (by omega)] at hx
  simpa using hx
theorem j9 {W:World} {g g':Nat} {X:Obj} {x0 x1 x2 x3:Value} (hn:g'≠g) (h:W.heap[g']?=some X):((((W.setCell ⟨g,0,none⟩ x0).setCell ⟨g,1,none⟩ x1).setCell ⟨g,2,none⟩ x2).setCell ⟨g,3,none⟩ x3).heap[g']?=some X:=cT h hn _ _ _ _
theorem oh {W:World} {g:Nat} {a b c d x0 x1 x2 x3:Value} (h:W.heap[g]?=some (.cells #[a,b,c,d] 68 (0,0))):((((W.setCell ⟨g,0,none⟩ x0).setCell ⟨g,1,none⟩ x1).setCell ⟨g,2,none⟩ x2).setCell ⟨g,3,none⟩ x3).heap[g]?=some (.cells #[x0,x1,x2,x3] 68 (0,0)):=ie h _ _ _ _
theorem iz (w:World) (a b c:Obj):(((w.alloc a).alloc b).alloc c).heap[w.heap.size+1+1]?=some c:=jV w a b c
theorem eM {W0 W:World} {b:Nat} (hbW:b=W0.heap.size) {A0 A1:En} {g0:Bool} {o0:Option Addr} {n0 c0:Nat} {e0:Int} {g1:Bool} {o1:Option Addr} {n1 c1:Nat} {e1:Int} (d0:bH 0 W0 A0.v (.agg #[.bool g0,.slice o0 n0 c0,.int .i64 e0])) (d1:bH 0 W0 A1.v (.agg #[.bool g1,.slice o1 n1 c1,.int .i64 e1])) {K:Nat} (hK:K<=28000) (b0:Bd K A0.v) (b1:Bd K A1.v) (k0:A0.ok) (k1:A1.ok)
    (hW:Below (W0.alloc (.cells #[.int .i64 A0.i,.bool g0,.slice o0 n0 c0,.int .i64 e0,.int .i64 A1.i,.bool g1,.slice o1 n1 c1,.int .i64 e1] 68)).heap.size (W0.alloc (.cells #[.int .i64 A0.i,.bool g0,.slice o0 n0 c0,.int .i64 e0,.int .i64 A1.i,.bool g1,.slice o1 n1 c1,.int .i64 e1] 68)) W) :
    Calls prog 54 #[.slice (some ⟨b,0,none⟩) 2 2] W fun x w'=>∃ v u,x=.returned (.tuple #[v,u])∧EA w' v (aO A0 A1)∧EA w' u (aW A0 A1)∧Below W.heap.size W w':=by
  subst hbW
  have hb:=ae W0 (.cells #[.int .i64 A0.i,.bool g0,.slice o0 n0 c0,.int .i64 e0,.int .i64 A1.i,.bool g1,.slice o1 n1 c1,.int .i64 e1] 68)
  have hk0:=aB W0 (.cells #[.int .i64 A0.i,.bool g0,.slice o0 n0 c0,.int .i64 e0,.int .i64 A1.i,.bool g1,.slice o1 n1 c1,.int .i64 e1] 68)
  have hs:W0.heap.size<(W0.alloc (.cells #[.int .i64 A0.i,.bool g0,.slice o0 n0 c0,.int .i64 e0,.int .i64 A1.i,.bool g1,.slice o1 n1 c1,.int .i64 e1] 68)).heap.size:=by rw[ak];omega
  have hE:lT (W0.alloc (.cells #[.int .i64 A0.i,.bool g0,.slice o0 n0 c0,.int .i64 e0,.int .i64 A1.i,.bool g1,.slice o1 n1 c1,.int .i64 e1] 68)) W0.heap.size 0 2 (fun k=>match k with | 0=>(⟨A0.i,g0,o0,n0,c0,e0⟩:fS) | _=>(⟨A1.i,g1,o1,n1,c1,e1⟩:fS)) (fun k=>match k with | 0=>A0 | _=>A1):=⟨hs,fun k hk=>match k,hk with
    | 0,_=>⟨aa hk0 0 rfl,aa hk0 1 rfl,aa hk0 2 rfl,aa hk0 3 rfl⟩
    | 1,_=>⟨aa hk0 4 rfl,aa hk0 5 rfl,aa hk0 6 rfl,aa hk0 7 rfl⟩,fun k hk=>match k,hk with
    | 0,_=>⟨_,_,_,_,_,rfl,d0.keeps hb⟩
    | 1,_=>⟨_,_,_,_,_,rfl,d1.keeps hb⟩⟩
  exact m7 (hE.keeps hW) (by omega) (by omega) (by omega) hK (fun k hk=>match k,hk with
    | 0,_=>b0
    | 1,_=>b1) (fun k hk=>match k,hk with
    | 0,_=>k0
    | 1,_=>k1)
theorem i6 {B:Nat} {W:World} {V:Int} {v:Value} (hv:bH B W V v) {g:Nat} {xs:Array Value} {z:Nat × Nat} (hg:W.heap[g]?=some (.cells xs 68 z)) (x0 x1 x2 x3:Value):bH B ((((W.setCell ⟨g,0,none⟩ x0).setCell ⟨g,1,none⟩ x1).setCell ⟨g,2,none⟩ x2).setCell ⟨g,3,none⟩ x3) V v :=
 hv.of_blocks fun g' cur z' h=>by
  have hn:g'≠g:=fun e=>by rw[e,hg] at h;simp at h
  rw[heap_setCell_other _ ⟨g,_,none⟩ g' _ hn,heap_setCell_other _ ⟨g,_,none⟩ g' _ hn,heap_setCell_other _ ⟨g,_,none⟩ g' _ hn,heap_setCell_other _ ⟨g,_,none⟩ g' _ hn]
def Lf (x X:World) (g5 g6:Nat) (A C:En) (m_g:Bool) (m_o:Option Addr) (m_n m_c:Nat) (m_e:Int) (h_g:Bool) (h_o:Option Addr) (h_n h_c:Nat) (h_e:Int):Prop:=X.heap[g5]?=some (.cells #[.int .i64 A.i,.bool m_g,.slice m_o m_n m_c,.int .i64 m_e] 68 (0,0))∧X.heap[g6]?=some (.cells #[.int .i64 C.i,.bool h_g,.slice h_o h_n h_c,.int .i64 h_e] 68 (0,0))∧bH 0 X A.v (.agg #[.bool m_g,.slice m_o m_n m_c,.int .i64 m_e])∧bH 0 X C.v (.agg #[.bool h_g,.slice h_o h_n h_c,.int .i64 h_e])∧Below x.heap.size x X
theorem AK {x y:World} {A C:En} {m_g:Bool} {m_o:Option Addr} {m_n m_c:Nat} {m_e:Int} {h_g:Bool} {h_o:Option Addr} {h_n h_c:Nat} {h_e:Int} (B:Below x.heap.size x y) (mD:bH 0 y A.v (.agg #[.bool m_g,.slice m_o m_n m_c,.int .i64 m_e])) (hD:bH 0 y C.v (.agg #[.bool h_g,.slice h_o h_n h_c,.int .i64 h_e])):Lf x ((y.alloc (.cells #[.int .i64 A.i,.bool m_g,.slice m_o m_n m_c,.int .i64 m_e] 68)).alloc (.cells #[.int .i64 C.i,.bool h_g,.slice h_o h_n h_c,.int .i64 h_e] 68)) y.heap.size (y.heap.size+1) A C m_g m_o m_n m_c m_e h_g h_o h_n h_c h_e:=⟨aU _ _ _,aR _ _ _,mD.keeps (ar _ _ _),hD.keeps (ar _ _ _),aD (aD B _) _⟩
theorem AL {x y:World} {A C:En} {m_g:Bool} {m_o:Option Addr} {m_n m_c:Nat} {m_e:Int} {h_g:Bool} {h_o:Option Addr} {h_n h_c:Nat} {h_e:Int} (B:Below x.heap.size x y) (mD:bH 0 y A.v (.agg #[.bool m_g,.slice m_o m_n m_c,.int .i64 m_e])) (hD:bH 0 y C.v (.agg #[.bool h_g,.slice h_o h_n h_c,.int .i64 h_e])):Lf x ((y.alloc (.cells #[.int .i64 C.i,.bool h_g,.slice h_o h_n h_c,.int .i64 h_e] 68)).alloc (.cells #[.int .i64 A.i,.bool m_g,.slice m_o m_n m_c,.int .i64 m_e] 68)) (y.heap.size+1) y.heap.size A C m_g m_o m_n m_c m_e h_g h_o h_n h_c h_e:=⟨aR _ _ _,aU _ _ _,mD.keeps (ar _ _ _),hD.keeps (ar _ _ _),aD (aD B _) _⟩
theorem pe {g5 g6:Nat} {x y:World} {A C:En} {m_g:Bool} {m_o:Option Addr} {m_n m_c:Nat} {m_e:Int} {h_g:Bool} {h_o:Option Addr} {h_n h_c:Nat} {h_e:Int} (B:Below x.heap.size x y) (mD:bH 0 y A.v (.agg #[.bool m_g,.slice m_o m_n m_c,.int .i64 m_e])) (hD:bH 0 y C.v (.agg #[.bool h_g,.slice h_o h_n h_c,.int .i64 h_e])) (z5:y.heap[g5]?=some (.cells #[.int .i64 0,.bool false,.slice none 0 0,.int .i64 0] 68 (0,0))) (z6:y.heap[g6]?=some (.cells #[.int .i64 0,.bool false,.slice none 0 0,.int .i64 0] 68 (0,0))) (ne:g5≠g6) (le5:x.heap.size<=g5) (le6:x.heap.size<=g6):Lf x ((((((((y.setCell ⟨g5,0,none⟩ (.int .i64 A.i)).setCell ⟨g5,1,none⟩ (.bool m_g)).setCell ⟨g5,2,none⟩ (.slice m_o m_n m_c)).setCell ⟨g5,3,none⟩ (.int .i64 m_e)).setCell ⟨g6,0,none⟩ (.int .i64 C.i)).setCell ⟨g6,1,none⟩ (.bool h_g)).setCell ⟨g6,2,none⟩ (.slice h_o h_n h_c)).setCell ⟨g6,3,none⟩ (.int .i64 h_e)) g5 g6 A C m_g m_o m_n m_c m_e h_g h_o h_n h_c h_e:=⟨j9 ne (oh z5),oh (j9 ne.symm z6),i6 (i6 mD z5 _ _ _ _) (j9 ne.symm z6) _ _ _ _,i6 (i6 hD z5 _ _ _ _) (j9 ne.symm z6) _ _ _ _,aT (aT B le5 _ _ _ _) le6 _ _ _ _⟩
theorem AM {g5:Nat} {x y:World} {A C:En} {m_g:Bool} {m_o:Option Addr} {m_n m_c:Nat} {m_e:Int} {h_g:Bool} {h_o:Option Addr} {h_n h_c:Nat} {h_e:Int} (B:Below x.heap.size x y) (mD:bH 0 y A.v (.agg #[.bool m_g,.slice m_o m_n m_c,.int .i64 m_e])) (hD:bH 0 y C.v (.agg #[.bool h_g,.slice h_o h_n h_c,.int .i64 h_e])) (z5:y.heap[g5]?=some (.cells #[.int .i64 0,.bool false,.slice none 0 0,.int .i64 0] 68 (0,0))) (le5:x.heap.size<=g5):Lf x (((((((((y.alloc (.cells #[.int .i64 0,.bool false,.slice none 0 0,.int .i64 0] 68)).setCell ⟨g5,0,none⟩ (.int .i64 A.i)).setCell ⟨g5,1,none⟩ (.bool m_g)).setCell ⟨g5,2,none⟩ (.slice m_o m_n m_c)).setCell ⟨g5,3,none⟩ (.int .i64 m_e)).setCell ⟨y.heap.size,0,none⟩ (.int .i64 C.i)).setCell ⟨y.heap.size,1,none⟩ (.bool h_g)).setCell ⟨y.heap.size,2,none⟩ (.slice h_o h_n h_c)).setCell ⟨y.heap.size,3,none⟩ (.int .i64 h_e)) g5 y.heap.size A C m_g m_o m_n m_c m_e h_g h_o h_n h_c h_e:=pe (aD B _) (mD.keeps (ae _ _)) (hD.keeps (ae _ _)) (ah _ z5) (aB _ _) (fun e=>by have:=(aGe z5).1;omega) le5 B.size
theorem AN {g6:Nat} {x y:World} {A C:En} {m_g:Bool} {m_o:Option Addr} {m_n m_c:Nat} {m_e:Int} {h_g:Bool} {h_o:Option Addr} {h_n h_c:Nat} {h_e:Int} (B:Below x.heap.size x y) (mD:bH 0 y A.v (.agg #[.bool m_g,.slice m_o m_n m_c,.int .i64 m_e])) (hD:bH 0 y C.v (.agg #[.bool h_g,.slice h_o h_n h_c,.int .i64 h_e])) (z6:y.heap[g6]?=some (.cells #[.int .i64 0,.bool false,.slice none 0 0,.int .i64 0] 68 (0,0))) (le6:x.heap.size<=g6):Lf x (((((y.alloc (.cells #[.int .i64 A.i,.bool m_g,.slice m_o m_n m_c,.int .i64 m_e] 68)).setCell ⟨g6,0,none⟩ (.int .i64 C.i)).setCell ⟨g6,1,none⟩ (.bool h_g)).setCell ⟨g6,2,none⟩ (.slice h_o h_n h_c)).setCell ⟨g6,3,none⟩ (.int .i64 h_e)) y.heap.size g6 A C m_g m_o m_n m_c m_e h_g h_o h_n h_c h_e:=by
 have ne:y.heap.size≠g6:=fun e=>by have:=(aGe z6).1;omega
 exact⟨j9 ne (aB _ _),oh (ah _ z6),i6 (mD.keeps (ae _ _)) (ah _ z6) _ _ _ _,i6 (hD.keeps (ae _ _)) (ah _ z6) _ _ _ _,aT (aD B _) le6 _ _ _ _⟩
end Go.Proofs.YtkkpppgfoilgmaaGreatDoor
