/- Parts of the proof. -/
import Derived.Test.YtcklaogdjpbagaaGreatDoorSa4
import Derived.Test.YtcklaogdjpbagaaGreatDoorSa6
import Derived.Maps.AppendAt
import Derived.Laws.AppendOwnNone
import Derived.Test.YtcklaogdjpbagaaGreatDoorSa3
import Derived.Test.YtcklaogdjpbagaaGreatDoorSa5
import Derived.Deep.RegionHeld3
set_option maxRecDepth 100000
set_option maxHeartbeats 8000000
set_option linter.unusedVariables false
set_option linter.unusedSimpArgs false
namespace Go.Proofs.YtcklaogdjpbagaaGreatDoor
open Go Go.Proofs.Tryz Go.RowKit Go.Proofs.YtcklaogdjpbagaaGreatDoor.M
def bJ (B:Nat) (w:World) (V:Int) (v:Value):Prop:=∃ ng s m e,v=.agg #[.bool ng,s,.int .i64 e]∧Dy V ng m e∧An B w s m
theorem aW.dan {w w':World} {V:Int} {v:Value} (h:aW w w' V v):bJ w.heap.size w' V v:=by
 obtain⟨ng,s,m,e,h1,h2,h3⟩:=h
 exact⟨ng,s,m,e,h1,h2,h3.an⟩
theorem bJ.keeps {B:Nat} {w w':World} {v:Value} {V:Int} (h:bJ B w V v) (k:Below w.heap.size w w'):bJ B w' V v:=by
 obtain⟨ng,s,m,e,h1,h2,h3⟩:=h
 exact⟨ng,s,m,e,h1,h2,h3.keeps k⟩
theorem bJ.lower {B B':Nat} {w:World} {v:Value} {V:Int} (h:bJ B w V v) (hB:B'<=B):bJ B' w V v:=by
 obtain⟨ng,s,m,e,h1,h2,h3⟩:=h
 exact⟨ng,s,m,e,h1,h2,h3.lower hB⟩
theorem bJ.num {B:Nat} {w:World} {v:Value} {V:Int} (h:bJ B w V v):aM w v V:=by
 obtain⟨ng,s,m,e,h1,h2,h3⟩:=h
 exact⟨ng,s,m,e,h1,h2,h3.num⟩
theorem bJ.parts {B:Nat} {w:World} {ng:Bool} {so:Option Addr} {sn sc:Nat} {e V:Int} (h:bJ B w V (.agg #[.bool ng,.slice so sn sc,.int .i64 e])):∃ m,Dy V ng m e∧An B w (.slice so sn sc) m:=by
 obtain⟨ng',s,m,e',h1,h2,h3⟩:=h
 simp only[Value.agg.injEq,Array.mk.injEq,List.cons.injEq,Value.bool.injEq,Value.int.injEq,and_true,true_and] at h1
 obtain⟨rfl,rfl,rfl⟩:=h1
 exact⟨m,h2,h3⟩
def De (v:Value):Prop:=∃ ng so sn sc e,v=.agg #[.bool ng,.slice so sn sc,.int .i64 e]
theorem bJ.three {B:Nat} {w:World} {V:Int} {v:Value} (h:bJ B w V v):De v:=by
 obtain⟨ng,s,m,e,rfl,_,hA⟩:=h
 obtain⟨so,sn,sc,rfl⟩:=hA.shape
 exact⟨_,_,_,_,_,rfl⟩
theorem bJ.of_blocks {B:Nat} {w w':World} {V:Int} {v:Value} (h:bJ B w V v) (hb:∀ (g:Nat) (cur:Array Value) z,w.heap[g]?=some (.cells cur 3 z)->w'.heap[g]?=w.heap[g]?):bJ B w' V v:=by
 obtain⟨ng,s,m,e,h1,h2,t,d,hO,h3⟩:=h
 exact⟨ng,s,m,e,h1,h2,t,d,hO.of_block fun g hg=>by obtain⟨cur,z,hc⟩:=hO.typed hg;exact hb g cur z hc,h3⟩
theorem pt (x y:aI) (w:World) (hx:aS w x.ao x.n x.cap x.d) (hy:aS w y.ao y.n y.cap y.d) (sx:dR x) (sy:dR y) :
  Calls prog 62 #[x.v,y.v] w fun r w'=>∃ v,r=.returned v∧aW w w' (lp x y) v:=by
 have hV:lp x y=sg (x.ng != y.ng) (val x.d x.n*val y.d y.n)*pw (x.e+y.e):=rfl
 have he:-4194304<=x.e+y.e∧x.e+y.e<=4194304:=by have:=sx.2.2.1;have:=sy.2.2.1;have:=sx.2.2.2;have:=sy.2.2.2;omega
 have hlen:val x.d x.n*val y.d y.n<P 10000:=by
  have a1:=cV sx.1.1
  have a2:=cV sy.1.1
  have b1:=bz sx.1.1
  have b2:=bz sy.1.1
  have c1:val x.d x.n*val y.d y.n<=P x.n*val y.d y.n:=Int.mul_le_mul_of_nonneg_right (by omega) b2
  have c2:P x.n*val y.d y.n<P x.n*P y.n:=Int.mul_lt_mul_of_pos_left a2 (cA _)
  rw[<- lN] at c2
  have:=iz (show x.n+y.n<=10000 by have:=sx.2.1;have:=sy.2.1;omega)
  omega
 obtain⟨an,ao,n,ca,a,e⟩:=x
 obtain⟨bn,bo,m,cb,b,f⟩:=y
 obtain⟨s1,s2,s3,s4⟩:=sx
 obtain⟨t1,t2,t3,t4⟩:=sy
 unfold aI.v
 simp only at *
 rw[hV]
 clear hV
 generalize hVV:sg (an != bn) (val a n*val b m)*pw (e+f)=V
 have HVV:Hid (sg (an != bn) (val a n*val b m)*pw (e+f)=V):=hVV
 clear hVV
 have hw:IntKind.i64.wrap (e+f)=e+f:=by rw[bs];omega
 have hb3:=dn w (.cells #[.bool an,.slice ao n ca,.int .i64 e] 33) (.cells #[.bool bn,.slice bo m cb,.int .i64 f] 33) (.cells #[.bool false,.slice none 0 0,.int .i64 0] 33)
 have g0:=lj w (.cells #[.bool an,.slice ao n ca,.int .i64 e] 33) (.cells #[.bool bn,.slice bo m cb,.int .i64 f] 33) (.cells #[.bool false,.slice none 0 0,.int .i64 0] 33)
 have g1:=lk w (.cells #[.bool an,.slice ao n ca,.int .i64 e] 33) (.cells #[.bool bn,.slice bo m cb,.int .i64 f] 33) (.cells #[.bool false,.slice none 0 0,.int .i64 0] 33)
 have g2:=jc w (.cells #[.bool an,.slice ao n ca,.int .i64 e] 33) (.cells #[.bool bn,.slice bo m cb,.int .i64 f] 33) (.cells #[.bool false,.slice none 0 0,.int .i64 0] 33)
 have hs3:=iH w (.cells #[.bool an,.slice ao n ca,.int .i64 e] 33) (.cells #[.bool bn,.slice bo m cb,.int .i64 f] 33) (.cells #[.bool false,.slice none 0 0,.int .i64 0] 33)
 go_enter func62,ntmps62
 go_wp2_with fail
 have HX:=hx.keeps hb3
 have HY:=hy.keeps hb3
 generalize ((w.alloc (.cells #[.bool an,.slice ao n ca,.int .i64 e] 33)).alloc (.cells #[.bool bn,.slice bo m cb,.int .i64 f] 33)).alloc (.cells #[.bool false,.slice none 0 0,.int .i64 0] 33)=wx at hb3 g0 g1 g2 hs3 HX HY ⊢
 have k0:=af g0 0 rfl
 have k1:=af g0 1 rfl
 have k2:=af g0 2 rfl
 have j0:=af g1 0 rfl
 have j1:=af g1 1 rfl
 have j2:=af g1 2 rfl
 have hb1:=al wx
 have C1:∀ W,Below wx.heap.size wx W->Calls prog 93 #[.slice ao n ca,.slice bo m cb] W fun r w'=>∃ so sn sc,r=.returned (.slice so sn sc)∧cN W w' (val a n*val b m) (.slice so sn sc)∧Below W.heap.size W w':=fun W h=>by
  refine(xJ ao bo n m ca cb a b W (HX.keeps h) (HY.keeps h) s1 t1 (by omega) (by omega)).mono ?_
  rintro r w' ⟨v,rfl,hA⟩
  obtain⟨so,sn,sc,rfl⟩:=hA.num.shape
  exact⟨so,sn,sc,rfl,hA,hA.below⟩
 have C2:∀ W so sn sc,cr W (.slice so sn sc) (val a n*val b m)->Calls prog 92 #[.bool (!(an == bn)),.slice so sn sc,.int .i64 (e+f)] W fun r w'=>∃ ng s1 s2 s3 e1,r=.returned (.agg #[.bool ng,.slice s1 s2 s3,.int .i64 e1])∧aW W w' V (.agg #[.bool ng,.slice s1 s2 s3,.int .i64 e1])∧Below W.heap.size W w':=fun W so sn sc hN=>by
  have hsn:sn<=10000:=hN.len hlen
  obtain⟨ao',n',ca',d,e1,hR,h2,h3⟩:=hN
  simp only[Value.slice.injEq] at e1
  obtain⟨rfl,rfl,rfl⟩:=e1
  refine(lq (an != bn) _ _ _ d (e+f) W hR h2.1 (by omega) (by omega) (by omega)).mono ?_
  rw[h3,HVV.out]
  rintro r w' ⟨v,rfl,hD⟩
  obtain⟨ng,s,m',e1,rfl,_,hA⟩:=id hD
  obtain⟨q1,q2,q3,rfl⟩:=hA.num.shape
  exact⟨ng,q1,q2,q3,e1,rfl,hD,hD.below⟩
 clear hlen
 go_region_held3 (fun W=>(W.cell? ⟨w.heap.size,0,none⟩=some (.bool an)∧W.cell? ⟨w.heap.size,1,none⟩=some (.slice ao n ca)∧W.cell? ⟨w.heap.size,2,none⟩=some (.int .i64 e))∧W.cell? ⟨w.heap.size+1,0,none⟩=some (.bool bn)∧W.cell? ⟨w.heap.size+1,1,none⟩=some (.slice bo m cb)∧W.cell? ⟨w.heap.size+1,2,none⟩=some (.int .i64 f))
  (first|assumption|exact⟨⟨k0,k1,k2⟩,j0,j1,j2⟩|exact bN (W:=wx.drew) hbv1 ⟨⟨k0,k1,k2⟩,j0,j1,j2⟩|exact bN hbv2 (bN (W:=wx.drew) hbv1 ⟨⟨k0,k1,k2⟩,j0,j1,j2⟩)|exact⟨fB (bN hbv2 (bN (W:=wx.drew) hbv1 ⟨⟨k0,k1,k2⟩,j0,j1,j2⟩)).1 (by omega) _ _ _,fB (bN hbv2 (bN (W:=wx.drew) hbv1 ⟨⟨k0,k1,k2⟩,j0,j1,j2⟩)).2 (by omega) _ _ _⟩)
  (first|(go_at_call 92;refine(C2 _ _ _ _ hv1.num).mono ?_;rintro y w4 ⟨ng4,o4,n4,c4,e4,rfl,hv2,hbv2⟩;have q0:=((ac hbv1 hbv2).block (w.heap.size+2) (by show _<wx.heap.size;omega)).trans g2;have x0:=af q0 0 rfl;have x1:=af q0 1 rfl;have x2:=af q0 2 rfl;have z0:=ar q0 0;have z1:=ar q0 1;have z2:=ar q0 2)|(go_at_call 93;refine(C1 _ hb1.drew).mono ?_;rintro y w3 ⟨so,sn,sc,rfl,hv1,hbv1⟩))
 all_goals go_wp2
 all_goals
  refine bodyPost_ret (v:=.agg #[.bool ng4,.slice o4 n4 c4,.int .i64 e4]) (by simp[results,results62,go_sem,x0,x1,x2]) rfl ⟨_,rfl,?_⟩
  exact bG (g:=w.heap.size+2) hv2 (ac hb3 (ac hb1.drew hbv1)) (by omega) (Nat.lt_of_lt_of_le (show _<wx.heap.size by omega) hbv1.size) _ _ _
theorem jZ {K:Nat} {A:Int} {ng:Bool} {m e:Int} (h:Bd K A) (hy:Dy A ng m e) (hK:K<=4194304) (h0:0<m):-(K:Int)<=e∧e<=K∧m*2^(e+K).toNat<2^(2*K):=by
 obtain⟨c,hc,c1,c2⟩:=h
 have bl:∀ (b:Bool) (C:Int),0<C->C<2^(2*K)->A=sg b C*pw (-(K:Int))->-(K:Int)<=e∧e<=K∧m*2^(e+K).toNat<2^(2*K):=fun b C hC hlt hA=>by
  obtain⟨l,hl⟩:=gV hC
  have hy2:=Dy.of b hl hC (show -4194304 <= -(K:Int) by omega)
  rw[<- hA] at hy2
  obtain⟨_,rfl,rfl⟩:=hy.unique hy2
  obtain⟨d1,d2,d3⟩:=eZ hl hC
  have hl2:l<2*K:=by
   have h3:(1:Int)*2^l<=C/2^l*2^l:=Int.mul_le_mul_of_nonneg_right (by omega) (Int.le_of_lt (aJ l))
   rw[d3] at h3
   exact eE (by omega)
  refine⟨by omega,by omega,?_⟩
  rw[show(-(K:Int)+l+K).toNat=l by omega,d3]
  exact hlt
 by_cases hz:c=0
 ·exfalso
  rw[hz,Int.zero_mul] at hc
  have:=hy.eq_zero.1 hc
  omega
 ·by_cases hp:0<c
  ·exact bl false c hp c2 (by simpa [sg] using hc)
  ·exact bl true (-c) (by omega) (by omega) (by simpa [sg] using hc)
theorem rA {K:Nat} {A:Int} {ng:Bool} {m e low:Int} (h:Bd K A) (hy:Dy A ng m e) (hK:K<=4194304) (h0:0<m) (h1:-(K:Int)<=low) (h2:low<=e):m*2^(e-low).toNat<2^(2*K):=by
 obtain⟨a,b,c⟩:=jZ h hy hK h0
 have h3:(2:Int)^(e-low).toNat<=2^(e+K).toNat:=dp (by omega)
 have h4:m*2^(e-low).toNat<=m*2^(e+K).toNat:=Int.mul_le_mul_of_nonneg_left h3 (by omega)
 omega
theorem tM {K:Nat} {A:Int} {ng:Bool} {m e:Int} (h:Bd K A) (hy:Dy A ng m e) (hK:K<=4194304) (h0:0<m):m<2^(2*K):=by
 obtain⟨a,b,c⟩:=jZ h hy hK h0
 have h3:(1:Int)<=2^(e+K).toNat:=aJ _
 have h4:m*1<=m*2^(e+K).toNat:=Int.mul_le_mul_of_nonneg_left h3 (by omega)
 omega
theorem pz {K:Nat} {d:Nat->Int} {n:Nat} (hK:K<=560000) (hN:cf d n) (h:val d n<2^(2*K)):n<=37400:=by
 by_cases h1:n<=37400
 ·exact h1
 ·exfalso
  have a:=eR hN.1 (by omega) hN.2
  have b:=iz (show 37400<=n-1 by omega)
  have c:(2:Int)^(2*K)<=2^(30*37400):=dp (by omega)
  rw[<- dG] at c
  generalize P 37400=Y at *
  omega
def jL (w w':World) (A B:Int) (x y v:Value):Prop:=Below w.heap.size w w'∧(aW w w' (A+B) v∨(A=0∧v=y)∨(B=0∧v=x))
theorem uz (x y:aI) (w:World) (hm:x.n<=9223372036854775807) (hm':y.n<=9223372036854775807) (h:x.n=0) :
  Calls prog 63 #[x.v,y.v] w fun r w'=>r=.returned y.v∧Below w.heap.size w w':=by
 obtain⟨an,ao,n,ca,a,e⟩:=x
 obtain⟨bn,bo,m,cb,b,f⟩:=y
 unfold aI.v at *
 simp only at *
 subst h
 go_enter func63,ntmps63
 go_wp2
 refine bodyPost_ret (v:=.agg #[.bool bn,.slice bo m cb,.int .i64 f]) (by simp[results,results63,go_sem]) rfl ⟨rfl,?_⟩
 exact dn _ _ _ _
theorem sP (x y:aI) (w:World) (hm:x.n<=9223372036854775807) (hm':y.n<=9223372036854775807) (h0:0<x.n) (h:y.n=0) :
  Calls prog 63 #[x.v,y.v] w fun r w'=>r=.returned x.v∧Below w.heap.size w w':=by
 obtain⟨an,ao,n,ca,a,e⟩:=x
 obtain⟨bn,bo,m,cb,b,f⟩:=y
 unfold aI.v at *
 simp only at *
 have hn0:((n:Int) == 0)=false:=by simp;omega
 subst h
 go_enter func63,ntmps63
 go_wp2
 refine bodyPost_ret (v:=.agg #[.bool an,.slice ao n ca,.int .i64 e]) (by simp[results,results63,go_sem]) rfl ⟨rfl,?_⟩
 exact dn _ _ _ _
theorem uA (x y:aI) (w:World) (hx:aS w x.ao x.n x.cap x.d) (hy:aS w y.ao y.n y.cap y.d) (n0:0<x.n) (m0:0<y.n) (low A B V:Int)
  (hlow:low=min x.e y.e) (hl0:-600000<=low) (he:x.e<=600000) (hf:y.e<=600000)
  (H1:∀ W,Below w.heap.size w W->Calls prog 94 #[.slice x.ao x.n x.cap,.int .i64 (x.e-low)] W fun r w'=>∃ so sn sc,r=.returned (.slice so sn sc)∧cr w' (.slice so sn sc) A∧Below W.heap.size W w')
  (H2:∀ W,Below w.heap.size w W->Calls prog 94 #[.slice y.ao y.n y.cap,.int .i64 (y.e-low)] W fun r w'=>∃ so sn sc,r=.returned (.slice so sn sc)∧cr w' (.slice so sn sc) B∧Below W.heap.size W w')
  (H3:∀ W p q,cr W p A->cr W q B->Calls prog 95 #[p,q] W fun r w'=>∃ so sn sc,r=.returned (.slice so sn sc)∧cr w' (.slice so sn sc) (A+B)∧Below W.heap.size W w')
  (H4:∀ W p q,cr W p A->cr W q B->Calls prog 96 #[p,q] W fun r w'=>r=.returned (.int .i64 (aT A B))∧Below W.heap.size W w')
  (H5:∀ W p q,cr W p A->cr W q B->B<=A->Calls prog 97 #[p,q] W fun r w'=>∃ so sn sc,r=.returned (.slice so sn sc)∧cr w' (.slice so sn sc) (A-B)∧Below W.heap.size W w')
  (H6:∀ W p q,cr W p A->cr W q B->A<=B->Calls prog 97 #[q,p] W fun r w'=>∃ so sn sc,r=.returned (.slice so sn sc)∧cr w' (.slice so sn sc) (B-A)∧Below W.heap.size W w')
  (H7:∀ W ng s M,cr W s M->((x.ng=y.ng∧ng=x.ng∧M=A+B)∨(x.ng≠y.ng∧B<=A∧ng=x.ng∧M=A-B)∨(x.ng≠y.ng∧A<B∧ng=y.ng∧M=B-A))->Calls prog 92 #[.bool ng,s,.int .i64 low] W fun r w'=>∃ ng s1 s2 s3 e1,r=.returned (.agg #[.bool ng,.slice s1 s2 s3,.int .i64 e1])∧aW W w' V (.agg #[.bool ng,.slice s1 s2 s3,.int .i64 e1])∧Below W.heap.size W w') :
  Calls prog 63 #[x.v,y.v] w fun r w'=>∃ v,r=.returned v∧aW w w' V v:=by
 have hmin:∀ (ts:Array TypeId) (t:TypeId) (w:World),(Builtin.min_ ts t #[.int .i64 x.e,.int .i64 y.e]).run prog w=.ok (.int .i64 low) w:=fun ts t w=>by rw[run_min_int2,hlow];congr 2;omega
 have hl1:low<=x.e:=by omega
 have hl2:low<=y.e:=by omega
 have HH7:Hid _:=H7
 have hm:=hx.max
 have hm':=hy.max
 clear hlow H7
 obtain⟨an,ao,n,ca,a,e⟩:=x
 obtain⟨bn,bo,m,cb,b,f⟩:=y
 unfold aI.v
 simp only at *
 have hn0:((n:Int) == 0)=false:=by simp;omega
 have hm0:((m:Int) == 0)=false:=by simp;omega
 have hb3:Below w.heap.size w (((w.alloc (.cells #[.bool an,.slice ao n ca,.int .i64 e] 33)).alloc (.cells #[.bool bn,.slice bo m cb,.int .i64 f] 33)).alloc (.cells #[.bool false,.slice none 0 0,.int .i64 0] 33)):=dn _ _ _ _
 have g0:=lj w (.cells #[.bool an,.slice ao n ca,.int .i64 e] 33) (.cells #[.bool bn,.slice bo m cb,.int .i64 f] 33) (.cells #[.bool false,.slice none 0 0,.int .i64 0] 33)
 have g1:=lk w (.cells #[.bool an,.slice ao n ca,.int .i64 e] 33) (.cells #[.bool bn,.slice bo m cb,.int .i64 f] 33) (.cells #[.bool false,.slice none 0 0,.int .i64 0] 33)
 have g2:=jc w (.cells #[.bool an,.slice ao n ca,.int .i64 e] 33) (.cells #[.bool bn,.slice bo m cb,.int .i64 f] 33) (.cells #[.bool false,.slice none 0 0,.int .i64 0] 33)
 go_enter func63,ntmps63
 go_wp2_with fail
 generalize ((w.alloc (.cells #[.bool an,.slice ao n ca,.int .i64 e] 33)).alloc (.cells #[.bool bn,.slice bo m cb,.int .i64 f] 33)).alloc (.cells #[.bool false,.slice none 0 0,.int .i64 0] 33)=wx at hb3 g0 g1 g2 ⊢
 refine(H1 _ hb3).mono ?_
 rintro r w1 ⟨po,pn,pc,rfl,hP,hb1⟩
 have hbx1:=ac hb3 hb1
 replace g0:=(hb1.block _ (aGe g0).1).trans g0
 replace g1:=(hb1.block _ (aGe g1).1).trans g1
 replace g2:=(hb1.block _ (aGe g2).1).trans g2
 have j1:=af g1 1 rfl
 have j2:=af g1 2 rfl
 go_wp2_with fail
 clear j1 j2
 refine(H2 _ hbx1).mono ?_
 rintro r w2 ⟨qo,qn,qc,rfl,hQ,hb2⟩
 have hbx2:=ac hbx1 hb2
 replace hP:=hP.keeps hb2
 replace g0:=(hb2.block _ (aGe g0).1).trans g0
 replace g1:=(hb2.block _ (aGe g1).1).trans g1
 replace g2:=(hb2.block _ (aGe g2).1).trans g2
 have k0:=af g0 0 rfl
 have k1:=af g0 1 rfl
 have k2:=af g0 2 rfl
 have j0:=af g1 0 rfl
 have j1:=af g1 1 rfl
 have j2:=af g1 2 rfl
 by_cases hng:an=bn
 ·subst hng
  have C1:∀ W,Below w2.heap.size w2 W->Calls prog 95 #[.slice po pn pc,.slice qo qn qc] W fun r w'=>∃ so sn sc,r=.returned (.slice so sn sc)∧cr w' (.slice so sn sc) (A+B)∧Below W.heap.size W w':=fun W h=>H3 W _ _ (hP.keeps h) (hQ.keeps h)
  have C2:∀ W so sn sc,cr W (.slice so sn sc) (A+B)->Calls prog 92 #[.bool an,.slice so sn sc,.int .i64 low] W fun r w'=>∃ ng s1 s2 s3 e1,r=.returned (.agg #[.bool ng,.slice s1 s2 s3,.int .i64 e1])∧aW W w' V (.agg #[.bool ng,.slice s1 s2 s3,.int .i64 e1])∧Below W.heap.size W w':=fun W so sn sc hN=>HH7.out W an _ _ hN (.inl ⟨rfl,rfl,rfl⟩)
  clear H1 H2 H3 H4 H5 H6 HH7
  have hs3:=(aGe g2).1
  go_wp2_with fail
  have hb1:=al w2
  go_region_held3 (fun W=>(W.cell? ⟨w.heap.size,0,none⟩=some (.bool an)∧W.cell? ⟨w.heap.size,1,none⟩=some (.slice ao n ca)∧W.cell? ⟨w.heap.size,2,none⟩=some (.int .i64 e))∧W.cell? ⟨w.heap.size+1,0,none⟩=some (.bool an)∧W.cell? ⟨w.heap.size+1,1,none⟩=some (.slice bo m cb)∧W.cell? ⟨w.heap.size+1,2,none⟩=some (.int .i64 f))
   (first|assumption|exact⟨⟨k0,k1,k2⟩,j0,j1,j2⟩|exact bN (W:=w2.drew) hbv1 ⟨⟨k0,k1,k2⟩,j0,j1,j2⟩|exact bN hbv2 (bN (W:=w2.drew) hbv1 ⟨⟨k0,k1,k2⟩,j0,j1,j2⟩)|exact⟨fB (bN hbv2 (bN (W:=w2.drew) hbv1 ⟨⟨k0,k1,k2⟩,j0,j1,j2⟩)).1 (by omega) _ _ _,fB (bN hbv2 (bN (W:=w2.drew) hbv1 ⟨⟨k0,k1,k2⟩,j0,j1,j2⟩)).2 (by omega) _ _ _⟩)
   (first|(go_at_call 92;refine(C2 _ _ _ _ hv1).mono ?_;rintro y w4 ⟨ng4,o4,n4,c4,e4,rfl,hv2,hbv2⟩;have q0:=((ac hbv1 hbv2).block (w.heap.size+2) (by show _<w2.heap.size;omega)).trans g2;have x0:=af q0 0 rfl;have x1:=af q0 1 rfl;have x2:=af q0 2 rfl;have z0:=ar q0 0;have z1:=ar q0 1;have z2:=ar q0 2)|(go_at_call 95;refine(C1 _ hb1.drew).mono ?_;rintro y w3 ⟨so,sn,sc,rfl,hv1,hbv1⟩))
  all_goals go_wp2
  all_goals
   refine bodyPost_ret (v:=.agg #[.bool ng4,.slice o4 n4 c4,.int .i64 e4]) (by simp[results,results63,go_sem,x0,x1,x2]) rfl ⟨_,rfl,?_⟩
   exact bG (g:=w.heap.size+2) hv2 (ac hbx2 (ac hb1.drew hbv1)) (by omega) (Nat.lt_of_lt_of_le (show _<w2.heap.size by omega) hbv1.size) _ _ _
 ·have hng':(an == bn)=false:=by simp[hng]
  go_wp2_with fail
  refine(H4 _ _ _ hP hQ).mono ?_
  rintro r w3 ⟨rfl,hb3'⟩
  have hbx3:=ac hbx2 hb3'
  replace hP:=hP.keeps hb3'
  replace hQ:=hQ.keeps hb3'
  replace g0:=(hb3'.block _ (aGe g0).1).trans g0
  replace g1:=(hb3'.block _ (aGe g1).1).trans g1
  replace g2:=(hb3'.block _ (aGe g2).1).trans g2
  replace k0:=af g0 0 rfl
  replace k1:=af g0 1 rfl
  replace k2:=af g0 2 rfl
  replace j0:=af g1 0 rfl
  replace j1:=af g1 1 rfl
  replace j2:=af g1 2 rfl
  have hs3:=(aGe g2).1
  by_cases hAB:B<=A
  ·have ho:(0:Int)<=aT A B:=by
    rcases Int.lt_trichotomy A B with h|h|h
    ·omega
    ·rw[fm h];decide
    ·rw[dM h];decide
   have C1:∀ W,Below w3.heap.size w3 W->Calls prog 97 #[.slice po pn pc,.slice qo qn qc] W fun r w'=>∃ so sn sc,r=.returned (.slice so sn sc)∧cr w' (.slice so sn sc) (A-B)∧Below W.heap.size W w':=fun W h=>H5 W _ _ (hP.keeps h) (hQ.keeps h) hAB
   have C2:∀ W so sn sc,cr W (.slice so sn sc) (A-B)->Calls prog 92 #[.bool an,.slice so sn sc,.int .i64 low] W fun r w'=>∃ ng s1 s2 s3 e1,r=.returned (.agg #[.bool ng,.slice s1 s2 s3,.int .i64 e1])∧aW W w' V (.agg #[.bool ng,.slice s1 s2 s3,.int .i64 e1])∧Below W.heap.size W w':=fun W so sn sc hN=>HH7.out W an _ _ hN (.inr (.inl ⟨hng,hAB,rfl,rfl⟩))
   generalize aT A B=oAB at ho ⊢
   clear H1 H2 H3 H4 H5 H6 HH7 hAB
   go_wp2_with fail
   have hb1:=al w3
   go_region_held3 (fun W=>(W.cell? ⟨w.heap.size,0,none⟩=some (.bool an)∧W.cell? ⟨w.heap.size,1,none⟩=some (.slice ao n ca)∧W.cell? ⟨w.heap.size,2,none⟩=some (.int .i64 e))∧W.cell? ⟨w.heap.size+1,0,none⟩=some (.bool bn)∧W.cell? ⟨w.heap.size+1,1,none⟩=some (.slice bo m cb)∧W.cell? ⟨w.heap.size+1,2,none⟩=some (.int .i64 f))
    (first|assumption|exact⟨⟨k0,k1,k2⟩,j0,j1,j2⟩|exact bN (W:=w3.drew) hbv1 ⟨⟨k0,k1,k2⟩,j0,j1,j2⟩|exact bN hbv2 (bN (W:=w3.drew) hbv1 ⟨⟨k0,k1,k2⟩,j0,j1,j2⟩)|exact⟨fB (bN hbv2 (bN (W:=w3.drew) hbv1 ⟨⟨k0,k1,k2⟩,j0,j1,j2⟩)).1 (by omega) _ _ _,fB (bN hbv2 (bN (W:=w3.drew) hbv1 ⟨⟨k0,k1,k2⟩,j0,j1,j2⟩)).2 (by omega) _ _ _⟩)
    (first|(go_at_call 92;refine(C2 _ _ _ _ hv1).mono ?_;rintro y w4 ⟨ng4,o4,n4,c4,e4,rfl,hv2,hbv2⟩;have q0:=((ac hbv1 hbv2).block (w.heap.size+2) (by show _<w3.heap.size;omega)).trans g2;have x0:=af q0 0 rfl;have x1:=af q0 1 rfl;have x2:=af q0 2 rfl;have z0:=ar q0 0;have z1:=ar q0 1;have z2:=ar q0 2)|(go_at_call 97;refine(C1 _ hb1.drew).mono ?_;rintro y w3' ⟨so,sn,sc,rfl,hv1,hbv1⟩))
   all_goals go_wp2
   all_goals
    refine bodyPost_ret (v:=.agg #[.bool ng4,.slice o4 n4 c4,.int .i64 e4]) (by simp[results,results63,go_sem,x0,x1,x2]) rfl ⟨_,rfl,?_⟩
    exact bG (g:=w.heap.size+2) hv2 (ac hbx3 (ac hb1.drew hbv1)) (by omega) (Nat.lt_of_lt_of_le (show _<w3.heap.size by omega) hbv1.size) _ _ _
  ·have ho:aT A B<(0:Int):=by rw[dL (by omega)];decide
   have C1:∀ W,Below w3.heap.size w3 W->Calls prog 97 #[.slice qo qn qc,.slice po pn pc] W fun r w'=>∃ so sn sc,r=.returned (.slice so sn sc)∧cr w' (.slice so sn sc) (B-A)∧Below W.heap.size W w':=fun W h=>H6 W _ _ (hP.keeps h) (hQ.keeps h) (by omega)
   have C2:∀ W so sn sc,cr W (.slice so sn sc) (B-A)->Calls prog 92 #[.bool bn,.slice so sn sc,.int .i64 low] W fun r w'=>∃ ng s1 s2 s3 e1,r=.returned (.agg #[.bool ng,.slice s1 s2 s3,.int .i64 e1])∧aW W w' V (.agg #[.bool ng,.slice s1 s2 s3,.int .i64 e1])∧Below W.heap.size W w':=fun W so sn sc hN=>HH7.out W bn _ _ hN (.inr (.inr ⟨hng,by omega,rfl,rfl⟩))
   generalize aT A B=oAB at ho ⊢
   clear H1 H2 H3 H4 H5 H6 HH7 hAB
   go_wp2_with fail
   have hb1:=al w3
   go_region_held3 (fun W=>(W.cell? ⟨w.heap.size,0,none⟩=some (.bool an)∧W.cell? ⟨w.heap.size,1,none⟩=some (.slice ao n ca)∧W.cell? ⟨w.heap.size,2,none⟩=some (.int .i64 e))∧W.cell? ⟨w.heap.size+1,0,none⟩=some (.bool bn)∧W.cell? ⟨w.heap.size+1,1,none⟩=some (.slice bo m cb)∧W.cell? ⟨w.heap.size+1,2,none⟩=some (.int .i64 f))
    (first|assumption|exact⟨⟨k0,k1,k2⟩,j0,j1,j2⟩|exact bN (W:=w3.drew) hbv1 ⟨⟨k0,k1,k2⟩,j0,j1,j2⟩|exact bN hbv2 (bN (W:=w3.drew) hbv1 ⟨⟨k0,k1,k2⟩,j0,j1,j2⟩)|exact⟨fB (bN hbv2 (bN (W:=w3.drew) hbv1 ⟨⟨k0,k1,k2⟩,j0,j1,j2⟩)).1 (by omega) _ _ _,fB (bN hbv2 (bN (W:=w3.drew) hbv1 ⟨⟨k0,k1,k2⟩,j0,j1,j2⟩)).2 (by omega) _ _ _⟩)
    (first|(go_at_call 92;refine(C2 _ _ _ _ hv1).mono ?_;rintro y w4 ⟨ng4,o4,n4,c4,e4,rfl,hv2,hbv2⟩;have q0:=((ac hbv1 hbv2).block (w.heap.size+2) (by show _<w3.heap.size;omega)).trans g2;have x0:=af q0 0 rfl;have x1:=af q0 1 rfl;have x2:=af q0 2 rfl;have z0:=ar q0 0;have z1:=ar q0 1;have z2:=ar q0 2)|(go_at_call 97;refine(C1 _ hb1.drew).mono ?_;rintro y w3' ⟨so,sn,sc,rfl,hv1,hbv1⟩))
   all_goals go_wp2
   all_goals
    refine bodyPost_ret (v:=.agg #[.bool ng4,.slice o4 n4 c4,.int .i64 e4]) (by simp[results,results63,go_sem,x0,x1,x2]) rfl ⟨_,rfl,?_⟩
    exact bG (g:=w.heap.size+2) hv2 (ac hbx3 (ac hb1.drew hbv1)) (by omega) (Nat.lt_of_lt_of_le (show _<w3.heap.size by omega) hbv1.size) _ _ _
theorem BC {an bn:Bool} {A B low:Int} {ng:Bool} {M:Int} (h:(an=bn∧ng=an∧M=A+B)∨(an≠bn∧B<=A∧ng=an∧M=A-B)∨(an≠bn∧A<B∧ng=bn∧M=B-A)) :
  sg ng M*pw low=sg an A*pw low+sg bn B*pw low:=by
 rw[<- Int.add_mul]
 congr 1
 rcases h with⟨rfl,rfl,rfl⟩|⟨h1,h2,rfl,rfl⟩|⟨h1,h2,rfl,rfl⟩
 ·cases ng<;>simp[sg]<;>omega
 ·cases ng<;>cases bn<;>simp[sg] at *<;>omega
 ·cases an<;>cases ng<;>simp[sg] at *<;>omega
theorem cr.digits {w:World} {so:Option Addr} {sn sc:Nat} {M:Int} (h:cr w (.slice so sn sc) M) {K:Nat} (hK:K<=560000) (hM:M<2^(2*K)+2^(2*K)):∃ d,aS w so sn sc d∧cf d sn∧val d sn=M∧sn<=37500:=by
 obtain⟨ao,n,ca,d,e,hR,hN,hv⟩:=h
 simp only[Value.slice.injEq] at e
 obtain⟨rfl,rfl,rfl⟩:=e
 refine⟨d,hR,hN,hv,?_⟩
 by_cases h1:sn<=37500
 ·exact h1
 ·exfalso
  have a:=eR hN.1 (by omega) hN.2
  have b:=iz (show 37500<=sn-1 by omega)
  have c:(2:Int)^(2*K)<=2^(30*37400):=dp (by omega)
  have c2:(2:Int)^(30*37400)*2<=2^(30*37500):=by
   rw[<- Int.pow_succ]
   exact dp (by omega)
  rw[<- dG 37500] at c2
  generalize P 37500=Y at *
  generalize (2:Int)^(30*37400)=Z at *
  omega
theorem pA (x y:aI) (w:World) (hx:aS w x.ao x.n x.cap x.d) (hy:aS w y.ao y.n y.cap y.d) (dx:Dy x.V x.ng (val x.d x.n) x.e) (nx:cf x.d x.n) (dy:Dy y.V y.ng (val y.d y.n) y.e) (ny:cf y.d y.n) {K:Nat} (hK:K<=560000) (bx:Bd K x.V) (bY:Bd K y.V) :
  Calls prog 63 #[x.v,y.v] w fun r w'=>∃ v,r=.returned v∧jL w w' x.V y.V x.v y.v v:=by
 by_cases h0:x.n=0
 ·refine(uz x y w (Nat.le_trans hx.le hx.max) (Nat.le_trans hy.le hy.max) h0).mono ?_
  rintro r w' ⟨rfl,hb⟩
  exact⟨_,rfl,hb,.inr (.inl ⟨dx.eq_zero.2 (by rw[h0];rfl),rfl⟩)⟩
 ·by_cases h1:y.n=0
  ·refine(sP x y w (Nat.le_trans hx.le hx.max) (Nat.le_trans hy.le hy.max) (by omega) h1).mono ?_
   rintro r w' ⟨rfl,hb⟩
   exact⟨_,rfl,hb,.inr (.inr ⟨dy.eq_zero.2 (by rw[h1];rfl),rfl⟩)⟩
  ·have px:=ft nx (show 0<x.n by omega)
   have py:=ft ny (show 0<y.n by omega)
   obtain⟨a1,a2,_⟩:=jZ bx dx (by omega) px
   obtain⟨b1,b2,_⟩:=jZ bY dy (by omega) py
   obtain⟨low,hlow⟩:∃ low:Int,low=min x.e y.e:=⟨_,rfl⟩
   have hl0:-(K:Int)<=low:=by omega
   have s1:=rA bx dx (by omega) px hl0 (by omega)
   have s2:=rA bY dy (by omega) py hl0 (by omega)
   have v1:=dx.at (low:=low) (by omega) (by omega)
   have v2:=dy.at (low:=low) (by omega) (by omega)
   have dgx:=pz hK nx (tM bx dx (by omega) px)
   have dgy:=pz hK ny (tM bY dy (by omega) py)
   have q1:0<=val x.d x.n*2^(x.e-low).toNat:=Int.mul_nonneg (by omega) (Int.le_of_lt (aJ _))
   have q2:0<=val y.d y.n*2^(y.e-low).toNat:=Int.mul_nonneg (by omega) (Int.le_of_lt (aJ _))
   have e1:x.e-low=((x.e-low).toNat:Int):=by omega
   have e2:y.e-low=((y.e-low).toNat:Int):=by omega
   have H1:∀ W,Below w.heap.size w W->Calls prog 94 #[.slice x.ao x.n x.cap,.int .i64 (x.e-low)] W fun r w'=>∃ so sn sc,r=.returned (.slice so sn sc)∧cr w' (.slice so sn sc) (val x.d x.n*2^(x.e-low).toNat)∧Below W.heap.size W w':=fun W hb=>by
    rw[e1]
    refine(mE x.ao x.n x.cap _ x.d W (hx.keeps hb) nx.1 (by omega) (by omega)).mono ?_
    rintro r w' ⟨v,rfl,hA⟩
    obtain⟨so,sn,sc,rfl⟩:=hA.num.shape
    exact⟨so,sn,sc,rfl,by rw[<- e1];exact hA.num,hA.below⟩
   have H2:∀ W,Below w.heap.size w W->Calls prog 94 #[.slice y.ao y.n y.cap,.int .i64 (y.e-low)] W fun r w'=>∃ so sn sc,r=.returned (.slice so sn sc)∧cr w' (.slice so sn sc) (val y.d y.n*2^(y.e-low).toNat)∧Below W.heap.size W w':=fun W hb=>by
    rw[e2]
    refine(mE y.ao y.n y.cap _ y.d W (hy.keeps hb) ny.1 (by omega) (by omega)).mono ?_
    rintro r w' ⟨v,rfl,hA⟩
    obtain⟨so,sn,sc,rfl⟩:=hA.num.shape
    exact⟨so,sn,sc,rfl,by rw[<- e2];exact hA.num,hA.below⟩
   generalize val x.d x.n*2^(x.e-low).toNat=A at *
   generalize val y.d y.n*2^(y.e-low).toNat=B at *
   have dg:=fun W so sn sc M (h:cr W (.slice so sn sc) M) hM=>h.digits hK hM
   have bl:∀ W p M,cr W p M->M<2^(2*K)+2^(2*K)->∃ so sn sc d,p=.slice so sn sc∧aS W so sn sc d∧cf d sn∧val d sn=M∧sn<=37500:=fun W p M h hM=>by
    obtain⟨so,sn,sc,rfl⟩:=h.shape
    obtain⟨d,h1,h2,h3,h4⟩:=h.digits hK hM
    exact⟨so,sn,sc,d,rfl,h1,h2,h3,h4⟩
   refine(uA x y w hx hy (by omega) (by omega) low A B (x.V+y.V) hlow (by omega) (by omega) (by omega) H1 H2 ?_ ?_ ?_ ?_ ?_).mono ?_
   ·intro W p q hp hq
    obtain⟨po,pn,pc,d,rfl,r1,r2,r3,r4⟩:=bl W p A hp (by omega)
    obtain⟨qo,qn,qc,d',rfl,u1,u2,u3,u4⟩:=bl W q B hq (by omega)
    refine(xH _ _ _ _ _ _ d d' W r1 u1 r2 u2 (by omega) (by omega)).mono ?_
    rw[r3,u3]
    rintro r w' ⟨v,rfl,hA⟩
    obtain⟨so,sn,sc,rfl⟩:=hA.num.shape
    exact⟨so,sn,sc,rfl,hA.num,hA.below⟩
   ·intro W p q hp hq
    obtain⟨po,pn,pc,d,rfl,r1,r2,r3,r4⟩:=bl W p A hp (by omega)
    obtain⟨qo,qn,qc,d',rfl,u1,u2,u3,u4⟩:=bl W q B hq (by omega)
    have:=xI po qo pn qn pc qc d d' W r1 u1 r2 u2
    rwa [r3,u3] at this
   ·intro W p q hp hq hle
    obtain⟨po,pn,pc,d,rfl,r1,r2,r3,r4⟩:=bl W p A hp (by omega)
    obtain⟨qo,qn,qc,d',rfl,u1,u2,u3,u4⟩:=bl W q B hq (by omega)
    refine(qG _ _ _ _ _ _ d d' W r1 u1 r2 u2 (by omega) (by rw[r3,u3];exact hle)).mono ?_
    rw[r3,u3]
    rintro r w' ⟨v,rfl,hA⟩
    obtain⟨so,sn,sc,rfl⟩:=hA.num.shape
    exact⟨so,sn,sc,rfl,hA.num,hA.below⟩
   ·intro W p q hp hq hle
    obtain⟨po,pn,pc,d,rfl,r1,r2,r3,r4⟩:=bl W p A hp (by omega)
    obtain⟨qo,qn,qc,d',rfl,u1,u2,u3,u4⟩:=bl W q B hq (by omega)
    refine(qG _ _ _ _ _ _ d' d W u1 r1 u2 r2 (by omega) (by rw[r3,u3];exact hle)).mono ?_
    rw[r3,u3]
    rintro r w' ⟨v,rfl,hA⟩
    obtain⟨so,sn,sc,rfl⟩:=hA.num.shape
    exact⟨so,sn,sc,rfl,hA.num,hA.below⟩
   ·intro W ng s M hs hc
    have hM:M<2^(2*K)+2^(2*K):=by rcases hc with⟨_,_,h⟩|⟨_,_,_,h⟩|⟨_,_,_,h⟩<;>omega
    obtain⟨po,pn,pc,d,rfl,r1,r2,r3,r4⟩:=bl W s M hs hM
    have hV:=BC (low:=low) hc
    rw[<- v1,<- v2] at hV
    refine(lq ng po pn pc d low W r1 r2.1 (by omega) (by omega) (by omega)).mono ?_
    rw[r3,hV]
    rintro r w' ⟨v,rfl,hD⟩
    obtain⟨ng',s,m',e1,rfl,_,hA⟩:=id hD
    obtain⟨q1,q2,q3,rfl⟩:=hA.num.shape
    exact⟨ng',q1,q2,q3,e1,rfl,hD,hD.below⟩
   ·rintro r w' ⟨v,rfl,hD⟩
    exact⟨v,rfl,hD.below,.inl hD⟩
theorem wN {w:World} {x y:Value} {A B:Int} (hx:aM w x A) (hy:aM w y B) {K:Nat} (hK:K<=560000) (bx:Bd K A) (bY:Bd K B) :
  Calls prog 63 #[x,y] w fun r w'=>∃ v,r=.returned v∧jL w w' A B x y v:=by
 obtain⟨ng,s,m,e,rfl,dx,ao,n,cap,d,rfl,hR,hN,rfl⟩:=hx
 obtain⟨ng',s',m',e',rfl,dy,ao',n',cap',d',rfl,hR',hN',rfl⟩:=hy
 obtain rfl:A=(⟨ng,ao,n,cap,d,e⟩:aI).V:=dx.val
 obtain rfl:B=(⟨ng',ao',n',cap',d',e'⟩:aI).V:=dy.val
 exact pA ⟨ng,ao,n,cap,d,e⟩ ⟨ng',ao',n',cap',d',e'⟩ w hR hR' dx hN dy hN' hK bx bY
def uB (V:Nat->Int):Nat->Int|0=>0|m+1=>uB V m+V m
theorem tN (K:Nat):Bd K 0:=⟨0,by rw[Int.zero_mul],by have:=aJ (2*K);omega,by have:=aJ (2*K);omega⟩
theorem wO {a b:Nat->aI} {V W:Nat->Int}:∀ m,(∀ i,i<m->(a i).V=V i∧fj (a i))->(∀ i,i<m->(b i).V=W i∧fj (b i))->gM a b m*2^4194304=uB (fun i=>V i*W i) m
 | 0,_,_=>by show 0*_=(0:Int);rw[Int.zero_mul]
 | m+1,h,k=>by
  have h1:=h m (by omega)
  have k1:=k m (by omega)
  unfold fj at h1 k1
  show(gM a b m+lp (a m) (b m))*2^4194304=uB (fun i=>V i*W i) m+V m*W m
  rw[Int.add_mul,wO m (fun i hi=>h i (by omega)) (fun i hi=>k i (by omega)),lS (by omega) (by omega),h1.1,k1.1]
theorem tO {a b:Nat->aI} {V W:Nat->Int} {K:Nat} (hK:K<=10000):∀ m,m<=1000->(∀ i,i<m->(a i).V=V i∧fj (a i)∧Bd K (V i))->(∀ i,i<m->(b i).V=W i∧fj (b i)∧Bd K (W i))->Bd (2*K+m) (gM a b m)
 | 0,_,_,_=>tN _
 | m+1,hm,h,k=>by
  obtain⟨h1,h2,h3⟩:=h m (by omega)
  obtain⟨k1,k2,k3⟩:=k m (by omega)
  unfold fj at h2 k2
  have e:=lS (x:=a m) (y:=b m) (by omega) (by omega)
  rw[h1,k1] at e
  exact(tO hK m (by omega) (fun i hi=>h i (by omega)) (fun i hi=>k i (by omega))).add ((h3.mul k3 e (by omega)).up (by omega) (by omega)) (by omega)
theorem lF {w w':World} {V:Int} {v:Value} (h:aW w w' V v) (o:Obj):aW w (w'.alloc o) V v:=h.stays (ah _ _)
theorem uC {p q:Int} (pp:aF p=true) (pq:aF q=true) (w:World) (H:bR w) :
  Calls prog 46 #[.int .i64 p,.int .i64 q] w fun r w'=>∃ v,r=.returned v∧aW w w' (am p-am q) v:=by
 have r_k:=aA w (.cells #[.bool false,.slice none 0 0,.int .i64 0] 33)
 have hb0:=ah w (.cells #[.bool false,.slice none 0 0,.int .i64 0] 33)
 have B1:=jS pp
 have B2:=jS pq
 go_enter func46,ntmps46
 go_wp2_with fail
 generalize w.alloc (.cells #[.bool false,.slice none 0 0,.int .i64 0] 33)=x0 at r_k hb0 ⊢
 have H:=H.keeps hb0
 refine(zg pp H).mono ?_
 rintro _ y1 ⟨v,rfl,h1⟩
 obtain⟨x_g,x_o,x_n,x_c,x_e,rfl⟩:=aN h1
 have hw1:=h1.below
 have x_D:=h1.num
 have H:=H.keeps hw1
 have r_k:=(hw1.block _ (aGe r_k).1).trans r_k
 have hb1:=ac hb0 hw1
 have r_k:=ap (.cells #[.bool x_g,.slice x_o x_n x_c,.int .i64 x_e] 33) r_k
 have x_k:=aA y1 (.cells #[.bool x_g,.slice x_o x_n x_c,.int .i64 x_e] 33)
 have x_D:=x_D.keeps (ah y1 (.cells #[.bool x_g,.slice x_o x_n x_c,.int .i64 x_e] 33))
 have H:=H.keeps (ah y1 (.cells #[.bool x_g,.slice x_o x_n x_c,.int .i64 x_e] 33))
 have hb2':=ac hb1 (ah y1 (.cells #[.bool x_g,.slice x_o x_n x_c,.int .i64 x_e] 33))
 go_wp2_with fail
 generalize y1.alloc (.cells #[.bool x_g,.slice x_o x_n x_c,.int .i64 x_e] 33)=x2 at r_k x_k x_D H hb2' ⊢
 refine(zg pq H).mono ?_
 rintro _ y2 ⟨v,rfl,h2⟩
 obtain⟨y_g,y_o,y_n,y_c,y_e,rfl⟩:=aN h2
 have hw2:=h2.below
 have y_D:=h2.num
 have H:=H.keeps hw2
 have r_k:=(hw2.block _ (aGe r_k).1).trans r_k
 have x_k:=(hw2.block _ (aGe x_k).1).trans x_k
 have x_D:=x_D.keeps hw2
 have hb2:=ac hb2' hw2
 have r_k:=ap (.cells #[.bool y_g,.slice y_o y_n y_c,.int .i64 y_e] 33) r_k
 have x_k:=ap (.cells #[.bool y_g,.slice y_o y_n y_c,.int .i64 y_e] 33) x_k
 have y_k:=aA y2 (.cells #[.bool y_g,.slice y_o y_n y_c,.int .i64 y_e] 33)
 have x_D:=x_D.keeps (ah y2 (.cells #[.bool y_g,.slice y_o y_n y_c,.int .i64 y_e] 33))
 have y_D:=y_D.keeps (ah y2 (.cells #[.bool y_g,.slice y_o y_n y_c,.int .i64 y_e] 33))
 have H:=H.keeps (ah y2 (.cells #[.bool y_g,.slice y_o y_n y_c,.int .i64 y_e] 33))
 have hb3':=ac hb2 (ah y2 (.cells #[.bool y_g,.slice y_o y_n y_c,.int .i64 y_e] 33))
 have f_x0:=af x_k 0 rfl
 have f_x1:=af x_k 1 rfl
 have f_x2:=af x_k 2 rfl
 go_wp2_with fail
 clear f_x0 f_x1 f_x2
 generalize y2.alloc (.cells #[.bool y_g,.slice y_o y_n y_c,.int .i64 y_e] 33)=x3 at r_k x_k y_k x_D y_D H hb3' ⊢
 have hs0:=(aGe r_k).1
 refine(Cj x_D y_D B1 B2 (by omega) H.tab).mono ?_
 rintro _ y3 ⟨v,rfl,h3⟩
 obtain⟨n_g,n_o,n_n,n_c,n_e,rfl⟩:=aN h3
 have hw3:=h3.below
 have n_D:=h3.num
 have H:=H.keeps hw3
 have r_k:=(hw3.block _ (aGe r_k).1).trans r_k
 have x_k:=(hw3.block _ (aGe x_k).1).trans x_k
 have x_D:=x_D.keeps hw3
 have y_k:=(hw3.block _ (aGe y_k).1).trans y_k
 have y_D:=y_D.keeps hw3
 have hb3:=ac hb3' hw3
 have r_k:=ap (.cells #[.bool n_g,.slice n_o n_n n_c,.int .i64 n_e] 33) r_k
 have k0:=af r_k 0 rfl
 have k1:=af r_k 1 rfl
 have k2:=af r_k 2 rfl
 have z0:=ar r_k 0
 have z1:=ar r_k 1
 have z2:=ar r_k 2
 go_wp2
 refine bodyPost_ret (v:=.agg #[.bool n_g,.slice n_o n_n n_c,.int .i64 n_e]) (by simp[results,results46,go_sem,k0,k1,k2]) rfl ⟨_,rfl,?_⟩
 exact bG (g:=w.heap.size) (lF h3 _) (by assumption) (Nat.le_refl _) hs0 _ _ _
structure jM (w:World) (b o:Nat) (V:Int):Prop where
 x:∃ ng so sn sc e,w.cell? ⟨b,o,none⟩=some (.bool ng)∧w.cell? ⟨b,o+1,none⟩=some (.slice so sn sc)∧w.cell? ⟨b,o+2,none⟩=some (.int .i64 e)∧aM w (.agg #[.bool ng,.slice so sn sc,.int .i64 e]) V
theorem zm {w:World} {b off n c K:Nat} {V:Nat->Int} (h:∀ i,i<n->jM w b (off+i*3) (V i)∧Bd K (V i)) (hK:K<=20000) (hn:n<=c) (hc:c<=9223372036854775807) :
  ∃ r,fG w (some ⟨b,off,none⟩) n c r∧kt r n=true∧∀ i,i<n->(r i).V=V i∧fj (r i):=by
 have hx:∀ i,i<n->∃ y:aI,qA w b (off+i*3) y∧dI y=true∧y.V=V i∧fj y:=fun i hi=>by
  obtain⟨⟨ng,so,sn,sc,e,c0,c1,c2,hD⟩,hB⟩:=h i hi
  obtain⟨d,hR,ok,hV⟩:=hD.open2 (hB.ok (by omega))
  refine⟨⟨ng,so,sn,sc,d,e⟩,⟨c0,c1,c2,hR⟩,ok,hV,?_⟩
  have hy:=(jd ok).1
  unfold fj
  rcases hy.form with⟨_,_,h0⟩|⟨h0,_⟩
  ·simp only at h0 ⊢;omega
  ·rw[hV] at hy
   have:=jZ hB hy (by omega) h0
   simp only at this ⊢
   omega
 have hr:∀ i,i<n->qA w b (off+i*3) (if hi:i<n then Classical.choose (hx i hi) else default)∧dI (if hi:i<n then Classical.choose (hx i hi) else default)=true∧(if hi:i<n then Classical.choose (hx i hi) else default:aI).V=V i∧fj (if hi:i<n then Classical.choose (hx i hi) else default):=fun i hi=>by
  rw[dif_pos hi]
  exact Classical.choose_spec (hx i hi)
 generalize hrr:(fun i=>(if hi:i<n then Classical.choose (hx i hi) else default:aI))=r
 have hr2:∀ i,i<n->qA w b (off+i*3) (r i)∧dI (r i)=true∧(r i).V=V i∧fj (r i):=fun i hi=>by rw[<- hrr];exact hr i hi
 refine⟨r,⟨hn,hc,fun h0=>⟨b,off,rfl,?_,fun i hi=>(hr2 i hi).1⟩⟩,decide_eq_true fun i hi=>(hr2 i hi).2.1,fun i hi=>(hr2 i hi).2.2⟩
 exact World.block_lt_of_cell? w _ (hr2 0 h0).1.c0
theorem gk {w:World} {b off b' off' n c c' K:Nat} {V W:Nat->Int} (h:∀ i,i<n->jM w b (off+i*3) (V i)∧Bd K (V i)) (h':∀ i,i<n->jM w b' (off'+i*3) (W i)∧Bd K (W i)) (hK:K<=9000) (n10:n<=10) (hn:n<=c) (hc:c<=100) (hn':n<=c') (hc':c'<=100) (hT:dZ w) :
  Calls prog 89 #[.slice (some ⟨b,off,none⟩) n c,.slice (some ⟨b',off',none⟩) n c'] w fun r w'=>∃ v D,r=.returned v∧aW w w' D v∧D*2^4194304=uB (fun i=>V i*W i) n∧Bd (2*K+n) D:=by
 obtain⟨r,hN,hA,hr⟩:=zm h (by omega) hn (by omega)
 obtain⟨q,hN',hA',hq⟩:=zm h' (by omega) hn' (by omega)
 have hb:=tO (by omega) n (by omega) (fun i hi=>⟨(hr i hi).1,(hr i hi).2,(h i hi).2⟩) (fun i hi=>⟨(hq i hi).1,(hq i hi).2,(h' i hi).2⟩)
 have CD:Hid (∀ W',Below w.heap.size w W'->Calls prog 113 #[.slice (some ⟨b,off,none⟩) n c,.slice (some ⟨b',off',none⟩) n c'] W' fun x w'=>∃ v,x=.returned (.tuple #[v,.int .i64 0])∧aW W' w' (gM r q n) v):=fun W' hW=>by
  refine(Az _ _ n c c' r q W' (hN.keeps hW) (hN'.keeps hW) hA hA' (fun i hi=>(hr i hi).2) (fun i hi=>(hq i hi).2) (by omega) (hT.keeps hW)).mono ?_
  rintro z w' ⟨v,er,rfl,hF⟩
  obtain⟨rfl,hD⟩:=hF.yes (hb.ok (by omega))
  exact⟨v,rfl,hD⟩
 have hE:=wO n (fun i hi=>⟨(hr i hi).1,(hr i hi).2⟩) (fun i hi=>⟨(hq i hi).1,(hq i hi).2⟩)
 generalize gM r q n=D at *
 clear hN hN' hA hA' hr hq h h'
 have r_k:=aA w (.cells #[.bool false,.slice none 0 0,.int .i64 0] 33)
 have hb0:=ah w (.cells #[.bool false,.slice none 0 0,.int .i64 0] 33)
 go_enter func89,ntmps89
 go_wp2_with fail
 generalize w.alloc (.cells #[.bool false,.slice none 0 0,.int .i64 0] 33)=x0 at r_k hb0 ⊢
 have hs0:=(aGe r_k).1
 refine(CD.out _ hb0).mono ?_
 rintro _ y1 ⟨v,rfl,h1⟩
 obtain⟨n_g,n_o,n_n,n_c,n_e,rfl⟩:=aN h1
 have r_k:=ak h1.below r_k
 have r_k:=ap (.cells #[.bool n_g,.slice n_o n_n n_c,.int .i64 n_e] 33) r_k
 have k0:=af r_k 0 rfl
 have k1:=af r_k 1 rfl
 have k2:=af r_k 2 rfl
 have z0:=ar r_k 0
 have z1:=ar r_k 1
 have z2:=ar r_k 2
 go_wp2
 refine bodyPost_ret (v:=.agg #[.bool n_g,.slice n_o n_n n_c,.int .i64 n_e]) (by simp[results,results89,go_sem,k0,k1,k2]) rfl ⟨_,D,rfl,?_,hE,hb⟩
 exact bG (g:=w.heap.size) (lF h1 _) hb0 (Nat.le_refl _) hs0 _ _ _
theorem pB {w:World} {x_g:Bool} {x_o:Option Addr} {x_n x_c:Nat} {x_e A:Int} (hx:aM w (.agg #[.bool x_g,.slice x_o x_n x_c,.int .i64 x_e]) A) (oA:cY A) :
  Calls prog 90 #[.agg #[.bool x_g,.slice x_o x_n x_c,.int .i64 x_e]] w fun r w'=>∃ v,r=.returned v∧aW w w' (-A) v:=by
 have CD:Hid (∀ W',Below w.heap.size w W'->Calls prog 114 #[.agg #[.bool x_g,.slice x_o x_n x_c,.int .i64 x_e]] W' fun x w'=>∃ v,x=.returned (.tuple #[v,.int .i64 0])∧aW W' w' (-A) v):=fun W' hW=>Ci (hx.keeps hW) oA
 clear hx
 have r_k:=bH w (.cells #[.bool x_g,.slice x_o x_n x_c,.int .i64 x_e] 33) (.cells #[.bool false,.slice none 0 0,.int .i64 0] 33)
 have hb0:=aL w (.cells #[.bool x_g,.slice x_o x_n x_c,.int .i64 x_e] 33) (.cells #[.bool false,.slice none 0 0,.int .i64 0] 33)
 go_enter func90,ntmps90
 go_wp2_with fail
 generalize (w.alloc (.cells #[.bool x_g,.slice x_o x_n x_c,.int .i64 x_e] 33)).alloc (.cells #[.bool false,.slice none 0 0,.int .i64 0] 33)=x0 at r_k hb0 ⊢
 have hs0:=(aGe r_k).1
 refine(CD.out _ hb0).mono ?_
 rintro _ y1 ⟨v,rfl,h1⟩
 obtain⟨n_g,n_o,n_n,n_c,n_e,rfl⟩:=aN h1
 have r_k:=ak h1.below r_k
 have r_k:=ap (.cells #[.bool n_g,.slice n_o n_n n_c,.int .i64 n_e] 33) r_k
 have k0:=af r_k 0 rfl
 have k1:=af r_k 1 rfl
 have k2:=af r_k 2 rfl
 have z0:=ar r_k 0
 have z1:=ar r_k 1
 have z2:=ar r_k 2
 go_wp2
 refine bodyPost_ret (v:=.agg #[.bool n_g,.slice n_o n_n n_c,.int .i64 n_e]) (by simp[results,results90,go_sem,k0,k1,k2]) rfl ⟨_,rfl,?_⟩
 exact bG (g:=w.heap.size+1) (lF h1 _) hb0 (by omega) hs0 _ _ _
theorem eu {w:World} {g o:Nat} {xs:Array Value} {t:TypeId} {x_g:Bool} {x_o:Option Addr} {x_n x_c:Nat} {x_e V:Int} (h:w.heap[g]?=some (.cells xs t (0,0))) (a:xs[o]?=some (.bool x_g)) (b:xs[o+1]?=some (.slice x_o x_n x_c)) (c:xs[o+2]?=some (.int .i64 x_e)) (hD:aM w (.agg #[.bool x_g,.slice x_o x_n x_c,.int .i64 x_e]) V):jM w g o V :=
 ⟨⟨x_g,x_o,x_n,x_c,x_e,af h o a,af h (o+1) b,af h (o+2) c,hD⟩⟩
theorem bP {w W:World} (h:Below w.heap.size w W) (o:Obj):Below w.heap.size w (W.alloc o):=h.alloc h.size o
theorem fw (w:World) (o:Obj):(w.alloc o).drew.heap[w.heap.size]?=some o:=aA w o
theorem fX {w W:World} (h:Below w.heap.size w W) (o:Obj):Below w.heap.size w (W.alloc o).drew:=(bP h o).drew
theorem aY {W:World} {p:Addr} {v:Value} (h:W.cell? p=some v) {g:Nat} (x y z:Value) (hg:p.block≠g):(((W.setCell ⟨g,0,none⟩ x).setCell ⟨g,1,none⟩ y).setCell ⟨g,2,none⟩ z).cell? p=some v :=
 ((pk W g 0 1 2 x y z).cell (World.block_lt_of_cell? W _ h) hg).trans h
def f2 (a b:Int) (i:Nat):Int:=if i=0 then a else b
theorem kJ {w:World} {p0_g:Bool} {p0_o:Option Addr} {p0_n p0_c:Nat} {p0_e:Int} {p1_g:Bool} {p1_o:Option Addr} {p1_n p1_c:Nat} {p1_e:Int} {p2_g:Bool} {p2_o:Option Addr} {p2_n p2_c:Nat} {p2_e:Int} {q0_g:Bool} {q0_o:Option Addr} {q0_n q0_c:Nat} {q0_e:Int} {q1_g:Bool} {q1_o:Option Addr} {q1_n q1_c:Nat} {q1_e:Int} {q2_g:Bool} {q2_o:Option Addr} {q2_n q2_c:Nat} {q2_e:Int} {A0 A1 B0 B1:Int} {K:Nat} (h0:aM w (.agg #[.bool p0_g,.slice p0_o p0_n p0_c,.int .i64 p0_e]) A0) (h1:aM w (.agg #[.bool p1_g,.slice p1_o p1_n p1_c,.int .i64 p1_e]) A1) (k0:aM w (.agg #[.bool q0_g,.slice q0_o q0_n q0_c,.int .i64 q0_e]) B0) (k1:aM w (.agg #[.bool q1_g,.slice q1_o q1_n q1_c,.int .i64 q1_e]) B1) (bA0:Bd K A0) (bA1:Bd K A1) (bB0:Bd K B0) (bB1:Bd K B1) (hK:K<=9000) (hT:dZ w) :
  Calls prog 98 #[.agg #[.bool p0_g,.slice p0_o p0_n p0_c,.int .i64 p0_e,.bool p1_g,.slice p1_o p1_n p1_c,.int .i64 p1_e,.bool p2_g,.slice p2_o p2_n p2_c,.int .i64 p2_e],.agg #[.bool q0_g,.slice q0_o q0_n q0_c,.int .i64 q0_e,.bool q1_g,.slice q1_o q1_n q1_c,.int .i64 q1_e,.bool q2_g,.slice q2_o q2_n q2_c,.int .i64 q2_e]] w fun r w'=>∃ v D,r=.returned v∧aW w w' D v∧D*2^4194304=A0*B1-B0*A1∧Bd (2*K+2) D:=by
 have CT:Hid (∀ W,Below w.heap.size w W->Calls prog 90 #[.agg #[.bool q0_g,.slice q0_o q0_n q0_c,.int .i64 q0_e]] W fun r w'=>∃ v,r=.returned v∧aW W w' (-B0) v):=fun W hW=>pB (k0.keeps hW) (bB0.ok (by omega))
 have CD:Hid (∀ W g1 g2 n_g n_o n_n n_c n_e,Below w.heap.size w W->aM W (.agg #[.bool n_g,.slice n_o n_n n_c,.int .i64 n_e]) (-B0)->W.heap[g1]?=some (.cells #[.bool p0_g,.slice p0_o p0_n p0_c,.int .i64 p0_e,.bool n_g,.slice n_o n_n n_c,.int .i64 n_e] 33 (0,0))->W.heap[g2]?=some (.cells #[.bool q1_g,.slice q1_o q1_n q1_c,.int .i64 q1_e,.bool p1_g,.slice p1_o p1_n p1_c,.int .i64 p1_e] 33 (0,0))->Calls prog 89 #[.slice (some ⟨g1,0,none⟩) 2 2,.slice (some ⟨g2,0,none⟩) 2 2] W fun r w'=>∃ v D,r=.returned v∧aW W w' D v∧D*2^4194304=A0*B1-B0*A1∧Bd (2*K+2) D):=fun W g1 g2 n_g n_o n_n n_c n_e hW hD e1 e2=>by
  refine(gk (w:=W) (b:=g1) (off:=0) (b':=g2) (off':=0) (n:=2) (c:=2) (c':=2) (K:=K) (V:=f2 A0 (-B0)) (W:=f2 B1 A1) (fun i hi=>?_) (fun i hi=>?_) hK (by decide) (by decide) (by decide) (by decide) (by decide) (hT.keeps hW)).mono ?_
  ·match i,hi with
   | 0,_=>exact⟨eu e1 rfl rfl rfl (h0.keeps hW),bA0⟩
   | 1,_=>exact⟨eu e1 rfl rfl rfl hD,bB0.neg⟩
  ·match i,hi with
   | 0,_=>exact⟨eu e2 rfl rfl rfl (k1.keeps hW),bB1⟩
   | 1,_=>exact⟨eu e2 rfl rfl rfl (h1.keeps hW),bA1⟩
  ·rintro _ w' ⟨v,D,rfl,hd,he,hb⟩
   refine⟨v,D,rfl,hd,he.trans ?_,hb⟩
   show 0+A0*B1 + -B0*A1=A0*B1-B0*A1
   rw[Int.neg_mul]
   omega
 clear h0 h1 k0 k1 hT
 have hb0:=dn w (.cells #[.bool p0_g,.slice p0_o p0_n p0_c,.int .i64 p0_e,.bool p1_g,.slice p1_o p1_n p1_c,.int .i64 p1_e,.bool p2_g,.slice p2_o p2_n p2_c,.int .i64 p2_e] 63) (.cells #[.bool q0_g,.slice q0_o q0_n q0_c,.int .i64 q0_e,.bool q1_g,.slice q1_o q1_n q1_c,.int .i64 q1_e,.bool q2_g,.slice q2_o q2_n q2_c,.int .i64 q2_e] 63) (.cells #[.bool false,.slice none 0 0,.int .i64 0] 33)
 have p_k:=lj w (.cells #[.bool p0_g,.slice p0_o p0_n p0_c,.int .i64 p0_e,.bool p1_g,.slice p1_o p1_n p1_c,.int .i64 p1_e,.bool p2_g,.slice p2_o p2_n p2_c,.int .i64 p2_e] 63) (.cells #[.bool q0_g,.slice q0_o q0_n q0_c,.int .i64 q0_e,.bool q1_g,.slice q1_o q1_n q1_c,.int .i64 q1_e,.bool q2_g,.slice q2_o q2_n q2_c,.int .i64 q2_e] 63) (.cells #[.bool false,.slice none 0 0,.int .i64 0] 33)
 have q_k:=lk w (.cells #[.bool p0_g,.slice p0_o p0_n p0_c,.int .i64 p0_e,.bool p1_g,.slice p1_o p1_n p1_c,.int .i64 p1_e,.bool p2_g,.slice p2_o p2_n p2_c,.int .i64 p2_e] 63) (.cells #[.bool q0_g,.slice q0_o q0_n q0_c,.int .i64 q0_e,.bool q1_g,.slice q1_o q1_n q1_c,.int .i64 q1_e,.bool q2_g,.slice q2_o q2_n q2_c,.int .i64 q2_e] 63) (.cells #[.bool false,.slice none 0 0,.int .i64 0] 33)
 have r_k:=jc w (.cells #[.bool p0_g,.slice p0_o p0_n p0_c,.int .i64 p0_e,.bool p1_g,.slice p1_o p1_n p1_c,.int .i64 p1_e,.bool p2_g,.slice p2_o p2_n p2_c,.int .i64 p2_e] 63) (.cells #[.bool q0_g,.slice q0_o q0_n q0_c,.int .i64 q0_e,.bool q1_g,.slice q1_o q1_n q1_c,.int .i64 q1_e,.bool q2_g,.slice q2_o q2_n q2_c,.int .i64 q2_e] 63) (.cells #[.bool false,.slice none 0 0,.int .i64 0] 33)
 go_enter func98,ntmps98
 go_wp2_with fail
 generalize ((w.alloc (.cells #[.bool p0_g,.slice p0_o p0_n p0_c,.int .i64 p0_e,.bool p1_g,.slice p1_o p1_n p1_c,.int .i64 p1_e,.bool p2_g,.slice p2_o p2_n p2_c,.int .i64 p2_e] 63)).alloc (.cells #[.bool q0_g,.slice q0_o q0_n q0_c,.int .i64 q0_e,.bool q1_g,.slice q1_o q1_n q1_c,.int .i64 q1_e,.bool q2_g,.slice q2_o q2_n q2_c,.int .i64 q2_e] 63)).alloc (.cells #[.bool false,.slice none 0 0,.int .i64 0] 33)=x3 at hb0 p_k q_k r_k ⊢
 have hs0:=(aGe r_k).1
 have KK:∀ W,Below x3.heap.size x3 W->W.cell? ⟨w.heap.size,0,none⟩=some (.bool p0_g)∧W.cell? ⟨w.heap.size,1,none⟩=some (.slice p0_o p0_n p0_c)∧W.cell? ⟨w.heap.size,2,none⟩=some (.int .i64 p0_e)∧W.cell? ⟨w.heap.size,3,none⟩=some (.bool p1_g)∧W.cell? ⟨w.heap.size,4,none⟩=some (.slice p1_o p1_n p1_c)∧W.cell? ⟨w.heap.size,5,none⟩=some (.int .i64 p1_e)∧W.cell? ⟨w.heap.size+1,0,none⟩=some (.bool q0_g)∧W.cell? ⟨w.heap.size+1,1,none⟩=some (.slice q0_o q0_n q0_c)∧W.cell? ⟨w.heap.size+1,2,none⟩=some (.int .i64 q0_e)∧W.cell? ⟨w.heap.size+1,3,none⟩=some (.bool q1_g)∧W.cell? ⟨w.heap.size+1,4,none⟩=some (.slice q1_o q1_n q1_c)∧W.cell? ⟨w.heap.size+1,5,none⟩=some (.int .i64 q1_e):=fun W hb=>⟨aj (af p_k 0 rfl) hb,aj (af p_k 1 rfl) hb,aj (af p_k 2 rfl) hb,aj (af p_k 3 rfl) hb,aj (af p_k 4 rfl) hb,aj (af p_k 5 rfl) hb,aj (af q_k 0 rfl) hb,aj (af q_k 1 rfl) hb,aj (af q_k 2 rfl) hb,aj (af q_k 3 rfl) hb,aj (af q_k 4 rfl) hb,aj (af q_k 5 rfl) hb⟩
 have KN:∀ W a b c,Below x3.heap.size x3 W->(((W.setCell ⟨w.heap.size+2,0,none⟩ a).setCell ⟨w.heap.size+2,1,none⟩ b).setCell ⟨w.heap.size+2,2,none⟩ c).cell? ⟨w.heap.size,0,none⟩=some (.bool p0_g)∧(((W.setCell ⟨w.heap.size+2,0,none⟩ a).setCell ⟨w.heap.size+2,1,none⟩ b).setCell ⟨w.heap.size+2,2,none⟩ c).cell? ⟨w.heap.size,1,none⟩=some (.slice p0_o p0_n p0_c)∧(((W.setCell ⟨w.heap.size+2,0,none⟩ a).setCell ⟨w.heap.size+2,1,none⟩ b).setCell ⟨w.heap.size+2,2,none⟩ c).cell? ⟨w.heap.size,2,none⟩=some (.int .i64 p0_e)∧(((W.setCell ⟨w.heap.size+2,0,none⟩ a).setCell ⟨w.heap.size+2,1,none⟩ b).setCell ⟨w.heap.size+2,2,none⟩ c).cell? ⟨w.heap.size,3,none⟩=some (.bool p1_g)∧(((W.setCell ⟨w.heap.size+2,0,none⟩ a).setCell ⟨w.heap.size+2,1,none⟩ b).setCell ⟨w.heap.size+2,2,none⟩ c).cell? ⟨w.heap.size,4,none⟩=some (.slice p1_o p1_n p1_c)∧(((W.setCell ⟨w.heap.size+2,0,none⟩ a).setCell ⟨w.heap.size+2,1,none⟩ b).setCell ⟨w.heap.size+2,2,none⟩ c).cell? ⟨w.heap.size,5,none⟩=some (.int .i64 p1_e)∧(((W.setCell ⟨w.heap.size+2,0,none⟩ a).setCell ⟨w.heap.size+2,1,none⟩ b).setCell ⟨w.heap.size+2,2,none⟩ c).cell? ⟨w.heap.size+1,0,none⟩=some (.bool q0_g)∧(((W.setCell ⟨w.heap.size+2,0,none⟩ a).setCell ⟨w.heap.size+2,1,none⟩ b).setCell ⟨w.heap.size+2,2,none⟩ c).cell? ⟨w.heap.size+1,1,none⟩=some (.slice q0_o q0_n q0_c)∧(((W.setCell ⟨w.heap.size+2,0,none⟩ a).setCell ⟨w.heap.size+2,1,none⟩ b).setCell ⟨w.heap.size+2,2,none⟩ c).cell? ⟨w.heap.size+1,2,none⟩=some (.int .i64 q0_e)∧(((W.setCell ⟨w.heap.size+2,0,none⟩ a).setCell ⟨w.heap.size+2,1,none⟩ b).setCell ⟨w.heap.size+2,2,none⟩ c).cell? ⟨w.heap.size+1,3,none⟩=some (.bool q1_g)∧(((W.setCell ⟨w.heap.size+2,0,none⟩ a).setCell ⟨w.heap.size+2,1,none⟩ b).setCell ⟨w.heap.size+2,2,none⟩ c).cell? ⟨w.heap.size+1,4,none⟩=some (.slice q1_o q1_n q1_c)∧(((W.setCell ⟨w.heap.size+2,0,none⟩ a).setCell ⟨w.heap.size+2,1,none⟩ b).setCell ⟨w.heap.size+2,2,none⟩ c).cell? ⟨w.heap.size+1,5,none⟩=some (.int .i64 q1_e):=fun W a b c hb=>⟨aY (KK W hb).1 a b c (show w.heap.size≠w.heap.size+2 by omega),aY (KK W hb).2.1 a b c (show w.heap.size≠w.heap.size+2 by omega),aY (KK W hb).2.2.1 a b c (show w.heap.size≠w.heap.size+2 by omega),aY (KK W hb).2.2.2.1 a b c (show w.heap.size≠w.heap.size+2 by omega),aY (KK W hb).2.2.2.2.1 a b c (show w.heap.size≠w.heap.size+2 by omega),aY (KK W hb).2.2.2.2.2.1 a b c (show w.heap.size≠w.heap.size+2 by omega),aY (KK W hb).2.2.2.2.2.2.1 a b c (show w.heap.size+1≠w.heap.size+2 by omega),aY (KK W hb).2.2.2.2.2.2.2.1 a b c (show w.heap.size+1≠w.heap.size+2 by omega),aY (KK W hb).2.2.2.2.2.2.2.2.1 a b c (show w.heap.size+1≠w.heap.size+2 by omega),aY (KK W hb).2.2.2.2.2.2.2.2.2.1 a b c (show w.heap.size+1≠w.heap.size+2 by omega),aY (KK W hb).2.2.2.2.2.2.2.2.2.2.1 a b c (show w.heap.size+1≠w.heap.size+2 by omega),aY (KK W hb).2.2.2.2.2.2.2.2.2.2.2 a b c (show w.heap.size+1≠w.heap.size+2 by omega)⟩
 have hR0:=al x3
 have hC0:=(al x3).drew
 go_region_held3 (fun W=>W.cell? ⟨w.heap.size,0,none⟩=some (.bool p0_g)∧W.cell? ⟨w.heap.size,1,none⟩=some (.slice p0_o p0_n p0_c)∧W.cell? ⟨w.heap.size,2,none⟩=some (.int .i64 p0_e)∧W.cell? ⟨w.heap.size,3,none⟩=some (.bool p1_g)∧W.cell? ⟨w.heap.size,4,none⟩=some (.slice p1_o p1_n p1_c)∧W.cell? ⟨w.heap.size,5,none⟩=some (.int .i64 p1_e)∧W.cell? ⟨w.heap.size+1,0,none⟩=some (.bool q0_g)∧W.cell? ⟨w.heap.size+1,1,none⟩=some (.slice q0_o q0_n q0_c)∧W.cell? ⟨w.heap.size+1,2,none⟩=some (.int .i64 q0_e)∧W.cell? ⟨w.heap.size+1,3,none⟩=some (.bool q1_g)∧W.cell? ⟨w.heap.size+1,4,none⟩=some (.slice q1_o q1_n q1_c)∧W.cell? ⟨w.heap.size+1,5,none⟩=some (.int .i64 q1_e))
  (with_reducible first|assumption|exact KK _ hC0|exact KK _ (bP hC0 _)|exact KK _ (fX hR0 _)|exact KK _ hC1|exact KK _ (bP hC1 _)|exact KK _ (bP (bP hC1 _) _)|exact KK _ hC2|exact KN _ _ _ _ hC2|fail)
  (first|(go_at_call 89;refine(CD.out _ _ _ n_g n_o n_n n_c n_e (ac hb0 (by with_reducible first|exact bP hC1 _|exact bP (bP hC1 _) _)) (nD.keeps (by with_reducible first|exact ah _ _|exact aL _ _ _)) (by with_reducible first|exact aA _ _|exact bO _ _ _|exact bH _ _ _) (by with_reducible first|exact ap _ (ak hq (fw _ _))|exact bO _ _ _|exact bH _ _ _)).mono ?_;rintro _ y2 ⟨v,D,rfl,hd,he,hbd⟩;obtain⟨v_g,v_o,v_n,v_c,v_e,rfl⟩:=aN hd;have hC2:=ac (by with_reducible first|exact bP hC1 _|exact bP (bP hC1 _) _) hd.below;have dA:=aW.from hd (by with_reducible first|exact bP hC1 _|exact bP (bP hC1 _) _);have r_k2:=ak hC2 r_k;have a0:=af r_k2 0 rfl;have a1:=af r_k2 1 rfl;have a2:=af r_k2 2 rfl;have z0:=ar r_k2 0;have z1:=ar r_k2 1;have z2:=ar r_k2 2)|(go_at_call 90;refine(CT.out _ (ac hb0 (by with_reducible first|exact hC0|exact fX hR0 _))).mono ?_;rintro _ y1 ⟨vn,rfl,hn⟩;obtain⟨n_g,n_o,n_n,n_c,n_e,rfl⟩:=aN hn;have hq:=hn.below;have nD:=hn.num;have hC1:=ac (by with_reducible first|exact hC0|exact fX hR0 _) hq))
 all_goals
  go_wp2
  refine bodyPost_ret (v:=.agg #[.bool v_g,.slice v_o v_n v_c,.int .i64 v_e]) (by simp[results,results98,go_sem,a0,a1,a2]) rfl ⟨_,D,rfl,?_,he,hbd⟩
  exact bG (g:=w.heap.size+2) dA hb0 (by omega) hs0 _ _ _
def f3 (a b c:Int) (i:Nat):Int:=if i=0 then a else if i=1 then b else c
theorem yF {S D E1 E2 E3 P0 P1 P2 Q0 Q1 Q2 R0 R1 R2:Int} (e1:E1*S=Q0*R1-R0*Q1) (e2:E2*S=R0*P1-P0*R1) (e3:E3*S=P0*Q1-Q0*P1) (e:D*S=0+P2*E1+Q2*E2+R2*E3):D*S*S=P2*(Q0*R1-R0*Q1)+Q2*(R0*P1-P0*R1)+R2*(P0*Q1-Q0*P1):=by
 rw[e,<- e1,<- e2,<- e3]
 grind
theorem ix {w:World} {p0_g:Bool} {p0_o:Option Addr} {p0_n p0_c:Nat} {p0_e:Int} {p1_g:Bool} {p1_o:Option Addr} {p1_n p1_c:Nat} {p1_e:Int} {p2_g:Bool} {p2_o:Option Addr} {p2_n p2_c:Nat} {p2_e:Int} {q0_g:Bool} {q0_o:Option Addr} {q0_n q0_c:Nat} {q0_e:Int} {q1_g:Bool} {q1_o:Option Addr} {q1_n q1_c:Nat} {q1_e:Int} {q2_g:Bool} {q2_o:Option Addr} {q2_n q2_c:Nat} {q2_e:Int} {r0_g:Bool} {r0_o:Option Addr} {r0_n r0_c:Nat} {r0_e:Int} {r1_g:Bool} {r1_o:Option Addr} {r1_n r1_c:Nat} {r1_e:Int} {r2_g:Bool} {r2_o:Option Addr} {r2_n r2_c:Nat} {r2_e:Int} {P0 P1 P2 Q0 Q1 Q2 R0 R1 R2:Int} (hp0:aM w (.agg #[.bool p0_g,.slice p0_o p0_n p0_c,.int .i64 p0_e]) P0) (bp0:Bd 1075 P0) (hp1:aM w (.agg #[.bool p1_g,.slice p1_o p1_n p1_c,.int .i64 p1_e]) P1) (bp1:Bd 1075 P1) (hp2:aM w (.agg #[.bool p2_g,.slice p2_o p2_n p2_c,.int .i64 p2_e]) P2) (bp2:Bd 1075 P2) (hq0:aM w (.agg #[.bool q0_g,.slice q0_o q0_n q0_c,.int .i64 q0_e]) Q0) (bq0:Bd 1075 Q0) (hq1:aM w (.agg #[.bool q1_g,.slice q1_o q1_n q1_c,.int .i64 q1_e]) Q1) (bq1:Bd 1075 Q1) (hq2:aM w (.agg #[.bool q2_g,.slice q2_o q2_n q2_c,.int .i64 q2_e]) Q2) (bq2:Bd 1075 Q2) (hr0:aM w (.agg #[.bool r0_g,.slice r0_o r0_n r0_c,.int .i64 r0_e]) R0) (br0:Bd 1075 R0) (hr1:aM w (.agg #[.bool r1_g,.slice r1_o r1_n r1_c,.int .i64 r1_e]) R1) (br1:Bd 1075 R1) (hr2:aM w (.agg #[.bool r2_g,.slice r2_o r2_n r2_c,.int .i64 r2_e]) R2) (br2:Bd 1075 R2) (hT:dZ w) :
  Calls prog 69 #[.agg #[.bool p0_g,.slice p0_o p0_n p0_c,.int .i64 p0_e,.bool p1_g,.slice p1_o p1_n p1_c,.int .i64 p1_e,.bool p2_g,.slice p2_o p2_n p2_c,.int .i64 p2_e],.agg #[.bool q0_g,.slice q0_o q0_n q0_c,.int .i64 q0_e,.bool q1_g,.slice q1_o q1_n q1_c,.int .i64 q1_e,.bool q2_g,.slice q2_o q2_n q2_c,.int .i64 q2_e],.agg #[.bool r0_g,.slice r0_o r0_n r0_c,.int .i64 r0_e,.bool r1_g,.slice r1_o r1_n r1_c,.int .i64 r1_e,.bool r2_g,.slice r2_o r2_n r2_c,.int .i64 r2_e]] w fun r w'=>∃ v D,r=.returned v∧aW w w' D v∧D*2^4194304*2^4194304=P2*(Q0*R1-R0*Q1)+Q2*(R0*P1-P0*R1)+R2*(P0*Q1-Q0*P1)∧Bd (2*2152+3) D:=by
 have M1:Hid (∀ W,Below w.heap.size w W->Calls prog 98 #[.agg #[.bool q0_g,.slice q0_o q0_n q0_c,.int .i64 q0_e,.bool q1_g,.slice q1_o q1_n q1_c,.int .i64 q1_e,.bool q2_g,.slice q2_o q2_n q2_c,.int .i64 q2_e],.agg #[.bool r0_g,.slice r0_o r0_n r0_c,.int .i64 r0_e,.bool r1_g,.slice r1_o r1_n r1_c,.int .i64 r1_e,.bool r2_g,.slice r2_o r2_n r2_c,.int .i64 r2_e]] W fun r w'=>∃ v D,r=.returned v∧aW W w' D v∧D*2^4194304=Q0*R1-R0*Q1∧Bd (2*1075+2) D):=fun W hW=>kJ (K:=1075) (hq0.keeps hW) (hq1.keeps hW) (hr0.keeps hW) (hr1.keeps hW) bq0 bq1 br0 br1 (by decide) (hT.keeps hW)
 have M2:Hid (∀ W,Below w.heap.size w W->Calls prog 98 #[.agg #[.bool r0_g,.slice r0_o r0_n r0_c,.int .i64 r0_e,.bool r1_g,.slice r1_o r1_n r1_c,.int .i64 r1_e,.bool r2_g,.slice r2_o r2_n r2_c,.int .i64 r2_e],.agg #[.bool p0_g,.slice p0_o p0_n p0_c,.int .i64 p0_e,.bool p1_g,.slice p1_o p1_n p1_c,.int .i64 p1_e,.bool p2_g,.slice p2_o p2_n p2_c,.int .i64 p2_e]] W fun r w'=>∃ v D,r=.returned v∧aW W w' D v∧D*2^4194304=R0*P1-P0*R1∧Bd (2*1075+2) D):=fun W hW=>kJ (K:=1075) (hr0.keeps hW) (hr1.keeps hW) (hp0.keeps hW) (hp1.keeps hW) br0 br1 bp0 bp1 (by decide) (hT.keeps hW)
 have M3:Hid (∀ W,Below w.heap.size w W->Calls prog 98 #[.agg #[.bool p0_g,.slice p0_o p0_n p0_c,.int .i64 p0_e,.bool p1_g,.slice p1_o p1_n p1_c,.int .i64 p1_e,.bool p2_g,.slice p2_o p2_n p2_c,.int .i64 p2_e],.agg #[.bool q0_g,.slice q0_o q0_n q0_c,.int .i64 q0_e,.bool q1_g,.slice q1_o q1_n q1_c,.int .i64 q1_e,.bool q2_g,.slice q2_o q2_n q2_c,.int .i64 q2_e]] W fun r w'=>∃ v D,r=.returned v∧aW W w' D v∧D*2^4194304=P0*Q1-Q0*P1∧Bd (2*1075+2) D):=fun W hW=>kJ (K:=1075) (hp0.keeps hW) (hp1.keeps hW) (hq0.keeps hW) (hq1.keeps hW) bp0 bp1 bq0 bq1 (by decide) (hT.keeps hW)
 have CD:Hid (∀ W g1 g2 E1 E2 E3 m1_g m1_o m1_n m1_c m1_e m2_g m2_o m2_n m2_c m2_e m3_g m3_o m3_n m3_c m3_e,Below w.heap.size w W->aM W (.agg #[.bool m1_g,.slice m1_o m1_n m1_c,.int .i64 m1_e]) E1->aM W (.agg #[.bool m2_g,.slice m2_o m2_n m2_c,.int .i64 m2_e]) E2->aM W (.agg #[.bool m3_g,.slice m3_o m3_n m3_c,.int .i64 m3_e]) E3->E1*2^4194304=Q0*R1-R0*Q1->E2*2^4194304=R0*P1-P0*R1->E3*2^4194304=P0*Q1-Q0*P1->Bd 2152 E1->Bd 2152 E2->Bd 2152 E3->W.heap[g1]?=some (.cells #[.bool p2_g,.slice p2_o p2_n p2_c,.int .i64 p2_e,.bool q2_g,.slice q2_o q2_n q2_c,.int .i64 q2_e,.bool r2_g,.slice r2_o r2_n r2_c,.int .i64 r2_e] 33 (0,0))->W.heap[g2]?=some (.cells #[.bool m1_g,.slice m1_o m1_n m1_c,.int .i64 m1_e,.bool m2_g,.slice m2_o m2_n m2_c,.int .i64 m2_e,.bool m3_g,.slice m3_o m3_n m3_c,.int .i64 m3_e] 33 (0,0))->Calls prog 89 #[.slice (some ⟨g1,0,none⟩) 3 3,.slice (some ⟨g2,0,none⟩) 3 3] W fun r w'=>∃ v D,r=.returned v∧aW W w' D v∧D*2^4194304*2^4194304=P2*(Q0*R1-R0*Q1)+Q2*(R0*P1-P0*R1)+R2*(P0*Q1-Q0*P1)∧Bd (2*2152+3) D):=fun W g1 g2 E1 E2 E3 m1_g m1_o m1_n m1_c m1_e m2_g m2_o m2_n m2_c m2_e m3_g m3_o m3_n m3_c m3_e hW d1 d2 d3 e1 e2 e3 b1 b2 b3 k1 k2=>by
  refine(gk (w:=W) (b:=g1) (off:=0) (b':=g2) (off':=0) (n:=3) (c:=3) (c':=3) (K:=2152) (V:=f3 P2 Q2 R2) (W:=f3 E1 E2 E3) (fun i hi=>?_) (fun i hi=>?_) (by decide) (by decide) (by decide) (by decide) (by decide) (by decide) (hT.keeps hW)).mono ?_
  ·match i,hi with
   | 0,_=>exact⟨eu k1 rfl rfl rfl (hp2.keeps hW),bp2.up (by decide) (by decide)⟩
   | 1,_=>exact⟨eu k1 rfl rfl rfl (hq2.keeps hW),bq2.up (by decide) (by decide)⟩
   | 2,_=>exact⟨eu k1 rfl rfl rfl (hr2.keeps hW),br2.up (by decide) (by decide)⟩
  ·match i,hi with
   | 0,_=>exact⟨eu k2 rfl rfl rfl d1,b1⟩
   | 1,_=>exact⟨eu k2 rfl rfl rfl d2,b2⟩
   | 2,_=>exact⟨eu k2 rfl rfl rfl d3,b3⟩
  ·rintro _ w' ⟨v,D,rfl,hd,he,hb⟩
   exact⟨v,D,rfl,hd,yF e1 e2 e3 he,hb⟩
 clear hp0 bp0 hp1 bp1 hp2 bp2 hq0 bq0 hq1 bq1 hq2 bq2 hr0 br0 hr1 br1 hr2 br2 hT
 have hb0:=eS w (.cells #[.bool p0_g,.slice p0_o p0_n p0_c,.int .i64 p0_e,.bool p1_g,.slice p1_o p1_n p1_c,.int .i64 p1_e,.bool p2_g,.slice p2_o p2_n p2_c,.int .i64 p2_e] 63) (.cells #[.bool q0_g,.slice q0_o q0_n q0_c,.int .i64 q0_e,.bool q1_g,.slice q1_o q1_n q1_c,.int .i64 q1_e,.bool q2_g,.slice q2_o q2_n q2_c,.int .i64 q2_e] 63) (.cells #[.bool r0_g,.slice r0_o r0_n r0_c,.int .i64 r0_e,.bool r1_g,.slice r1_o r1_n r1_c,.int .i64 r1_e,.bool r2_g,.slice r2_o r2_n r2_c,.int .i64 r2_e] 63) (.cells #[.bool false,.slice none 0 0,.int .i64 0] 33)
 have p_k:=gW w (.cells #[.bool p0_g,.slice p0_o p0_n p0_c,.int .i64 p0_e,.bool p1_g,.slice p1_o p1_n p1_c,.int .i64 p1_e,.bool p2_g,.slice p2_o p2_n p2_c,.int .i64 p2_e] 63) (.cells #[.bool q0_g,.slice q0_o q0_n q0_c,.int .i64 q0_e,.bool q1_g,.slice q1_o q1_n q1_c,.int .i64 q1_e,.bool q2_g,.slice q2_o q2_n q2_c,.int .i64 q2_e] 63) (.cells #[.bool r0_g,.slice r0_o r0_n r0_c,.int .i64 r0_e,.bool r1_g,.slice r1_o r1_n r1_c,.int .i64 r1_e,.bool r2_g,.slice r2_o r2_n r2_c,.int .i64 r2_e] 63) (.cells #[.bool false,.slice none 0 0,.int .i64 0] 33)
 have q_k:=gX w (.cells #[.bool p0_g,.slice p0_o p0_n p0_c,.int .i64 p0_e,.bool p1_g,.slice p1_o p1_n p1_c,.int .i64 p1_e,.bool p2_g,.slice p2_o p2_n p2_c,.int .i64 p2_e] 63) (.cells #[.bool q0_g,.slice q0_o q0_n q0_c,.int .i64 q0_e,.bool q1_g,.slice q1_o q1_n q1_c,.int .i64 q1_e,.bool q2_g,.slice q2_o q2_n q2_c,.int .i64 q2_e] 63) (.cells #[.bool r0_g,.slice r0_o r0_n r0_c,.int .i64 r0_e,.bool r1_g,.slice r1_o r1_n r1_c,.int .i64 r1_e,.bool r2_g,.slice r2_o r2_n r2_c,.int .i64 r2_e] 63) (.cells #[.bool false,.slice none 0 0,.int .i64 0] 33)
 have r_k:=gJ w (.cells #[.bool p0_g,.slice p0_o p0_n p0_c,.int .i64 p0_e,.bool p1_g,.slice p1_o p1_n p1_c,.int .i64 p1_e,.bool p2_g,.slice p2_o p2_n p2_c,.int .i64 p2_e] 63) (.cells #[.bool q0_g,.slice q0_o q0_n q0_c,.int .i64 q0_e,.bool q1_g,.slice q1_o q1_n q1_c,.int .i64 q1_e,.bool q2_g,.slice q2_o q2_n q2_c,.int .i64 q2_e] 63) (.cells #[.bool r0_g,.slice r0_o r0_n r0_c,.int .i64 r0_e,.bool r1_g,.slice r1_o r1_n r1_c,.int .i64 r1_e,.bool r2_g,.slice r2_o r2_n r2_c,.int .i64 r2_e] 63) (.cells #[.bool false,.slice none 0 0,.int .i64 0] 33)
 have o_k:=gK w (.cells #[.bool p0_g,.slice p0_o p0_n p0_c,.int .i64 p0_e,.bool p1_g,.slice p1_o p1_n p1_c,.int .i64 p1_e,.bool p2_g,.slice p2_o p2_n p2_c,.int .i64 p2_e] 63) (.cells #[.bool q0_g,.slice q0_o q0_n q0_c,.int .i64 q0_e,.bool q1_g,.slice q1_o q1_n q1_c,.int .i64 q1_e,.bool q2_g,.slice q2_o q2_n q2_c,.int .i64 q2_e] 63) (.cells #[.bool r0_g,.slice r0_o r0_n r0_c,.int .i64 r0_e,.bool r1_g,.slice r1_o r1_n r1_c,.int .i64 r1_e,.bool r2_g,.slice r2_o r2_n r2_c,.int .i64 r2_e] 63) (.cells #[.bool false,.slice none 0 0,.int .i64 0] 33)
 go_enter func69,ntmps69
 go_wp2_with fail
 generalize (((w.alloc (.cells #[.bool p0_g,.slice p0_o p0_n p0_c,.int .i64 p0_e,.bool p1_g,.slice p1_o p1_n p1_c,.int .i64 p1_e,.bool p2_g,.slice p2_o p2_n p2_c,.int .i64 p2_e] 63)).alloc (.cells #[.bool q0_g,.slice q0_o q0_n q0_c,.int .i64 q0_e,.bool q1_g,.slice q1_o q1_n q1_c,.int .i64 q1_e,.bool q2_g,.slice q2_o q2_n q2_c,.int .i64 q2_e] 63)).alloc (.cells #[.bool r0_g,.slice r0_o r0_n r0_c,.int .i64 r0_e,.bool r1_g,.slice r1_o r1_n r1_c,.int .i64 r1_e,.bool r2_g,.slice r2_o r2_n r2_c,.int .i64 r2_e] 63)).alloc (.cells #[.bool false,.slice none 0 0,.int .i64 0] 33)=x4 at hb0 p_k q_k r_k o_k ⊢
 have hs0:=(aGe o_k).1
 have KK:∀ W,Below x4.heap.size x4 W->W.cell? ⟨w.heap.size,0,none⟩=some (.bool p0_g)∧W.cell? ⟨w.heap.size,1,none⟩=some (.slice p0_o p0_n p0_c)∧W.cell? ⟨w.heap.size,2,none⟩=some (.int .i64 p0_e)∧W.cell? ⟨w.heap.size,3,none⟩=some (.bool p1_g)∧W.cell? ⟨w.heap.size,4,none⟩=some (.slice p1_o p1_n p1_c)∧W.cell? ⟨w.heap.size,5,none⟩=some (.int .i64 p1_e)∧W.cell? ⟨w.heap.size,6,none⟩=some (.bool p2_g)∧W.cell? ⟨w.heap.size,7,none⟩=some (.slice p2_o p2_n p2_c)∧W.cell? ⟨w.heap.size,8,none⟩=some (.int .i64 p2_e)∧W.cell? ⟨w.heap.size+1,0,none⟩=some (.bool q0_g)∧W.cell? ⟨w.heap.size+1,1,none⟩=some (.slice q0_o q0_n q0_c)∧W.cell? ⟨w.heap.size+1,2,none⟩=some (.int .i64 q0_e)∧W.cell? ⟨w.heap.size+1,3,none⟩=some (.bool q1_g)∧W.cell? ⟨w.heap.size+1,4,none⟩=some (.slice q1_o q1_n q1_c)∧W.cell? ⟨w.heap.size+1,5,none⟩=some (.int .i64 q1_e)∧W.cell? ⟨w.heap.size+1,6,none⟩=some (.bool q2_g)∧W.cell? ⟨w.heap.size+1,7,none⟩=some (.slice q2_o q2_n q2_c)∧W.cell? ⟨w.heap.size+1,8,none⟩=some (.int .i64 q2_e)∧W.cell? ⟨w.heap.size+2,0,none⟩=some (.bool r0_g)∧W.cell? ⟨w.heap.size+2,1,none⟩=some (.slice r0_o r0_n r0_c)∧W.cell? ⟨w.heap.size+2,2,none⟩=some (.int .i64 r0_e)∧W.cell? ⟨w.heap.size+2,3,none⟩=some (.bool r1_g)∧W.cell? ⟨w.heap.size+2,4,none⟩=some (.slice r1_o r1_n r1_c)∧W.cell? ⟨w.heap.size+2,5,none⟩=some (.int .i64 r1_e)∧W.cell? ⟨w.heap.size+2,6,none⟩=some (.bool r2_g)∧W.cell? ⟨w.heap.size+2,7,none⟩=some (.slice r2_o r2_n r2_c)∧W.cell? ⟨w.heap.size+2,8,none⟩=some (.int .i64 r2_e):=fun W hb=>⟨aj (af p_k 0 rfl) hb,aj (af p_k 1 rfl) hb,aj (af p_k 2 rfl) hb,aj (af p_k 3 rfl) hb,aj (af p_k 4 rfl) hb,aj (af p_k 5 rfl) hb,aj (af p_k 6 rfl) hb,aj (af p_k 7 rfl) hb,aj (af p_k 8 rfl) hb,aj (af q_k 0 rfl) hb,aj (af q_k 1 rfl) hb,aj (af q_k 2 rfl) hb,aj (af q_k 3 rfl) hb,aj (af q_k 4 rfl) hb,aj (af q_k 5 rfl) hb,aj (af q_k 6 rfl) hb,aj (af q_k 7 rfl) hb,aj (af q_k 8 rfl) hb,aj (af r_k 0 rfl) hb,aj (af r_k 1 rfl) hb,aj (af r_k 2 rfl) hb,aj (af r_k 3 rfl) hb,aj (af r_k 4 rfl) hb,aj (af r_k 5 rfl) hb,aj (af r_k 6 rfl) hb,aj (af r_k 7 rfl) hb,aj (af r_k 8 rfl) hb⟩
 have KN:∀ W a b c,Below x4.heap.size x4 W->(((W.setCell ⟨w.heap.size+3,0,none⟩ a).setCell ⟨w.heap.size+3,1,none⟩ b).setCell ⟨w.heap.size+3,2,none⟩ c).cell? ⟨w.heap.size,0,none⟩=some (.bool p0_g)∧(((W.setCell ⟨w.heap.size+3,0,none⟩ a).setCell ⟨w.heap.size+3,1,none⟩ b).setCell ⟨w.heap.size+3,2,none⟩ c).cell? ⟨w.heap.size,1,none⟩=some (.slice p0_o p0_n p0_c)∧(((W.setCell ⟨w.heap.size+3,0,none⟩ a).setCell ⟨w.heap.size+3,1,none⟩ b).setCell ⟨w.heap.size+3,2,none⟩ c).cell? ⟨w.heap.size,2,none⟩=some (.int .i64 p0_e)∧(((W.setCell ⟨w.heap.size+3,0,none⟩ a).setCell ⟨w.heap.size+3,1,none⟩ b).setCell ⟨w.heap.size+3,2,none⟩ c).cell? ⟨w.heap.size,3,none⟩=some (.bool p1_g)∧(((W.setCell ⟨w.heap.size+3,0,none⟩ a).setCell ⟨w.heap.size+3,1,none⟩ b).setCell ⟨w.heap.size+3,2,none⟩ c).cell? ⟨w.heap.size,4,none⟩=some (.slice p1_o p1_n p1_c)∧(((W.setCell ⟨w.heap.size+3,0,none⟩ a).setCell ⟨w.heap.size+3,1,none⟩ b).setCell ⟨w.heap.size+3,2,none⟩ c).cell? ⟨w.heap.size,5,none⟩=some (.int .i64 p1_e)∧(((W.setCell ⟨w.heap.size+3,0,none⟩ a).setCell ⟨w.heap.size+3,1,none⟩ b).setCell ⟨w.heap.size+3,2,none⟩ c).cell? ⟨w.heap.size,6,none⟩=some (.bool p2_g)∧(((W.setCell ⟨w.heap.size+3,0,none⟩ a).setCell ⟨w.heap.size+3,1,none⟩ b).setCell ⟨w.heap.size+3,2,none⟩ c).cell? ⟨w.heap.size,7,none⟩=some (.slice p2_o p2_n p2_c)∧(((W.setCell ⟨w.heap.size+3,0,none⟩ a).setCell ⟨w.heap.size+3,1,none⟩ b).setCell ⟨w.heap.size+3,2,none⟩ c).cell? ⟨w.heap.size,8,none⟩=some (.int .i64 p2_e)∧(((W.setCell ⟨w.heap.size+3,0,none⟩ a).setCell ⟨w.heap.size+3,1,none⟩ b).setCell ⟨w.heap.size+3,2,none⟩ c).cell? ⟨w.heap.size+1,0,none⟩=some (.bool q0_g)∧(((W.setCell ⟨w.heap.size+3,0,none⟩ a).setCell ⟨w.heap.size+3,1,none⟩ b).setCell ⟨w.heap.size+3,2,none⟩ c).cell? ⟨w.heap.size+1,1,none⟩=some (.slice q0_o q0_n q0_c)∧(((W.setCell ⟨w.heap.size+3,0,none⟩ a).setCell ⟨w.heap.size+3,1,none⟩ b).setCell ⟨w.heap.size+3,2,none⟩ c).cell? ⟨w.heap.size+1,2,none⟩=some (.int .i64 q0_e)∧(((W.setCell ⟨w.heap.size+3,0,none⟩ a).setCell ⟨w.heap.size+3,1,none⟩ b).setCell ⟨w.heap.size+3,2,none⟩ c).cell? ⟨w.heap.size+1,3,none⟩=some (.bool q1_g)∧(((W.setCell ⟨w.heap.size+3,0,none⟩ a).setCell ⟨w.heap.size+3,1,none⟩ b).setCell ⟨w.heap.size+3,2,none⟩ c).cell? ⟨w.heap.size+1,4,none⟩=some (.slice q1_o q1_n q1_c)∧(((W.setCell ⟨w.heap.size+3,0,none⟩ a).setCell ⟨w.heap.size+3,1,none⟩ b).setCell ⟨w.heap.size+3,2,none⟩ c).cell? ⟨w.heap.size+1,5,none⟩=some (.int .i64 q1_e)∧(((W.setCell ⟨w.heap.size+3,0,none⟩ a).setCell ⟨w.heap.size+3,1,none⟩ b).setCell ⟨w.heap.size+3,2,none⟩ c).cell? ⟨w.heap.size+1,6,none⟩=some (.bool q2_g)∧(((W.setCell ⟨w.heap.size+3,0,none⟩ a).setCell ⟨w.heap.size+3,1,none⟩ b).setCell ⟨w.heap.size+3,2,none⟩ c).cell? ⟨w.heap.size+1,7,none⟩=some (.slice q2_o q2_n q2_c)∧(((W.setCell ⟨w.heap.size+3,0,none⟩ a).setCell ⟨w.heap.size+3,1,none⟩ b).setCell ⟨w.heap.size+3,2,none⟩ c).cell? ⟨w.heap.size+1,8,none⟩=some (.int .i64 q2_e)∧(((W.setCell ⟨w.heap.size+3,0,none⟩ a).setCell ⟨w.heap.size+3,1,none⟩ b).setCell ⟨w.heap.size+3,2,none⟩ c).cell? ⟨w.heap.size+2,0,none⟩=some (.bool r0_g)∧(((W.setCell ⟨w.heap.size+3,0,none⟩ a).setCell ⟨w.heap.size+3,1,none⟩ b).setCell ⟨w.heap.size+3,2,none⟩ c).cell? ⟨w.heap.size+2,1,none⟩=some (.slice r0_o r0_n r0_c)∧(((W.setCell ⟨w.heap.size+3,0,none⟩ a).setCell ⟨w.heap.size+3,1,none⟩ b).setCell ⟨w.heap.size+3,2,none⟩ c).cell? ⟨w.heap.size+2,2,none⟩=some (.int .i64 r0_e)∧(((W.setCell ⟨w.heap.size+3,0,none⟩ a).setCell ⟨w.heap.size+3,1,none⟩ b).setCell ⟨w.heap.size+3,2,none⟩ c).cell? ⟨w.heap.size+2,3,none⟩=some (.bool r1_g)∧(((W.setCell ⟨w.heap.size+3,0,none⟩ a).setCell ⟨w.heap.size+3,1,none⟩ b).setCell ⟨w.heap.size+3,2,none⟩ c).cell? ⟨w.heap.size+2,4,none⟩=some (.slice r1_o r1_n r1_c)∧(((W.setCell ⟨w.heap.size+3,0,none⟩ a).setCell ⟨w.heap.size+3,1,none⟩ b).setCell ⟨w.heap.size+3,2,none⟩ c).cell? ⟨w.heap.size+2,5,none⟩=some (.int .i64 r1_e)∧(((W.setCell ⟨w.heap.size+3,0,none⟩ a).setCell ⟨w.heap.size+3,1,none⟩ b).setCell ⟨w.heap.size+3,2,none⟩ c).cell? ⟨w.heap.size+2,6,none⟩=some (.bool r2_g)∧(((W.setCell ⟨w.heap.size+3,0,none⟩ a).setCell ⟨w.heap.size+3,1,none⟩ b).setCell ⟨w.heap.size+3,2,none⟩ c).cell? ⟨w.heap.size+2,7,none⟩=some (.slice r2_o r2_n r2_c)∧(((W.setCell ⟨w.heap.size+3,0,none⟩ a).setCell ⟨w.heap.size+3,1,none⟩ b).setCell ⟨w.heap.size+3,2,none⟩ c).cell? ⟨w.heap.size+2,8,none⟩=some (.int .i64 r2_e):=fun W a b c hb=>⟨aY (KK W hb).1 a b c (show w.heap.size≠w.heap.size+3 by omega),aY (KK W hb).2.1 a b c (show w.heap.size≠w.heap.size+3 by omega),aY (KK W hb).2.2.1 a b c (show w.heap.size≠w.heap.size+3 by omega),aY (KK W hb).2.2.2.1 a b c (show w.heap.size≠w.heap.size+3 by omega),aY (KK W hb).2.2.2.2.1 a b c (show w.heap.size≠w.heap.size+3 by omega),aY (KK W hb).2.2.2.2.2.1 a b c (show w.heap.size≠w.heap.size+3 by omega),aY (KK W hb).2.2.2.2.2.2.1 a b c (show w.heap.size≠w.heap.size+3 by omega),aY (KK W hb).2.2.2.2.2.2.2.1 a b c (show w.heap.size≠w.heap.size+3 by omega),aY (KK W hb).2.2.2.2.2.2.2.2.1 a b c (show w.heap.size≠w.heap.size+3 by omega),aY (KK W hb).2.2.2.2.2.2.2.2.2.1 a b c (show w.heap.size+1≠w.heap.size+3 by omega),aY (KK W hb).2.2.2.2.2.2.2.2.2.2.1 a b c (show w.heap.size+1≠w.heap.size+3 by omega),aY (KK W hb).2.2.2.2.2.2.2.2.2.2.2.1 a b c (show w.heap.size+1≠w.heap.size+3 by omega),aY (KK W hb).2.2.2.2.2.2.2.2.2.2.2.2.1 a b c (show w.heap.size+1≠w.heap.size+3 by omega),aY (KK W hb).2.2.2.2.2.2.2.2.2.2.2.2.2.1 a b c (show w.heap.size+1≠w.heap.size+3 by omega),aY (KK W hb).2.2.2.2.2.2.2.2.2.2.2.2.2.2.1 a b c (show w.heap.size+1≠w.heap.size+3 by omega),aY (KK W hb).2.2.2.2.2.2.2.2.2.2.2.2.2.2.2.1 a b c (show w.heap.size+1≠w.heap.size+3 by omega),aY (KK W hb).2.2.2.2.2.2.2.2.2.2.2.2.2.2.2.2.1 a b c (show w.heap.size+1≠w.heap.size+3 by omega),aY (KK W hb).2.2.2.2.2.2.2.2.2.2.2.2.2.2.2.2.2.1 a b c (show w.heap.size+1≠w.heap.size+3 by omega),aY (KK W hb).2.2.2.2.2.2.2.2.2.2.2.2.2.2.2.2.2.2.1 a b c (show w.heap.size+2≠w.heap.size+3 by omega),aY (KK W hb).2.2.2.2.2.2.2.2.2.2.2.2.2.2.2.2.2.2.2.1 a b c (show w.heap.size+2≠w.heap.size+3 by omega),aY (KK W hb).2.2.2.2.2.2.2.2.2.2.2.2.2.2.2.2.2.2.2.2.1 a b c (show w.heap.size+2≠w.heap.size+3 by omega),aY (KK W hb).2.2.2.2.2.2.2.2.2.2.2.2.2.2.2.2.2.2.2.2.2.1 a b c (show w.heap.size+2≠w.heap.size+3 by omega),aY (KK W hb).2.2.2.2.2.2.2.2.2.2.2.2.2.2.2.2.2.2.2.2.2.2.1 a b c (show w.heap.size+2≠w.heap.size+3 by omega),aY (KK W hb).2.2.2.2.2.2.2.2.2.2.2.2.2.2.2.2.2.2.2.2.2.2.2.1 a b c (show w.heap.size+2≠w.heap.size+3 by omega),aY (KK W hb).2.2.2.2.2.2.2.2.2.2.2.2.2.2.2.2.2.2.2.2.2.2.2.2.1 a b c (show w.heap.size+2≠w.heap.size+3 by omega),aY (KK W hb).2.2.2.2.2.2.2.2.2.2.2.2.2.2.2.2.2.2.2.2.2.2.2.2.2.1 a b c (show w.heap.size+2≠w.heap.size+3 by omega),aY (KK W hb).2.2.2.2.2.2.2.2.2.2.2.2.2.2.2.2.2.2.2.2.2.2.2.2.2.2 a b c (show w.heap.size+2≠w.heap.size+3 by omega)⟩
 have hR0:=al x4
 have hC0:=(al x4).drew
 go_region_held3 (fun W=>W.cell? ⟨w.heap.size,0,none⟩=some (.bool p0_g)∧W.cell? ⟨w.heap.size,1,none⟩=some (.slice p0_o p0_n p0_c)∧W.cell? ⟨w.heap.size,2,none⟩=some (.int .i64 p0_e)∧W.cell? ⟨w.heap.size,3,none⟩=some (.bool p1_g)∧W.cell? ⟨w.heap.size,4,none⟩=some (.slice p1_o p1_n p1_c)∧W.cell? ⟨w.heap.size,5,none⟩=some (.int .i64 p1_e)∧W.cell? ⟨w.heap.size,6,none⟩=some (.bool p2_g)∧W.cell? ⟨w.heap.size,7,none⟩=some (.slice p2_o p2_n p2_c)∧W.cell? ⟨w.heap.size,8,none⟩=some (.int .i64 p2_e)∧W.cell? ⟨w.heap.size+1,0,none⟩=some (.bool q0_g)∧W.cell? ⟨w.heap.size+1,1,none⟩=some (.slice q0_o q0_n q0_c)∧W.cell? ⟨w.heap.size+1,2,none⟩=some (.int .i64 q0_e)∧W.cell? ⟨w.heap.size+1,3,none⟩=some (.bool q1_g)∧W.cell? ⟨w.heap.size+1,4,none⟩=some (.slice q1_o q1_n q1_c)∧W.cell? ⟨w.heap.size+1,5,none⟩=some (.int .i64 q1_e)∧W.cell? ⟨w.heap.size+1,6,none⟩=some (.bool q2_g)∧W.cell? ⟨w.heap.size+1,7,none⟩=some (.slice q2_o q2_n q2_c)∧W.cell? ⟨w.heap.size+1,8,none⟩=some (.int .i64 q2_e)∧W.cell? ⟨w.heap.size+2,0,none⟩=some (.bool r0_g)∧W.cell? ⟨w.heap.size+2,1,none⟩=some (.slice r0_o r0_n r0_c)∧W.cell? ⟨w.heap.size+2,2,none⟩=some (.int .i64 r0_e)∧W.cell? ⟨w.heap.size+2,3,none⟩=some (.bool r1_g)∧W.cell? ⟨w.heap.size+2,4,none⟩=some (.slice r1_o r1_n r1_c)∧W.cell? ⟨w.heap.size+2,5,none⟩=some (.int .i64 r1_e)∧W.cell? ⟨w.heap.size+2,6,none⟩=some (.bool r2_g)∧W.cell? ⟨w.heap.size+2,7,none⟩=some (.slice r2_o r2_n r2_c)∧W.cell? ⟨w.heap.size+2,8,none⟩=some (.int .i64 r2_e))
  (with_reducible first|assumption|exact KK _ hC0|exact KK _ (fX hR0 _)|exact KK _ (bP hC0 _)|exact KK _ hC1|exact KK _ (bP hC1 _)|exact KK _ hC2|exact KK _ (bP hC2 _)|exact KK _ hC3|exact KK _ (bP hC3 _)|exact KK _ (bP (bP hC3 _) _)|exact KK _ hC4|exact KN _ _ _ _ hC4|fail)
  (first|(go_at_call 89;refine(CD.out _ _ _ _ _ _ _ _ _ _ _ _ _ _ _ _ _ _ _ _ _ (ac hb0 (by with_reducible first|exact bP hC3 _|exact bP (bP hC3 _) _)) (n1.keeps (ac hq2 (ac hq3 (by with_reducible first|exact ah _ _|exact aL _ _ _)))) (n2.keeps (ac hq3 (by with_reducible first|exact ah _ _|exact aL _ _ _))) (n3.keeps (by with_reducible first|exact ah _ _|exact aL _ _ _)) e1 e2 e3 b1 b2 b3 (by with_reducible first|exact bO _ _ _|exact bH _ _ _|exact ap _ (ak d3.below (aA _ _))|exact ap _ (ak d3.below (ak d2.below (aA _ _)))|exact ap _ (ak d3.below (ak d2.below (ak d1.below (fw _ _))))) (by with_reducible first|exact aA _ _|exact bH _ _ _|exact bO _ _ _)).mono ?_;rintro _ y4 ⟨v,D,rfl,hd,he,hbd⟩;obtain⟨v_g,v_o,v_n,v_c,v_e,rfl⟩:=aN hd;have hC4:=ac (by with_reducible first|exact bP hC3 _|exact bP (bP hC3 _) _) hd.below;have dA:=aW.from hd (by with_reducible first|exact bP hC3 _|exact bP (bP hC3 _) _);have o_k2:=ak hC4 o_k;have a0:=af o_k2 0 rfl;have a1:=af o_k2 1 rfl;have a2:=af o_k2 2 rfl;have z0:=ar o_k2 0;have z1:=ar o_k2 1;have z2:=ar o_k2 2)|(go_at_call 98;have _t:=hq2;refine(M3.out _ (ac hb0 (by with_reducible first|exact hC2|exact bP hC2 _))).mono ?_;rintro _ y3 ⟨w3,E3,rfl,d3,e3,b3⟩;obtain⟨m3_g,m3_o,m3_n,m3_c,m3_e,rfl⟩:=aN d3;have hq3:Below y2.heap.size y2 y3:=(by with_reducible first|exact d3.below|exact ac (ah _ _) d3.below);have n3:=d3.num;have hC3:=ac (by with_reducible first|exact hC2|exact bP hC2 _) d3.below)|(go_at_call 98;have _t:=hq1;refine(M2.out _ (ac hb0 (by with_reducible first|exact hC1|exact bP hC1 _))).mono ?_;rintro _ y2 ⟨w2,E2,rfl,d2,e2,b2⟩;obtain⟨m2_g,m2_o,m2_n,m2_c,m2_e,rfl⟩:=aN d2;have hq2:Below y1.heap.size y1 y2:=(by with_reducible first|exact d2.below|exact ac (ah _ _) d2.below);have n2:=d2.num;have hC2:=ac (by with_reducible first|exact hC1|exact bP hC1 _) d2.below)|(go_at_call 98;refine(M1.out _ (ac hb0 (by with_reducible first|exact hC0|exact bP hC0 _|exact fX hR0 _))).mono ?_;rintro _ y1 ⟨w1,E1,rfl,d1,e1,b1⟩;obtain⟨m1_g,m1_o,m1_n,m1_c,m1_e,rfl⟩:=aN d1;have hq1:=d1.below;have n1:=d1.num;have hC1:=ac (by with_reducible first|exact hC0|exact bP hC0 _|exact fX hR0 _) hq1))
 all_goals
  go_wp2
  refine bodyPost_ret (v:=.agg #[.bool v_g,.slice v_o v_n v_c,.int .i64 v_e]) (by simp[results,results69,go_sem,a0,a1,a2]) rfl ⟨_,D,rfl,?_,he,hbd⟩
  exact bG (g:=w.heap.size+3) dA hb0 (by omega) hs0 _ _ _
end Go.Proofs.YtcklaogdjpbagaaGreatDoor
