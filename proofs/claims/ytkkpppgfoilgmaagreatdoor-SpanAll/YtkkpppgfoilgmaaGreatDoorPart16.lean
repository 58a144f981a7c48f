/- Parts of the proof. -/
import Derived.Test.YtkkpppgfoilgmaaGreatDoorPart15
import Derived.Test.YtkkpppgfoilgmaaGreatDoorPart14
import Derived.Test.YtkkpppgfoilgmaaGreatDoorPart12
import Derived.Test.YtkkpppgfoilgmaaGreatDoorPart11
import Derived.Deep.RegionHeld3
set_option maxRecDepth 100000
set_option maxHeartbeats 8000000
set_option linter.unusedVariables false
set_option linter.unusedSimpArgs false
namespace Go.Proofs.YtkkpppgfoilgmaaGreatDoor
open Go Go.Proofs.Tryz Go.RowKit Go.Proofs.YtkkpppgfoilgmaaGreatDoor.M
theorem sY {x y:Int} (h:x<=y):(⟨0,sg false x⟩:En).le ⟨0,sg false y⟩:=.inr ⟨rfl,h⟩
theorem sZ {x y:Int} (h:y<=x):(⟨0,sg true x⟩:En).le ⟨0,sg true y⟩:=.inr ⟨rfl,Int.neg_le_neg h⟩
theorem AC (x:Int):(⟨0,x⟩:En).le ⟨1,0⟩:=.inl (by show(0:Int)<1;decide)
theorem AD (x:Int):(⟨-1,0⟩:En).le ⟨0,x⟩:=.inl (by show(-1:Int)<0;decide)
theorem mI (g:Bool) {r:Nat} (h:(r:Int)<9218868437227405312):ag (ay (g&&decide (0<(r:Int))) (r:Int))=⟨0,sg g (vS r)⟩:=by
 obtain⟨a,b,c⟩:=dV (ng:=g&&decide (0<(r:Int))) (r:=(r:Int)) (by omega) (by omega)
 rw[dG (by rw[b];omega)]
 refine En.eq rfl ?_
 show aF _=sg g (vS r)
 rw[gY a ((bp a).2 (by rw[b];exact h)),b,c,Int.toNat_natCast]
 by_cases h0:0<r
 ·rw[decide_eq_true (by omega),Bool.and_true]
 ·have:r=0:=by omega
  subst this
  rw[fk]
  cases g<;>rfl
theorem pM (g:Bool):ag (ay (g&&decide ((0:Int)<9218868437227405312)) 9218868437227405312)=⟨if g then -1 else 1,0⟩:=by
 cases g
 ·rw[dS (by decide)];rfl
 ·rw[dS (by decide)];rfl
theorem BR {r s:Nat} (h:r<=s):vS r<=vS s:=by
 rcases Nat.lt_or_eq_of_le h with g|g
 ·exact Int.le_of_lt (iE g)
 ·rw[g];exact Int.le_refl _
theorem Fo:cL 1 false=9218868437227405311∧cL 1 true=9218868437227405312∧cL 2 false=9218868437227405312∧cL 2 true=9218868437227405311:=⟨by decide,by decide,by decide,by decide⟩
theorem s7 {ng:Bool} {r0:Nat} {left:Int} (way:Int) (h:¬ (r0:Int)<9218868437227405312):aX way ng r0 left=cL way ng:=by
 unfold aX;rw[if_neg h]
theorem BS {g:Bool} {A:Int} {r0:Nat} {left:Int} (hR:cZ A r0 left) :
  (ag (ay (g&&decide (0<aX 1 g r0 left)) (aX 1 g r0 left))).le ⟨0,sg g A⟩∧(⟨0,sg g A⟩:En).le (ag (ay (g&&decide (0<aX 2 g r0 left)) (aX 2 g r0 left))):=by
 obtain⟨h1,h2,h3⟩:=And.intro hR.lo (And.intro hR.hi hR.l0)
 obtain⟨b1,b2,b3,b4⟩:=Fo
 by_cases hr:(r0:Int)<9218868437227405312
 ·obtain⟨u1,u2,u3,u4,u5⟩:=oN (decide (r0 % 2=1)) left
  rw[gD 1 hr,gD 2 hr]
  by_cases hl:left=0
  ·have hA:=h3.1 hl
   rw[u5 1 g hl,u5 2 g hl,hA]
   simp only[Bool.false_eq_true,if_false,Int.add_zero]
   rw[mI g hr]
   exact⟨En.le_refl _,En.le_refl _⟩
  ·have hup:∀ s:Bool,(ag (ay (s&&decide (0<(r0:Int)+1)) ((r0:Int)+1)))=if (r0:Int)+1<9218868437227405312 then ⟨0,sg s (vS (r0+1))⟩ else ⟨if s then -1 else 1,0⟩:=fun s=>by
    by_cases q:(r0:Int)+1<9218868437227405312
    ·rw[if_pos q]
     have:=mI s (r:=r0+1) (by omega)
     rw[Int.natCast_add] at this
     exact this
    ·rw[if_neg q]
     have e:(r0:Int)+1=9218868437227405312:=by omega
     rw[e]
     exact pM s
   cases g
   ·rw[u1,u4 hl]
    simp only[Bool.false_eq_true,if_false,if_true,Int.add_zero]
    rw[mI false hr,hup false]
    refine⟨sY h1,?_⟩
    split
    ·exact sY (Int.le_of_lt h2)
    ·exact AC _
   ·rw[u2 hl,u3]
    simp only[Bool.false_eq_true,if_false,if_true,Int.add_zero]
    rw[mI true hr,hup true]
    refine⟨?_,sZ h1⟩
    split
    ·exact sZ (Int.le_of_lt h2)
    ·exact AD _
 ·rw[s7 1 hr,s7 2 hr]
  have hm:=mI g (r:=9218868437227405311) (by decide)
  have hv:vS 9218868437227405311<=A:=Int.le_trans (BR (by omega)) h1
  have hm':ag (ay (g&&decide ((0:Int)<9218868437227405311)) 9218868437227405311)=⟨0,sg g (vS 9218868437227405311)⟩:=hm
  clear hm
  generalize vS 9218868437227405311=X at hm' hv
  cases g
  ·rw[b1,b3,hm',pM false]
   exact⟨sY hv,AC _⟩
  ·rw[b2,b4,hm',pM true]
   exact⟨AD _,sZ hv⟩
theorem us:ag 0=⟨0,0⟩:=by rw[dG (by decide),gF.1]
theorem qW (V:Int):(ag (eR V)).le ⟨0,V⟩∧(⟨0,V⟩:En).le (ag (eS V)):=by
 by_cases h0:V=0
 ·subst h0
  rw[kY.1,kY.2,us]
  exact⟨En.le_refl _,En.le_refl _⟩
 ·obtain⟨g,A,r0,left,e,hA,hR,c1,c2⟩:=oT h0
  rw[c1,c2,e]
  exact BS hR
theorem qY {p q:Int} (hp:nn p) (hq:nn q) (h:(ag p).le (ag q)):aw p<=aw q:=by
 have:=(eT h).1
 rw[(dF hp).1,(dF hq).1,(co hp).1,(co hq).1] at this
 exact this
theorem FY (V:Int):aw (eR V)<=aw (eS V):=qY (gm V).1 (gm V).2 ((qW V).1.le_trans (qW V).2)
theorem FZ (a:En):aw (a6 a)<=aw (a7 a):=by
 unfold a6 a7
 split
 ·exact Int.le_refl _
 ·split
  ·exact Int.le_refl _
  ·exact FY _
theorem AE (V:Int):aw (eR V)<9218868437227405312∧-9218868437227405312<aw (eS V):=by
 obtain⟨h1,h2⟩:=qW V
 have n1:=(gm V).1
 have n2:=(gm V).2
 have i1:=iK kW.1 n1
 have i2:=iK n2 kW.2
 rw[oe.1] at i1
 rw[oe.2] at i2
 rw[dS (show rg 9218868437227405312=9218868437227405312 by decide)] at i1
 rw[dS (show rg (-4503599627370496)=9218868437227405312 by decide)] at i2
 constructor
 ·refine Int.lt_of_not_ge fun q=>?_
  have:=(i1 q).le_trans h1
  unfold En.le at this
  simp at this
 ·refine Int.lt_of_not_ge fun q=>?_
  have:=h2.le_trans (i2 q)
  unfold En.le at this
  simp at this
theorem Fp {e f:En} (h:e.le f) (h1:e.i<=0) (h2:0<=f.i):aK (a6 e) (a7 f)=true:=by
 have n1:=(pK e).1
 have n2:=(pK f).2
 refine cW.2 ⟨n1.2,n2.2,Int.le_trans (eT h).1 (FZ f),?_,?_⟩
 ·unfold a6
  rw[if_neg (by omega)]
  split
  ·decide
  ·exact(AE _).1
 ·unfold a7
  split
  ·decide
  ·rw[if_neg (by omega)]
   exact(AE _).2
structure cF (e f:En) (V:Int):Prop where
 lo:e.le ⟨0,V⟩
 hi:(⟨0,V⟩:En).le f
theorem cF.vld {e f:En} {V:Int} (h:cF e f V):aK (a6 e) (a7 f)=true:=by
 refine Fp (h.lo.le_trans h.hi) ?_ ?_
 ·have:=h.lo;unfold En.le at this;simp at this;omega
 ·have:=h.hi;unfold En.le at this;simp at this;omega
theorem cF.keys {e f:En} {V:Int} (h:cF e f V):aw (a6 e)<=aw (eR V)∧aw (eS V)<=aw (a7 f):=by
 have h1:=(eT h.lo).1
 have h2:=(eT h.hi).2
 unfold a6 at h1 ⊢
 unfold a7 at h2 ⊢
 exact⟨h1,h2⟩
theorem cF.inI {e f:En} {V:Int} (h:cF e f V):sX (a6 e) (a7 f) (eR V) (eS V)=true:=by
 obtain⟨h1,h2⟩:=h.keys
 unfold Go.Proofs.YtkkpppgfoilgmaaGreatDoor.sX
 exact decide_eq_true ⟨h1,h2⟩
theorem lO {a c:En} (ha:a.i=0) (hc:c.i=0):bq a c=⟨0,a.v+c.v⟩:=by
 unfold bq;rw[if_neg (fun k=>k ha),if_neg (fun k=>k hc)]
theorem oY {a c:En} (ha:a.i≠0):bq a c=a:=if_pos ha
theorem oZ {a c:En} (ha:a.i=0) (hc:c.i≠0):bq a c=c:=by
 unfold bq;rw[if_neg (fun k=>k ha),if_pos hc]
theorem cF.plus {a b c d:En} {x y:Int} (h:cF a b x) (k:cF c d y):cF (bq a c) (bq b d) (x+y):=by
 have h1:=h.lo
 have h2:=h.hi
 have k1:=k.lo
 have k2:=k.hi
 unfold En.le at h1 h2 k1 k2
 simp only at h1 h2 k1 k2
 constructor
 ·by_cases ia:a.i=0
  ·by_cases ic:c.i=0
   ·rw[lO ia ic];exact .inr ⟨rfl,by show a.v+c.v<=x+y;omega⟩
   ·rw[oZ ia ic];exact .inl (by show c.i<0;omega)
  ·rw[oY ia];exact .inl (by show a.i<0;omega)
 ·by_cases ib:b.i=0
  ·by_cases id:d.i=0
   ·rw[lO ib id];exact .inr ⟨rfl,by show x+y<=b.v+d.v;omega⟩
   ·rw[oZ ib id];exact .inl (by show 0<d.i;omega)
  ·rw[oY ib];exact .inl (by show 0<b.i;omega)
theorem cF.neg {a b:En} {x:Int} (h:cF a b x):cF (bK b) (bK a) (-x):=by
 have h1:=h.lo
 have h2:=h.hi
 unfold En.le at h1 h2
 simp only at h1 h2
 constructor
 ·unfold bK En.le;simp only;omega
 ·unfold bK En.le;simp only;omega
theorem cF.times {a b c d:En} {x y:Int} (ha:a.ok) (hb:b.ok) (hc:c.ok) (hd:d.ok) (h:cF a b x) (k:cF c d y):cF (eF a b c d) (eG a b c d) (dW x y):=by
 have:=DW ha hb hc hd (.inl rfl) (.inl rfl) h.lo h.hi k.lo k.hi
 rw[cY rfl rfl] at this
 exact⟨this.1,this.2⟩
theorem cF.square {a b:En} {x:Int} (ha:a.ok) (hb:b.ok) (h:cF a b x):cF (eH a b) (fe a b) (dW x x):=by
 have:=DX ha hb (.inl rfl) h.lo h.hi
 rw[cY rfl rfl] at this
 exact⟨this.1,this.2⟩
theorem cF.of {lo hi b:Int} (hl:nn lo) (hh:nn hi) (hb:nn b) (pb:aC b=true) (h:aw lo<=aw b) (k:aw b<=aw hi):cF (ag lo) (ag hi) (aF b):=by
 have hf:¬ rg b=9218868437227405312:=by have:=(bp hb.1).1 pb;omega
 have h1:=iK hl hb h
 have h2:=iK hb hh k
 rw[dG hf] at h1 h2
 exact⟨h1,h2⟩
theorem cF.vldP {lo hi:Int} {V:Int} (hl:nn lo) (hh:nn hi) (h:cF (ag lo) (ag hi) V):M.aK lo hi=true:=by
 have hv:=h.vld
 rw[(dF hl).1,(dF hh).2] at hv
 obtain⟨v1,v2,v3,v4,v5⟩:=cW.1 hv
 rw[(co hl).1] at v3 v4
 rw[(co hh).1] at v3 v5
 exact cW.2 ⟨hl.2,hh.2,v3,v4,v5⟩
theorem s8 {p:Int} (h:nn p):ag (az p)=ag p:=by
 by_cases h0:aE p=0
 ·have hz:=(ew h.1).2.1 h0
  have hc:az p=0:=by unfold az;rw[if_neg h.2,if_pos h0]
  rw[hc,us,dG (by omega)]
  rcases ur h.1 hz with rfl|rfl
  ·rw[gF.1]
  ·rw[gF.2]
 ·have hc:az p=p:=by unfold az;rw[if_neg h.2,if_neg h0]
  rw[hc]
theorem D1 (W:World):Calls prog 77 #[.float .f64 4607182418800017408] W fun e w'=>e=.returned (.float .f64 4607182418800017408)∧w'=W:=by
 have:=jM (b:=4607182418800017408) (by unfold au;omega) W
 rw[show wd 4607182418800017408=4607182418800017408 by decide,show rg 4607182418800017408=4607182418800017408 by decide,show wd 4607182418800017408=4607182418800017408 by decide] at this
 exact this
theorem F0 (W:World):Calls prog 77 #[.float .f64 4611686018427387904] W fun e w'=>e=.returned (.float .f64 4611686018427387904)∧w'=W:=by
 have:=jM (b:=4611686018427387904) (by unfold au;omega) W
 rw[show wd 4611686018427387904=4611686018427387904 by decide,show rg 4611686018427387904=4611686018427387904 by decide,show wd 4611686018427387904=4611686018427387904 by decide] at this
 exact this
theorem Fq (w:World) :
  Calls prog 58 #[.float .f64 4607182418800017408,.float .f64 4607182418800017408] w fun e w'=>e=.returned (.agg #[.float .f64 4611686018427387904,.float .f64 4611686018427387904])∧w'=(w.alloc (.cells #[.float .f64 4611686018427387904,.float .f64 4611686018427387904] 64)).alloc (.cells #[.float .f64 4611686018427387904,.float .f64 4611686018427387904] 64):=by
 have hst:∀ (p:Addr) (n:Nat) (m:Mode) (w:World),(store p (.float .f64 n) m).run prog w=stored prog w p (.float .f64 n) m:=fun p n m w=>run_store _ w p _ m rfl
 have o:FloatKind.f64.format.order 4607182418800017408 4607182418800017408=some .eq:=by decide +kernel
 have h1:∀ w:World,(binOp .add 62 (.float .f64 4607182418800017408) (.float .f64 4607182418800017408)).run prog w=.ok (.float .f64 4611686018427387904) w:=fun w=>by kernel_rfl
 have h2:∀ w:World,(binOp .sub 62 (.float .f64 4611686018427387904) (.float .f64 4607182418800017408)).run prog w=.ok (.float .f64 4607182418800017408) w:=fun w=>by kernel_rfl
 have h3:∀ w:World,(binOp .sub 62 (.float .f64 4607182418800017408) (.float .f64 4607182418800017408)).run prog w=.ok (.float .f64 0) w:=fun w=>by kernel_rfl
 have hg:=iY (w.alloc (.cells #[.float .f64 4611686018427387904,.float .f64 4611686018427387904] 64)) (.cells #[.float .f64 4611686018427387904,.float .f64 4611686018427387904] 64) rfl
 have hg0:((w.alloc (.cells #[.float .f64 4611686018427387904,.float .f64 4611686018427387904] 64)).alloc (.cells #[.float .f64 4611686018427387904,.float .f64 4611686018427387904] 64)).heap[w.heap.size]?=some (.cells #[.float .f64 4611686018427387904,.float .f64 4611686018427387904] 64 (0,0)):=aU w _ _
 have e0:=aa hg0 0 rfl
 have e1:=aa hg0 1 rfl
 go_enter func58,ntmps58
 go_wp2_with (first|(go_at_call 77;refine(D1 _).mono ?_;rintro _ _ ⟨rfl,rfl⟩)  | (go_at_call 78;refine(uo _ _).mono ?_;rintro _ _ ⟨rfl,rfl⟩))
 refine bodyPost_ret (v:=.agg #[.float .f64 4611686018427387904,.float .f64 4611686018427387904]) (by simp[results,results58,go_sem,e0,e1]) rfl ⟨rfl,rfl⟩
theorem Fr (w:World) :
  Calls prog 58 #[.float .f64 4607182418800017408,.float .f64 4611686018427387904] w fun e w'=>e=.returned (.agg #[.float .f64 4613937818241073152,.float .f64 4613937818241073152])∧w'=(w.alloc (.cells #[.float .f64 4613937818241073152,.float .f64 4613937818241073152] 64)).alloc (.cells #[.float .f64 4613937818241073152,.float .f64 4613937818241073152] 64):=by
 have hst:∀ (p:Addr) (n:Nat) (m:Mode) (w:World),(store p (.float .f64 n) m).run prog w=stored prog w p (.float .f64 n) m:=fun p n m w=>run_store _ w p _ m rfl
 have o:FloatKind.f64.format.order 4607182418800017408 4611686018427387904=some .lt:=by decide +kernel
 have h1:∀ w:World,(binOp .add 62 (.float .f64 4611686018427387904) (.float .f64 4607182418800017408)).run prog w=.ok (.float .f64 4613937818241073152) w:=fun w=>by kernel_rfl
 have h2:∀ w:World,(binOp .sub 62 (.float .f64 4613937818241073152) (.float .f64 4611686018427387904)).run prog w=.ok (.float .f64 4607182418800017408) w:=fun w=>by kernel_rfl
 have h3:∀ w:World,(binOp .sub 62 (.float .f64 4607182418800017408) (.float .f64 4607182418800017408)).run prog w=.ok (.float .f64 0) w:=fun w=>by kernel_rfl
 have hg:=iY (w.alloc (.cells #[.float .f64 4613937818241073152,.float .f64 4613937818241073152] 64)) (.cells #[.float .f64 4613937818241073152,.float .f64 4613937818241073152] 64) rfl
 have hg0:((w.alloc (.cells #[.float .f64 4613937818241073152,.float .f64 4613937818241073152] 64)).alloc (.cells #[.float .f64 4613937818241073152,.float .f64 4613937818241073152] 64)).heap[w.heap.size]?=some (.cells #[.float .f64 4613937818241073152,.float .f64 4613937818241073152] 64 (0,0)):=aU w _ _
 have e0:=aa hg0 0 rfl
 have e1:=aa hg0 1 rfl
 go_enter func58,ntmps58
 go_wp2_with (first|(go_at_call 77;refine(D1 _).mono ?_;rintro _ _ ⟨rfl,rfl⟩)|(go_at_call 77;refine(F0 _).mono ?_;rintro _ _ ⟨rfl,rfl⟩)  | (go_at_call 78;refine(uo _ _).mono ?_;rintro _ _ ⟨rfl,rfl⟩))
 refine bodyPost_ret (v:=.agg #[.float .f64 4613937818241073152,.float .f64 4613937818241073152]) (by simp[results,results58,go_sem,e0,e1]) rfl ⟨rfl,rfl⟩
theorem Fs (w:World) :
    Calls prog 36 #[.agg #[.float .f64 4607182418800017408,.float .f64 4607182418800017408],.agg #[.float .f64 4607182418800017408,.float .f64 4611686018427387904]] w fun e w'=>e=.returned (.agg #[.float .f64 4611686018427387904,.float .f64 4613937818241073152])∧Below w.heap.size w w':=by
  have hst:∀ (p:Addr) (n:Nat) (m:Mode) (w:World),(store p (.float .f64 n) m).run prog w=stored prog w p (.float .f64 n) m:=fun p n m w=>run_store _ w p _ m rfl
  obtain⟨q0,q1,q2,hs,hb3⟩:=gC w (.cells #[.float .f64 4607182418800017408,.float .f64 4607182418800017408] 64) (.cells #[.float .f64 4607182418800017408,.float .f64 4611686018427387904] 64) (.cells #[.float .f64 0,.float .f64 0] 64)
  have k0:=aa q0 0 rfl
  have k1:=aa q0 1 rfl
  have k2:=aa q1 0 rfl
  have k3:=aa q1 1 rfl
  have S1:Hid (∀ W,Calls prog 58 #[.float .f64 4607182418800017408,.float .f64 4607182418800017408] W fun e w'=>e=.returned (.agg #[.float .f64 4611686018427387904,.float .f64 4611686018427387904])∧Below W.heap.size W w'):=fun W=>(Fq W).mono fun _ _ ⟨h1,h2⟩=>⟨h1,by rw[h2];exact ar W _ _⟩
  have S2:Hid (∀ W,Calls prog 58 #[.float .f64 4607182418800017408,.float .f64 4611686018427387904] W fun e w'=>e=.returned (.agg #[.float .f64 4613937818241073152,.float .f64 4613937818241073152])∧Below W.heap.size W w'):=fun W=>(Fr W).mono fun _ _ ⟨h1,h2⟩=>⟨h1,by rw[h2];exact ar W _ _⟩
  go_enter func36,ntmps36
  go_wp2_with fail
  generalize ((w.alloc (.cells #[.float .f64 4607182418800017408,.float .f64 4607182418800017408] 64)).alloc (.cells #[.float .f64 4607182418800017408,.float .f64 4611686018427387904] 64)).alloc (.cells #[.float .f64 0,.float .f64 0] 64)=wx at *
  obtain⟨g,hg⟩:∃ g,w.heap.size+1+1=g:=⟨_,rfl⟩
  have hwg:w.heap.size+2<=g:=by omega
  replace q2:wx.drew.heap[g]?=some (.cells #[.float .f64 0,.float .f64 0] 64 (0,0)):=by rw[<- hg];exact q2
  simp only[hg]
  clear hg hst
  have hc:(w.heap.size<w.heap.size+2∧w.heap.size+1<w.heap.size+2∧w.heap.size+2<=wx.drew.heap.size)∧wx.drew.cell? ⟨w.heap.size,0,none⟩=some (.float .f64 4607182418800017408)∧wx.drew.cell? ⟨w.heap.size,1,none⟩=some (.float .f64 4607182418800017408)∧wx.drew.cell? ⟨w.heap.size+1,0,none⟩=some (.float .f64 4607182418800017408)∧wx.drew.cell? ⟨w.heap.size+1,1,none⟩=some (.float .f64 4611686018427387904):=⟨⟨by omega,by omega,by show _<=wx.heap.size;omega⟩,k0,k1,k2,k3⟩
  have hbd:=hb3.drew
  have fl0:∀ w:World,(Instr.field 64 (.agg #[.float .f64 4611686018427387904,.float .f64 4611686018427387904]) 0).run prog w=.ok (.float .f64 4611686018427387904) w:=fun w=>by kernel_rfl
  have fl1:∀ w:World,(Instr.field 64 (.agg #[.float .f64 4613937818241073152,.float .f64 4613937818241073152]) 1).run prog w=.ok (.float .f64 4613937818241073152) w:=fun w=>by kernel_rfl
  clear q0 q1 k0 k1 k2 k3
  go_region_held3 (fun W=>(w.heap.size<w.heap.size+2∧w.heap.size+1<w.heap.size+2∧w.heap.size+2<=W.heap.size)∧W.cell? ⟨w.heap.size,0,none⟩=some (.float .f64 4607182418800017408)∧W.cell? ⟨w.heap.size,1,none⟩=some (.float .f64 4607182418800017408)∧W.cell? ⟨w.heap.size+1,0,none⟩=some (.float .f64 4607182418800017408)∧W.cell? ⟨w.heap.size+1,1,none⟩=some (.float .f64 4611686018427387904))
    (first|assumption|(repeat (first|exact hc|exact hc1|exact hc2|refine jN ?_|refine kT (by omega) ?_)))
    (first
      | (go_at_call 58;have _t:=hb4;refine(S2.out _).mono ?_;rintro _ w2 ⟨rfl,hb5⟩;have hc2:=iZ hc1 hb5;have d2:=((ab hb4 hb5).block _ (aGe q2).1).trans q2;have d3:=aj d2 0 (.float .f64 4611686018427387904);have d4:=aj d3 1 (.float .f64 4613937818241073152);have f0:=aa d2 0 rfl;have z0:=af d2 0;have f1:=aa d3 1 rfl;have z1:=af d3 1;have s0:(store ⟨g,0,none⟩ (.float .f64 4611686018427387904)).run prog w2=.ok () (w2.setCell ⟨g,0,none⟩ (.float .f64 4611686018427387904)):=(by rw[run_store _ _ _ _ _ rfl,f0];simp only[z0];rfl);have s1:(store ⟨g,1,none⟩ (.float .f64 4613937818241073152)).run prog (w2.setCell ⟨g,0,none⟩ (.float .f64 4611686018427387904))=.ok () ((w2.setCell ⟨g,0,none⟩ (.float .f64 4611686018427387904)).setCell ⟨g,1,none⟩ (.float .f64 4613937818241073152)):=(by rw[run_store _ _ _ _ _ rfl,f1];simp only[z1];rfl))
      | (go_at_call 58; refine (S1.out _).mono ?_; rintro _ w1 ⟨rfl,hb4⟩; have hc1:=iZ hc hb4))
  have e0:=aa d4 0 rfl
  have e1:=aa d4 1 rfl
  have hbe:=((ab hbd (ab hb4 hb5)).setCell (p:=⟨g,0,none⟩) (show w.heap.size<=g by omega) (.float .f64 4611686018427387904)).setCell (p:=⟨g,1,none⟩) (show w.heap.size<=g by omega) (.float .f64 4613937818241073152)
  clear d2 d3 d4 f0 f1 z0 z1 s0 s1 hc hc1 hc2
  generalize (w2.setCell ⟨g,0,none⟩ (.float .f64 4611686018427387904)).setCell ⟨g,1,none⟩ (.float .f64 4613937818241073152)=wy at *
  go_wp2
  refine bodyPost_ret (v:=.agg #[.float .f64 4611686018427387904,.float .f64 4613937818241073152]) (by simp[results,results36,go_sem,e0,e1]) rfl ⟨rfl,hbe⟩
theorem F1 (w:World) (L:eI w) :
    Calls prog 8 #[.agg #[.int .i64 4607182418800017408,.int .i64 4607182418800017408],.agg #[.int .i64 4607182418800017408,.int .i64 4611686018427387904]] w fun e w'=>e=.returned (.tuple #[.agg #[.int .i64 4611686018427387904,.int .i64 4613937818241073152],.int .i64 0])∧Below w.heap.size w w':=by
  have w1:wd 4607182418800017408=4607182418800017408:=by decide
  have w2:wd 4611686018427387904=4611686018427387904:=by decide
  have w3:wd 4613937818241073152=4613937818241073152:=by decide
  have r1:au 4607182418800017408:=by unfold au;omega
  have r2:au 4611686018427387904:=by unfold au;omega
  have r3:au 4613937818241073152:=by unfold au;omega
  have hE:∀ (cap:Array Value) (w:World),(callFunc 36 cap).run prog w=.ok (.enter 36 cap) w:=by
    intro cap w
    simp[go_sem]
  have CJ:Hid (∀ W,eI W->Calls prog 35 #[.agg #[.int .i64 4607182418800017408,.int .i64 4607182418800017408],.agg #[.int .i64 4607182418800017408,.int .i64 4611686018427387904],.func (.func 36) #[] #[]] W fun e w'=>e=.returned (.tuple #[.agg #[.int .i64 4611686018427387904,.int .i64 4613937818241073152],.int .i64 0])∧Below W.heap.size W w'):=fun W LW=>by
    have:=qw (x:=4611686018427387904) (y:=4613937818241073152) _ r1 r1 r1 r2 W LW hE (fun _ _=>⟨⟨r2,by decide⟩,⟨r3,by decide⟩,fun W' _=>by
      unfold bU
      rw[w1,w2,w3]
      exact Fs W'⟩)
    rw[show aK 4607182418800017408 4607182418800017408=true by decide,show aK 4607182418800017408 4611686018427387904=true by decide,show az 4611686018427387904=4611686018427387904 by decide,show az 4613937818241073152=4613937818241073152 by decide] at this
    exact this
  obtain⟨q0,q1,q2,hs,hb3⟩:=gC w (.cells #[.int .i64 4607182418800017408,.int .i64 4607182418800017408] 23) (.cells #[.int .i64 4607182418800017408,.int .i64 4611686018427387904] 23) (.cells #[.int .i64 0,.int .i64 0] 23)
  have L2:=L.below' hb3
  clear w1 w2 w3 r1 r2 r3
  go_enter func8,ntmps8
  go_wp2_with fail
  generalize ((w.alloc (.cells #[.int .i64 4607182418800017408,.int .i64 4607182418800017408] 23)).alloc (.cells #[.int .i64 4607182418800017408,.int .i64 4611686018427387904] 23)).alloc (.cells #[.int .i64 0,.int .i64 0] 23)=wx at *
  refine(CJ.out _ L2).mono ?_
  rintro _ w1 ⟨rfl,hb4⟩
  have d2:=(hb4.block _ (aGe q2).1).trans q2
  have d3:=aj d2 0 (.int .i64 4611686018427387904)
  have d4:=aj d3 1 (.int .i64 4613937818241073152)
  have f0:=aa d2 0 rfl
  have z0:=af d2 0
  have f1:=aa d3 1 rfl
  have z1:=af d3 1
  have e0:=aa d4 0 rfl
  have e1:=aa d4 1 rfl
  have hbe:=((ab hb3 hb4).setCell (p:=⟨w.heap.size+1+1,0,none⟩) (show w.heap.size<=w.heap.size+1+1 by omega) (.int .i64 4611686018427387904)).setCell (p:=⟨w.heap.size+1+1,1,none⟩) (show w.heap.size<=w.heap.size+1+1 by omega) (.int .i64 4613937818241073152)
  clear d2 d3 d4 q0 q1 q2
  go_wp2
  refine bodyPost_ret (v:=.tuple #[.agg #[.int .i64 4611686018427387904,.int .i64 4613937818241073152],.int .i64 0]) (by simp[results,results8,go_sem,e0,e1]) rfl ⟨rfl,hbe⟩
theorem Ft (w:World) :
  Calls prog 9 #[.agg #[.int .i64 4611686018427387904,.int .i64 4613937818241073152]] w fun e w'=>e=.returned (.tuple #[.int .i64 1,.bool true,.int .i64 0])∧Below w.heap.size w w':=by
 have hst:∀ (p:Addr) (n:Nat) (m:Mode) (w:World),(store p (.float .f64 n) m).run prog w=stored prog w p (.float .f64 n) m:=fun p n m w=>run_store _ w p _ m rfl
 have w2:wd 4611686018427387904=4611686018427387904:=by decide
 have w3:wd 4613937818241073152=4613937818241073152:=by decide
 have r2:au 4611686018427387904:=by unfold au;omega
 have r3:au 4613937818241073152:=by unfold au;omega
 have o:FloatKind.f64.format.order 4611686018427387904 0=some .gt:=by decide +kernel
 have R1:Hid (∀ W,Calls prog 37 #[.agg #[.int .i64 4611686018427387904,.int .i64 4613937818241073152]] W fun e w'=>e=.returned (.agg #[.float .f64 4611686018427387904,.float .f64 4613937818241073152])∧Below W.heap.size W w'):=fun W=>by
  have:=fF 4611686018427387904 4613937818241073152 W
  unfold bf bU at this
  rw[w2,w3] at this
  exact this
 have V1:Hid (∀ W,Calls prog 38 #[.agg #[.float .f64 4611686018427387904,.float .f64 4613937818241073152]] W fun e w'=>e=.returned (.bool true)∧Below W.heap.size W w'):=fun W=>by
  have:=cM r2 r3 W
  unfold bU at this
  rw[w2,w3,show aK 4611686018427387904 4613937818241073152=true by decide] at this
  exact this
 have hb:=ae w (.cells #[.int .i64 4611686018427387904,.int .i64 4613937818241073152] 23)
 go_enter func9,ntmps9
 go_wp2_with fail
 generalize w.alloc (.cells #[.int .i64 4611686018427387904,.int .i64 4613937818241073152] 23)=wx at *
 refine(R1.out _).mono ?_
 rintro _ w1 ⟨rfl,hb1⟩
 have hba:=ae w1 (.cells #[.float .f64 4611686018427387904,.float .f64 4613937818241073152] 64)
 have hg:=iY w1 (.cells #[.float .f64 4611686018427387904,.float .f64 4613937818241073152] 64) rfl
 go_wp2_with fail
 generalize w1.alloc (.cells #[.float .f64 4611686018427387904,.float .f64 4613937818241073152] 64)=w2 at *
 refine(V1.out _).mono ?_
 rintro _ w3 ⟨rfl,hb2⟩
 have hg3:=(hb2.block _ (aGe hg).1).trans hg
 have c0:=aa hg3 0 rfl
 have c1:=aa hg3 1 rfl
 go_wp2
 refine bodyPost_ret (v:=.tuple #[.int .i64 1,.bool true,.int .i64 0]) (by simp[results,results9,go_sem]) rfl ⟨rfl,ab hb (ab hb1 (ab hba hb2))⟩
def o6 (a b:Int):Int:=if aK a b then (if 0<aw a then 1 else if aw b<0 then -1 else 0) else 0
def mJ (a b:Int):Bool:=aK a b&&(decide (0<aw a)||(decide (aw b<0)||(decide (aw a=0)&&decide (aw b=0))))
theorem D3 {a:Int} (ha:nn a):(0<aw a->FloatKind.f64.format.order (wd a) 0=some .gt)∧(aw a=0->FloatKind.f64.format.order (wd a) 0=some .eq)∧(aw a<0->FloatKind.f64.format.order (wd a) 0=some .lt):=by
 have w0:wd 0=0:=by decide
 have k0:aw 0=0:=by decide
 refine⟨fun g=>?_,fun g=>?_,fun g=>?_⟩
 ·have:=gM ha.1 dR.1.1 ha.2 dR.1.2 (by rw[k0];exact g);rw[w0] at this;exact this
 ·have:=gN ha.1 dR.1.1 ha.2 dR.1.2 (by rw[k0];exact g);rw[w0] at this;exact this
 ·have:=gL ha.1 dR.1.1 ha.2 dR.1.2 (by rw[k0];exact g);rw[w0] at this;exact this
theorem xN {a b:Int} (A B:Nat) (v kn:Bool) (n:Int) (er:Int) (w:World)
  (R1:Hid (∀ W,Calls prog 37 #[.agg #[.int .i64 a,.int .i64 b]] W fun e w'=>e=.returned (.agg #[.float .f64 A,.float .f64 B])∧Below W.heap.size W w'))
  (V1:Hid (∀ W,Calls prog 38 #[.agg #[.float .f64 A,.float .f64 B]] W fun e w'=>e=.returned (.bool v)∧Below W.heap.size W w'))
  (O:(v=false∧n=0∧kn=false∧er=1)∨(v=true∧er=0∧((FloatKind.f64.format.order A 0=some .gt∧n=1∧kn=true)∨((FloatKind.f64.format.order A 0=some .lt∨FloatKind.f64.format.order A 0=some .eq)∧FloatKind.f64.format.order B 0=some .lt∧n=-1∧kn=true)∨(FloatKind.f64.format.order A 0=some .lt∧(FloatKind.f64.format.order B 0=some .gt∨FloatKind.f64.format.order B 0=some .eq)∧n=0∧kn=false)∨(FloatKind.f64.format.order A 0=some .eq∧FloatKind.f64.format.order B 0=some .gt∧n=0∧kn=false)∨(FloatKind.f64.format.order A 0=some .eq∧FloatKind.f64.format.order B 0=some .eq∧n=0∧kn=true)))) :
  Calls prog 9 #[.agg #[.int .i64 a,.int .i64 b]] w fun e w'=>e=.returned (.tuple #[.int .i64 n,.bool kn,.int .i64 er])∧Below w.heap.size w w':=by
 have hst:∀ (p:Addr) (n:Nat) (m:Mode) (w:World),(store p (.float .f64 n) m).run prog w=stored prog w p (.float .f64 n) m:=fun p n m w=>run_store _ w p _ m rfl
 have QX:∀ (x:Nat) W,(Op.equalIn 9999 62 (.float .f64 x) (.float .f64 0)).run prog W=.ok (FloatKind.f64.format.order x 0 == some .eq) W:=fun x W=>by rw[pL W 9998 62 _ x 0 underlying62]
 have hb:=ae w (.cells #[.int .i64 a,.int .i64 b] 23)
 rcases O with⟨rfl,rfl,rfl,rfl⟩|⟨rfl,rfl,O⟩
 ·go_enter func9,ntmps9
  go_wp2_with fail
  generalize w.alloc (.cells #[.int .i64 a,.int .i64 b] 23)=wx at *
  refine(R1.out _).mono ?_
  rintro _ w1 ⟨rfl,hb1⟩
  have hba:=ae w1 (.cells #[.float .f64 A,.float .f64 B] 64)
  have hg:=iY w1 (.cells #[.float .f64 A,.float .f64 B] 64) rfl
  go_wp2_with fail
  generalize w1.alloc (.cells #[.float .f64 A,.float .f64 B] 64)=w2 at *
  refine(V1.out _).mono ?_
  rintro _ w3 ⟨rfl,hb2⟩
  go_wp2
  refine bodyPost_ret (v:=.tuple #[.int .i64 0,.bool false,.int .i64 1]) (by simp[results,results9,go_sem]) rfl ⟨rfl,ab hb (ab hb1 (ab hba hb2))⟩
 ·rcases O with⟨o1,rfl,rfl⟩|⟨o1|o1,o2,rfl,rfl⟩|⟨o1,o2|o2,rfl,rfl⟩|⟨o1,o2,rfl,rfl⟩|⟨o1,o2,rfl,rfl⟩
  all_goals
   go_enter func9,ntmps9
   go_wp2_with fail
   generalize w.alloc (.cells #[.int .i64 a,.int .i64 b] 23)=wx at *
   refine(R1.out _).mono ?_
   rintro _ w1 ⟨rfl,hb1⟩
   have hba:=ae w1 (.cells #[.float .f64 A,.float .f64 B] 64)
   have hg:=iY w1 (.cells #[.float .f64 A,.float .f64 B] 64) rfl
   go_wp2_with fail
   generalize w1.alloc (.cells #[.float .f64 A,.float .f64 B] 64)=w2 at *
   refine(V1.out _).mono ?_
   rintro _ w3 ⟨rfl,hb2⟩
   have hg3:=(hb2.block _ (aGe hg).1).trans hg
   have c0:w3.cell? ⟨w1.heap.size,0,none⟩=some (.float .f64 A):=aa hg3 0 rfl
   have c1:w3.cell? ⟨w1.heap.size,1,none⟩=some (.float .f64 B):=aa hg3 1 rfl
   have kd:w3.drew.cell? ⟨w1.heap.size,0,none⟩=some (.float .f64 A)∧w3.drew.cell? ⟨w1.heap.size,1,none⟩=some (.float .f64 B):=⟨c0,c1⟩
  ·go_wp2
   refine bodyPost_ret (v:=.tuple #[.int .i64 1,.bool true,.int .i64 0]) (by simp[results,results9,go_sem]) rfl ⟨rfl,ab hb (ab hb1 (ab hba hb2))⟩
  iterate 2
   ·go_wp2
    refine bodyPost_ret (v:=.tuple #[.int .i64 (-1),.bool true,.int .i64 0]) (by simp[results,results9,go_sem]) rfl ⟨rfl,ab hb (ab hb1 (ab hba hb2))⟩
  all_goals
   have QA:=fun W=>QX A W
   have QB:=fun W=>QX B W
   rw[o1] at QA
   rw[o2] at QB
   clear QX
   go_wp2_with fail
   go_region_held3 (fun W=>W.cell? ⟨w1.heap.size,0,none⟩=some (.float .f64 A)∧W.cell? ⟨w1.heap.size,1,none⟩=some (.float .f64 B)) (first|assumption|exact kd) (fail)
   go_wp2
  iterate 3
   ·exact bodyPost_ret (v:=.tuple #[.int .i64 0,.bool false,.int .i64 0]) (by simp[results,results9,go_sem]) rfl ⟨rfl,(ab hb (ab hb1 (ab hba hb2))).drew⟩
  ·exact bodyPost_ret (v:=.tuple #[.int .i64 0,.bool true,.int .i64 0]) (by simp[results,results9,go_sem]) rfl ⟨rfl,(ab hb (ab hb1 (ab hba hb2))).drew⟩
theorem qC {a b:Int} (ha:au a) (hb:au b) (w:World) :
  Calls prog 9 #[bf a b] w fun e w'=>e=.returned (.tuple #[.int .i64 (o6 a b),.bool (mJ a b),.int .i64 (dO (aK a b))])∧Below w.heap.size w w':=by
 refine xN (wd a) (wd b) (aK a b) (mJ a b) (o6 a b) (dO (aK a b)) w (fun W=>fF a b W) (fun W=>cM ha hb W) ?_
 cases hv:aK a b
 ·left
  unfold o6 mJ dO
  rw[hv]
  simp
 ·right
  obtain⟨va,vb,h1,h2,h3⟩:=cW.1 hv
  obtain⟨a1,a2,a3⟩:=D3 ⟨ha,va⟩
  obtain⟨b1,b2,b3⟩:=D3 ⟨hb,vb⟩
  refine⟨rfl,rfl,?_⟩
  unfold o6 mJ
  rw[hv]
  simp only[if_true,Bool.true_and]
  by_cases p1:0<aw a
  ·left
   exact⟨a1 p1,if_pos p1,by simp[p1]⟩
  ·right
   have p1':aw a<0∨aw a=0:=by omega
   by_cases p2:aw b<0
   ·left
    exact⟨p1'.imp a3 a2,b3 p2,by rw[if_neg p1,if_pos p2],by simp[p2]⟩
   ·right
    have q0:decide (0<aw a)=false:=decide_eq_false p1
    have q1:decide (aw b<0)=false:=decide_eq_false p2
    rw[if_neg p1,if_neg p2,q0,q1]
    simp only[Bool.false_or]
    rcases p1' with p3|p3
    ·left
     refine⟨a3 p3,?_,by first|rfl|trivial,by rw[decide_eq_false (by omega)];rfl⟩
     rcases (show 0<aw b∨aw b=0 by omega) with q|q
     ·exact .inl (b1 q)
     ·exact .inr (b2 q)
    ·right
     rcases (show 0<aw b∨aw b=0 by omega) with q|q
     ·left
      exact⟨a2 p3,b1 q,by first|rfl|trivial,by rw[decide_eq_false (show ¬ aw b=0 by omega)];simp⟩
     ·right
      exact⟨a2 p3,b2 q,by first|rfl|trivial,by rw[decide_eq_true p3,decide_eq_true q];rfl⟩
theorem s9 {a b c d l l' h' h:Nat} (w:World)
    (S1:Hid (∀ W,Calls prog 58 #[.float .f64 a,.float .f64 c] W fun e w'=>e=.returned (.agg #[.float .f64 l,.float .f64 l'])∧Below W.heap.size W w'))
    (S2:Hid (∀ W,Calls prog 58 #[.float .f64 b,.float .f64 d] W fun e w'=>e=.returned (.agg #[.float .f64 h',.float .f64 h])∧Below W.heap.size W w')) :
    Calls prog 36 #[.agg #[.float .f64 a,.float .f64 b],.agg #[.float .f64 c,.float .f64 d]] w fun e w'=>e=.returned (.agg #[.float .f64 l,.float .f64 h])∧Below w.heap.size w w':=by
  obtain⟨q0,q1,q2,hs,hb3⟩:=gC w (.cells #[.float .f64 a,.float .f64 b] 64) (.cells #[.float .f64 c,.float .f64 d] 64) (.cells #[.float .f64 0,.float .f64 0] 64)
  have k0:=aa q0 0 rfl
  have k1:=aa q0 1 rfl
  have k2:=aa q1 0 rfl
  have k3:=aa q1 1 rfl
  go_enter func36,ntmps36
  go_wp2_with fail
  generalize ((w.alloc (.cells #[.float .f64 a,.float .f64 b] 64)).alloc (.cells #[.float .f64 c,.float .f64 d] 64)).alloc (.cells #[.float .f64 0,.float .f64 0] 64)=wx at *
  obtain⟨g,hg⟩:∃ g,w.heap.size+1+1=g:=⟨_,rfl⟩
  have hwg:w.heap.size+2<=g:=by omega
  replace q2:wx.drew.heap[g]?=some (.cells #[.float .f64 0,.float .f64 0] 64 (0,0)):=by rw[<- hg];exact q2
  simp only[hg]
  clear hg
  have hc:(w.heap.size<w.heap.size+2∧w.heap.size+1<w.heap.size+2∧w.heap.size+2<=wx.drew.heap.size)∧wx.drew.cell? ⟨w.heap.size,0,none⟩=some (.float .f64 a)∧wx.drew.cell? ⟨w.heap.size,1,none⟩=some (.float .f64 b)∧wx.drew.cell? ⟨w.heap.size+1,0,none⟩=some (.float .f64 c)∧wx.drew.cell? ⟨w.heap.size+1,1,none⟩=some (.float .f64 d):=⟨⟨by omega,by omega,by show _<=wx.heap.size;omega⟩,k0,k1,k2,k3⟩
  have hbd:=hb3.drew
  have fl0:∀ w:World,(Instr.field 64 (.agg #[.float .f64 l,.float .f64 l']) 0).run prog w=.ok (.float .f64 l) w:=fun w=>by kernel_rfl
  have fl1:∀ w:World,(Instr.field 64 (.agg #[.float .f64 h',.float .f64 h]) 1).run prog w=.ok (.float .f64 h) w:=fun w=>by kernel_rfl
  clear q0 q1 k0 k1 k2 k3
  go_region_held3 (fun W=>(w.heap.size<w.heap.size+2∧w.heap.size+1<w.heap.size+2∧w.heap.size+2<=W.heap.size)∧W.cell? ⟨w.heap.size,0,none⟩=some (.float .f64 a)∧W.cell? ⟨w.heap.size,1,none⟩=some (.float .f64 b)∧W.cell? ⟨w.heap.size+1,0,none⟩=some (.float .f64 c)∧W.cell? ⟨w.heap.size+1,1,none⟩=some (.float .f64 d))
    (first|assumption|(repeat (first|exact hc|exact hc1|exact hc2|refine jN ?_|refine kT (by omega) ?_)))
    (first
      | (go_at_call 58;have _t:=hb4;refine(S2.out _).mono ?_;rintro _ w2 ⟨rfl,hb5⟩;have hc2:=iZ hc1 hb5;have d2:=((ab hb4 hb5).block _ (aGe q2).1).trans q2;have d3:=aj d2 0 (.float .f64 l);have d4:=aj d3 1 (.float .f64 h);have f0:=aa d2 0 rfl;have z0:=af d2 0;have f1:=aa d3 1 rfl;have z1:=af d3 1;have s0:(store ⟨g,0,none⟩ (.float .f64 l)).run prog w2=.ok () (w2.setCell ⟨g,0,none⟩ (.float .f64 l)):=(by rw[run_store _ _ _ _ _ rfl,f0];simp only[z0];rfl);have s1:(store ⟨g,1,none⟩ (.float .f64 h)).run prog (w2.setCell ⟨g,0,none⟩ (.float .f64 l))=.ok () ((w2.setCell ⟨g,0,none⟩ (.float .f64 l)).setCell ⟨g,1,none⟩ (.float .f64 h)):=(by rw[run_store _ _ _ _ _ rfl,f1];simp only[z1];rfl))
      | (go_at_call 58; refine (S1.out _).mono ?_; rintro _ w1 ⟨rfl,hb4⟩; have hc1:=iZ hc hb4))
  have e0:=aa d4 0 rfl
  have e1:=aa d4 1 rfl
  have hbe:=((ab hbd (ab hb4 hb5)).setCell (p:=⟨g,0,none⟩) (show w.heap.size<=g by omega) (.float .f64 l)).setCell (p:=⟨g,1,none⟩) (show w.heap.size<=g by omega) (.float .f64 h)
  clear d2 d3 d4 f0 f1 z0 z1 s0 s1 hc hc1 hc2
  generalize (w2.setCell ⟨g,0,none⟩ (.float .f64 l)).setCell ⟨g,1,none⟩ (.float .f64 h)=wy at *
  go_wp2
  refine bodyPost_ret (v:=.agg #[.float .f64 l,.float .f64 h]) (by simp[results,results36,go_sem,e0,e1]) rfl ⟨rfl,hbe⟩
theorem vO {w0 w:World} {g:Nat} (h:Below w0.heap.size w0 w) (hg:w0.heap.size<=g) (a b:Value):Below w0.heap.size w0 ((w.setCell ⟨g,0,none⟩ a).setCell ⟨g,1,none⟩ b):=(h.setCell (p:=⟨g,0,none⟩) hg a).setCell (p:=⟨g,1,none⟩) hg b
theorem tA {a b l h l2 h2 m x:Nat} (w:World) (H:ax w)
    (S0:Hid (∀ W,ax W->Calls prog 66 #[.float .f64 a,.float .f64 a] W fun e w'=>e=.returned (.agg #[.float .f64 l,.float .f64 h])∧Below W.heap.size W w'))
    (S1:Hid (∀ W,ax W->Calls prog 66 #[.float .f64 b,.float .f64 b] W fun e w'=>e=.returned (.agg #[.float .f64 l2,.float .f64 h2])∧Below W.heap.size W w'))
    (J:Hid (∀ W,Calls prog 48 #[.agg #[.float .f64 l,.float .f64 h],.agg #[.float .f64 l2,.float .f64 h2]] W fun e w'=>e=.returned (.agg #[.float .f64 m,.float .f64 x])∧Below W.heap.size W w'))
    (u:Nat) (O:(FloatKind.f64.format.order a 0=some .gt∧u=m)∨((FloatKind.f64.format.order a 0=some .lt∨FloatKind.f64.format.order a 0=some .eq)∧FloatKind.f64.format.order b 0=some .lt∧u=m)∨((FloatKind.f64.format.order a 0=some .lt∨FloatKind.f64.format.order a 0=some .eq)∧(FloatKind.f64.format.order b 0=some .gt∨FloatKind.f64.format.order b 0=some .eq)∧u=0)) :
    Calls prog 44 #[.agg #[.float .f64 a,.float .f64 b]] w fun e w'=>e=.returned (.agg #[.float .f64 u,.float .f64 x])∧Below w.heap.size w w':=by
  have hst:∀ (p:Addr) (x:Nat) (m:Mode) (w:World),(store p (.float .f64 x) m).run prog w=stored prog w p (.float .f64 x) m:=fun p x m w=>run_store _ w p _ m rfl
  have hb2:=ar w (.cells #[.float .f64 a,.float .f64 b] 64) (.cells #[.float .f64 0,.float .f64 0] 64)
  have q0:=aU w (.cells #[.float .f64 a,.float .f64 b] 64) (.cells #[.float .f64 0,.float .f64 0] 64)
  have q1:=aR w (.cells #[.float .f64 a,.float .f64 b] 64) (.cells #[.float .f64 0,.float .f64 0] 64)
  go_enter func44,ntmps44
  go_wp2_with fail
  generalize ((w.alloc (.cells #[.float .f64 a,.float .f64 b] 64)).alloc (.cells #[.float .f64 0,.float .f64 0] 64))=xw at q0 q1 hb2 ⊢
  have KK:∀ W,Below xw.heap.size xw W->W.cell? ⟨w.heap.size,0,none⟩=some (.float .f64 a)∧W.cell? ⟨w.heap.size,1,none⟩=some (.float .f64 b):=fun W hb=>⟨aa (ac hb q0) 0 rfl,aa (ac hb q0) 1 rfl⟩
  rename_i Q0 K1 hK1
  have HN:∀ (gA:Nat) (X:World) (t:Array Value),#[t.getD 0 undef,.pointer (some ⟨w.heap.size,0,none⟩),.pointer (some ⟨w.heap.size+1,0,none⟩),.pointer (some ⟨gA,0,none⟩),t.getD 4 undef,t.getD 5 undef,t.getD 6 undef,t.getD 7 undef,t.getD 8 undef,t.getD 9 undef,t.getD 10 undef,t.getD 11 undef,t.getD 12 undef,t.getD 13 undef,t.getD 14 undef,t.getD 15 undef,t.getD 16 undef,t.getD 17 undef,t.getD 18 undef,t.getD 19 undef,t.getD 20 undef,t.getD 21 undef,t.getD 22 undef,t.getD 23 undef,t.getD 24 undef]=t->X.heap[gA]?=some (.cells #[.float .f64 m,.float .f64 x] 64 (0,0))->Below xw.heap.size xw X->xw.heap.size<=gA->Exit.then K1 Q0 Exit.normal { tmps:=t,defers:=[] } X:=by
    intro gA X t ht n_k hX hgA
    obtain⟨t',hu⟩:∃ t':Nat->Value,t=#[t' 0,.pointer (some ⟨w.heap.size,0,none⟩),.pointer (some ⟨w.heap.size+1,0,none⟩),.pointer (some ⟨gA,0,none⟩),t' 4,t' 5,t' 6,t' 7,t' 8,t' 9,t' 10,t' 11,t' 12,t' 13,t' 14,t' 15,t' 16,t' 17,t' 18,t' 19,t' 20,t' 21,t' 22,t' 23,t' 24]:=⟨fun k=>t.getD k undef,ht.symm⟩
    clear ht
    subst hu
    clear S0 S1 J
    have A0:=ac hX q0
    have i0:=aa A0 0 rfl
    have i1:=aa A0 1 rfl
    have n0:=aa n_k 0 rfl
    have n1:=aa n_k 1 rfl
    have m0:=af n_k 0
    have r_k:=ac hX q1
    have hne:gA≠w.heap.size+1:=by
      have:=(aGe q1).1
      omega
    have N1:=aj n_k 0 (.float .f64 0)
    have n2:=aa N1 0 rfl
    have n3:=aa N1 1 rfl
    have R1:(X.setCell ⟨gA,0,none⟩ (.float .f64 0)).heap[w.heap.size+1]?=some (.cells #[.float .f64 0,.float .f64 0] 64 (0,0)):=by
      rw[heap_setCell_other _ ⟨gA,_,none⟩ (w.heap.size+1) _ (Ne.symm hne)]
      exact r_k
    have hBX:=ab hb2 hX
    have hgw:w.heap.size<=gA:=Nat.le_trans hb2.size hgA
    have hBX1:=hBX.setCell (p:=⟨gA,0,none⟩) hgw (.float .f64 0)
    clear KK q0 q1 N1 A0
    rcases O with⟨o,rfl⟩|⟨o|o,o2,rfl⟩|⟨o|o,o2|o2,rfl⟩
    · have d3:=aj r_k 0 (.float .f64 u)
      have d4:=aj d3 1 (.float .f64 x)
      have f0:=aa r_k 0 rfl
      have z0:=af r_k 0
      have f1:=aa d3 1 rfl
      have z1:=af d3 1
      have e0:=aa d4 0 rfl
      have e1:=aa d4 1 rfl
      have hbe:=(hBX.setCell (p:=⟨w.heap.size+1,0,none⟩) (Nat.le_succ _) (.float .f64 u)).setCell (p:=⟨w.heap.size+1,1,none⟩) (Nat.le_succ _) (.float .f64 x)
      clear d3 d4
      go_wp2
      refine bodyPost_ret (v:=.agg #[.float .f64 u,.float .f64 x]) (by simp[results,results44,go_sem,e0,e1]) rfl ⟨rfl,hbe⟩
    · have d3:=aj r_k 0 (.float .f64 u)
      have d4:=aj d3 1 (.float .f64 x)
      have f0:=aa r_k 0 rfl
      have z0:=af r_k 0
      have f1:=aa d3 1 rfl
      have z1:=af d3 1
      have e0:=aa d4 0 rfl
      have e1:=aa d4 1 rfl
      have hbe:=(hBX.setCell (p:=⟨w.heap.size+1,0,none⟩) (Nat.le_succ _) (.float .f64 u)).setCell (p:=⟨w.heap.size+1,1,none⟩) (Nat.le_succ _) (.float .f64 x)
      clear d3 d4
      go_wp2
      refine bodyPost_ret (v:=.agg #[.float .f64 u,.float .f64 x]) (by simp[results,results44,go_sem,e0,e1]) rfl ⟨rfl,hbe⟩
    · have d3:=aj r_k 0 (.float .f64 u)
      have d4:=aj d3 1 (.float .f64 x)
      have f0:=aa r_k 0 rfl
      have z0:=af r_k 0
      have f1:=aa d3 1 rfl
      have z1:=af d3 1
      have e0:=aa d4 0 rfl
      have e1:=aa d4 1 rfl
      have hbe:=(hBX.setCell (p:=⟨w.heap.size+1,0,none⟩) (Nat.le_succ _) (.float .f64 u)).setCell (p:=⟨w.heap.size+1,1,none⟩) (Nat.le_succ _) (.float .f64 x)
      clear d3 d4
      go_wp2
      refine bodyPost_ret (v:=.agg #[.float .f64 u,.float .f64 x]) (by simp[results,results44,go_sem,e0,e1]) rfl ⟨rfl,hbe⟩
    · have d3:=aj R1 0 (.float .f64 0)
      have d4:=aj d3 1 (.float .f64 x)
      have f0:=aa R1 0 rfl
      have z0:=af R1 0
      have f1:=aa d3 1 rfl
      have z1:=af d3 1
      have e0:=aa d4 0 rfl
      have e1:=aa d4 1 rfl
      have hbe:=(hBX1.setCell (p:=⟨w.heap.size+1,0,none⟩) (Nat.le_succ _) (.float .f64 0)).setCell (p:=⟨w.heap.size+1,1,none⟩) (Nat.le_succ _) (.float .f64 x)
      clear d3 d4
      go_wp2
      refine bodyPost_ret (v:=.agg #[.float .f64 0,.float .f64 x]) (by simp[results,results44,go_sem,e0,e1]) rfl ⟨rfl,hbe⟩
    · have d3:=aj R1 0 (.float .f64 0)
      have d4:=aj d3 1 (.float .f64 x)
      have f0:=aa R1 0 rfl
      have z0:=af R1 0
      have f1:=aa d3 1 rfl
      have z1:=af d3 1
      have e0:=aa d4 0 rfl
      have e1:=aa d4 1 rfl
      have hbe:=(hBX1.setCell (p:=⟨w.heap.size+1,0,none⟩) (Nat.le_succ _) (.float .f64 0)).setCell (p:=⟨w.heap.size+1,1,none⟩) (Nat.le_succ _) (.float .f64 x)
      clear d3 d4
      go_wp2
      refine bodyPost_ret (v:=.agg #[.float .f64 0,.float .f64 x]) (by simp[results,results44,go_sem,e0,e1]) rfl ⟨rfl,hbe⟩
    · have d3:=aj R1 0 (.float .f64 0)
      have d4:=aj d3 1 (.float .f64 x)
      have f0:=aa R1 0 rfl
      have z0:=af R1 0
      have f1:=aa d3 1 rfl
      have z1:=af d3 1
      have e0:=aa d4 0 rfl
      have e1:=aa d4 1 rfl
      have hbe:=(hBX1.setCell (p:=⟨w.heap.size+1,0,none⟩) (Nat.le_succ _) (.float .f64 0)).setCell (p:=⟨w.heap.size+1,1,none⟩) (Nat.le_succ _) (.float .f64 x)
      clear d3 d4
      go_wp2
      refine bodyPost_ret (v:=.agg #[.float .f64 0,.float .f64 x]) (by simp[results,results44,go_sem,e0,e1]) rfl ⟨rfl,hbe⟩
    · have d3:=aj R1 0 (.float .f64 0)
      have d4:=aj d3 1 (.float .f64 x)
      have f0:=aa R1 0 rfl
      have z0:=af R1 0
      have f1:=aa d3 1 rfl
      have z1:=af d3 1
      have e0:=aa d4 0 rfl
      have e1:=aa d4 1 rfl
      have hbe:=(hBX1.setCell (p:=⟨w.heap.size+1,0,none⟩) (Nat.le_succ _) (.float .f64 0)).setCell (p:=⟨w.heap.size+1,1,none⟩) (Nat.le_succ _) (.float .f64 x)
      clear d3 d4
      go_wp2
      refine bodyPost_ret (v:=.agg #[.float .f64 0,.float .f64 x]) (by simp[results,results44,go_sem,e0,e1]) rfl ⟨rfl,hbe⟩
  have hxr:=ap xw
  have hx0:=(ap xw).drew
  go_region_held3 (fun W=>W.cell? ⟨w.heap.size,0,none⟩=some (.float .f64 a)∧W.cell? ⟨w.heap.size,1,none⟩=some (.float .f64 b))
    (first|assumption|exact KK _ (hx0)|exact KK _ ((aD hxr _).drew)|exact KK _ (aD hx0 _)|exact KK _ (hw1)|exact KK _ (aD hw1 _)|exact KK _ (hw2)|exact KK _ (aD hw2 _)|exact KK _ (hw3)|exact KK _ (aD hw3 _)|exact KK _ (vO hw3 (by first|exact Nat.le_refl _|exact hw1.size|exact hw2.size|omega) _ _)|fail)
    (first
      | (go_at_call 48;refine(J.out _).mono ?_;rintro _ y3 ⟨rfl,hb3'⟩;have hw3:Below xw.heap.size xw y3:=ab (by first|exact hw2|exact aD hw2 _) hb3';first|(have qz:y3.heap[y2.heap.size]?=some (.cells #[.float .f64 0,.float .f64 0] 64 (0,0)):=ac hb3' (aB y2 (.cells #[.float .f64 0,.float .f64 0] 64));have cz0:=aa qz 0 rfl;have zz0:=af qz 0;have cz1:=aa qz 1 rfl;have zz1:=af qz 1)|(have qz:y3.heap[y1.heap.size]?=some (.cells #[.float .f64 0,.float .f64 0] 64 (0,0)):=ac hb3' (ac hb2' (aB y1 (.cells #[.float .f64 0,.float .f64 0] 64)));have cz0:=aa qz 0 rfl;have zz0:=af qz 0;have cz1:=aa qz 1 rfl;have zz1:=af qz 1)|(have qz:y3.heap[xw.heap.size]?=some (.cells #[.float .f64 0,.float .f64 0] 64 (0,0)):=ac hb3' (ac hb2' (ac hb1' (aB xw (.cells #[.float .f64 0,.float .f64 0] 64))));have cz0:=aa qz 0 rfl;have zz0:=af qz 0;have cz1:=aa qz 1 rfl;have zz1:=af qz 1)|skip)
      | (go_at_call 66;have _t:=T1;refine(S1.out _ (H.keeps (ab hb2 (by first|exact hw1|exact aD hw1 _)))).mono ?_;rintro _ y2 ⟨rfl,hb2'⟩;have hw2:Below xw.heap.size xw y2:=ab (by first|exact hw1|exact aD hw1 _) hb2';have T2:True:=trivial)
      | (go_at_call 66; refine (S0.out _ (H.keeps (ab hb2 (by first | exact hx0 | exact (aD hxr _).drew | exact aD hx0 _)))).mono ?_; rintro _ y1 ⟨rfl,hb1'⟩; have hw1:Below xw.heap.size xw y1:=ab (by first | exact hx0 | exact (aD hxr _).drew | exact aD hx0 _) hb1'; have T1:True:=trivial))
  · exact HN y3.heap.size _ _ (by kernel_rfl) (aB _ _) (aD hw3 _) hw3.size
  · exact HN (y2.heap.size) _ _ (by kernel_rfl) (aj (aj qz 0 _) 1 _) (vO hw3 (hw2.size) _ _) (hw2.size)
  · exact HN (y1.heap.size) _ _ (by kernel_rfl) (aj (aj qz 0 _) 1 _) (vO hw3 (hw1.size) _ _) (hw1.size)
  · exact HN (xw.heap.size) _ _ (by kernel_rfl) (aj (aj qz 0 _) 1 _) (vO hw3 (Nat.le_refl _) _ _) (Nat.le_refl _)
theorem vP {p:Int} (h:au p) (hr:rg p<=9218868437227405312):nn p:=⟨h,fun e=>by have:=(ew h).1.1 e;omega⟩
theorem ta {p:Int} (h:nn p):nn (next p):=by
 have h1:=fd h
 have h2:=h.1
 unfold au at h2
 unfold next
 rw[if_neg h.2]
 unfold rg at h1
 split
 ·exact h
 ·split
  ·exact vP (by unfold au;omega) (by decide)
  ·split
   ·rename_i h4 h5 h6
    rw[if_pos h6] at h1
    exact vP (by unfold au;omega) (by unfold rg;split<;>omega)
   ·rename_i h4 h5 h6
    rw[if_neg h6] at h1
    exact vP (by unfold au;omega) (by unfold rg;split<;>omega)
theorem zS {p:Int} (h:nn p):nn (c9 p):=by
 unfold c9
 exact(cu (ta (cu h).1)).1
theorem qZ {n l:Int} (h:nn n):nn (c6 n l)∧nn (c7 n l):=by
 unfold c6 c7
 refine⟨?_,?_⟩
 ·split
  ·exact zS h
  ·exact h
 ·split
  ·exact h
  ·split
   ·exact ta h
   ·exact h
theorem qD {a b:Int} (ha:nn a) (hb:nn b) (w:World) :
  Calls prog 43 #[bU a b] w fun e w'=>e=.returned (bU (neg b) (neg a))∧Below w.heap.size w w':=by
 unfold bU
 have RM:=fun W=>lG (P:=prog) hb W
 have RX:=fun W=>lG (P:=prog) ha W
 generalize wd (neg b)=X at *
 generalize wd (neg a)=Y at *
 generalize wd a=A at *
 generalize wd b=B at *
 have hb2:=ar w (.cells #[.float .f64 A,.float .f64 B] 64) (.cells #[.float .f64 0,.float .f64 0] 64)
 have q0:=aU w (.cells #[.float .f64 A,.float .f64 B] 64) (.cells #[.float .f64 0,.float .f64 0] 64)
 have q1:=aR w (.cells #[.float .f64 A,.float .f64 B] 64) (.cells #[.float .f64 0,.float .f64 0] 64)
 have k0:=aa q0 0 rfl
 have k1:=aa q0 1 rfl
 go_enter func43,ntmps43
 go_wp2_with fail
 clear q0 k0 k1 RM RX
 generalize (w.alloc (.cells #[.float .f64 A,.float .f64 B] 64)).alloc (.cells #[.float .f64 0,.float .f64 0] 64)=wx at *
 obtain⟨g,hg⟩:∃ g,w.heap.size+1=g:=⟨_,rfl⟩
 have hwg:w.heap.size<=g:=by omega
 rw[hg] at q1
 simp only[hg]
 clear hg
 have d2:=aj q1 0 (.float .f64 X)
 have d3:=aj d2 1 (.float .f64 Y)
 have f0:=aa q1 0 rfl
 have z0:=af q1 0
 have f1:=aa d2 1 rfl
 have z1:=af d2 1
 have hbe:=(hb2.setCell (p:=⟨g,0,none⟩) hwg (.float .f64 X)).setCell (p:=⟨g,1,none⟩) hwg (.float .f64 Y)
 have s0:(store ⟨g,0,none⟩ (.float .f64 X)).run prog wx=.ok () (wx.setCell ⟨g,0,none⟩ (.float .f64 X)):=by rw[run_store _ _ _ _ _ rfl,f0];simp only[z0];rfl
 have s1:(store ⟨g,1,none⟩ (.float .f64 Y)).run prog (wx.setCell ⟨g,0,none⟩ (.float .f64 X))=.ok () ((wx.setCell ⟨g,0,none⟩ (.float .f64 X)).setCell ⟨g,1,none⟩ (.float .f64 Y)):=by rw[run_store _ _ _ _ _ rfl,f1];simp only[z1];rfl
 have e0:=aa d3 0 rfl
 have e1:=aa d3 1 rfl
 clear f0 z0 f1 z1 d2 d3 q1
 simp only[s0,s1,Result.andThen]
 go_wp2
 refine bodyPost_ret (v:=.agg #[.float .f64 X,.float .f64 Y]) (by simp[results,results43,go_sem,e0,e1]) rfl ⟨rfl,hbe⟩
theorem xO {a b c d t u l h:Nat} (w:World)
    (S1:Hid (∀ W,Calls prog 43 #[.agg #[.float .f64 c,.float .f64 d]] W fun e w'=>e=.returned (.agg #[.float .f64 t,.float .f64 u])∧Below W.heap.size W w'))
    (S2:Hid (∀ W,Calls prog 36 #[.agg #[.float .f64 a,.float .f64 b],.agg #[.float .f64 t,.float .f64 u]] W fun e w'=>e=.returned (.agg #[.float .f64 l,.float .f64 h])∧Below W.heap.size W w')) :
    Calls prog 55 #[.agg #[.float .f64 a,.float .f64 b],.agg #[.float .f64 c,.float .f64 d]] w fun e w'=>e=.returned (.agg #[.float .f64 l,.float .f64 h])∧Below w.heap.size w w':=by
  obtain⟨q0,q1,q2,hs,hb3⟩:=gC w (.cells #[.float .f64 a,.float .f64 b] 64) (.cells #[.float .f64 c,.float .f64 d] 64) (.cells #[.float .f64 0,.float .f64 0] 64)
  have k0:=aa q0 0 rfl
  have k1:=aa q0 1 rfl
  have k2:=aa q1 0 rfl
  have k3:=aa q1 1 rfl
  go_enter func55,ntmps55
  go_wp2_with fail
  generalize ((w.alloc (.cells #[.float .f64 a,.float .f64 b] 64)).alloc (.cells #[.float .f64 c,.float .f64 d] 64)).alloc (.cells #[.float .f64 0,.float .f64 0] 64)=wx at *
  obtain⟨g,hg⟩:∃ g,w.heap.size+1+1=g:=⟨_,rfl⟩
  have hwg:w.heap.size+2<=g:=by omega
  replace q2:wx.drew.heap[g]?=some (.cells #[.float .f64 0,.float .f64 0] 64 (0,0)):=by rw[<- hg];exact q2
  simp only[hg]
  clear hg
  have hc:(w.heap.size<w.heap.size+2∧w.heap.size+1<w.heap.size+2∧w.heap.size+2<=wx.drew.heap.size)∧wx.drew.cell? ⟨w.heap.size,0,none⟩=some (.float .f64 a)∧wx.drew.cell? ⟨w.heap.size,1,none⟩=some (.float .f64 b)∧wx.drew.cell? ⟨w.heap.size+1,0,none⟩=some (.float .f64 c)∧wx.drew.cell? ⟨w.heap.size+1,1,none⟩=some (.float .f64 d):=⟨⟨by omega,by omega,by show _<=wx.heap.size;omega⟩,k0,k1,k2,k3⟩
  have hbd:=hb3.drew
  clear q0 q1 k0 k1 k2 k3
  go_region_held3 (fun W=>(w.heap.size<w.heap.size+2∧w.heap.size+1<w.heap.size+2∧w.heap.size+2<=W.heap.size)∧W.cell? ⟨w.heap.size,0,none⟩=some (.float .f64 a)∧W.cell? ⟨w.heap.size,1,none⟩=some (.float .f64 b)∧W.cell? ⟨w.heap.size+1,0,none⟩=some (.float .f64 c)∧W.cell? ⟨w.heap.size+1,1,none⟩=some (.float .f64 d))
    (first|assumption|(repeat (first|exact hc|exact hc1|exact hc2|refine jN ?_|refine kT (by omega) ?_)))
    (first
      | (go_at_call 36;have _t:=hb4;refine(S2.out _).mono ?_;rintro _ w2 ⟨rfl,hb5⟩;have hc2:=iZ hc1 hb5;have d2:=((ab hb4 hb5).block _ (aGe q2).1).trans q2;have d3:=aj d2 0 (.float .f64 l);have d4:=aj d3 1 (.float .f64 h);have f0:=aa d2 0 rfl;have z0:=af d2 0;have f1:=aa d3 1 rfl;have z1:=af d3 1;have s0:(store ⟨g,0,none⟩ (.float .f64 l)).run prog w2=.ok () (w2.setCell ⟨g,0,none⟩ (.float .f64 l)):=(by rw[run_store _ _ _ _ _ rfl,f0];simp only[z0];rfl);have s1:(store ⟨g,1,none⟩ (.float .f64 h)).run prog (w2.setCell ⟨g,0,none⟩ (.float .f64 l))=.ok () ((w2.setCell ⟨g,0,none⟩ (.float .f64 l)).setCell ⟨g,1,none⟩ (.float .f64 h)):=(by rw[run_store _ _ _ _ _ rfl,f1];simp only[z1];rfl))
      | (go_at_call 43; refine (S1.out _).mono ?_; rintro _ w1 ⟨rfl,hb4⟩; have hc1:=iZ hc hb4))
  have e0:=aa d4 0 rfl
  have e1:=aa d4 1 rfl
  have hbe:=((ab hbd (ab hb4 hb5)).setCell (p:=⟨g,0,none⟩) (show w.heap.size<=g by omega) (.float .f64 l)).setCell (p:=⟨g,1,none⟩) (show w.heap.size<=g by omega) (.float .f64 h)
  clear d2 d3 d4 f0 f1 z0 z1 s0 s1 hc hc1 hc2
  generalize (w2.setCell ⟨g,0,none⟩ (.float .f64 l)).setCell ⟨g,1,none⟩ (.float .f64 h)=wy at *
  go_wp2
  refine bodyPost_ret (v:=.agg #[.float .f64 l,.float .f64 h]) (by simp[results,results55,go_sem,e0,e1]) rfl ⟨rfl,hbe⟩
end Go.Proofs.YtkkpppgfoilgmaaGreatDoor
