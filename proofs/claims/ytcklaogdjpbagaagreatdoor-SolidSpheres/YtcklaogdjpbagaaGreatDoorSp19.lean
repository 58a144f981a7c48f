/- Parts of the proof. -/
import Derived.Test.YtcklaogdjpbagaaGreatDoorSp13
import Derived.Test.YtcklaogdjpbagaaGreatDoorSp6
import Derived.Test.YtcklaogdjpbagaaGreatDoorSp12
import Derived.Test.YtcklaogdjpbagaaGreatDoorSp14
import Derived.Test.YtcklaogdjpbagaaGreatDoorSp11
import Derived.Deep.RegionHeld3
import Derived.Test.YtcklaogdjpbagaaGreatDoorSp18
set_option maxRecDepth 100000
set_option maxHeartbeats 8000000
set_option linter.unusedVariables false
set_option linter.unusedSimpArgs false
namespace Go.Proofs.YtcklaogdjpbagaaGreatDoor
open Go Go.RowKit Go.Proofs.YtcklaogdjpbagaaGreatDoor.M
theorem Ae {x:aG} (ok:dD x=true):x.opp.V=-x.V∧Dy x.opp.V x.opp.ng (val x.opp.d x.opp.n) x.opp.e:=by
 have hy:=(jx ok).1
 have hN:=(cA ok).1
 by_cases h0:x.n=0
 ·have hv:val x.d x.n=0:=by rw[h0];rfl
  have e:x.opp=x:=by unfold aG.opp;rw[if_pos h0]
  rw[e]
  have:=hy.eq_zero.2 hv
  exact⟨by omega,hy⟩
 ·have hp:=fz hN (show 0<x.n by omega)
  have e:x.opp=⟨!x.ng,x.ao,x.n,x.cap,x.d,x.e⟩:=by unfold aG.opp;rw[if_neg h0]
  rw[e]
  have h1:=hy.neg hp
  have hV:aG.V ⟨!x.ng,x.ao,x.n,x.cap,x.d,x.e⟩=-x.V:=h1.val.symm
  rw[hV]
  exact⟨rfl,h1⟩
theorem iR.shape {w w':World} {A B:Int} {x y:aG} {v:Value} (h:iR w w' A B x.v y.v v):∃ ng so sn sc e,v=.agg #[.bool ng,.slice so sn sc,.int .i64 e]:=by
 rcases h.2 with⟨ng,s,m,e,rfl,_,hA⟩|⟨_,rfl⟩|⟨_,rfl⟩
 ·obtain⟨so,sn,sc,rfl⟩:=hA.num.shape
  exact⟨_,_,_,_,_,rfl⟩
 ·exact⟨_,_,_,_,_,rfl⟩
 ·exact⟨_,_,_,_,_,rfl⟩
theorem zo {w W w3:World} {A B:Int} {x y v:Value} (hv:iR W w3 A B x y v) (hb:Below w.heap.size w W) {g:Nat} (h0:w.heap.size<=g) (h1:g<W.heap.size) (a b c:Value) :
  iR w (((w3.setCell ⟨g,0,none⟩ a).setCell ⟨g,1,none⟩ b).setCell ⟨g,2,none⟩ c) A B x y v:=by
 refine⟨dE (ac hb hv.1) h0 _ _ _,?_⟩
 rcases hv.2 with h|h|h
 ·exact .inl (bM h hb h0 h1 a b c)
 ·exact .inr (.inl h)
 ·exact .inr (.inr h)
theorem xG (x y:aG) (w:World) (hx:aM w x.ao x.n x.cap x.d) (hy:aM w y.ao y.n y.cap y.d) (ox:dD x=true) (oy:dD y=true) {K:Nat} (hK:K<=560000) (bx:Bd K x.V) (bY:Bd K y.V) :
  Calls Tryz.prog 61 #[x.v,y.v] w fun r w'=>∃ v,r=.returned v∧iR w w' x.V (-y.V) x.v y.opp.v v:=by
 obtain⟨e1,e2⟩:=Ae oy
 have hop:=fun W=>qd y W (by have:=hy.le;have:=hy.max;omega)
 have C2:∀ W,Below w.heap.size w W->Calls Tryz.prog 63 #[x.v,y.opp.v] W fun r w'=>∃ ng so sn sc e,r=.returned (.agg #[.bool ng,.slice so sn sc,.int .i64 e])∧iR W w' x.V (-y.V) x.v y.opp.v (.agg #[.bool ng,.slice so sn sc,.int .i64 e])∧Below W.heap.size W w':=fun W hb=>by
  refine(qj x y.opp W (hx.keeps hb) (hy.keeps hb) (jx ox).1 (cA ox).1 e2 (cA oy).1 hK bx (by rw[e1];exact bY.neg)).mono ?_
  rintro r w' ⟨v,rfl,h⟩
  rw[e1] at h
  obtain⟨ng,so,sn,sc,e,rfl⟩:=h.shape
  exact⟨_,_,_,_,_,rfl,h,h.1⟩
 have hmy:=hy.max
 have hly:=hy.le
 obtain⟨VV,hVV⟩:∃ V,V=x.V:=⟨_,rfl⟩
 obtain⟨UU,hUU⟩:∃ V,V=-y.V:=⟨_,rfl⟩
 rw[<- hVV,<- hUU] at C2 ⊢
 clear e1 e2 bx bY hVV hUU ox oy
 unfold aG.opp at *
 obtain⟨on,hon⟩:∃ V,V=(if y.n=0 then y.ng else !y.ng):=⟨_,rfl⟩
 rw[<- hon] at hop C2 ⊢
 clear hon
 obtain⟨an,ao,n,ca,a,e⟩:=x
 obtain⟨bn,bo,m,cb,b,f⟩:=y
 unfold aG.v at *
 simp only at *
 have hb3:Below w.heap.size w (((w.alloc (.cells #[.bool an,.slice ao n ca,.int .i64 e] 33)).alloc (.cells #[.bool bn,.slice bo m cb,.int .i64 f] 33)).alloc (.cells #[.bool false,.slice none 0 0,.int .i64 0] 33)):=df _ _ _ _
 have g0:=lL w (.cells #[.bool an,.slice ao n ca,.int .i64 e] 33) (.cells #[.bool bn,.slice bo m cb,.int .i64 f] 33) (.cells #[.bool false,.slice none 0 0,.int .i64 0] 33)
 have g1:=lM w (.cells #[.bool an,.slice ao n ca,.int .i64 e] 33) (.cells #[.bool bn,.slice bo m cb,.int .i64 f] 33) (.cells #[.bool false,.slice none 0 0,.int .i64 0] 33)
 have g2:=jw w (.cells #[.bool an,.slice ao n ca,.int .i64 e] 33) (.cells #[.bool bn,.slice bo m cb,.int .i64 f] 33) (.cells #[.bool false,.slice none 0 0,.int .i64 0] 33)
 go_enter Tryz.func61,Tryz.ntmps61
 go_wp2_with fail
 generalize ((w.alloc (.cells #[.bool an,.slice ao n ca,.int .i64 e] 33)).alloc (.cells #[.bool bn,.slice bo m cb,.int .i64 f] 33)).alloc (.cells #[.bool false,.slice none 0 0,.int .i64 0] 33)=wx at hb3 g0 g1 g2 ⊢
 have k0:=af g0 0 rfl
 have k1:=af g0 1 rfl
 have k2:=af g0 2 rfl
 have j0:=af g1 0 rfl
 have j1:=af g1 1 rfl
 have j2:=af g1 2 rfl
 have hb1:=ak wx
 have hs3:=(aGe g2).1
 go_region_held3 (fun W=>(W.cell? ⟨w.heap.size,0,none⟩=some (.bool an)∧W.cell? ⟨w.heap.size,1,none⟩=some (.slice ao n ca)∧W.cell? ⟨w.heap.size,2,none⟩=some (.int .i64 e))∧W.cell? ⟨w.heap.size+1,0,none⟩=some (.bool bn)∧W.cell? ⟨w.heap.size+1,1,none⟩=some (.slice bo m cb)∧W.cell? ⟨w.heap.size+1,2,none⟩=some (.int .i64 f))
  (first|assumption|exact⟨⟨k0,k1,k2⟩,j0,j1,j2⟩|exact bN (W:=wx.drew) hbv1 ⟨⟨k0,k1,k2⟩,j0,j1,j2⟩|exact bN hbv2 (bN (W:=wx.drew) hbv1 ⟨⟨k0,k1,k2⟩,j0,j1,j2⟩)|exact⟨fJ (bN hbv2 (bN (W:=wx.drew) hbv1 ⟨⟨k0,k1,k2⟩,j0,j1,j2⟩)).1 (by omega) _ _ _,fJ (bN hbv2 (bN (W:=wx.drew) hbv1 ⟨⟨k0,k1,k2⟩,j0,j1,j2⟩)).2 (by omega) _ _ _⟩)
  (first|(go_at_call 63;refine(C2 _ (ac hb3 (ac hb1.drew hbv1))).mono ?_;rintro y w4 ⟨ng4,o4,n4,c4,e4,rfl,hv2,hbv2⟩;have q0:=((ac hbv1 hbv2).block (w.heap.size+2) (by show _<wx.heap.size;omega)).trans g2;have x0:=af q0 0 rfl;have x1:=af q0 1 rfl;have x2:=af q0 2 rfl;have z0:=av q0 0;have z1:=av q0 1;have z2:=av q0 2)|(go_at_call 91;refine(hop _).mono ?_;rintro y w3 ⟨rfl,hbv1⟩))
 all_goals go_wp2
 all_goals
  refine bodyPost_ret (v:=.agg #[.bool ng4,.slice o4 n4 c4,.int .i64 e4]) (by simp[results,Tryz.results61,go_sem,x0,x1,x2]) rfl ⟨_,rfl,?_⟩
  exact zo (g:=w.heap.size+2) hv2 (ac hb3 (ac hb1.drew hbv1)) (by omega) (Nat.lt_of_lt_of_le (show _<wx.heap.size by omega) hbv1.size) _ _ _
theorem Bq {w:World} {ng:Bool} {so:Option Addr} {sn sc:Nat} {e V:Int} (h:aR w (.agg #[.bool ng,.slice so sn sc,.int .i64 e]) V):sgn ng sn=aZ V 0∧sn<=9223372036854775807:=by
 obtain⟨ng',s,m,e',h1,hy,ao,n,cap,d,rfl,hR,hN,rfl⟩:=h
 simp only[Value.agg.injEq,Array.mk.injEq,List.cons.injEq,Value.bool.injEq,Value.int.injEq,Value.slice.injEq,and_true,true_and] at h1
 obtain⟨rfl,⟨rfl,rfl,rfl⟩,rfl⟩:=h1
 refine⟨?_,by have:=hR.le;have:=hR.max;omega⟩
 by_cases h0:sn=0
 ·have:=hy.eq_zero.2 (by rw[h0];rfl)
  rw[this,fw rfl]
  simp[sgn,h0]
 ·have hp:=fz hN (show 0<sn by omega)
  cases ng
  ·have hn:¬ V<0:=fun h=>by have:=hy.neg_iff.2 h;simp at this
   have hz:V≠0:=fun h=>by have:=hy.eq_zero.1 h;omega
   rw[dK (by omega)]
   simp[sgn,h0]
  ·have hn:=hy.neg_iff.1 rfl
   rw[dJ hn]
   simp[sgn,h0]
def Cv (B:Nat) (w:World) (n:Nat) (r:Nat->aG) (V:Int) (v:Value):Prop:=bH B w V v∨∃ i,i<n∧v=(r i).v∧V=(r i).V
theorem Cv.keeps {B:Nat} {w w':World} {n:Nat} {r:Nat->aG} {V:Int} {v:Value} (h:Cv B w n r V v) (hb:Below w.heap.size w w'):Cv B w' n r V v:=by
 rcases h with h|h
 ·exact .inl (h.keeps hb)
 ·exact .inr h
theorem xH {w:World} {g o0 o1 o2:Nat} {xs:Array Value} {z:Nat × Nat} (hg:w.heap[g]?=some (.cells xs 33 z)) (x y u:Value):∀ (g':Nat) (cur:Array Value) z',w.heap[g']?=some (.cells cur 3 z')->(((w.setCell ⟨g,o0,none⟩ x).setCell ⟨g,o1,none⟩ y).setCell ⟨g,o2,none⟩ u).heap[g']?=w.heap[g']?:=fun g' cur z' hc=>by
 refine(qb w g o0 o1 o2 x y u).block g' (aGe hc).1 fun e=>?_
 subst e
 rw[hg] at hc
 simp at hc
theorem aw {W y:World} (hb:Below W.heap.size W y) {g:Nat} {X:Obj} (h:W.heap[g]?=some X):y.heap[g]?=some X:=(hb.block _ (aGe h).1).trans h
theorem bE {B:Nat} {w3:World} {V:Int} {v:Value} (hv:bH B w3 V v) {g:Nat} {xs:Array Value} {z:Nat × Nat} (hg:w3.heap[g]?=some (.cells xs 33 z)) (a b c:Value) :
  bH B (((w3.setCell ⟨g,0,none⟩ a).setCell ⟨g,1,none⟩ b).setCell ⟨g,2,none⟩ c) V v:=hv.of_blocks (xH hg a b c)
def Af (a1 a2 b1 b2 V:Int):Prop:=∃ C D,C*2^4194304=a1*b2∧D*2^4194304=a2*b1∧V=C-D
theorem Af.unique {a1 a2 b1 b2 V V':Int} (h:Af a1 a2 b1 b2 V) (k:Af a1 a2 b1 b2 V'):V=V':=by
 obtain⟨C,D,h1,h2,rfl⟩:=h
 obtain⟨C',D',k1,k2,rfl⟩:=k
 rw[lE (h1.trans k1.symm),lE (h2.trans k2.symm)]
theorem Ag (w:World) (o0 o1:Obj):Below w.heap.size w ((w.alloc o0).alloc o1)∧((w.alloc o0).alloc o1).heap[w.heap.size]?=some o0∧((w.alloc o0).alloc o1).heap[w.heap.size+1]?=some o1∧((w.alloc o0).alloc o1).heap.size=w.heap.size+1+1 :=
 ⟨ac (ah w o0) (ah (w.alloc o0) o1),ar o1 (aY o0 (by rfl)),aY o1 (by simp only[aI]),by simp only[aI]⟩
theorem qG (w:World) (o0 o1 o2:Obj):Below w.heap.size w (((w.alloc o0).alloc o1).alloc o2)∧(((w.alloc o0).alloc o1).alloc o2).heap[w.heap.size]?=some o0∧(((w.alloc o0).alloc o1).alloc o2).heap[w.heap.size+1]?=some o1∧(((w.alloc o0).alloc o1).alloc o2).heap[w.heap.size+1+1]?=some o2∧(((w.alloc o0).alloc o1).alloc o2).heap.size=w.heap.size+1+1+1 :=
 ⟨ac (ac (ah w o0) (ah (w.alloc o0) o1)) (ah ((w.alloc o0).alloc o1) o2),ar o2 (ar o1 (aY o0 (by rfl))),ar o2 (aY o1 (by simp only[aI])),aY o2 (by simp only[aI]),by simp only[aI]⟩
theorem Ah (w:World) (o0 o1 o2 o3:Obj):Below w.heap.size w ((((w.alloc o0).alloc o1).alloc o2).alloc o3)∧((((w.alloc o0).alloc o1).alloc o2).alloc o3).heap[w.heap.size]?=some o0∧((((w.alloc o0).alloc o1).alloc o2).alloc o3).heap[w.heap.size+1]?=some o1∧((((w.alloc o0).alloc o1).alloc o2).alloc o3).heap[w.heap.size+1+1]?=some o2∧((((w.alloc o0).alloc o1).alloc o2).alloc o3).heap[w.heap.size+1+1+1]?=some o3∧((((w.alloc o0).alloc o1).alloc o2).alloc o3).heap.size=w.heap.size+1+1+1+1 :=
 ⟨ac (ac (ac (ah w o0) (ah (w.alloc o0) o1)) (ah ((w.alloc o0).alloc o1) o2)) (ah (((w.alloc o0).alloc o1).alloc o2) o3),ar o3 (ar o2 (ar o1 (aY o0 (by rfl)))),ar o3 (ar o2 (aY o1 (by simp only[aI]))),ar o3 (aY o2 (by simp only[aI])),aY o3 (by simp only[aI]),by simp only[aI]⟩
theorem vt (w:World) (o0 o1 o2 o3 o4 o5:Obj):Below w.heap.size w ((((((w.alloc o0).alloc o1).alloc o2).alloc o3).alloc o4).alloc o5)∧((((((w.alloc o0).alloc o1).alloc o2).alloc o3).alloc o4).alloc o5).heap[w.heap.size]?=some o0∧((((((w.alloc o0).alloc o1).alloc o2).alloc o3).alloc o4).alloc o5).heap[w.heap.size+1]?=some o1∧((((((w.alloc o0).alloc o1).alloc o2).alloc o3).alloc o4).alloc o5).heap[w.heap.size+1+1]?=some o2∧((((((w.alloc o0).alloc o1).alloc o2).alloc o3).alloc o4).alloc o5).heap[w.heap.size+1+1+1]?=some o3∧((((((w.alloc o0).alloc o1).alloc o2).alloc o3).alloc o4).alloc o5).heap[w.heap.size+1+1+1+1]?=some o4∧((((((w.alloc o0).alloc o1).alloc o2).alloc o3).alloc o4).alloc o5).heap[w.heap.size+1+1+1+1+1]?=some o5∧((((((w.alloc o0).alloc o1).alloc o2).alloc o3).alloc o4).alloc o5).heap.size=w.heap.size+1+1+1+1+1+1 :=
 ⟨ac (ac (ac (ac (ac (ah w o0) (ah (w.alloc o0) o1)) (ah ((w.alloc o0).alloc o1) o2)) (ah (((w.alloc o0).alloc o1).alloc o2) o3)) (ah ((((w.alloc o0).alloc o1).alloc o2).alloc o3) o4)) (ah (((((w.alloc o0).alloc o1).alloc o2).alloc o3).alloc o4) o5),ar o5 (ar o4 (ar o3 (ar o2 (ar o1 (aY o0 (by rfl)))))),ar o5 (ar o4 (ar o3 (ar o2 (aY o1 (by simp only[aI]))))),ar o5 (ar o4 (ar o3 (aY o2 (by simp only[aI])))),ar o5 (ar o4 (aY o3 (by simp only[aI]))),ar o5 (aY o4 (by simp only[aI])),aY o5 (by simp only[aI]),by simp only[aI]⟩
theorem oi:wd 0=0:=by decide
def fV (p:Int):Int:=aZ (bk p) 0
theorem vu {p:Int} (hp:ax p) (h:aF p=true):FloatKind.f64.format.order (wd p) (wd p)=some .eq:=mb hp hp (cr h) (cr h) rfl
theorem xI {p:Int} (hp:ax p) (h:aF p=true) (w:World) :
  Calls Tryz.prog 77 #[.float .f64 (wd p)] w fun r w'=>r=.returned (.bool false)∧w'=w:=by
 have e:=vu hp h
 go_enter Tryz.func77,Tryz.ntmps77
 go_wp2
 go_ret
 exact⟨rfl,rfl⟩
theorem sD {p:Int} (hp:ax p) (h:aF p=true) (w:World) :
    Calls Tryz.prog 44 #[.float .f64 (wd p),.float .f64 0] w fun r w'=>r=.returned (.int .i64 (fV p))∧w'=w:=by
  have r0:ax 0:=by unfold ax;decide
  have p0:aF 0=true:=by decide
  have C1:Hid (∀ W,Calls Tryz.prog 77 #[.float .f64 (wd p)] W fun r w'=>r=.returned (.bool false)∧w'=W):=fun W=>xI hp h W
  have C2:Hid (∀ W,Calls Tryz.prog 77 #[.float .f64 0] W fun r w'=>r=.returned (.bool false)∧w'=W):=fun W=>by
    have:=xI r0 p0 W
    rw[oi] at this
    exact this
  have k0:bk 0=0:=by decide
  have hord:(FloatKind.f64.format.order (wd p) 0=some .lt∧fV p=-1)∨(FloatKind.f64.format.order (wd p) 0=some .gt∧fV p=1)∨(FloatKind.f64.format.order (wd p) 0=some .eq∧fV p=0):=by
    unfold fV aZ
    rcases Int.lt_trichotomy (bk p) 0 with g|g|g
    · exact .inl ⟨by have:=nf hp r0 (cr h) (cr p0) (by rw[k0];exact g);rw[oi] at this;exact this,by first|simp[g]|(rw[if_pos g])⟩
    · exact .inr (.inr ⟨by have:=mb hp r0 (cr h) (cr p0) (by rw[k0];exact g);rw[oi] at this;exact this,by rw[g];decide⟩)
    · exact .inr (.inl ⟨by have:=nj hp r0 (cr h) (cr p0) (by rw [k0]; exact g); rw [oi] at this; exact this,by
        have:¬ bk p<0:=by omega
        simp [this,g]⟩)
  clear hp h r0 p0 k0
  generalize fV p=s at *
  generalize wd p=P at *
  rcases hord with⟨ho,rfl⟩|⟨ho,rfl⟩|⟨ho,rfl⟩
  all_goals
    go_enter Tryz.func44,Tryz.ntmps44
    go_wp2_with fail
    refine(C1.out _).mono ?_
    rintro _ wz ⟨rfl,hwz⟩
    replace hwz:=hwz.symm
    subst hwz
    go_wp2_with fail
    refine(C2.out _).mono ?_
    rintro _ wz ⟨rfl,hwz⟩
    replace hwz:=hwz.symm
    subst hwz
    go_wp2
    go_ret
    exact⟨rfl,rfl⟩
theorem oj {D c X:Int} (hc:0<c) (h:D*c=X):aZ D 0=aZ X 0:=by
 have e:=AR D 0 c
 rw[Int.zero_mul,h] at e
 have h1:aZ c 0=1:=by
  unfold aZ
  rw[if_neg (by omega),if_pos hc]
 rw[e,h1,Int.mul_one]
theorem ol {b:Int} (hr:ax b) (h:aF b=true):Bd 1074 (aq b):=by
 obtain⟨i0,i1,i2,i3⟩:=gd h
 have f:=jj hr h
 have hb:((iV b).natAbs:Int)<2^(2*1074):=by
  rw[f]
  have e1:(2:Int)^(bK b+1074).toNat<=2^2045:=lZ (by omega)
  have p:=p2 (bK b+1074).toNat
  have e2:(2:Int)^(2*1074)=2^103*2^2045:=by rw[<- Int.pow_add]
  have e3:bI b*2^(bK b+1074).toNat<=9007199254740992*2^2045:=Int.mul_le_mul (by omega) e1 (Int.le_of_lt p) (by decide)
  have p3:=p2 2045
  rw[e2,show(2:Int)^103=10141204801825835211973625643008 by decide]
  generalize (2:Int)^2045=z at *
  omega
 refine⟨iV b,cQ hr h,by omega,by omega⟩
theorem Ai {s:Nat->Nat->Int} {m:Nat} (hr:∀ i k,ax (s i k)) (hz:∀ i,i<=m->∀ k,k<3->aF (s i k)=true) (p:Nat) (hp:p<4) (k:Nat) (hk:k<3):Bd 1075 (vL s m p k):=by
 unfold vL
 by_cases c:p<m
 ·rw[if_pos c,Int.sub_eq_add_neg]
  exact(ol (hr p k) (hz p (by omega) k hk)).add (ol (hr m k) (hz m (Nat.le_refl _) k hk)).neg (by decide)
 ·rw[if_neg c]
  exact um _
theorem Cw (w:World):Calls Tryz.prog 18 #[] w fun e w'=>e=.returned (.agg #[.func (.func 36) #[] #[],.float .f64 4380876537524649991,.func (.func 37) #[] #[]])∧Below w.heap.size w w':=by
 have hs1:∀ p F m w,(store p (.func (.func F) #[] #[]) m).run Tryz.prog w=stored Tryz.prog w p (.func (.func F) #[] #[]) m:=fun p F m w=>run_store _ w p _ m rfl
 have hs2:∀ p x m w,(store p (.float .f64 x) m).run Tryz.prog w=stored Tryz.prog w p (.float .f64 x) m:=fun p x m w=>run_store _ w p _ m rfl
 go_enter Tryz.func18,Tryz.ntmps18
 go_wp2
 exact bodyPost_ret (v:=.agg #[.func (.func 36) #[] #[],.float .f64 4380876537524649991,.func (.func 37) #[] #[]]) (by simp[results,Tryz.results18,go_sem]) rfl ⟨rfl,ah _ _⟩
theorem Br {s:Nat->Nat->Int} (hr:∀ i k,ax (s i k)) (hz:∀ i,i<=3->∀ k,k<3->aF (s i k)=true) {w:World} {arr:Array Value} {R:Nat->Nat->aG} (hA:gN w arr (vL s 3) R) (hT:ec w) :
  Calls Tryz.prog 37 #[.agg arr] w fun r w'=>∃ v D,r=.returned v∧aX w w' D v∧aZ D 0=aZ (dX (vL s 3) 0 1 2) 0∧de D∧D*(2^4194304*2^4194304)=dX (vL s 3) 0 1 2:=by
 refine(vr hA (Ai hr hz) hT).mono ?_
 rintro _ w' ⟨v,D,rfl,hd,he,hb⟩
 exact⟨v,D,rfl,hd,oj (Int.mul_pos (aJ _) (aJ _)) ((Int.mul_assoc _ _ _).symm.trans he),hb.ok (by decide),(Int.mul_assoc _ _ _).symm.trans he⟩
theorem uo (ao:Option Addr) (cap:Nat) (s:Nat->Nat->Int) (w:World) (h:fy w ao 4 cap s) (hr:∀ i k,ax (s i k)) (hz:∀ i,i<=3->∀ k,k<3->aF (s i k)=true) (H:cB w) (st:Int) :
  Calls Tryz.prog 40 #[.agg #[.func (.func 36) #[] #[],.float .f64 4380876537524649991,.func (.func 37) #[] #[]],.slice ao 4 cap,.int .i64 st] w fun e w'=>e=.returned (.agg #[.int .i64 (aZ (dX (vL s 3) 0 1 2) 0),.int .i64 st])∧Below w.heap.size w w':=by
 have CL:Hid (∀ W,Below w.heap.size w W->Calls Tryz.prog 45 #[.slice ao 4 cap,.func (.func 46) #[] #[]] W fun e w'=>∃ arr R,e=.returned (.agg arr)∧gN w' arr (vL s 3) R∧Below W.heap.size W w'):=fun W hW=>lp ao 4 3 cap s W (h.keeps hW) rfl (by decide) hz (H.keeps hW)
 have CE:Hid (∀ W arr R,Below w.heap.size w W->gN W arr (vL s 3) R->Calls Tryz.prog 37 #[.agg arr] W fun r w'=>∃ v D,r=.returned v∧aX W w' D v∧aZ D 0=aZ (dX (vL s 3) 0 1 2) 0∧de D):=fun W arr R hW hA=>(Br hr hz hA (H.keeps hW).tab).mono fun _ _ ⟨v,D,h1,h2,h3,h4,_⟩=>⟨v,D,h1,h2,h3,h4⟩
 have CS:Hid (∀ W v D,aR W v D->de D->Calls Tryz.prog 73 #[v] W fun r w'=>r=.returned (.tuple #[.int .i64 (aZ D 0),.int .i64 0])∧Below W.heap.size W w'):=fun W v D h1 h2=>wD h1 h2
 clear h hr hz H
 generalize aZ (dX (vL s 3) 0 1 2) 0=sg at *
 have hb0:=aO w (.cells #[.func (.func 36) #[] #[],.float .f64 4380876537524649991,.func (.func 37) #[] #[]] 57) (.cells #[.int .i64 0,.int .i64 0] 27)
 have q_k:=bX w (.cells #[.func (.func 36) #[] #[],.float .f64 4380876537524649991,.func (.func 37) #[] #[]] 57) (.cells #[.int .i64 0,.int .i64 0] 27)
 have r_k:=bP w (.cells #[.func (.func 36) #[] #[],.float .f64 4380876537524649991,.func (.func 37) #[] #[]] 57) (.cells #[.int .i64 0,.int .i64 0] 27)
 go_enter Tryz.func40,Tryz.ntmps40
 go_wp2_with fail
 generalize (w.alloc (.cells #[.func (.func 36) #[] #[],.float .f64 4380876537524649991,.func (.func 37) #[] #[]] 57)).alloc (.cells #[.int .i64 0,.int .i64 0] 27)=x0 at hb0 q_k r_k ⊢
 have KK:∀ W,Below x0.heap.size x0 W->W.cell? ⟨w.heap.size,2,none⟩=some (.func (.func 37) #[] #[]):=fun W hb=>aj (af q_k 2 rfl) hb
 have hC0:=(ak x0).drew
 go_region_held3 (fun W=>W.cell? ⟨w.heap.size,2,none⟩=some (.func (.func 37) #[] #[]))
  (with_reducible first|assumption|exact KK _ hC0|exact KK _ hC1|exact KK _ hC2|exact KK _ hC3|fail)
  (first|(go_at_call 73;refine(CS.out _ _ _ hd.num hok).mono ?_;rintro _ y3 ⟨rfl,hw3⟩;have hC3:=ac hC2 hw3)|(go_at_call 37;refine(CE.out _ _ _ (ac hb0 hC1) hA).mono ?_;rintro _ y2 ⟨v,D,rfl,hd,hsg,hok⟩;have hC2:=ac hC1 hd.below)|(go_at_call 45;refine(CL.out _ (ac hb0 hC0)).mono ?_;rintro _ y1 ⟨arr,R,rfl,hA,hw1⟩;have hC1:=ac hC0 hw1))
 replace r_k:=am hC3 r_k
 replace hb0:=ac hb0 hC3
 clear q_k KK hC0 hC1 hC2 hC3 hw1 hw3 hd hA hok
 have k0:=af r_k 0 rfl
 have k1:=af r_k 1 rfl
 have z0:=av r_k 0
 have z1:=av r_k 1
 go_wp2
 exact bodyPost_ret (v:=.agg #[.int .i64 sg,.int .i64 st]) (by simp[results,Tryz.results40,go_sem,k0,k1]) rfl ⟨rfl,(hb0.setCell (p:=⟨w.heap.size+1,0,none⟩) (show w.heap.size<=w.heap.size+1 by omega) _).setCell (p:=⟨w.heap.size+1,1,none⟩) (show w.heap.size<=w.heap.size+1 by omega) _⟩
theorem lq (w:World):Calls Tryz.prog 30 #[] w fun e w'=>e=.returned (.agg #[.func (.func 59) #[] #[],.float .f64 4386506037058863111,.func (.func 60) #[] #[]])∧Below w.heap.size w w':=by
 have hs1:∀ p F m w,(store p (.func (.func F) #[] #[]) m).run Tryz.prog w=stored Tryz.prog w p (.func (.func F) #[] #[]) m:=fun p F m w=>run_store _ w p _ m rfl
 have hs2:∀ p x m w,(store p (.float .f64 x) m).run Tryz.prog w=stored Tryz.prog w p (.float .f64 x) m:=fun p x m w=>run_store _ w p _ m rfl
 go_enter Tryz.func30,Tryz.ntmps30
 go_wp2
 exact bodyPost_ret (v:=.agg #[.func (.func 59) #[] #[],.float .f64 4386506037058863111,.func (.func 60) #[] #[]]) (by simp[results,Tryz.results30,go_sem]) rfl ⟨rfl,ah _ _⟩
theorem ql {s:Nat->Nat->Int} (hr:∀ i k,ax (s i k)) (hz:∀ i,i<=4->∀ k,k<3->aF (s i k)=true) {w:World} {arr:Array Value} {R:Nat->Nat->aG} (hA:gN w arr (vL s 4) R) (hT:ec w) :
  Calls Tryz.prog 60 #[.agg arr] w fun r w'=>∃ v D,r=.returned v∧aX w w' D v∧aZ D 0=aZ (sX (vL s 4)) 0∧de D∧D*(2^4194304*(2^4194304*2^4194304*2^4194304))=sX (vL s 4):=by
 refine(zn hA (Ai hr hz) hT).mono ?_
 rintro _ w' ⟨v,D,rfl,hd,he,hb⟩
 exact⟨v,D,rfl,hd,oj (Int.mul_pos (aJ _) (Int.mul_pos (Int.mul_pos (aJ _) (aJ _)) (aJ _))) ((Int.mul_assoc _ _ _).symm.trans he),hb,(Int.mul_assoc _ _ _).symm.trans he⟩
theorem qm (ao:Option Addr) (cap:Nat) (s:Nat->Nat->Int) (w:World) (h:fy w ao 5 cap s) (hr:∀ i k,ax (s i k)) (hz:∀ i,i<=4->∀ k,k<3->aF (s i k)=true) (H:cB w) (st:Int) :
  Calls Tryz.prog 40 #[.agg #[.func (.func 59) #[] #[],.float .f64 4386506037058863111,.func (.func 60) #[] #[]],.slice ao 5 cap,.int .i64 st] w fun e w'=>e=.returned (.agg #[.int .i64 (aZ (sX (vL s 4)) 0),.int .i64 st])∧Below w.heap.size w w':=by
 have CL:Hid (∀ W,Below w.heap.size w W->Calls Tryz.prog 45 #[.slice ao 5 cap,.func (.func 46) #[] #[]] W fun e w'=>∃ arr R,e=.returned (.agg arr)∧gN w' arr (vL s 4) R∧Below W.heap.size W w'):=fun W hW=>lp ao 5 4 cap s W (h.keeps hW) rfl (by decide) hz (H.keeps hW)
 have CE:Hid (∀ W arr R,Below w.heap.size w W->gN W arr (vL s 4) R->Calls Tryz.prog 60 #[.agg arr] W fun r w'=>∃ v D,r=.returned v∧aX W w' D v∧aZ D 0=aZ (sX (vL s 4)) 0∧de D):=fun W arr R hW hA=>(ql hr hz hA (H.keeps hW).tab).mono fun _ _ ⟨v,D,h1,h2,h3,h4,_⟩=>⟨v,D,h1,h2,h3,h4⟩
 have CS:Hid (∀ W v D,aR W v D->de D->Calls Tryz.prog 73 #[v] W fun r w'=>r=.returned (.tuple #[.int .i64 (aZ D 0),.int .i64 0])∧Below W.heap.size W w'):=fun W v D h1 h2=>wD h1 h2
 clear h hr hz H
 generalize aZ (sX (vL s 4)) 0=sg at *
 have hb0:=aO w (.cells #[.func (.func 59) #[] #[],.float .f64 4386506037058863111,.func (.func 60) #[] #[]] 57) (.cells #[.int .i64 0,.int .i64 0] 27)
 have q_k:=bX w (.cells #[.func (.func 59) #[] #[],.float .f64 4386506037058863111,.func (.func 60) #[] #[]] 57) (.cells #[.int .i64 0,.int .i64 0] 27)
 have r_k:=bP w (.cells #[.func (.func 59) #[] #[],.float .f64 4386506037058863111,.func (.func 60) #[] #[]] 57) (.cells #[.int .i64 0,.int .i64 0] 27)
 go_enter Tryz.func40,Tryz.ntmps40
 go_wp2_with fail
 generalize (w.alloc (.cells #[.func (.func 59) #[] #[],.float .f64 4386506037058863111,.func (.func 60) #[] #[]] 57)).alloc (.cells #[.int .i64 0,.int .i64 0] 27)=x0 at hb0 q_k r_k ⊢
 have KK:∀ W,Below x0.heap.size x0 W->W.cell? ⟨w.heap.size,2,none⟩=some (.func (.func 60) #[] #[]):=fun W hb=>aj (af q_k 2 rfl) hb
 have hC0:=(ak x0).drew
 go_region_held3 (fun W=>W.cell? ⟨w.heap.size,2,none⟩=some (.func (.func 60) #[] #[]))
  (with_reducible first|assumption|exact KK _ hC0|exact KK _ hC1|exact KK _ hC2|exact KK _ hC3|fail)
  (first|(go_at_call 73;refine(CS.out _ _ _ hd.num hok).mono ?_;rintro _ y3 ⟨rfl,hw3⟩;have hC3:=ac hC2 hw3)|(go_at_call 60;refine(CE.out _ _ _ (ac hb0 hC1) hA).mono ?_;rintro _ y2 ⟨v,D,rfl,hd,hsg,hok⟩;have hC2:=ac hC1 hd.below)|(go_at_call 45;refine(CL.out _ (ac hb0 hC0)).mono ?_;rintro _ y1 ⟨arr,R,rfl,hA,hw1⟩;have hC1:=ac hC0 hw1))
 replace r_k:=am hC3 r_k
 replace hb0:=ac hb0 hC3
 clear q_k KK hC0 hC1 hC2 hC3 hw1 hw3 hd hA hok
 have k0:=af r_k 0 rfl
 have k1:=af r_k 1 rfl
 have z0:=av r_k 0
 have z1:=av r_k 1
 go_wp2
 exact bodyPost_ret (v:=.agg #[.int .i64 sg,.int .i64 st]) (by simp[results,Tryz.results40,go_sem,k0,k1]) rfl ⟨rfl,(hb0.setCell (p:=⟨w.heap.size+1,0,none⟩) (show w.heap.size<=w.heap.size+1 by omega) _).setCell (p:=⟨w.heap.size+1,1,none⟩) (show w.heap.size<=w.heap.size+1 by omega) _⟩
theorem sE {m d:Int} (hm:ax m) (hd:ax d) (h:bk m<rg d):iV m<((iV d).natAbs:Int):=by
 obtain⟨q1,q2⟩:=cN hd
 have e:iV (rg d)=((iV d).natAbs:Int):=by
  rw[ko,iV,decide_eq_false (by omega),ve hd]
  rfl
 rw[<- e]
 exact uh hm q1 (by rw[iB q2];exact h)
theorem uq {A B:Int} (h1:0<A↔0<B) (h2:A<0↔B<0):aZ A 0=aZ B 0:=by
 unfold aZ
 by_cases c:A<0
 ·rw[if_pos c,if_pos (h2.1 c)]
 ·rw[if_neg c,if_neg (fun d=>c (h2.2 d))]
  by_cases e:0<A
  ·rw[if_pos e,if_pos (h1.1 e)]
  ·rw[if_neg e,if_neg (fun d=>e (h1.2 d))]
def xL (s:Nat->Nat->Int) (m p k:Nat):Int:=if p<m then iV (s p k)-iV (s m k) else 0
theorem Aj {s:Nat->Nat->Int} {m:Nat} (hr:∀ i k,ax (s i k)) (hz:∀ i,i<=m->∀ k,k<3->aF (s i k)=true) (p k:Nat) (hk:k<3):vL s m p k=xL s m p k*pw (-1074):=by
 unfold vL xL
 by_cases c:p<m
 ·rw[if_pos c,if_pos c,cQ (hr p k) (hz p (by omega) k hk),cQ (hr m k) (hz m (Nat.le_refl _) k hk),Int.sub_mul]
 ·rw[if_neg c,if_neg c,Int.zero_mul]
theorem cm {s:Nat->Nat->Int} {m:Nat} (hz:∀ i,i<=m->∀ k,k<3->Mz (s i k)) (p:Nat):Lg (xL s m) (uL s m) p:=by
 refine⟨fun k hk=>?_,fun k hk=>?_⟩
 ·unfold uL
  by_cases c:p<m
  ·rw[if_pos c];exact((hz p (by omega) k hk).diff (hz m (Nat.le_refl _) k hk)).1
  ·rw[if_neg c];exact fE
 ·unfold uL xL
  by_cases c:p<m
  ·rw[if_pos c,if_pos c];exact((hz p (by omega) k hk).diff (hz m (Nat.le_refl _) k hk)).2
  ·rw[if_neg c,if_neg c]
   have e:iV 0=0:=by decide
   unfold Un
   rw[e]
   decide
theorem om (X Y:Nat->Nat->Int) (c:Int) (p q r:Nat) (h:∀ i k,k<3->Y i k=X i k*c):dX Y p q r=dX X p q r*(c*(c*c)):=by
 unfold dX mX
 rw[h p 0 (by decide),h p 1 (by decide),h p 2 (by decide),h q 0 (by decide),h q 1 (by decide),h q 2 (by decide),h r 0 (by decide),h r 1 (by decide),h r 2 (by decide)]
 grind
theorem qH (X Y:Nat->Nat->Int) (c:Int) (p:Nat) (h:∀ i k,k<3->Y i k=X i k*c):lX Y p=lX X p*(c*c):=by
 unfold lX
 rw[h p 0 (by decide),h p 1 (by decide),h p 2 (by decide)]
 grind
theorem Eb (X Y:Nat->Nat->Int) (c:Int) (h:∀ i k,k<3->Y i k=X i k*c):sX Y=sX X*(c*c*(c*(c*c))):=by
 unfold sX
 rw[qH X Y c 0 h,qH X Y c 1 h,qH X Y c 2 h,qH X Y c 3 h,om X Y c _ _ _ h,om X Y c _ _ _ h,om X Y c _ _ _ h,om X Y c _ _ _ h]
 grind
theorem ur {d A:Int} (hd:ax d) (h:(0<A↔0<iV d)∧(A<0↔iV d<0)):fV d=aZ A 0:=by
 obtain⟨k1,k2⟩:=sl hd
 unfold fV
 exact(uq (h.1.trans k2) (h.2.trans k1)).symm
theorem ut {s:Nat->Nat->Int} (hz:∀ i,i<=3->∀ k,k<3->Mz (s i k)):ax (dt (uL s 3) 0 1 2)∧aF (dt (uL s 3) 0 1 2)=true∧ax (cw (uL s 3) 0 1 2)∧aF (cw (uL s 3) 0 1 2)=true:=⟨(gz (cm hz 0) (cm hz 1) (cm hz 2)).1.r,(gz (cm hz 0) (cm hz 1) (cm hz 2)).1.p,(fT (cm hz 0) (cm hz 1) (cm hz 2)).1.r,(fT (cm hz 0) (cm hz 1) (cm hz 2)).1.p⟩
theorem sF {s:Nat->Nat->Int} (hr:∀ i k,ax (s i k)) (hz:∀ i,i<=3->∀ k,k<3->Mz (s i k)) (h:bk (ay sA (cw (uL s 3) 0 1 2))<rg (dt (uL s 3) 0 1 2)):fV (dt (uL s 3) 0 1 2)=aZ (dX (vL s 3) 0 1 2) 0:=by
 have w0:=cv (-1074)
 have c:0<pw (-1074)*(pw (-1074)*pw (-1074)):=Int.mul_pos w0 (Int.mul_pos w0 w0)
 rw[ur (gz (cm hz 0) (cm hz 1) (cm hz 2)).1.r (xC (cm hz 0) (cm hz 1) (cm hz 2) (sE (aS fU (fT (cm hz 0) (cm hz 1) (cm hz 2)).1.r) (gz (cm hz 0) (cm hz 1) (cm hz 2)).1.r h))]
 exact oj c (om (xL s 3) (vL s 3) (pw (-1074)) 0 1 2 (fun i k hk=>Aj hr (fun i hi k hk=>(hz i hi k hk).2.1) i k hk)).symm
theorem mi {s:Nat->Nat->Int} (hz:∀ i,i<=4->∀ k,k<3->Mz (s i k)):ax (fD (uL s 4))∧aF (fD (uL s 4))=true∧ax (fS (uL s 4))∧aF (fS (uL s 4))=true:=⟨(lm (fun p _=>cm hz p)).1.r,(lm (fun p _=>cm hz p)).1.p,(mF (fun p _=>cm hz p)).1.r,(mF (fun p _=>cm hz p)).1.p⟩
theorem oo {s:Nat->Nat->Int} (hr:∀ i k,ax (s i k)) (hz:∀ i,i<=4->∀ k,k<3->Mz (s i k)) (h:bk (ay sB (fS (uL s 4)))<rg (fD (uL s 4))):fV (fD (uL s 4))=aZ (sX (vL s 4)) 0:=by
 have w0:=cv (-1074)
 have c:0<pw (-1074)*pw (-1074)*(pw (-1074)*(pw (-1074)*pw (-1074))):=Int.mul_pos (Int.mul_pos w0 w0) (Int.mul_pos w0 (Int.mul_pos w0 w0))
 rw[ur (lm (fun p _=>cm hz p)).1.r (tw (fun p _=>cm hz p) (sE (aS eI (mF (fun p _=>cm hz p)).1.r) (lm (fun p _=>cm hz p)).1.r h))]
 exact oj c (Eb (xL s 4) (vL s 4) (pw (-1074)) (fun i k hk=>Aj hr (fun i hi k hk=>(hz i hi k hk).2.1) i k hk)).symm
theorem jI {p q:Int} (hp:aF p=true) (rp:ax p) (hq:aF q=true) (rq:ax q):aL (ay p q)≠4:=by
 obtain⟨a1,a2⟩:=dr rp hp
 obtain⟨b1,b2⟩:=dr rq hq
 unfold ay
 rw[if_neg (fun h=>h.elim a1 b1),if_neg (fun h=>h.elim a2 b2)]
 by_cases c:dG p q=0
 ·rw[if_pos c]
  cases fQ p q<;>decide
 ·rw[if_neg c]
  refine(gJ (fun h=>c ?_)).2
  exact iX h
theorem sG (ao:Option Addr) (cap:Nat) (s:Nat->Nat->Int) (w:World) (h:fy w ao 5 cap s) (hr:∀ i k,ax (s i k)) (hno:bL (cD s) 5=false) :
  Calls Tryz.prog 20 #[.agg #[.func (.func 59) #[] #[],.float .f64 4386506037058863111,.func (.func 60) #[] #[]],.slice ao 5 cap] w fun e w'=>e=.returned (.tuple #[.agg #[.bool false,.slice none 0 0,.int .i64 0],.int .i64 10])∧Below w.heap.size w w':=by
 have CG:Hid (∀ W,Below w.heap.size w W->Calls Tryz.prog 38 #[.slice ao 5 cap] W fun x w'=>x=.returned (.bool false)∧Below W.heap.size W w'):=fun W hW=>by
  have:=eJ ao 5 cap s W (h.keeps hW) hr
  rw[hno] at this
  exact this
 clear h hr hno
 have hb0:=aO w (.cells #[.func (.func 59) #[] #[],.float .f64 4386506037058863111,.func (.func 60) #[] #[]] 57) (.cells #[.bool false,.slice none 0 0,.int .i64 0] 33)
 have r_k:=bP w (.cells #[.func (.func 59) #[] #[],.float .f64 4386506037058863111,.func (.func 60) #[] #[]] 57) (.cells #[.bool false,.slice none 0 0,.int .i64 0] 33)
 go_enter Tryz.func20,Tryz.ntmps20
 go_wp2_with fail
 generalize (w.alloc (.cells #[.func (.func 59) #[] #[],.float .f64 4386506037058863111,.func (.func 60) #[] #[]] 57)).alloc (.cells #[.bool false,.slice none 0 0,.int .i64 0] 33)=x0 at hb0 r_k ⊢
 refine(CG.out _ hb0).mono ?_
 rintro _ y1 ⟨rfl,hw1⟩
 replace r_k:=am hw1 r_k
 have k0:=af r_k 0 rfl
 have k1:=af r_k 1 rfl
 have k2:=af r_k 2 rfl
 have z0:=av r_k 0
 have z1:=av r_k 1
 have z2:=av r_k 2
 go_wp2
 exact bodyPost_ret (v:=.tuple #[.agg #[.bool false,.slice none 0 0,.int .i64 0],.int .i64 10]) (by simp[results,Tryz.results20,go_sem,k0,k1,k2]) rfl ⟨rfl,by first|exact dE (ac hb0 hw1) (by omega) _ _ _|exact ac hb0 hw1⟩
theorem sH (ao:Option Addr) (cap:Nat) (s:Nat->Nat->Int) (w:World) (h:fy w ao 5 cap s) (hr:∀ i k,ax (s i k)) (hok:bL (cD s) 5=true) (hz:∀ i,i<=4->∀ k,k<3->aF (s i k)=true) (H:cB w) :
  Calls Tryz.prog 20 #[.agg #[.func (.func 59) #[] #[],.float .f64 4386506037058863111,.func (.func 60) #[] #[]],.slice ao 5 cap] w fun e w'=>∃ v D,e=.returned (.tuple #[v,.int .i64 0])∧aX w w' D v∧aZ D 0=aZ (sX (vL s 4)) 0∧de D∧D*(2^4194304*(2^4194304*2^4194304*2^4194304))=sX (vL s 4):=by
 have CG:Hid (∀ W,Below w.heap.size w W->Calls Tryz.prog 38 #[.slice ao 5 cap] W fun x w'=>x=.returned (.bool true)∧Below W.heap.size W w'):=fun W hW=>by
  have:=eJ ao 5 cap s W (h.keeps hW) hr
  rw[hok] at this
  exact this
 have CL:Hid (∀ W,Below w.heap.size w W->Calls Tryz.prog 45 #[.slice ao 5 cap,.func (.func 46) #[] #[]] W fun e w'=>∃ arr R,e=.returned (.agg arr)∧gN w' arr (vL s 4) R∧Below W.heap.size W w'):=fun W hW=>lp ao 5 4 cap s W (h.keeps hW) rfl (by decide) hz (H.keeps hW)
 have CE:Hid (∀ W arr R,Below w.heap.size w W->gN W arr (vL s 4) R->Calls Tryz.prog 60 #[.agg arr] W fun r w'=>∃ v D,r=.returned v∧aX W w' D v∧aZ D 0=aZ (sX (vL s 4)) 0∧de D∧D*(2^4194304*(2^4194304*2^4194304*2^4194304))=sX (vL s 4)):=fun W arr R hW hA=>ql hr hz hA (H.keeps hW).tab
 clear h hr hok hz H
 have hb0:=aO w (.cells #[.func (.func 59) #[] #[],.float .f64 4386506037058863111,.func (.func 60) #[] #[]] 57) (.cells #[.bool false,.slice none 0 0,.int .i64 0] 33)
 have q_k:=bX w (.cells #[.func (.func 59) #[] #[],.float .f64 4386506037058863111,.func (.func 60) #[] #[]] 57) (.cells #[.bool false,.slice none 0 0,.int .i64 0] 33)
 have r_k:=bP w (.cells #[.func (.func 59) #[] #[],.float .f64 4386506037058863111,.func (.func 60) #[] #[]] 57) (.cells #[.bool false,.slice none 0 0,.int .i64 0] 33)
 go_enter Tryz.func20,Tryz.ntmps20
 go_wp2_with fail
 generalize (w.alloc (.cells #[.func (.func 59) #[] #[],.float .f64 4386506037058863111,.func (.func 60) #[] #[]] 57)).alloc (.cells #[.bool false,.slice none 0 0,.int .i64 0] 33)=x0 at hb0 q_k r_k ⊢
 refine(CG.out _ hb0).mono ?_
 rintro _ y1 ⟨rfl,hw1⟩
 replace q_k:=am hw1 q_k
 replace r_k:=am hw1 r_k
 replace hb0:=ac hb0 hw1
 have hs0:=(aGe r_k).1
 go_wp2_with fail
 have KK:∀ W,Below y1.heap.size y1 W->W.cell? ⟨w.heap.size,2,none⟩=some (.func (.func 60) #[] #[]):=fun W hb=>aj (af q_k 2 rfl) hb
 have hC0:=(ak y1).drew
 have hneq:w.heap.size≠w.heap.size+1:=by omega
 go_region_held3 (fun W=>W.cell? ⟨w.heap.size,2,none⟩=some (.func (.func 60) #[] #[]))
  (with_reducible first|assumption|exact KK _ hC0|exact KK _ hC1|exact KK _ hC2|exact az (KK _ hC2) _ _ _ _ _ _ hneq|fail)
  (first|(go_at_call 60;refine(CE.out _ _ _ (ac hb0 hC1) hA).mono ?_;rintro _ y3 ⟨v,D,rfl,hd,hsg,hok,hcc⟩;obtain⟨n_g,n_o,n_n,n_c,n_e,rfl⟩:=aT hd;have hC2:=ac hC1 hd.below;have dA:=aX.from hd (ac hb0 hC1);have r2:=am hC2 r_k;have e0:=af r2 0 rfl;have e1:=af r2 1 rfl;have e2:=af r2 2 rfl;have z0:=av r2 0;have z1:=av r2 1;have z2:=av r2 2)|(go_at_call 45;refine(CL.out _ (ac hb0 hC0)).mono ?_;rintro _ y2 ⟨arr,R,rfl,hA,hw2⟩;have hC1:=ac hC0 hw2))
 all_goals
  go_wp2
  refine bodyPost_ret (v:=.tuple #[.agg #[.bool n_g,.slice n_o n_n n_c,.int .i64 n_e],.int .i64 0]) (by simp[results,Tryz.results20,go_sem,e0,e1,e2]) rfl ⟨_,D,rfl,?_,hsg,hok,hcc⟩
  exact bM (g:=w.heap.size+1) hd (ac hb0 hC1) (by omega) (Nat.lt_of_lt_of_le hs0 hC1.size) _ _ _
structure Vq (x V:Int):Prop where
 r:ax x
 p:aF x=true
 v:iV x=V
theorem Fx.vq {a b:Nat} {x:Int} (h:Fx a b x):Vq x (iV x):=⟨h.r,h.p,rfl⟩
theorem Cx {p q p' q':Int} (hp:Vq p (iV p')) (hq:Vq q (iV q')) (hp':Vq p' (iV p')) (hq':Vq q' (iV q')):iV (aE p q)=iV (aE p' q'):=by
 rw[lh hp.r hq.r hp.p hq.p,lh hp'.r hq'.r hp'.p hq'.p,cQ hp.r hp.p,cQ hq.r hq.p,cQ hp'.r hp'.p,cQ hq'.r hq'.p,hp.v,hq.v]
 by_cases c:iV p'*pw (-1074)+iV q'*pw (-1074)=0
 ·rw[if_pos c,if_pos c,(gY _).2.2,(gY _).2.2]
 ·rw[if_neg c,if_neg c]
def rD (u:Nat->Nat->Int):Int:=aE (aE (ay (u 0 2) (mn u 1 2)) (ay (u 1 2) (mn u 2 0))) (ay (u 2 2) (mn u 0 1))
theorem xJ {p q:Int} (hp:ax p) (hq:ax q) (h:iV p=iV q):rg p=rg q:=by
 have a:=ko p
 have b:=ko q
 rw[h] at a
 have e:V Ieee.double (rg p).toNat=V Ieee.double (rg q).toNat:=by omega
 have p0:=(cN hp).2
 have q0:=(cN hq).2
 rcases Nat.lt_trichotomy (rg p).toNat (rg q).toNat with c|c|c
 ·have:=iN Ieee.double c;omega
 ·omega
 ·have:=iN Ieee.double c;omega
theorem sI {p q:Int} (hp:ax p) (hq:ax q) (h:iV p=iV q) (h0:iV q≠0):p=q:=by
 have e:=xJ hp hq h
 unfold iV at h h0
 rw[e] at h
 have s:decide (p<0)=decide (q<0):=by
  generalize (V Ieee.double (rg q).toNat:Int)=v at *
  generalize decide (p<0)=a at h ⊢
  generalize decide (q<0)=b at h h0 ⊢
  cases a<;>cases b
  ·rfl
  ·exfalso;have h1:v=-v:=h;have h2:-v≠0:=h0;omega
  ·exfalso;have h1:-v=v:=h;have h2:v≠0:=h0;omega
  ·rfl
 have s2:p<0↔q<0:=decide_eq_decide.1 s
 unfold rg at e
 unfold ax at hp hq
 by_cases c:p<0
 ·rw[if_pos c,if_pos (s2.1 c)] at e;omega
 ·rw[if_neg c,if_neg (fun d=>c (s2.2 d))] at e;omega
theorem Cy {q:Int} (hq:ax q):iV q=0↔bk q=0:=by
 obtain⟨a,b⟩:=sl hq
 omega
theorem xK {p q:Int} (hp:ax p) (hq:ax q) (h:iV p=iV q):bk p=bk q:=by
 by_cases c:iV q=0
 ·rw[(Cy hp).1 (h.trans c),(Cy hq).1 c]
 ·rw[sI hp hq h c]
theorem xM {p q:Int} (hp:ax p) (hq:ax q) (pp:aF p=true) (pq:aF q=true) (h:iV q=0):iV (ay p q)=0:=by
 obtain⟨a1,a2⟩:=dr hp pp
 obtain⟨b1,b2⟩:=dr hq pq
 have hs:aq p*aq q/2^4194304=0:=by rw[cQ hq pq,h,Int.zero_mul,Int.mul_zero,Int.zero_ediv]
 unfold ay dG
 rw[if_neg (fun c=>c.elim a1 b1),if_neg (fun c=>c.elim a2 b2),hs,if_pos (by cases fQ p q<;>rfl)]
 exact(gY _).2.2
theorem uu {p q q':Int} (hp:Vq p (iV p)) (hq:Vq q (iV q')) (hq':Vq q' (iV q')):iV (ay p q)=iV (ay p q'):=by
 by_cases c:iV q'=0
 ·rw[xM hp.r hq.r hp.p hq.p (hq.v.trans c),xM hp.r hq'.r hp.p hq'.p c]
 ·rw[sI hq.r hq'.r hq.v c]
theorem uv {p q:Int} (hp:ax p) (hq:ax q) (pp:aF p=true) (pq:aF q=true) (h:iV p=0):iV (ay p q)=0:=by
 obtain⟨a1,a2⟩:=dr hp pp
 obtain⟨b1,b2⟩:=dr hq pq
 have hs:aq p*aq q/2^4194304=0:=by rw[cQ hp pp,h,Int.zero_mul,Int.zero_mul,Int.zero_ediv]
 unfold ay dG
 rw[if_neg (fun c=>c.elim a1 b1),if_neg (fun c=>c.elim a2 b2),hs,if_pos (by cases fQ p q<;>rfl)]
 exact(gY _).2.2
theorem Bs {p p' q:Int} (hp:Vq p (iV p')) (hp':Vq p' (iV p')) (hq:Vq q (iV q)):iV (ay p q)=iV (ay p' q):=by
 by_cases c:iV p'=0
 ·rw[uv hp.r hq.r hp.p hq.p (hp.v.trans c),uv hp'.r hq.r hp'.p hq.p c]
 ·rw[sI hp.r hp'.r hp.v c]
theorem Vq.fx {a b:Nat} {p q:Int} (h:Vq p (iV q)) (f:Fx a b q):Fx a b p:=⟨h.r,h.p,by rw[h.v];exact f.d,by rw[h.v];exact f.b⟩
theorem Vq.sum {a b:Nat} {p q p' q':Int} (hp:Vq p (iV p')) (hq:Vq q (iV q')) (fp:Fx a b p') (fq:Fx a b q') (hb:b+1<=2097):Vq (aE p q) (iV (aE p' q')):=by
 obtain⟨s,_⟩:=(hp.fx fp).sum (hq.fx fq) hb
 exact⟨s.r,s.p,Cx hp hq fp.vq fq.vq⟩
theorem Vq.neg {p q:Int} (h:Vq p (iV q)) (hq:Vq q (iV q)):Vq (M.neg p) (iV (M.neg q)):=by
 obtain⟨n1,n2,n3⟩:=gK h.r h.p
 obtain⟨m1,m2,m3⟩:=gK hq.r hq.p
 exact⟨n1,n2,by rw[n3,m3,h.v]⟩
def rF (u:Nat->Nat->Int) (p:Nat):Int:=aE (aE (ay (u p 0) (u p 0)) (ay (u p 1) (u p 1))) (ay (u p 2) (u p 2))
def rT (u:Nat->Nat->Int) (i p q r:Nat):Int:=ay (rF u i) (dt u p q r)
def rX (u:Nat->Nat->Int) (p q r:Nat):Int:=aE (aE (ay (sz u p q) (rg (u r 2))) (ay (sz u q r) (rg (u p 2)))) (ay (sz u p r) (rg (u q 2)))
def dO (u:Nat->Nat->Int) (i p q r:Nat):Int:=ay (rX u p q r) (rF u i)
def oq (u:Nat->Nat->Int):Int:=aE (aE (rT u 3 0 1 2) (M.neg (rT u 2 3 0 1))) (aE (rT u 1 2 3 0) (M.neg (rT u 0 1 2 3)))
def ot (u:Nat->Nat->Int):Int:=aE (aE (aE (dO u 0 1 2 3) (dO u 1 2 3 0)) (dO u 2 3 0 1)) (dO u 3 0 1 2)
theorem Ec {X u:Nat->Nat->Int} {p q r:Nat} (hp:Lg X u p) (hr:Lg X u r):rX u p q r=cw u r p q:=by
 unfold rX cw
 rw[ui hp hr]
theorem vv {X u:Nat->Nat->Int} {p:Nat} (hp:Lg X u p):Vq (rF u p) (iV (lf u p)):=by
 obtain⟨f0,u0,n0⟩:=jb hp 0 (by decide)
 obtain⟨f1,u1,n1⟩:=jb hp 1 (by decide)
 obtain⟨f2,u2,n2⟩:=jb hp 2 (by decide)
 obtain⟨g0,e0⟩:=jm f0 (by decide)
 obtain⟨s,su⟩:=g0.sum f1 (by decide)
 exact Vq.sum (Vq.sum ⟨f0.r,f0.p,e0.symm⟩ f1.vq g0 f1 (by decide)) f2.vq s (f2.up (show 1379<=1381 by decide)) (by decide)
theorem vw {X u:Nat->Nat->Int} {i p q r:Nat} (hi:Lg X u i) (hp:Lg X u p) (hq:Lg X u q) (hr:Lg X u r):Vq (rT u i p q r) (iV (tt u i p q r)):=by
 obtain⟨fl,_,_⟩:=jc hi
 obtain⟨fd,_⟩:=gz hp hq hr
 have fr:=(vv hi).fx fl
 obtain⟨t,_,_⟩:=fr.prod fd (by decide) (by decide) (by decide)
 exact⟨t.r,t.p,Bs (vv hi) fl.vq fd.vq⟩
theorem qI {X u:Nat->Nat->Int} {i p q r:Nat} (hi:Lg X u i) (hp:Lg X u p) (hq:Lg X u q) (hr:Lg X u r):Vq (dO u i p q r) (iV (ts u i p q r)):=by
 obtain⟨fl,_,_⟩:=jc hi
 obtain⟨fd,_⟩:=fT hr hp hq
 have fr:=(vv hi).fx fl
 obtain⟨t,_,_⟩:=fd.prod fr (by decide) (by decide) (by decide)
 unfold dO
 rw[Ec hp hr]
 exact⟨t.r,t.p,uu fd.vq (vv hi) fl.vq⟩
theorem Ak {X u:Nat->Nat->Int} (h:∀ p,p<4->Lg X u p):Vq (oq u) (iV (fD u)):=by
 have l0:=h 0 (by decide)
 have l1:=h 1 (by decide)
 have l2:=h 2 (by decide)
 have l3:=h 3 (by decide)
 obtain⟨f0,_⟩:=gA l0 l1 l2 l3
 obtain⟨f1,_⟩:=gA l1 l2 l3 l0
 obtain⟨f2,_⟩:=gA l2 l3 l0 l1
 obtain⟨f3,_⟩:=gA l3 l0 l1 l2
 obtain⟨n2,e2⟩:=f2.neg
 obtain⟨n0,e0⟩:=f0.neg
 obtain⟨a,_⟩:=f3.sum n2 (by decide)
 obtain⟨b,_⟩:=f1.sum n0 (by decide)
 exact Vq.sum (Vq.sum (vw l3 l0 l1 l2) ((vw l2 l3 l0 l1).neg f2.vq) f3 n2 (by decide)) (Vq.sum (vw l1 l2 l3 l0) ((vw l0 l1 l2 l3).neg f0.vq) f1 n0 (by decide)) a b (by decide)
theorem Al {X u:Nat->Nat->Int} (h:∀ p,p<4->Lg X u p):Vq (ot u) (iV (fS u)):=by
 have l0:=h 0 (by decide)
 have l1:=h 1 (by decide)
 have l2:=h 2 (by decide)
 have l3:=h 3 (by decide)
 obtain⟨f0,_⟩:=gB l0 l1 l2 l3
 obtain⟨f1,_⟩:=gB l1 l2 l3 l0
 obtain⟨f2,_⟩:=gB l2 l3 l0 l1
 obtain⟨f3,_⟩:=gB l3 l0 l1 l2
 obtain⟨g0,e0⟩:=jm f0 (by decide)
 obtain⟨a,_⟩:=g0.sum f1 (by decide)
 obtain⟨b,_⟩:=a.sum (f2.up (show 1848<=1850 by decide)) (by decide)
 have v0:=qI l0 l1 l2 l3
 exact Vq.sum (Vq.sum (Vq.sum ⟨v0.r,v0.p,v0.v.trans e0.symm⟩ (qI l1 l2 l3 l0) g0 f1 (by decide)) (qI l2 l3 l0 l1) a (f2.up (show 1848<=1850 by decide)) (by decide)) (qI l3 l0 l1 l2) b (f3.up (show 1848<=1852 by decide)) (by decide)
theorem ty {X u:Nat->Nat->Int} (h:∀ p,p<4->Lg X u p):rg (oq u)=rg (fD u)∧fV (oq u)=fV (fD u)∧bk (ay sB (ot u))=bk (ay sB (fS u)):=by
 have v:=Ak h
 have s:=Al h
 obtain⟨f,_⟩:=lm h
 obtain⟨g,_⟩:=mF h
 have hB:Vq sB (iV sB):=⟨eI,by decide,rfl⟩
 refine⟨xJ v.r f.r v.v,by unfold fV;rw[xK v.r f.r v.v],xK (aS hB.r s.r) (aS hB.r g.r) (uu hB s g.vq)⟩
end Go.Proofs.YtcklaogdjpbagaaGreatDoor
