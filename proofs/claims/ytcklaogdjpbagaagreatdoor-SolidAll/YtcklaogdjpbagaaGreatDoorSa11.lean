/- Parts of the proof. -/
import Derived.Test.YtcklaogdjpbagaaGreatDoorSa7
import Derived.Test.YtcklaogdjpbagaaGreatDoorSa3
import Derived.Test.YtcklaogdjpbagaaGreatDoorSa6
import Derived.Deep.RegionHeld3
import Derived.Test.YtcklaogdjpbagaaGreatDoorSa10
set_option maxRecDepth 100000
set_option maxHeartbeats 8000000
set_option linter.unusedVariables false
set_option linter.unusedSimpArgs false
namespace Go.Proofs.YtcklaogdjpbagaaGreatDoor
open Go Go.Proofs.Tryz Go.RowKit Go.Proofs.YtcklaogdjpbagaaGreatDoor.M
theorem zu {x:aI} (ok:dI x=true):x.opp.V=-x.V∧Dy x.opp.V x.opp.ng (val x.opp.d x.opp.n) x.opp.e:=by
 have hy:=(jd ok).1
 have hN:=(cD ok).1
 by_cases h0:x.n=0
 ·have hv:val x.d x.n=0:=by rw[h0];rfl
  have e:x.opp=x:=by unfold aI.opp;rw[if_pos h0]
  rw[e]
  have:=hy.eq_zero.2 hv
  exact⟨by omega,hy⟩
 ·have hp:=ft hN (show 0<x.n by omega)
  have e:x.opp=⟨!x.ng,x.ao,x.n,x.cap,x.d,x.e⟩:=by unfold aI.opp;rw[if_neg h0]
  rw[e]
  have h1:=hy.neg hp
  have hV:aI.V ⟨!x.ng,x.ao,x.n,x.cap,x.d,x.e⟩=-x.V:=h1.val.symm
  rw[hV]
  exact⟨rfl,h1⟩
theorem jL.shape {w w':World} {A B:Int} {x y:aI} {v:Value} (h:jL w w' A B x.v y.v v):∃ ng so sn sc e,v=.agg #[.bool ng,.slice so sn sc,.int .i64 e]:=by
 rcases h.2 with⟨ng,s,m,e,rfl,_,hA⟩|⟨_,rfl⟩|⟨_,rfl⟩
 ·obtain⟨so,sn,sc,rfl⟩:=hA.num.shape
  exact⟨_,_,_,_,_,rfl⟩
 ·exact⟨_,_,_,_,_,rfl⟩
 ·exact⟨_,_,_,_,_,rfl⟩
theorem yH {w W w3:World} {A B:Int} {x y v:Value} (hv:jL W w3 A B x y v) (hb:Below w.heap.size w W) {g:Nat} (h0:w.heap.size<=g) (h1:g<W.heap.size) (a b c:Value) :
  jL w (((w3.setCell ⟨g,0,none⟩ a).setCell ⟨g,1,none⟩ b).setCell ⟨g,2,none⟩ c) A B x y v:=by
 refine⟨cX (ac hb hv.1) h0 _ _ _,?_⟩
 rcases hv.2 with h|h|h
 ·exact .inl (bG h hb h0 h1 a b c)
 ·exact .inr (.inl h)
 ·exact .inr (.inr h)
theorem wR (x y:aI) (w:World) (hx:aS w x.ao x.n x.cap x.d) (hy:aS w y.ao y.n y.cap y.d) (ox:dI x=true) (oy:dI y=true) {K:Nat} (hK:K<=560000) (bx:Bd K x.V) (bY:Bd K y.V) :
  Calls prog 61 #[x.v,y.v] w fun r w'=>∃ v,r=.returned v∧jL w w' x.V (-y.V) x.v y.opp.v v:=by
 obtain⟨e1,e2⟩:=zu oy
 have hop:=fun W=>pl y W (by have:=hy.le;have:=hy.max;omega)
 have C2:∀ W,Below w.heap.size w W->Calls prog 63 #[x.v,y.opp.v] W fun r w'=>∃ ng so sn sc e,r=.returned (.agg #[.bool ng,.slice so sn sc,.int .i64 e])∧jL W w' x.V (-y.V) x.v y.opp.v (.agg #[.bool ng,.slice so sn sc,.int .i64 e])∧Below W.heap.size W w':=fun W hb=>by
  refine(pA x y.opp W (hx.keeps hb) (hy.keeps hb) (jd ox).1 (cD ox).1 e2 (cD oy).1 hK bx (by rw[e1];exact bY.neg)).mono ?_
  rintro r w' ⟨v,rfl,h⟩
  rw[e1] at h
  obtain⟨ng,so,sn,sc,e,rfl⟩:=h.shape
  exact⟨_,_,_,_,_,rfl,h,h.1⟩
 have hmy:=hy.max
 have hly:=hy.le
 obtain⟨VV,hVV⟩:∃ V,V=x.V:=⟨_,rfl⟩
 obtain⟨UU,hUU⟩:∃ V,V=-y.V:=⟨_,rfl⟩
 rw[<- hVV,<- hUU] at C2 ⊢
 clear e1 e2 bx bY hVV hUU ox oy
 unfold aI.opp at *
 obtain⟨on,hon⟩:∃ V,V=(if y.n=0 then y.ng else !y.ng):=⟨_,rfl⟩
 rw[<- hon] at hop C2 ⊢
 clear hon
 obtain⟨an,ao,n,ca,a,e⟩:=x
 obtain⟨bn,bo,m,cb,b,f⟩:=y
 unfold aI.v at *
 simp only at *
 have hb3:Below w.heap.size w (((w.alloc (.cells #[.bool an,.slice ao n ca,.int .i64 e] 33)).alloc (.cells #[.bool bn,.slice bo m cb,.int .i64 f] 33)).alloc (.cells #[.bool false,.slice none 0 0,.int .i64 0] 33)):=dn _ _ _ _
 have g0:=lj w (.cells #[.bool an,.slice ao n ca,.int .i64 e] 33) (.cells #[.bool bn,.slice bo m cb,.int .i64 f] 33) (.cells #[.bool false,.slice none 0 0,.int .i64 0] 33)
 have g1:=lk w (.cells #[.bool an,.slice ao n ca,.int .i64 e] 33) (.cells #[.bool bn,.slice bo m cb,.int .i64 f] 33) (.cells #[.bool false,.slice none 0 0,.int .i64 0] 33)
 have g2:=jc w (.cells #[.bool an,.slice ao n ca,.int .i64 e] 33) (.cells #[.bool bn,.slice bo m cb,.int .i64 f] 33) (.cells #[.bool false,.slice none 0 0,.int .i64 0] 33)
 go_enter func61,ntmps61
 go_wp2_with fail
 generalize ((w.alloc (.cells #[.bool an,.slice ao n ca,.int .i64 e] 33)).alloc (.cells #[.bool bn,.slice bo m cb,.int .i64 f] 33)).alloc (.cells #[.bool false,.slice none 0 0,.int .i64 0] 33)=wx at hb3 g0 g1 g2 ⊢
 have k0:=af g0 0 rfl
 have k1:=af g0 1 rfl
 have k2:=af g0 2 rfl
 have j0:=af g1 0 rfl
 have j1:=af g1 1 rfl
 have j2:=af g1 2 rfl
 have hb1:=al wx
 have hs3:=(aGe g2).1
 go_region_held3 (fun W=>(W.cell? ⟨w.heap.size,0,none⟩=some (.bool an)∧W.cell? ⟨w.heap.size,1,none⟩=some (.slice ao n ca)∧W.cell? ⟨w.heap.size,2,none⟩=some (.int .i64 e))∧W.cell? ⟨w.heap.size+1,0,none⟩=some (.bool bn)∧W.cell? ⟨w.heap.size+1,1,none⟩=some (.slice bo m cb)∧W.cell? ⟨w.heap.size+1,2,none⟩=some (.int .i64 f))
  (first|assumption|exact⟨⟨k0,k1,k2⟩,j0,j1,j2⟩|exact bN (W:=wx.drew) hbv1 ⟨⟨k0,k1,k2⟩,j0,j1,j2⟩|exact bN hbv2 (bN (W:=wx.drew) hbv1 ⟨⟨k0,k1,k2⟩,j0,j1,j2⟩)|exact⟨fB (bN hbv2 (bN (W:=wx.drew) hbv1 ⟨⟨k0,k1,k2⟩,j0,j1,j2⟩)).1 (by omega) _ _ _,fB (bN hbv2 (bN (W:=wx.drew) hbv1 ⟨⟨k0,k1,k2⟩,j0,j1,j2⟩)).2 (by omega) _ _ _⟩)
  (first|(go_at_call 63;refine(C2 _ (ac hb3 (ac hb1.drew hbv1))).mono ?_;rintro y w4 ⟨ng4,o4,n4,c4,e4,rfl,hv2,hbv2⟩;have q0:=((ac hbv1 hbv2).block (w.heap.size+2) (by show _<wx.heap.size;omega)).trans g2;have x0:=af q0 0 rfl;have x1:=af q0 1 rfl;have x2:=af q0 2 rfl;have z0:=ar q0 0;have z1:=ar q0 1;have z2:=ar q0 2)|(go_at_call 91;refine(hop _).mono ?_;rintro y w3 ⟨rfl,hbv1⟩))
 all_goals go_wp2
 all_goals
  refine bodyPost_ret (v:=.agg #[.bool ng4,.slice o4 n4 c4,.int .i64 e4]) (by simp[results,results61,go_sem,x0,x1,x2]) rfl ⟨_,rfl,?_⟩
  exact yH (g:=w.heap.size+2) hv2 (ac hb3 (ac hb1.drew hbv1)) (by omega) (Nat.lt_of_lt_of_le (show _<wx.heap.size by omega) hbv1.size) _ _ _
theorem AE {w:World} {ng:Bool} {so:Option Addr} {sn sc:Nat} {e V:Int} (h:aM w (.agg #[.bool ng,.slice so sn sc,.int .i64 e]) V):dT ng sn=aT V 0∧sn<=9223372036854775807:=by
 obtain⟨ng',s,m,e',h1,hy,ao,n,cap,d,rfl,hR,hN,rfl⟩:=h
 simp only[Value.agg.injEq,Array.mk.injEq,List.cons.injEq,Value.bool.injEq,Value.int.injEq,Value.slice.injEq,and_true,true_and] at h1
 obtain⟨rfl,⟨rfl,rfl,rfl⟩,rfl⟩:=h1
 refine⟨?_,by have:=hR.le;have:=hR.max;omega⟩
 by_cases h0:sn=0
 ·have:=hy.eq_zero.2 (by rw[h0];rfl)
  rw[this,fm rfl]
  simp[dT,h0]
 ·have hp:=ft hN (show 0<sn by omega)
  cases ng
  ·have hn:¬ V<0:=fun h=>by have:=hy.neg_iff.2 h;simp at this
   have hz:V≠0:=fun h=>by have:=hy.eq_zero.1 h;omega
   rw[dM (by omega)]
   simp[dT,h0]
  ·have hn:=hy.neg_iff.1 rfl
   rw[dL hn]
   simp[dT,h0]
theorem wS {w:World} {g o0 o1 o2:Nat} {xs:Array Value} {z:Nat × Nat} (hg:w.heap[g]?=some (.cells xs 33 z)) (x y u:Value):∀ (g':Nat) (cur:Array Value) z',w.heap[g']?=some (.cells cur 3 z')->(((w.setCell ⟨g,o0,none⟩ x).setCell ⟨g,o1,none⟩ y).setCell ⟨g,o2,none⟩ u).heap[g']?=w.heap[g']?:=fun g' cur z' hc=>by
 refine(pk w g o0 o1 o2 x y u).block g' (aGe hc).1 fun e=>?_
 subst e
 rw[hg] at hc
 simp at hc
theorem aw {W y:World} (hb:Below W.heap.size W y) {g:Nat} {X:Obj} (h:W.heap[g]?=some X):y.heap[g]?=some X:=(hb.block _ (aGe h).1).trans h
theorem bw {B:Nat} {w3:World} {V:Int} {v:Value} (hv:bJ B w3 V v) {g:Nat} {xs:Array Value} {z:Nat × Nat} (hg:w3.heap[g]?=some (.cells xs 33 z)) (a b c:Value) :
  bJ B (((w3.setCell ⟨g,0,none⟩ a).setCell ⟨g,1,none⟩ b).setCell ⟨g,2,none⟩ c) V v:=hv.of_blocks (wS hg a b c)
def DR (a1 a2 b1 b2 V:Int):Prop:=∃ C D,C*2^4194304=a1*b2∧D*2^4194304=a2*b1∧V=C-D
theorem zv (w:World) (o0 o1:Obj):Below w.heap.size w ((w.alloc o0).alloc o1)∧((w.alloc o0).alloc o1).heap[w.heap.size]?=some o0∧((w.alloc o0).alloc o1).heap[w.heap.size+1]?=some o1∧((w.alloc o0).alloc o1).heap.size=w.heap.size+1+1 :=
 ⟨ac (ah w o0) (ah (w.alloc o0) o1),ap o1 (aK o0 (by rfl)),aK o1 (by simp only[aC]),by simp only[aC]⟩
theorem nN (w:World) (o0 o1 o2:Obj):Below w.heap.size w (((w.alloc o0).alloc o1).alloc o2)∧(((w.alloc o0).alloc o1).alloc o2).heap[w.heap.size]?=some o0∧(((w.alloc o0).alloc o1).alloc o2).heap[w.heap.size+1]?=some o1∧(((w.alloc o0).alloc o1).alloc o2).heap[w.heap.size+1+1]?=some o2∧(((w.alloc o0).alloc o1).alloc o2).heap.size=w.heap.size+1+1+1 :=
 ⟨ac (ac (ah w o0) (ah (w.alloc o0) o1)) (ah ((w.alloc o0).alloc o1) o2),ap o2 (ap o1 (aK o0 (by rfl))),ap o2 (aK o1 (by simp only[aC])),aK o2 (by simp only[aC]),by simp only[aC]⟩
theorem zw (w:World) (o0 o1 o2 o3:Obj):Below w.heap.size w ((((w.alloc o0).alloc o1).alloc o2).alloc o3)∧((((w.alloc o0).alloc o1).alloc o2).alloc o3).heap[w.heap.size]?=some o0∧((((w.alloc o0).alloc o1).alloc o2).alloc o3).heap[w.heap.size+1]?=some o1∧((((w.alloc o0).alloc o1).alloc o2).alloc o3).heap[w.heap.size+1+1]?=some o2∧((((w.alloc o0).alloc o1).alloc o2).alloc o3).heap[w.heap.size+1+1+1]?=some o3∧((((w.alloc o0).alloc o1).alloc o2).alloc o3).heap.size=w.heap.size+1+1+1+1 :=
 ⟨ac (ac (ac (ah w o0) (ah (w.alloc o0) o1)) (ah ((w.alloc o0).alloc o1) o2)) (ah (((w.alloc o0).alloc o1).alloc o2) o3),ap o3 (ap o2 (ap o1 (aK o0 (by rfl)))),ap o3 (ap o2 (aK o1 (by simp only[aC]))),ap o3 (aK o2 (by simp only[aC])),aK o3 (by simp only[aC]),by simp only[aC]⟩
theorem uF (w:World) (o0 o1 o2 o3 o4:Obj):Below w.heap.size w (((((w.alloc o0).alloc o1).alloc o2).alloc o3).alloc o4)∧(((((w.alloc o0).alloc o1).alloc o2).alloc o3).alloc o4).heap[w.heap.size]?=some o0∧(((((w.alloc o0).alloc o1).alloc o2).alloc o3).alloc o4).heap[w.heap.size+1]?=some o1∧(((((w.alloc o0).alloc o1).alloc o2).alloc o3).alloc o4).heap[w.heap.size+1+1]?=some o2∧(((((w.alloc o0).alloc o1).alloc o2).alloc o3).alloc o4).heap[w.heap.size+1+1+1]?=some o3∧(((((w.alloc o0).alloc o1).alloc o2).alloc o3).alloc o4).heap[w.heap.size+1+1+1+1]?=some o4∧(((((w.alloc o0).alloc o1).alloc o2).alloc o3).alloc o4).heap.size=w.heap.size+1+1+1+1+1 :=
 ⟨ac (ac (ac (ac (ah w o0) (ah (w.alloc o0) o1)) (ah ((w.alloc o0).alloc o1) o2)) (ah (((w.alloc o0).alloc o1).alloc o2) o3)) (ah ((((w.alloc o0).alloc o1).alloc o2).alloc o3) o4),ap o4 (ap o3 (ap o2 (ap o1 (aK o0 (by rfl))))),ap o4 (ap o3 (ap o2 (aK o1 (by simp only[aC])))),ap o4 (ap o3 (aK o2 (by simp only[aC]))),ap o4 (aK o3 (by simp only[aC])),aK o4 (by simp only[aC]),by simp only[aC]⟩
theorem uG (w:World) (o0 o1 o2 o3 o4 o5:Obj):Below w.heap.size w ((((((w.alloc o0).alloc o1).alloc o2).alloc o3).alloc o4).alloc o5)∧((((((w.alloc o0).alloc o1).alloc o2).alloc o3).alloc o4).alloc o5).heap[w.heap.size]?=some o0∧((((((w.alloc o0).alloc o1).alloc o2).alloc o3).alloc o4).alloc o5).heap[w.heap.size+1]?=some o1∧((((((w.alloc o0).alloc o1).alloc o2).alloc o3).alloc o4).alloc o5).heap[w.heap.size+1+1]?=some o2∧((((((w.alloc o0).alloc o1).alloc o2).alloc o3).alloc o4).alloc o5).heap[w.heap.size+1+1+1]?=some o3∧((((((w.alloc o0).alloc o1).alloc o2).alloc o3).alloc o4).alloc o5).heap[w.heap.size+1+1+1+1]?=some o4∧((((((w.alloc o0).alloc o1).alloc o2).alloc o3).alloc o4).alloc o5).heap[w.heap.size+1+1+1+1+1]?=some o5∧((((((w.alloc o0).alloc o1).alloc o2).alloc o3).alloc o4).alloc o5).heap.size=w.heap.size+1+1+1+1+1+1 :=
 ⟨ac (ac (ac (ac (ac (ah w o0) (ah (w.alloc o0) o1)) (ah ((w.alloc o0).alloc o1) o2)) (ah (((w.alloc o0).alloc o1).alloc o2) o3)) (ah ((((w.alloc o0).alloc o1).alloc o2).alloc o3) o4)) (ah (((((w.alloc o0).alloc o1).alloc o2).alloc o3).alloc o4) o5),ap o5 (ap o4 (ap o3 (ap o2 (ap o1 (aK o0 (by rfl)))))),ap o5 (ap o4 (ap o3 (ap o2 (aK o1 (by simp only[aC]))))),ap o5 (ap o4 (ap o3 (aK o2 (by simp only[aC])))),ap o5 (ap o4 (aK o3 (by simp only[aC]))),ap o5 (aK o4 (by simp only[aC])),aK o5 (by simp only[aC]),by simp only[aC]⟩
theorem nO:wd 0=0:=by decide
def eK (p:Int):Int:=aT (bl p) 0
theorem uH {p:Int} (hp:ax p) (h:aF p=true):FloatKind.f64.format.order (wd p) (wd p)=some .eq:=lA hp hp (cv h) (cv h) rfl
theorem wT {p:Int} (hp:ax p) (h:aF p=true) (w:World) :
  Calls prog 77 #[.float .f64 (wd p)] w fun r w'=>r=.returned (.bool false)∧w'=w:=by
 have e:=uH hp h
 go_enter func77,ntmps77
 go_wp2
 go_ret
 exact⟨rfl,rfl⟩
theorem rC {p:Int} (hp:ax p) (h:aF p=true) (w:World) :
    Calls prog 44 #[.float .f64 (wd p),.float .f64 0] w fun r w'=>r=.returned (.int .i64 (eK p))∧w'=w:=by
  have r0:ax 0:=by unfold ax;decide
  have p0:aF 0=true:=by decide
  have C1:Hid (∀ W,Calls prog 77 #[.float .f64 (wd p)] W fun r w'=>r=.returned (.bool false)∧w'=W):=fun W=>wT hp h W
  have C2:Hid (∀ W,Calls prog 77 #[.float .f64 0] W fun r w'=>r=.returned (.bool false)∧w'=W):=fun W=>by
    have:=wT r0 p0 W
    rw[nO] at this
    exact this
  have k0:bl 0=0:=by decide
  have hord:(FloatKind.f64.format.order (wd p) 0=some .lt∧eK p=-1)∨(FloatKind.f64.format.order (wd p) 0=some .gt∧eK p=1)∨(FloatKind.f64.format.order (wd p) 0=some .eq∧eK p=0):=by
    unfold eK aT
    rcases Int.lt_trichotomy (bl p) 0 with g|g|g
    · exact .inl ⟨by have:=mK hp r0 (cv h) (cv p0) (by rw[k0];exact g);rw[nO] at this;exact this,by first|simp[g]|(rw[if_pos g])⟩
    · exact .inr (.inr ⟨by have:=lA hp r0 (cv h) (cv p0) (by rw[k0];exact g);rw[nO] at this;exact this,by rw[g];decide⟩)
    · exact .inr (.inl ⟨by have:=mL hp r0 (cv h) (cv p0) (by rw [k0]; exact g); rw [nO] at this; exact this,by
        have:¬ bl p<0:=by omega
        simp [this,g]⟩)
  clear hp h r0 p0 k0
  generalize eK p=s at *
  generalize wd p=P at *
  rcases hord with⟨ho,rfl⟩|⟨ho,rfl⟩|⟨ho,rfl⟩
  all_goals
    go_enter func44,ntmps44
    go_wp2_with fail
    refine(C1.out _).mono ?_
    rintro _ wz ⟨rfl,hwz⟩
    replace hwz:=hwz.symm
    subst hwz
    go_wp2_with fail
    refine(C2.out _).mono ?_
    rintro _ wz ⟨rfl,hwz⟩
    replace hwz:=hwz.symm
    subst hwz
    go_wp2
    go_ret
    exact⟨rfl,rfl⟩
theorem nP {D c X:Int} (hc:0<c) (h:D*c=X):aT D 0=aT X 0:=by
 have e:=Af D 0 c
 rw[Int.zero_mul,h] at e
 have h1:aT c 0=1:=by
  unfold aT
  rw[if_neg (by omega),if_pos hc]
 rw[e,h1,Int.mul_one]
theorem nQ {b:Int} (hr:ax b) (h:aF b=true):Bd 1074 (am b):=by
 obtain⟨i0,i1,i2,i3⟩:=gm h
 have f:=jV hr h
 have hb:((iV b).natAbs:Int)<2^(2*1074):=by
  rw[f]
  have e1:(2:Int)^(bM b+1074).toNat<=2^2045:=mJ (by omega)
  have p:=p2 (bM b+1074).toNat
  have e2:(2:Int)^(2*1074)=2^103*2^2045:=by rw[<- Int.pow_add]
  have e3:bL b*2^(bM b+1074).toNat<=9007199254740992*2^2045:=Int.mul_le_mul (by omega) e1 (Int.le_of_lt p) (by decide)
  have p3:=p2 2045
  rw[e2,show(2:Int)^103=10141204801825835211973625643008 by decide]
  generalize (2:Int)^2045=z at *
  omega
 refine⟨iV b,cd hr h,by omega,by omega⟩
theorem zA {s:Nat->Nat->Int} {m:Nat} (hr:∀ i k,ax (s i k)) (hz:∀ i,i<=m->∀ k,k<3->aF (s i k)=true) (p:Nat) (hp:p<4) (k:Nat) (hk:k<3):Bd 1075 (vL s m p k):=by
 unfold vL
 by_cases c:p<m
 ·rw[if_pos c,Int.sub_eq_add_neg]
  exact(nQ (hr p k) (hz p (by omega) k hk)).add (nQ (hr m k) (hz m (Nat.le_refl _) k hk)).neg (by decide)
 ·rw[if_neg c]
  exact tN _
theorem nR (w:World):Calls prog 18 #[] w fun e w'=>e=.returned (.agg #[.func (.func 36) #[] #[],.float .f64 4380876537524649991,.func (.func 37) #[] #[]])∧Below w.heap.size w w':=by
 have hs1:∀ p F m w,(store p (.func (.func F) #[] #[]) m).run prog w=stored prog w p (.func (.func F) #[] #[]) m:=fun p F m w=>run_store _ w p _ m rfl
 have hs2:∀ p x m w,(store p (.float .f64 x) m).run prog w=stored prog w p (.float .f64 x) m:=fun p x m w=>run_store _ w p _ m rfl
 go_enter func18,ntmps18
 go_wp2
 exact bodyPost_ret (v:=.agg #[.func (.func 36) #[] #[],.float .f64 4380876537524649991,.func (.func 37) #[] #[]]) (by simp[results,results18,go_sem]) rfl ⟨rfl,ah _ _⟩
theorem tP {s:Nat->Nat->Int} (hr:∀ i k,ax (s i k)) (hz:∀ i,i<=3->∀ k,k<3->aF (s i k)=true) {w:World} {arr:Array Value} {R:Nat->Nat->aI} (hA:fY w arr (vL s 3) R) (hT:dZ w) :
  Calls prog 37 #[.agg arr] w fun r w'=>∃ v D,r=.returned v∧aW w w' D v∧aT D 0=aT (dX (vL s 3) 0 1 2) 0∧cY D∧D*(2^4194304*2^4194304)=dX (vL s 3) 0 1 2:=by
 refine(uE hA (zA hr hz) hT).mono ?_
 rintro _ w' ⟨v,D,rfl,hd,he,hb⟩
 exact⟨v,D,rfl,hd,nP (Int.mul_pos (aJ _) (aJ _)) ((Int.mul_assoc _ _ _).symm.trans he),hb.ok (by decide),(Int.mul_assoc _ _ _).symm.trans he⟩
theorem tQ (ao:Option Addr) (cap:Nat) (s:Nat->Nat->Int) (w:World) (h:eJ w ao 4 cap s) (hr:∀ i k,ax (s i k)) (hz:∀ i,i<=3->∀ k,k<3->aF (s i k)=true) (H:bR w) (st:Int) :
  Calls prog 40 #[.agg #[.func (.func 36) #[] #[],.float .f64 4380876537524649991,.func (.func 37) #[] #[]],.slice ao 4 cap,.int .i64 st] w fun e w'=>e=.returned (.agg #[.int .i64 (aT (dX (vL s 3) 0 1 2) 0),.int .i64 st])∧Below w.heap.size w w':=by
 have CL:Hid (∀ W,Below w.heap.size w W->Calls prog 45 #[.slice ao 4 cap,.func (.func 46) #[] #[]] W fun e w'=>∃ arr R,e=.returned (.agg arr)∧fY w' arr (vL s 3) R∧Below W.heap.size W w'):=fun W hW=>iM ao 4 3 cap s W (h.keeps hW) rfl (by decide) hz (H.keeps hW)
 have CE:Hid (∀ W arr R,Below w.heap.size w W->fY W arr (vL s 3) R->Calls prog 37 #[.agg arr] W fun r w'=>∃ v D,r=.returned v∧aW W w' D v∧aT D 0=aT (dX (vL s 3) 0 1 2) 0∧cY D):=fun W arr R hW hA=>(tP hr hz hA (H.keeps hW).tab).mono fun _ _ ⟨v,D,h1,h2,h3,h4,_⟩=>⟨v,D,h1,h2,h3,h4⟩
 have CS:Hid (∀ W v D,aM W v D->cY D->Calls prog 73 #[v] W fun r w'=>r=.returned (.tuple #[.int .i64 (aT D 0),.int .i64 0])∧Below W.heap.size W w'):=fun W v D h1 h2=>vV h1 h2
 clear h hr hz H
 generalize aT (dX (vL s 3) 0 1 2) 0=sg at *
 have hb0:=aL w (.cells #[.func (.func 36) #[] #[],.float .f64 4380876537524649991,.func (.func 37) #[] #[]] 57) (.cells #[.int .i64 0,.int .i64 0] 27)
 have q_k:=bO w (.cells #[.func (.func 36) #[] #[],.float .f64 4380876537524649991,.func (.func 37) #[] #[]] 57) (.cells #[.int .i64 0,.int .i64 0] 27)
 have r_k:=bH w (.cells #[.func (.func 36) #[] #[],.float .f64 4380876537524649991,.func (.func 37) #[] #[]] 57) (.cells #[.int .i64 0,.int .i64 0] 27)
 go_enter func40,ntmps40
 go_wp2_with fail
 generalize (w.alloc (.cells #[.func (.func 36) #[] #[],.float .f64 4380876537524649991,.func (.func 37) #[] #[]] 57)).alloc (.cells #[.int .i64 0,.int .i64 0] 27)=x0 at hb0 q_k r_k ⊢
 have KK:∀ W,Below x0.heap.size x0 W->W.cell? ⟨w.heap.size,2,none⟩=some (.func (.func 37) #[] #[]):=fun W hb=>aj (af q_k 2 rfl) hb
 have hC0:=(al x0).drew
 go_region_held3 (fun W=>W.cell? ⟨w.heap.size,2,none⟩=some (.func (.func 37) #[] #[]))
  (with_reducible first|assumption|exact KK _ hC0|exact KK _ hC1|exact KK _ hC2|exact KK _ hC3|fail)
  (first|(go_at_call 73;refine(CS.out _ _ _ hd.num hok).mono ?_;rintro _ y3 ⟨rfl,hw3⟩;have hC3:=ac hC2 hw3)|(go_at_call 37;refine(CE.out _ _ _ (ac hb0 hC1) hA).mono ?_;rintro _ y2 ⟨v,D,rfl,hd,hsg,hok⟩;have hC2:=ac hC1 hd.below)|(go_at_call 45;refine(CL.out _ (ac hb0 hC0)).mono ?_;rintro _ y1 ⟨arr,R,rfl,hA,hw1⟩;have hC1:=ac hC0 hw1))
 replace r_k:=ak hC3 r_k
 replace hb0:=ac hb0 hC3
 clear q_k KK hC0 hC1 hC2 hC3 hw1 hw3 hd hA hok
 have k0:=af r_k 0 rfl
 have k1:=af r_k 1 rfl
 have z0:=ar r_k 0
 have z1:=ar r_k 1
 go_wp2
 exact bodyPost_ret (v:=.agg #[.int .i64 sg,.int .i64 st]) (by simp[results,results40,go_sem,k0,k1]) rfl ⟨rfl,(hb0.setCell (p:=⟨w.heap.size+1,0,none⟩) (show w.heap.size<=w.heap.size+1 by omega) _).setCell (p:=⟨w.heap.size+1,1,none⟩) (show w.heap.size<=w.heap.size+1 by omega) _⟩
theorem kK (w:World):Calls prog 30 #[] w fun e w'=>e=.returned (.agg #[.func (.func 59) #[] #[],.float .f64 4386506037058863111,.func (.func 60) #[] #[]])∧Below w.heap.size w w':=by
 have hs1:∀ p F m w,(store p (.func (.func F) #[] #[]) m).run prog w=stored prog w p (.func (.func F) #[] #[]) m:=fun p F m w=>run_store _ w p _ m rfl
 have hs2:∀ p x m w,(store p (.float .f64 x) m).run prog w=stored prog w p (.float .f64 x) m:=fun p x m w=>run_store _ w p _ m rfl
 go_enter func30,ntmps30
 go_wp2
 exact bodyPost_ret (v:=.agg #[.func (.func 59) #[] #[],.float .f64 4386506037058863111,.func (.func 60) #[] #[]]) (by simp[results,results30,go_sem]) rfl ⟨rfl,ah _ _⟩
theorem pC {s:Nat->Nat->Int} (hr:∀ i k,ax (s i k)) (hz:∀ i,i<=4->∀ k,k<3->aF (s i k)=true) {w:World} {arr:Array Value} {R:Nat->Nat->aI} (hA:fY w arr (vL s 4) R) (hT:dZ w) :
  Calls prog 60 #[.agg arr] w fun r w'=>∃ v D,r=.returned v∧aW w w' D v∧aT D 0=aT (sX (vL s 4)) 0∧cY D∧D*(2^4194304*(2^4194304*2^4194304*2^4194304))=sX (vL s 4):=by
 refine(yG hA (zA hr hz) hT).mono ?_
 rintro _ w' ⟨v,D,rfl,hd,he,hb⟩
 exact⟨v,D,rfl,hd,nP (Int.mul_pos (aJ _) (Int.mul_pos (Int.mul_pos (aJ _) (aJ _)) (aJ _))) ((Int.mul_assoc _ _ _).symm.trans he),hb,(Int.mul_assoc _ _ _).symm.trans he⟩
theorem pE (ao:Option Addr) (cap:Nat) (s:Nat->Nat->Int) (w:World) (h:eJ w ao 5 cap s) (hr:∀ i k,ax (s i k)) (hz:∀ i,i<=4->∀ k,k<3->aF (s i k)=true) (H:bR w) (st:Int) :
  Calls prog 40 #[.agg #[.func (.func 59) #[] #[],.float .f64 4386506037058863111,.func (.func 60) #[] #[]],.slice ao 5 cap,.int .i64 st] w fun e w'=>e=.returned (.agg #[.int .i64 (aT (sX (vL s 4)) 0),.int .i64 st])∧Below w.heap.size w w':=by
 have CL:Hid (∀ W,Below w.heap.size w W->Calls prog 45 #[.slice ao 5 cap,.func (.func 46) #[] #[]] W fun e w'=>∃ arr R,e=.returned (.agg arr)∧fY w' arr (vL s 4) R∧Below W.heap.size W w'):=fun W hW=>iM ao 5 4 cap s W (h.keeps hW) rfl (by decide) hz (H.keeps hW)
 have CE:Hid (∀ W arr R,Below w.heap.size w W->fY W arr (vL s 4) R->Calls prog 60 #[.agg arr] W fun r w'=>∃ v D,r=.returned v∧aW W w' D v∧aT D 0=aT (sX (vL s 4)) 0∧cY D):=fun W arr R hW hA=>(pC hr hz hA (H.keeps hW).tab).mono fun _ _ ⟨v,D,h1,h2,h3,h4,_⟩=>⟨v,D,h1,h2,h3,h4⟩
 have CS:Hid (∀ W v D,aM W v D->cY D->Calls prog 73 #[v] W fun r w'=>r=.returned (.tuple #[.int .i64 (aT D 0),.int .i64 0])∧Below W.heap.size W w'):=fun W v D h1 h2=>vV h1 h2
 clear h hr hz H
 generalize aT (sX (vL s 4)) 0=sg at *
 have hb0:=aL w (.cells #[.func (.func 59) #[] #[],.float .f64 4386506037058863111,.func (.func 60) #[] #[]] 57) (.cells #[.int .i64 0,.int .i64 0] 27)
 have q_k:=bO w (.cells #[.func (.func 59) #[] #[],.float .f64 4386506037058863111,.func (.func 60) #[] #[]] 57) (.cells #[.int .i64 0,.int .i64 0] 27)
 have r_k:=bH w (.cells #[.func (.func 59) #[] #[],.float .f64 4386506037058863111,.func (.func 60) #[] #[]] 57) (.cells #[.int .i64 0,.int .i64 0] 27)
 go_enter func40,ntmps40
 go_wp2_with fail
 generalize (w.alloc (.cells #[.func (.func 59) #[] #[],.float .f64 4386506037058863111,.func (.func 60) #[] #[]] 57)).alloc (.cells #[.int .i64 0,.int .i64 0] 27)=x0 at hb0 q_k r_k ⊢
 have KK:∀ W,Below x0.heap.size x0 W->W.cell? ⟨w.heap.size,2,none⟩=some (.func (.func 60) #[] #[]):=fun W hb=>aj (af q_k 2 rfl) hb
 have hC0:=(al x0).drew
 go_region_held3 (fun W=>W.cell? ⟨w.heap.size,2,none⟩=some (.func (.func 60) #[] #[]))
  (with_reducible first|assumption|exact KK _ hC0|exact KK _ hC1|exact KK _ hC2|exact KK _ hC3|fail)
  (first|(go_at_call 73;refine(CS.out _ _ _ hd.num hok).mono ?_;rintro _ y3 ⟨rfl,hw3⟩;have hC3:=ac hC2 hw3)|(go_at_call 60;refine(CE.out _ _ _ (ac hb0 hC1) hA).mono ?_;rintro _ y2 ⟨v,D,rfl,hd,hsg,hok⟩;have hC2:=ac hC1 hd.below)|(go_at_call 45;refine(CL.out _ (ac hb0 hC0)).mono ?_;rintro _ y1 ⟨arr,R,rfl,hA,hw1⟩;have hC1:=ac hC0 hw1))
 replace r_k:=ak hC3 r_k
 replace hb0:=ac hb0 hC3
 clear q_k KK hC0 hC1 hC2 hC3 hw1 hw3 hd hA hok
 have k0:=af r_k 0 rfl
 have k1:=af r_k 1 rfl
 have z0:=ar r_k 0
 have z1:=ar r_k 1
 go_wp2
 exact bodyPost_ret (v:=.agg #[.int .i64 sg,.int .i64 st]) (by simp[results,results40,go_sem,k0,k1]) rfl ⟨rfl,(hb0.setCell (p:=⟨w.heap.size+1,0,none⟩) (show w.heap.size<=w.heap.size+1 by omega) _).setCell (p:=⟨w.heap.size+1,1,none⟩) (show w.heap.size<=w.heap.size+1 by omega) _⟩
theorem rG {m d:Int} (hm:ax m) (hd:ax d) (h:bl m<rg d):iV m<((iV d).natAbs:Int):=by
 obtain⟨q1,q2⟩:=bX hd
 have e:iV (rg d)=((iV d).natAbs:Int):=by
  rw[jU,iV,decide_eq_false (by omega),uw hd]
  rfl
 rw[<- e]
 exact tJ hm q1 (by rw[ig q2];exact h)
theorem tR {A B:Int} (h1:0<A↔0<B) (h2:A<0↔B<0):aT A 0=aT B 0:=by
 unfold aT
 by_cases c:A<0
 ·rw[if_pos c,if_pos (h2.1 c)]
 ·rw[if_neg c,if_neg (fun d=>c (h2.2 d))]
  by_cases e:0<A
  ·rw[if_pos e,if_pos (h1.1 e)]
  ·rw[if_neg e,if_neg (fun d=>e (h1.2 d))]
def xL (s:Nat->Nat->Int) (m p k:Nat):Int:=if p<m then iV (s p k)-iV (s m k) else 0
theorem zB {s:Nat->Nat->Int} {m:Nat} (hr:∀ i k,ax (s i k)) (hz:∀ i,i<=m->∀ k,k<3->aF (s i k)=true) (p k:Nat) (hk:k<3):vL s m p k=xL s m p k*pw (-1074):=by
 unfold vL xL
 by_cases c:p<m
 ·rw[if_pos c,if_pos c,cd (hr p k) (hz p (by omega) k hk),cd (hr m k) (hz m (Nat.le_refl _) k hk),Int.sub_mul]
 ·rw[if_neg c,if_neg c,Int.zero_mul]
theorem bQ {s:Nat->Nat->Int} {m:Nat} (hz:∀ i,i<=m->∀ k,k<3->Mz (s i k)) (p:Nat):Lg (xL s m) (uL s m) p:=by
 refine⟨fun k hk=>?_,fun k hk=>?_⟩
 ·unfold uL
  by_cases c:p<m
  ·rw[if_pos c];exact((hz p (by omega) k hk).diff (hz m (Nat.le_refl _) k hk)).1
  ·rw[if_neg c];exact fv
 ·unfold uL xL
  by_cases c:p<m
  ·rw[if_pos c,if_pos c];exact((hz p (by omega) k hk).diff (hz m (Nat.le_refl _) k hk)).2
  ·rw[if_neg c,if_neg c]
   have e:iV 0=0:=by decide
   unfold Un
   rw[e]
   decide
theorem nS (X Y:Nat->Nat->Int) (c:Int) (p q r:Nat) (h:∀ i k,k<3->Y i k=X i k*c):dX Y p q r=dX X p q r*(c*(c*c)):=by
 unfold dX mX
 rw[h p 0 (by decide),h p 1 (by decide),h p 2 (by decide),h q 0 (by decide),h q 1 (by decide),h q 2 (by decide),h r 0 (by decide),h r 1 (by decide),h r 2 (by decide)]
 grind
theorem qe (X Y:Nat->Nat->Int) (c:Int) (p:Nat) (h:∀ i k,k<3->Y i k=X i k*c):lX Y p=lX X p*(c*c):=by
 unfold lX
 rw[h p 0 (by decide),h p 1 (by decide),h p 2 (by decide)]
 grind
theorem Dg (X Y:Nat->Nat->Int) (c:Int) (h:∀ i k,k<3->Y i k=X i k*c):sX Y=sX X*(c*c*(c*(c*c))):=by
 unfold sX
 rw[qe X Y c 0 h,qe X Y c 1 h,qe X Y c 2 h,qe X Y c 3 h,nS X Y c _ _ _ h,nS X Y c _ _ _ h,nS X Y c _ _ _ h,nS X Y c _ _ _ h]
 grind
theorem tS {d A:Int} (hd:ax d) (h:(0<A↔0<iV d)∧(A<0↔iV d<0)):eK d=aT A 0:=by
 obtain⟨k1,k2⟩:=rt hd
 unfold eK
 exact(tR (h.1.trans k2) (h.2.trans k1)).symm
theorem oD {s:Nat->Nat->Int} (hz:∀ i,i<=3->∀ k,k<3->Mz (s i k)):ax (dt (uL s 3) 0 1 2)∧aF (dt (uL s 3) 0 1 2)=true∧ax (bW (uL s 3) 0 1 2)∧aF (bW (uL s 3) 0 1 2)=true:=⟨(fV (bQ hz 0) (bQ hz 1) (bQ hz 2)).1.r,(fV (bQ hz 0) (bQ hz 1) (bQ hz 2)).1.p,(fK (bQ hz 0) (bQ hz 1) (bQ hz 2)).1.r,(fK (bQ hz 0) (bQ hz 1) (bQ hz 2)).1.p⟩
theorem mN {s:Nat->Nat->Int} (hr:∀ i k,ax (s i k)) (hz:∀ i,i<=3->∀ k,k<3->Mz (s i k)) (h:bl (av sA (bW (uL s 3) 0 1 2))<rg (dt (uL s 3) 0 1 2)):eK (dt (uL s 3) 0 1 2)=aT (dX (vL s 3) 0 1 2) 0:=by
 have w0:=ct (-1074)
 have c:0<pw (-1074)*(pw (-1074)*pw (-1074)):=Int.mul_pos w0 (Int.mul_pos w0 w0)
 rw[tS (fV (bQ hz 0) (bQ hz 1) (bQ hz 2)).1.r (wM (bQ hz 0) (bQ hz 1) (bQ hz 2) (rG (aH fo (fK (bQ hz 0) (bQ hz 1) (bQ hz 2)).1.r) (fV (bQ hz 0) (bQ hz 1) (bQ hz 2)).1.r h))]
 exact nP c (nS (xL s 3) (vL s 3) (pw (-1074)) 0 1 2 (fun i k hk=>zB hr (fun i hi k hk=>(hz i hi k hk).2.1) i k hk)).symm
theorem lG {s:Nat->Nat->Int} (hz:∀ i,i<=4->∀ k,k<3->Mz (s i k)):ax (fD (uL s 4))∧aF (fD (uL s 4))=true∧ax (fS (uL s 4))∧aF (fS (uL s 4))=true:=⟨(kI (fun p _=>bQ hz p)).1.r,(kI (fun p _=>bQ hz p)).1.p,(mb (fun p _=>bQ hz p)).1.r,(mb (fun p _=>bQ hz p)).1.p⟩
theorem nT {s:Nat->Nat->Int} (hr:∀ i k,ax (s i k)) (hz:∀ i,i<=4->∀ k,k<3->Mz (s i k)) (h:bl (av sB (fS (uL s 4)))<rg (fD (uL s 4))):eK (fD (uL s 4))=aT (sX (vL s 4)) 0:=by
 have w0:=ct (-1074)
 have c:0<pw (-1074)*pw (-1074)*(pw (-1074)*(pw (-1074)*pw (-1074))):=Int.mul_pos (Int.mul_pos w0 w0) (Int.mul_pos w0 (Int.mul_pos w0 w0))
 rw[tS (kI (fun p _=>bQ hz p)).1.r (sO (fun p _=>bQ hz p) (rG (aH eI (mb (fun p _=>bQ hz p)).1.r) (kI (fun p _=>bQ hz p)).1.r h))]
 exact nP c (Dg (xL s 4) (vL s 4) (pw (-1074)) (fun i k hk=>zB hr (fun i hi k hk=>(hz i hi k hk).2.1) i k hk)).symm
theorem jn {p q:Int} (hp:aF p=true) (rp:ax p) (hq:aF q=true) (rq:ax q):aR (av p q)≠4:=by
 obtain⟨a1,a2⟩:=dh rp hp
 obtain⟨b1,b2⟩:=dh rq hq
 unfold av
 rw[if_neg (fun h=>h.elim a1 b1),if_neg (fun h=>h.elim a2 b2)]
 by_cases c:dH p q=0
 ·rw[if_pos c]
  cases fE p q<;>decide
 ·rw[if_neg c]
  refine(gy (fun h=>c ?_)).2
  exact iF h
theorem uI (ao:Option Addr) (cap:Nat) (s:Nat->Nat->Int) (w:World) (h:eJ w ao 4 cap s) (hr:∀ i k,ax (s i k)) (hno:br (ce s) 4=false) :
  Calls prog 20 #[.agg #[.func (.func 36) #[] #[],.float .f64 4380876537524649991,.func (.func 37) #[] #[]],.slice ao 4 cap] w fun e w'=>e=.returned (.tuple #[.agg #[.bool false,.slice none 0 0,.int .i64 0],.int .i64 10])∧Below w.heap.size w w':=by
 have CG:Hid (∀ W,Below w.heap.size w W->Calls prog 38 #[.slice ao 4 cap] W fun x w'=>x=.returned (.bool false)∧Below W.heap.size W w'):=fun W hW=>by
  have:=dF ao 4 cap s W (h.keeps hW) hr
  rw[hno] at this
  exact this
 clear h hr hno
 have hb0:=aL w (.cells #[.func (.func 36) #[] #[],.float .f64 4380876537524649991,.func (.func 37) #[] #[]] 57) (.cells #[.bool false,.slice none 0 0,.int .i64 0] 33)
 have r_k:=bH w (.cells #[.func (.func 36) #[] #[],.float .f64 4380876537524649991,.func (.func 37) #[] #[]] 57) (.cells #[.bool false,.slice none 0 0,.int .i64 0] 33)
 go_enter func20,ntmps20
 go_wp2_with fail
 generalize (w.alloc (.cells #[.func (.func 36) #[] #[],.float .f64 4380876537524649991,.func (.func 37) #[] #[]] 57)).alloc (.cells #[.bool false,.slice none 0 0,.int .i64 0] 33)=x0 at hb0 r_k ⊢
 refine(CG.out _ hb0).mono ?_
 rintro _ y1 ⟨rfl,hw1⟩
 replace r_k:=ak hw1 r_k
 have k0:=af r_k 0 rfl
 have k1:=af r_k 1 rfl
 have k2:=af r_k 2 rfl
 have z0:=ar r_k 0
 have z1:=ar r_k 1
 have z2:=ar r_k 2
 go_wp2
 exact bodyPost_ret (v:=.tuple #[.agg #[.bool false,.slice none 0 0,.int .i64 0],.int .i64 10]) (by simp[results,results20,go_sem,k0,k1,k2]) rfl ⟨rfl,by first|exact cX (ac hb0 hw1) (by omega) _ _ _|exact ac hb0 hw1⟩
theorem uJ (ao:Option Addr) (cap:Nat) (s:Nat->Nat->Int) (w:World) (h:eJ w ao 4 cap s) (hr:∀ i k,ax (s i k)) (hok:br (ce s) 4=true) (hz:∀ i,i<=3->∀ k,k<3->aF (s i k)=true) (H:bR w) :
  Calls prog 20 #[.agg #[.func (.func 36) #[] #[],.float .f64 4380876537524649991,.func (.func 37) #[] #[]],.slice ao 4 cap] w fun e w'=>∃ v D,e=.returned (.tuple #[v,.int .i64 0])∧aW w w' D v∧aT D 0=aT (dX (vL s 3) 0 1 2) 0∧cY D∧D*(2^4194304*2^4194304)=dX (vL s 3) 0 1 2:=by
 have CG:Hid (∀ W,Below w.heap.size w W->Calls prog 38 #[.slice ao 4 cap] W fun x w'=>x=.returned (.bool true)∧Below W.heap.size W w'):=fun W hW=>by
  have:=dF ao 4 cap s W (h.keeps hW) hr
  rw[hok] at this
  exact this
 have CL:Hid (∀ W,Below w.heap.size w W->Calls prog 45 #[.slice ao 4 cap,.func (.func 46) #[] #[]] W fun e w'=>∃ arr R,e=.returned (.agg arr)∧fY w' arr (vL s 3) R∧Below W.heap.size W w'):=fun W hW=>iM ao 4 3 cap s W (h.keeps hW) rfl (by decide) hz (H.keeps hW)
 have CE:Hid (∀ W arr R,Below w.heap.size w W->fY W arr (vL s 3) R->Calls prog 37 #[.agg arr] W fun r w'=>∃ v D,r=.returned v∧aW W w' D v∧aT D 0=aT (dX (vL s 3) 0 1 2) 0∧cY D∧D*(2^4194304*2^4194304)=dX (vL s 3) 0 1 2):=fun W arr R hW hA=>tP hr hz hA (H.keeps hW).tab
 clear h hr hok hz H
 have hb0:=aL w (.cells #[.func (.func 36) #[] #[],.float .f64 4380876537524649991,.func (.func 37) #[] #[]] 57) (.cells #[.bool false,.slice none 0 0,.int .i64 0] 33)
 have q_k:=bO w (.cells #[.func (.func 36) #[] #[],.float .f64 4380876537524649991,.func (.func 37) #[] #[]] 57) (.cells #[.bool false,.slice none 0 0,.int .i64 0] 33)
 have r_k:=bH w (.cells #[.func (.func 36) #[] #[],.float .f64 4380876537524649991,.func (.func 37) #[] #[]] 57) (.cells #[.bool false,.slice none 0 0,.int .i64 0] 33)
 go_enter func20,ntmps20
 go_wp2_with fail
 generalize (w.alloc (.cells #[.func (.func 36) #[] #[],.float .f64 4380876537524649991,.func (.func 37) #[] #[]] 57)).alloc (.cells #[.bool false,.slice none 0 0,.int .i64 0] 33)=x0 at hb0 q_k r_k ⊢
 refine(CG.out _ hb0).mono ?_
 rintro _ y1 ⟨rfl,hw1⟩
 replace q_k:=ak hw1 q_k
 replace r_k:=ak hw1 r_k
 replace hb0:=ac hb0 hw1
 have hs0:=(aGe r_k).1
 go_wp2_with fail
 have KK:∀ W,Below y1.heap.size y1 W->W.cell? ⟨w.heap.size,2,none⟩=some (.func (.func 37) #[] #[]):=fun W hb=>aj (af q_k 2 rfl) hb
 have hC0:=(al y1).drew
 have hneq:w.heap.size≠w.heap.size+1:=by omega
 go_region_held3 (fun W=>W.cell? ⟨w.heap.size,2,none⟩=some (.func (.func 37) #[] #[]))
  (with_reducible first|assumption|exact KK _ hC0|exact KK _ hC1|exact KK _ hC2|exact ay (KK _ hC2) _ _ _ _ _ _ hneq|fail)
  (first|(go_at_call 37;refine(CE.out _ _ _ (ac hb0 hC1) hA).mono ?_;rintro _ y3 ⟨v,D,rfl,hd,hsg,hok,hcc⟩;obtain⟨n_g,n_o,n_n,n_c,n_e,rfl⟩:=aN hd;have hC2:=ac hC1 hd.below;have dA:=aW.from hd (ac hb0 hC1);have r2:=ak hC2 r_k;have e0:=af r2 0 rfl;have e1:=af r2 1 rfl;have e2:=af r2 2 rfl;have z0:=ar r2 0;have z1:=ar r2 1;have z2:=ar r2 2)|(go_at_call 45;refine(CL.out _ (ac hb0 hC0)).mono ?_;rintro _ y2 ⟨arr,R,rfl,hA,hw2⟩;have hC1:=ac hC0 hw2))
 all_goals
  go_wp2
  refine bodyPost_ret (v:=.tuple #[.agg #[.bool n_g,.slice n_o n_n n_c,.int .i64 n_e],.int .i64 0]) (by simp[results,results20,go_sem,e0,e1,e2]) rfl ⟨_,D,rfl,?_,hsg,hok,hcc⟩
  exact bG (g:=w.heap.size+1) hd (ac hb0 hC1) (by omega) (Nat.lt_of_lt_of_le hs0 hC1.size) _ _ _
theorem rH (ao:Option Addr) (cap:Nat) (s:Nat->Nat->Int) (w:World) (h:eJ w ao 5 cap s) (hr:∀ i k,ax (s i k)) (hno:br (ce s) 5=false) :
  Calls prog 20 #[.agg #[.func (.func 59) #[] #[],.float .f64 4386506037058863111,.func (.func 60) #[] #[]],.slice ao 5 cap] w fun e w'=>e=.returned (.tuple #[.agg #[.bool false,.slice none 0 0,.int .i64 0],.int .i64 10])∧Below w.heap.size w w':=by
 have CG:Hid (∀ W,Below w.heap.size w W->Calls prog 38 #[.slice ao 5 cap] W fun x w'=>x=.returned (.bool false)∧Below W.heap.size W w'):=fun W hW=>by
  have:=dF ao 5 cap s W (h.keeps hW) hr
  rw[hno] at this
  exact this
 clear h hr hno
 have hb0:=aL w (.cells #[.func (.func 59) #[] #[],.float .f64 4386506037058863111,.func (.func 60) #[] #[]] 57) (.cells #[.bool false,.slice none 0 0,.int .i64 0] 33)
 have r_k:=bH w (.cells #[.func (.func 59) #[] #[],.float .f64 4386506037058863111,.func (.func 60) #[] #[]] 57) (.cells #[.bool false,.slice none 0 0,.int .i64 0] 33)
 go_enter func20,ntmps20
 go_wp2_with fail
 generalize (w.alloc (.cells #[.func (.func 59) #[] #[],.float .f64 4386506037058863111,.func (.func 60) #[] #[]] 57)).alloc (.cells #[.bool false,.slice none 0 0,.int .i64 0] 33)=x0 at hb0 r_k ⊢
 refine(CG.out _ hb0).mono ?_
 rintro _ y1 ⟨rfl,hw1⟩
 replace r_k:=ak hw1 r_k
 have k0:=af r_k 0 rfl
 have k1:=af r_k 1 rfl
 have k2:=af r_k 2 rfl
 have z0:=ar r_k 0
 have z1:=ar r_k 1
 have z2:=ar r_k 2
 go_wp2
 exact bodyPost_ret (v:=.tuple #[.agg #[.bool false,.slice none 0 0,.int .i64 0],.int .i64 10]) (by simp[results,results20,go_sem,k0,k1,k2]) rfl ⟨rfl,by first|exact cX (ac hb0 hw1) (by omega) _ _ _|exact ac hb0 hw1⟩
theorem rI (ao:Option Addr) (cap:Nat) (s:Nat->Nat->Int) (w:World) (h:eJ w ao 5 cap s) (hr:∀ i k,ax (s i k)) (hok:br (ce s) 5=true) (hz:∀ i,i<=4->∀ k,k<3->aF (s i k)=true) (H:bR w) :
  Calls prog 20 #[.agg #[.func (.func 59) #[] #[],.float .f64 4386506037058863111,.func (.func 60) #[] #[]],.slice ao 5 cap] w fun e w'=>∃ v D,e=.returned (.tuple #[v,.int .i64 0])∧aW w w' D v∧aT D 0=aT (sX (vL s 4)) 0∧cY D∧D*(2^4194304*(2^4194304*2^4194304*2^4194304))=sX (vL s 4):=by
 have CG:Hid (∀ W,Below w.heap.size w W->Calls prog 38 #[.slice ao 5 cap] W fun x w'=>x=.returned (.bool true)∧Below W.heap.size W w'):=fun W hW=>by
  have:=dF ao 5 cap s W (h.keeps hW) hr
  rw[hok] at this
  exact this
 have CL:Hid (∀ W,Below w.heap.size w W->Calls prog 45 #[.slice ao 5 cap,.func (.func 46) #[] #[]] W fun e w'=>∃ arr R,e=.returned (.agg arr)∧fY w' arr (vL s 4) R∧Below W.heap.size W w'):=fun W hW=>iM ao 5 4 cap s W (h.keeps hW) rfl (by decide) hz (H.keeps hW)
 have CE:Hid (∀ W arr R,Below w.heap.size w W->fY W arr (vL s 4) R->Calls prog 60 #[.agg arr] W fun r w'=>∃ v D,r=.returned v∧aW W w' D v∧aT D 0=aT (sX (vL s 4)) 0∧cY D∧D*(2^4194304*(2^4194304*2^4194304*2^4194304))=sX (vL s 4)):=fun W arr R hW hA=>pC hr hz hA (H.keeps hW).tab
 clear h hr hok hz H
 have hb0:=aL w (.cells #[.func (.func 59) #[] #[],.float .f64 4386506037058863111,.func (.func 60) #[] #[]] 57) (.cells #[.bool false,.slice none 0 0,.int .i64 0] 33)
 have q_k:=bO w (.cells #[.func (.func 59) #[] #[],.float .f64 4386506037058863111,.func (.func 60) #[] #[]] 57) (.cells #[.bool false,.slice none 0 0,.int .i64 0] 33)
 have r_k:=bH w (.cells #[.func (.func 59) #[] #[],.float .f64 4386506037058863111,.func (.func 60) #[] #[]] 57) (.cells #[.bool false,.slice none 0 0,.int .i64 0] 33)
 go_enter func20,ntmps20
 go_wp2_with fail
 generalize (w.alloc (.cells #[.func (.func 59) #[] #[],.float .f64 4386506037058863111,.func (.func 60) #[] #[]] 57)).alloc (.cells #[.bool false,.slice none 0 0,.int .i64 0] 33)=x0 at hb0 q_k r_k ⊢
 refine(CG.out _ hb0).mono ?_
 rintro _ y1 ⟨rfl,hw1⟩
 replace q_k:=ak hw1 q_k
 replace r_k:=ak hw1 r_k
 replace hb0:=ac hb0 hw1
 have hs0:=(aGe r_k).1
 go_wp2_with fail
 have KK:∀ W,Below y1.heap.size y1 W->W.cell? ⟨w.heap.size,2,none⟩=some (.func (.func 60) #[] #[]):=fun W hb=>aj (af q_k 2 rfl) hb
 have hC0:=(al y1).drew
 have hneq:w.heap.size≠w.heap.size+1:=by omega
 go_region_held3 (fun W=>W.cell? ⟨w.heap.size,2,none⟩=some (.func (.func 60) #[] #[]))
  (with_reducible first|assumption|exact KK _ hC0|exact KK _ hC1|exact KK _ hC2|exact ay (KK _ hC2) _ _ _ _ _ _ hneq|fail)
  (first|(go_at_call 60;refine(CE.out _ _ _ (ac hb0 hC1) hA).mono ?_;rintro _ y3 ⟨v,D,rfl,hd,hsg,hok,hcc⟩;obtain⟨n_g,n_o,n_n,n_c,n_e,rfl⟩:=aN hd;have hC2:=ac hC1 hd.below;have dA:=aW.from hd (ac hb0 hC1);have r2:=ak hC2 r_k;have e0:=af r2 0 rfl;have e1:=af r2 1 rfl;have e2:=af r2 2 rfl;have z0:=ar r2 0;have z1:=ar r2 1;have z2:=ar r2 2)|(go_at_call 45;refine(CL.out _ (ac hb0 hC0)).mono ?_;rintro _ y2 ⟨arr,R,rfl,hA,hw2⟩;have hC1:=ac hC0 hw2))
 all_goals
  go_wp2
  refine bodyPost_ret (v:=.tuple #[.agg #[.bool n_g,.slice n_o n_n n_c,.int .i64 n_e],.int .i64 0]) (by simp[results,results20,go_sem,e0,e1,e2]) rfl ⟨_,D,rfl,?_,hsg,hok,hcc⟩
  exact bG (g:=w.heap.size+1) hd (ac hb0 hC1) (by omega) (Nat.lt_of_lt_of_le hs0 hC1.size) _ _ _
theorem tT (g:Bool) (X:Int):sg (!g) X=-sg g X:=by cases g<;>simp[sg]
theorem rJ {S:Int} (h:S≠0):iV (de (-S))=-iV (de S):=by
 obtain⟨A,r0,left,e,hR,hn⟩:=eH h
 have hA:0<A:=by
  have a0:0<=A:=Int.le_trans (wi r0) hR.lo
  rcases Int.lt_or_eq_of_le a0 with c|c
  ·exact c
  ·rw[<- c] at e
   exact absurd (by rw[e];cases decide (S<0)<;>rfl) h
 have eN:-S=sg (!decide (S<0)) A:=by
  rw[tT]
  exact congrArg (fun z=>-z) e
 rw[eN,qS hA hR,hn]
 have t:∀ g g':Bool,bT 0 g r0 left=bT 0 g' r0 left:=fun g g'=>by unfold bT cI;rfl
 have bd:=fe 0 (decide (S<0)) r0 left
 rw[t (!decide (S<0)) (decide (S<0)),jT bd.1 bd.2,jT bd.1 bd.2,tT]
structure Vq (x V:Int):Prop where
 r:ax x
 p:aF x=true
 v:iV x=V
theorem Fx.vq {a b:Nat} {x:Int} (h:Fx a b x):Vq x (iV x):=⟨h.r,h.p,rfl⟩
theorem rK {p q p' q':Int} (hp:Vq p (iV p')) (hq:Vq q (iV q')) (hp':Vq p' (iV p')) (hq':Vq q' (iV q')):iV (aE p q)=iV (aE p' q'):=by
 rw[hG hp.r hq.r hp.p hq.p,hG hp'.r hq'.r hp'.p hq'.p,cd hp.r hp.p,cd hq.r hq.p,cd hp'.r hp'.p,cd hq'.r hq'.p,hp.v,hq.v]
 by_cases c:iV p'*pw (-1074)+iV q'*pw (-1074)=0
 ·rw[if_pos c,if_pos c,(dW _).2.2,(dW _).2.2]
 ·rw[if_neg c,if_neg c]
theorem BE {p q p' q':Int} (hp:Vq p (-iV p')) (hq:Vq q (-iV q')) (hp':Vq p' (iV p')) (hq':Vq q' (iV q')):iV (aE p q)=-iV (aE p' q'):=by
 rw[hG hp.r hq.r hp.p hq.p,hG hp'.r hq'.r hp'.p hq'.p,cd hp.r hp.p,cd hq.r hq.p,cd hp'.r hp'.p,cd hq'.r hq'.p,hp.v,hq.v,Int.neg_mul,Int.neg_mul,<- Int.neg_add]
 by_cases c:iV p'*pw (-1074)+iV q'*pw (-1074)=0
 ·rw[c,Int.neg_zero,if_pos rfl,if_pos rfl,(dW _).2.2,(dW _).2.2];rfl
 ·rw[if_neg c,if_neg (by omega),rJ c]
theorem pF {p q T:Int} (hp:ax p) (hq:ax q) (pp:aF p=true) (pq:aF q=true) (hT:2^1074*T=iV p*iV q):av p q=if T=0 then aP (fE p q) 0 else de (T*pw (-1074)):=by
 obtain⟨a1,a2⟩:=dh hp pp
 obtain⟨b1,b2⟩:=dh hq pq
 have hw:=ct (-1074)
 have hs:am p*am q/2^4194304=T*pw (-1074):=by
  rw[cd hp pp,cd hq pq]
  have e2:=jO (a:=-1074) (b:=-1074) (by decide) (by decide)
  rw[show(-1074 + -1074:Int)=-2148 by decide] at e2
  have e3:=ew (e:=-2148) (by decide) 1074
  rw[show(-2148+((1074:Nat):Int))=-1074 by decide] at e3
  exact yu (aJ 4194304) e2 e3 hT
 unfold av dH
 rw[if_neg (fun c=>c.elim a1 b1),if_neg (fun c=>c.elim a2 b2),hs]
 by_cases c:T=0
 ·rw[if_pos c,if_pos (zh _ c)]
 ·rw[if_neg c,if_neg (fun d=>c (wu _ hw d)),wv]
theorem AF {p q q' T:Int} (hp:Vq p (iV p)) (hq:Vq q (-iV q')) (hq':Vq q' (iV q')) (hT:2^1074*T=iV p*iV q'):iV (av p q)=-iV (av p q'):=by
 have hT':2^1074*(-T)=iV p*iV q:=by rw[hq.v,Int.mul_neg,Int.mul_neg,hT]
 rw[pF hp.r hq.r hp.p hq.p hT',pF hp.r hq'.r hp.p hq'.p hT]
 by_cases c:T=0
 ·rw[c,Int.neg_zero,if_pos rfl,if_pos rfl,(dW _).2.2,(dW _).2.2];rfl
 ·have hw:=ct (-1074)
  rw[if_neg c,if_neg (by omega),Int.neg_mul,rJ (Bs hw c)]
theorem BF {X u:Nat->Nat->Int} {p q:Nat} (hp:Lg X u p) (hq:Lg X u q):iV (mn u q p)=-iV (mn u p q):=by
 obtain⟨l,_⟩:=ii hp hq
 obtain⟨r,_⟩:=ii hq hp
 obtain⟨ln,le⟩:=l.neg
 obtain⟨rn,re⟩:=r.neg
 have a:Vq (pL u q p) (-iV (neg (pL u q p))):=⟨r.r,r.p,by rw[re,Int.neg_neg]⟩
 have b:Vq (neg (pL u p q)) (-iV (pL u p q)):=⟨ln.r,ln.p,le⟩
 have c:=BE a b rn.vq l.vq
 unfold mn
 rw[c,pf l.r rn.r l.p rn.p]
def rD (u:Nat->Nat->Int):Int:=aE (aE (av (u 0 2) (mn u 1 2)) (av (u 1 2) (mn u 2 0))) (av (u 2 2) (mn u 0 1))
theorem BG {X u:Nat->Nat->Int} (h0:Lg X u 0) (h1:Lg X u 1) (h2:Lg X u 2):Vq (rD u) (iV (dt u 0 1 2)):=by
 obtain⟨f1,_⟩:=ij h0 h1 h2
 obtain⟨f2,_⟩:=ij h1 h0 h2
 obtain⟨g2,_⟩:=ij h1 h2 h0
 obtain⟨f3,_⟩:=ij h2 h0 h1
 obtain⟨n2,e2⟩:=f2.neg
 obtain⟨s,_⟩:=f1.sum g2 (by decide)
 obtain⟨s',_⟩:=f1.sum n2 (by decide)
 obtain⟨t,_⟩:=s.sum (f3.up (show 1534<=1536 by decide)) (by decide)
 obtain⟨m,_⟩:=jD h0 h2
 obtain⟨m',_⟩:=jD h2 h0
 obtain⟨_,_,T,hT,_⟩:=(h1.f 2 (by decide)).prod m (by decide) (by decide) (by decide)
 have k1:iV (av (u 1 2) (mn u 2 0))=-iV (av (u 1 2) (mn u 0 2)):=AF (h1.f 2 (by decide)).vq ⟨m'.r,m'.p,BF h0 h2⟩ m.vq hT
 have k2:=rK f1.vq ⟨g2.r,g2.p,k1.trans e2.symm⟩ f1.vq n2.vq
 have k3:=rK ⟨s.r,s.p,k2⟩ f3.vq s'.vq f3.vq
 exact⟨t.r,t.p,k3⟩
theorem rN {p q:Int} (hp:ax p) (hq:ax q) (h:iV p=iV q):rg p=rg q:=by
 have a:=jU p
 have b:=jU q
 rw[h] at a
 have e:V Ieee.double (rg p).toNat=V Ieee.double (rg q).toNat:=by omega
 have p0:=(bX hp).2
 have q0:=(bX hq).2
 rcases Nat.lt_trichotomy (rg p).toNat (rg q).toNat with c|c|c
 ·have:=iA Ieee.double c;omega
 ·omega
 ·have:=iA Ieee.double c;omega
theorem rO {p q:Int} (hp:ax p) (hq:ax q) (h:iV p=iV q) (h0:iV q≠0):p=q:=by
 have e:=rN hp hq h
 unfold iV at h h0
 rw[e] at h
 have s:decide (p<0)=decide (q<0):=by
  generalize (V Ieee.double (rg q).toNat:Int)=v at *
  generalize decide (p<0)=a at h ⊢
  generalize decide (q<0)=b at h h0 ⊢
  cases a<;>cases b
  ·rfl
  ·exfalso;have h1:v=-v:=h;have h2:-v≠0:=h0;omega
  ·exfalso;have h1:-v=v:=h;have h2:v≠0:=h0;omega
  ·rfl
 have s2:p<0↔q<0:=decide_eq_decide.1 s
 unfold rg at e
 unfold ax at hp hq
 by_cases c:p<0
 ·rw[if_pos c,if_pos (s2.1 c)] at e;omega
 ·rw[if_neg c,if_neg (fun d=>c (s2.2 d))] at e;omega
theorem BH {q:Int} (hq:ax q):iV q=0↔bl q=0:=by
 obtain⟨a,b⟩:=rt hq
 omega
theorem rP {p q:Int} (hp:ax p) (hq:ax q) (h:iV p=iV q):bl p=bl q:=by
 by_cases c:iV q=0
 ·rw[(BH hp).1 (h.trans c),(BH hq).1 c]
 ·rw[rO hp hq h c]
theorem wU {p q:Int} (hp:ax p) (hq:ax q) (pp:aF p=true) (pq:aF q=true) (h:iV q=0):iV (av p q)=0:=by
 obtain⟨a1,a2⟩:=dh hp pp
 obtain⟨b1,b2⟩:=dh hq pq
 have hs:am p*am q/2^4194304=0:=by rw[cd hq pq,h,Int.zero_mul,Int.mul_zero,Int.zero_ediv]
 unfold av dH
 rw[if_neg (fun c=>c.elim a1 b1),if_neg (fun c=>c.elim a2 b2),hs,if_pos (by cases fE p q<;>rfl)]
 exact(dW _).2.2
theorem tU {p q q':Int} (hp:Vq p (iV p)) (hq:Vq q (iV q')) (hq':Vq q' (iV q')):iV (av p q)=iV (av p q'):=by
 by_cases c:iV q'=0
 ·rw[wU hp.r hq.r hp.p hq.p (hq.v.trans c),wU hp.r hq'.r hp.p hq'.p c]
 ·rw[rO hq.r hq'.r hq.v c]
theorem tV {p q:Int} (hp:ax p) (hq:ax q) (pp:aF p=true) (pq:aF q=true) (h:iV p=0):iV (av p q)=0:=by
 obtain⟨a1,a2⟩:=dh hp pp
 obtain⟨b1,b2⟩:=dh hq pq
 have hs:am p*am q/2^4194304=0:=by rw[cd hp pp,h,Int.zero_mul,Int.zero_mul,Int.zero_ediv]
 unfold av dH
 rw[if_neg (fun c=>c.elim a1 b1),if_neg (fun c=>c.elim a2 b2),hs,if_pos (by cases fE p q<;>rfl)]
 exact(dW _).2.2
theorem AG {p p' q:Int} (hp:Vq p (iV p')) (hp':Vq p' (iV p')) (hq:Vq q (iV q)):iV (av p q)=iV (av p' q):=by
 by_cases c:iV p'=0
 ·rw[tV hp.r hq.r hp.p hq.p (hp.v.trans c),tV hp'.r hq.r hp'.p hq.p c]
 ·rw[rO hp.r hp'.r hp.v c]
theorem Vq.fx {a b:Nat} {p q:Int} (h:Vq p (iV q)) (f:Fx a b q):Fx a b p:=⟨h.r,h.p,by rw[h.v];exact f.d,by rw[h.v];exact f.b⟩
theorem Vq.sum {a b:Nat} {p q p' q':Int} (hp:Vq p (iV p')) (hq:Vq q (iV q')) (fp:Fx a b p') (fq:Fx a b q') (hb:b+1<=2097):Vq (aE p q) (iV (aE p' q')):=by
 obtain⟨s,_⟩:=(hp.fx fp).sum (hq.fx fq) hb
 exact⟨s.r,s.p,rK hp hq fp.vq fq.vq⟩
theorem Vq.neg {p q:Int} (h:Vq p (iV q)) (hq:Vq q (iV q)):Vq (M.neg p) (iV (M.neg q)):=by
 obtain⟨n1,n2,n3⟩:=gz h.r h.p
 obtain⟨m1,m2,m3⟩:=gz hq.r hq.p
 exact⟨n1,n2,by rw[n3,m3,h.v]⟩
def rF (u:Nat->Nat->Int) (p:Nat):Int:=aE (aE (av (u p 0) (u p 0)) (av (u p 1) (u p 1))) (av (u p 2) (u p 2))
def rT (u:Nat->Nat->Int) (i p q r:Nat):Int:=av (rF u i) (dt u p q r)
def rX (u:Nat->Nat->Int) (p q r:Nat):Int:=aE (aE (av (sz u p q) (rg (u r 2))) (av (sz u q r) (rg (u p 2)))) (av (sz u p r) (rg (u q 2)))
def dO (u:Nat->Nat->Int) (i p q r:Nat):Int:=av (rX u p q r) (rF u i)
def nU (u:Nat->Nat->Int):Int:=aE (aE (rT u 3 0 1 2) (M.neg (rT u 2 3 0 1))) (aE (rT u 1 2 3 0) (M.neg (rT u 0 1 2 3)))
def nV (u:Nat->Nat->Int):Int:=aE (aE (aE (dO u 0 1 2 3) (dO u 1 2 3 0)) (dO u 2 3 0 1)) (dO u 3 0 1 2)
theorem Dh {X u:Nat->Nat->Int} {p q r:Nat} (hp:Lg X u p) (hr:Lg X u r):rX u p q r=bW u r p q:=by
 unfold rX bW
 rw[tK hp hr]
theorem uK {X u:Nat->Nat->Int} {p:Nat} (hp:Lg X u p):Vq (rF u p) (iV (lf u p)):=by
 obtain⟨f0,u0,n0⟩:=iI hp 0 (by decide)
 obtain⟨f1,u1,n1⟩:=iI hp 1 (by decide)
 obtain⟨f2,u2,n2⟩:=iI hp 2 (by decide)
 obtain⟨g0,e0⟩:=iR f0 (by decide)
 obtain⟨s,su⟩:=g0.sum f1 (by decide)
 exact Vq.sum (Vq.sum ⟨f0.r,f0.p,e0.symm⟩ f1.vq g0 f1 (by decide)) f2.vq s (f2.up (show 1379<=1381 by decide)) (by decide)
theorem uM {X u:Nat->Nat->Int} {i p q r:Nat} (hi:Lg X u i) (hp:Lg X u p) (hq:Lg X u q) (hr:Lg X u r):Vq (rT u i p q r) (iV (tt u i p q r)):=by
 obtain⟨fl,_,_⟩:=iJ hi
 obtain⟨fd,_⟩:=fV hp hq hr
 have fr:=(uK hi).fx fl
 obtain⟨t,_,_⟩:=fr.prod fd (by decide) (by decide) (by decide)
 exact⟨t.r,t.p,AG (uK hi) fl.vq fd.vq⟩
theorem qf {X u:Nat->Nat->Int} {i p q r:Nat} (hi:Lg X u i) (hp:Lg X u p) (hq:Lg X u q) (hr:Lg X u r):Vq (dO u i p q r) (iV (ts u i p q r)):=by
 obtain⟨fl,_,_⟩:=iJ hi
 obtain⟨fd,_⟩:=fK hr hp hq
 have fr:=(uK hi).fx fl
 obtain⟨t,_,_⟩:=fd.prod fr (by decide) (by decide) (by decide)
 unfold dO
 rw[Dh hp hr]
 exact⟨t.r,t.p,tU fd.vq (uK hi) fl.vq⟩
theorem zC {X u:Nat->Nat->Int} (h:∀ p,p<4->Lg X u p):Vq (nU u) (iV (fD u)):=by
 have l0:=h 0 (by decide)
 have l1:=h 1 (by decide)
 have l2:=h 2 (by decide)
 have l3:=h 3 (by decide)
 obtain⟨f0,_⟩:=gd l0 l1 l2 l3
 obtain⟨f1,_⟩:=gd l1 l2 l3 l0
 obtain⟨f2,_⟩:=gd l2 l3 l0 l1
 obtain⟨f3,_⟩:=gd l3 l0 l1 l2
 obtain⟨n2,e2⟩:=f2.neg
 obtain⟨n0,e0⟩:=f0.neg
 obtain⟨a,_⟩:=f3.sum n2 (by decide)
 obtain⟨b,_⟩:=f1.sum n0 (by decide)
 exact Vq.sum (Vq.sum (uM l3 l0 l1 l2) ((uM l2 l3 l0 l1).neg f2.vq) f3 n2 (by decide)) (Vq.sum (uM l1 l2 l3 l0) ((uM l0 l1 l2 l3).neg f0.vq) f1 n0 (by decide)) a b (by decide)
theorem zD {X u:Nat->Nat->Int} (h:∀ p,p<4->Lg X u p):Vq (nV u) (iV (fS u)):=by
 have l0:=h 0 (by decide)
 have l1:=h 1 (by decide)
 have l2:=h 2 (by decide)
 have l3:=h 3 (by decide)
 obtain⟨f0,_⟩:=ge l0 l1 l2 l3
 obtain⟨f1,_⟩:=ge l1 l2 l3 l0
 obtain⟨f2,_⟩:=ge l2 l3 l0 l1
 obtain⟨f3,_⟩:=ge l3 l0 l1 l2
 obtain⟨g0,e0⟩:=iR f0 (by decide)
 obtain⟨a,_⟩:=g0.sum f1 (by decide)
 obtain⟨b,_⟩:=a.sum (f2.up (show 1848<=1850 by decide)) (by decide)
 have v0:=qf l0 l1 l2 l3
 exact Vq.sum (Vq.sum (Vq.sum ⟨v0.r,v0.p,v0.v.trans e0.symm⟩ (qf l1 l2 l3 l0) g0 f1 (by decide)) (qf l2 l3 l0 l1) a (f2.up (show 1848<=1850 by decide)) (by decide)) (qf l3 l0 l1 l2) b (f3.up (show 1848<=1852 by decide)) (by decide)
theorem wV {X u:Nat->Nat->Int} (h0:Lg X u 0) (h1:Lg X u 1) (h2:Lg X u 2):rg (rD u)=rg (dt u 0 1 2)∧eK (rD u)=eK (dt u 0 1 2):=by
 have v:=BG h0 h1 h2
 obtain⟨f,_⟩:=fV h0 h1 h2
 refine⟨rN v.r f.r v.v,?_⟩
 unfold eK
 rw[rP v.r f.r v.v]
theorem sR {X u:Nat->Nat->Int} (h:∀ p,p<4->Lg X u p):rg (nU u)=rg (fD u)∧eK (nU u)=eK (fD u)∧bl (av sB (nV u))=bl (av sB (fS u)):=by
 have v:=zC h
 have s:=zD h
 obtain⟨f,_⟩:=kI h
 obtain⟨g,_⟩:=mb h
 have hB:Vq sB (iV sB):=⟨eI,by decide,rfl⟩
 refine⟨rN v.r f.r v.v,by unfold eK;rw[rP v.r f.r v.v],rP (aH hB.r s.r) (aH hB.r g.r) (tU hB s g.vq)⟩
theorem uN (ao:Option Addr) (cap:Nat) (s:Nat->Nat->Int) (w:World) (h:eJ w ao 4 cap s) (hr:∀ i k,ax (s i k)) (hno:br (ce s) 4=false) :
  Calls prog 19 #[.agg #[.func (.func 36) #[] #[],.float .f64 4380876537524649991,.func (.func 37) #[] #[]],.slice ao 4 cap] w fun e w'=>e=.returned (.tuple #[.agg #[.int .i64 0,.int .i64 0],.int .i64 10])∧Below w.heap.size w w':=by
 have CG:Hid (∀ W,Below w.heap.size w W->Calls prog 38 #[.slice ao 4 cap] W fun x w'=>x=.returned (.bool false)∧Below W.heap.size W w'):=fun W hW=>by
  have:=dF ao 4 cap s W (h.keeps hW) hr
  rw[hno] at this
  exact this
 clear h hr hno
 have hb0:=aL w (.cells #[.func (.func 36) #[] #[],.float .f64 4380876537524649991,.func (.func 37) #[] #[]] 57) (.cells #[.int .i64 0,.int .i64 0] 27)
 have q_k:=bO w (.cells #[.func (.func 36) #[] #[],.float .f64 4380876537524649991,.func (.func 37) #[] #[]] 57) (.cells #[.int .i64 0,.int .i64 0] 27)
 have r_k:=bH w (.cells #[.func (.func 36) #[] #[],.float .f64 4380876537524649991,.func (.func 37) #[] #[]] 57) (.cells #[.int .i64 0,.int .i64 0] 27)
 have qv0:=af q_k 0 rfl
 have qv1:=af q_k 1 rfl
 have qv2:=af q_k 2 rfl
 go_enter func19,ntmps19
 go_wp2_with fail
 clear qv0 qv1 qv2
 generalize (w.alloc (.cells #[.func (.func 36) #[] #[],.float .f64 4380876537524649991,.func (.func 37) #[] #[]] 57)).alloc (.cells #[.int .i64 0,.int .i64 0] 27)=x0 at hb0 q_k r_k ⊢
 refine(CG.out _ hb0).mono ?_
 rintro _ y1 ⟨rfl,hw1⟩
 replace q_k:=ak hw1 q_k
 replace r_k:=ak hw1 r_k
 replace hb0:=ac hb0 hw1
 have k0:=af r_k 0 rfl
 have k1:=af r_k 1 rfl
 have z0:=ar r_k 0
 have z1:=ar r_k 1
 go_wp2
 exact bodyPost_ret (v:=.tuple #[.agg #[.int .i64 0,.int .i64 0],.int .i64 10]) (by simp[results,results19,go_sem,k0,k1]) rfl ⟨rfl,by first|exact(hb0.setCell (p:=⟨w.heap.size+1,0,none⟩) (show w.heap.size<=w.heap.size+1 by omega) _).setCell (p:=⟨w.heap.size+1,1,none⟩) (show w.heap.size<=w.heap.size+1 by omega) _|exact hb0⟩
theorem rQ (ao:Option Addr) (cap:Nat) (s:Nat->Nat->Int) (w:World) (h:eJ w ao 4 cap s) (hr:∀ i k,ax (s i k)) (hok:br (ce s) 4=true) (hz:∀ i,i<=3->∀ k,k<3->aF (s i k)=true) (hno:br (dr s) 4=false) (H:bR w) :
  Calls prog 19 #[.agg #[.func (.func 36) #[] #[],.float .f64 4380876537524649991,.func (.func 37) #[] #[]],.slice ao 4 cap] w fun e w'=>e=.returned (.tuple #[.agg #[.int .i64 (aT (dX (vL s 3) 0 1 2) 0),.int .i64 6],.int .i64 0])∧Below w.heap.size w w':=by
 have CG:Hid (∀ W,Below w.heap.size w W->Calls prog 38 #[.slice ao 4 cap] W fun x w'=>x=.returned (.bool true)∧Below W.heap.size W w'):=fun W hW=>by
  have:=dF ao 4 cap s W (h.keeps hW) hr
  rw[hok] at this
  exact this
 have CT:Hid (∀ W,Below w.heap.size w W->Calls prog 39 #[.slice ao 4 cap] W fun x w'=>x=.returned (.bool false)∧Below W.heap.size W w'):=fun W hW=>by
  have:=gB ao 4 cap s W (h.keeps hW) hr
  rw[hno] at this
  exact this
 have CX:Hid (∀ W st,Below w.heap.size w W->Calls prog 40 #[.agg #[.func (.func 36) #[] #[],.float .f64 4380876537524649991,.func (.func 37) #[] #[]],.slice ao 4 cap,.int .i64 st] W fun e w'=>e=.returned (.agg #[.int .i64 (aT (dX (vL s 3) 0 1 2) 0),.int .i64 st])∧Below W.heap.size W w'):=fun W st hW=>tQ ao cap s W (h.keeps hW) hr hz (H.keeps hW) st
 clear h hr hno hok hz H
 generalize aT (dX (vL s 3) 0 1 2) 0=sg at *
 have hb0:=aL w (.cells #[.func (.func 36) #[] #[],.float .f64 4380876537524649991,.func (.func 37) #[] #[]] 57) (.cells #[.int .i64 0,.int .i64 0] 27)
 have q_k:=bO w (.cells #[.func (.func 36) #[] #[],.float .f64 4380876537524649991,.func (.func 37) #[] #[]] 57) (.cells #[.int .i64 0,.int .i64 0] 27)
 have r_k:=bH w (.cells #[.func (.func 36) #[] #[],.float .f64 4380876537524649991,.func (.func 37) #[] #[]] 57) (.cells #[.int .i64 0,.int .i64 0] 27)
 have qv0:=af q_k 0 rfl
 have qv1:=af q_k 1 rfl
 have qv2:=af q_k 2 rfl
 go_enter func19,ntmps19
 go_wp2_with fail
 clear qv0 qv1 qv2
 generalize (w.alloc (.cells #[.func (.func 36) #[] #[],.float .f64 4380876537524649991,.func (.func 37) #[] #[]] 57)).alloc (.cells #[.int .i64 0,.int .i64 0] 27)=x0 at hb0 q_k r_k ⊢
 refine(CG.out _ hb0).mono ?_
 rintro _ y1 ⟨rfl,hw1⟩
 replace q_k:=ak hw1 q_k
 replace r_k:=ak hw1 r_k
 replace hb0:=ac hb0 hw1
 go_wp2_with fail
 refine(CT.out _ hb0).mono ?_
 rintro _ y2 ⟨rfl,hw2⟩
 replace q_k:=ak hw2 q_k
 replace r_k:=ak hw2 r_k
 replace hb0:=ac hb0 hw2
 have c0:=af q_k 0 rfl
 have c1:=af q_k 1 rfl
 have c2:=af q_k 2 rfl
 go_wp2_with fail
 clear c0 c1 c2
 refine(CX.out _ _ hb0).mono ?_
 rintro _ y9 ⟨rfl,hw9⟩
 replace r_k:=ak hw9 r_k
 replace hb0:=ac hb0 hw9
 have k0:=af r_k 0 rfl
 have k1:=af r_k 1 rfl
 have z0:=ar r_k 0
 have z1:=ar r_k 1
 go_wp2
 exact bodyPost_ret (v:=.tuple #[.agg #[.int .i64 sg,.int .i64 6],.int .i64 0]) (by simp[results,results19,go_sem,k0,k1]) rfl ⟨rfl,by first|exact(hb0.setCell (p:=⟨w.heap.size+1,0,none⟩) (show w.heap.size<=w.heap.size+1 by omega) _).setCell (p:=⟨w.heap.size+1,1,none⟩) (show w.heap.size<=w.heap.size+1 by omega) _|exact hb0⟩
theorem sS (ao:Option Addr) (cap:Nat) (s:Nat->Nat->Int) (w:World) (h:eJ w ao 4 cap s) (hr:∀ i k,ax (s i k)) (hok:br (ce s) 4=true) (hz:∀ i,i<=3->∀ k,k<3->aF (s i k)=true) (hto:br (dr s) 4=true) (ht:∀ i,i<=3->∀ k,k<3->bv (s i k)=true) (hd:bl (av sA (bW (uL s 3) 0 1 2))<rg (dt (uL s 3) 0 1 2)) (H:bR w) :
  Calls prog 19 #[.agg #[.func (.func 36) #[] #[],.float .f64 4380876537524649991,.func (.func 37) #[] #[]],.slice ao 4 cap] w fun e w'=>e=.returned (.tuple #[.agg #[.int .i64 (aT (dX (vL s 3) 0 1 2) 0),.int .i64 1],.int .i64 0])∧Below w.heap.size w w':=by
 have CG:Hid (∀ W,Below w.heap.size w W->Calls prog 38 #[.slice ao 4 cap] W fun x w'=>x=.returned (.bool true)∧Below W.heap.size W w'):=fun W hW=>by
  have:=dF ao 4 cap s W (h.keeps hW) hr
  rw[hok] at this
  exact this
 have CT:Hid (∀ W,Below w.heap.size w W->Calls prog 39 #[.slice ao 4 cap] W fun x w'=>x=.returned (.bool true)∧Below W.heap.size W w'):=fun W hW=>by
  have:=gB ao 4 cap s W (h.keeps hW) hr
  rw[hto] at this
  exact this
 have hzt:∀ i,i<=3->∀ k,k<3->Mz (s i k):=fun i hi k hk=>gA (hr i k) (ht i hi k hk)
 obtain⟨rD,pD,rS,pS⟩:=oD hzt
 have cM:=jn (show aF sA=true by decide) fo pS rS
 have rM:ax (av sA (bW (uL s 3) 0 1 2)):=aH fo rS
 obtain⟨q1,q2⟩:=bX rD
 have kR:bl (rg (dt (uL s 3) 0 1 2))=rg (dt (uL s 3) 0 1 2):=ig q2
 have pR:aR (rg (dt (uL s 3) 0 1 2))≠4:=by rw[kF rD];exact cv pD
 have hM:∀ W,(binOp .mul 54 (.float .f64 4380876537524649991) (.float .f64 (wd (bW (uL s 3) 0 1 2)))).run prog W=.ok (.float .f64 (wd (av sA (bW (uL s 3) 0 1 2)))) W:=fun W=>by
  have:=iu (P:=prog) 54 (FW.pat (cv (show aF sA=true by decide)) fo) (FW.pat (cv pS) rS) cM W
  exact this
 have CL:Hid (∀ W,Below w.heap.size w W->Calls prog 41 #[.slice ao 4 cap,.func (.func 42) #[] #[]] W fun e w'=>e=.returned (.agg #[.float .f64 (wd (uL s 3 0 0)),.float .f64 (wd (uL s 3 0 1)),.float .f64 (wd (uL s 3 0 2)),.float .f64 (wd (uL s 3 1 0)),.float .f64 (wd (uL s 3 1 1)),.float .f64 (wd (uL s 3 1 2)),.float .f64 (wd (uL s 3 2 0)),.float .f64 (wd (uL s 3 2 1)),.float .f64 (wd (uL s 3 2 2)),.float .f64 (wd (uL s 3 3 0)),.float .f64 (wd (uL s 3 3 1)),.float .f64 (wd (uL s 3 3 2))])∧Below W.heap.size W w'):=fun W hW=>iL ao 4 3 cap s W (h.keeps hW) rfl (by decide) hzt (uL s 3) rfl
 have CF:Hid (∀ W,Calls prog 36 #[.agg #[.float .f64 (wd (uL s 3 0 0)),.float .f64 (wd (uL s 3 0 1)),.float .f64 (wd (uL s 3 0 2)),.float .f64 (wd (uL s 3 1 0)),.float .f64 (wd (uL s 3 1 1)),.float .f64 (wd (uL s 3 1 2)),.float .f64 (wd (uL s 3 2 0)),.float .f64 (wd (uL s 3 2 1)),.float .f64 (wd (uL s 3 2 2)),.float .f64 (wd (uL s 3 3 0)),.float .f64 (wd (uL s 3 3 1)),.float .f64 (wd (uL s 3 3 2))]] W fun e w'=>e=.returned (.tuple #[.float .f64 (wd (dt (uL s 3) 0 1 2)),.float .f64 (wd (bW (uL s 3) 0 1 2))])∧Below W.heap.size W w'):=fun W=>nM (qd hzt) W
 have CA:Hid (∀ W,Calls prog 43 #[.float .f64 (wd (dt (uL s 3) 0 1 2))] W fun e w'=>e=.returned (.float .f64 (wd (rg (dt (uL s 3) 0 1 2))))∧w'=W):=fun W=>cQ rD W
 have CC:Hid (∀ W,Calls prog 44 #[.float .f64 (wd (dt (uL s 3) 0 1 2)),.float .f64 0] W fun r w'=>r=.returned (.int .i64 (aT (dX (vL s 3) 0 1 2) 0))∧w'=W):=fun W=>by
  have:=rC rD pD W
  rw[mN hr hzt hd] at this
  exact this
 have ho:FloatKind.f64.format.order (wd (rg (dt (uL s 3) 0 1 2))) (wd (av sA (bW (uL s 3) 0 1 2)))=some .gt:=mL q1 rM pR cM (by rw[kR];exact hd)
 clear h hr hok hz hto ht hd H hzt rD pD rS pS cM rM q1 q2 kR pR
 generalize aT (dX (vL s 3) 0 1 2) 0=sg at *
 generalize wd (av sA (bW (uL s 3) 0 1 2))=MM at *
 generalize wd (rg (dt (uL s 3) 0 1 2))=AA at *
 generalize wd (dt (uL s 3) 0 1 2)=DD at *
 generalize wd (bW (uL s 3) 0 1 2)=SS at *
 have hb0:=aL w (.cells #[.func (.func 36) #[] #[],.float .f64 4380876537524649991,.func (.func 37) #[] #[]] 57) (.cells #[.int .i64 0,.int .i64 0] 27)
 have q_k:=bO w (.cells #[.func (.func 36) #[] #[],.float .f64 4380876537524649991,.func (.func 37) #[] #[]] 57) (.cells #[.int .i64 0,.int .i64 0] 27)
 have r_k:=bH w (.cells #[.func (.func 36) #[] #[],.float .f64 4380876537524649991,.func (.func 37) #[] #[]] 57) (.cells #[.int .i64 0,.int .i64 0] 27)
 have qv0:=af q_k 0 rfl
 have qv1:=af q_k 1 rfl
 have qv2:=af q_k 2 rfl
 go_enter func19,ntmps19
 go_wp2_with fail
 clear qv0 qv1 qv2
 generalize (w.alloc (.cells #[.func (.func 36) #[] #[],.float .f64 4380876537524649991,.func (.func 37) #[] #[]] 57)).alloc (.cells #[.int .i64 0,.int .i64 0] 27)=x0 at hb0 q_k r_k ⊢
 refine(CG.out _ hb0).mono ?_
 rintro _ y1 ⟨rfl,hw1⟩
 replace q_k:=ak hw1 q_k
 replace r_k:=ak hw1 r_k
 replace hb0:=ac hb0 hw1
 go_wp2_with fail
 refine(CT.out _ hb0).mono ?_
 rintro _ y2 ⟨rfl,hw2⟩
 replace q_k:=ak hw2 q_k
 replace r_k:=ak hw2 r_k
 replace hb0:=ac hb0 hw2
 go_wp2_with fail
 have KK:∀ W,Below y2.heap.size y2 W->W.cell? ⟨w.heap.size,0,none⟩=some (.func (.func 36) #[] #[]):=fun W hb=>aj (af q_k 0 rfl) hb
 have hC0:=(al y2).drew
 go_region_held3 (fun W=>W.cell? ⟨w.heap.size,0,none⟩=some (.func (.func 36) #[] #[]))
  (with_reducible first|assumption|exact KK _ hC0|exact KK _ hC1|exact KK _ hC2|fail)
  (first|(go_at_call 36;refine(CF.out _).mono ?_;rintro _ y4 ⟨rfl,hw4⟩;have hC2:=ac hC1 hw4)|(go_at_call 41;refine(CL.out _ (ac hb0 hC0)).mono ?_;rintro _ y3 ⟨rfl,hw3⟩;have hC1:=ac hC0 hw3))
 replace q_k:=ak hC2 q_k
 replace r_k:=ak hC2 r_k
 replace hb0:=ac hb0 hC2
 clear KK hC0 hC1 hC2 hw3 hw4
 go_wp2_with fail
 have c1:=af q_k 1 rfl
 go_quiet (first|(go_at_call 43;with_reducible exact Calls.quiet_of_same (CA.out _)))
 go_wp2_with fail
 have hdq:=aO (al y4) nq
 replace q_k:=ak hdq q_k
 replace r_k:=ak hdq r_k
 replace hb0:=ac hb0 hdq
 clear c1
 generalize y4.drewN nq=y5 at q_k r_k hb0 ⊢
 refine(CC.out _).mono ?_
 rintro _ wz ⟨rfl,hwz⟩
 replace hwz:=hwz.symm
 subst hwz
 have k0:=af r_k 0 rfl
 have k1:=af r_k 1 rfl
 have z0:=ar r_k 0
 have z1:=ar r_k 1
 go_wp2
 exact bodyPost_ret (v:=.tuple #[.agg #[.int .i64 sg,.int .i64 1],.int .i64 0]) (by simp[results,results19,go_sem,k0,k1]) rfl ⟨rfl,by first|exact(hb0.setCell (p:=⟨w.heap.size+1,0,none⟩) (show w.heap.size<=w.heap.size+1 by omega) _).setCell (p:=⟨w.heap.size+1,1,none⟩) (show w.heap.size<=w.heap.size+1 by omega) _|exact hb0⟩
theorem sT (ao:Option Addr) (cap:Nat) (s:Nat->Nat->Int) (w:World) (h:eJ w ao 4 cap s) (hr:∀ i k,ax (s i k)) (hok:br (ce s) 4=true) (hz:∀ i,i<=3->∀ k,k<3->aF (s i k)=true) (hto:br (dr s) 4=true) (ht:∀ i,i<=3->∀ k,k<3->bv (s i k)=true) (hd:rg (dt (uL s 3) 0 1 2)<=bl (av sA (bW (uL s 3) 0 1 2))) (H:bR w) :
  Calls prog 19 #[.agg #[.func (.func 36) #[] #[],.float .f64 4380876537524649991,.func (.func 37) #[] #[]],.slice ao 4 cap] w fun e w'=>e=.returned (.tuple #[.agg #[.int .i64 (aT (dX (vL s 3) 0 1 2) 0),.int .i64 4],.int .i64 0])∧Below w.heap.size w w':=by
 have CG:Hid (∀ W,Below w.heap.size w W->Calls prog 38 #[.slice ao 4 cap] W fun x w'=>x=.returned (.bool true)∧Below W.heap.size W w'):=fun W hW=>by
  have:=dF ao 4 cap s W (h.keeps hW) hr
  rw[hok] at this
  exact this
 have CT:Hid (∀ W,Below w.heap.size w W->Calls prog 39 #[.slice ao 4 cap] W fun x w'=>x=.returned (.bool true)∧Below W.heap.size W w'):=fun W hW=>by
  have:=gB ao 4 cap s W (h.keeps hW) hr
  rw[hto] at this
  exact this
 have CX:Hid (∀ W st,Below w.heap.size w W->Calls prog 40 #[.agg #[.func (.func 36) #[] #[],.float .f64 4380876537524649991,.func (.func 37) #[] #[]],.slice ao 4 cap,.int .i64 st] W fun e w'=>e=.returned (.agg #[.int .i64 (aT (dX (vL s 3) 0 1 2) 0),.int .i64 st])∧Below W.heap.size W w'):=fun W st hW=>tQ ao cap s W (h.keeps hW) hr hz (H.keeps hW) st
 have hzt:∀ i,i<=3->∀ k,k<3->Mz (s i k):=fun i hi k hk=>gA (hr i k) (ht i hi k hk)
 obtain⟨rD,pD,rS,pS⟩:=oD hzt
 have cM:=jn (show aF sA=true by decide) fo pS rS
 have rM:ax (av sA (bW (uL s 3) 0 1 2)):=aH fo rS
 obtain⟨q1,q2⟩:=bX rD
 have kR:bl (rg (dt (uL s 3) 0 1 2))=rg (dt (uL s 3) 0 1 2):=ig q2
 have pR:aR (rg (dt (uL s 3) 0 1 2))≠4:=by rw[kF rD];exact cv pD
 have hM:∀ W,(binOp .mul 54 (.float .f64 4380876537524649991) (.float .f64 (wd (bW (uL s 3) 0 1 2)))).run prog W=.ok (.float .f64 (wd (av sA (bW (uL s 3) 0 1 2)))) W:=fun W=>by
  have:=iu (P:=prog) 54 (FW.pat (cv (show aF sA=true by decide)) fo) (FW.pat (cv pS) rS) cM W
  exact this
 have CL:Hid (∀ W,Below w.heap.size w W->Calls prog 41 #[.slice ao 4 cap,.func (.func 42) #[] #[]] W fun e w'=>e=.returned (.agg #[.float .f64 (wd (uL s 3 0 0)),.float .f64 (wd (uL s 3 0 1)),.float .f64 (wd (uL s 3 0 2)),.float .f64 (wd (uL s 3 1 0)),.float .f64 (wd (uL s 3 1 1)),.float .f64 (wd (uL s 3 1 2)),.float .f64 (wd (uL s 3 2 0)),.float .f64 (wd (uL s 3 2 1)),.float .f64 (wd (uL s 3 2 2)),.float .f64 (wd (uL s 3 3 0)),.float .f64 (wd (uL s 3 3 1)),.float .f64 (wd (uL s 3 3 2))])∧Below W.heap.size W w'):=fun W hW=>iL ao 4 3 cap s W (h.keeps hW) rfl (by decide) hzt (uL s 3) rfl
 have CF:Hid (∀ W,Calls prog 36 #[.agg #[.float .f64 (wd (uL s 3 0 0)),.float .f64 (wd (uL s 3 0 1)),.float .f64 (wd (uL s 3 0 2)),.float .f64 (wd (uL s 3 1 0)),.float .f64 (wd (uL s 3 1 1)),.float .f64 (wd (uL s 3 1 2)),.float .f64 (wd (uL s 3 2 0)),.float .f64 (wd (uL s 3 2 1)),.float .f64 (wd (uL s 3 2 2)),.float .f64 (wd (uL s 3 3 0)),.float .f64 (wd (uL s 3 3 1)),.float .f64 (wd (uL s 3 3 2))]] W fun e w'=>e=.returned (.tuple #[.float .f64 (wd (dt (uL s 3) 0 1 2)),.float .f64 (wd (bW (uL s 3) 0 1 2))])∧Below W.heap.size W w'):=fun W=>nM (qd hzt) W
 have CA:Hid (∀ W,Calls prog 43 #[.float .f64 (wd (dt (uL s 3) 0 1 2))] W fun e w'=>e=.returned (.float .f64 (wd (rg (dt (uL s 3) 0 1 2))))∧w'=W):=fun W=>cQ rD W
 have ho:FloatKind.f64.format.order (wd (rg (dt (uL s 3) 0 1 2))) (wd (av sA (bW (uL s 3) 0 1 2)))=some .lt∨FloatKind.f64.format.order (wd (rg (dt (uL s 3) 0 1 2))) (wd (av sA (bW (uL s 3) 0 1 2)))=some .eq:=by
  rcases Int.lt_or_eq_of_le hd with g|g
  ·exact .inl (mK q1 rM pR cM (by rw[kR];exact g))
  ·exact .inr (lA q1 rM pR cM (by rw[kR];exact g))
 clear h hr hok hz hto ht hd H hzt rD pD rS pS cM rM q1 q2 kR pR
 generalize aT (dX (vL s 3) 0 1 2) 0=sg at *
 generalize wd (av sA (bW (uL s 3) 0 1 2))=MM at *
 generalize wd (rg (dt (uL s 3) 0 1 2))=AA at *
 generalize wd (dt (uL s 3) 0 1 2)=DD at *
 generalize wd (bW (uL s 3) 0 1 2)=SS at *
 have hb0:=aL w (.cells #[.func (.func 36) #[] #[],.float .f64 4380876537524649991,.func (.func 37) #[] #[]] 57) (.cells #[.int .i64 0,.int .i64 0] 27)
 have q_k:=bO w (.cells #[.func (.func 36) #[] #[],.float .f64 4380876537524649991,.func (.func 37) #[] #[]] 57) (.cells #[.int .i64 0,.int .i64 0] 27)
 have r_k:=bH w (.cells #[.func (.func 36) #[] #[],.float .f64 4380876537524649991,.func (.func 37) #[] #[]] 57) (.cells #[.int .i64 0,.int .i64 0] 27)
 have qv0:=af q_k 0 rfl
 have qv1:=af q_k 1 rfl
 have qv2:=af q_k 2 rfl
 go_enter func19,ntmps19
 go_wp2_with fail
 clear qv0 qv1 qv2
 generalize (w.alloc (.cells #[.func (.func 36) #[] #[],.float .f64 4380876537524649991,.func (.func 37) #[] #[]] 57)).alloc (.cells #[.int .i64 0,.int .i64 0] 27)=x0 at hb0 q_k r_k ⊢
 refine(CG.out _ hb0).mono ?_
 rintro _ y1 ⟨rfl,hw1⟩
 replace q_k:=ak hw1 q_k
 replace r_k:=ak hw1 r_k
 replace hb0:=ac hb0 hw1
 go_wp2_with fail
 refine(CT.out _ hb0).mono ?_
 rintro _ y2 ⟨rfl,hw2⟩
 replace q_k:=ak hw2 q_k
 replace r_k:=ak hw2 r_k
 replace hb0:=ac hb0 hw2
 go_wp2_with fail
 have KK:∀ W,Below y2.heap.size y2 W->W.cell? ⟨w.heap.size,0,none⟩=some (.func (.func 36) #[] #[]):=fun W hb=>aj (af q_k 0 rfl) hb
 have hC0:=(al y2).drew
 go_region_held3 (fun W=>W.cell? ⟨w.heap.size,0,none⟩=some (.func (.func 36) #[] #[]))
  (with_reducible first|assumption|exact KK _ hC0|exact KK _ hC1|exact KK _ hC2|fail)
  (first|(go_at_call 36;refine(CF.out _).mono ?_;rintro _ y4 ⟨rfl,hw4⟩;have hC2:=ac hC1 hw4)|(go_at_call 41;refine(CL.out _ (ac hb0 hC0)).mono ?_;rintro _ y3 ⟨rfl,hw3⟩;have hC1:=ac hC0 hw3))
 replace q_k:=ak hC2 q_k
 replace r_k:=ak hC2 r_k
 replace hb0:=ac hb0 hC2
 clear KK hC0 hC1 hC2 hw3 hw4
 go_wp2_with fail
 rcases ho with ho|ho
 all_goals
  have c1:=af q_k 1 rfl
  go_quiet (first|(go_at_call 43;with_reducible exact Calls.quiet_of_same (CA.out _)))
  have hdq:=aO (al y4) nq
  replace q_k:=ak hdq q_k
  replace r_k:=ak hdq r_k
  replace hb0:=ac hb0 hdq
  clear c1
  generalize y4.drewN nq=y5 at q_k r_k hb0 ⊢
  have c0:=af q_k 0 rfl
  have c1:=af q_k 1 rfl
  have c2:=af q_k 2 rfl
  go_wp2_with fail
  clear c0 c1 c2
  refine(CX.out _ _ hb0).mono ?_
  rintro _ y9 ⟨rfl,hw9⟩
  replace r_k:=ak hw9 r_k
  replace hb0:=ac hb0 hw9
  have k0:=af r_k 0 rfl
  have k1:=af r_k 1 rfl
  have z0:=ar r_k 0
  have z1:=ar r_k 1
  go_wp2
  exact bodyPost_ret (v:=.tuple #[.agg #[.int .i64 sg,.int .i64 4],.int .i64 0]) (by simp[results,results19,go_sem,k0,k1]) rfl ⟨rfl,by first|exact(hb0.setCell (p:=⟨w.heap.size+1,0,none⟩) (show w.heap.size<=w.heap.size+1 by omega) _).setCell (p:=⟨w.heap.size+1,1,none⟩) (show w.heap.size<=w.heap.size+1 by omega) _|exact hb0⟩
theorem rR (ao:Option Addr) (cap:Nat) (s:Nat->Nat->Int) (w:World) (h:eJ w ao 5 cap s) (hr:∀ i k,ax (s i k)) (hno:br (ce s) 5=false) :
  Calls prog 19 #[.agg #[.func (.func 59) #[] #[],.float .f64 4386506037058863111,.func (.func 60) #[] #[]],.slice ao 5 cap] w fun e w'=>e=.returned (.tuple #[.agg #[.int .i64 0,.int .i64 0],.int .i64 10])∧Below w.heap.size w w':=by
 have CG:Hid (∀ W,Below w.heap.size w W->Calls prog 38 #[.slice ao 5 cap] W fun x w'=>x=.returned (.bool false)∧Below W.heap.size W w'):=fun W hW=>by
  have:=dF ao 5 cap s W (h.keeps hW) hr
  rw[hno] at this
  exact this
 clear h hr hno
 have hb0:=aL w (.cells #[.func (.func 59) #[] #[],.float .f64 4386506037058863111,.func (.func 60) #[] #[]] 57) (.cells #[.int .i64 0,.int .i64 0] 27)
 have q_k:=bO w (.cells #[.func (.func 59) #[] #[],.float .f64 4386506037058863111,.func (.func 60) #[] #[]] 57) (.cells #[.int .i64 0,.int .i64 0] 27)
 have r_k:=bH w (.cells #[.func (.func 59) #[] #[],.float .f64 4386506037058863111,.func (.func 60) #[] #[]] 57) (.cells #[.int .i64 0,.int .i64 0] 27)
 have qv0:=af q_k 0 rfl
 have qv1:=af q_k 1 rfl
 have qv2:=af q_k 2 rfl
 go_enter func19,ntmps19
 go_wp2_with fail
 clear qv0 qv1 qv2
 generalize (w.alloc (.cells #[.func (.func 59) #[] #[],.float .f64 4386506037058863111,.func (.func 60) #[] #[]] 57)).alloc (.cells #[.int .i64 0,.int .i64 0] 27)=x0 at hb0 q_k r_k ⊢
 refine(CG.out _ hb0).mono ?_
 rintro _ y1 ⟨rfl,hw1⟩
 replace q_k:=ak hw1 q_k
 replace r_k:=ak hw1 r_k
 replace hb0:=ac hb0 hw1
 have k0:=af r_k 0 rfl
 have k1:=af r_k 1 rfl
 have z0:=ar r_k 0
 have z1:=ar r_k 1
 go_wp2
 exact bodyPost_ret (v:=.tuple #[.agg #[.int .i64 0,.int .i64 0],.int .i64 10]) (by simp[results,results19,go_sem,k0,k1]) rfl ⟨rfl,by first|exact(hb0.setCell (p:=⟨w.heap.size+1,0,none⟩) (show w.heap.size<=w.heap.size+1 by omega) _).setCell (p:=⟨w.heap.size+1,1,none⟩) (show w.heap.size<=w.heap.size+1 by omega) _|exact hb0⟩
theorem oE (ao:Option Addr) (cap:Nat) (s:Nat->Nat->Int) (w:World) (h:eJ w ao 5 cap s) (hr:∀ i k,ax (s i k)) (hok:br (ce s) 5=true) (hz:∀ i,i<=4->∀ k,k<3->aF (s i k)=true) (hno:br (dr s) 5=false) (H:bR w) :
  Calls prog 19 #[.agg #[.func (.func 59) #[] #[],.float .f64 4386506037058863111,.func (.func 60) #[] #[]],.slice ao 5 cap] w fun e w'=>e=.returned (.tuple #[.agg #[.int .i64 (aT (sX (vL s 4)) 0),.int .i64 6],.int .i64 0])∧Below w.heap.size w w':=by
 have CG:Hid (∀ W,Below w.heap.size w W->Calls prog 38 #[.slice ao 5 cap] W fun x w'=>x=.returned (.bool true)∧Below W.heap.size W w'):=fun W hW=>by
  have:=dF ao 5 cap s W (h.keeps hW) hr
  rw[hok] at this
  exact this
 have CT:Hid (∀ W,Below w.heap.size w W->Calls prog 39 #[.slice ao 5 cap] W fun x w'=>x=.returned (.bool false)∧Below W.heap.size W w'):=fun W hW=>by
  have:=gB ao 5 cap s W (h.keeps hW) hr
  rw[hno] at this
  exact this
 have CX:Hid (∀ W st,Below w.heap.size w W->Calls prog 40 #[.agg #[.func (.func 59) #[] #[],.float .f64 4386506037058863111,.func (.func 60) #[] #[]],.slice ao 5 cap,.int .i64 st] W fun e w'=>e=.returned (.agg #[.int .i64 (aT (sX (vL s 4)) 0),.int .i64 st])∧Below W.heap.size W w'):=fun W st hW=>pE ao cap s W (h.keeps hW) hr hz (H.keeps hW) st
 clear h hr hno hok hz H
 generalize aT (sX (vL s 4)) 0=sg at *
 have hb0:=aL w (.cells #[.func (.func 59) #[] #[],.float .f64 4386506037058863111,.func (.func 60) #[] #[]] 57) (.cells #[.int .i64 0,.int .i64 0] 27)
 have q_k:=bO w (.cells #[.func (.func 59) #[] #[],.float .f64 4386506037058863111,.func (.func 60) #[] #[]] 57) (.cells #[.int .i64 0,.int .i64 0] 27)
 have r_k:=bH w (.cells #[.func (.func 59) #[] #[],.float .f64 4386506037058863111,.func (.func 60) #[] #[]] 57) (.cells #[.int .i64 0,.int .i64 0] 27)
 have qv0:=af q_k 0 rfl
 have qv1:=af q_k 1 rfl
 have qv2:=af q_k 2 rfl
 go_enter func19,ntmps19
 go_wp2_with fail
 clear qv0 qv1 qv2
 generalize (w.alloc (.cells #[.func (.func 59) #[] #[],.float .f64 4386506037058863111,.func (.func 60) #[] #[]] 57)).alloc (.cells #[.int .i64 0,.int .i64 0] 27)=x0 at hb0 q_k r_k ⊢
 refine(CG.out _ hb0).mono ?_
 rintro _ y1 ⟨rfl,hw1⟩
 replace q_k:=ak hw1 q_k
 replace r_k:=ak hw1 r_k
 replace hb0:=ac hb0 hw1
 go_wp2_with fail
 refine(CT.out _ hb0).mono ?_
 rintro _ y2 ⟨rfl,hw2⟩
 replace q_k:=ak hw2 q_k
 replace r_k:=ak hw2 r_k
 replace hb0:=ac hb0 hw2
 have c0:=af q_k 0 rfl
 have c1:=af q_k 1 rfl
 have c2:=af q_k 2 rfl
 go_wp2_with fail
 clear c0 c1 c2
 refine(CX.out _ _ hb0).mono ?_
 rintro _ y9 ⟨rfl,hw9⟩
 replace r_k:=ak hw9 r_k
 replace hb0:=ac hb0 hw9
 have k0:=af r_k 0 rfl
 have k1:=af r_k 1 rfl
 have z0:=ar r_k 0
 have z1:=ar r_k 1
 go_wp2
 exact bodyPost_ret (v:=.tuple #[.agg #[.int .i64 sg,.int .i64 6],.int .i64 0]) (by simp[results,results19,go_sem,k0,k1]) rfl ⟨rfl,by first|exact(hb0.setCell (p:=⟨w.heap.size+1,0,none⟩) (show w.heap.size<=w.heap.size+1 by omega) _).setCell (p:=⟨w.heap.size+1,1,none⟩) (show w.heap.size<=w.heap.size+1 by omega) _|exact hb0⟩
theorem pO (ao:Option Addr) (cap:Nat) (s:Nat->Nat->Int) (w:World) (h:eJ w ao 5 cap s) (hr:∀ i k,ax (s i k)) (hok:br (ce s) 5=true) (hz:∀ i,i<=4->∀ k,k<3->aF (s i k)=true) (hto:br (dr s) 5=true) (ht:∀ i,i<=4->∀ k,k<3->bv (s i k)=true) (hd:bl (av sB (fS (uL s 4)))<rg (fD (uL s 4))) (H:bR w) :
  Calls prog 19 #[.agg #[.func (.func 59) #[] #[],.float .f64 4386506037058863111,.func (.func 60) #[] #[]],.slice ao 5 cap] w fun e w'=>e=.returned (.tuple #[.agg #[.int .i64 (aT (sX (vL s 4)) 0),.int .i64 1],.int .i64 0])∧Below w.heap.size w w':=by
 have CG:Hid (∀ W,Below w.heap.size w W->Calls prog 38 #[.slice ao 5 cap] W fun x w'=>x=.returned (.bool true)∧Below W.heap.size W w'):=fun W hW=>by
  have:=dF ao 5 cap s W (h.keeps hW) hr
  rw[hok] at this
  exact this
 have CT:Hid (∀ W,Below w.heap.size w W->Calls prog 39 #[.slice ao 5 cap] W fun x w'=>x=.returned (.bool true)∧Below W.heap.size W w'):=fun W hW=>by
  have:=gB ao 5 cap s W (h.keeps hW) hr
  rw[hto] at this
  exact this
 have hzt:∀ i,i<=4->∀ k,k<3->Mz (s i k):=fun i hi k hk=>gA (hr i k) (ht i hi k hk)
 obtain⟨rD,pD,rS,pS⟩:=lG hzt
 have cM:=jn (show aF sB=true by decide) eI pS rS
 have rM:ax (av sB (fS (uL s 4))):=aH eI rS
 obtain⟨q1,q2⟩:=bX rD
 have kR:bl (rg (fD (uL s 4)))=rg (fD (uL s 4)):=ig q2
 have pR:aR (rg (fD (uL s 4)))≠4:=by rw[kF rD];exact cv pD
 have hM:∀ W,(binOp .mul 54 (.float .f64 4386506037058863111) (.float .f64 (wd (fS (uL s 4))))).run prog W=.ok (.float .f64 (wd (av sB (fS (uL s 4))))) W:=fun W=>by
  have:=iu (P:=prog) 54 (FW.pat (cv (show aF sB=true by decide)) eI) (FW.pat (cv pS) rS) cM W
  exact this
 have CL:Hid (∀ W,Below w.heap.size w W->Calls prog 41 #[.slice ao 5 cap,.func (.func 42) #[] #[]] W fun e w'=>e=.returned (.agg #[.float .f64 (wd (uL s 4 0 0)),.float .f64 (wd (uL s 4 0 1)),.float .f64 (wd (uL s 4 0 2)),.float .f64 (wd (uL s 4 1 0)),.float .f64 (wd (uL s 4 1 1)),.float .f64 (wd (uL s 4 1 2)),.float .f64 (wd (uL s 4 2 0)),.float .f64 (wd (uL s 4 2 1)),.float .f64 (wd (uL s 4 2 2)),.float .f64 (wd (uL s 4 3 0)),.float .f64 (wd (uL s 4 3 1)),.float .f64 (wd (uL s 4 3 2))])∧Below W.heap.size W w'):=fun W hW=>iL ao 5 4 cap s W (h.keeps hW) rfl (by decide) hzt (uL s 4) rfl
 have CF:Hid (∀ W,Calls prog 59 #[.agg #[.float .f64 (wd (uL s 4 0 0)),.float .f64 (wd (uL s 4 0 1)),.float .f64 (wd (uL s 4 0 2)),.float .f64 (wd (uL s 4 1 0)),.float .f64 (wd (uL s 4 1 1)),.float .f64 (wd (uL s 4 1 2)),.float .f64 (wd (uL s 4 2 0)),.float .f64 (wd (uL s 4 2 1)),.float .f64 (wd (uL s 4 2 2)),.float .f64 (wd (uL s 4 3 0)),.float .f64 (wd (uL s 4 3 1)),.float .f64 (wd (uL s 4 3 2))]] W fun e w'=>e=.returned (.tuple #[.float .f64 (wd (fD (uL s 4))),.float .f64 (wd (fS (uL s 4)))])∧Below W.heap.size W w'):=fun W=>rB (qd hzt) W
 have CA:Hid (∀ W,Calls prog 43 #[.float .f64 (wd (fD (uL s 4)))] W fun e w'=>e=.returned (.float .f64 (wd (rg (fD (uL s 4)))))∧w'=W):=fun W=>cQ rD W
 have CC:Hid (∀ W,Calls prog 44 #[.float .f64 (wd (fD (uL s 4))),.float .f64 0] W fun r w'=>r=.returned (.int .i64 (aT (sX (vL s 4)) 0))∧w'=W):=fun W=>by
  have:=rC rD pD W
  rw[nT hr hzt hd] at this
  exact this
 have ho:FloatKind.f64.format.order (wd (rg (fD (uL s 4)))) (wd (av sB (fS (uL s 4))))=some .gt:=mL q1 rM pR cM (by rw[kR];exact hd)
 clear h hr hok hz hto ht hd H hzt rD pD rS pS cM rM q1 q2 kR pR
 generalize aT (sX (vL s 4)) 0=sg at *
 generalize wd (av sB (fS (uL s 4)))=MM at *
 generalize wd (rg (fD (uL s 4)))=AA at *
 generalize wd (fD (uL s 4))=DD at *
 generalize wd (fS (uL s 4))=SS at *
 have hb0:=aL w (.cells #[.func (.func 59) #[] #[],.float .f64 4386506037058863111,.func (.func 60) #[] #[]] 57) (.cells #[.int .i64 0,.int .i64 0] 27)
 have q_k:=bO w (.cells #[.func (.func 59) #[] #[],.float .f64 4386506037058863111,.func (.func 60) #[] #[]] 57) (.cells #[.int .i64 0,.int .i64 0] 27)
 have r_k:=bH w (.cells #[.func (.func 59) #[] #[],.float .f64 4386506037058863111,.func (.func 60) #[] #[]] 57) (.cells #[.int .i64 0,.int .i64 0] 27)
 have qv0:=af q_k 0 rfl
 have qv1:=af q_k 1 rfl
 have qv2:=af q_k 2 rfl
 go_enter func19,ntmps19
 go_wp2_with fail
 clear qv0 qv1 qv2
 generalize (w.alloc (.cells #[.func (.func 59) #[] #[],.float .f64 4386506037058863111,.func (.func 60) #[] #[]] 57)).alloc (.cells #[.int .i64 0,.int .i64 0] 27)=x0 at hb0 q_k r_k ⊢
 refine(CG.out _ hb0).mono ?_
 rintro _ y1 ⟨rfl,hw1⟩
 replace q_k:=ak hw1 q_k
 replace r_k:=ak hw1 r_k
 replace hb0:=ac hb0 hw1
 go_wp2_with fail
 refine(CT.out _ hb0).mono ?_
 rintro _ y2 ⟨rfl,hw2⟩
 replace q_k:=ak hw2 q_k
 replace r_k:=ak hw2 r_k
 replace hb0:=ac hb0 hw2
 go_wp2_with fail
 have KK:∀ W,Below y2.heap.size y2 W->W.cell? ⟨w.heap.size,0,none⟩=some (.func (.func 59) #[] #[]):=fun W hb=>aj (af q_k 0 rfl) hb
 have hC0:=(al y2).drew
 go_region_held3 (fun W=>W.cell? ⟨w.heap.size,0,none⟩=some (.func (.func 59) #[] #[]))
  (with_reducible first|assumption|exact KK _ hC0|exact KK _ hC1|exact KK _ hC2|fail)
  (first|(go_at_call 59;refine(CF.out _).mono ?_;rintro _ y4 ⟨rfl,hw4⟩;have hC2:=ac hC1 hw4)|(go_at_call 41;refine(CL.out _ (ac hb0 hC0)).mono ?_;rintro _ y3 ⟨rfl,hw3⟩;have hC1:=ac hC0 hw3))
 replace q_k:=ak hC2 q_k
 replace r_k:=ak hC2 r_k
 replace hb0:=ac hb0 hC2
 clear KK hC0 hC1 hC2 hw3 hw4
 go_wp2_with fail
 have c1:=af q_k 1 rfl
 go_quiet (first|(go_at_call 43;with_reducible exact Calls.quiet_of_same (CA.out _)))
 go_wp2_with fail
 have hdq:=aO (al y4) nq
 replace q_k:=ak hdq q_k
 replace r_k:=ak hdq r_k
 replace hb0:=ac hb0 hdq
 clear c1
 generalize y4.drewN nq=y5 at q_k r_k hb0 ⊢
 refine(CC.out _).mono ?_
 rintro _ wz ⟨rfl,hwz⟩
 replace hwz:=hwz.symm
 subst hwz
 have k0:=af r_k 0 rfl
 have k1:=af r_k 1 rfl
 have z0:=ar r_k 0
 have z1:=ar r_k 1
 go_wp2
 exact bodyPost_ret (v:=.tuple #[.agg #[.int .i64 sg,.int .i64 1],.int .i64 0]) (by simp[results,results19,go_sem,k0,k1]) rfl ⟨rfl,by first|exact(hb0.setCell (p:=⟨w.heap.size+1,0,none⟩) (show w.heap.size<=w.heap.size+1 by omega) _).setCell (p:=⟨w.heap.size+1,1,none⟩) (show w.heap.size<=w.heap.size+1 by omega) _|exact hb0⟩
theorem pP (ao:Option Addr) (cap:Nat) (s:Nat->Nat->Int) (w:World) (h:eJ w ao 5 cap s) (hr:∀ i k,ax (s i k)) (hok:br (ce s) 5=true) (hz:∀ i,i<=4->∀ k,k<3->aF (s i k)=true) (hto:br (dr s) 5=true) (ht:∀ i,i<=4->∀ k,k<3->bv (s i k)=true) (hd:rg (fD (uL s 4))<=bl (av sB (fS (uL s 4)))) (H:bR w) :
  Calls prog 19 #[.agg #[.func (.func 59) #[] #[],.float .f64 4386506037058863111,.func (.func 60) #[] #[]],.slice ao 5 cap] w fun e w'=>e=.returned (.tuple #[.agg #[.int .i64 (aT (sX (vL s 4)) 0),.int .i64 4],.int .i64 0])∧Below w.heap.size w w':=by
 have CG:Hid (∀ W,Below w.heap.size w W->Calls prog 38 #[.slice ao 5 cap] W fun x w'=>x=.returned (.bool true)∧Below W.heap.size W w'):=fun W hW=>by
  have:=dF ao 5 cap s W (h.keeps hW) hr
  rw[hok] at this
  exact this
 have CT:Hid (∀ W,Below w.heap.size w W->Calls prog 39 #[.slice ao 5 cap] W fun x w'=>x=.returned (.bool true)∧Below W.heap.size W w'):=fun W hW=>by
  have:=gB ao 5 cap s W (h.keeps hW) hr
  rw[hto] at this
  exact this
 have CX:Hid (∀ W st,Below w.heap.size w W->Calls prog 40 #[.agg #[.func (.func 59) #[] #[],.float .f64 4386506037058863111,.func (.func 60) #[] #[]],.slice ao 5 cap,.int .i64 st] W fun e w'=>e=.returned (.agg #[.int .i64 (aT (sX (vL s 4)) 0),.int .i64 st])∧Below W.heap.size W w'):=fun W st hW=>pE ao cap s W (h.keeps hW) hr hz (H.keeps hW) st
 have hzt:∀ i,i<=4->∀ k,k<3->Mz (s i k):=fun i hi k hk=>gA (hr i k) (ht i hi k hk)
 obtain⟨rD,pD,rS,pS⟩:=lG hzt
 have cM:=jn (show aF sB=true by decide) eI pS rS
 have rM:ax (av sB (fS (uL s 4))):=aH eI rS
 obtain⟨q1,q2⟩:=bX rD
 have kR:bl (rg (fD (uL s 4)))=rg (fD (uL s 4)):=ig q2
 have pR:aR (rg (fD (uL s 4)))≠4:=by rw[kF rD];exact cv pD
 have hM:∀ W,(binOp .mul 54 (.float .f64 4386506037058863111) (.float .f64 (wd (fS (uL s 4))))).run prog W=.ok (.float .f64 (wd (av sB (fS (uL s 4))))) W:=fun W=>by
  have:=iu (P:=prog) 54 (FW.pat (cv (show aF sB=true by decide)) eI) (FW.pat (cv pS) rS) cM W
  exact this
 have CL:Hid (∀ W,Below w.heap.size w W->Calls prog 41 #[.slice ao 5 cap,.func (.func 42) #[] #[]] W fun e w'=>e=.returned (.agg #[.float .f64 (wd (uL s 4 0 0)),.float .f64 (wd (uL s 4 0 1)),.float .f64 (wd (uL s 4 0 2)),.float .f64 (wd (uL s 4 1 0)),.float .f64 (wd (uL s 4 1 1)),.float .f64 (wd (uL s 4 1 2)),.float .f64 (wd (uL s 4 2 0)),.float .f64 (wd (uL s 4 2 1)),.float .f64 (wd (uL s 4 2 2)),.float .f64 (wd (uL s 4 3 0)),.float .f64 (wd (uL s 4 3 1)),.float .f64 (wd (uL s 4 3 2))])∧Below W.heap.size W w'):=fun W hW=>iL ao 5 4 cap s W (h.keeps hW) rfl (by decide) hzt (uL s 4) rfl
 have CF:Hid (∀ W,Calls prog 59 #[.agg #[.float .f64 (wd (uL s 4 0 0)),.float .f64 (wd (uL s 4 0 1)),.float .f64 (wd (uL s 4 0 2)),.float .f64 (wd (uL s 4 1 0)),.float .f64 (wd (uL s 4 1 1)),.float .f64 (wd (uL s 4 1 2)),.float .f64 (wd (uL s 4 2 0)),.float .f64 (wd (uL s 4 2 1)),.float .f64 (wd (uL s 4 2 2)),.float .f64 (wd (uL s 4 3 0)),.float .f64 (wd (uL s 4 3 1)),.float .f64 (wd (uL s 4 3 2))]] W fun e w'=>e=.returned (.tuple #[.float .f64 (wd (fD (uL s 4))),.float .f64 (wd (fS (uL s 4)))])∧Below W.heap.size W w'):=fun W=>rB (qd hzt) W
 have CA:Hid (∀ W,Calls prog 43 #[.float .f64 (wd (fD (uL s 4)))] W fun e w'=>e=.returned (.float .f64 (wd (rg (fD (uL s 4)))))∧w'=W):=fun W=>cQ rD W
 have ho:FloatKind.f64.format.order (wd (rg (fD (uL s 4)))) (wd (av sB (fS (uL s 4))))=some .lt∨FloatKind.f64.format.order (wd (rg (fD (uL s 4)))) (wd (av sB (fS (uL s 4))))=some .eq:=by
  rcases Int.lt_or_eq_of_le hd with g|g
  ·exact .inl (mK q1 rM pR cM (by rw[kR];exact g))
  ·exact .inr (lA q1 rM pR cM (by rw[kR];exact g))
 clear h hr hok hz hto ht hd H hzt rD pD rS pS cM rM q1 q2 kR pR
 generalize aT (sX (vL s 4)) 0=sg at *
 generalize wd (av sB (fS (uL s 4)))=MM at *
 generalize wd (rg (fD (uL s 4)))=AA at *
 generalize wd (fD (uL s 4))=DD at *
 generalize wd (fS (uL s 4))=SS at *
 have hb0:=aL w (.cells #[.func (.func 59) #[] #[],.float .f64 4386506037058863111,.func (.func 60) #[] #[]] 57) (.cells #[.int .i64 0,.int .i64 0] 27)
 have q_k:=bO w (.cells #[.func (.func 59) #[] #[],.float .f64 4386506037058863111,.func (.func 60) #[] #[]] 57) (.cells #[.int .i64 0,.int .i64 0] 27)
 have r_k:=bH w (.cells #[.func (.func 59) #[] #[],.float .f64 4386506037058863111,.func (.func 60) #[] #[]] 57) (.cells #[.int .i64 0,.int .i64 0] 27)
 have qv0:=af q_k 0 rfl
 have qv1:=af q_k 1 rfl
 have qv2:=af q_k 2 rfl
 go_enter func19,ntmps19
 go_wp2_with fail
 clear qv0 qv1 qv2
 generalize (w.alloc (.cells #[.func (.func 59) #[] #[],.float .f64 4386506037058863111,.func (.func 60) #[] #[]] 57)).alloc (.cells #[.int .i64 0,.int .i64 0] 27)=x0 at hb0 q_k r_k ⊢
 refine(CG.out _ hb0).mono ?_
 rintro _ y1 ⟨rfl,hw1⟩
 replace q_k:=ak hw1 q_k
 replace r_k:=ak hw1 r_k
 replace hb0:=ac hb0 hw1
 go_wp2_with fail
 refine(CT.out _ hb0).mono ?_
 rintro _ y2 ⟨rfl,hw2⟩
 replace q_k:=ak hw2 q_k
 replace r_k:=ak hw2 r_k
 replace hb0:=ac hb0 hw2
 go_wp2_with fail
 have KK:∀ W,Below y2.heap.size y2 W->W.cell? ⟨w.heap.size,0,none⟩=some (.func (.func 59) #[] #[]):=fun W hb=>aj (af q_k 0 rfl) hb
 have hC0:=(al y2).drew
 go_region_held3 (fun W=>W.cell? ⟨w.heap.size,0,none⟩=some (.func (.func 59) #[] #[]))
  (with_reducible first|assumption|exact KK _ hC0|exact KK _ hC1|exact KK _ hC2|fail)
  (first|(go_at_call 59;refine(CF.out _).mono ?_;rintro _ y4 ⟨rfl,hw4⟩;have hC2:=ac hC1 hw4)|(go_at_call 41;refine(CL.out _ (ac hb0 hC0)).mono ?_;rintro _ y3 ⟨rfl,hw3⟩;have hC1:=ac hC0 hw3))
 replace q_k:=ak hC2 q_k
 replace r_k:=ak hC2 r_k
 replace hb0:=ac hb0 hC2
 clear KK hC0 hC1 hC2 hw3 hw4
 go_wp2_with fail
 rcases ho with ho|ho
 all_goals
  have c1:=af q_k 1 rfl
  go_quiet (first|(go_at_call 43;with_reducible exact Calls.quiet_of_same (CA.out _)))
  have hdq:=aO (al y4) nq
  replace q_k:=ak hdq q_k
  replace r_k:=ak hdq r_k
  replace hb0:=ac hb0 hdq
  clear c1
  generalize y4.drewN nq=y5 at q_k r_k hb0 ⊢
  have c0:=af q_k 0 rfl
  have c1:=af q_k 1 rfl
  have c2:=af q_k 2 rfl
  go_wp2_with fail
  clear c0 c1 c2
  refine(CX.out _ _ hb0).mono ?_
  rintro _ y9 ⟨rfl,hw9⟩
  replace r_k:=ak hw9 r_k
  replace hb0:=ac hb0 hw9
  have k0:=af r_k 0 rfl
  have k1:=af r_k 1 rfl
  have z0:=ar r_k 0
  have z1:=ar r_k 1
  go_wp2
  exact bodyPost_ret (v:=.tuple #[.agg #[.int .i64 sg,.int .i64 4],.int .i64 0]) (by simp[results,results19,go_sem,k0,k1]) rfl ⟨rfl,by first|exact(hb0.setCell (p:=⟨w.heap.size+1,0,none⟩) (show w.heap.size<=w.heap.size+1 by omega) _).setCell (p:=⟨w.heap.size+1,1,none⟩) (show w.heap.size<=w.heap.size+1 by omega) _|exact hb0⟩
end Go.Proofs.YtcklaogdjpbagaaGreatDoor
