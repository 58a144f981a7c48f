/- Parts of the proof. -/
import Derived.Test.YtcjfonaolcokbaaGreatDoorPart3
import Derived.Laws.Externs
import Derived.Laws.Cover2
import Derived.Deep.AppendLies
import Derived.Deep.RegionLaw
import Derived.Test.YtcjfonaolcokbaaGreatDoorRows
import Derived.ProofKit
import Derived.OpenShut
import Derived.ChangeOld
import Derived.LaidMore
import Derived.Deep.Strs
import Derived.Lib.LaidTab
import Derived.MakeChecks
import Derived.Stop.LaidErr
import Derived.Laws.FloatArith
set_option maxRecDepth 100000
set_option maxHeartbeats 8000000
set_option linter.unusedVariables false
set_option linter.unusedSimpArgs false
namespace Go.Proofs.YtcjfonaolcokbaaGreatDoor
open Go Go.RowKit Go.Proofs.YtcjfonaolcokbaaGreatDoor.M
def FI (way:Int) (a b:aL):Int × Bool:=jO way (a.ng != b.ng) false (Nv (val a.d a.n) (qK (val a.d a.n) (val b.d b.n))/val b.d b.n).toNat (a.e-b.e-qK (val a.d a.n) (val b.d b.n)) (Oj (val a.d a.n) (qK (val a.d a.n) (val b.d b.n)) || decide (Nv (val a.d a.n) (qK (val a.d a.n) (val b.d b.n)) % val b.d b.n≠0))
theorem xt (F G:Value) (hF:∃ f,F=.func f #[] #[]) (hG:∃ f,G=.func f #[] #[]) (near:Int) (R:Value) (o:Option Addr) (n c:Nat) (w:World) :
  Calls Tryz.prog 157 #[.agg #[F,G],.int .i64 near,.int .i64 0,R,.slice o n c] w fun e w'=>e=.returned (.tuple #[.int .i64 near,.int .i64 0])∧Below w.heap.size w w':=by
 obtain ⟨f,rfl⟩:=hF
 obtain ⟨g,rfl⟩:=hG
 have CW:=fun W=>mJ 0 W
 unfold jq jn at CW
 simp only [if_true] at CW
 have hst:∀ (p:Addr) (F:Nat) (m:Mode) (w:World),(store p (.func (.func F) #[] #[]) m).run Tryz.prog w=stored Tryz.prog w p (.func (.func F) #[] #[]) m:=fun p F m w=>run_store _ w p _ m rfl
 go_enter Tryz.func157,Tryz.ntmps157
 go_wp2_with fail
 refine (CW _).mono ?_
 rintro _ w2 ⟨rfl,hb2⟩
 have hb1:=ah w (.cells #[.func f #[] #[],.func g #[] #[]] 178)
 have hbw:=aa hb1 hb2
 have q1:=heap_alloc_new w2 (.cells #[.nilFunc] 166)
 have y0:=ac q1 0 rfl
 have y1:=aw q1 0
 clear CW
 go_wp2
 all_goals refine bodyPost_ret (v:=.tuple #[.int .i64 near,.int .i64 0]) (by simp [results,Tryz.results157,go_sem]) rfl ⟨rfl,?_⟩
 all_goals exact aa hbw (ah _ _)
theorem Bw (w:World):Calls Tryz.prog 156 #[] w fun e w'=>e=.returned (.agg #[.func (.func 62) #[] #[],.func (.func 127) #[] #[]])∧Below w.heap.size w w':=by
 have hmf:∀ (fn:Fn) (first cap:Array Value) (w:World),(Instr.makeFunc fn first cap).run Tryz.prog w=.ok (.func fn first cap) w:=fun _ _ _ _=>rfl
 have hst:∀ (p:Addr) (F:Nat) (m:Mode) (w:World),(store p (.func (.func F) #[] #[]) m).run Tryz.prog w=stored Tryz.prog w p (.func (.func F) #[] #[]) m:=fun p F m w=>run_store _ w p _ m rfl
 have q1:=heap_alloc_new w (.cells #[.nilFunc,.nilFunc] 178)
 have x0:=ac q1 0 rfl
 have x1:=ac q1 1 rfl
 have z0:=aw q1 0
 have z1:=aw q1 1
 go_enter Tryz.func156,Tryz.ntmps156
 go_wp2
 all_goals refine bodyPost_ret (v:=.agg #[.func (.func 62) #[] #[],.func (.func 127) #[] #[]]) (by simp [results,Tryz.results156,go_sem]) rfl ⟨rfl,?_⟩
 all_goals exact ah _ _
theorem fm (n:Int) (w:World):(callFunc 37 #[.int .u64 n]).run Tryz.prog w=.ok (.value (.float .f64 n.toNat)) w:=by
 rw [run_callFunc_extern Tryz.func37 (by kernel_rfl) (by kernel_rfl) (by kernel_rfl) (e:=Extern.MathFloatBits.float64frombits) (by kernel_rfl)]
 rfl
theorem fE {k:FloatKind} {a b:Nat} (h:a=b):Ending.returned (.float k a)=.returned (.float k b):=by rw [h]
theorem aW (b:Int) (w:World) :
  Calls Tryz.prog 20 #[.int .i64 b] w fun e w'=>e=.returned (.float .f64 (wd b))∧w'=w:=by
 have hd:=fm
 go_enter Tryz.func20,Tryz.ntmps20
 go_wp2
 go_ret
 exact ⟨fE (by rw [IntKind.wrap_u64]; rfl),rfl⟩
theorem cH {p:Prop} (h:p):Hid p:=h
def aR (b:Int):Int:=if aG b=4 then 9221120237041090561 else b
theorem FJ {b:Int} (hb:aj b):(FloatKind.f64.format.order (wd b) (wd b) != some .eq)=decide (aG b=4):=by
 have:=oi hb hb
 unfold bne
 rw [this]; unfold de
 by_cases h:aG b=4 <;> simp [h]
theorem ig (n:Nat) (w:World):(callFunc 38 #[.float .f64 n]).run Tryz.prog w=.ok (.value (.int .u64 n)) w:=by
 rw [run_callFunc_extern Tryz.func38 (by kernel_rfl) (by kernel_rfl) (by kernel_rfl) (e:=Extern.MathFloatBits.float64bits) (by kernel_rfl)]
 rfl
theorem ti (b:Int) (w:World) (hb:aj b) :
  Calls Tryz.prog 42 #[.float .f64 (wd b)] w fun e w'=>e=.returned (.int .i64 (aR b))∧w'=w:=by
 have hd:=ig
 have hn:=FJ hb
 have hw:Hid (wrap64 (wd b:Int)=b):=by unfold Hid wrap64 wd; unfold aj at hb; omega
 by_cases h:aG b=4
 ·have hn':(FloatKind.f64.format.order (wd b) (wd b) != some .eq)=true:=by rw [hn]; simp [h]
  clear hn
  go_enter Tryz.func42,Tryz.ntmps42
  go_wp2
  go_ret
  exact ⟨b8 (by simp [aR,h]),rfl⟩
 ·have hn':(FloatKind.f64.format.order (wd b) (wd b) != some .eq)=false:=by rw [hn]; simp [h]
  clear hn
  go_enter Tryz.func42,Tryz.ntmps42
  go_wp2
  go_ret
  exact ⟨b8 (by rw [hw.out]; simp [aR,h]),rfl⟩
def uA (g:Nat) (x:Int):aL:=⟨false,some ⟨g,0,none⟩,1,1,fun _=>x,0⟩
theorem Mi (g k:Nat):FI 0 (uA g 1) (uA k 3)=(4599676419421066581,true):=by
 have e:FI 0 (uA g 1) (uA k 3)=FI 0 (uA 0 1) (uA 0 3):=rfl
 rw [e]
 decide +kernel
def aL.neg (r:aL):aL:=⟨!r.ng,r.ao,r.n,r.cap,r.d,r.e⟩
theorem aL.neg_V (r:aL):r.neg.V=-r.V:=by
 show sg (!r.ng) _*_=_
 rw [wP,Int.neg_mul]; rfl
theorem aL.neg_sane {r:aL} (h:fP r):fP r.neg:=h
theorem FK (x y:aL) (g h:Nat) (w:World) (cg:w.heap[g]?=some (.cells #[.bool x.ng,.slice x.ao x.n x.cap,.int .i64 x.e] 34 (0,0))) (ch:w.heap[h]?=some (.cells #[.bool y.ng,.slice y.ao y.n y.cap,.int .i64 y.e] 34 (0,0)))
  (hx:aQ w x.ao x.n x.cap x.d) (hy:aQ w y.ao y.n y.cap y.d) (sx:fP x) (sy:fP y) (hT:dV w) :
  Calls Tryz.prog 63 #[.pointer (some ⟨g,0,none⟩),.pointer (some ⟨h,0,none⟩)] w (pW w (x.V+y.V)):=by
 obtain ⟨an,ao,n,ca,a,e⟩:=x
 obtain ⟨bn,bo,m,cb,b,f⟩:=y
 simp only at cg ch hx hy
 have hb:=ah w (.cells #[.bool false,.slice none 0 0,.int .i64 0] 34)
 have g0:=az (.cells #[.bool false,.slice none 0 0,.int .i64 0] 34) cg
 have g1:=az (.cells #[.bool false,.slice none 0 0,.int .i64 0] 34) ch
 have k0:=ac g0 0 rfl
 have k1:=ac g0 1 rfl
 have k2:=ac g0 2 rfl
 have j0:=ac g1 0 rfl
 have j1:=ac g1 1 rfl
 have j2:=ac g1 2 rfl
 have hN:=fun q=>Bq (w:=(w.alloc (.cells #[.bool false,.slice none 0 0,.int .i64 0] 34)).alloc (.cells #[.bool an,.slice ao n ca,.int .i64 e,.bool bn,.slice bo m cb,.int .i64 f] 34)) (g:=w.heap.size+1) (x:=⟨an,ao,n,ca,a,e⟩) (y:=⟨bn,bo,m,cb,b,f⟩) (t:=34) q (hx.keeps (aP _ _ _)) (hy.keeps (aP _ _ _))
 go_enter Tryz.func63,Tryz.ntmps63
 go_wp2_with fail
 refine (vv _ _ _ _ _ (hN (cR _ _ _)) (fun i hi=>?_) (by omega) (hT.keeps (aP _ _ _))).mono ?_
 ·match i,hi with
  | 0,_=>exact sx
  | 1,_=>exact sy
 rw [Mh]
 rintro r w7 (⟨hok,v,rfl,hD⟩ | ⟨hno,rfl,hb7⟩)
 ·have hb7:=hD.below
  obtain ⟨ng',s',m',e',rfl,hyy,hA⟩:=id hD
  obtain ⟨so,sn,sc,rfl⟩:=hA.num.shape
  have q0:=(hb7.block w.heap.size (by rw [i6]; omega)).trans (dJ _ _ _)
  have x0:=ac q0 0 rfl
  have x1:=ac q0 1 rfl
  have x2:=ac q0 2 rfl
  have z0:=aw q0 0
  have z1:=aw q0 1
  have z2:=aw q0 2
  go_wp2
  refine bodyPost_ret (v:=.agg #[.bool ng',.slice so sn sc,.int .i64 e']) (by simp [results,Tryz.results63,go_sem,x0,x1,x2]) rfl ?_
  exact .inl ⟨hok,_,rfl,dY (g:=w.heap.size) hD (aP _ _ _) (Nat.le_refl _) (by rw [i6]; omega) _ _ _⟩
 ·exact ⟨rfl,.inr ⟨hno,rfl,aa (aP _ _ _) hb7⟩⟩
theorem Jb (x y:aL) (w:World) (hx:aQ w x.ao x.n x.cap x.d) (hy:aQ w y.ao y.n y.cap y.d) (ox:cB x=true) (oy:cB y=true) (hT:dV w) :
  Calls Tryz.prog 36 #[x.v,y.v] w fun r w'=>∃ v er,r=.returned (.tuple #[v,.int .i64 er])∧iN w w' (x.V-y.V) v er:=by
 have hmf:∀ (fn:Fn) (first cap:Array Value) (w:World),(Instr.makeFunc fn first cap).run Tryz.prog w=.ok (.func fn first cap) w:=fun _ _ _ _=>rfl
 have hE:∀ (cap:Array Value) (w:World),(callFunc 63 cap).run Tryz.prog w=.ok (.enter 63 cap) w:=by
  intro cap w
  simp [go_sem]
 have hA:=Dl x y
 rw [ox,oy] at hA
 have hN:=fun W q hb=>Bq (w:=W) (g:=w.heap.size+3) (x:=x) (y:=y) (t:=34) q (hx.keeps hb) (hy.keeps hb)
 have hC:=fun W hb cg ch=>FK x y.neg w.heap.size (w.heap.size+1) W cg ch (hx.keeps hb) (hy.keeps hb) (cY ox) (aL.neg_sane (cY oy)) (hT.keeps hb)
 generalize tg x y=pr at hA hN
 rw [show x.V-y.V=x.V+y.neg.V by rw [aL.neg_V]; omega]
 generalize x.V+y.neg.V=V at hC ⊢
 clear ox oy
 obtain ⟨an,ao,n,ca,a,e⟩:=x
 obtain ⟨bn,bo,m,cb,b,f⟩:=y
 unfold aL.v
 unfold aL.neg at hC
 simp only at hx hy hN hC ⊢
 go_enter Tryz.func36,Tryz.ntmps36
 go_wp2_with fail
 refine (kW _ _ _ _ _ (hN _ (uz _ _ _ _ _) (lm _ _ _ _ _))).mono ?_
 rw [hA]
 rintro r w1 ⟨rfl,hb1⟩
 have hbw:=aa (lm w _ _ _ _) hb1
 have g0:=(hb1.block w.heap.size (by rw [mL]; omega)).trans (uw _ _ _ _ _)
 have g1:=(hb1.block (w.heap.size+1) (by rw [mL]; omega)).trans (ux _ _ _ _ _)
 have g2:=(hb1.block (w.heap.size+2) (by rw [mL]; omega)).trans (uy _ _ _ _ _)
 have hs4:w.heap.size+4<=w1.heap.size:=by have:=hb1.size; rw [mL] at this; exact this
 have y0:=ac g1 0 rfl
 have y1:=aw g1 0
 go_wp2_with fail
 have hbw':Below w.heap.size w (w1.setCell ⟨w.heap.size+1,0,none⟩ (.bool (!bn))):=hbw.setCell (p:=⟨w.heap.size+1,0,none⟩) (Nat.le_succ _) _
 have u0:=(Below.heap_setCell w1 ⟨w.heap.size+1,0,none⟩ (.bool (!bn)) w.heap.size (by show w.heap.size≠w.heap.size+1; omega)).trans g0
 have u2:=(Below.heap_setCell w1 ⟨w.heap.size+1,0,none⟩ (.bool (!bn)) (w.heap.size+2) (by show w.heap.size+2≠w.heap.size+1; omega)).trans g2
 have u1:=aE g1 0 (.bool (!bn))
 have us:(w1.setCell ⟨w.heap.size+1,0,none⟩ (.bool (!bn))).heap.size=w1.heap.size:=by simp [World.setCell]
 generalize w1.setCell ⟨w.heap.size+1,0,none⟩ (.bool (!bn))=w9 at hbw' u0 u1 u2 us ⊢
 clear hbw g0 g1 g2 hb1 y0 y1
 have hbw:=hbw'
 have g0:=u0
 have g1:w9.heap[w.heap.size+1]?=some (.cells #[.bool (!bn),.slice bo m cb,.int .i64 f] 34 (0,0)):=u1
 have g2:=u2
 refine (sm (V:=V) (hE _) (fun W hW=>hC W (aa hbw hW) ((hW.block _ (by omega)).trans g0) ((hW.block _ (by omega)).trans g1))).mono ?_
 rintro r w2 ⟨v,er,rfl,hF⟩
 obtain ⟨ng',so,sn,sc,e',rfl⟩:=hF.shape
 have q0:=(hF.1.block (w.heap.size+2) (by omega)).trans g2
 have x0:=ac q0 0 rfl
 have x1:=ac q0 1 rfl
 have x2:=ac q0 2 rfl
 have z0:=aw q0 0
 have z1:=aw q0 1
 have z2:=aw q0 2
 go_wp2
 refine bodyPost_ret (v:=.tuple #[.agg #[.bool ng',.slice so sn sc,.int .i64 e'],.int .i64 er]) (by simp [results,Tryz.results36,go_sem,x0,x1,x2]) rfl ⟨_,_,rfl,?_⟩
 exact sj (g:=w.heap.size+2) hF hbw (by omega) (by omega) _ _ _
def oz (x y:aL):Int:=sg (x.ng != y.ng) (val x.d x.n*val y.d y.n)*pw (x.e+y.e)
theorem uB {x y:aL} (hx:-2097152<=x.e) (hy:-2097152<=y.e):oz x y*2^4194304=x.V*y.V:=by
 unfold oz aL.V
 rw [Int.mul_assoc,<- j8 hx hy,<- Co]; grind
theorem p7 (x y:aL) (w:World) (hx:aQ w x.ao x.n x.cap x.d) (hy:aQ w y.ao y.n y.cap y.d) (sx:fP x) (sy:fP y) :
  Calls Tryz.prog 61 #[x.v,y.v] w fun r w'=>∃ s,r=.returned (.agg #[.bool (x.ng != y.ng),s,.int .i64 (x.e+y.e)])∧dm w w' (val x.d x.n*val y.d y.n) s:=by
 obtain ⟨an,ao,n,ca,a,e⟩:=x
 obtain ⟨bn,bo,m,cb,b,f⟩:=y
 obtain ⟨s1,s2,s3,s4⟩:=sx
 obtain ⟨t1,t2,t3,t4⟩:=sy
 unfold aL.v
 simp only at *
 have hw:IntKind.i64.wrap (e+f)=e+f:=by rw [bH]; omega
 have hb3:=nI w (.cells #[.bool an,.slice ao n ca,.int .i64 e] 34) (.cells #[.bool bn,.slice bo m cb,.int .i64 f] 34) (.cells #[.bool false,.slice none 0 0,.int .i64 0] 34)
 have g0:=xk w (.cells #[.bool an,.slice ao n ca,.int .i64 e] 34) (.cells #[.bool bn,.slice bo m cb,.int .i64 f] 34) (.cells #[.bool false,.slice none 0 0,.int .i64 0] 34)
 have g1:=xl w (.cells #[.bool an,.slice ao n ca,.int .i64 e] 34) (.cells #[.bool bn,.slice bo m cb,.int .i64 f] 34) (.cells #[.bool false,.slice none 0 0,.int .i64 0] 34)
 have g2:=xm w (.cells #[.bool an,.slice ao n ca,.int .i64 e] 34) (.cells #[.bool bn,.slice bo m cb,.int .i64 f] 34) (.cells #[.bool false,.slice none 0 0,.int .i64 0] 34)
 have hs3:=Bp w (.cells #[.bool an,.slice ao n ca,.int .i64 e] 34) (.cells #[.bool bn,.slice bo m cb,.int .i64 f] 34) (.cells #[.bool false,.slice none 0 0,.int .i64 0] 34)
 go_enter Tryz.func61,Tryz.ntmps61
 go_wp2_with fail
 have HX:=hx.keeps hb3
 have HY:=hy.keeps hb3
 generalize ((w.alloc (.cells #[.bool an,.slice ao n ca,.int .i64 e] 34)).alloc (.cells #[.bool bn,.slice bo m cb,.int .i64 f] 34)).alloc (.cells #[.bool false,.slice none 0 0,.int .i64 0] 34)=wx at hb3 g0 g1 g2 hs3 HX HY ⊢
 have k0:=ac g0 0 rfl
 have k1:=ac g0 1 rfl
 have k2:=ac g0 2 rfl
 have j0:=ac g1 0 rfl
 have j1:=ac g1 1 rfl
 have j2:=ac g1 2 rfl
 have hb1:=aA wx
 have C1:∀ W,Below wx.heap.size wx W->Calls Tryz.prog 88 #[.slice ao n ca,.slice bo m cb] W fun r w'=>∃ so sn sc,r=.returned (.slice so sn sc)∧dm W w' (val a n*val b m) (.slice so sn sc)∧Below W.heap.size W w':=fun W h=>by
  refine (zv ao bo n m ca cb a b W (HX.keeps h) (HY.keeps h) s1.1 t1.1 (by omega) (by omega)).mono ?_
  rintro r w' ⟨v,rfl,hA⟩
  obtain ⟨so,sn,sc,rfl⟩:=hA.num.shape
  exact ⟨so,sn,sc,rfl,hA,hA.below⟩
 go_region_held3 (fun W=>(W.cell? ⟨w.heap.size,0,none⟩=some (.bool an)∧W.cell? ⟨w.heap.size,1,none⟩=some (.slice ao n ca)∧W.cell? ⟨w.heap.size,2,none⟩=some (.int .i64 e))∧W.cell? ⟨w.heap.size+1,0,none⟩=some (.bool bn)∧W.cell? ⟨w.heap.size+1,1,none⟩=some (.slice bo m cb)∧W.cell? ⟨w.heap.size+1,2,none⟩=some (.int .i64 f))
  (first | assumption | exact ⟨⟨k0,k1,k2⟩,j0,j1,j2⟩ | exact ⟨qJ (W:=wx.drew) ⟨k0,k1,k2⟩ hbv1,qJ (W:=wx.drew) ⟨j0,j1,j2⟩ hbv1⟩ | exact ⟨Ia (qJ (W:=wx.drew) ⟨k0,k1,k2⟩ hbv1) (by omega) _ _ _,Ia (qJ (W:=wx.drew) ⟨j0,j1,j2⟩ hbv1) (by omega) _ _ _⟩)
  (first | (go_at_call 88; refine (C1 _ hb1.drew).mono ?_; rintro y w3 ⟨so,sn,sc,rfl,hv,hbv1⟩; have q0:=(hbv1.block (w.heap.size+2) (by show _<wx.heap.size; omega)).trans g2; have x0:=ac q0 0 rfl; have x1:=ac q0 1 rfl; have x2:=ac q0 2 rfl; have z0:=aw q0 0; have z1:=aw q0 1; have z2:=aw q0 2) | fail)
 all_goals go_wp2
 all_goals
  refine bodyPost_ret (v:=.agg #[.bool (!(an == bn)),.slice so sn sc,.int .i64 (e+f)]) (by simp [results,Tryz.results61,go_sem,x0,x1,x2]) rfl ⟨_,rfl,?_⟩
  exact uv (g:=w.heap.size+2) (hv.from hb1.drew) hb3 (by omega) (by omega) _ _ _
theorem FL (x y:aL) (g h:Nat) (w:World) (cg:w.heap[g]?=some (.cells #[.bool x.ng,.slice x.ao x.n x.cap,.int .i64 x.e] 34 (0,0))) (ch:w.heap[h]?=some (.cells #[.bool y.ng,.slice y.ao y.n y.cap,.int .i64 y.e] 34 (0,0)))
  (hx:aQ w x.ao x.n x.cap x.d) (hy:aQ w y.ao y.n y.cap y.d) (sx:fP x) (sy:fP y) (hT:dV w) :
  Calls Tryz.prog 59 #[.pointer (some ⟨g,0,none⟩),.pointer (some ⟨h,0,none⟩)] w (pW w (oz x y)):=by
 have hP:=fun W hb=>p7 x y W (hx.keeps hb) (hy.keeps hb) sx sy
 have hV:oz x y=sg (x.ng != y.ng) (val x.d x.n*val y.d y.n)*pw (x.e+y.e):=rfl
 have he:-4194304<=x.e+y.e:=by have:=sx.2.2.1; have:=sy.2.2.1; omega
 have hlen:val x.d x.n*val y.d y.n<P 10000:=by
  have a1:=cM sx.1.1
  have a2:=cM sy.1.1
  have b1:=bc sx.1.1
  have b2:=bc sy.1.1
  have c1:val x.d x.n*val y.d y.n<=P x.n*val y.d y.n:=Int.mul_le_mul_of_nonneg_right (by omega) b2
  have c2:P x.n*val y.d y.n<P x.n*P y.n:=Int.mul_lt_mul_of_pos_left a2 (cw _)
  rw [<- n8] at c2
  have:=lx (show x.n+y.n<=10000 by have:=sx.2.1; have:=sy.2.1; omega)
  omega
 generalize oz x y=V at hV ⊢
 unfold aL.v at hP
 obtain ⟨an,ao,n,ca,a,e⟩:=x
 obtain ⟨bn,bo,m,cb,b,f⟩:=y
 simp only at cg ch hx hy hP hV he hlen
 have hb:=ah w (.cells #[.bool false,.slice none 0 0,.int .i64 0] 34)
 have g0:=az (.cells #[.bool false,.slice none 0 0,.int .i64 0] 34) cg
 have g1:=az (.cells #[.bool false,.slice none 0 0,.int .i64 0] 34) ch
 have k0:=ac g0 0 rfl
 have k1:=ac g0 1 rfl
 have k2:=ac g0 2 rfl
 have j0:=ac g1 0 rfl
 have j1:=ac g1 1 rfl
 have j2:=ac g1 2 rfl
 clear sx sy
 have HV:Hid (V=sg (an != bn) (val a n*val b m)*pw (e+f)):=hV
 clear hV
 go_enter Tryz.func59,Tryz.ntmps59
 go_wp2_with fail
 refine (hP _ hb).mono ?_
 rintro r w3 ⟨s,rfl,hA⟩
 obtain ⟨so,sn,sc,d,rfl,hR,hN,hv⟩:=hA.num
 have hsn:sn<=10000:=hA.num.len hlen
 have hb3:=aa hb hA.below
 go_wp2_with fail
 refine (ov (V:=V) hR hN.1 (by omega) (hT.keeps hb3) he (by rw [hv]; exact HV.out)).mono ?_
 rintro r w7 (⟨hok,v,rfl,hD⟩ | ⟨hno,rfl,hb7⟩)
 ·have hb7:=hD.below
  obtain ⟨ng',s',m',e',rfl,hyy,hA2⟩:=id hD
  obtain ⟨so',sn',sc',rfl⟩:=hA2.num.shape
  have q0:=((aa hA.below hb7).block w.heap.size (by rw [fl]; omega)).trans (aB _ _)
  have x0:=ac q0 0 rfl
  have x1:=ac q0 1 rfl
  have x2:=ac q0 2 rfl
  have z0:=aw q0 0
  have z1:=aw q0 1
  have z2:=aw q0 2
  go_wp2
  refine bodyPost_ret (v:=.agg #[.bool ng',.slice so' sn' sc',.int .i64 e']) (by simp [results,Tryz.results59,go_sem,x0,x1,x2]) rfl ?_
  exact .inl ⟨hok,_,rfl,dY (g:=w.heap.size) hD hb3 (Nat.le_refl _) (Nat.lt_of_lt_of_le (by rw [fl]; omega) hA.below.size) _ _ _⟩
 ·exact ⟨rfl,.inr ⟨hno,rfl,aa hb3 hb7⟩⟩
theorem Jc (x y:aL) (w:World) (hx:aQ w x.ao x.n x.cap x.d) (hy:aQ w y.ao y.n y.cap y.d) (ox:cB x=true) (oy:cB y=true) (hT:dV w) :
  Calls Tryz.prog 34 #[x.v,y.v] w fun r w'=>∃ v er,r=.returned (.tuple #[v,.int .i64 er])∧iN w w' (oz x y) v er:=by
 have hmf:∀ (fn:Fn) (first cap:Array Value) (w:World),(Instr.makeFunc fn first cap).run Tryz.prog w=.ok (.func fn first cap) w:=fun _ _ _ _=>rfl
 have hE:∀ (cap:Array Value) (w:World),(callFunc 59 cap).run Tryz.prog w=.ok (.enter 59 cap) w:=by
  intro cap w
  simp [go_sem]
 have hA:=Dl x y
 rw [ox,oy] at hA
 have hN:=fun W q hb=>Bq (w:=W) (g:=w.heap.size+3) (x:=x) (y:=y) (t:=34) q (hx.keeps hb) (hy.keeps hb)
 have hC:=fun W hb cg ch=>FL x y w.heap.size (w.heap.size+1) W cg ch (hx.keeps hb) (hy.keeps hb) (cY ox) (cY oy) (hT.keeps hb)
 generalize tg x y=pr at hA hN
 generalize oz x y=V at hC ⊢
 clear ox oy
 obtain ⟨an,ao,n,ca,a,e⟩:=x
 obtain ⟨bn,bo,m,cb,b,f⟩:=y
 unfold aL.v
 simp only at hx hy hN hC ⊢
 go_enter Tryz.func34,Tryz.ntmps34
 go_wp2_with fail
 refine (kW _ _ _ _ _ (hN _ (uz _ _ _ _ _) (lm _ _ _ _ _))).mono ?_
 rw [hA]
 rintro r w1 ⟨rfl,hb1⟩
 have hbw:=aa (lm w _ _ _ _) hb1
 have g0:=(hb1.block w.heap.size (by rw [mL]; omega)).trans (uw _ _ _ _ _)
 have g1:=(hb1.block (w.heap.size+1) (by rw [mL]; omega)).trans (ux _ _ _ _ _)
 have g2:=(hb1.block (w.heap.size+2) (by rw [mL]; omega)).trans (uy _ _ _ _ _)
 have hs4:w.heap.size+4<=w1.heap.size:=by have:=hb1.size; rw [mL] at this; exact this
 go_wp2_with fail
 refine (sm (V:=V) (hE _) (fun W hW=>hC W (aa hbw hW) ((hW.block _ (by omega)).trans g0) ((hW.block _ (by omega)).trans g1))).mono ?_
 rintro r w2 ⟨v,er,rfl,hF⟩
 obtain ⟨ng',so,sn,sc,e',rfl⟩:=hF.shape
 have q0:=(hF.1.block (w.heap.size+2) (by omega)).trans g2
 have x0:=ac q0 0 rfl
 have x1:=ac q0 1 rfl
 have x2:=ac q0 2 rfl
 have z0:=aw q0 0
 have z1:=aw q0 1
 have z2:=aw q0 2
 go_wp2
 refine bodyPost_ret (v:=.tuple #[.agg #[.bool ng',.slice so sn sc,.int .i64 e'],.int .i64 er]) (by simp [results,Tryz.results34,go_sem,x0,x1,x2]) rfl ⟨_,_,rfl,?_⟩
 exact sj (g:=w.heap.size+2) hF hbw (by omega) (by omega) _ _ _
theorem Bx (x:aL) (w:World) (hx:aQ w x.ao x.n x.cap x.d) :
  Calls Tryz.prog 33 #[x.v] w fun r w'=>r=.returned (.tuple #[.int .i64 (if cB x then sgn x.ng x.n else 0),.int .i64 (if cB x then 0 else 11)])∧Below w.heap.size w w':=by
 have hV:=fun W hb=>lI x.ng x.ao x.n x.cap x.d x.e W (hx.keeps hb)
 have hS:=fun W=>vs x.ng x.ao x.n x.cap x.e W (by have:=hx.le; have:=hx.max; omega)
 have hk:mf x.ng x.d x.n x.e=cB x:=rfl
 rw [hk] at hV
 unfold aL.v
 generalize cB x=ok at *
 obtain ⟨an,ao,n,ca,a,e⟩:=x
 simp only at *
 cases ok
 ·go_enter Tryz.func33,Tryz.ntmps33
  go_wp2_with fail
  refine (hV _ (ah _ _)).mono ?_
  rintro r w1 ⟨rfl,hb1⟩
  go_wp2
  go_ret2
  exact ⟨rfl,aa (ah _ _) hb1⟩
 ·go_enter Tryz.func33,Tryz.ntmps33
  go_wp2_with fail
  refine (hV _ (ah _ _)).mono ?_
  rintro r w1 ⟨rfl,hb1⟩
  have g0:=(hb1.block w.heap.size (by rw [fl]; omega)).trans (aB _ _)
  have k0:=ac g0 0 rfl
  have k1:=ac g0 1 rfl
  have k2:=ac g0 2 rfl
  go_wp2_with fail
  refine (hS _).mono ?_
  rintro r w2 ⟨rfl,hb2⟩
  go_wp2
  go_ret2
  exact ⟨rfl,aa (aa (ah _ _) hb1) hb2⟩
theorem Mj {x:aL} (sx:fP x):(sgn x.ng x.n=0∧x.V=0∧x.n=0)∨(sgn x.ng x.n=1∧0<x.V∧0<x.n∧x.ng=false)∨(sgn x.ng x.n=-1∧x.V<0∧0<x.n∧x.ng=true):=by
 by_cases h0:x.n=0
 ·left
  refine ⟨by simp [sgn,h0],?_,h0⟩
  show sg x.ng (val x.d x.n)*_=0
  rw [h0]
  show sg x.ng 0*_=0
  rw [dI,Int.zero_mul]
 ·right
  have hp:=Int.mul_pos (lS sx.1 (show 0<x.n by omega)) (bD x.e)
  have hV:x.V=sg x.ng (val x.d x.n)*pw x.e:=rfl
  cases hg:x.ng
  ·left
   rw [hg] at hV
   exact ⟨by simp [sgn,h0],by rw [hV]; exact hp,by omega,rfl⟩
  ·right
   rw [hg] at hV
   refine ⟨by simp [sgn,h0],?_,by omega,rfl⟩
   rw [hV]
   show -val x.d x.n*pw x.e<0
   rw [Int.neg_mul]; omega
theorem df.open {w:World} {v:Value} {V:Int} (h:df w v V) (ok:fi V):∃ x:aL,v=x.v∧aQ w x.ao x.n x.cap x.d∧cB x=true∧x.V=V:=by
 obtain ⟨ng,s,m,e,rfl,hy,ao,n,cap,d,rfl,hR,hN,rfl⟩:=h
 refine ⟨⟨ng,ao,n,cap,d,e⟩,rfl,hR,?_,hy.val.symm⟩
 obtain ⟨o1,o2,o3⟩:=hy.ok.1 ok
 refine decide_eq_true ?_
 by_cases h0:n=0
 ·left
  have hz:val d n=0:=by rw [h0]; rfl
  rcases hy.form with ⟨_,f2,f3⟩ | ⟨f1,_⟩
  ·exact ⟨h0,f2,f3⟩
  ·omega
 ·right
  have hp:=lS hN (show 0<n by omega)
  rcases hy.form with ⟨f1,_⟩ | ⟨_,f2⟩
  ·omega
  ·refine ⟨by show 0<n; omega,⟨?_,hN⟩,?_,o2,o3⟩
   ·exact iF.len (w:=w) (ao:=ao) (cap:=cap) ⟨_,_,_,_,rfl,hR,hN,rfl⟩ o1
   ·obtain ⟨k,hk⟩:∃ k,n=1+k:=⟨n-1,by omega⟩
    have:=gW d 1 k
    rw [<- hk] at this
    rw [this,show val d 1=d 0 by show 0+d 0*1=_; omega,show P 1=1073741824 from rfl] at f2
    show d 0 % 2=1
    omega
theorem iN.yes {w w':World} {V er:Int} {v:Value} (h:iN w w' V v er) (ok:fi V):er=0∧bG w w' V v:=by
 rcases h.2 with ⟨_,h1,h2⟩ | ⟨hn,_⟩
 ·exact ⟨h1,h2⟩
 ·exact absurd ok hn
theorem Mk {w:World} {x y:Value} {A B:Int} (hx:df w x A) (hy:df w y B) (oA:fi A) (oB:fi B) (hT:dV w) :
  Calls Tryz.prog 36 #[x,y] w fun r w'=>∃ v er,r=.returned (.tuple #[v,.int .i64 er])∧iN w w' (A-B) v er:=by
 obtain ⟨x,rfl,hR,ok,rfl⟩:=hx.open oA
 obtain ⟨y,rfl,hR',ok',rfl⟩:=hy.open oB
 exact Jb x y w hR hR' ok ok' hT
theorem Id {w:World} {x y:Value} {A B:Int} (hx:df w x A) (hy:df w y B) (oA:fi A) (oB:fi B) (hT:dV w) :
  Calls Tryz.prog 34 #[x,y] w fun r w'=>∃ v er C,r=.returned (.tuple #[v,.int .i64 er])∧C*2^4194304=A*B∧iN w w' C v er:=by
 obtain ⟨x,rfl,hR,ok,rfl⟩:=hx.open oA
 obtain ⟨y,rfl,hR',ok',rfl⟩:=hy.open oB
 refine (Jc x y w hR hR' ok ok' hT).mono ?_
 rintro r w' ⟨v,er,rfl,hF⟩
 exact ⟨v,er,_,rfl,uB (by have:=(cY ok).2.2.1; omega) (by have:=(cY ok').2.2.1; omega),hF⟩
theorem KD {w:World} {x:Value} {A:Int} (hx:df w x A) (oA:fi A) :
  Calls Tryz.prog 33 #[x] w fun r w'=>r=.returned (.tuple #[.int .i64 (bz A 0),.int .i64 0])∧Below w.heap.size w w':=by
 obtain ⟨x,rfl,hR,ok,rfl⟩:=hx.open oA
 have:=Bx x w hR
 rw [ok] at this
 have e:sgn x.ng x.n=bz x.V 0:=by
  rcases Mj (cY ok) with ⟨a,b,_⟩ | ⟨a,b,_⟩ | ⟨a,b,_⟩
  ·rw [a,b,pO rfl]
  ·rw [a,me b]
  ·rw [a,md b]
 rw [<- e]
 exact this
def sr {α:Type} (v:Nat->α) (i:Nat) (x:α):Nat->α:=fun j=>if j=i then x else v j
theorem lp {α:Type} (v:Nat->α) (i:Nat) (x:α):sr v i x i=x:=by simp [sr]
theorem ja {α:Type} (v:Nat->α) {i j:Nat} (x:α) (h:j≠i):sr v i x j=v j:=by simp [sr,h]
def Ml (v:Nat->Value) (m:Nat):List Value:=(List.range m).map v
def lA (B:Nat) (w:World) (x:Value) (m:Nat) (v:Nat->Value):Prop:=w.ownsRow B 32 1 x m (Ml v m)
theorem lA.shape {B:Nat} {w:World} {x:Value} {m:Nat} {v:Nat->Value} (h:lA B w x m v):∃ xo xc,x=.slice xo m xc∧m<=xc∧xc<=9223372036854775807∧(0<m->∃ g,xo=some ⟨g,0,none⟩):=by
 rcases h.2 with ⟨rfl,rfl⟩ | ⟨g,cap,cur,rfl,hb,hg,hn,hm,_⟩
 ·exact ⟨none,0,rfl,Nat.le_refl _,by decide,fun h=>by omega⟩
 ·exact ⟨_,cap,rfl,hn,by unfold maxLen at hm; exact hm,fun _=>⟨g,rfl⟩⟩
theorem lA.of_block {B:Nat} {w w':World} {x:Value} {m:Nat} {v:Nat->Value} (h:lA B w x m v) (hb:∀ g,x.ownBlock=some g->w'.heap[g]?=w.heap[g]?):lA B w' x m v:=by
 refine ⟨h.1,?_⟩
 rcases h.2 with hn | ⟨g,cap,cur,rfl,hbb,hg,rest⟩
 ·exact .inl hn
 ·exact .inr ⟨g,cap,cur,rfl,hbb,(hb g rfl).trans hg,rest⟩
theorem aX.of_block {B:Nat} {w w':World} {x:Value} {n:Nat} {d:Nat->Int} (h:aX B w x n d) (hb:∀ g,x.ownBlock=some g->w'.heap[g]?=w.heap[g]?):aX B w' x n d:=by
 refine ⟨h.1,?_⟩
 rcases h.2 with hn | ⟨g,cap,cur,rfl,hbb,hg,rest⟩
 ·exact .inl hn
 ·exact .inr ⟨g,cap,cur,rfl,hbb,(hb g rfl).trans hg,rest⟩
theorem aX.typed {B:Nat} {w:World} {x:Value} {n:Nat} {d:Nat->Int} (h:aX B w x n d) {g:Nat} (hg:x.ownBlock=some g):∃ cur z,w.heap[g]?=some (.cells cur 3 z):=by
 rcases h.2 with ⟨rfl,_⟩ | ⟨g',cap,cur,rfl,hbb,hg',rest⟩
 ·simp [Value.ownBlock] at hg
 ·simp only [Value.ownBlock,Option.some.injEq] at hg; subst hg; exact ⟨cur,_,hg'⟩
theorem lA.typed {B:Nat} {w:World} {x:Value} {n:Nat} {v:Nat->Value} (h:lA B w x n v) {g:Nat} (hg:x.ownBlock=some g):∃ cur z,w.heap[g]?=some (.cells cur 32 z):=by
 rcases h.2 with ⟨rfl,_⟩ | ⟨g',cap,cur,rfl,hbb,hg',rest⟩
 ·simp [Value.ownBlock] at hg
 ·simp only [Value.ownBlock,Option.some.injEq] at hg; subst hg; exact ⟨cur,_,hg'⟩
theorem lA.ge {B:Nat} {w:World} {x:Value} {n:Nat} {v:Nat->Value} (h:lA B w x n v) {g:Nat} (hg:x.ownBlock=some g):B<=g∧g<w.heap.size:=by
 rcases h.2 with ⟨rfl,_⟩ | ⟨g',cap,cur,rfl,hbb,hg',rest⟩
 ·simp [Value.ownBlock] at hg
 ·simp only [Value.ownBlock,Option.some.injEq] at hg; subst hg; exact ⟨hbb,(Array.getElem?_eq_some_iff.1 hg').1⟩
theorem aX.ge {B:Nat} {w:World} {x:Value} {n:Nat} {v:Nat->Int} (h:aX B w x n v) {g:Nat} (hg:x.ownBlock=some g):B<=g∧g<w.heap.size:=by
 rcases h.2 with ⟨rfl,_⟩ | ⟨g',cap,cur,rfl,hbb,hg',rest⟩
 ·simp [Value.ownBlock] at hg
 ·simp only [Value.ownBlock,Option.some.injEq] at hg; subst hg; exact ⟨hbb,(Array.getElem?_eq_some_iff.1 hg').1⟩
theorem lA.alloc {B:Nat} {w:World} {x:Value} {m:Nat} {v:Nat->Value} (h:lA B w x m v) (o:Obj):lA B (w.alloc o) x m v:=h.of_block fun g hg=>Below.heap_alloc _ _ _ (h.ge hg).2
theorem Jd {w:World} (ty:TypeId) (B:Nat) (v:Value) (n:Nat) (d:Nat->Int) (hO:aX B w v n d) (bo:Option Addr) (m cb:Nat) (e:Nat->Int) (hR:aQ w bo m cb e) (hlen:n+m<=1000000) (hB:B<=w.heap.size) :
    ∃ v' w',(Builtin.append_ #[32,32] ty #[v,.slice bo m cb]).run Tryz.prog w=.ok v' w'∧aX B w' v' (n+m) (kr d n e)∧w.grownBy w' v.ownBlock∧(v'.ownBlock=v.ownBlock∨v'.ownBlock=some w.heap.size):=by
  obtain ⟨i0,hi,hz0,hz1,hz2⟩:=info_parts iM
  cases bo with
  | none=>
    have hc:=hR.nl rfl
    have hl:=hR.le
    subst hc
    obtain rfl:m=0:=by omega
    have hr:=run_append_owned_none (P:=Tryz.prog) w B 32 ty 3 i0 1 Tryz.underlying32 hi v n (eP d n) hO
    exact ⟨v,w,hr,hO.congr fun i hi=>by simp [kr]; omega,⟨rfl,rfl,rfl,Nat.le_refl _,fun _ _ _=>rfl⟩,.inl rfl⟩
  | some ad=>
    obtain ⟨v',w',hr,h2,h3,_,h5⟩:=run_append_own_at (P:=Tryz.prog) w B 32 ty 3 i0 (.int .i64 0) 1 8 Tryz.underlying32 hi hz0 hz1 hz2 rfl (by decide) v n (eP d n) hO ad m cb (eP e m) (by rw [bR]; omega)
      (fun j u hu=>by
        have hj:j<m:=by have:=(List.getElem?_eq_some_iff.1 hu).1; rwa [bR] at this
        obtain ⟨b,off,hb,_,hc⟩:=hR.spot (by omega)
        obtain rfl:=Option.some.inj hb
        rw [eW e hj] at hu
        rw [ol,hc j hj]; exact hu) (rZ e m) (by unfold maxLen; omega) (by omega) hB
    rw [wW] at h2
    exact ⟨v',w',hr,h2,h3,h5⟩
def An (B:Nat) (w:World) (v:Value) (V:Int):Prop:=∃ t d,aX B w v t d∧cT d t∧val d t=V
theorem An.keeps {B:Nat} {w w':World} {v:Value} {V:Int} (h:An B w v V) (k:Below w.heap.size w w'):An B w' v V:=by
 obtain ⟨t,d,h1,h2⟩:=h
 exact ⟨t,d,h1.stays k,h2⟩
theorem An.lower {B B':Nat} {w:World} {v:Value} {V:Int} (h:An B w v V) (hB:B'<=B):An B' w v V:=by
 obtain ⟨t,d,h1,h2⟩:=h
 exact ⟨t,d,h1.lower hB,h2⟩
theorem An.nil (B:Nat) (w:World):An B w (.slice none 0 0) 0:=⟨0,fun _=>0,aX.nil _ _ _,⟨fun i hi=>by omega,.inl rfl⟩,rfl⟩
theorem dm.an {w w':World} {V:Int} {v:Value} (h:dm w w' V v):An w.heap.size w' v V:=by
 obtain ⟨t,d,h1,h2,h3,h4⟩:=h
 exact ⟨t,d,h1,h2,h3⟩
theorem An.shape {B:Nat} {w:World} {v:Value} {V:Int} (h:An B w v V):∃ ao n cap,v=.slice ao n cap:=by
 obtain ⟨t,d,h1,h2⟩:=h
 obtain ⟨ao,cap,e,_⟩:=h1.row
 exact ⟨ao,t,cap,e⟩
theorem An.num {B:Nat} {w:World} {v:Value} {V:Int} (h:An B w v V):iF w v V:=by
 obtain ⟨t,d,h1,h2,h3⟩:=h
 obtain ⟨ao,cap,rfl,hR⟩:=h1.row
 exact ⟨ao,t,cap,d,rfl,hR,h2,h3⟩
theorem An.ge {B:Nat} {w:World} {v:Value} {V:Int} (h:An B w v V) {g:Nat} (hg:v.ownBlock=some g):B<=g∧g<w.heap.size:=by
 obtain ⟨t,d,h1,h2,h3⟩:=h
 exact h1.ge hg
def S2 (S:Nat->Prop) (l:Value) (s:Nat):Nat->Prop:=fun g=>S g∨l.ownBlock=some g∨s<=g
def ni (B:Nat) (w:World) (V:Int) (v:Value) (er:Int):Prop:=(V<P 2000∧er=0∧An B w v V)∨(P 2000<=V∧er=2∧v=.slice none 0 0)
theorem ni.keeps {B:Nat} {w w':World} {v:Value} {V er:Int} (h:ni B w V v er) (k:Below w.heap.size w w'):ni B w' V v er:=by
 rcases h with ⟨h1,h2,h3⟩ | h
 ·exact .inl ⟨h1,h2,h3.keeps k⟩
 ·exact .inr h
theorem ni.lower {B B':Nat} {w:World} {v:Value} {V er:Int} (h:ni B w V v er) (hB:B'<=B):ni B' w V v er:=by
 rcases h with ⟨h1,h2,h3⟩ | h
 ·exact .inl ⟨h1,h2,h3.lower hB⟩
 ·exact .inr h
theorem ni.ge {B:Nat} {w:World} {v:Value} {V er:Int} (h:ni B w V v er) {g:Nat} (hg:v.ownBlock=some g):B<=g∧g<w.heap.size:=by
 rcases h with ⟨h1,h2,h3⟩ | ⟨_,_,rfl⟩
 ·exact h3.ge hg
 ·simp [Value.ownBlock] at hg
theorem ni.shape {B:Nat} {w:World} {v:Value} {V er:Int} (h:ni B w V v er):∃ ao n cap,v=.slice ao n cap:=by
 rcases h with ⟨h1,h2,h3⟩ | ⟨_,_,rfl⟩
 ·exact h3.shape
 ·exact ⟨_,_,_,rfl⟩
def Ie (a:Nat->Int) (n:Nat):Nat->Int:=kr a n (fun i=>-71-(i:Int))
def ww (w w':World) (v:Value) (n:Nat) (a:Nat->Int):Prop:=∃ g cap,v=.slice (some ⟨g,0,none⟩) (n+3) cap∧aX w.heap.size w' v (n+3) (Ie a n)∧Below w.heap.size w w'
theorem ww.below {w w':World} {v:Value} {n:Nat} {a:Nat->Int} (h:ww w w' v n a):Below w.heap.size w w':=by
 obtain ⟨g,cap,_,_,hb⟩:=h
 exact hb
theorem ww.parts {w w':World} {v:Value} {n:Nat} {a:Nat->Int} (h:ww w w' v n a):∃ g cap,v=.slice (some ⟨g,0,none⟩) (n+3) cap∧aX w.heap.size w' (.slice (some ⟨g,0,none⟩) (n+3) cap) (n+3) (Ie a n):=by
 obtain ⟨g,cap,rfl,h,_⟩:=h
 exact ⟨g,cap,rfl,h⟩
def Bd (B:Nat) (V:Int):Prop:=∃ m:Int,V=m*pw (-(B:Int))∧-(2^(2*B))<m∧m<2^(2*B)
theorem Bd.ok {B:Nat} {V:Int} (h:Bd B V) (hB:B<=29000):fi V:=by
 obtain ⟨m,rfl,h1,h2⟩:=h
 by_cases h0:m=0
 ·rw [h0,Int.zero_mul]; exact oe
 ·have au:∀ (ng:Bool) (M:Int),0<M->M<2^(2*B)->fi (sg ng M*pw (-(B:Int))):=fun ng M hM hlt=>by
   obtain ⟨l,hl⟩:=mh hM
   have hy:=Dy.of ng hl hM (show -4194304 <= -(B:Int) by omega)
   obtain ⟨c1,c2,c3⟩:=iL hl hM
   have hl2:l<2*B:=by
    have h3:(1:Int)*2^l<=M/2^l*2^l:=Int.mul_le_mul_of_nonneg_right (by omega) (Int.le_of_lt (aO l))
    rw [c3] at h3
    exact i8 (by omega)
   refine hy.ok.2 ⟨?_,by omega,by omega⟩
   have h4:M/2^l<=M:=Int.ediv_le_self _ (by omega)
   have h5:(2:Int)^(2*B)<=2^(30*2000):=ga (by omega)
   rw [eC]
   omega
  by_cases hp:0<m
  ·exact au false m hp h2
  ·have:=au true (-m) (by omega) (by omega)
   rwa [show sg true (-m)=m by simp [sg]] at this
theorem Bd.up {B C:Nat} {V:Int} (h:Bd B V) (hBC:B<=C) (hC:C<=4194304):Bd C V:=by
 obtain ⟨m,rfl,h1,h2⟩:=h
 have hp:=aO (C-B)
 have e:pw (-(B:Int))=pw (-(C:Int))*2^(C-B):=by
  rw [<- ff (by omega)]; congr 1; omega
 have hle:(2:Int)^(2*B)*2^(C-B)<=2^(2*C):=by rw [<- Int.pow_add]; exact ga (by omega)
 refine ⟨m*2^(C-B),by rw [e]; grind,?_,?_⟩
 ·have:-(2^(2*B))*2^(C-B)<m*2^(C-B):=Int.mul_lt_mul_of_pos_right h1 hp
  rw [Int.neg_mul] at this
  omega
 ·have:=Int.mul_lt_mul_of_pos_right h2 hp
  omega
theorem Bd.add {B:Nat} {V W:Int} (h:Bd B V) (k:Bd B W) (hB:B<4194304):Bd (B+1) (V+W):=by
 obtain ⟨m,rfl,h1,h2⟩:=h
 obtain ⟨n,rfl,k1,k2⟩:=k
 have e:pw (-(B:Int))=pw (-((B+1:Nat):Int))*2:=by
  have:=ff (e:=-((B+1:Nat):Int)) (by omega) 1
  rw [Int.pow_succ,Int.pow_zero,Int.one_mul] at this
  rw [<- this]; congr 1; omega
 have e2:(2:Int)^(2*(B+1))=2^(2*B)*4:=by rw [show 2*(B+1)=2*B+2 by omega,Int.pow_add]; rfl
 refine ⟨2*(m+n),by rw [e]; grind,?_,?_⟩ <;> rw [e2] <;> omega
theorem Bd.neg {B:Nat} {V:Int} (h:Bd B V):Bd B (-V):=by
 obtain ⟨m,rfl,h1,h2⟩:=h
 exact ⟨-m,by rw [Int.neg_mul],by omega,by omega⟩
theorem Bd.mul {B:Nat} {V W U:Int} (h:Bd B V) (k:Bd B W) (hU:U*2^4194304=V*W) (hB:B<=1000000):Bd (2*B) U:=by
 obtain ⟨m,rfl,h1,h2⟩:=h
 obtain ⟨n,rfl,k1,k2⟩:=k
 have e:U=m*n*pw (-((2*B:Nat):Int)):=by
  refine lh ?_
  rw [hU,Int.mul_assoc (m*n),show -((2*B:Nat):Int)=-(B:Int) + -(B:Int) by omega,<- j8 (by omega) (by omega)]; grind
 refine ⟨m*n,e,?_,?_⟩
 all_goals
  have hab:(m*n).natAbs<((2:Int)^(2*(2*B))).natAbs:=by
   rw [Int.natAbs_mul,show 2*(2*B)=2*B+2*B by omega,Int.pow_add,Int.natAbs_mul]
   exact Nat.mul_lt_mul'' (by have:=aO (2*B); omega) (by have:=aO (2*B); omega)
  have:=aO (2*(2*B))
  omega
theorem KE {ng:Bool} {M e:Int} (h0:0<=M) (h1:M<P 30) (e0:-3000<e) (e1:e<3000):Bd 4000 (sg ng M*pw e):=by
 have hs:pw e=pw (-((4000:Nat):Int))*2^(e+4000).toNat:=by
  rw [<- ff (by omega)]; congr 1; omega
 have hp:=aO (e+4000).toNat
 have hlt:M*2^(e+4000).toNat<2^(2*4000):=by
  have a:M*2^(e+4000).toNat<P 30*2^(e+4000).toNat:=Int.mul_lt_mul_of_pos_right h1 hp
  rw [eC,<- Int.pow_add] at a
  have b:(2:Int)^(30*30+(e+4000).toNat)<=2^(2*4000):=ga (by omega)
  omega
 have hn:0<=M*2^(e+4000).toNat:=Int.mul_nonneg h0 (Int.le_of_lt hp)
 refine ⟨sg ng (M*2^(e+4000).toNat),by rw [hs,lg,lg]; grind,?_,?_⟩
 all_goals
  generalize M*2^(e+4000).toNat=X at *
  generalize (2:Int)^(2*4000)=T at *
  cases ng <;> simp only [sg] <;> simp <;> omega
end Go.Proofs.YtcjfonaolcokbaaGreatDoor
namespace Go.Proofs.YtcjfonaolcokbaaGreatDoor
open Go Go.ChangeShapes Go.WideShapes Go.ChangeAt Go.RowKit Go.Proofs.YtcjfonaolcokbaaGreatDoor.M
theorem Dp {x:Int} (h:(Lit.int .i64 x).wf=true):aj x:=by
 simp [Lit.wf,IntKind.min,IntKind.max,IntKind.signed,IntKind.bits] at h
 unfold aj; omega
end Go.Proofs.YtcjfonaolcokbaaGreatDoor
namespace Go.Proofs.YtcjfonaolcokbaaGreatDoor
open Go Go.RowKit Go.ChangeShapes Go.Proofs.YtcjfonaolcokbaaGreatDoor.M
theorem KF : Tryz.prog.globalNamed "math/bits.deBruijn64tab" = some 3 := by kernel_rfl
theorem FM:(Tryz.prog.globals[(3:Nat)]?).map (·.type)=some 176:=by kernel_rfl
theorem FN:Tryz.prog.cellsOf 176=64:=by kernel_rfl
theorem Dq:Tryz.prog.cellsOf 5=1:=by kernel_rfl
def Ad:List Int:=Lib.deBruijn64tab.map Int.ofNat
theorem Je:∀ j,j<64->Ad.getD j 0=((Lib.deBruijn64tab.getD j 0:Nat):Int):=by decide +kernel
theorem FO:Tryz.prog.cellsOf 3=1:=by kernel_rfl
theorem zD:Tryz.prog.cellsOf 142=3:=by kernel_rfl
theorem Ok : Tryz.prog.globalNamed "plumb/bits.binary64" = some 1 := by kernel_rfl
theorem Jf:(Tryz.prog.globals[(1:Nat)]?).map (·.type)=some 142:=by kernel_rfl
theorem kX {W:World} {name:String} {g:Nat} {a b c:Int} {rest:List (String × DataW Unit)} (hg:Tryz.prog.globalNamed name=some g) (hty:(Tryz.prog.globals[g]?).map (·.type)=some 142)
  (h:laidMet Tryz.prog ((name,.agg [.lit (.int .i64 a),.lit (.int .i64 b),.lit (.int .i64 c)]) :: rest) W) :
  W.cell? ⟨g,0,none⟩=some (.int .i64 a)∧W.cell? ⟨g,1,none⟩=some (.int .i64 b)∧W.cell? ⟨g,2,none⟩=some (.int .i64 c):=by
 obtain ⟨ps,⟨g',t',cs,fuel,p,q,hg',ht',hvar,hd,_,_⟩,_⟩:=h
 obtain rfl:=Option.some.inj (hg.symm.trans hg')
 obtain rfl:=Option.some.inj (hty.symm.trans ht')
 obtain ⟨y0,y1,y2,n,hx,hl,h0,h1,h2⟩:=Go.Deep.trod_struct3 Tryz.underlying142 hd
 obtain ⟨k0,e0,f0,_⟩:=DataW.trod_int Tryz.underlying3 h0
 obtain ⟨k1,e1,f1,_⟩:=DataW.trod_int Tryz.underlying3 h1
 obtain ⟨k2,e2,f2,_⟩:=DataW.trod_int Tryz.underlying3 h2
 rw [f0,f1,f2] at hx
 simp only [Prod.mk.injEq,DataW.agg.injEq,List.cons.injEq,DataW.lit.injEq,Lit.int.injEq,true_and,and_true] at hx
 obtain ⟨⟨rfl,rfl,rfl⟩,_⟩:=hx
 rw [zD] at hl
 rw [FO] at e0 e1 e2
 have v:=fun i=>World.var?_cell hg hvar i
 obtain ⟨l⟩:=cs
 simp only at hl e0 e1 e2
 match l,hl with
 | [c0,c1,c2],_=>
  simp at e0 e1 e2
  subst e0 e1 e2
  exact ⟨by simpa using v 0,by simpa using v 1,by simpa using v 2⟩
end Go.Proofs.YtcjfonaolcokbaaGreatDoor
namespace Go.Proofs.YtcjfonaolcokbaaGreatDoor
open Go Go.ChangeShapes Go.WideShapes Go.ChangeAt Go.RowKit Go.Proofs.YtcjfonaolcokbaaGreatDoor.M
structure By (w:World):Prop where
 lay:ow w
 tab:dV w
theorem By.keeps {w w':World} (h:By w) (hb:Below w.heap.size w w'):By w':=⟨h.lay.keeps hb,h.tab.keeps hb⟩
theorem Jg {W : World} (h : laidMetH Tryz.prog [("math/bits.deBruijn32tab", Rows.laid_math_bits_deBruijn32tab), ("math/bits.deBruijn64tab", Rows.laid_math_bits_deBruijn64tab), ("plumb/bits.binary64", Rows.laid_plumb_bits_binary64)] W) : By W := by
 rw [MakeChecks.laidMetH_plain _ _ _ (by kernel_rfl)] at h
 have h' : laidMet Tryz.prog (("math/bits.deBruijn64tab", Lib.tabData .u8 Ad) :: [("plumb/bits.binary64", Rows.laid_plumb_bits_binary64)]) W := h.tail
 have t:=Lib.tabIs_of_head KF FM Tryz.underlying176 Tryz.underlying5 Dq FN h'
 obtain ⟨a0,a1,a2⟩:=kX Ok Jf h'.tail
 refine ⟨⟨a0,a1,a2⟩,fun j hj=>?_⟩
 rw [<- Je j hj]
 exact t.cell KF j (by exact hj)
end Go.Proofs.YtcjfonaolcokbaaGreatDoor
namespace Go.Proofs.YtcjfonaolcokbaaGreatDoor
open Go Go.RowKit Go.Proofs.YtcjfonaolcokbaaGreatDoor.M
theorem bW {w w':World} {V:Int} {v:Value} (h:bG w w' V v):∃ ng so sn sc e,v=.agg #[.bool ng,.slice so sn sc,.int .i64 e]:=by
 obtain ⟨ng,s,m,e,h1,_,hA⟩:=h
 obtain ⟨so,sn,sc,rfl⟩:=hA.num.shape
 exact ⟨_,_,_,_,_,h1⟩
theorem If {w:World} {x y:Value} {A B:Int} {k:Nat} (hx:df w x A) (hy:df w y B) (bA:Bd k A) (bB:Bd k B) (hk:k<=28000) (hT:dV w) :
  Calls Tryz.prog 36 #[x,y] w fun r w'=>∃ v,r=.returned (.tuple #[v,.int .i64 0])∧bG w w' (A-B) v:=by
 refine (Mk hx hy (bA.ok (by omega)) (bB.ok (by omega)) hT).mono ?_
 rintro r w' ⟨v,er,rfl,hF⟩
 have hb:=bA.add bB.neg (by omega)
 rw [<- Int.sub_eq_add_neg] at hb
 obtain ⟨rfl,hD⟩:=hF.yes (hb.ok (by omega))
 exact ⟨v,rfl,hD⟩
theorem Ig {w:World} {x y:Value} {A B:Int} {k:Nat} (hx:df w x A) (hy:df w y B) (bA:Bd k A) (bB:Bd k B) (hk:k<=14000) (hT:dV w) :
  Calls Tryz.prog 34 #[x,y] w fun r w'=>∃ v C,r=.returned (.tuple #[v,.int .i64 0])∧bG w w' C v∧C*2^4194304=A*B∧Bd (2*k) C:=by
 refine (Id hx hy (bA.ok (by omega)) (bB.ok (by omega)) hT).mono ?_
 rintro r w' ⟨v,er,C,rfl,hC,hF⟩
 have hb:=bA.mul bB hC (by omega)
 obtain ⟨rfl,hD⟩:=hF.yes (hb.ok (by omega))
 exact ⟨v,C,rfl,hD,hC,hb⟩
def ar (b:Int):Int:=sg (hH b) (aK b)*pw (bi b)
def iR (A b:Int):Int:=if ak b=true then bz A (ar b) else if b<0 then 1 else -1
theorem xu {b:Int} (h:ak b=true):fi (ar b):=by
 obtain ⟨i0,i1,i2,i3⟩:=eE h
 exact vy i0 (by omega) i2 i3
end Go.Proofs.YtcjfonaolcokbaaGreatDoor
namespace Go.Proofs.YtcjfonaolcokbaaGreatDoor
open Go Go.Proofs.YtcjfonaolcokbaaGreatDoor.M
def vS (r:Nat):Int:=(V Ieee.double r:Int)*pw (-1074)
theorem ku {r s:Nat} (h:r<s):vS r<vS s:=Int.mul_lt_mul_of_pos_right (by have:=j9 Ieee.double h; omega) (bD _)
structure dM (A:Int) (r0:Nat) (left:Int):Prop where
 lo:vS r0<=A
 hi:A<vS (r0+1)
 l0:left=0 ↔ A=vS r0
 l1:left=1 ↔ vS r0<A∧2*A<vS r0+vS (r0+1)
 l2:left=2 ↔ 2*A=vS r0+vS (r0+1)
 l3:left=3 ↔ vS r0+vS (r0+1)<2*A
def bk (way:Int) (ng:Bool) (r0:Nat) (left:Int):Int:=if (r0:Int)<9218868437227405312 then (r0:Int)+(if bM way ng (decide (r0 % 2=1)) left then 1 else 0) else c9 way ng
theorem iS {way:Int} {ng odd:Bool} (h:bM way ng odd 0=true):False:=by
 unfold bM at h
 split at h
 ·simp at h
 ·split at h
  ·simp at h
  ·split at h <;> simp at h
theorem xw {way:Int} {ng odd:Bool} {left:Int} (h:bM way ng odd left=true):bM way ng true 3=true:=by
 unfold bM at *
 split at h
 ·rename_i h1; rw [if_pos h1]; rfl
 ·rename_i h1
  rw [if_neg h1]
  split at h
  ·rename_i h2; rw [if_pos h2]; simp at h; simp [h.2]
  ·rename_i h2
   rw [if_neg h2]
   split at h
   ·rename_i h3; rw [if_pos h3]; simp at h; simp [h.2]
   ·cases h
theorem vz {A:Int} {u a r0:Nat} {left:Int} (h:M.km A u (2^a*pw (-1074)) left) (h1:V Ieee.double r0=u*2^a) (h2:V Ieee.double (r0+1)=(u+1)*2^a):dM A r0 left:=by
 obtain ⟨lo,hi,l0,l1,l2,l3⟩:=h
 have e1:vS r0=(u:Int)*(2^a*pw (-1074)):=by
  unfold vS
  rw [h1]
  push_cast
  rw [Int.mul_assoc]
 have e2:vS (r0+1)=(u:Int)*(2^a*pw (-1074))+2^a*pw (-1074):=by
  unfold vS
  rw [h2]
  push_cast
  rw [Int.add_mul,Int.add_mul,Int.one_mul,Int.mul_assoc]
 generalize (2:Int)^a*pw (-1074)=q at *
 generalize (u:Int)*q=U at *
 exact ⟨by omega,by omega,by rw [e1]; exact l0,by rw [e1,e2,l1]; constructor <;> intro h <;> omega,by rw [e1,e2,l2]; constructor <;> intro h <;> omega,by rw [e1,e2,l3]; constructor <;> intro h <;> omega⟩
theorem xy {way:Int} {ng sd:Bool} {A:Int} {mag:Nat} {exp:Int} {cut:Bool} (hA:Be A mag exp cut) (hm:mag<2^64) (h0:mag≠0) (he:-4194304<=exp) (hc:cut=true->2^60<=mag) :
    ∃ (r0:Nat) (left:Int),dM A r0 left∧jO way ng sd mag exp cut=(aC (ng && (decide (0<bk way ng r0 left) || sd)) (bk way ng r0 left),decide (left≠0) || decide (9218868437227405312<=(r0:Int))):=by
  have e64:(2:Nat)^64=18446744073709551616:=by decide
  obtain ⟨b1,b2,b3,b4⟩:=M.gH mag hm h0
  have hbits:=zR (size:=53) (low:=-1074) (exp:=exp) (by decide) hm h0
  have hE1:-1074<=rE 53 (-1074) mag exp:=by unfold rE; omega
  have hcs:cut=true->0<rE 53 (-1074) mag exp-exp:=fun h=>by
    have h1:=hc h
    have h2:60<Lib.bitLen mag:=by
      have:=(Nat.pow_lt_pow_iff_right (by decide:1<2)).1 (Nat.lt_of_le_of_lt h1 b2)
      exact this
    unfold rE
    omega
  have hL:=IX hA hcs (by omega) he
  obtain ⟨E,hE⟩:∃ E,rE 53 (-1074) mag exp=E:=⟨_,rfl⟩
  have HR:jO way ng sd mag exp cut=(let E:=rE 53 (-1074) mag exp
    let u:=rU mag (E-exp)
    let left:=rL mag cut (E-exp)
    let U:=u+(if bM way ng (decide (u % 2=1)) left then 1 else 0)
    let neg:=ng && (decide (0<U) || sd)
    if jk 52 2047 (-1074) U E then (jp neg U E,decide (left≠0)) else (aC neg (c9 way neg),true)):=rfl
  simp only at HR
  rw [hE] at hbits hE1 hL HR
  obtain ⟨u,hu⟩:∃ u,rU mag (E-exp)=u:=⟨_,rfl⟩
  obtain ⟨left,hl⟩:∃ l,rL mag cut (E-exp)=l:=⟨_,rfl⟩
  rw [hu] at hbits hL HR
  rw [hl] at hL HR
  obtain ⟨a,ha⟩:∃ a,(E - -1074).toNat=a:=⟨_,rfl⟩
  have e53:(2:Nat)^(53:Int).toNat=9007199254740992:=by decide
  have e52:(2:Nat)^((53:Int).toNat-1)=4503599627370496:=by decide
  rw [e53,e52] at hbits
  have eB:Ieee.double.binade=4503599627370496:=by decide
  have hV:=pM Ieee.double a u (by rw [eB]; omega) (fun h=>by rw [eB]; exact hbits.2 (by omega))
  rw [eB] at hV
  have hpw:pw E=2^a*pw (-1074):=by rw [nC (e:=E) (low:=-1074) (by decide) hE1,ha]
  rw [hpw] at hL
  refine ⟨a*4503599627370496+u,left,vz hL hV.1 hV.2,?_⟩
  rw [HR]
  have hodd:decide ((a*4503599627370496+u) % 2=1)=decide (u % 2=1):=by congr 1; apply propext; omega
  unfold bk
  rw [hodd]
  obtain ⟨R,hR⟩:∃ R,bM way ng (decide (u % 2=1)) left=R:=⟨_,rfl⟩
  rw [hR]
  obtain ⟨U,hU⟩:∃ U,u+(if R=true then 1 else 0)=U:=⟨_,rfl⟩
  rw [hU]
  have hR1:R=true->left≠0:=fun h hz=>by rw [hz,h] at hR; exact iS hR
  have hR2:R=true->bM way ng true 3=true:=fun h=>xw (hR.trans h)
  have hUle:U<=9007199254740992:=by rw [<- hU]; split <;> omega
  have hcast:((a*4503599627370496+u:Nat):Int)+(if R=true then 1 else 0)=((a*4503599627370496+U:Nat):Int):=by
    rw [<- hU]
    cases R <;> simp only [if_true,if_false,Bool.false_eq_true] <;> omega
  rw [hcast]
  by_cases hU0:U=0
  · have hu0:u=0:=by rw [<- hU] at hU0; omega
    have ha0:a=0:=by
      rcases Nat.eq_zero_or_pos a with h | h
      · exact h
      · have:=hbits.2 (by omega); omega
    subst hU0 hu0 ha0
    have hj:jk 52 2047 (-1074) ((0:Nat):Int) E=true:=rfl
    rw [hj]
    rw [if_pos rfl,if_pos (by decide)]
    have hd:decide (9218868437227405312<=((0*4503599627370496+0:Nat):Int))=false:=by decide
    rw [hd,Bool.or_false]
    cases ng <;> cases sd <;> rfl
  · have hjr:=Cw Ieee.double 52 (by decide) dB 2047 (-1074) (by decide) U E (by omega) (by rw [show (2:Nat)^(52+1)=9007199254740992 by decide]; exact hUle) hE1 (fun h=>by rw [show (2:Nat)^52=4503599627370496 by decide]; have:=hbits.2 h; rw [<- hU]; omega)
    simp only at hjr
    rw [ha,show (2:Nat)^52=4503599627370496 by decide,show (2047:Int)*2^52=9218868437227405312 by decide] at hjr
    obtain ⟨j1,j2⟩:=hjr
    have hpos:decide (0<U)=true:=decide_eq_true (by omega)
    rw [show jk ((52:Nat):Int) 2047 (-1074) (U:Int) E=jk 52 2047 (-1074) (U:Int) E from rfl] at j1
    rw [j1,hpos,Bool.true_or,Bool.and_true]
    by_cases hf:((a*4503599627370496+U:Nat):Int)<9218868437227405312
    · have huU:u<=U:=by rw [<- hU]; omega
      have hf0:((a*4503599627370496+u:Nat):Int)<9218868437227405312:=by omega
      rw [decide_eq_true hf,if_pos rfl,if_pos hf0,decide_eq_false (p:=9218868437227405312<=((a*4503599627370496+u:Nat):Int)) (by omega),Bool.or_false]
      have hd:decide (0<((a*4503599627370496+U:Nat):Int))=true:=decide_eq_true (by omega)
      rw [hd,Bool.true_or,Bool.and_true]
      congr 1
      have hjk:jk 52 2047 (-1074) (U:Int) E=true:=by rw [j1]; exact decide_eq_true hf
      have hjv:=j2 hf
      rw [show jv ((52:Nat):Int) 2047 (-1074) (U:Int) E=jv 52 2047 (-1074) (U:Int) E from rfl] at hjv
      unfold jp aC
      rw [hjk,hjv,Bool.true_and]
    · rw [decide_eq_false hf,if_neg (by simp)]
      by_cases hf0:((a*4503599627370496+u:Nat):Int)<9218868437227405312
      · have hRt:R=true:=by
          cases R
          · exfalso; simp at hU; omega
          · rfl
        have hUe:((a*4503599627370496+U:Nat):Int)=9218868437227405312:=by rw [hRt] at hU; simp at hU; omega
        rw [if_pos hf0,hUe,decide_eq_true (hR1 hRt),Bool.true_or]
        congr 1
        have:c9 way ng=9218868437227405312:=by unfold c9; rw [hR2 hRt,if_pos rfl]
        rw [this]
        simp
      · rw [if_neg hf0,decide_eq_true (p:=9218868437227405312<=((a*4503599627370496+u:Nat):Int)) (by omega),Bool.or_true]
        congr 1
        have hd:decide (0<c9 way ng)=true:=by unfold c9; split <;> decide
        rw [hd,Bool.true_or,Bool.and_true]
end Go.Proofs.YtcjfonaolcokbaaGreatDoor
namespace Go.Proofs.YtcjfonaolcokbaaGreatDoor
open Go Go.RowKit Go.Proofs.YtcjfonaolcokbaaGreatDoor.M
theorem xz {M e:Int} (h:0<=M) (he:-4194304<=e) (k:Nat):Be (M*pw e) (M/2^k).toNat (e+k) (decide (M % 2^k≠0)):=by
 have hp:=aO k
 have hq:=bD e
 have h0:0<=M/2^k:=Int.ediv_nonneg h (by omega)
 have hm0:=Int.emod_nonneg M (show (2:Int)^k≠0 by omega)
 have hm1:=Int.emod_lt_of_pos M hp
 have hd:=Int.mul_ediv_add_emod M (2^k)
 unfold Be
 rw [Int.toNat_of_nonneg h0,ff he]
 generalize M/2^k=Q at *
 generalize M % 2^k=T at *
 generalize pw e=q at *
 generalize (2:Int)^k=D at *
 have e1:Q*(q*D)=(D*Q)*q:=by rw [Int.mul_comm q D,<- Int.mul_assoc,Int.mul_comm Q D]
 have e2:(Q+1)*(q*D)=(D*Q)*q+D*q:=by rw [Int.add_mul,e1,Int.one_mul,Int.mul_comm q D]
 have e3:M*q=(D*Q)*q+T*q:=by rw [<- hd,Int.add_mul]
 rw [e2,e1,e3]
 have t0:0<=T*q:=Int.mul_nonneg hm0 (by omega)
 have t1:T*q<D*q:=Int.mul_lt_mul_of_pos_right hm1 hq
 refine ⟨by omega,by omega,?_⟩
 rw [decide_eq_false_iff_not]
 constructor
 ·intro h
  have:T=0:=by omega
  rw [this]; simp
 ·intro h hT
  have:0<T*q:=Int.mul_pos (by omega) hq
  omega
theorem Ae {way:Int} {x:aL} (ok:cB x=true) (h0:0<x.n) :
  ∃ (r0:Nat) (left:Int),dM (val x.d x.n*pw x.e) r0 left∧jO way x.ng false (val x.d x.n/2^vK (val x.d x.n)).toNat (x.e+vK (val x.d x.n)) (decide (val x.d x.n % 2^vK (val x.d x.n)≠0))=(aC (x.ng && (decide (0<bk way x.ng r0 left) || false)) (bk way x.ng r0 left),decide (left≠0) || decide (9218868437227405312<=(r0:Int))):=by
 obtain ⟨na,hn,he0,he1⟩:=cY ok
 have hv:=lS na h0
 have hsm:=mi (Int.le_of_lt hv)
 have hb:=iP hv
 have hp:=aO (vK (val x.d x.n))
 have hge:2^(bh (val x.d x.n)-1-vK (val x.d x.n))<=val x.d x.n/2^vK (val x.d x.n):=by
  rw [Int.le_ediv_iff_mul_le hp,<- Int.pow_add]
  by_cases hk:vK (val x.d x.n)<=bh (val x.d x.n)-1
  ·rw [show bh (val x.d x.n)-1-vK (val x.d x.n)+vK (val x.d x.n)=bh (val x.d x.n)-1 by omega]
   exact hb.2
  ·exfalso; unfold vK at hk; omega
 have hpos:=aO (bh (val x.d x.n)-1-vK (val x.d x.n))
 have e64:(2:Nat)^64=18446744073709551616:=by decide
 have e60:(2:Nat)^60=1152921504606846976:=by decide
 refine xy (xz (Int.le_of_lt hv) (by omega) _) (by omega) (by omega) (by omega) (fun hc=>?_)
 have hk0:0<vK (val x.d x.n):=by
  rcases Nat.eq_zero_or_pos (vK (val x.d x.n)) with h | h
  ·rw [h,Int.pow_zero,Int.emod_one] at hc; simp at hc
  ·exact h
 have h61:bh (val x.d x.n)-1-vK (val x.d x.n)=61:=by unfold vK at hk0 ⊢; omega
 rw [h61] at hge
 have e61:(2:Int)^61=2305843009213693952:=by decide
 rw [e61] at hge
 omega
theorem jb {ng:Bool} {r:Int} (h0:0<=r) (h1:r<=9218868437227405312) (h:ng=true->0<r):aj (aC ng r)∧rg (aC ng r)=r∧(aC ng r<0 ↔ ng=true):=by
 unfold aC rg aj
 cases ng
 ·simp only [Bool.false_eq_true,if_false]
  exact ⟨by omega,by rw [if_neg (by omega)],by omega,fun h=>by cases h⟩
 ·simp only [if_true]
  exact ⟨by have:=h rfl; omega,by have:=h rfl; rw [if_pos (by omega)]; omega,fun _=>trivial,fun _=>by omega⟩
theorem mj {ng:Bool} {r:Int} (h0:0<=r) (h1:r<=9218868437227405312) (h:ng=true->0<r):ak (aC ng r)=decide (r<9218868437227405312):=by
 obtain ⟨a,b,c⟩:=jb h0 h1 h
 have hp:=gI a
 rw [b] at hp
 have hf:0<=cf (aC ng r)∧cf (aC ng r)<4503599627370496:=by unfold cf; omega
 unfold ak
 by_cases hr:r<9218868437227405312
 ·rw [decide_eq_true hr]
  simp
  omega
 ·rw [decide_eq_false hr]
  simp
  omega
theorem gf {ng:Bool} {r:Nat} (h1:(r:Int)<9218868437227405312) (h:ng=true->0<r):ar (aC ng r)=sg ng (vS r):=by
 have hh:ng=true->(0:Int)<r:=fun q=>by have:=h q; omega
 obtain ⟨a,b,c⟩:=jb (ng:=ng) (r:=(r:Int)) (by omega) (by omega) hh
 have hp:ak (aC ng r)=true:=by rw [mj (by omega) (by omega) hh]; exact decide_eq_true h1
 have hV:=Ko a hp
 rw [b,Int.toNat_natCast] at hV
 obtain ⟨i0,i1,i2,i3⟩:=eE hp
 have hn:hH (aC ng r)=ng:=by
  unfold hH
  rw [hp,Bool.true_and]
  cases ng
  ·exact decide_eq_false (fun q=>by have:=c.1 q; cases this)
  ·exact decide_eq_true (c.2 rfl)
 unfold ar vS
 rw [hV,hn]
 have e:pw (bi (aC ng r))=2^(bi (aC ng r)+1074).toNat*pw (-1074):=by
  rw [nC (e:=bi (aC ng r)) (low:=-1074) (by decide) i2]
  congr 2
 have e2:(((aK (aC ng r)).toNat*2^(bi (aC ng r)+1074).toNat:Nat):Int)*pw (-1074)=aK (aC ng r)*pw (bi (aC ng r)):=by
  push_cast
  rw [Int.toNat_of_nonneg i0,e,Int.mul_assoc]
 rw [e2]
 cases ng
 ·rfl
 ·show -aK _*_=-(aK _*_)
  rw [Int.neg_mul]
theorem dM.unique {A:Int} {r s:Nat} {l k:Int} (h:dM A r l) (g:dM A s k):r=s∧l=k:=by
 have e:r=s:=by
  rcases Nat.lt_trichotomy r s with q | q | q
  ·exfalso
   have h1:=h.hi
   have h2:=g.lo
   rcases Nat.lt_or_eq_of_le (show r+1<=s from q) with q2 | q2
   ·have:=ku q2; omega
   ·rw [q2] at h1; omega
  ·exact q
  ·exfalso
   have h1:=g.hi
   have h2:=h.lo
   rcases Nat.lt_or_eq_of_le (show s+1<=r from q) with q2 | q2
   ·have:=ku q2; omega
   ·rw [q2] at h1; omega
 subst e
 refine ⟨rfl,?_⟩
 have a0:=h.lo
 by_cases c0:A=vS r
 ·rw [h.l0.2 c0,g.l0.2 c0]
 ·by_cases c1:2*A<vS r+vS (r+1)
  ·rw [h.l1.2 ⟨by omega,c1⟩,g.l1.2 ⟨by omega,c1⟩]
  ·by_cases c2:2*A=vS r+vS (r+1)
   ·rw [h.l2.2 c2,g.l2.2 c2]
   ·rw [h.l3.2 (by omega),g.l3.2 (by omega)]
def iw (way:Int) (x:aL):Int × Bool:=jO way x.ng false (val x.d x.n/2^vK (val x.d x.n)).toNat (x.e+vK (val x.d x.n)) (decide (val x.d x.n % 2^vK (val x.d x.n)≠0))
theorem xA {x:aL} (ok:cB x=true) (h0:0<x.n):∃ (r0:Nat) (left:Int),dM (val x.d x.n*pw x.e) r0 left∧∀ way,iw way x=(aC (x.ng && decide (0<bk way x.ng r0 left)) (bk way x.ng r0 left),decide (left≠0) || decide (9218868437227405312<=(r0:Int))):=by
 obtain ⟨r0,left,hR,_⟩:=Ae (way:=0) ok h0
 refine ⟨r0,left,hR,fun way=>?_⟩
 obtain ⟨r1,l1,hR1,e1⟩:=Ae (way:=way) ok h0
 obtain ⟨rfl,rfl⟩:=hR.unique hR1
 unfold iw
 rw [e1,Bool.or_false]
theorem qL {x:aL} (ok:cB x=true) (h0:x.n=0) (way:Int):iw way x=(0,false):=by
  have hz:x.ng=false∧x.e=0:=by
    have:=of_decide_eq_true ok
    rcases this with ⟨_,a,b⟩ | ⟨a,_⟩
    · exact ⟨a,b⟩
    · omega
  have hv:val x.d x.n=0:=by rw [h0]; rfl
  unfold iw
  rw [hv,hz.1,hz.2]
  have e:jO way false false ((0:Int)/2^vK 0).toNat (0+(vK 0:Int)) (decide ((0:Int) % 2^vK 0≠0))=jO way false false 0 0 false:=by
    rw [show vK 0=0 by decide]
    rfl
  rw [e]
  have HR:jO way false false 0 0 false=(let E:=rE 53 (-1074) 0 0
    let u:=rU 0 (E-0)
    let left:=rL 0 false (E-0)
    let U:=u+(if bM way false (decide (u % 2=1)) left then 1 else 0)
    let neg:=false && (decide (0<U) || false)
    if jk 52 2047 (-1074) U E then (jp neg U E,decide (left≠0)) else (aC neg (c9 way neg),true)):=rfl
  rw [HR]
  have hE:rE 53 (-1074) 0 0=-53:=by decide
  simp only [hE]
  have hu:rU 0 (-53-0)=0:=by decide
  have hl:rL 0 false (-53-0)=0:=by decide
  simp only [hu,hl]
  have hr:bM way false (decide (0 % 2=1)) 0=false:=by
    cases h:bM way false (decide (0 % 2=1)) 0
    · rfl
    · exact absurd h (fun q=>iS q)
  rw [hr]
  rfl
theorem gM:vS 0=0:=by unfold vS; rw [nD]; simp
theorem oF {A:Int} {ng:Bool} {r:Nat} (h:(r:Int)<9218868437227405312):iR A (aC (ng && decide ((0:Int)<r)) r)=bz A (sg ng (vS r)):=by
 by_cases h0:r=0
 ·subst h0
  have e:(ng && decide ((0:Int)<((0:Nat):Int)))=false:=by simp
  rw [e,gM]
  have hp:ak (aC false ((0:Nat):Int))=true:=by decide
  have hv:ar (aC false ((0:Nat):Int))=0:=by rw [gf (by decide) (fun q=>by cases q),gM]; rfl
  unfold iR
  rw [if_pos hp,hv]
  cases ng <;> rfl
 ·have e:(ng && decide ((0:Int)<(r:Int)))=ng:=by rw [decide_eq_true (by omega),Bool.and_true]
  rw [e]
  have hp:ak (aC ng r)=true:=by rw [mj (by omega) (by omega) (fun _=>by omega)]; exact decide_eq_true h
  unfold iR
  rw [if_pos hp,gf h (fun _=>by omega)]
theorem xB {A:Int} {ng:Bool}:iR A (aC (ng && decide ((0:Int)<9218868437227405312)) 9218868437227405312)=if ng then 1 else -1:=by
 cases ng <;> rfl
theorem FP (ng odd:Bool) (left:Int):bM 1 ng odd left=(decide (left≠0) && ng):=rfl
theorem KG (ng odd:Bool) (left:Int):bM 2 ng odd left=(decide (left≠0) && !ng):=rfl
theorem FQ (ng odd:Bool) (left:Int):bM 3 ng odd left=false:=rfl
theorem Af {ng:Bool} {r0:Nat} {left:Int} (h:(r0:Int)<9218868437227405312) :
  bk 1 ng r0 left=(if left≠0∧ng=true then ((r0+1:Nat):Int) else (r0:Int))∧bk 2 ng r0 left=(if left≠0∧ng=false then ((r0+1:Nat):Int) else (r0:Int))∧bk 3 ng r0 left=(r0:Int)∧(bk 0 ng r0 left=(r0:Int)∨(left≠0∧bk 0 ng r0 left=((r0+1:Nat):Int))):=by
 unfold bk
 simp only [if_pos h]
 refine ⟨?_,?_,?_,?_⟩
 ·rw [FP]
  by_cases h0:left=0
  ·subst h0; simp
  ·cases ng <;> simp [h0]
 ·rw [KG]
  by_cases h0:left=0
  ·subst h0; simp
  ·cases ng <;> simp [h0]
 ·rw [FQ]
  simp
 ·cases hu:bM 0 ng (decide (r0 % 2=1)) left
  ·left; simp
  ·right
   refine ⟨fun hz=>?_,by simp⟩
   rw [hz] at hu
   exact iS hu
theorem Ag {ng:Bool} {r0:Nat} {left:Int} (h:¬ (r0:Int)<9218868437227405312) :
  bk 1 ng r0 left=(if ng=true then 9218868437227405312 else 9218868437227405311)∧bk 2 ng r0 left=(if ng=true then 9218868437227405311 else 9218868437227405312)∧bk 3 ng r0 left=9218868437227405311∧bk 0 ng r0 left=9218868437227405312:=by
 unfold bk
 simp only [if_neg h]
 cases ng <;> decide
theorem dZ {b:Int} (hb:aj b):(aG b=4 ↔ 9218868437227405312<rg b)∧(aG b=0 ↔ rg b=0):=by
 obtain ⟨h0,h1⟩:=gI hb
 have hf:0<=cf b∧cf b<4503599627370496:=by unfold cf; omega
 have hg:0<=bN b∧bN b<2048:=by unfold bN; omega
 generalize rg b=r at *
 unfold aG
 generalize bN b=f at *
 generalize cf b=c at *
 constructor
 ·split
  ·split <;> constructor <;> intro h <;> omega
  ·split
   ·split <;> constructor <;> intro h <;> omega
   ·constructor <;> intro h <;> omega
 ·split
  ·split <;> constructor <;> intro h <;> omega
  ·split
   ·split <;> constructor <;> intro h <;> omega
   ·constructor <;> intro h <;> omega
theorem Dr {r:Int} (h0:0<=r) (h1:r<9218868437227405312):aI (next (aC false r))=r+1:=by
 have e:aC false r=r:=rfl
 rw [e]
 have a1:aj r:=by unfold aj; omega
 have a2:aj (r+1):=by unfold aj; omega
 have g1:rg r=r:=by unfold rg; rw [if_neg (by omega)]
 have g2:rg (r+1)=r+1:=by unfold rg; rw [if_neg (by omega)]
 have c1:=dZ a1
 have c2:=dZ a2
 rw [g1] at c1
 rw [g2] at c2
 have n:next r=r+1:=by
  unfold next
  rw [if_neg (by rw [c1.1]; omega),if_neg (by omega),if_neg (by omega),if_neg (by omega)]
 rw [n]
 unfold aI
 rw [if_neg (by rw [c2.1]; omega),if_neg (by rw [c2.2]; omega)]
theorem Ds {r:Int} (h0:0<r) (h1:r<=9218868437227405312):aI (next (aC true r))=aC (decide (0<r-1)) (r-1):=by
 have e:aC true r=r-9223372036854775808:=rfl
 rw [e]
 have a1:aj (r-9223372036854775808):=by unfold aj; omega
 have a2:aj (r-9223372036854775808-1):=by unfold aj; omega
 have g1:rg (r-9223372036854775808)=r:=by unfold rg; rw [if_pos (by omega)]; omega
 have g2:rg (r-9223372036854775808-1)=r-1:=by unfold rg; rw [if_pos (by omega)]; omega
 have c1:=dZ a1
 have c2:=dZ a2
 rw [g1] at c1
 rw [g2] at c2
 have n:next (r-9223372036854775808)=r-9223372036854775808-1:=by
  unfold next
  rw [if_neg (by rw [c1.1]; omega),if_neg (by omega),if_neg (by omega),if_pos (by omega)]
 rw [n]
 unfold aI
 rw [if_neg (by rw [c2.1]; omega)]
 by_cases h:r-1=0
 ·rw [if_pos (c2.2.2 h),h]
  rfl
 ·rw [if_neg (by rw [c2.2]; exact h),decide_eq_true (by omega)]
  unfold aC
  rw [if_pos rfl]
  omega
structure tj (V:Int) (ng:Bool) (f:Int->Int × Bool):Prop where
 o2:(f 2).2=(f 1).2
 o3:(f 3).2=(f 1).2
 o0:(f 0).2=(f 1).2
 lo:¬ iR V (f 1).1<0
 hi:¬ 0<iR V (f 2).1
 ex:(f 1).2=false->iR V (f 1).1=0∧(f 2).1=(f 1).1∧(f 3).1=(f 1).1∧(f 0).1=(f 1).1
 up:(f 1).2=true->iR V (f 1).1≠0∧aI (next (f 1).1)=(f 2).1∧((f 0).1=(f 1).1∨(f 0).1=(f 2).1)∧(ng=false->(f 3).1=(f 1).1)∧(ng=true->(f 3).1=(f 2).1)
theorem FR (a:Int):bz a a=0:=by unfold bz; rw [if_neg (by omega),if_neg (by omega)]
theorem tj.of {V:Int} {ng:Bool} {f:Int->Int × Bool} {o:Bool} {d u z n:Int} (f1:f 1=(aC (ng && decide (0<d)) d,o)) (f2:f 2=(aC (ng && decide (0<u)) u,o)) (f3:f 3=(aC (ng && decide (0<z)) z,o)) (f0:f 0=(aC (ng && decide (0<n)) n,o))
  (lo:¬ iR V (aC (ng && decide (0<d)) d)<0) (hi:¬ 0<iR V (aC (ng && decide (0<u)) u)) (ex:o=false->iR V (aC (ng && decide (0<d)) d)=0∧u=d∧z=d∧n=d)
  (up:o=true->iR V (aC (ng && decide (0<d)) d)≠0∧aI (next (aC (ng && decide (0<d)) d))=aC (ng && decide (0<u)) u∧(n=d∨n=u)∧(ng=false->z=d)∧(ng=true->z=u)):tj V ng f:=by
 refine ⟨by rw [f1,f2],by rw [f1,f3],by rw [f1,f0],by rw [f1]; exact lo,by rw [f2]; exact hi,fun h=>?_,fun h=>?_⟩
 ·rw [f1] at h
  obtain ⟨a,b,c,e⟩:=ex h
  rw [f1,f2,f3,f0,b,c,e]
  exact ⟨a,rfl,rfl,rfl⟩
 ·rw [f1] at h
  obtain ⟨a,b,c,e,g⟩:=up h
  rw [f1,f2,f3,f0]
  refine ⟨a,b,?_,fun q=>by rw [e q],fun q=>by rw [g q]⟩
  rcases c with c | c
  ·left; rw [c]
  ·right; rw [c]
theorem Mm {r:Nat} (h:(r:Int)<9218868437227405312) (g:¬ ((r+1:Nat):Int)<9218868437227405312):((r+1:Nat):Int)=9218868437227405312:=by omega
theorem Ih (r:Nat):(0:Int)<((r+1:Nat):Int):=by omega
theorem NF {r:Nat} (h:(r:Int)<9218868437227405312):((r+1:Nat):Int)<=9218868437227405312:=by omega
theorem Mn (r:Nat):((r+1:Nat):Int)-1=(r:Int):=by omega
theorem Mo (r:Nat):((r+1:Nat):Int)=(r:Int)+1:=by omega
theorem NG {r k:Nat} (hk:(9218868437227405311:Int)=(k:Int)) (h:¬ (r:Int)<9218868437227405312):k<r:=by omega
theorem NH:∃ k:Nat,(9218868437227405311:Int)=(k:Int):=⟨9218868437227405311,rfl⟩
theorem Mp {k:Nat} (hk:(9218868437227405311:Int)=(k:Int)):(k:Int)<9218868437227405312∧(k:Int)+1=9218868437227405312∧(9218868437227405312:Int)-1=(k:Int):=by omega
theorem Dt {ng:Bool} {A B:Int} (h:A<B):bz (sg ng A) (sg ng B)=if ng then 1 else -1:=by
 cases ng
 ·exact md h
 ·exact me (Int.neg_lt_neg h)
theorem vA {ng:Bool} {A B:Int} (h:B<A):bz (sg ng A) (sg ng B)=if ng then -1 else 1:=by
 cases ng
 ·exact me h
 ·exact md (Int.neg_lt_neg h)
theorem lT (ng:Bool) (a b:Int):sg ng a*b=sg ng (a*b):=by
 unfold sg
 cases ng
 ·rfl
 ·exact Int.neg_mul a b
theorem jc {x:aL} (ok:cB x=true):tj x.V x.ng (fun way=>iw way x):=by
 by_cases h0:x.n=0
 ·have hz:x.ng=false:=by
   have:=of_decide_eq_true ok
   rcases this with ⟨_,a,b⟩ | ⟨a,_⟩
   ·exact a
   ·omega
  have hv:x.V=0:=by
   have hv:val x.d x.n=0:=by rw [h0]; rfl
   unfold aL.V
   rw [hv,dI,Int.zero_mul]
  have hp:iR x.V (aC (x.ng && decide ((0:Int)<0)) 0)=0:=by
   have:=oF (A:=x.V) (ng:=x.ng) (r:=0) (by decide)
   rw [gM,hv,hz] at this
   rw [hv,hz]
   exact this
  have hz0:∀ way,iw way x=(aC (x.ng && decide ((0:Int)<0)) 0,false):=fun way=>by
   rw [qL ok h0,hz]
   rfl
  exact tj.of (f:=fun way=>iw way x) (hz0 1) (hz0 2) (hz0 3) (hz0 0) (by rw [hp]; decide) (by rw [hp]; decide) (fun _=>⟨hp,rfl,rfl,rfl⟩) (fun h=>by cases h)
 ·obtain ⟨r0,left,hR,hf⟩:=xA ok (by omega)
  obtain ⟨A,hA⟩:∃ A,val x.d x.n*pw x.e=A:=⟨_,rfl⟩
  rw [hA] at hR
  have hV:x.V=sg x.ng A:=by
   unfold aL.V
   rw [<- hA]
   exact lT _ _ _
  clear hA
  have lo:=hR.lo
  have hi:=hR.hi
  have l0:=hR.l0
  rw [hV]
  by_cases hr:(r0:Int)<9218868437227405312
  ·obtain ⟨t1,t2,t3,t0⟩:=Af (ng:=x.ng) (left:=left) hr
   have ho:(decide (left≠0) || decide (9218868437227405312<=(r0:Int)))=decide (left≠0):=by rw [decide_eq_false (p:=9218868437227405312<=(r0:Int)) (Int.not_le.2 hr),Bool.or_false]
   rw [ho] at hf
   have P0:=oF (A:=sg x.ng A) (ng:=x.ng) hr
   by_cases hl:left=0
   ·have hAe:=l0.1 hl
    have e1:bk 1 x.ng r0 left=(r0:Int):=by rw [t1,if_neg (fun h=>h.1 hl)]
    have e2:bk 2 x.ng r0 left=(r0:Int):=by rw [t2,if_neg (fun h=>h.1 hl)]
    have e0:bk 0 x.ng r0 left=(r0:Int):=by rcases t0 with h | h; exact h; exact absurd hl h.1
    rw [hAe,FR] at P0
    refine tj.of (f:=fun way=>iw way x) (hf 1) (hf 2) (hf 3) (hf 0) ?_ ?_ ?_ ?_
    ·rw [e1,hAe,P0]; decide
    ·rw [e2,hAe,P0]; decide
    ·intro _; rw [e1,e2,t3,e0,hAe]; exact ⟨P0,rfl,rfl,rfl⟩
    ·intro h; exact absurd hl (of_decide_eq_true h)
   ·have hAl:vS r0<A:=by
     rcases Int.lt_or_eq_of_le lo with h | h
     ·exact h
     ·exact absurd (l0.2 h.symm) hl
    have P1:iR (sg x.ng A) (aC (x.ng && decide ((0:Int)<((r0+1:Nat):Int))) ((r0+1:Nat):Int))=if x.ng then 1 else -1:=by
     by_cases h1:((r0+1:Nat):Int)<9218868437227405312
     ·rw [oF h1]
      exact Dt hi
     ·have e:=Mm hr h1
      rw [e]
      exact xB
    have P0':iR (sg x.ng A) (aC (x.ng && decide ((0:Int)<(r0:Int))) (r0:Int))=if x.ng then -1 else 1:=by
     rw [P0]
     exact vA hAl
    clear hV
    generalize x.ng=ng at *
    cases ng
    ·have e1:bk 1 false r0 left=(r0:Int):=by rw [t1,if_neg (fun h=>by cases h.2)]
     have e2:bk 2 false r0 left=((r0+1:Nat):Int):=by rw [t2,if_pos ⟨hl,rfl⟩]
     refine tj.of (f:=fun way=>iw way x) (hf 1) (hf 2) (hf 3) (hf 0) ?_ ?_ ?_ ?_
     ·rw [e1,P0']; decide
     ·rw [e2,P1]; decide
     ·intro h; exact absurd hl (by simpa using h)
     ·intro _
      rw [e1,e2,t3,P0']
      refine ⟨by decide,?_,?_,(fun _=>rfl),(fun h=>by cases h)⟩
      ·rw [Bool.false_and,Bool.false_and,Dr (Int.natCast_nonneg _) hr]; exact (Mo r0).symm
      ·rcases t0 with h | h
       ·exact .inl h
       ·exact .inr h.2
    ·have e1:bk 1 true r0 left=((r0+1:Nat):Int):=by rw [t1,if_pos ⟨hl,rfl⟩]
     have e2:bk 2 true r0 left=(r0:Int):=by rw [t2,if_neg (fun h=>by cases h.2)]
     refine tj.of (f:=fun way=>iw way x) (hf 1) (hf 2) (hf 3) (hf 0) ?_ ?_ ?_ ?_
     ·rw [e1,P1]; decide
     ·rw [e2,P0']; decide
     ·intro h; exact absurd hl (by simpa using h)
     ·intro _
      rw [e1,e2,t3,P1]
      refine ⟨by decide,?_,?_,(fun h=>by cases h),fun _=>rfl⟩
      ·rw [Bool.true_and,Bool.true_and,decide_eq_true (p:=(0:Int)<((r0+1:Nat):Int)) (Ih r0),Ds (Ih r0) (NF hr),Mn]
      ·rcases t0 with h | h
       ·exact .inr h
       ·exact .inl h.2
  ·obtain ⟨t1,t2,t3,t0⟩:=Ag (ng:=x.ng) (left:=left) hr
   have ho:(decide (left≠0) || decide (9218868437227405312<=(r0:Int)))=true:=by rw [decide_eq_true (p:=9218868437227405312<=(r0:Int)) (Int.not_lt.1 hr),Bool.or_true]
   rw [ho] at hf
   obtain ⟨k,hk⟩:=NH
   obtain ⟨hk1,hk2,hk3⟩:=Mp hk
   have hAl:vS k<A:=Int.lt_of_lt_of_le (ku (NG hk hr)) lo
   have P0:iR (sg x.ng A) (aC (x.ng && decide ((0:Int)<(k:Int))) (k:Int))=if x.ng then -1 else 1:=by
    refine (oF (A:=sg x.ng A) (ng:=x.ng) hk1).trans ?_
    exact vA hAl
   rw [hk] at t1 t2 t3
   have P1:iR (sg x.ng A) (aC (x.ng && decide ((0:Int)<9218868437227405312)) 9218868437227405312)=if x.ng then 1 else -1:=xB
   clear hV hR lo hi l0
   generalize x.ng=ng at *
   cases ng
   ·rw [if_neg (by decide)] at t1 t2
    refine tj.of (f:=fun way=>iw way x) (hf 1) (hf 2) (hf 3) (hf 0) ?_ ?_ ?_ ?_
    ·rw [t1,P0]; decide
    ·rw [t2,P1]; decide
    ·intro h; cases h
    ·intro _
     rw [t1,t2,t3,t0,P0]
     refine ⟨by decide,?_,.inr rfl,(fun _=>rfl),(fun h=>by cases h)⟩
     rw [Bool.false_and,Bool.false_and]
     rw [Dr (Int.natCast_nonneg _) hk1,hk2]
     rfl
   ·rw [if_pos rfl] at t1 t2
    refine tj.of (f:=fun way=>iw way x) (hf 1) (hf 2) (hf 3) (hf 0) ?_ ?_ ?_ ?_
    ·rw [t1,P1]; decide
    ·rw [t2,P0]; decide
    ·intro h; cases h
    ·intro _
     rw [t1,t2,t3,t0,P1]
     refine ⟨by decide,?_,.inl rfl,(fun h=>by cases h),fun _=>rfl⟩
     rw [Bool.true_and,Bool.true_and]
     rw [decide_eq_true (p:=(0:Int)<9218868437227405312) (by decide),Ds (by decide) (Int.le_refl _),hk3]
end Go.Proofs.YtcjfonaolcokbaaGreatDoor
namespace Go.Proofs.YtcjfonaolcokbaaGreatDoor
open Go Go.ChangeShapes Go.WideShapes Go.ChangeAt Go.RowKit Go.Proofs.YtcjfonaolcokbaaGreatDoor.M
end Go.Proofs.YtcjfonaolcokbaaGreatDoor
namespace Go.Proofs.YtcjfonaolcokbaaGreatDoor
open Go Go.RowKit Go.Proofs.YtcjfonaolcokbaaGreatDoor.M
theorem vB {r:Nat->aL} {n:Nat} (h:qI r n=true):∀ i,i<n->cB (r i)=true:=of_decide_eq_true h
theorem iN.no {w w':World} {V er:Int} {v:Value} (h:iN w w' V v er) (no:¬ fi V):er=2∧v=fO∧Below w.heap.size w w':=by
 rcases h.2 with ⟨ok,_⟩ | ⟨_,h1,h2⟩
 ·exact absurd ok no
 ·exact ⟨h1,h2,h.1⟩
end Go.Proofs.YtcjfonaolcokbaaGreatDoor
namespace Go.Proofs.YtcjfonaolcokbaaGreatDoor
open Go Go.ChangeShapes Go.WideShapes Go.ChangeAt Go.RowKit Go.Proofs.YtcjfonaolcokbaaGreatDoor.M
structure aD (w:World):Prop where
 lay:ow w
 tab:dV w
 env:pn w
theorem aD.keeps {w w':World} (h:aD w) (hb:Below w.heap.size w w'):aD w':=⟨h.lay.keeps hb,h.tab.keeps hb,h.env.keeps hb⟩
def Du (w:World) (x:Value) (f:Int->Int × Bool):Prop:=∀ (way:Int) (W:World),0<=way∧way<=3->Below w.heap.size w W->Calls Tryz.prog 100 #[x,.int .i64 way] W fun e w'=>e=.returned (.tuple #[.int .i64 (f way).1,.bool (f way).2,.int .i64 0])∧Below W.heap.size W w'
theorem Du.keeps {w w':World} {x:Value} {f:Int->Int × Bool} (h:Du w x f) (hb:Below w.heap.size w w'):Du w' x f:=fun way W hw hB=>h way W hw (aa hb hB)
theorem Du.at {w:World} {x:Value} {f:Int->Int × Bool} (h:Du w x f) (way:Int) (hw:0<=way∧way<=3):Calls Tryz.prog 100 #[x,.int .i64 way] w fun e w'=>e=.returned (.tuple #[.int .i64 (f way).1,.bool (f way).2,.int .i64 0])∧Below w.heap.size w w':=h way w hw (aA w)
theorem b9 (way:Int) (ng:Bool) (r0:Nat) (left:Int):0<=bk way ng r0 left∧bk way ng r0 left<=9218868437227405312:=by
 unfold bk
 split
 ·split <;> omega
 ·unfold c9
  repeat' split
  all_goals decide
theorem Dv {x:aL} (ok:cB x=true) (way:Int):aj (iw way x).1:=by
  by_cases h0:x.n=0
  · rw [qL ok h0]; unfold aj; decide
  · obtain ⟨r0,left,_,hf⟩:=xA ok (by omega)
    rw [hf way]
    obtain ⟨h1,h2⟩:=b9 way x.ng r0 left
    exact (jb h1 h2 (fun h=>by
      cases hx:x.ng
      · rw [hx] at h; cases h
      · rw [hx,Bool.true_and] at h; exact of_decide_eq_true h)).1
end Go.Proofs.YtcjfonaolcokbaaGreatDoor
namespace Go.Proofs.YtcjfonaolcokbaaGreatDoor
open Go Go.RowKit Go.Proofs.YtcjfonaolcokbaaGreatDoor.M
def lB (V:Int) (ng:Bool) (f:Int->Int × Bool):Prop:=∃ (A:Int) (r0:Nat) (left:Int),V=sg ng A∧(ng=true->0<A)∧dM A r0 left∧∀ way,f way=(aC (ng && decide (0<bk way ng r0 left)) (bk way ng r0 left),decide (left≠0) || decide (9218868437227405312<=(r0:Int)))
theorem wq {a b:Int} (h0:a=0) (h1:a<b):(0:Int)<b∧(((0:Int)=0 ↔ (0:Int)=a)∧((0:Int)=1 ↔ a<0∧2*0<a+b)∧((0:Int)=2 ↔ 2*0=a+b)∧((0:Int)=3 ↔ a+b<2*0)):=by
 subst h0
 exact ⟨h1,by omega,by omega,by omega,by omega⟩
theorem mM:dM 0 0 0:=by
 have h1:=ku (show 0<0+1 by decide)
 have h0:=gM
 obtain ⟨q,a,b,c,d⟩:=wq h0 h1
 exact ⟨Int.le_of_eq h0,q,a,b,c,d⟩
theorem oG (way:Int):bk way false 0 0=0:=by
 unfold bk
 rw [if_pos (by decide)]
 cases h:bM way false (decide (0 % 2=1)) 0
 ·rfl
 ·exact (iS h).elim
theorem FS {x:aL} (ok:cB x=true) (h0:0<x.n):0<val x.d x.n*pw x.e:=by
 obtain ⟨na,_⟩:=cY ok
 exact Int.mul_pos (lS na h0) (bD _)
theorem Mq {x:aL} (ok:cB x=true):lB x.V x.ng (fun way=>iw way x):=by
 by_cases h0:x.n=0
 ·have hz:x.ng=false:=by
   have:=of_decide_eq_true ok
   rcases this with ⟨_,a,b⟩ | ⟨a,_⟩
   ·exact a
   ·omega
  have hv:x.V=0:=by
   have hv:val x.d x.n=0:=by rw [h0]; rfl
   unfold aL.V
   rw [hv,dI,Int.zero_mul]
  refine ⟨0,0,0,by rw [hv,hz]; rfl,(fun h=>by rw [hz] at h; cases h),mM,fun way=>?_⟩
  rw [hz,oG]
  exact qL ok h0 way
 ·obtain ⟨r0,left,hR,hf⟩:=xA ok (by omega)
  have hp:=FS ok (by omega)
  have hV:x.V=sg x.ng (val x.d x.n*pw x.e):=by
   unfold aL.V
   exact lT _ _ _
  exact ⟨_,r0,left,hV,(fun _=>hp),hR,hf⟩
theorem ry {a b:Int}:bz a b<0 ↔ a<b:=by
 rcases Int.lt_trichotomy a b with h | h | h
 ·rw [md h]; exact ⟨fun _=>h,fun _=>by decide⟩
 ·rw [pO h]; exact ⟨fun q=>absurd q (by decide),fun q=>by omega⟩
 ·rw [me h]; exact ⟨fun q=>absurd q (by decide),fun q=>by omega⟩
theorem rz {a b:Int}:0<bz a b ↔ b<a:=by
 rcases Int.lt_trichotomy a b with h | h | h
 ·rw [md h]; exact ⟨fun q=>absurd q (by decide),fun q=>by omega⟩
 ·rw [pO h]; exact ⟨fun q=>absurd q (by decide),fun q=>by omega⟩
 ·rw [me h]; exact ⟨fun _=>h,fun _=>by decide⟩
theorem p9 {a b:Int}:bz a b=0 ↔ a=b:=by
 rcases Int.lt_trichotomy a b with h | h | h
 ·rw [md h]; exact ⟨fun q=>absurd q (by decide),fun q=>by omega⟩
 ·rw [pO h]; exact ⟨fun _=>h,fun _=>rfl⟩
 ·rw [me h]; exact ⟨fun q=>absurd q (by decide),fun q=>by omega⟩
theorem FU {A a b left:Int} (l1:left=1 ↔ a<A∧2*A<a+b) (l2:left=2 ↔ 2*A=a+b) (l3:left=3 ↔ a+b<2*A) (lo:a<A) :
  (bz (A-a) (b-A)<0->left=1)∧(0<bz (A-a) (b-A)->left=3)∧(bz (A-a) (b-A)=0->left=2) :=
 ⟨fun h=>l1.2 ⟨lo,by have:=ry.1 h; omega⟩,fun h=>l3.2 (by have:=rz.1 h; omega),fun h=>l2.2 (by have:=p9.1 h; omega)⟩
theorem FV {A a b left:Int} (l1:left=1 ↔ a<A∧2*A<a+b) (l2:left=2 ↔ 2*A=a+b) (l3:left=3 ↔ a+b<2*A) (lo:a<A) :
  (bz (-A - -b) (-a - -A)<0->left=3)∧(0<bz (-A - -b) (-a - -A)->left=1)∧(bz (-A - -b) (-a - -A)=0->left=2) :=
 ⟨fun h=>l3.2 (by have:=ry.1 h; omega),fun h=>l1.2 ⟨lo,by have:=rz.1 h; omega⟩,fun h=>l2.2 (by have:=p9.1 h; omega)⟩
theorem Dw {A a b left:Int} (l1:left=1 ↔ a<A∧2*A<a+b) (l2:left=2 ↔ 2*A=a+b) (l3:left=3 ↔ a+b<2*A) (lo:a<A) :
  (bz (sg false A-sg false a) (sg false b-sg false A)<0->left=1)∧(0<bz (sg false A-sg false a) (sg false b-sg false A)->left=3)∧(bz (sg false A-sg false a) (sg false b-sg false A)=0->left=2):=FU l1 l2 l3 lo
theorem Dx {A a b left:Int} (l1:left=1 ↔ a<A∧2*A<a+b) (l2:left=2 ↔ 2*A=a+b) (l3:left=3 ↔ a+b<2*A) (lo:a<A) :
  (bz (sg true A-sg true b) (sg true a-sg true A)<0->left=3)∧(0<bz (sg true A-sg true b) (sg true a-sg true A)->left=1)∧(bz (sg true A-sg true b) (sg true a-sg true A)=0->left=2):=FV l1 l2 l3 lo
theorem Dz {ng:Bool} {r0:Nat} (h:(r0:Int)<9218868437227405312):bk 0 ng r0 1=(r0:Int):=by
 unfold bk
 rw [if_pos h]
 simp [bM]
theorem DC {ng:Bool} {r0:Nat} (h:(r0:Int)<9218868437227405312):bk 0 ng r0 3=((r0+1:Nat):Int):=by
 unfold bk
 rw [if_pos h]
 simp [bM]
theorem DD {ng:Bool} {r0:Nat} (h:(r0:Int)<9218868437227405312):bk 0 ng r0 2 % 2=0:=by
 unfold bk
 rw [if_pos h]
 by_cases hp:r0 % 2=1
 ·simp [bM,hp]; omega
 ·simp [bM,hp]; omega
theorem vC {b:Bool} {r:Int} (h:r % 2=0):aC b r % 2=0:=by
 unfold aC
 cases b
 ·exact h
 ·show (r-9223372036854775808) % 2=0; omega
theorem nJ {ng:Bool} {r:Int} (h:(ng && decide (0<r))=true):0<r:=by
 cases ng
 ·cases h
 ·rw [Bool.true_and] at h; exact of_decide_eq_true h
theorem Ah {ng:Bool} {r:Int} (h0:0<=r) (h1:r<=9218868437227405312) (h:ak (aC (ng && decide (0<r)) r)=true):r<9218868437227405312:=by
 rw [mj h0 h1 nJ] at h
 exact of_decide_eq_true h
theorem qa {ng:Bool} {r:Nat} (h:(r:Int)<9218868437227405312):ar (aC (ng && decide ((0:Int)<(r:Int))) (r:Int))=sg ng (vS r):=by
 rw [gf h (fun q=>by have:=nJ q; omega)]
 by_cases h0:r=0
 ·subst h0
  rw [gM]
  simp [sg]
 ·have e:(ng && decide ((0:Int)<(r:Int)))=ng:=by rw [decide_eq_true (by omega),Bool.and_true]
  rw [e]
structure DE (V:Int) (f:Int->Int × Bool):Prop where
 lo:bz (V-ar (f 1).1) (ar (f 2).1-V)<0->(f 0).1=(f 1).1
 hi:0<bz (V-ar (f 1).1) (ar (f 2).1-V)->(f 0).1=(f 2).1
 ev:bz (V-ar (f 1).1) (ar (f 2).1-V)=0->(f 0).1 % 2=0
theorem DE.of {V:Int} {f:Int->Int × Bool} {d u n p q:Int} {o:Bool} (f1:f 1=(d,o)) (f2:f 2=(u,o)) (f0:f 0=(n,o)) (hd:ar d=p) (hu:ar u=q)
  (lo:bz (V-p) (q-V)<0->n=d) (hi:0<bz (V-p) (q-V)->n=u) (ev:bz (V-p) (q-V)=0->n % 2=0):DE V f:=by
 subst hd hu
 exact ⟨by rw [f1,f2,f0]; exact lo,by rw [f1,f2,f0]; exact hi,by rw [f1,f2,f0]; exact ev⟩
theorem bp {V:Int} {ng:Bool} {f:Int->Int × Bool} (h:lB V ng f) (o:(f 0).2=true) (pd:ak (f 1).1=true) (pu:ak (f 2).1=true):DE V f:=by
 obtain ⟨A,r0,left,hV,hA,hR,hf⟩:=h
 have f1:=hf 1
 have f2:=hf 2
 have f0:=hf 0
 rw [f1] at pd
 rw [f2] at pu
 rw [f0] at o
 have g1:=b9 1 ng r0 left
 have g2:=b9 2 ng r0 left
 have q1:=Ah g1.1 g1.2 pd
 have q2:=Ah g2.1 g2.2 pu
 clear pd pu hf g1 g2
 by_cases hr:(r0:Int)<9218868437227405312
 ·obtain ⟨t1,t2,t3,t0⟩:=Af (ng:=ng) (left:=left) hr
  have hl:left≠0:=by
   have o':(decide (left≠0) || decide (9218868437227405312<=(r0:Int)))=true:=o
   rw [decide_eq_false (p:=9218868437227405312<=(r0:Int)) (Int.not_le.2 hr),Bool.or_false] at o'
   exact of_decide_eq_true o'
  have hAl:vS r0<A:=by
   rcases Int.lt_or_eq_of_le hR.lo with h | h
   ·exact h
   ·exact absurd (hR.l0.2 h.symm) hl
  have l1:=hR.l1
  have l2:=hR.l2
  have l3:=hR.l3
  clear hR t3 t0 hA
  have V0:=qa (ng:=ng) hr
  cases ng
  ·have e1:bk 1 false r0 left=(r0:Int):=by rw [t1,if_neg (fun h=>by cases h.2)]
   have e2:bk 2 false r0 left=((r0+1:Nat):Int):=by rw [t2,if_pos ⟨hl,rfl⟩]
   rw [e1] at f1
   rw [e2] at f2 q2
   have V1:=qa (ng:=false) q2
   obtain ⟨n1,n2,n3⟩:=Dw l1 l2 l3 hAl
   refine DE.of f1 f2 f0 V0 V1 ?_ ?_ ?_
   ·intro h
    rw [hV] at h
    have:=n1 h
    subst this
    rw [Dz hr]
   ·intro h
    rw [hV] at h
    have:=n2 h
    subst this
    rw [DC hr]
   ·intro h
    rw [hV] at h
    have:=n3 h
    subst this
    exact vC (DD hr)
  ·have e1:bk 1 true r0 left=((r0+1:Nat):Int):=by rw [t1,if_pos ⟨hl,rfl⟩]
   have e2:bk 2 true r0 left=(r0:Int):=by rw [t2,if_neg (fun h=>by cases h.2)]
   rw [e1] at f1 q1
   rw [e2] at f2
   have V1:=qa (ng:=true) q1
   obtain ⟨n1,n2,n3⟩:=Dx l1 l2 l3 hAl
   refine DE.of f1 f2 f0 V1 V0 ?_ ?_ ?_
   ·intro h
    rw [hV] at h
    have:=n1 h
    subst this
    rw [DC hr]
   ·intro h
    rw [hV] at h
    have:=n2 h
    subst this
    rw [Dz hr]
   ·intro h
    rw [hV] at h
    have:=n3 h
    subst this
    exact vC (DD hr)
 ·exfalso
  obtain ⟨t1,t2,t3,t0⟩:=Ag (ng:=ng) (left:=left) hr
  rw [t1] at q1
  rw [t2] at q2
  clear f1 f2 f0 o hV hA hR
  cases ng
  ·rw [if_neg (by decide)] at q2; omega
  ·rw [if_pos rfl] at q1; omega
end Go.Proofs.YtcjfonaolcokbaaGreatDoor
namespace Go.Proofs.YtcjfonaolcokbaaGreatDoor.M
open Go
theorem sw {b:Int} (hb:aj b) (h4:¬ aG b=4) (hi:¬ b=9218868437227405312):au (next b)=au b+1∧¬ aG (next b)=4∧place b<place (next b)∧¬ next b=-4503599627370496:=by
 have n:=jC h4
 unfold aj at hb
 unfold next
 rw [if_neg h4,if_neg hi]
 by_cases h1:b=-9223372036854775808
 ·subst h1; rw [if_pos rfl]; refine ⟨by decide,by decide,by decide,by decide⟩
 ·rw [if_neg h1]
  by_cases h2:b<0
  ·rw [if_pos h2]
   refine ⟨?_,?_,?_,?_⟩
   ·unfold au; split <;> omega
   ·rw [rO]; unfold bN cf at *; omega
   ·unfold place; split <;> omega
   ·unfold bN cf at n; omega
  ·rw [if_neg h2]
   refine ⟨?_,?_,?_,?_⟩
   ·unfold au; split <;> omega
   ·rw [rO]; unfold bN cf at *; omega
   ·unfold place; split <;> omega
   ·unfold bN cf at n; omega
theorem uC {b:Int} (hb:aj b) (h4:¬ aG b=4):au (neg b)=- au b∧¬ aG (neg b)=4:=by
 have n:=jC h4
 unfold aj at hb
 unfold neg
 rw [if_neg h4]
 by_cases h2:b<0
 ·rw [if_pos h2]
  refine ⟨?_,?_⟩
  ·unfold au; split <;> omega
  ·rw [rO]; unfold bN cf at *; omega
 ·rw [if_neg h2]
  refine ⟨?_,?_⟩
  ·unfold au; split <;> omega
  ·rw [rO]; unfold bN cf at *; omega
theorem xC {b:Int} (hb:aj b) (h4:¬ aG b=4) (hi:¬ b=-4503599627370496):au (dg b)=au b-1∧¬ aG (dg b)=4:=by
 obtain ⟨a1,a2⟩:=uC hb h4
 have r1:=i4 hb
 have hi':¬ neg b=9218868437227405312:=by
  unfold neg; rw [if_neg h4]; unfold aj at hb; split <;> omega
 obtain ⟨c1,c2,_,_⟩:=sw r1 a2 hi'
 obtain ⟨d1,d2⟩:=uC (rV r1) c2
 unfold dg
 refine ⟨by omega,d2⟩
theorem xD:next 9218868437227405312=9218868437227405312:=by decide
/-! the order of all -/
end Go.Proofs.YtcjfonaolcokbaaGreatDoor.M
namespace Go.Proofs.YtcjfonaolcokbaaGreatDoor.M
open Go Ieee
theorem FX (neg:Bool) (n:Nat):Toward.even.cut neg n 0=n:=by
 unfold Toward.cut
 have h1:n % 1=0:=Nat.mod_one n
 simp [h1]
theorem tm:Ieee.double.leastPlace=-1074:=by decide
end Go.Proofs.YtcjfonaolcokbaaGreatDoor.M
