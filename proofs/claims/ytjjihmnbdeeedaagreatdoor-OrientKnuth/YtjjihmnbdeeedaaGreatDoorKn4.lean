/- Parts of the proof. -/
import Derived.Test.YtjjihmnbdeeedaaGreatDoorKn3
import Derived.Laws.Externs
import Derived.Laws.Cover2
import Derived.Test.YtjjihmnbdeeedaaGreatDoorKn2
import Derived.Test.YtjjihmnbdeeedaaGreatDoorKn1
import Derived.Deep.RegionHeld3
import Derived.Deep.AppendLies
import Derived.Deep.RegionLaw
import Derived.Test.YtjjihmnbdeeedaaGreatDoorRows
import Derived.ProofKit
import Derived.OpenShut
import Derived.ChangeOld
import Derived.LaidMore
import Derived.Deep.Strs
import Derived.Lib.LaidTab
import Derived.MakeChecks
import Derived.Stop.LaidErr
set_option maxRecDepth 100000
set_option maxHeartbeats 40000000
set_option linter.unusedVariables false
set_option linter.unusedSimpArgs false
namespace Go.Proofs.YtjjihmnbdeeedaaGreatDoor
open Go Go.RowKit Go.Proofs.YtjjihmnbdeeedaaGreatDoor.M
theorem itself_any (p:Nat) (off cap len:Nat) (ng:Bool) (ao:Option Addr) (n ca:Nat) (a:Nat->Int) (e:Int) (w:World) (c0:w.cell? ⟨p,off,none⟩=some (.bool ng)) (c1:w.cell? ⟨p,off+1,none⟩=some (.slice ao n ca)) (c2:w.cell? ⟨p,off+2,none⟩=some (.int .i64 e)) (hl:0<len) (ha:Row w ao n ca a) (na:Nrm a n) (hn:n<=5000) (he:-1100000<=e∧e<=1100000) (hT:Tab w) :
  Calls Tryz.prog 256 #[.slice (some ⟨p,off,none⟩) len cap] w fun r w'=>r=.returned (.tuple #[valV ng (val a n/2^vK (val a n)).toNat (e+vK (val a n)) (decide (val a n % 2^vK (val a n)≠0)) false,.int .i64 0])∧Below w.heap.size w w':=by
 have CV:Hid (∀ W,Below w.heap.size w W->_):=fun W hb=>valueOf_any ng ao n ca a e W (ha.keeps hb) na hn he (hT.keeps hb)
 unfold valV at *
 generalize (val a n/2^vK (val a n)).toNat=Q at CV ⊢
 generalize e+vK (val a n)=E at CV ⊢
 generalize decide (val a n % 2^vK (val a n)≠0)=R at CV ⊢
 have q0:=heap_alloc_new w (.cells #[.bool false,.int .u64 0,.int .i64 0,.bool false,.bool false] 264)
 have hb1:=bel_alloc w (.cells #[.bool false,.int .u64 0,.int .i64 0,.bool false,.bool false] 264)
 have d0:=cell_keeps c0 hb1
 have d1:=cell_keeps c1 hb1
 have d2:=cell_keeps c2 hb1
 go_enter Tryz.func256,Tryz.ntmps256
 go_wp2_with fail
 refine (CV.out _ hb1).mono ?_
 rintro _ w2 ⟨rfl,hb2⟩
 have p1:=(hb2.block _ (Array.getElem?_eq_some_iff.1 q0).1).trans q0
 have hbw:=bel_trans hb1 hb2
 clear d0 d1 d2 c0 c1 c2 CV
 have x0:=blkC p1 0 rfl
 have x1:=blkC p1 1 rfl
 have x2:=blkC p1 2 rfl
 have x3:=blkC p1 3 rfl
 have x4:=blkC p1 4 rfl
 have z0:=blkF p1 0
 have z1:=blkF p1 1
 have z2:=blkF p1 2
 have z3:=blkF p1 3
 have z4:=blkF p1 4
 go_wp2
 all_goals refine bodyPost_ret (v:=.tuple #[.agg #[.bool ng,.int .u64 Q,.int .i64 E,.bool R,.bool false],.int .i64 0]) (by simp [results,Tryz.results256,go_sem,x0,x1,x2,x3,x4]) rfl ⟨rfl,?_⟩
 all_goals exact (wr5 w2 w.heap.size _ _ _ _ _).below hbw hbw.size (Nat.le_refl _)
theorem rounded_ok (way:Int) (hw:0<=way∧way<=3) (F G:Nat) (lo:Option Addr) (ln lc:Nat) (r:Nat->NumR) (w:World) (hl:Nums w lo ln lc r) (ok:∀ i,i<ln->okR (r i)=true) (ng:Bool) (mag:Nat) (exp:Int) (cut sd:Bool) (b:Int) (o:Bool)
  (hEF:∀ (cap:Array Value) (w:World),(callFunc F cap).run Tryz.prog w=.ok (.enter F cap) w) (hEG:∀ (cap:Array Value) (w:World),(callFunc G cap).run Tryz.prog w=.ok (.enter G cap) w)
  (hG:∀ W,Below w.heap.size w W->Calls Tryz.prog G #[.slice lo ln lc] W fun e w'=>e=.returned (.tuple #[valV ng mag exp cut sd,.int .i64 0])∧Below W.heap.size W w')
  (hF:∀ W,Below w.heap.size w W->Calls Tryz.prog F #[valV ng mag exp cut sd,wayV way] W fun e w'=>e=.returned (.tuple #[.int .i64 b,.bool o])∧Below W.heap.size W w') :
  Calls Tryz.prog 254 #[.int .i64 way,.func (.func F) #[] #[],.func (.func G) #[] #[],.slice lo ln lc] w fun e w'=>e=.returned (.tuple #[.int .i64 b,.bool o,.int .i64 0])∧Below w.heap.size w w':=by
 have hst:∀ (p:Addr) (F:Nat) (m:Mode) (w:World),(store p (.func (.func F) #[] #[]) m).run Tryz.prog w=stored Tryz.prog w p (.func (.func F) #[] #[]) m:=fun p F m w=>run_store _ w p _ m rfl
 have hle:=hl.le
 have hma:=hl.max
 unfold valV wayV at *
 have CW:=wayOf_any way w
 rw [if_pos hw,decide_eq_true hw] at CW
 unfold wayV at CW
 generalize wayF way=K at *
 go_enter Tryz.func254,Tryz.ntmps254
 go_wp2_with fail
 refine CW.mono ?_
 rintro _ w1 ⟨rfl,hb1⟩
 have q1:=heap_alloc_new w1 (.cells #[.nilFunc] 282)
 have y0:=blkC q1 0 rfl
 have y1:=blkF q1 0
 go_wp2_with fail
 have q2:=heap_alloc_new w1 (.cells #[.func (.func K) #[] #[]] 282)
 have hb2:=bel_trans hb1 (bel_alloc w1 (.cells #[.func (.func K) #[] #[]] 282))
 generalize w1.alloc (.cells #[.func (.func K) #[] #[]] 282)=w2 at q2 hb2 ⊢
 clear q1 y0 y1 CW
 go_loopw [28] (fun iv wr=>∃ k:Nat,iv=.int .i64 k∧k<=ln∧Hid (wr.heap[w1.heap.size]?=some (.cells #[.func (.func K) #[] #[]] 282 (0,0)))∧Below w.heap.size w wr) (fun iv _=>ln-(intOf iv).toNat)
 case atStart=>exact ⟨0,rfl,Nat.zero_le _,q2,hb2⟩
 case round=>
  clear q2 hb2
  obtain ⟨k,rfl,hk,HQ,hbw⟩:=hrel
  by_cases hlt:k<ln
  ·obtain ⟨ba,oa,rfl,hba,hca⟩:=hl.spot (by omega)
   obtain ⟨c0,c1,c2,hR⟩:=(hca k hlt).keeps hbw hba
   have hok:=ok k hlt
   have CV:=fun W (hb:Below wr.heap.size wr W)=>dvalid_any (r k).ng (r k).ao (r k).n (r k).cap (r k).d (r k).e W (hR.keeps hb)
   unfold okR at hok
   rw [hok] at CV
   clear hok hR hca
   generalize r k=x at c0 c1 c2 CV
   obtain ⟨x_g,x_o,x_n,x_c,x_d,x_e⟩:=x
   simp only at c0 c1 c2 CV
   have hb3:=bel_alloc wr (.cells #[.bool x_g,.slice x_o x_n x_c,.int .i64 x_e] 40)
   have HQ3:Hid ((wr.alloc (.cells #[.bool x_g,.slice x_o x_n x_c,.int .i64 x_e] 40)).heap[w1.heap.size]?=some (.cells #[.func (.func K) #[] #[]] 282 (0,0))):=(hb3.block _ (Array.getElem?_eq_some_iff.1 HQ.out).1).trans HQ.out
   go_wp2_with fail
   refine (CV _ hb3).mono ?_
   rintro _ w4 ⟨rfl,hb4⟩
   have HQ4:Hid (w4.heap[w1.heap.size]?=some (.cells #[.func (.func K) #[] #[]] 282 (0,0))):=(hb4.block _ (Array.getElem?_eq_some_iff.1 HQ3.out).1).trans HQ3.out
   have hbw4:=hbw.trans ((bel_trans hb3 hb4).mono hbw.size)
   clear CV HQ3 hb3 hb4 c0 c1 c2
   go_wp2
   go_roundw
   case rel=>exact ⟨k+1,by go_num,by omega,HQ4.out,hbw4⟩
   case measure=>simp [intOf]; omega
  ·obtain rfl:k=ln:=by omega
   go_wp2_with fail
   refine (hG _ hbw).mono ?_
   rintro _ w4 ⟨rfl,hb4⟩
   have p4:=(hb4.block _ (Array.getElem?_eq_some_iff.1 HQ.out).1).trans HQ.out
   have hbw4:=hbw.trans (hb4.mono hbw.size)
   have hb5:=bel_alloc w4 (.cells #[.bool ng,.int .u64 mag,.int .i64 exp,.bool cut,.bool sd] 264)
   have kw:=cell_keeps (blkC p4 0 rfl) hb5
   have hbw5:=hbw4.trans (hb5.mono hbw4.size)
   clear hG hb4
   go_wp2_with fail
   refine (hF _ hbw5).mono ?_
   rintro _ w6 ⟨rfl,hb6⟩
   go_wp2
   all_goals refine bodyPost_ret (v:=.tuple #[.int .i64 b,.bool o,.int .i64 0]) (by simp [results,Tryz.results254,go_sem]) rfl ⟨rfl,hbw5.trans (hb6.mono hbw5.size)⟩
theorem to_ok (way:Int) (hw:0<=way∧way<=3) (x:NumR) (w:World) (hx:Row w x.ao x.n x.cap x.d) (ok:okR x=true) (Ev:Env w) (hT:Tab w) :
    Calls Tryz.prog 198 #[x.v,.int .i64 way] w fun e w'=>e=.returned (.tuple #[.int .i64 (r64 way x.ng false (val x.d x.n/2^vK (val x.d x.n)).toNat (x.e+vK (val x.d x.n)) (decide (val x.d x.n % 2^vK (val x.d x.n)≠0))).1,.bool (r64 way x.ng false (val x.d x.n/2^vK (val x.d x.n)).toNat (x.e+vK (val x.d x.n)) (decide (val x.d x.n % 2^vK (val x.d x.n)≠0))).2,.int .i64 0])∧Below w.heap.size w w':=by
  have hS:=okR_sane ok
  obtain ⟨na,hn,he0,he1⟩:=hS
  have hv0:=val_nonneg na.1
  have hbl:vK (val x.d x.n)<=150000:=by have:=blen_nrm na; unfold vK; omega
  have hsm:=vK_small hv0
  have hEF:∀ (cap:Array Value) (w:World),(callFunc 255 cap).run Tryz.prog w=.ok (.enter 255 cap) w:=by
    intro cap w
    simp [go_sem]
  have hEG:∀ (cap:Array Value) (w:World),(callFunc 256 cap).run Tryz.prog w=.ok (.enter 256 cap) w:=by
    intro cap w
    simp [go_sem]
  have hmf:∀ (fn:Fn) (first cap:Array Value) (w:World),(Instr.makeFunc fn first cap).run Tryz.prog w=.ok (.func fn first cap) w:=fun _ _ _ _=>rfl
  have CR:=fun W (hb:Below w.heap.size w W) (g:Nat) (hg:W.heap[g]?=some (.cells #[.bool x.ng,.slice x.ao x.n x.cap,.int .i64 x.e] 40 (0,0)))=>rounded_ok way hw 255 256 (some ⟨g,0,none⟩) 1 1 (fun _=>x) W
    ⟨Nat.le_refl _,by decide,fun _=>⟨g,0,rfl,(Array.getElem?_eq_some_iff.1 hg).1,fun i hi=>by
      obtain rfl:i=0:=by omega
      exact ⟨blkC hg 0 rfl,blkC hg 1 rfl,blkC hg 2 rfl,hx.keeps hb⟩⟩⟩ (fun _ _=>ok) x.ng (val x.d x.n/2^vK (val x.d x.n)).toNat (x.e+vK (val x.d x.n)) (decide (val x.d x.n % 2^vK (val x.d x.n)≠0)) false _ _ hEF hEG
    (fun W2 hb2=>itself_any g 0 1 1 x.ng x.ao x.n x.cap x.d x.e W2 (cell_keeps (blkC hg 0 rfl) hb2) (cell_keeps (blkC hg 1 rfl) hb2) (cell_keeps (blkC hg 2 rfl) hb2) (by decide) ((hx.keeps hb).keeps hb2) na hn ⟨he0,he1⟩ ((hT.keeps hb).keeps hb2))
    (fun W2 hb2=>binary64_any way hw x.ng false _ _ _ W2 ((Ev.keeps hb).keeps hb2) (by omega) (by omega))
  generalize r64 way x.ng false (val x.d x.n/2^vK (val x.d x.n)).toNat (x.e+vK (val x.d x.n)) (decide (val x.d x.n % 2^vK (val x.d x.n)≠0))=R at CR ⊢
  have HCR:Hid _:=CR
  unfold NumR.v
  clear ok hsm hbl hv0 he0 he1 hn na hx
  obtain ⟨x_g,x_o,x_n,x_c,x_d,x_e⟩:=x
  simp only at *
  clear HCR
  have hb2:=bel_alloc2 w (.cells #[.bool x_g,.slice x_o x_n x_c,.int .i64 x_e] 40) (.cells #[.bool x_g,.slice x_o x_n x_c,.int .i64 x_e] 40)
  have q1:=heap_b2 w (.cells #[.bool x_g,.slice x_o x_n x_c,.int .i64 x_e] 40) (.cells #[.bool x_g,.slice x_o x_n x_c,.int .i64 x_e] 40)
  go_enter Tryz.func198,Tryz.ntmps198
  go_wp2_with fail
  refine (CR _ hb2 _ q1).mono ?_
  rintro _ w2 ⟨rfl,hb3⟩
  go_wp2
  all_goals refine bodyPost_ret (v:=.tuple #[.int .i64 R.1,.bool R.2,.int .i64 0]) (by simp [results,Tryz.results198,go_sem]) rfl ⟨rfl,bel_trans hb2 hb3⟩
def scV (A k:Int):Int:=if 0<=k then A*2^k.toNat else A/2^(-k).toNat
def scC (A k:Int):Bool:=if 0<=k then false else decide (A % 2^(-k).toNat≠0)
def qK (A B:Int):Int:=62+(blen B:Int)-(blen A:Int)
def qR64 (way:Int) (a b:NumR):Int × Bool:=r64 way (a.ng != b.ng) false (scV (val a.d a.n) (qK (val a.d a.n) (val b.d b.n))/val b.d b.n).toNat (a.e-b.e-qK (val a.d a.n) (val b.d b.n)) (scC (val a.d a.n) (qK (val a.d a.n) (val b.d b.n)) || decide (scV (val a.d a.n) (qK (val a.d a.n) (val b.d b.n)) % val b.d b.n≠0))
theorem operate_near (F G:Value) (hF:∃ f,F=.func f #[] #[]) (hG:∃ f,G=.func f #[] #[]) (near:Int) (R:Value) (o:Option Addr) (n c:Nat) (w:World) :
  Calls Tryz.prog 314 #[.agg #[F,G],.int .i64 near,.int .i64 0,R,.slice o n c] w fun e w'=>e=.returned (.tuple #[.int .i64 near,.int .i64 0])∧Below w.heap.size w w':=by
 obtain ⟨f,rfl⟩:=hF
 obtain ⟨g,rfl⟩:=hG
 have CW:=fun W=>wayOf_any 0 W
 unfold wayV wayF at CW
 simp only [if_true] at CW
 have hst:∀ (p:Addr) (F:Nat) (m:Mode) (w:World),(store p (.func (.func F) #[] #[]) m).run Tryz.prog w=stored Tryz.prog w p (.func (.func F) #[] #[]) m:=fun p F m w=>run_store _ w p _ m rfl
 go_enter Tryz.func314,Tryz.ntmps314
 go_wp2_with fail
 refine (CW _).mono ?_
 rintro _ w2 ⟨rfl,hb2⟩
 have hb1:=bel_alloc w (.cells #[.func f #[] #[],.func g #[] #[]] 294)
 have hbw:=bel_trans hb1 hb2
 have q1:=heap_alloc_new w2 (.cells #[.nilFunc] 282)
 have y0:=blkC q1 0 rfl
 have y1:=blkF q1 0
 clear CW
 go_wp2
 all_goals refine bodyPost_ret (v:=.tuple #[.int .i64 near,.int .i64 0]) (by simp [results,Tryz.results314,go_sem]) rfl ⟨rfl,?_⟩
 all_goals exact bel_trans hbw (bel_alloc _ _)
theorem double_any (w:World):Calls Tryz.prog 313 #[] w fun e w'=>e=.returned (.agg #[.func (.func 150) #[] #[],.func (.func 255) #[] #[]])∧Below w.heap.size w w':=by
 have hmf:∀ (fn:Fn) (first cap:Array Value) (w:World),(Instr.makeFunc fn first cap).run Tryz.prog w=.ok (.func fn first cap) w:=fun _ _ _ _=>rfl
 have hst:∀ (p:Addr) (F:Nat) (m:Mode) (w:World),(store p (.func (.func F) #[] #[]) m).run Tryz.prog w=stored Tryz.prog w p (.func (.func F) #[] #[]) m:=fun p F m w=>run_store _ w p _ m rfl
 have q1:=heap_alloc_new w (.cells #[.nilFunc,.nilFunc] 294)
 have x0:=blkC q1 0 rfl
 have x1:=blkC q1 1 rfl
 have z0:=blkF q1 0
 have z1:=blkF q1 1
 go_enter Tryz.func313,Tryz.ntmps313
 go_wp2
 all_goals refine bodyPost_ret (v:=.agg #[.func (.func 150) #[] #[],.func (.func 255) #[] #[]]) (by simp [results,Tryz.results313,go_sem]) rfl ⟨rfl,?_⟩
 all_goals exact bel_alloc _ _
theorem run_from64 (n:Int) (w:World):(callFunc 88 #[.int .u64 n]).run Tryz.prog w=.ok (.value (.float .f64 n.toNat)) w:=by
 rw [run_callFunc_extern Tryz.func88 (by kernel_rfl) (by kernel_rfl) (by kernel_rfl) (e:=Extern.MathFloatBits.float64frombits) (by kernel_rfl)]
 rfl
theorem ret_float {k:FloatKind} {a b:Nat} (h:a=b):Ending.returned (.float k a)=.returned (.float k b):=by rw [h]
theorem bitsFloat (b:Int) (w:World) :
  Calls Tryz.prog 58 #[.int .i64 b] w fun e w'=>e=.returned (.float .f64 (wd b))∧w'=w:=by
 have hd:=run_from64
 go_enter Tryz.func58,Tryz.ntmps58
 go_wp2
 go_ret
 exact ⟨ret_float (by rw [IntKind.wrap_u64]; rfl),rfl⟩
theorem hideIt {p:Prop} (h:p):Hid p:=h
def told (b:Int):Int:=if cls b=4 then 9221120237041090561 else b
theorem no64 {b:Int} (hb:rng b):(FloatKind.f64.format.order (wd b) (wd b) != some .eq)=decide (cls b=4):=by
 have:=same_order hb hb
 unfold bne
 rw [this]; unfold same
 by_cases h:cls b=4 <;> simp [h]
theorem run_bits64 (n:Nat) (w:World):(callFunc 89 #[.float .f64 n]).run Tryz.prog w=.ok (.value (.int .u64 n)) w:=by
 rw [run_callFunc_extern Tryz.func89 (by kernel_rfl) (by kernel_rfl) (by kernel_rfl) (e:=Extern.MathFloatBits.float64bits) (by kernel_rfl)]
 rfl
theorem bitsOf (b:Int) (w:World) (hb:rng b) :
  Calls Tryz.prog 124 #[.float .f64 (wd b)] w fun e w'=>e=.returned (.int .i64 (told b))∧w'=w:=by
 have hd:=run_bits64
 have hn:=no64 hb
 have hw:Hid (wrap64 (wd b:Int)=b):=by unfold Hid wrap64 wd; unfold rng at hb; omega
 by_cases h:cls b=4
 ·have hn':(FloatKind.f64.format.order (wd b) (wd b) != some .eq)=true:=by rw [hn]; simp [h]
  clear hn
  go_enter Tryz.func124,Tryz.ntmps124
  go_wp2
  go_ret
  exact ⟨b_ret_int (by simp [told,h]),rfl⟩
 ·have hn':(FloatKind.f64.format.order (wd b) (wd b) != some .eq)=false:=by rw [hn]; simp [h]
  clear hn
  go_enter Tryz.func124,Tryz.ntmps124
  go_wp2
  go_ret
  exact ⟨b_ret_int (by rw [hw.out]; simp [told,h]),rfl⟩
def litR (g:Nat) (x:Int):NumR:=⟨false,some ⟨g,0,none⟩,1,1,fun _=>x,0⟩
theorem third (g k:Nat):qR64 0 (litR g 1) (litR k 3)=(4599676419421066581,true):=by
 have e:qR64 0 (litR g 1) (litR k 3)=qR64 0 (litR 0 1) (litR 0 3):=rfl
 rw [e]
 decide +kernel
def NumR.neg (r:NumR):NumR:=⟨!r.ng,r.ao,r.n,r.cap,r.d,r.e⟩
theorem NumR.neg_V (r:NumR):r.neg.V=-r.V:=by
 show sg (!r.ng) _*_=_
 rw [sg_not,Int.neg_mul]; rfl
theorem NumR.neg_sane {r:NumR} (h:Sane r):Sane r.neg:=h
theorem sub1_any (x y:NumR) (g h:Nat) (w:World) (cg:w.heap[g]?=some (.cells #[.bool x.ng,.slice x.ao x.n x.cap,.int .i64 x.e] 40 (0,0))) (ch:w.heap[h]?=some (.cells #[.bool y.ng,.slice y.ao y.n y.cap,.int .i64 y.e] 40 (0,0)))
  (hx:Row w x.ao x.n x.cap x.d) (hy:Row w y.ao y.n y.cap y.d) (sx:Sane x) (sy:Sane y) (hT:Tab w) :
  Calls Tryz.prog 166 #[.pointer (some ⟨g,0,none⟩),.pointer (some ⟨h,0,none⟩)] w (DOut w (x.V+y.V)):=by
 obtain ⟨an,ao,n,ca,a,e⟩:=x
 obtain ⟨bn,bo,m,cb,b,f⟩:=y
 simp only at cg ch hx hy
 have hb:=bel_alloc w (.cells #[.bool false,.slice none 0 0,.int .i64 0] 40)
 have g0:=heap_past (.cells #[.bool false,.slice none 0 0,.int .i64 0] 40) cg
 have g1:=heap_past (.cells #[.bool false,.slice none 0 0,.int .i64 0] 40) ch
 have k0:=blkC g0 0 rfl
 have k1:=blkC g0 1 rfl
 have k2:=blkC g0 2 rfl
 have j0:=blkC g1 0 rfl
 have j1:=blkC g1 1 rfl
 have j2:=blkC g1 2 rfl
 have hN:=fun q=>nums2 (w:=(w.alloc (.cells #[.bool false,.slice none 0 0,.int .i64 0] 40)).alloc (.cells #[.bool an,.slice ao n ca,.int .i64 e,.bool bn,.slice bo m cb,.int .i64 f] 40)) (g:=w.heap.size+1) (x:=⟨an,ao,n,ca,a,e⟩) (y:=⟨bn,bo,m,cb,b,f⟩) (t:=40) q (hx.keeps (bel_alloc2 _ _ _)) (hy.keeps (bel_alloc2 _ _ _))
 go_enter Tryz.func166,Tryz.ntmps166
 go_wp2_with fail
 refine (total_any _ _ _ _ _ (hN (heap_b2 _ _ _)) (fun i hi=>?_) (by omega) (hT.keeps (bel_alloc2 _ _ _))).mono ?_
 ·match i,hi with
  | 0,_=>exact sx
  | 1,_=>exact sy
 rw [sumV2]
 rintro r w7 (⟨hok,v,rfl,hD⟩ | ⟨hno,rfl,hb7⟩)
 ·have hb7:=hD.below
  obtain ⟨ng',s',m',e',rfl,hyy,hA⟩:=id hD
  obtain ⟨so,sn,sc,rfl⟩:=hA.num.shape
  have q0:=(hb7.block w.heap.size (by rw [size2]; omega)).trans (heap_a2 _ _ _)
  have x0:=blkC q0 0 rfl
  have x1:=blkC q0 1 rfl
  have x2:=blkC q0 2 rfl
  have z0:=blkF q0 0
  have z1:=blkF q0 1
  have z2:=blkF q0 2
  go_wp2
  refine bodyPost_ret (v:=.agg #[.bool ng',.slice so sn sc,.int .i64 e']) (by simp [results,Tryz.results166,go_sem,x0,x1,x2]) rfl ?_
  exact .inl ⟨hok,_,rfl,dans_res3 (g:=w.heap.size) hD (bel_alloc2 _ _ _) (Nat.le_refl _) (by rw [size2]; omega) _ _ _⟩
 ·exact ⟨rfl,.inr ⟨hno,rfl,bel_trans (bel_alloc2 _ _ _) hb7⟩⟩
theorem dsub_ok (x y:NumR) (w:World) (hx:Row w x.ao x.n x.cap x.d) (hy:Row w y.ao y.n y.cap y.d) (ox:okR x=true) (oy:okR y=true) (hT:Tab w) :
  Calls Tryz.prog 98 #[x.v,y.v] w fun r w'=>∃ v er,r=.returned (.tuple #[v,.int .i64 er])∧DFit w w' (x.V-y.V) v er:=by
 have hmf:∀ (fn:Fn) (first cap:Array Value) (w:World),(Instr.makeFunc fn first cap).run Tryz.prog w=.ok (.func fn first cap) w:=fun _ _ _ _=>rfl
 have hE:∀ (cap:Array Value) (w:World),(callFunc 166 cap).run Tryz.prog w=.ok (.enter 166 cap) w:=by
  intro cap w
  simp [go_sem]
 have hA:=allOk2 x y
 rw [ox,oy] at hA
 have hN:=fun W q hb=>nums2 (w:=W) (g:=w.heap.size+3) (x:=x) (y:=y) (t:=40) q (hx.keeps hb) (hy.keeps hb)
 have hC:=fun W hb cg ch=>sub1_any x y.neg w.heap.size (w.heap.size+1) W cg ch (hx.keeps hb) (hy.keeps hb) (okR_sane ox) (NumR.neg_sane (okR_sane oy)) (hT.keeps hb)
 generalize pair2 x y=pr at hA hN
 rw [show x.V-y.V=x.V+y.neg.V by rw [NumR.neg_V]; omega]
 generalize x.V+y.neg.V=V at hC ⊢
 clear ox oy
 obtain ⟨an,ao,n,ca,a,e⟩:=x
 obtain ⟨bn,bo,m,cb,b,f⟩:=y
 unfold NumR.v
 unfold NumR.neg at hC
 simp only at hx hy hN hC ⊢
 go_enter Tryz.func98,Tryz.ntmps98
 go_wp2_with fail
 refine (dvalids_any _ _ _ _ _ (hN _ (h4_3 _ _ _ _ _) (bel_a4 _ _ _ _ _))).mono ?_
 rw [hA]
 rintro r w1 ⟨rfl,hb1⟩
 have hbw:=bel_trans (bel_a4 w _ _ _ _) hb1
 have g0:=(hb1.block w.heap.size (by rw [size4]; omega)).trans (h4_0 _ _ _ _ _)
 have g1:=(hb1.block (w.heap.size+1) (by rw [size4]; omega)).trans (h4_1 _ _ _ _ _)
 have g2:=(hb1.block (w.heap.size+2) (by rw [size4]; omega)).trans (h4_2 _ _ _ _ _)
 have hs4:w.heap.size+4<=w1.heap.size:=by have:=hb1.size; rw [size4] at this; exact this
 have y0:=blkC g1 0 rfl
 have y1:=blkF g1 0
 go_wp2_with fail
 have hbw':Below w.heap.size w (w1.setCell ⟨w.heap.size+1,0,none⟩ (.bool (!bn))):=hbw.setCell (p:=⟨w.heap.size+1,0,none⟩) (Nat.le_succ _) _
 have u0:=(Below.heap_setCell w1 ⟨w.heap.size+1,0,none⟩ (.bool (!bn)) w.heap.size (by show w.heap.size≠w.heap.size+1; omega)).trans g0
 have u2:=(Below.heap_setCell w1 ⟨w.heap.size+1,0,none⟩ (.bool (!bn)) (w.heap.size+2) (by show w.heap.size+2≠w.heap.size+1; omega)).trans g2
 have u1:=heap_set g1 0 (.bool (!bn))
 have us:(w1.setCell ⟨w.heap.size+1,0,none⟩ (.bool (!bn))).heap.size=w1.heap.size:=by simp [World.setCell]
 generalize w1.setCell ⟨w.heap.size+1,0,none⟩ (.bool (!bn))=w9 at hbw' u0 u1 u2 us ⊢
 clear hbw g0 g1 g2 hb1 y0 y1
 have hbw:=hbw'
 have g0:=u0
 have g1:w9.heap[w.heap.size+1]?=some (.cells #[.bool (!bn),.slice bo m cb,.int .i64 f] 40 (0,0)):=u1
 have g2:=u2
 refine (told_any (V:=V) (hE _) (fun W hW=>hC W (bel_trans hbw hW) ((hW.block _ (by omega)).trans g0) ((hW.block _ (by omega)).trans g1))).mono ?_
 rintro r w2 ⟨v,er,rfl,hF⟩
 obtain ⟨ng',so,sn,sc,e',rfl⟩:=hF.shape
 have q0:=(hF.1.block (w.heap.size+2) (by omega)).trans g2
 have x0:=blkC q0 0 rfl
 have x1:=blkC q0 1 rfl
 have x2:=blkC q0 2 rfl
 have z0:=blkF q0 0
 have z1:=blkF q0 1
 have z2:=blkF q0 2
 go_wp2
 refine bodyPost_ret (v:=.tuple #[.agg #[.bool ng',.slice so sn sc,.int .i64 e'],.int .i64 er]) (by simp [results,Tryz.results98,go_sem,x0,x1,x2]) rfl ⟨_,_,rfl,?_⟩
 exact dfit_res (g:=w.heap.size+2) hF hbw (by omega) (by omega) _ _ _
def mulV (x y:NumR):Int:=sg (x.ng != y.ng) (val x.d x.n*val y.d y.n)*pw (x.e+y.e)
theorem mulV_eq {x y:NumR} (hx:-2097152<=x.e) (hy:-2097152<=y.e):mulV x y*2^4194304=x.V*y.V:=by
 unfold mulV NumR.V
 rw [Int.mul_assoc,<- pw_mul hx hy,<- sg_mul]; grind
theorem dproduct_any (x y:NumR) (w:World) (hx:Row w x.ao x.n x.cap x.d) (hy:Row w y.ao y.n y.cap y.d) (sx:Sane x) (sy:Sane y) :
  Calls Tryz.prog 169 #[x.v,y.v] w fun r w'=>∃ s,r=.returned (.agg #[.bool (x.ng != y.ng),s,.int .i64 (x.e+y.e)])∧Ans w w' (val x.d x.n*val y.d y.n) s:=by
 obtain ⟨an,ao,n,ca,a,e⟩:=x
 obtain ⟨bn,bo,m,cb,b,f⟩:=y
 obtain ⟨s1,s2,s3,s4⟩:=sx
 obtain ⟨t1,t2,t3,t4⟩:=sy
 unfold NumR.v
 simp only at *
 have hw:IntKind.i64.wrap (e+f)=e+f:=by rw [wrap_i64_eq]; omega
 have hb3:=bel_a3 w (.cells #[.bool an,.slice ao n ca,.int .i64 e] 40) (.cells #[.bool bn,.slice bo m cb,.int .i64 f] 40) (.cells #[.bool false,.slice none 0 0,.int .i64 0] 40)
 have g0:=h3_0 w (.cells #[.bool an,.slice ao n ca,.int .i64 e] 40) (.cells #[.bool bn,.slice bo m cb,.int .i64 f] 40) (.cells #[.bool false,.slice none 0 0,.int .i64 0] 40)
 have g1:=h3_1 w (.cells #[.bool an,.slice ao n ca,.int .i64 e] 40) (.cells #[.bool bn,.slice bo m cb,.int .i64 f] 40) (.cells #[.bool false,.slice none 0 0,.int .i64 0] 40)
 have g2:=h3_2 w (.cells #[.bool an,.slice ao n ca,.int .i64 e] 40) (.cells #[.bool bn,.slice bo m cb,.int .i64 f] 40) (.cells #[.bool false,.slice none 0 0,.int .i64 0] 40)
 have hs3:=size3 w (.cells #[.bool an,.slice ao n ca,.int .i64 e] 40) (.cells #[.bool bn,.slice bo m cb,.int .i64 f] 40) (.cells #[.bool false,.slice none 0 0,.int .i64 0] 40)
 go_enter Tryz.func169,Tryz.ntmps169
 go_wp2_with fail
 have HX:=hx.keeps hb3
 have HY:=hy.keeps hb3
 generalize ((w.alloc (.cells #[.bool an,.slice ao n ca,.int .i64 e] 40)).alloc (.cells #[.bool bn,.slice bo m cb,.int .i64 f] 40)).alloc (.cells #[.bool false,.slice none 0 0,.int .i64 0] 40)=wx at hb3 g0 g1 g2 hs3 HX HY ⊢
 have k0:=blkC g0 0 rfl
 have k1:=blkC g0 1 rfl
 have k2:=blkC g0 2 rfl
 have j0:=blkC g1 0 rfl
 have j1:=blkC g1 1 rfl
 have j2:=blkC g1 2 rfl
 have hb1:=bel_refl wx
 have C1:∀ W,Below wx.heap.size wx W->Calls Tryz.prog 226 #[.slice ao n ca,.slice bo m cb] W fun r w'=>∃ so sn sc,r=.returned (.slice so sn sc)∧Ans W w' (val a n*val b m) (.slice so sn sc)∧Below W.heap.size W w':=fun W h=>by
  refine (product_any ao bo n m ca cb a b W (HX.keeps h) (HY.keeps h) s1.1 t1.1 (by omega) (by omega)).mono ?_
  rintro r w' ⟨v,rfl,hA⟩
  obtain ⟨so,sn,sc,rfl⟩:=hA.num.shape
  exact ⟨so,sn,sc,rfl,hA,hA.below⟩
 go_region_held3 (fun W=>(W.cell? ⟨w.heap.size,0,none⟩=some (.bool an)∧W.cell? ⟨w.heap.size,1,none⟩=some (.slice ao n ca)∧W.cell? ⟨w.heap.size,2,none⟩=some (.int .i64 e))∧W.cell? ⟨w.heap.size+1,0,none⟩=some (.bool bn)∧W.cell? ⟨w.heap.size+1,1,none⟩=some (.slice bo m cb)∧W.cell? ⟨w.heap.size+1,2,none⟩=some (.int .i64 f))
  (first | assumption | exact ⟨⟨k0,k1,k2⟩,j0,j1,j2⟩ | exact ⟨keepB (W:=wx.drew) ⟨k0,k1,k2⟩ hbv1,keepB (W:=wx.drew) ⟨j0,j1,j2⟩ hbv1⟩ | exact ⟨keepS (keepB (W:=wx.drew) ⟨k0,k1,k2⟩ hbv1) (by omega) _ _ _,keepS (keepB (W:=wx.drew) ⟨j0,j1,j2⟩ hbv1) (by omega) _ _ _⟩)
  (first | (go_at_call 226; refine (C1 _ hb1.drew).mono ?_; rintro y w3 ⟨so,sn,sc,rfl,hv,hbv1⟩; have q0:=(hbv1.block (w.heap.size+2) (by show _<wx.heap.size; omega)).trans g2; have x0:=blkC q0 0 rfl; have x1:=blkC q0 1 rfl; have x2:=blkC q0 2 rfl; have z0:=blkF q0 0; have z1:=blkF q0 1; have z2:=blkF q0 2) | fail)
 all_goals go_wp2
 all_goals
  refine bodyPost_ret (v:=.agg #[.bool (!(an == bn)),.slice so sn sc,.int .i64 (e+f)]) (by simp [results,Tryz.results169,go_sem,x0,x1,x2]) rfl ⟨_,rfl,?_⟩
  exact ans_res (g:=w.heap.size+2) (hv.from hb1.drew) hb3 (by omega) (by omega) _ _ _
theorem mul1_any (x y:NumR) (g h:Nat) (w:World) (cg:w.heap[g]?=some (.cells #[.bool x.ng,.slice x.ao x.n x.cap,.int .i64 x.e] 40 (0,0))) (ch:w.heap[h]?=some (.cells #[.bool y.ng,.slice y.ao y.n y.cap,.int .i64 y.e] 40 (0,0)))
  (hx:Row w x.ao x.n x.cap x.d) (hy:Row w y.ao y.n y.cap y.d) (sx:Sane x) (sy:Sane y) (hT:Tab w) :
  Calls Tryz.prog 167 #[.pointer (some ⟨g,0,none⟩),.pointer (some ⟨h,0,none⟩)] w (DOut w (mulV x y)):=by
 have hP:=fun W hb=>dproduct_any x y W (hx.keeps hb) (hy.keeps hb) sx sy
 have hV:mulV x y=sg (x.ng != y.ng) (val x.d x.n*val y.d y.n)*pw (x.e+y.e):=rfl
 have he:-4194304<=x.e+y.e:=by have:=sx.2.2.1; have:=sy.2.2.1; omega
 have hlen:val x.d x.n*val y.d y.n<P 10000:=by
  have a1:=val_lt sx.1.1
  have a2:=val_lt sy.1.1
  have b1:=val_nonneg sx.1.1
  have b2:=val_nonneg sy.1.1
  have c1:val x.d x.n*val y.d y.n<=P x.n*val y.d y.n:=Int.mul_le_mul_of_nonneg_right (by omega) b2
  have c2:P x.n*val y.d y.n<P x.n*P y.n:=Int.mul_lt_mul_of_pos_left a2 (P_pos _)
  rw [<- P_add] at c2
  have:=P_le (show x.n+y.n<=10000 by have:=sx.2.1; have:=sy.2.1; omega)
  omega
 generalize mulV x y=V at hV ⊢
 unfold NumR.v at hP
 obtain ⟨an,ao,n,ca,a,e⟩:=x
 obtain ⟨bn,bo,m,cb,b,f⟩:=y
 simp only at cg ch hx hy hP hV he hlen
 have hb:=bel_alloc w (.cells #[.bool false,.slice none 0 0,.int .i64 0] 40)
 have g0:=heap_past (.cells #[.bool false,.slice none 0 0,.int .i64 0] 40) cg
 have g1:=heap_past (.cells #[.bool false,.slice none 0 0,.int .i64 0] 40) ch
 have k0:=blkC g0 0 rfl
 have k1:=blkC g0 1 rfl
 have k2:=blkC g0 2 rfl
 have j0:=blkC g1 0 rfl
 have j1:=blkC g1 1 rfl
 have j2:=blkC g1 2 rfl
 clear sx sy
 have HV:Hid (V=sg (an != bn) (val a n*val b m)*pw (e+f)):=hV
 clear hV
 go_enter Tryz.func167,Tryz.ntmps167
 go_wp2_with fail
 refine (hP _ hb).mono ?_
 rintro r w3 ⟨s,rfl,hA⟩
 obtain ⟨so,sn,sc,d,rfl,hR,hN,hv⟩:=hA.num
 have hsn:sn<=10000:=hA.num.len hlen
 have hb3:=bel_trans hb hA.below
 go_wp2_with fail
 refine (settle_any (V:=V) hR hN.1 (by omega) (hT.keeps hb3) he (by rw [hv]; exact HV.out)).mono ?_
 rintro r w7 (⟨hok,v,rfl,hD⟩ | ⟨hno,rfl,hb7⟩)
 ·have hb7:=hD.below
  obtain ⟨ng',s',m',e',rfl,hyy,hA2⟩:=id hD
  obtain ⟨so',sn',sc',rfl⟩:=hA2.num.shape
  have q0:=((bel_trans hA.below hb7).block w.heap.size (by rw [size1]; omega)).trans (heap_a1 _ _)
  have x0:=blkC q0 0 rfl
  have x1:=blkC q0 1 rfl
  have x2:=blkC q0 2 rfl
  have z0:=blkF q0 0
  have z1:=blkF q0 1
  have z2:=blkF q0 2
  go_wp2
  refine bodyPost_ret (v:=.agg #[.bool ng',.slice so' sn' sc',.int .i64 e']) (by simp [results,Tryz.results167,go_sem,x0,x1,x2]) rfl ?_
  exact .inl ⟨hok,_,rfl,dans_res3 (g:=w.heap.size) hD hb3 (Nat.le_refl _) (Nat.lt_of_lt_of_le (by rw [size1]; omega) hA.below.size) _ _ _⟩
 ·exact ⟨rfl,.inr ⟨hno,rfl,bel_trans hb3 hb7⟩⟩
theorem dmul_ok (x y:NumR) (w:World) (hx:Row w x.ao x.n x.cap x.d) (hy:Row w y.ao y.n y.cap y.d) (ox:okR x=true) (oy:okR y=true) (hT:Tab w) :
  Calls Tryz.prog 99 #[x.v,y.v] w fun r w'=>∃ v er,r=.returned (.tuple #[v,.int .i64 er])∧DFit w w' (mulV x y) v er:=by
 have hmf:∀ (fn:Fn) (first cap:Array Value) (w:World),(Instr.makeFunc fn first cap).run Tryz.prog w=.ok (.func fn first cap) w:=fun _ _ _ _=>rfl
 have hE:∀ (cap:Array Value) (w:World),(callFunc 167 cap).run Tryz.prog w=.ok (.enter 167 cap) w:=by
  intro cap w
  simp [go_sem]
 have hA:=allOk2 x y
 rw [ox,oy] at hA
 have hN:=fun W q hb=>nums2 (w:=W) (g:=w.heap.size+3) (x:=x) (y:=y) (t:=40) q (hx.keeps hb) (hy.keeps hb)
 have hC:=fun W hb cg ch=>mul1_any x y w.heap.size (w.heap.size+1) W cg ch (hx.keeps hb) (hy.keeps hb) (okR_sane ox) (okR_sane oy) (hT.keeps hb)
 generalize pair2 x y=pr at hA hN
 generalize mulV x y=V at hC ⊢
 clear ox oy
 obtain ⟨an,ao,n,ca,a,e⟩:=x
 obtain ⟨bn,bo,m,cb,b,f⟩:=y
 unfold NumR.v
 simp only at hx hy hN hC ⊢
 go_enter Tryz.func99,Tryz.ntmps99
 go_wp2_with fail
 refine (dvalids_any _ _ _ _ _ (hN _ (h4_3 _ _ _ _ _) (bel_a4 _ _ _ _ _))).mono ?_
 rw [hA]
 rintro r w1 ⟨rfl,hb1⟩
 have hbw:=bel_trans (bel_a4 w _ _ _ _) hb1
 have g0:=(hb1.block w.heap.size (by rw [size4]; omega)).trans (h4_0 _ _ _ _ _)
 have g1:=(hb1.block (w.heap.size+1) (by rw [size4]; omega)).trans (h4_1 _ _ _ _ _)
 have g2:=(hb1.block (w.heap.size+2) (by rw [size4]; omega)).trans (h4_2 _ _ _ _ _)
 have hs4:w.heap.size+4<=w1.heap.size:=by have:=hb1.size; rw [size4] at this; exact this
 go_wp2_with fail
 refine (told_any (V:=V) (hE _) (fun W hW=>hC W (bel_trans hbw hW) ((hW.block _ (by omega)).trans g0) ((hW.block _ (by omega)).trans g1))).mono ?_
 rintro r w2 ⟨v,er,rfl,hF⟩
 obtain ⟨ng',so,sn,sc,e',rfl⟩:=hF.shape
 have q0:=(hF.1.block (w.heap.size+2) (by omega)).trans g2
 have x0:=blkC q0 0 rfl
 have x1:=blkC q0 1 rfl
 have x2:=blkC q0 2 rfl
 have z0:=blkF q0 0
 have z1:=blkF q0 1
 have z2:=blkF q0 2
 go_wp2
 refine bodyPost_ret (v:=.tuple #[.agg #[.bool ng',.slice so sn sc,.int .i64 e'],.int .i64 er]) (by simp [results,Tryz.results99,go_sem,x0,x1,x2]) rfl ⟨_,_,rfl,?_⟩
 exact dfit_res (g:=w.heap.size+2) hF hbw (by omega) (by omega) _ _ _
theorem dsignF_any (x:NumR) (w:World) (hx:Row w x.ao x.n x.cap x.d) :
  Calls Tryz.prog 70 #[x.v] w fun r w'=>r=.returned (.tuple #[.int .i64 (if okR x then sgn x.ng x.n else 0),.int .i64 (if okR x then 0 else 11)])∧Below w.heap.size w w':=by
 have hV:=fun W hb=>dvalid_any x.ng x.ao x.n x.cap x.d x.e W (hx.keeps hb)
 have hS:=fun W=>dsign_any x.ng x.ao x.n x.cap x.e W (by have:=hx.le; have:=hx.max; omega)
 have hk:okN x.ng x.d x.n x.e=okR x:=rfl
 rw [hk] at hV
 unfold NumR.v
 generalize okR x=ok at *
 obtain ⟨an,ao,n,ca,a,e⟩:=x
 simp only at *
 cases ok
 ·go_enter Tryz.func70,Tryz.ntmps70
  go_wp2_with fail
  refine (hV _ (bel_alloc _ _)).mono ?_
  rintro r w1 ⟨rfl,hb1⟩
  go_wp2
  go_ret2
  exact ⟨rfl,bel_trans (bel_alloc _ _) hb1⟩
 ·go_enter Tryz.func70,Tryz.ntmps70
  go_wp2_with fail
  refine (hV _ (bel_alloc _ _)).mono ?_
  rintro r w1 ⟨rfl,hb1⟩
  have g0:=(hb1.block w.heap.size (by rw [size1]; omega)).trans (heap_a1 _ _)
  have k0:=blkC g0 0 rfl
  have k1:=blkC g0 1 rfl
  have k2:=blkC g0 2 rfl
  go_wp2_with fail
  refine (hS _).mono ?_
  rintro r w2 ⟨rfl,hb2⟩
  go_wp2
  go_ret2
  exact ⟨rfl,bel_trans (bel_trans (bel_alloc _ _) hb1) hb2⟩
theorem sgn_V {x:NumR} (sx:Sane x):(sgn x.ng x.n=0∧x.V=0∧x.n=0)∨(sgn x.ng x.n=1∧0<x.V∧0<x.n∧x.ng=false)∨(sgn x.ng x.n=-1∧x.V<0∧0<x.n∧x.ng=true):=by
 by_cases h0:x.n=0
 ·left
  refine ⟨by simp [sgn,h0],?_,h0⟩
  show sg x.ng (val x.d x.n)*_=0
  rw [h0]
  show sg x.ng 0*_=0
  rw [sg_zero,Int.zero_mul]
 ·right
  have hp:=Int.mul_pos (val_pos sx.1 (show 0<x.n by omega)) (pw_pos x.e)
  have hV:x.V=sg x.ng (val x.d x.n)*pw x.e:=rfl
  cases hg:x.ng
  ·left
   rw [hg] at hV
   exact ⟨by simp [sgn,h0],by rw [hV]; exact hp,by omega,rfl⟩
  ·right
   rw [hg] at hV
   refine ⟨by simp [sgn,h0],?_,by omega,rfl⟩
   rw [hV]
   show -val x.d x.n*pw x.e<0
   rw [Int.neg_mul]; omega
theorem DNum.open {w:World} {v:Value} {V:Int} (h:DNum w v V) (ok:Dok V):∃ x:NumR,v=x.v∧Row w x.ao x.n x.cap x.d∧okR x=true∧x.V=V:=by
 obtain ⟨ng,s,m,e,rfl,hy,ao,n,cap,d,rfl,hR,hN,rfl⟩:=h
 refine ⟨⟨ng,ao,n,cap,d,e⟩,rfl,hR,?_,hy.val.symm⟩
 obtain ⟨o1,o2,o3⟩:=hy.ok.1 ok
 refine decide_eq_true ?_
 by_cases h0:n=0
 ·left
  have hz:val d n=0:=by rw [h0]; rfl
  rcases hy.form with ⟨_,f2,f3⟩ | ⟨f1,_⟩
  ·exact ⟨h0,f2,f3⟩
  ·omega
 ·right
  have hp:=val_pos hN (show 0<n by omega)
  rcases hy.form with ⟨f1,_⟩ | ⟨_,f2⟩
  ·omega
  ·refine ⟨by show 0<n; omega,⟨?_,hN⟩,?_,o2,o3⟩
   ·exact Num.len (w:=w) (ao:=ao) (cap:=cap) ⟨_,_,_,_,rfl,hR,hN,rfl⟩ o1
   ·obtain ⟨k,hk⟩:∃ k,n=1+k:=⟨n-1,by omega⟩
    have:=val_split d 1 k
    rw [<- hk] at this
    rw [this,show val d 1=d 0 by show 0+d 0*1=_; omega,show P 1=1073741824 from rfl] at f2
    show d 0 % 2=1
    omega
theorem DFit.yes {w w':World} {V er:Int} {v:Value} (h:DFit w w' V v er) (ok:Dok V):er=0∧DAns w w' V v:=by
 rcases h.2 with ⟨_,h1,h2⟩ | ⟨hn,_⟩
 ·exact ⟨h1,h2⟩
 ·exact absurd ok hn
theorem sub_D {w:World} {x y:Value} {A B:Int} (hx:DNum w x A) (hy:DNum w y B) (oA:Dok A) (oB:Dok B) (hT:Tab w) :
  Calls Tryz.prog 98 #[x,y] w fun r w'=>∃ v er,r=.returned (.tuple #[v,.int .i64 er])∧DFit w w' (A-B) v er:=by
 obtain ⟨x,rfl,hR,ok,rfl⟩:=hx.open oA
 obtain ⟨y,rfl,hR',ok',rfl⟩:=hy.open oB
 exact dsub_ok x y w hR hR' ok ok' hT
theorem mul_D {w:World} {x y:Value} {A B:Int} (hx:DNum w x A) (hy:DNum w y B) (oA:Dok A) (oB:Dok B) (hT:Tab w) :
  Calls Tryz.prog 99 #[x,y] w fun r w'=>∃ v er C,r=.returned (.tuple #[v,.int .i64 er])∧C*2^4194304=A*B∧DFit w w' C v er:=by
 obtain ⟨x,rfl,hR,ok,rfl⟩:=hx.open oA
 obtain ⟨y,rfl,hR',ok',rfl⟩:=hy.open oB
 refine (dmul_ok x y w hR hR' ok ok' hT).mono ?_
 rintro r w' ⟨v,er,rfl,hF⟩
 exact ⟨v,er,_,rfl,mulV_eq (by have:=(okR_sane ok).2.2.1; omega) (by have:=(okR_sane ok').2.2.1; omega),hF⟩
theorem sign_D {w:World} {x:Value} {A:Int} (hx:DNum w x A) (oA:Dok A) :
  Calls Tryz.prog 70 #[x] w fun r w'=>r=.returned (.tuple #[.int .i64 (ord A 0),.int .i64 0])∧Below w.heap.size w w':=by
 obtain ⟨x,rfl,hR,ok,rfl⟩:=hx.open oA
 have:=dsignF_any x w hR
 rw [ok] at this
 have e:sgn x.ng x.n=ord x.V 0:=by
  rcases sgn_V (okR_sane ok) with ⟨a,b,_⟩ | ⟨a,b,_⟩ | ⟨a,b,_⟩
  ·rw [a,b,ord_eq rfl]
  ·rw [a,ord_gt b]
  ·rw [a,ord_lt b]
 rw [<- e]
 exact this
def updV {α:Type} (v:Nat->α) (i:Nat) (x:α):Nat->α:=fun j=>if j=i then x else v j
theorem updV_same {α:Type} (v:Nat->α) (i:Nat) (x:α):updV v i x i=x:=by simp [updV]
theorem updV_other {α:Type} (v:Nat->α) {i j:Nat} (x:α) (h:j≠i):updV v i x j=v j:=by simp [updV,h]
def valsV (v:Nat->Value) (m:Nat):List Value:=(List.range m).map v
def OutV (B:Nat) (w:World) (x:Value) (m:Nat) (v:Nat->Value):Prop:=w.ownsRow B 38 1 x m (valsV v m)
theorem OutV.shape {B:Nat} {w:World} {x:Value} {m:Nat} {v:Nat->Value} (h:OutV B w x m v):∃ xo xc,x=.slice xo m xc∧m<=xc∧xc<=9223372036854775807∧(0<m->∃ g,xo=some ⟨g,0,none⟩):=by
 rcases h.2 with ⟨rfl,rfl⟩ | ⟨g,cap,cur,rfl,hb,hg,hn,hm,_⟩
 ·exact ⟨none,0,rfl,Nat.le_refl _,by decide,fun h=>by omega⟩
 ·exact ⟨_,cap,rfl,hn,by unfold maxLen at hm; exact hm,fun _=>⟨g,rfl⟩⟩
theorem OutV.of_block {B:Nat} {w w':World} {x:Value} {m:Nat} {v:Nat->Value} (h:OutV B w x m v) (hb:∀ g,x.ownBlock=some g->w'.heap[g]?=w.heap[g]?):OutV B w' x m v:=by
 refine ⟨h.1,?_⟩
 rcases h.2 with hn | ⟨g,cap,cur,rfl,hbb,hg,rest⟩
 ·exact .inl hn
 ·exact .inr ⟨g,cap,cur,rfl,hbb,(hb g rfl).trans hg,rest⟩
theorem Out.of_block {B:Nat} {w w':World} {x:Value} {n:Nat} {d:Nat->Int} (h:Out B w x n d) (hb:∀ g,x.ownBlock=some g->w'.heap[g]?=w.heap[g]?):Out B w' x n d:=by
 refine ⟨h.1,?_⟩
 rcases h.2 with hn | ⟨g,cap,cur,rfl,hbb,hg,rest⟩
 ·exact .inl hn
 ·exact .inr ⟨g,cap,cur,rfl,hbb,(hb g rfl).trans hg,rest⟩
theorem Out.typed {B:Nat} {w:World} {x:Value} {n:Nat} {d:Nat->Int} (h:Out B w x n d) {g:Nat} (hg:x.ownBlock=some g):∃ cur z,w.heap[g]?=some (.cells cur 3 z):=by
 rcases h.2 with ⟨rfl,_⟩ | ⟨g',cap,cur,rfl,hbb,hg',rest⟩
 ·simp [Value.ownBlock] at hg
 ·simp only [Value.ownBlock,Option.some.injEq] at hg; subst hg; exact ⟨cur,_,hg'⟩
theorem OutV.typed {B:Nat} {w:World} {x:Value} {n:Nat} {v:Nat->Value} (h:OutV B w x n v) {g:Nat} (hg:x.ownBlock=some g):∃ cur z,w.heap[g]?=some (.cells cur 38 z):=by
 rcases h.2 with ⟨rfl,_⟩ | ⟨g',cap,cur,rfl,hbb,hg',rest⟩
 ·simp [Value.ownBlock] at hg
 ·simp only [Value.ownBlock,Option.some.injEq] at hg; subst hg; exact ⟨cur,_,hg'⟩
theorem OutV.ge {B:Nat} {w:World} {x:Value} {n:Nat} {v:Nat->Value} (h:OutV B w x n v) {g:Nat} (hg:x.ownBlock=some g):B<=g∧g<w.heap.size:=by
 rcases h.2 with ⟨rfl,_⟩ | ⟨g',cap,cur,rfl,hbb,hg',rest⟩
 ·simp [Value.ownBlock] at hg
 ·simp only [Value.ownBlock,Option.some.injEq] at hg; subst hg; exact ⟨hbb,(Array.getElem?_eq_some_iff.1 hg').1⟩
theorem Out.ge {B:Nat} {w:World} {x:Value} {n:Nat} {v:Nat->Int} (h:Out B w x n v) {g:Nat} (hg:x.ownBlock=some g):B<=g∧g<w.heap.size:=by
 rcases h.2 with ⟨rfl,_⟩ | ⟨g',cap,cur,rfl,hbb,hg',rest⟩
 ·simp [Value.ownBlock] at hg
 ·simp only [Value.ownBlock,Option.some.injEq] at hg; subst hg; exact ⟨hbb,(Array.getElem?_eq_some_iff.1 hg').1⟩
theorem OutV.alloc {B:Nat} {w:World} {x:Value} {m:Nat} {v:Nat->Value} (h:OutV B w x m v) (o:Obj):OutV B (w.alloc o) x m v:=h.of_block fun g hg=>Below.heap_alloc _ _ _ (h.ge hg).2
theorem run_app {w:World} (ty:TypeId) (B:Nat) (v:Value) (n:Nat) (d:Nat->Int) (hO:Out B w v n d) (bo:Option Addr) (m cb:Nat) (e:Nat->Int) (hR:Row w bo m cb e) (hlen:n+m<=1000000) (hB:B<=w.heap.size) :
    ∃ v' w',(Builtin.append_ #[38,38] ty #[v,.slice bo m cb]).run Tryz.prog w=.ok v' w'∧Out B w' v' (n+m) (cat d n e)∧w.grownBy w' v.ownBlock∧(v'.ownBlock=v.ownBlock∨v'.ownBlock=some w.heap.size):=by
  obtain ⟨i0,hi,hz0,hz1,hz2⟩:=info_parts info_int
  cases bo with
  | none=>
    have hc:=hR.nl rfl
    have hl:=hR.le
    subst hc
    obtain rfl:m=0:=by omega
    have hr:=run_append_owned_none (P:=Tryz.prog) w B 38 ty 3 i0 1 Tryz.underlying38 hi v n (vals d n) hO
    exact ⟨v,w,hr,hO.congr fun i hi=>by simp [cat]; omega,⟨rfl,rfl,rfl,Nat.le_refl _,fun _ _ _=>rfl⟩,.inl rfl⟩
  | some ad=>
    obtain ⟨v',w',hr,h2,h3,_,h5⟩:=run_append_own_at (P:=Tryz.prog) w B 38 ty 3 i0 (.int .i64 0) 1 8 Tryz.underlying38 hi hz0 hz1 hz2 rfl (by decide) v n (vals d n) hO ad m cb (vals e m) (by rw [vals_length]; omega)
      (fun j u hu=>by
        have hj:j<m:=by have:=(List.getElem?_eq_some_iff.1 hu).1; rwa [vals_length] at this
        obtain ⟨b,off,hb,_,hc⟩:=hR.spot (by omega)
        obtain rfl:=Option.some.inj hb
        rw [vals_get e hj] at hu
        rw [add_none,hc j hj]; exact hu) (vals_one e m) (by unfold maxLen; omega) (by omega) hB
    rw [vals_cat] at h2
    exact ⟨v',w',hr,h2,h3,h5⟩
def An (B:Nat) (w:World) (v:Value) (V:Int):Prop:=∃ t d,Out B w v t d∧Nrm d t∧val d t=V
theorem An.keeps {B:Nat} {w w':World} {v:Value} {V:Int} (h:An B w v V) (k:Below w.heap.size w w'):An B w' v V:=by
 obtain ⟨t,d,h1,h2⟩:=h
 exact ⟨t,d,h1.stays k,h2⟩
theorem An.lower {B B':Nat} {w:World} {v:Value} {V:Int} (h:An B w v V) (hB:B'<=B):An B' w v V:=by
 obtain ⟨t,d,h1,h2⟩:=h
 exact ⟨t,d,h1.lower hB,h2⟩
theorem An.nil (B:Nat) (w:World):An B w (.slice none 0 0) 0:=⟨0,fun _=>0,Out.nil _ _ _,⟨fun i hi=>by omega,.inl rfl⟩,rfl⟩
theorem Ans.an {w w':World} {V:Int} {v:Value} (h:Ans w w' V v):An w.heap.size w' v V:=by
 obtain ⟨t,d,h1,h2,h3,h4⟩:=h
 exact ⟨t,d,h1,h2,h3⟩
theorem An.shape {B:Nat} {w:World} {v:Value} {V:Int} (h:An B w v V):∃ ao n cap,v=.slice ao n cap:=by
 obtain ⟨t,d,h1,h2⟩:=h
 obtain ⟨ao,cap,e,_⟩:=h1.row
 exact ⟨ao,t,cap,e⟩
theorem An.num {B:Nat} {w:World} {v:Value} {V:Int} (h:An B w v V):Num w v V:=by
 obtain ⟨t,d,h1,h2,h3⟩:=h
 obtain ⟨ao,cap,rfl,hR⟩:=h1.row
 exact ⟨ao,t,cap,d,rfl,hR,h2,h3⟩
theorem An.ge {B:Nat} {w:World} {v:Value} {V:Int} (h:An B w v V) {g:Nat} (hg:v.ownBlock=some g):B<=g∧g<w.heap.size:=by
 obtain ⟨t,d,h1,h2,h3⟩:=h
 exact h1.ge hg
def S2 (S:Nat->Prop) (l:Value) (s:Nat):Nat->Prop:=fun g=>S g∨l.ownBlock=some g∨s<=g
def FitA (B:Nat) (w:World) (V:Int) (v:Value) (er:Int):Prop:=(V<P 2000∧er=0∧An B w v V)∨(P 2000<=V∧er=2∧v=.slice none 0 0)
theorem FitA.keeps {B:Nat} {w w':World} {v:Value} {V er:Int} (h:FitA B w V v er) (k:Below w.heap.size w w'):FitA B w' V v er:=by
 rcases h with ⟨h1,h2,h3⟩ | h
 ·exact .inl ⟨h1,h2,h3.keeps k⟩
 ·exact .inr h
theorem FitA.lower {B B':Nat} {w:World} {v:Value} {V er:Int} (h:FitA B w V v er) (hB:B'<=B):FitA B' w V v er:=by
 rcases h with ⟨h1,h2,h3⟩ | h
 ·exact .inl ⟨h1,h2,h3.lower hB⟩
 ·exact .inr h
theorem FitA.ge {B:Nat} {w:World} {v:Value} {V er:Int} (h:FitA B w V v er) {g:Nat} (hg:v.ownBlock=some g):B<=g∧g<w.heap.size:=by
 rcases h with ⟨h1,h2,h3⟩ | ⟨_,_,rfl⟩
 ·exact h3.ge hg
 ·simp [Value.ownBlock] at hg
theorem FitA.shape {B:Nat} {w:World} {v:Value} {V er:Int} (h:FitA B w V v er):∃ ao n cap,v=.slice ao n cap:=by
 rcases h with ⟨h1,h2,h3⟩ | ⟨_,_,rfl⟩
 ·exact h3.shape
 ·exact ⟨_,_,_,rfl⟩
def lentD (a:Nat->Int) (n:Nat):Nat->Int:=cat a n (fun i=>-71-(i:Int))
def LentA (w w':World) (v:Value) (n:Nat) (a:Nat->Int):Prop:=∃ g cap,v=.slice (some ⟨g,0,none⟩) (n+3) cap∧Out w.heap.size w' v (n+3) (lentD a n)∧Below w.heap.size w w'
theorem LentA.below {w w':World} {v:Value} {n:Nat} {a:Nat->Int} (h:LentA w w' v n a):Below w.heap.size w w':=by
 obtain ⟨g,cap,_,_,hb⟩:=h
 exact hb
theorem LentA.parts {w w':World} {v:Value} {n:Nat} {a:Nat->Int} (h:LentA w w' v n a):∃ g cap,v=.slice (some ⟨g,0,none⟩) (n+3) cap∧Out w.heap.size w' (.slice (some ⟨g,0,none⟩) (n+3) cap) (n+3) (lentD a n):=by
 obtain ⟨g,cap,rfl,h,_⟩:=h
 exact ⟨g,cap,rfl,h⟩
def Bd (B:Nat) (V:Int):Prop:=∃ m:Int,V=m*pw (-(B:Int))∧-(2^(2*B))<m∧m<2^(2*B)
theorem Bd.ok {B:Nat} {V:Int} (h:Bd B V) (hB:B<=29000):Dok V:=by
 obtain ⟨m,rfl,h1,h2⟩:=h
 by_cases h0:m=0
 ·rw [h0,Int.zero_mul]; exact dok_zero
 ·have key:∀ (ng:Bool) (M:Int),0<M->M<2^(2*B)->Dok (sg ng M*pw (-(B:Int))):=fun ng M hM hlt=>by
   obtain ⟨l,hl⟩:=isLow_ex hM
   have hy:=Dy.of ng hl hM (show -4194304 <= -(B:Int) by omega)
   obtain ⟨c1,c2,c3⟩:=isLow_odd hl hM
   have hl2:l<2*B:=by
    have h3:(1:Int)*2^l<=M/2^l*2^l:=Int.mul_le_mul_of_nonneg_right (by omega) (Int.le_of_lt (two_pos l))
    rw [c3] at h3
    exact two_lt_iff (by omega)
   refine hy.ok.2 ⟨?_,by omega,by omega⟩
   have h4:M/2^l<=M:=Int.ediv_le_self _ (by omega)
   have h5:(2:Int)^(2*B)<=2^(30*2000):=two_le (by omega)
   rw [P_two]
   omega
  by_cases hp:0<m
  ·exact key false m hp h2
  ·have:=key true (-m) (by omega) (by omega)
   rwa [show sg true (-m)=m by simp [sg]] at this
theorem Bd.up {B C:Nat} {V:Int} (h:Bd B V) (hBC:B<=C) (hC:C<=4194304):Bd C V:=by
 obtain ⟨m,rfl,h1,h2⟩:=h
 have hp:=two_pos (C-B)
 have e:pw (-(B:Int))=pw (-(C:Int))*2^(C-B):=by
  rw [<- pw_add (by omega)]; congr 1; omega
 have hle:(2:Int)^(2*B)*2^(C-B)<=2^(2*C):=by rw [<- Int.pow_add]; exact two_le (by omega)
 refine ⟨m*2^(C-B),by rw [e]; grind,?_,?_⟩
 ·have:-(2^(2*B))*2^(C-B)<m*2^(C-B):=Int.mul_lt_mul_of_pos_right h1 hp
  rw [Int.neg_mul] at this
  omega
 ·have:=Int.mul_lt_mul_of_pos_right h2 hp
  omega
theorem Bd.add {B:Nat} {V W:Int} (h:Bd B V) (k:Bd B W) (hB:B<4194304):Bd (B+1) (V+W):=by
 obtain ⟨m,rfl,h1,h2⟩:=h
 obtain ⟨n,rfl,k1,k2⟩:=k
 have e:pw (-(B:Int))=pw (-((B+1:Nat):Int))*2:=by
  have:=pw_add (e:=-((B+1:Nat):Int)) (by omega) 1
  rw [Int.pow_succ,Int.pow_zero,Int.one_mul] at this
  rw [<- this]; congr 1; omega
 have e2:(2:Int)^(2*(B+1))=2^(2*B)*4:=by rw [show 2*(B+1)=2*B+2 by omega,Int.pow_add]; rfl
 refine ⟨2*(m+n),by rw [e]; grind,?_,?_⟩ <;> rw [e2] <;> omega
theorem Bd.neg {B:Nat} {V:Int} (h:Bd B V):Bd B (-V):=by
 obtain ⟨m,rfl,h1,h2⟩:=h
 exact ⟨-m,by rw [Int.neg_mul],by omega,by omega⟩
theorem Bd.mul {B:Nat} {V W U:Int} (h:Bd B V) (k:Bd B W) (hU:U*2^4194304=V*W) (hB:B<=1000000):Bd (2*B) U:=by
 obtain ⟨m,rfl,h1,h2⟩:=h
 obtain ⟨n,rfl,k1,k2⟩:=k
 have e:U=m*n*pw (-((2*B:Nat):Int)):=by
  refine scale_inj ?_
  rw [hU,Int.mul_assoc (m*n),show -((2*B:Nat):Int)=-(B:Int) + -(B:Int) by omega,<- pw_mul (by omega) (by omega)]; grind
 refine ⟨m*n,e,?_,?_⟩
 all_goals
  have hab:(m*n).natAbs<((2:Int)^(2*(2*B))).natAbs:=by
   rw [Int.natAbs_mul,show 2*(2*B)=2*B+2*B by omega,Int.pow_add,Int.natAbs_mul]
   exact Nat.mul_lt_mul'' (by have:=two_pos (2*B); omega) (by have:=two_pos (2*B); omega)
  have:=two_pos (2*(2*B))
  omega
theorem bd_num {ng:Bool} {M e:Int} (h0:0<=M) (h1:M<P 30) (e0:-3000<e) (e1:e<3000):Bd 4000 (sg ng M*pw e):=by
 have hs:pw e=pw (-((4000:Nat):Int))*2^(e+4000).toNat:=by
  rw [<- pw_add (by omega)]; congr 1; omega
 have hp:=two_pos (e+4000).toNat
 have hlt:M*2^(e+4000).toNat<2^(2*4000):=by
  have a:M*2^(e+4000).toNat<P 30*2^(e+4000).toNat:=Int.mul_lt_mul_of_pos_right h1 hp
  rw [P_two,<- Int.pow_add] at a
  have b:(2:Int)^(30*30+(e+4000).toNat)<=2^(2*4000):=two_le (by omega)
  omega
 have hn:0<=M*2^(e+4000).toNat:=Int.mul_nonneg h0 (Int.le_of_lt hp)
 refine ⟨sg ng (M*2^(e+4000).toNat),by rw [hs,sg_sgn,sg_sgn]; grind,?_,?_⟩
 all_goals
  generalize M*2^(e+4000).toNat=X at *
  generalize (2:Int)^(2*4000)=T at *
  cases ng <;> simp only [sg] <;> simp <;> omega
end Go.Proofs.YtjjihmnbdeeedaaGreatDoor
namespace Go.Proofs.YtjjihmnbdeeedaaGreatDoor
open Go Go.ChangeShapes Go.WideShapes Go.ChangeAt Go.RowKit Go.Proofs.YtjjihmnbdeeedaaGreatDoor.M
theorem rng_of {x:Int} (h:(Lit.int .i64 x).wf=true):rng x:=by
 simp [Lit.wf,IntKind.min,IntKind.max,IntKind.signed,IntKind.bits] at h
 unfold rng; omega
end Go.Proofs.YtjjihmnbdeeedaaGreatDoor
namespace Go.Proofs.YtjjihmnbdeeedaaGreatDoor
open Go Go.RowKit Go.ChangeShapes Go.Proofs.YtjjihmnbdeeedaaGreatDoor.M
theorem gTab : Tryz.prog.globalNamed "math/bits.deBruijn64tab" = some 3 := by kernel_rfl
theorem gTabType:(Tryz.prog.globals[(3:Nat)]?).map (·.type)=some 292:=by kernel_rfl
theorem cellsTab:Tryz.prog.cellsOf 292=64:=by kernel_rfl
theorem cellsByte:Tryz.prog.cellsOf 5=1:=by kernel_rfl
def tabInts:List Int:=Lib.deBruijn64tab.map Int.ofNat
theorem tab_get:∀ j,j<64->tabInts.getD j 0=((Lib.deBruijn64tab.getD j 0:Nat):Int):=by decide +kernel
theorem cellsInt:Tryz.prog.cellsOf 3=1:=by kernel_rfl
theorem cellsLayout:Tryz.prog.cellsOf 255=3:=by kernel_rfl
theorem g64 : Tryz.prog.globalNamed "plumb/bits.binary64" = some 1 := by kernel_rfl
theorem g64Type:(Tryz.prog.globals[(1:Nat)]?).map (·.type)=some 255:=by kernel_rfl
theorem three {W:World} {name:String} {g:Nat} {a b c:Int} {rest:List (String × DataW Unit)} (hg:Tryz.prog.globalNamed name=some g) (hty:(Tryz.prog.globals[g]?).map (·.type)=some 255)
  (h:laidMet Tryz.prog ((name,.agg [.lit (.int .i64 a),.lit (.int .i64 b),.lit (.int .i64 c)]) :: rest) W) :
  W.cell? ⟨g,0,none⟩=some (.int .i64 a)∧W.cell? ⟨g,1,none⟩=some (.int .i64 b)∧W.cell? ⟨g,2,none⟩=some (.int .i64 c):=by
 obtain ⟨ps,⟨g',t',cs,fuel,p,q,hg',ht',hvar,hd,_,_⟩,_⟩:=h
 obtain rfl:=Option.some.inj (hg.symm.trans hg')
 obtain rfl:=Option.some.inj (hty.symm.trans ht')
 obtain ⟨y0,y1,y2,n,hx,hl,h0,h1,h2⟩:=Go.Deep.trod_struct3 Tryz.underlying255 hd
 obtain ⟨k0,e0,f0,_⟩:=DataW.trod_int Tryz.underlying3 h0
 obtain ⟨k1,e1,f1,_⟩:=DataW.trod_int Tryz.underlying3 h1
 obtain ⟨k2,e2,f2,_⟩:=DataW.trod_int Tryz.underlying3 h2
 rw [f0,f1,f2] at hx
 simp only [Prod.mk.injEq,DataW.agg.injEq,List.cons.injEq,DataW.lit.injEq,Lit.int.injEq,true_and,and_true] at hx
 obtain ⟨⟨rfl,rfl,rfl⟩,_⟩:=hx
 rw [cellsLayout] at hl
 rw [cellsInt] at e0 e1 e2
 have v:=fun i=>World.var?_cell hg hvar i
 obtain ⟨l⟩:=cs
 simp only at hl e0 e1 e2
 match l,hl with
 | [c0,c1,c2],_=>
  simp at e0 e1 e2
  subst e0 e1 e2
  exact ⟨by simpa using v 0,by simpa using v 1,by simpa using v 2⟩
end Go.Proofs.YtjjihmnbdeeedaaGreatDoor
namespace Go.Proofs.YtjjihmnbdeeedaaGreatDoor
open Go Go.ChangeShapes Go.WideShapes Go.ChangeAt Go.RowKit Go.Proofs.YtjjihmnbdeeedaaGreatDoor.M
structure Hold (w:World):Prop where
 lay:Lay64 w
 tab:Tab w
theorem Hold.keeps {w w':World} (h:Hold w) (hb:Below w.heap.size w w'):Hold w':=⟨h.lay.keeps hb,h.tab.keeps hb⟩
theorem hold_of {W : World} (h : laidMetH Tryz.prog [("math/bits.deBruijn32tab", Rows.laid_math_bits_deBruijn32tab), ("math/bits.deBruijn64tab", Rows.laid_math_bits_deBruijn64tab), ("plumb/bits.binary64", Rows.laid_plumb_bits_binary64)] W) : Hold W := by
 rw [MakeChecks.laidMetH_plain _ _ _ (by kernel_rfl)] at h
 have h' : laidMet Tryz.prog (("math/bits.deBruijn64tab", Lib.tabData .u8 tabInts) :: [("plumb/bits.binary64", Rows.laid_plumb_bits_binary64)]) W := h.tail
 have t:=Lib.tabIs_of_head gTab gTabType Tryz.underlying292 Tryz.underlying5 cellsByte cellsTab h'
 obtain ⟨a0,a1,a2⟩:=three g64 g64Type h'.tail
 refine ⟨⟨a0,a1,a2⟩,fun j hj=>?_⟩
 rw [<- tab_get j hj]
 exact t.cell gTab j (by exact hj)
end Go.Proofs.YtjjihmnbdeeedaaGreatDoor
namespace Go.Proofs.YtjjihmnbdeeedaaGreatDoor
open Go Go.RowKit Go.Proofs.YtjjihmnbdeeedaaGreatDoor.M
theorem dans_shape {w w':World} {V:Int} {v:Value} (h:DAns w w' V v):∃ ng so sn sc e,v=.agg #[.bool ng,.slice so sn sc,.int .i64 e]:=by
 obtain ⟨ng,s,m,e,h1,_,hA⟩:=h
 obtain ⟨so,sn,sc,rfl⟩:=hA.num.shape
 exact ⟨_,_,_,_,_,h1⟩
theorem sub_B {w:World} {x y:Value} {A B:Int} {k:Nat} (hx:DNum w x A) (hy:DNum w y B) (bA:Bd k A) (bB:Bd k B) (hk:k<=28000) (hT:Tab w) :
  Calls Tryz.prog 98 #[x,y] w fun r w'=>∃ v,r=.returned (.tuple #[v,.int .i64 0])∧DAns w w' (A-B) v:=by
 refine (sub_D hx hy (bA.ok (by omega)) (bB.ok (by omega)) hT).mono ?_
 rintro r w' ⟨v,er,rfl,hF⟩
 have hb:=bA.add bB.neg (by omega)
 rw [<- Int.sub_eq_add_neg] at hb
 obtain ⟨rfl,hD⟩:=hF.yes (hb.ok (by omega))
 exact ⟨v,rfl,hD⟩
theorem mul_B {w:World} {x y:Value} {A B:Int} {k:Nat} (hx:DNum w x A) (hy:DNum w y B) (bA:Bd k A) (bB:Bd k B) (hk:k<=14000) (hT:Tab w) :
  Calls Tryz.prog 99 #[x,y] w fun r w'=>∃ v C,r=.returned (.tuple #[v,.int .i64 0])∧DAns w w' C v∧C*2^4194304=A*B∧Bd (2*k) C:=by
 refine (mul_D hx hy (bA.ok (by omega)) (bB.ok (by omega)) hT).mono ?_
 rintro r w' ⟨v,er,C,rfl,hC,hF⟩
 have hb:=bA.mul bB hC (by omega)
 obtain ⟨rfl,hD⟩:=hF.yes (hb.ok (by omega))
 exact ⟨v,C,rfl,hD,hC,hb⟩
def patV (b:Int):Int:=sg (pneg b) (pmag b)*pw (pexp b)
def ordP (A b:Int):Int:=if pok b=true then ord A (patV b) else if b<0 then 1 else -1
theorem patV_dok {b:Int} (h:pok b=true):Dok (patV b):=by
 obtain ⟨i0,i1,i2,i3⟩:=pmag_in h
 exact dok_small i0 (by omega) i2 i3
end Go.Proofs.YtjjihmnbdeeedaaGreatDoor
namespace Go.Proofs.YtjjihmnbdeeedaaGreatDoor
open Go Go.Proofs.YtjjihmnbdeeedaaGreatDoor.M
def vS (r:Nat):Int:=(V Ieee.double r:Int)*pw (-1074)
theorem vS_lt {r s:Nat} (h:r<s):vS r<vS s:=Int.mul_lt_mul_of_pos_right (by have:=V_lt Ieee.double h; omega) (pw_pos _)
structure Rung (A:Int) (r0:Nat) (left:Int):Prop where
 lo:vS r0<=A
 hi:A<vS (r0+1)
 l0:left=0 ↔ A=vS r0
 l1:left=1 ↔ vS r0<A∧2*A<vS r0+vS (r0+1)
 l2:left=2 ↔ 2*A=vS r0+vS (r0+1)
 l3:left=3 ↔ vS r0+vS (r0+1)<2*A
def rTo (way:Int) (ng:Bool) (r0:Nat) (left:Int):Int:=if (r0:Int)<9218868437227405312 then (r0:Int)+(if rUp way ng (decide (r0 % 2=1)) left then 1 else 0) else bRung way ng
theorem rUp_left {way:Int} {ng odd:Bool} (h:rUp way ng odd 0=true):False:=by
 unfold rUp at h
 split at h
 ·simp at h
 ·split at h
  ·simp at h
  ·split at h <;> simp at h
theorem rUp_more {way:Int} {ng odd:Bool} {left:Int} (h:rUp way ng odd left=true):rUp way ng true 3=true:=by
 unfold rUp at *
 split at h
 ·rename_i h1; rw [if_pos h1]; rfl
 ·rename_i h1
  rw [if_neg h1]
  split at h
  ·rename_i h2; rw [if_pos h2]; simp at h; simp [h.2]
  ·rename_i h2
   rw [if_neg h2]
   split at h
   ·rename_i h3; rw [if_pos h3]; simp at h; simp [h.2]
   ·cases h
theorem left_rung {A:Int} {u a r0:Nat} {left:Int} (h:M.Left A u (2^a*pw (-1074)) left) (h1:V Ieee.double r0=u*2^a) (h2:V Ieee.double (r0+1)=(u+1)*2^a):Rung A r0 left:=by
 obtain ⟨lo,hi,l0,l1,l2,l3⟩:=h
 have e1:vS r0=(u:Int)*(2^a*pw (-1074)):=by
  unfold vS
  rw [h1]
  push_cast
  rw [Int.mul_assoc]
 have e2:vS (r0+1)=(u:Int)*(2^a*pw (-1074))+2^a*pw (-1074):=by
  unfold vS
  rw [h2]
  push_cast
  rw [Int.add_mul,Int.add_mul,Int.one_mul,Int.mul_assoc]
 generalize (2:Int)^a*pw (-1074)=q at *
 generalize (u:Int)*q=U at *
 exact ⟨by omega,by omega,by rw [e1]; exact l0,by rw [e1,e2,l1]; constructor <;> intro h <;> omega,by rw [e1,e2,l2]; constructor <;> intro h <;> omega,by rw [e1,e2,l3]; constructor <;> intro h <;> omega⟩
theorem r64_spec {way:Int} {ng sd:Bool} {A:Int} {mag:Nat} {exp:Int} {cut:Bool} (hA:Held A mag exp cut) (hm:mag<2^64) (h0:mag≠0) (he:-4194304<=exp) (hc:cut=true->2^60<=mag) :
    ∃ (r0:Nat) (left:Int),Rung A r0 left∧r64 way ng sd mag exp cut=(patS (ng && (decide (0<rTo way ng r0 left) || sd)) (rTo way ng r0 left),decide (left≠0) || decide (9218868437227405312<=(r0:Int))):=by
  have e64:(2:Nat)^64=18446744073709551616:=by decide
  obtain ⟨b1,b2,b3,b4⟩:=M.bitLen_spec mag hm h0
  have hbits:=rU_bits (size:=53) (low:=-1074) (exp:=exp) (by decide) hm h0
  have hE1:-1074<=rE 53 (-1074) mag exp:=by unfold rE; omega
  have hcs:cut=true->0<rE 53 (-1074) mag exp-exp:=fun h=>by
    have h1:=hc h
    have h2:60<Lib.bitLen mag:=by
      have:=(Nat.pow_lt_pow_iff_right (by decide:1<2)).1 (Nat.lt_of_le_of_lt h1 b2)
      exact this
    unfold rE
    omega
  have hL:=left_of hA hcs (by omega) he
  obtain ⟨E,hE⟩:∃ E,rE 53 (-1074) mag exp=E:=⟨_,rfl⟩
  have HR:r64 way ng sd mag exp cut=(let E:=rE 53 (-1074) mag exp
    let u:=rU mag (E-exp)
    let left:=rL mag cut (E-exp)
    let U:=u+(if rUp way ng (decide (u % 2=1)) left then 1 else 0)
    let neg:=ng && (decide (0<U) || sd)
    if jk 52 2047 (-1074) U E then (jp neg U E,decide (left≠0)) else (patS neg (bRung way neg),true)):=rfl
  simp only at HR
  rw [hE] at hbits hE1 hL HR
  obtain ⟨u,hu⟩:∃ u,rU mag (E-exp)=u:=⟨_,rfl⟩
  obtain ⟨left,hl⟩:∃ l,rL mag cut (E-exp)=l:=⟨_,rfl⟩
  rw [hu] at hbits hL HR
  rw [hl] at hL HR
  obtain ⟨a,ha⟩:∃ a,(E - -1074).toNat=a:=⟨_,rfl⟩
  have e53:(2:Nat)^(53:Int).toNat=9007199254740992:=by decide
  have e52:(2:Nat)^((53:Int).toNat-1)=4503599627370496:=by decide
  rw [e53,e52] at hbits
  have eB:Ieee.double.binade=4503599627370496:=by decide
  have hV:=V_rung Ieee.double a u (by rw [eB]; omega) (fun h=>by rw [eB]; exact hbits.2 (by omega))
  rw [eB] at hV
  have hpw:pw E=2^a*pw (-1074):=by rw [pw_sub (e:=E) (low:=-1074) (by decide) hE1,ha]
  rw [hpw] at hL
  refine ⟨a*4503599627370496+u,left,left_rung hL hV.1 hV.2,?_⟩
  rw [HR]
  have hodd:decide ((a*4503599627370496+u) % 2=1)=decide (u % 2=1):=by congr 1; apply propext; omega
  unfold rTo
  rw [hodd]
  obtain ⟨R,hR⟩:∃ R,rUp way ng (decide (u % 2=1)) left=R:=⟨_,rfl⟩
  rw [hR]
  obtain ⟨U,hU⟩:∃ U,u+(if R=true then 1 else 0)=U:=⟨_,rfl⟩
  rw [hU]
  have hR1:R=true->left≠0:=fun h hz=>by rw [hz,h] at hR; exact rUp_left hR
  have hR2:R=true->rUp way ng true 3=true:=fun h=>rUp_more (hR.trans h)
  have hUle:U<=9007199254740992:=by rw [<- hU]; split <;> omega
  have hcast:((a*4503599627370496+u:Nat):Int)+(if R=true then 1 else 0)=((a*4503599627370496+U:Nat):Int):=by
    rw [<- hU]
    cases R <;> simp only [if_true,if_false,Bool.false_eq_true] <;> omega
  rw [hcast]
  by_cases hU0:U=0
  · have hu0:u=0:=by rw [<- hU] at hU0; omega
    have ha0:a=0:=by
      rcases Nat.eq_zero_or_pos a with h | h
      · exact h
      · have:=hbits.2 (by omega); omega
    subst hU0 hu0 ha0
    have hj:jk 52 2047 (-1074) ((0:Nat):Int) E=true:=rfl
    rw [hj]
    rw [if_pos rfl,if_pos (by decide)]
    have hd:decide (9218868437227405312<=((0*4503599627370496+0:Nat):Int))=false:=by decide
    rw [hd,Bool.or_false]
    cases ng <;> cases sd <;> rfl
  · have hjr:=join_rung Ieee.double 52 (by decide) dB 2047 (-1074) (by decide) U E (by omega) (by rw [show (2:Nat)^(52+1)=9007199254740992 by decide]; exact hUle) hE1 (fun h=>by rw [show (2:Nat)^52=4503599627370496 by decide]; have:=hbits.2 h; rw [<- hU]; omega)
    simp only at hjr
    rw [ha,show (2:Nat)^52=4503599627370496 by decide,show (2047:Int)*2^52=9218868437227405312 by decide] at hjr
    obtain ⟨j1,j2⟩:=hjr
    have hpos:decide (0<U)=true:=decide_eq_true (by omega)
    rw [show jk ((52:Nat):Int) 2047 (-1074) (U:Int) E=jk 52 2047 (-1074) (U:Int) E from rfl] at j1
    rw [j1,hpos,Bool.true_or,Bool.and_true]
    by_cases hf:((a*4503599627370496+U:Nat):Int)<9218868437227405312
    · have huU:u<=U:=by rw [<- hU]; omega
      have hf0:((a*4503599627370496+u:Nat):Int)<9218868437227405312:=by omega
      rw [decide_eq_true hf,if_pos rfl,if_pos hf0,decide_eq_false (p:=9218868437227405312<=((a*4503599627370496+u:Nat):Int)) (by omega),Bool.or_false]
      have hd:decide (0<((a*4503599627370496+U:Nat):Int))=true:=decide_eq_true (by omega)
      rw [hd,Bool.true_or,Bool.and_true]
      congr 1
      have hjk:jk 52 2047 (-1074) (U:Int) E=true:=by rw [j1]; exact decide_eq_true hf
      have hjv:=j2 hf
      rw [show jv ((52:Nat):Int) 2047 (-1074) (U:Int) E=jv 52 2047 (-1074) (U:Int) E from rfl] at hjv
      unfold jp patS
      rw [hjk,hjv,Bool.true_and]
    · rw [decide_eq_false hf,if_neg (by simp)]
      by_cases hf0:((a*4503599627370496+u:Nat):Int)<9218868437227405312
      · have hRt:R=true:=by
          cases R
          · exfalso; simp at hU; omega
          · rfl
        have hUe:((a*4503599627370496+U:Nat):Int)=9218868437227405312:=by rw [hRt] at hU; simp at hU; omega
        rw [if_pos hf0,hUe,decide_eq_true (hR1 hRt),Bool.true_or]
        congr 1
        have:bRung way ng=9218868437227405312:=by unfold bRung; rw [hR2 hRt,if_pos rfl]
        rw [this]
        simp
      · rw [if_neg hf0,decide_eq_true (p:=9218868437227405312<=((a*4503599627370496+u:Nat):Int)) (by omega),Bool.or_true]
        congr 1
        have hd:decide (0<bRung way ng)=true:=by unfold bRung; split <;> decide
        rw [hd,Bool.true_or,Bool.and_true]
end Go.Proofs.YtjjihmnbdeeedaaGreatDoor
namespace Go.Proofs.YtjjihmnbdeeedaaGreatDoor
open Go Go.RowKit Go.Proofs.YtjjihmnbdeeedaaGreatDoor.M
theorem held_cut {M e:Int} (h:0<=M) (he:-4194304<=e) (k:Nat):Held (M*pw e) (M/2^k).toNat (e+k) (decide (M % 2^k≠0)):=by
 have hp:=two_pos k
 have hq:=pw_pos e
 have h0:0<=M/2^k:=Int.ediv_nonneg h (by omega)
 have hm0:=Int.emod_nonneg M (show (2:Int)^k≠0 by omega)
 have hm1:=Int.emod_lt_of_pos M hp
 have hd:=Int.mul_ediv_add_emod M (2^k)
 unfold Held
 rw [Int.toNat_of_nonneg h0,pw_add he]
 generalize M/2^k=Q at *
 generalize M % 2^k=T at *
 generalize pw e=q at *
 generalize (2:Int)^k=D at *
 have e1:Q*(q*D)=(D*Q)*q:=by rw [Int.mul_comm q D,<- Int.mul_assoc,Int.mul_comm Q D]
 have e2:(Q+1)*(q*D)=(D*Q)*q+D*q:=by rw [Int.add_mul,e1,Int.one_mul,Int.mul_comm q D]
 have e3:M*q=(D*Q)*q+T*q:=by rw [<- hd,Int.add_mul]
 rw [e2,e1,e3]
 have t0:0<=T*q:=Int.mul_nonneg hm0 (by omega)
 have t1:T*q<D*q:=Int.mul_lt_mul_of_pos_right hm1 hq
 refine ⟨by omega,by omega,?_⟩
 rw [decide_eq_false_iff_not]
 constructor
 ·intro h
  have:T=0:=by omega
  rw [this]; simp
 ·intro h hT
  have:0<T*q:=Int.mul_pos (by omega) hq
  omega
theorem to_rung {way:Int} {x:NumR} (ok:okR x=true) (h0:0<x.n) :
  ∃ (r0:Nat) (left:Int),Rung (val x.d x.n*pw x.e) r0 left∧r64 way x.ng false (val x.d x.n/2^vK (val x.d x.n)).toNat (x.e+vK (val x.d x.n)) (decide (val x.d x.n % 2^vK (val x.d x.n)≠0))=(patS (x.ng && (decide (0<rTo way x.ng r0 left) || false)) (rTo way x.ng r0 left),decide (left≠0) || decide (9218868437227405312<=(r0:Int))):=by
 obtain ⟨na,hn,he0,he1⟩:=okR_sane ok
 have hv:=val_pos na h0
 have hsm:=vK_small (Int.le_of_lt hv)
 have hb:=blen_pos hv
 have hp:=two_pos (vK (val x.d x.n))
 have hge:2^(blen (val x.d x.n)-1-vK (val x.d x.n))<=val x.d x.n/2^vK (val x.d x.n):=by
  rw [Int.le_ediv_iff_mul_le hp,<- Int.pow_add]
  by_cases hk:vK (val x.d x.n)<=blen (val x.d x.n)-1
  ·rw [show blen (val x.d x.n)-1-vK (val x.d x.n)+vK (val x.d x.n)=blen (val x.d x.n)-1 by omega]
   exact hb.2
  ·exfalso; unfold vK at hk; omega
 have hpos:=two_pos (blen (val x.d x.n)-1-vK (val x.d x.n))
 have e64:(2:Nat)^64=18446744073709551616:=by decide
 have e60:(2:Nat)^60=1152921504606846976:=by decide
 refine r64_spec (held_cut (Int.le_of_lt hv) (by omega) _) (by omega) (by omega) (by omega) (fun hc=>?_)
 have hk0:0<vK (val x.d x.n):=by
  rcases Nat.eq_zero_or_pos (vK (val x.d x.n)) with h | h
  ·rw [h,Int.pow_zero,Int.emod_one] at hc; simp at hc
  ·exact h
 have h61:blen (val x.d x.n)-1-vK (val x.d x.n)=61:=by unfold vK at hk0 ⊢; omega
 rw [h61] at hge
 have e61:(2:Int)^61=2305843009213693952:=by decide
 rw [e61] at hge
 omega
theorem patS_facts {ng:Bool} {r:Int} (h0:0<=r) (h1:r<=9218868437227405312) (h:ng=true->0<r):rng (patS ng r)∧rg (patS ng r)=r∧(patS ng r<0 ↔ ng=true):=by
 unfold patS rg rng
 cases ng
 ·simp only [Bool.false_eq_true,if_false]
  exact ⟨by omega,by rw [if_neg (by omega)],by omega,fun h=>by cases h⟩
 ·simp only [if_true]
  exact ⟨by have:=h rfl; omega,by have:=h rfl; rw [if_pos (by omega)]; omega,fun _=>trivial,fun _=>by omega⟩
theorem patS_pok {ng:Bool} {r:Int} (h0:0<=r) (h1:r<=9218868437227405312) (h:ng=true->0<r):pok (patS ng r)=decide (r<9218868437227405312):=by
 obtain ⟨a,b,c⟩:=patS_facts h0 h1 h
 have hp:=rg_parts a
 rw [b] at hp
 have hf:0<=frc (patS ng r)∧frc (patS ng r)<4503599627370496:=by unfold frc; omega
 unfold pok
 by_cases hr:r<9218868437227405312
 ·rw [decide_eq_true hr]
  simp
  omega
 ·rw [decide_eq_false hr]
  simp
  omega
theorem patV_patS {ng:Bool} {r:Nat} (h1:(r:Int)<9218868437227405312) (h:ng=true->0<r):patV (patS ng r)=sg ng (vS r):=by
 have hh:ng=true->(0:Int)<r:=fun q=>by have:=h q; omega
 obtain ⟨a,b,c⟩:=patS_facts (ng:=ng) (r:=(r:Int)) (by omega) (by omega) hh
 have hp:pok (patS ng r)=true:=by rw [patS_pok (by omega) (by omega) hh]; exact decide_eq_true h1
 have hV:=V_rg a hp
 rw [b,Int.toNat_natCast] at hV
 obtain ⟨i0,i1,i2,i3⟩:=pmag_in hp
 have hn:pneg (patS ng r)=ng:=by
  unfold pneg
  rw [hp,Bool.true_and]
  cases ng
  ·exact decide_eq_false (fun q=>by have:=c.1 q; cases this)
  ·exact decide_eq_true (c.2 rfl)
 unfold patV vS
 rw [hV,hn]
 have e:pw (pexp (patS ng r))=2^(pexp (patS ng r)+1074).toNat*pw (-1074):=by
  rw [pw_sub (e:=pexp (patS ng r)) (low:=-1074) (by decide) i2]
  congr 2
 have e2:(((pmag (patS ng r)).toNat*2^(pexp (patS ng r)+1074).toNat:Nat):Int)*pw (-1074)=pmag (patS ng r)*pw (pexp (patS ng r)):=by
  push_cast
  rw [Int.toNat_of_nonneg i0,e,Int.mul_assoc]
 rw [e2]
 cases ng
 ·rfl
 ·show -pmag _*_=-(pmag _*_)
  rw [Int.neg_mul]
theorem Rung.unique {A:Int} {r s:Nat} {l k:Int} (h:Rung A r l) (g:Rung A s k):r=s∧l=k:=by
 have e:r=s:=by
  rcases Nat.lt_trichotomy r s with q | q | q
  ·exfalso
   have h1:=h.hi
   have h2:=g.lo
   rcases Nat.lt_or_eq_of_le (show r+1<=s from q) with q2 | q2
   ·have:=vS_lt q2; omega
   ·rw [q2] at h1; omega
  ·exact q
  ·exfalso
   have h1:=g.hi
   have h2:=h.lo
   rcases Nat.lt_or_eq_of_le (show s+1<=r from q) with q2 | q2
   ·have:=vS_lt q2; omega
   ·rw [q2] at h1; omega
 subst e
 refine ⟨rfl,?_⟩
 have a0:=h.lo
 by_cases c0:A=vS r
 ·rw [h.l0.2 c0,g.l0.2 c0]
 ·by_cases c1:2*A<vS r+vS (r+1)
  ·rw [h.l1.2 ⟨by omega,c1⟩,g.l1.2 ⟨by omega,c1⟩]
  ·by_cases c2:2*A=vS r+vS (r+1)
   ·rw [h.l2.2 c2,g.l2.2 c2]
   ·rw [h.l3.2 (by omega),g.l3.2 (by omega)]
def toR (way:Int) (x:NumR):Int × Bool:=r64 way x.ng false (val x.d x.n/2^vK (val x.d x.n)).toNat (x.e+vK (val x.d x.n)) (decide (val x.d x.n % 2^vK (val x.d x.n)≠0))
theorem to_all {x:NumR} (ok:okR x=true) (h0:0<x.n):∃ (r0:Nat) (left:Int),Rung (val x.d x.n*pw x.e) r0 left∧∀ way,toR way x=(patS (x.ng && decide (0<rTo way x.ng r0 left)) (rTo way x.ng r0 left),decide (left≠0) || decide (9218868437227405312<=(r0:Int))):=by
 obtain ⟨r0,left,hR,_⟩:=to_rung (way:=0) ok h0
 refine ⟨r0,left,hR,fun way=>?_⟩
 obtain ⟨r1,l1,hR1,e1⟩:=to_rung (way:=way) ok h0
 obtain ⟨rfl,rfl⟩:=hR.unique hR1
 unfold toR
 rw [e1,Bool.or_false]
theorem to_zero {x:NumR} (ok:okR x=true) (h0:x.n=0) (way:Int):toR way x=(0,false):=by
  have hz:x.ng=false∧x.e=0:=by
    have:=of_decide_eq_true ok
    rcases this with ⟨_,a,b⟩ | ⟨a,_⟩
    · exact ⟨a,b⟩
    · omega
  have hv:val x.d x.n=0:=by rw [h0]; rfl
  unfold toR
  rw [hv,hz.1,hz.2]
  have e:r64 way false false ((0:Int)/2^vK 0).toNat (0+(vK 0:Int)) (decide ((0:Int) % 2^vK 0≠0))=r64 way false false 0 0 false:=by
    rw [show vK 0=0 by decide]
    rfl
  rw [e]
  have HR:r64 way false false 0 0 false=(let E:=rE 53 (-1074) 0 0
    let u:=rU 0 (E-0)
    let left:=rL 0 false (E-0)
    let U:=u+(if rUp way false (decide (u % 2=1)) left then 1 else 0)
    let neg:=false && (decide (0<U) || false)
    if jk 52 2047 (-1074) U E then (jp neg U E,decide (left≠0)) else (patS neg (bRung way neg),true)):=rfl
  rw [HR]
  have hE:rE 53 (-1074) 0 0=-53:=by decide
  simp only [hE]
  have hu:rU 0 (-53-0)=0:=by decide
  have hl:rL 0 false (-53-0)=0:=by decide
  simp only [hu,hl]
  have hr:rUp way false (decide (0 % 2=1)) 0=false:=by
    cases h:rUp way false (decide (0 % 2=1)) 0
    · rfl
    · exact absurd h (fun q=>rUp_left q)
  rw [hr]
  rfl
theorem vS_zero:vS 0=0:=by unfold vS; rw [V_zero]; simp
theorem ordP_pat {A:Int} {ng:Bool} {r:Nat} (h:(r:Int)<9218868437227405312):ordP A (patS (ng && decide ((0:Int)<r)) r)=ord A (sg ng (vS r)):=by
 by_cases h0:r=0
 ·subst h0
  have e:(ng && decide ((0:Int)<((0:Nat):Int)))=false:=by simp
  rw [e,vS_zero]
  have hp:pok (patS false ((0:Nat):Int))=true:=by decide
  have hv:patV (patS false ((0:Nat):Int))=0:=by rw [patV_patS (by decide) (fun q=>by cases q),vS_zero]; rfl
  unfold ordP
  rw [if_pos hp,hv]
  cases ng <;> rfl
 ·have e:(ng && decide ((0:Int)<(r:Int)))=ng:=by rw [decide_eq_true (by omega),Bool.and_true]
  rw [e]
  have hp:pok (patS ng r)=true:=by rw [patS_pok (by omega) (by omega) (fun _=>by omega)]; exact decide_eq_true h
  unfold ordP
  rw [if_pos hp,patV_patS h (fun _=>by omega)]
theorem ordP_inf {A:Int} {ng:Bool}:ordP A (patS (ng && decide ((0:Int)<9218868437227405312)) 9218868437227405312)=if ng then 1 else -1:=by
 cases ng <;> rfl
theorem rUp_down (ng odd:Bool) (left:Int):rUp 1 ng odd left=(decide (left≠0) && ng):=rfl
theorem rUp_up (ng odd:Bool) (left:Int):rUp 2 ng odd left=(decide (left≠0) && !ng):=rfl
theorem rUp_zero (ng odd:Bool) (left:Int):rUp 3 ng odd left=false:=rfl
theorem rTo_fin {ng:Bool} {r0:Nat} {left:Int} (h:(r0:Int)<9218868437227405312) :
  rTo 1 ng r0 left=(if left≠0∧ng=true then ((r0+1:Nat):Int) else (r0:Int))∧rTo 2 ng r0 left=(if left≠0∧ng=false then ((r0+1:Nat):Int) else (r0:Int))∧rTo 3 ng r0 left=(r0:Int)∧(rTo 0 ng r0 left=(r0:Int)∨(left≠0∧rTo 0 ng r0 left=((r0+1:Nat):Int))):=by
 unfold rTo
 simp only [if_pos h]
 refine ⟨?_,?_,?_,?_⟩
 ·rw [rUp_down]
  by_cases h0:left=0
  ·subst h0; simp
  ·cases ng <;> simp [h0]
 ·rw [rUp_up]
  by_cases h0:left=0
  ·subst h0; simp
  ·cases ng <;> simp [h0]
 ·rw [rUp_zero]
  simp
 ·cases hu:rUp 0 ng (decide (r0 % 2=1)) left
  ·left; simp
  ·right
   refine ⟨fun hz=>?_,by simp⟩
   rw [hz] at hu
   exact rUp_left hu
theorem rTo_inf {ng:Bool} {r0:Nat} {left:Int} (h:¬ (r0:Int)<9218868437227405312) :
  rTo 1 ng r0 left=(if ng=true then 9218868437227405312 else 9218868437227405311)∧rTo 2 ng r0 left=(if ng=true then 9218868437227405311 else 9218868437227405312)∧rTo 3 ng r0 left=9218868437227405311∧rTo 0 ng r0 left=9218868437227405312:=by
 unfold rTo
 simp only [if_neg h]
 cases ng <;> decide
theorem cls_rg {b:Int} (hb:rng b):(cls b=4 ↔ 9218868437227405312<rg b)∧(cls b=0 ↔ rg b=0):=by
 obtain ⟨h0,h1⟩:=rg_parts hb
 have hf:0<=frc b∧frc b<4503599627370496:=by unfold frc; omega
 have hg:0<=fld b∧fld b<2048:=by unfold fld; omega
 generalize rg b=r at *
 unfold cls
 generalize fld b=f at *
 generalize frc b=c at *
 constructor
 ·split
  ·split <;> constructor <;> intro h <;> omega
  ·split
   ·split <;> constructor <;> intro h <;> omega
   ·constructor <;> intro h <;> omega
 ·split
  ·split <;> constructor <;> intro h <;> omega
  ·split
   ·split <;> constructor <;> intro h <;> omega
   ·constructor <;> intro h <;> omega
theorem up_pos {r:Int} (h0:0<=r) (h1:r<9218868437227405312):canon (next (patS false r))=r+1:=by
 have e:patS false r=r:=rfl
 rw [e]
 have a1:rng r:=by unfold rng; omega
 have a2:rng (r+1):=by unfold rng; omega
 have g1:rg r=r:=by unfold rg; rw [if_neg (by omega)]
 have g2:rg (r+1)=r+1:=by unfold rg; rw [if_neg (by omega)]
 have c1:=cls_rg a1
 have c2:=cls_rg a2
 rw [g1] at c1
 rw [g2] at c2
 have n:next r=r+1:=by
  unfold next
  rw [if_neg (by rw [c1.1]; omega),if_neg (by omega),if_neg (by omega),if_neg (by omega)]
 rw [n]
 unfold canon
 rw [if_neg (by rw [c2.1]; omega),if_neg (by rw [c2.2]; omega)]
theorem up_neg {r:Int} (h0:0<r) (h1:r<=9218868437227405312):canon (next (patS true r))=patS (decide (0<r-1)) (r-1):=by
 have e:patS true r=r-9223372036854775808:=rfl
 rw [e]
 have a1:rng (r-9223372036854775808):=by unfold rng; omega
 have a2:rng (r-9223372036854775808-1):=by unfold rng; omega
 have g1:rg (r-9223372036854775808)=r:=by unfold rg; rw [if_pos (by omega)]; omega
 have g2:rg (r-9223372036854775808-1)=r-1:=by unfold rg; rw [if_pos (by omega)]; omega
 have c1:=cls_rg a1
 have c2:=cls_rg a2
 rw [g1] at c1
 rw [g2] at c2
 have n:next (r-9223372036854775808)=r-9223372036854775808-1:=by
  unfold next
  rw [if_neg (by rw [c1.1]; omega),if_neg (by omega),if_neg (by omega),if_pos (by omega)]
 rw [n]
 unfold canon
 rw [if_neg (by rw [c2.1]; omega)]
 by_cases h:r-1=0
 ·rw [if_pos (c2.2.2 h),h]
  rfl
 ·rw [if_neg (by rw [c2.2]; exact h),decide_eq_true (by omega)]
  unfold patS
  rw [if_pos rfl]
  omega
structure Btw (V:Int) (ng:Bool) (f:Int->Int × Bool):Prop where
 o2:(f 2).2=(f 1).2
 o3:(f 3).2=(f 1).2
 o0:(f 0).2=(f 1).2
 lo:¬ ordP V (f 1).1<0
 hi:¬ 0<ordP V (f 2).1
 ex:(f 1).2=false->ordP V (f 1).1=0∧(f 2).1=(f 1).1∧(f 3).1=(f 1).1∧(f 0).1=(f 1).1
 up:(f 1).2=true->ordP V (f 1).1≠0∧canon (next (f 1).1)=(f 2).1∧((f 0).1=(f 1).1∨(f 0).1=(f 2).1)∧(ng=false->(f 3).1=(f 1).1)∧(ng=true->(f 3).1=(f 2).1)
theorem ord_self (a:Int):ord a a=0:=by unfold ord; rw [if_neg (by omega),if_neg (by omega)]
theorem Btw.of {V:Int} {ng:Bool} {f:Int->Int × Bool} {o:Bool} {d u z n:Int} (f1:f 1=(patS (ng && decide (0<d)) d,o)) (f2:f 2=(patS (ng && decide (0<u)) u,o)) (f3:f 3=(patS (ng && decide (0<z)) z,o)) (f0:f 0=(patS (ng && decide (0<n)) n,o))
  (lo:¬ ordP V (patS (ng && decide (0<d)) d)<0) (hi:¬ 0<ordP V (patS (ng && decide (0<u)) u)) (ex:o=false->ordP V (patS (ng && decide (0<d)) d)=0∧u=d∧z=d∧n=d)
  (up:o=true->ordP V (patS (ng && decide (0<d)) d)≠0∧canon (next (patS (ng && decide (0<d)) d))=patS (ng && decide (0<u)) u∧(n=d∨n=u)∧(ng=false->z=d)∧(ng=true->z=u)):Btw V ng f:=by
 refine ⟨by rw [f1,f2],by rw [f1,f3],by rw [f1,f0],by rw [f1]; exact lo,by rw [f2]; exact hi,fun h=>?_,fun h=>?_⟩
 ·rw [f1] at h
  obtain ⟨a,b,c,e⟩:=ex h
  rw [f1,f2,f3,f0,b,c,e]
  exact ⟨a,rfl,rfl,rfl⟩
 ·rw [f1] at h
  obtain ⟨a,b,c,e,g⟩:=up h
  rw [f1,f2,f3,f0]
  refine ⟨a,b,?_,fun q=>by rw [e q],fun q=>by rw [g q]⟩
  rcases c with c | c
  ·left; rw [c]
  ·right; rw [c]
theorem k_top {r:Nat} (h:(r:Int)<9218868437227405312) (g:¬ ((r+1:Nat):Int)<9218868437227405312):((r+1:Nat):Int)=9218868437227405312:=by omega
theorem k_pos (r:Nat):(0:Int)<((r+1:Nat):Int):=by omega
theorem k_le {r:Nat} (h:(r:Int)<9218868437227405312):((r+1:Nat):Int)<=9218868437227405312:=by omega
theorem k_sub (r:Nat):((r+1:Nat):Int)-1=(r:Int):=by omega
theorem k_one (r:Nat):((r+1:Nat):Int)=(r:Int)+1:=by omega
theorem k_lt {r k:Nat} (hk:(9218868437227405311:Int)=(k:Int)) (h:¬ (r:Int)<9218868437227405312):k<r:=by omega
theorem k_ex:∃ k:Nat,(9218868437227405311:Int)=(k:Int):=⟨9218868437227405311,rfl⟩
theorem k_fin {k:Nat} (hk:(9218868437227405311:Int)=(k:Int)):(k:Int)<9218868437227405312∧(k:Int)+1=9218868437227405312∧(9218868437227405312:Int)-1=(k:Int):=by omega
theorem ord_sg_lt {ng:Bool} {A B:Int} (h:A<B):ord (sg ng A) (sg ng B)=if ng then 1 else -1:=by
 cases ng
 ·exact ord_lt h
 ·exact ord_gt (Int.neg_lt_neg h)
theorem ord_sg_gt {ng:Bool} {A B:Int} (h:B<A):ord (sg ng A) (sg ng B)=if ng then -1 else 1:=by
 cases ng
 ·exact ord_gt h
 ·exact ord_lt (Int.neg_lt_neg h)
theorem sg_prod (ng:Bool) (a b:Int):sg ng a*b=sg ng (a*b):=by
 unfold sg
 cases ng
 ·rfl
 ·exact Int.neg_mul a b
theorem between {x:NumR} (ok:okR x=true):Btw x.V x.ng (fun way=>toR way x):=by
 by_cases h0:x.n=0
 ·have hz:x.ng=false:=by
   have:=of_decide_eq_true ok
   rcases this with ⟨_,a,b⟩ | ⟨a,_⟩
   ·exact a
   ·omega
  have hv:x.V=0:=by
   have hv:val x.d x.n=0:=by rw [h0]; rfl
   unfold NumR.V
   rw [hv,sg_zero,Int.zero_mul]
  have hp:ordP x.V (patS (x.ng && decide ((0:Int)<0)) 0)=0:=by
   have:=ordP_pat (A:=x.V) (ng:=x.ng) (r:=0) (by decide)
   rw [vS_zero,hv,hz] at this
   rw [hv,hz]
   exact this
  have hz0:∀ way,toR way x=(patS (x.ng && decide ((0:Int)<0)) 0,false):=fun way=>by
   rw [to_zero ok h0,hz]
   rfl
  exact Btw.of (f:=fun way=>toR way x) (hz0 1) (hz0 2) (hz0 3) (hz0 0) (by rw [hp]; decide) (by rw [hp]; decide) (fun _=>⟨hp,rfl,rfl,rfl⟩) (fun h=>by cases h)
 ·obtain ⟨r0,left,hR,hf⟩:=to_all ok (by omega)
  obtain ⟨A,hA⟩:∃ A,val x.d x.n*pw x.e=A:=⟨_,rfl⟩
  rw [hA] at hR
  have hV:x.V=sg x.ng A:=by
   unfold NumR.V
   rw [<- hA]
   exact sg_prod _ _ _
  clear hA
  have lo:=hR.lo
  have hi:=hR.hi
  have l0:=hR.l0
  rw [hV]
  by_cases hr:(r0:Int)<9218868437227405312
  ·obtain ⟨t1,t2,t3,t0⟩:=rTo_fin (ng:=x.ng) (left:=left) hr
   have ho:(decide (left≠0) || decide (9218868437227405312<=(r0:Int)))=decide (left≠0):=by rw [decide_eq_false (p:=9218868437227405312<=(r0:Int)) (Int.not_le.2 hr),Bool.or_false]
   rw [ho] at hf
   have P0:=ordP_pat (A:=sg x.ng A) (ng:=x.ng) hr
   by_cases hl:left=0
   ·have hAe:=l0.1 hl
    have e1:rTo 1 x.ng r0 left=(r0:Int):=by rw [t1,if_neg (fun h=>h.1 hl)]
    have e2:rTo 2 x.ng r0 left=(r0:Int):=by rw [t2,if_neg (fun h=>h.1 hl)]
    have e0:rTo 0 x.ng r0 left=(r0:Int):=by rcases t0 with h | h; exact h; exact absurd hl h.1
    rw [hAe,ord_self] at P0
    refine Btw.of (f:=fun way=>toR way x) (hf 1) (hf 2) (hf 3) (hf 0) ?_ ?_ ?_ ?_
    ·rw [e1,hAe,P0]; decide
    ·rw [e2,hAe,P0]; decide
    ·intro _; rw [e1,e2,t3,e0,hAe]; exact ⟨P0,rfl,rfl,rfl⟩
    ·intro h; exact absurd hl (of_decide_eq_true h)
   ·have hAl:vS r0<A:=by
     rcases Int.lt_or_eq_of_le lo with h | h
     ·exact h
     ·exact absurd (l0.2 h.symm) hl
    have P1:ordP (sg x.ng A) (patS (x.ng && decide ((0:Int)<((r0+1:Nat):Int))) ((r0+1:Nat):Int))=if x.ng then 1 else -1:=by
     by_cases h1:((r0+1:Nat):Int)<9218868437227405312
     ·rw [ordP_pat h1]
      exact ord_sg_lt hi
     ·have e:=k_top hr h1
      rw [e]
      exact ordP_inf
    have P0':ordP (sg x.ng A) (patS (x.ng && decide ((0:Int)<(r0:Int))) (r0:Int))=if x.ng then -1 else 1:=by
     rw [P0]
     exact ord_sg_gt hAl
    clear hV
    generalize x.ng=ng at *
    cases ng
    ·have e1:rTo 1 false r0 left=(r0:Int):=by rw [t1,if_neg (fun h=>by cases h.2)]
     have e2:rTo 2 false r0 left=((r0+1:Nat):Int):=by rw [t2,if_pos ⟨hl,rfl⟩]
     refine Btw.of (f:=fun way=>toR way x) (hf 1) (hf 2) (hf 3) (hf 0) ?_ ?_ ?_ ?_
     ·rw [e1,P0']; decide
     ·rw [e2,P1]; decide
     ·intro h; exact absurd hl (by simpa using h)
     ·intro _
      rw [e1,e2,t3,P0']
      refine ⟨by decide,?_,?_,(fun _=>rfl),(fun h=>by cases h)⟩
      ·rw [Bool.false_and,Bool.false_and,up_pos (Int.natCast_nonneg _) hr]; exact (k_one r0).symm
      ·rcases t0 with h | h
       ·exact .inl h
       ·exact .inr h.2
    ·have e1:rTo 1 true r0 left=((r0+1:Nat):Int):=by rw [t1,if_pos ⟨hl,rfl⟩]
     have e2:rTo 2 true r0 left=(r0:Int):=by rw [t2,if_neg (fun h=>by cases h.2)]
     refine Btw.of (f:=fun way=>toR way x) (hf 1) (hf 2) (hf 3) (hf 0) ?_ ?_ ?_ ?_
     ·rw [e1,P1]; decide
     ·rw [e2,P0']; decide
     ·intro h; exact absurd hl (by simpa using h)
     ·intro _
      rw [e1,e2,t3,P1]
      refine ⟨by decide,?_,?_,(fun h=>by cases h),fun _=>rfl⟩
      ·rw [Bool.true_and,Bool.true_and,decide_eq_true (p:=(0:Int)<((r0+1:Nat):Int)) (k_pos r0),up_neg (k_pos r0) (k_le hr),k_sub]
      ·rcases t0 with h | h
       ·exact .inr h
       ·exact .inl h.2
  ·obtain ⟨t1,t2,t3,t0⟩:=rTo_inf (ng:=x.ng) (left:=left) hr
   have ho:(decide (left≠0) || decide (9218868437227405312<=(r0:Int)))=true:=by rw [decide_eq_true (p:=9218868437227405312<=(r0:Int)) (Int.not_lt.1 hr),Bool.or_true]
   rw [ho] at hf
   obtain ⟨k,hk⟩:=k_ex
   obtain ⟨hk1,hk2,hk3⟩:=k_fin hk
   have hAl:vS k<A:=Int.lt_of_lt_of_le (vS_lt (k_lt hk hr)) lo
   have P0:ordP (sg x.ng A) (patS (x.ng && decide ((0:Int)<(k:Int))) (k:Int))=if x.ng then -1 else 1:=by
    refine (ordP_pat (A:=sg x.ng A) (ng:=x.ng) hk1).trans ?_
    exact ord_sg_gt hAl
   rw [hk] at t1 t2 t3
   have P1:ordP (sg x.ng A) (patS (x.ng && decide ((0:Int)<9218868437227405312)) 9218868437227405312)=if x.ng then 1 else -1:=ordP_inf
   clear hV hR lo hi l0
   generalize x.ng=ng at *
   cases ng
   ·rw [if_neg (by decide)] at t1 t2
    refine Btw.of (f:=fun way=>toR way x) (hf 1) (hf 2) (hf 3) (hf 0) ?_ ?_ ?_ ?_
    ·rw [t1,P0]; decide
    ·rw [t2,P1]; decide
    ·intro h; cases h
    ·intro _
     rw [t1,t2,t3,t0,P0]
     refine ⟨by decide,?_,.inr rfl,(fun _=>rfl),(fun h=>by cases h)⟩
     rw [Bool.false_and,Bool.false_and]
     rw [up_pos (Int.natCast_nonneg _) hk1,hk2]
     rfl
   ·rw [if_pos rfl] at t1 t2
    refine Btw.of (f:=fun way=>toR way x) (hf 1) (hf 2) (hf 3) (hf 0) ?_ ?_ ?_ ?_
    ·rw [t1,P1]; decide
    ·rw [t2,P0]; decide
    ·intro h; cases h
    ·intro _
     rw [t1,t2,t3,t0,P1]
     refine ⟨by decide,?_,.inl rfl,(fun h=>by cases h),fun _=>rfl⟩
     rw [Bool.true_and,Bool.true_and]
     rw [decide_eq_true (p:=(0:Int)<9218868437227405312) (by decide),up_neg (by decide) (Int.le_refl _),hk3]
end Go.Proofs.YtjjihmnbdeeedaaGreatDoor
namespace Go.Proofs.YtjjihmnbdeeedaaGreatDoor
open Go Go.ChangeShapes Go.WideShapes Go.ChangeAt Go.RowKit Go.Proofs.YtjjihmnbdeeedaaGreatDoor.M
end Go.Proofs.YtjjihmnbdeeedaaGreatDoor
namespace Go.Proofs.YtjjihmnbdeeedaaGreatDoor
open Go Go.RowKit Go.Proofs.YtjjihmnbdeeedaaGreatDoor.M
theorem allOk_out {r:Nat->NumR} {n:Nat} (h:allOk r n=true):∀ i,i<n->okR (r i)=true:=of_decide_eq_true h
theorem DFit.no {w w':World} {V er:Int} {v:Value} (h:DFit w w' V v er) (no:¬ Dok V):er=2∧v=zeroV∧Below w.heap.size w w':=by
 rcases h.2 with ⟨ok,_⟩ | ⟨_,h1,h2⟩
 ·exact absurd ok no
 ·exact ⟨h1,h2,h.1⟩
end Go.Proofs.YtjjihmnbdeeedaaGreatDoor
namespace Go.Proofs.YtjjihmnbdeeedaaGreatDoor
open Go Go.ChangeShapes Go.WideShapes Go.ChangeAt Go.RowKit Go.Proofs.YtjjihmnbdeeedaaGreatDoor.M
structure Hold4 (w:World):Prop where
 lay:Lay64 w
 tab:Tab w
 env:Env w
theorem Hold4.keeps {w w':World} (h:Hold4 w) (hb:Below w.heap.size w w'):Hold4 w':=⟨h.lay.keeps hb,h.tab.keeps hb,h.env.keeps hb⟩
def To4 (w:World) (x:Value) (f:Int->Int × Bool):Prop:=∀ (way:Int) (W:World),0<=way∧way<=3->Below w.heap.size w W->Calls Tryz.prog 198 #[x,.int .i64 way] W fun e w'=>e=.returned (.tuple #[.int .i64 (f way).1,.bool (f way).2,.int .i64 0])∧Below W.heap.size W w'
theorem To4.keeps {w w':World} {x:Value} {f:Int->Int × Bool} (h:To4 w x f) (hb:Below w.heap.size w w'):To4 w' x f:=fun way W hw hB=>h way W hw (bel_trans hb hB)
theorem To4.at {w:World} {x:Value} {f:Int->Int × Bool} (h:To4 w x f) (way:Int) (hw:0<=way∧way<=3):Calls Tryz.prog 198 #[x,.int .i64 way] w fun e w'=>e=.returned (.tuple #[.int .i64 (f way).1,.bool (f way).2,.int .i64 0])∧Below w.heap.size w w':=h way w hw (bel_refl w)
theorem rTo_range (way:Int) (ng:Bool) (r0:Nat) (left:Int):0<=rTo way ng r0 left∧rTo way ng r0 left<=9218868437227405312:=by
 unfold rTo
 split
 ·split <;> omega
 ·unfold bRung
  repeat' split
  all_goals decide
theorem toR_range {x:NumR} (ok:okR x=true) (way:Int):rng (toR way x).1:=by
  by_cases h0:x.n=0
  · rw [to_zero ok h0]; unfold rng; decide
  · obtain ⟨r0,left,_,hf⟩:=to_all ok (by omega)
    rw [hf way]
    obtain ⟨h1,h2⟩:=rTo_range way x.ng r0 left
    exact (patS_facts h1 h2 (fun h=>by
      cases hx:x.ng
      · rw [hx] at h; cases h
      · rw [hx,Bool.true_and] at h; exact of_decide_eq_true h)).1
end Go.Proofs.YtjjihmnbdeeedaaGreatDoor
