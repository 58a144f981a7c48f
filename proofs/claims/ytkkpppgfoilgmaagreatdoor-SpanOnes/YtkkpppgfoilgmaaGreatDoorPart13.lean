/- Parts of the proof. -/
import Derived.Test.YtkkpppgfoilgmaaGreatDoorPart12
import Derived.Test.YtkkpppgfoilgmaaGreatDoorPart11
import Derived.Test.YtkkpppgfoilgmaaGreatDoorPart10
import Derived.Test.YtkkpppgfoilgmaaGreatDoorPart8
import Derived.Test.YtkkpppgfoilgmaaGreatDoorPart9
set_option maxRecDepth 100000
set_option maxHeartbeats 8000000
set_option linter.unusedVariables false
set_option linter.unusedSimpArgs false
namespace Go.Proofs.YtkkpppgfoilgmaaGreatDoor
open Go Go.Proofs.Tryz Go.RowKit Go.Proofs.YtkkpppgfoilgmaaGreatDoor.M
theorem q6 (way:Int) (hw:1<=way∧way<=3) (near:Int) (Rf:Nat) (rc:Array Value) (g n:Nat) (hn:n<=100) (d:Nat->Int) (w:World) (hR:aG w (some ⟨g,0,none⟩) n n d) (hp:∀ i,i<n->aB (d i)=true) (H:aA w) (ng:Bool) (mag:Nat) (exp:Int) (cut sd:Bool) (hm:mag<18446744073709551616) (he:-4500000<=exp∧exp<=4500000)
    (hER:∀ (cap:Array Value) (w:World),(callFunc Rf cap).run prog w=.ok (.enter Rf cap) w)
    (CR:∀ W g q,Below w.heap.size w W->eS W (some ⟨g,0,none⟩) n n q->(∀ i,i<n->bt (q i).d (q i).n∧Dy (aM (d i)) (q i).ng (val (q i).d (q i).n) (q i).e)->Calls prog Rf (#[.slice (some ⟨g,0,none⟩) n n] ++ rc) W fun e w'=>e=.returned (.tuple #[cv ng mag exp cut sd,.int .i64 0])∧Below W.heap.size W w') :
    Calls prog 125 #[.agg #[.func (.func 140) #[] #[],.func (.func 70) #[] #[]],.int .i64 near,.int .i64 way,.func (.func Rf) #[] rc,.slice (some ⟨g,0,none⟩) n n] w fun e w'=>e=.returned (.tuple #[.int .i64 (ou 0 mag sd (fS way ng true mag exp cut).1 near),.int .i64 0])∧Below w.heap.size w w':=by
  have hEF:∀ (cap:Array Value) (w:World),(callFunc 140 cap).run prog w=.ok (.enter 140 cap) w:=by
    intro cap w
    simp[go_sem]
  have hEG:∀ (cap:Array Value) (w:World),(callFunc 70 cap).run prog w=.ok (.enter 70 cap) w:=by
    intro cap w
    simp[go_sem]
  exact tB way hw near _ _ Rf rc _ n n w (fun i=>aM (d i)) ng mag exp cut sd 0 _ _ hEG hER
    (fun W hb=>(uW _ _ _ n n d _ W (hR.keeps hb) (by omega) hEF (fun i hi W' hb'=>xH (hp i hi) ((H.keeps hb).keeps hb'))).mono fun r w' h=>by
      obtain⟨g,q,e1,e2,e3,e4,e5⟩:=h
      exact ⟨g,q,e1,e2,e3,e4,e5⟩)
    CR (fun W hb=>kU way (by omega) ng true mag exp cut W (H.keeps hb).env hm he)
theorem lU (way:Int) (hw:1<=way∧way<=3) (near:Int) (Rf:Nat) (rc:Array Value) (g n:Nat) (hn:n<=100) (d:Nat->Int) (w:World) (hR:aG w (some ⟨g,0,none⟩) n n d) (K:Nat) (hK:K<n) (hp:∀ i,i<K->aB (d i)=true) (hq:aB (d K)=false) (H:aA w) :
  Calls prog 125 #[.agg #[.func (.func 140) #[] #[],.func (.func 70) #[] #[]],.int .i64 near,.int .i64 way,.func (.func Rf) #[] rc,.slice (some ⟨g,0,none⟩) n n] w fun e w'=>e=.returned (.tuple #[.int .i64 near,.int .i64 0])∧Below w.heap.size w w':=by
 have hEF:∀ (cap:Array Value) (w:World),(callFunc 140 cap).run prog w=.ok (.enter 140 cap) w:=by
  intro cap w
  simp[go_sem]
 exact q5 way hw near _ _ Rf rc _ n n w (fun W hb=>uX _ _ _ n n d (fun i=>aM (d i)) W (hR.keeps hb) (by omega) K hK hEF (fun i hi W' hb'=>xH (hp i hi) ((H.keeps hb).keeps hb')) (fun W' hb'=>BU hq ((H.keeps hb).keeps hb')))
theorem xj {w:World} {g:Nat} {a b:Int} (h:w.heap[g]?=some (.cells #[.int .i64 a,.int .i64 b] 3 (0,0))):aG w (some ⟨g,0,none⟩) 2 2 (fun i=>if i=0 then a else b) :=
  ⟨Nat.le_refl _,by decide,(fun h=>nomatch h),fun _=>⟨g,0,rfl,(Array.getElem?_eq_some_iff.1 h).1,fun i hi=>by
    match i,hi with
    | 0,_=>exact ab h 0 rfl
    | 1,_=>exact ab h 1 rfl⟩⟩
theorem yZ {m:Int} (h:0<m):(m/2^vK m).toNat≠0:=by
 have hb:=fK h
 have hp:=aF (vK m)
 have h1:2^vK m<=m:=Int.le_trans (cc (by unfold vK;omega)) hb.2
 have h2:1<=m/2^vK m:=by rw[Int.le_ediv_iff_mul_le hp,Int.one_mul];exact h1
 omega
theorem AT {m:Int} (h:0<=m):(m/2^vK m).toNat<18446744073709551616:=by
 have:=iR h
 omega
theorem AU {V:Int} {ng:Bool} {m e:Int} (hy:Dy V ng m e) (ok:b7 V):-4500000<=e+vK m∧e+vK m<=4500000:=by
 obtain⟨h1,h2,h3⟩:=hy.ok.1 ok
 have h4:aC m<=30*2000:=cw (by rw[<- cr];exact h1)
 unfold vK
 omega
theorem u7 (way:Int) (hw:1<=way∧way<=3) (near a b:Int) (Rf:Nat) (rc:Array Value) (hp:(aB a&&aB b)=false) (w:World) (go:Nat) (ko:w.heap[go]?=some (.cells #[.int .i64 a,.int .i64 b] 3 (0,0))) (H:aA w) :
    Calls prog 125 #[.agg #[.func (.func 140) #[] #[],.func (.func 70) #[] #[]],.int .i64 near,.int .i64 way,.func (.func Rf) #[] rc,.slice (some ⟨go,0,none⟩) 2 2] w fun e w'=>e=.returned (.tuple #[.int .i64 near,.int .i64 0])∧Below w.heap.size w w':=by
  cases h1:aB a
  · exact lU way hw near Rf rc go 2 (by decide) (fun i=>if i=0 then a else b) w (xj ko) 0 (by decide) (fun i hi=>by omega) h1 H
  · rw[h1] at hp
    exact lU way hw near Rf rc go 2 (by decide) (fun i=>if i=0 then a else b) w (xj ko) 1 (by decide) (fun i hi=>by
      obtain rfl:i=0:=by omega
      exact h1) hp H
theorem Ca (way:Int) (hw:1<=way∧way<=3) (near a b:Int) (ra:au a) (rb:au b) (w:World) (go:Nat) (ko:w.heap[go]?=some (.cells #[.int .i64 a,.int .i64 b] 3 (0,0))) (H:aA w) :
  Calls prog 125 #[.agg #[.func (.func 140) #[] #[],.func (.func 70) #[] #[]],.int .i64 near,.int .i64 way,.func (.func 126) #[] #[],.slice (some ⟨go,0,none⟩) 2 2] w fun e w'=>e=.returned (.tuple #[.int .i64 (if (aB a&&aB b)=true∧bL a b≠0 then cq way (bL a b) else near),.int .i64 0])∧Below w.heap.size w w':=by
 have hER:∀ (cap:Array Value) (w:World),(callFunc 126 cap).run prog w=.ok (.enter 126 cap) w:=by
  intro cap w
  simp[go_sem]
 cases hpp:(aB a&&aB b)
 ·have n1:¬ (false=true∧bL a b≠0):=fun q=>by cases q.1
  rw[if_neg n1]
  exact u7 way hw near a b _ _ hpp w go ko H
 ·simp only[Bool.and_eq_true] at hpp
  obtain⟨pa,pb⟩:=hpp
  obtain⟨_,_,_,_,hC⟩:=ig ra rb pa pb
  have ok:b7 (bL a b):=((nD pa).mul (nD pb) hC (by omega)).ok (by omega)
  obtain⟨ng,m,e,hy,hm⟩:=id ok
  clear hm
  have hp:∀ i,i<2->aB (if i=0 then a else b)=true:=fun i hi=>by split<;>assumption
  have:=q6 way hw near _ #[] go 2 (by decide) (fun i=>if i=0 then a else b) w (xj ko) hp H ng _ _ _ false (AT hy.nonneg) (AU hy ok) hER (fun W g q hb hN hf=>u6 g W q (aM a) (aM b) (bL a b) ng m e hN (uZ hN hf 0 (by decide)) (uZ hN hf 1 (by decide)) (pO pa) (pO pb) hC ok hy (H.keeps hb).tab)
  have hA:(if true=true∧bL a b≠0 then cq way (bL a b) else near)=ou 0 (m/2^vK m).toNat false (fS way ng true (m/2^vK m).toNat (e+vK m) (decide (m % 2^vK m≠0))).1 near:=by
   unfold ou
   by_cases h0:bL a b=0
   ·have hm0:=hy.eq_zero.1 h0
    have n1:¬ (true=true∧bL a b≠0):=fun q=>q.2 h0
    have n3:(0:Int)≠0∨((m/2^vK m).toNat=0∧false=false):=.inr ⟨by rw[hm0,Int.zero_ediv];rfl,rfl⟩
    rw[if_neg n1,if_pos n3]
   ·have hm0:0<m:=by
     have:=hy.nonneg
     have:m≠0:=fun q=>h0 (hy.eq_zero.2 q)
     omega
    have n1:true=true∧bL a b≠0:=⟨rfl,h0⟩
    have n3:¬ ((0:Int)≠0∨((m/2^vK m).toNat=0∧false=false)):=fun q=>by
     rcases q with q|q
     ·exact q rfl
     ·exact yZ hm0 q.1
    rw[if_pos n1,if_neg n3,AC hy h0 (by have:=(hy.ok.1 ok).2.1;omega)]
  rw[hA]
  exact this
theorem xN {a b way:Int} {w:World} (ra:au a) (rb:au b) (hw:0<=way∧way<=3) (H:aA w) :
  Calls prog 106 #[.int .i64 a,.int .i64 b,.int .i64 way] w fun e w'=>e=.returned (.tuple #[.int .i64 (dG way a b),.int .i64 0])∧Below w.heap.size w w':=by
 have CK:Hid (∀ W go,W.heap[go]?=some (.cells #[.int .i64 a,.int .i64 b] 3 (0,0))->aA W->Calls prog 125 #[.agg #[.func (.func 140) #[] #[],.func (.func 70) #[] #[]],.int .i64 (aL (bs a) (bs b)),.int .i64 way,.func (.func 126) #[] #[],.slice (some ⟨go,0,none⟩) 2 2] W fun e w'=>e=.returned (.tuple #[.int .i64 (dG way a b),.int .i64 0])∧Below W.heap.size W w'):=fun W go ko H=>by
  by_cases h0:way=0
  ·have e:dG way a b=aL (bs a) (bs b):=by unfold dG;rw[if_pos (.inl h0)]
   rw[e,h0]
   exact pL _ _ ⟨_,rfl⟩ ⟨_,rfl⟩ _ _ _ _ _ W
  ·have e:dG way a b=if (aB a&&aB b)=true∧bL a b≠0 then cq way (bL a b) else aL (bs a) (bs b):=by
    unfold dG
    cases hp:(aB a&&aB b)
    ·have n1:way=0∨false=false:=.inr rfl
     have n2:¬ (false=true∧bL a b≠0):=fun q=>by cases q.1
     rw[if_pos n1,if_neg n2]
    ·have n1:¬ (way=0∨true=false):=fun q=>by rcases q with q|q;exact h0 q;cases q
     rw[if_neg n1]
     by_cases h:bL a b≠0
     ·have n2:true=true∧bL a b≠0:=⟨rfl,h⟩
      rw[if_pos h,if_pos n2]
     ·have n2:¬ (true=true∧bL a b≠0):=fun q=>h q.2
      rw[if_neg h,if_neg n2]
   rw[e]
   exact Ca way (by omega) _ a b ra rb W go ko H
 generalize dG way a b=R at CK ⊢
 have hcv:=tA
 have hmf:∀ (fn:Fn) (first cap:Array Value) (w:World),(Instr.makeFunc fn first cap).run prog w=.ok (.func fn first cap) w:=fun _ _ _ _=>rfl
 have CF:Hid (∀ W,Calls prog 46 #[.int .i64 a] W fun e w'=>e=.returned (.float .f64 (wd a))∧w'=W):=fun W=>fT a W
 have CG:Hid (∀ W,Calls prog 46 #[.int .i64 b] W fun e w'=>e=.returned (.float .f64 (wd b))∧w'=W):=fun W=>fT b W
 have RS:Hid (∀ W,_):=fun W=>oh (P:=prog) 62 (r9 ra) (r9 rb) W
 go_enter func106,ntmps106
 go_wp2_with fail
 refine(tj _).mono ?_
 rintro _ w1 ⟨rfl,hb1⟩
 obtain⟨z,w2,hrun,hz,hw2⟩:=RS.out w1
 clear RS
 generalize wd a=x at *
 generalize wd b=y at *
 generalize aL (bs a) (bs b)=near at *
 go_wp2_with fail
 refine(CF.out _).mono ?_
 rintro _ _ ⟨rfl,rfl⟩
 go_wp2_with fail
 refine(CG.out _).mono ?_
 rintro _ _ ⟨rfl,rfl⟩
 go_wp2_with fail
 have hb2:Below w.heap.size w w2:=by rcases hw2 with rfl|rfl;exact hb1;exact hb1.drew
 refine(tl hz _).mono ?_
 rintro _ _ ⟨rfl,rfl⟩
 have hb3:=aa hb2 (ae _ (.cells #[.int .i64 a,.int .i64 b] 3))
 go_wp2_with fail
 refine(CK.out _ _ (a9 _ (.cells #[.int .i64 a,.int .i64 b] 3)) (H.keeps hb3)).mono ?_
 rintro _ w5 ⟨rfl,hb5⟩
 go_wp2
 all_goals refine bodyPost_ret (v:=.tuple #[.int .i64 R,.int .i64 0]) (by simp[results,results106,go_sem]) rfl ⟨rfl,aa hb3 hb5⟩
theorem tD {w w3:World} (h3:Below (w.alloc (.cells #[.float .f64 0,.float .f64 0] 64)).heap.size (w.alloc (.cells #[.float .f64 0,.float .f64 0] 64)) w3) (U V:Nat) :
  (store ⟨w.heap.size,0,none⟩ (.float .f64 U)).run prog w3=.ok () (w3.setCell ⟨w.heap.size,0,none⟩ (.float .f64 U))∧(store ⟨w.heap.size,1,none⟩ (.float .f64 V)).run prog (w3.setCell ⟨w.heap.size,0,none⟩ (.float .f64 U))=.ok () ((w3.setCell ⟨w.heap.size,0,none⟩ (.float .f64 U)).setCell ⟨w.heap.size,1,none⟩ (.float .f64 V))∧((w3.setCell ⟨w.heap.size,0,none⟩ (.float .f64 U)).setCell ⟨w.heap.size,1,none⟩ (.float .f64 V)).cell? ⟨w.heap.size,0,none⟩=some (.float .f64 U)∧((w3.setCell ⟨w.heap.size,0,none⟩ (.float .f64 U)).setCell ⟨w.heap.size,1,none⟩ (.float .f64 V)).cell? ⟨w.heap.size,1,none⟩=some (.float .f64 V)∧Below w.heap.size w ((w3.setCell ⟨w.heap.size,0,none⟩ (.float .f64 U)).setCell ⟨w.heap.size,1,none⟩ (.float .f64 V)):=by
 have hg:=qZ w (.cells #[.float .f64 0,.float .f64 0] 64)
 have hba:=ae w (.cells #[.float .f64 0,.float .f64 0] 64)
 have d2:=(h3.block _ (aGe hg).1).trans hg
 have d3:=ag d2 0 (.float .f64 U)
 have d4:=ag d3 1 (.float .f64 V)
 have f0:=ab d2 0 rfl
 have z0:=ak d2 0
 have f1:=ab d3 1 rfl
 have z1:=ak d3 1
 refine⟨?_,?_,ab d4 0 rfl,ab d4 1 rfl,?_⟩
 ·rw[run_store _ _ _ _ _ rfl,f0];simp only[z0];rfl
 ·rw[run_store _ _ _ _ _ rfl,f1];simp only[z1];rfl
 ·exact((aa hba h3).setCell (p:=⟨w.heap.size,0,none⟩) (Nat.le_refl _) _).setCell (p:=⟨w.heap.size,1,none⟩) (Nat.le_refl _) _
theorem qj {a b:Int} (ra:au a) (rb:au b) (w:World) (H:aA w) :
  Calls prog 85 #[.int .i64 a,.int .i64 b] w fun e w'=>e=.returned (bW (dG 1 a b) (dG 2 a b))∧Below w.heap.size w w':=by
 have C1:Hid (∀ W,aA W->Calls prog 106 #[.int .i64 a,.int .i64 b,.int .i64 1] W fun e w'=>e=.returned (.tuple #[.int .i64 (dG 1 a b),.int .i64 0])∧Below W.heap.size W w'):=fun W h=>xN ra rb (by omega) h
 have C2:Hid (∀ W,aA W->Calls prog 106 #[.int .i64 a,.int .i64 b,.int .i64 2] W fun e w'=>e=.returned (.tuple #[.int .i64 (dG 2 a b),.int .i64 0])∧Below W.heap.size W w'):=fun W h=>xN ra rb (by omega) h
 unfold bW
 generalize dG 1 a b=l at *
 generalize dG 2 a b=h at *
 have hba:=ae w (.cells #[.float .f64 0,.float .f64 0] 64)
 go_enter func85,ntmps85
 go_wp2_with fail
 refine(C1.out _ (H.keeps hba)).mono ?_
 rintro _ w1 ⟨rfl,hb1⟩
 have hw1:=aa hba hb1
 go_wp2_with fail
 refine(C2.out _ (H.keeps hw1)).mono ?_
 rintro _ w2 ⟨rfl,hb2⟩
 have hb3:=aa hb1 hb2
 obtain⟨s0,s1,e0,e1,hbe⟩:=tD hb3 (wd l) (wd h)
 have CF:Hid (∀ W,Calls prog 46 #[.int .i64 l] W fun e w'=>e=.returned (.float .f64 (wd l))∧w'=W):=fun W=>fT l W
 have CG:Hid (∀ W,Calls prog 46 #[.int .i64 h] W fun e w'=>e=.returned (.float .f64 (wd h))∧w'=W):=fun W=>fT h W
 go_wp2_with fail
 refine(CF.out _).mono ?_
 rintro _ wz ⟨rfl,hwz⟩
 replace hwz:=hwz.symm
 subst hwz
 go_wp2_with fail
 refine(CG.out _).mono ?_
 rintro _ wz ⟨rfl,hwz⟩
 replace hwz:=hwz.symm
 subst hwz
 go_wp2
 refine bodyPost_ret (v:=.agg #[.float .f64 (wd l),.float .f64 (wd h)]) (by simp[results,results85,go_sem,e0,e1]) rfl ⟨rfl,hbe⟩
theorem ov {P:Program} (t:TypeId) {p q:Int} {x y:Nat} (hx:FW p x) (hy:FW q y) (h:aD (aL p q)≠4) (w:World):(binOp .mul t (.float .f64 x) (.float .f64 y)).run P w=.ok (.float .f64 (wd (aL p q))) w:=by
 obtain⟨z,w',hrun,hz⟩:=mL (P:=P) .mul (.inr (.inr (.inl rfl))) t x y w
 have hf:floatBits .mul .f64 x y=Ieee.double.mul x y:=rfl
 rw[hf] at hz
 rcases uG hx hy with⟨z',e1,e2⟩|⟨_,e2⟩
 ·rcases hz with⟨h1,h2⟩|⟨h1,_⟩
  ·rw[e1] at h1
   cases h1
   rw[hrun,h2,(e2.of h).2.1]
  ·rw[e1] at h1;cases h1
 ·exact absurd (by rw[e2];decide) h
theorem iY {p:Int} (h:nn p) (h0:rg p≠0):FloatKind.f64.format.order (wd p) 0=some .lt∨FloatKind.f64.format.order (wd p) 0=some .gt:=by
 have n0:=cP.1
 have w0:wd 0=0:=by decide
 have k0:aj 0=0:=by decide
 have hk:aj p≠0:=by
  have:=fH h
  unfold aj
  unfold rg at h0 this
  split at h0<;>simp_all<;>omega
 rcases Int.lt_or_gt_of_ne hk with q|q
 ·left
  have:=fN h.1 n0.1 h.2 n0.2 (by rw[k0];exact q)
  rwa [w0] at this
 ·right
  have:=fO h.1 n0.1 h.2 n0.2 (by rw[k0];exact q)
  rwa [w0] at this
theorem ow {p:Int} (h:nn p) (h0:rg p=0):FloatKind.f64.format.order (wd p) 0=some .eq:=by
 have n0:=cP.1
 have w0:wd 0=0:=by decide
 have k0:aj 0=0:=by decide
 have hk:aj p=0:=by
  unfold aj
  unfold rg at h0
  split at h0<;>simp_all
 have:=fP h.1 n0.1 h.2 n0.2 (by rw[k0];exact hk)
 rwa [w0] at this
theorem qk {p q:Int} (hp:nn p) (hq:nn q) (h0:rg p=0∨rg q=0) (w:World) :
  Calls prog 66 #[.float .f64 (wd p),.float .f64 (wd q)] w fun e w'=>e=.returned (bW 0 0)∧Below w.heap.size w w':=by
 have hcv:=tA
 have w0:wd 0=0:=by decide
 unfold bW
 rw[w0]
 have hba:=ae w (.cells #[.float .f64 0,.float .f64 0] 64)
 obtain⟨z,w1,hrun,hz,hw1⟩:=oh (P:=prog) 62 (FW.pat hp.2 hp.1) (FW.pat hq.2 hq.1) (w.alloc (.cells #[.float .f64 0,.float .f64 0] 64))
 have hb1:Below (w.alloc (.cells #[.float .f64 0,.float .f64 0] 64)).heap.size (w.alloc (.cells #[.float .f64 0,.float .f64 0] 64)) w1:=by
  rcases hw1 with rfl|rfl
  ·exact aq _
  ·exact(aq _).drew
 obtain⟨s0,s1,e0,e1,hbe⟩:=tD hb1 0 0
 by_cases hp0:rg p=0
 ·have o:=ow hp hp0
  generalize wd p=x at *
  generalize wd q=y at *
  clear hw1
  go_enter func66,ntmps66
  go_wp2
  refine bodyPost_ret (v:=.agg #[.float .f64 0,.float .f64 0]) (by simp[results,results66,go_sem,e0,e1]) rfl ⟨rfl,hbe⟩
 ·have hq0:rg q=0:=by omega
  have o2:=ow hq hq0
  rcases iY hp hp0 with o|o
  all_goals
   generalize wd p=x at *
   generalize wd q=y at *
   clear hw1
   go_enter func66,ntmps66
   go_wp2
   refine bodyPost_ret (v:=.agg #[.float .f64 0,.float .f64 0]) (by simp[results,results66,go_sem,e0,e1]) rfl ⟨rfl,hbe⟩
theorem ql {p q:Int} (hp:nn p) (hq:nn q) (p0:rg p≠0) (q0:rg q≠0) (hn:nn (aL p q)) (hd:rg (aL p q)<283726776524341248) (w:World) (H:aA w) :
  Calls prog 66 #[.float .f64 (wd p),.float .f64 (wd q)] w fun e w'=>e=.returned (bW (dG 1 p q) (dG 2 p q))∧Below w.heap.size w w':=by
 have hcv:=tA
 have hba:=ae w (.cells #[.float .f64 0,.float .f64 0] 64)
 have CD:Hid (∀ W,aA W->Calls prog 85 #[.int .i64 p,.int .i64 q] W fun e w'=>e=.returned (.agg #[.float .f64 (wd (dG 1 p q)),.float .f64 (wd (dG 2 p q))])∧Below W.heap.size W w'):=fun W h=>qj hp.1 hq.1 W h
 have CP:Hid (∀ W,Calls prog 65 #[.float .f64 (wd p)] W fun e w'=>e=.returned (.int .i64 p)∧w'=W):=fun W=>tl (FW.pat hp.2 hp.1) W
 have CQ:Hid (∀ W,Calls prog 65 #[.float .f64 (wd q)] W fun e w'=>e=.returned (.int .i64 q)∧w'=W):=fun W=>tl (FW.pat hq.2 hq.1) W
 have CA:Hid (∀ W,Calls prog 77 #[.float .f64 (wd (aL p q))] W fun e w'=>e=.returned (.float .f64 (wd (rg (aL p q))))∧w'=W):=fun W=>lI hn.1 W
 have hrun:∀ W,(binOp .mul 62 (.float .f64 (wd p)) (.float .f64 (wd q))).run prog W=.ok (.float .f64 (wd (aL p q))) W:=fun W=>ov _ (FW.pat hp.2 hp.1) (FW.pat hq.2 hq.1) hn.2 W
 have od:FloatKind.f64.format.order (wd (rg (aL p q))) 283726776524341248=some .lt:=by
  obtain⟨a1,a2⟩:=mp hn.1
  have ca:¬ aD (rg (aL p q))=4:=by rw[tp hn.1];exact hn.2
  have:=fN a1 (show au 283726776524341248 by unfold au;omega) ca (by decide) (by rw[tq a2,show aj 283726776524341248=283726776524341248 by decide];exact hd)
  rwa [show wd 283726776524341248=283726776524341248 by decide] at this
 have o1:=iY hp p0
 have o2:=iY hq q0
 unfold bW
 generalize wd (dG 1 p q)=U at *
 generalize wd (dG 2 p q)=V at *
 generalize wd (rg (aL p q))=A at *
 generalize wd (aL p q)=N at *
 generalize wd p=x at *
 generalize wd q=y at *
 rcases o1 with o1|o1<;>rcases o2 with o2|o2
 all_goals
  go_enter func66,ntmps66
  go_wp2_with fail
  refine(CA.out _).mono ?_
  rintro _ wz ⟨rfl,hwz⟩
  replace hwz:=hwz.symm
  subst hwz
  go_wp2_with fail
  refine(CP.out _).mono ?_
  rintro _ wz ⟨rfl,hwz⟩
  replace hwz:=hwz.symm
  subst hwz
  go_wp2_with fail
  refine(CQ.out _).mono ?_
  rintro _ wz ⟨rfl,hwz⟩
  replace hwz:=hwz.symm
  subst hwz
  go_wp2_with fail
  refine(CD.out _ (H.keeps hba)).mono ?_
  rintro _ w3 ⟨rfl,hb3⟩
  obtain⟨s0,s1,e0,e1,hbe⟩:=tD hb3 U V
  go_wp2
  refine bodyPost_ret (v:=.agg #[.float .f64 U,.float .f64 V]) (by simp[results,results66,go_sem,e0,e1]) rfl ⟨rfl,hbe⟩
theorem mT {p q:Int} (hp:nn p) (hq:nn q) (p0:rg p≠0) (q0:rg q≠0) (hn:nn (aL p q)) (hd:283726776524341248<=rg (aL p q)) (w:World) :
  Calls prog 66 #[.float .f64 (wd p),.float .f64 (wd q)] w fun e w'=>e=.returned (bW (jj (aL p q) (cT p q (neg (aL p q)))) (jn (aL p q) (cT p q (neg (aL p q)))))∧Below w.heap.size w w':=by
 have hcv:=tA
 have hba:=ae w (.cells #[.float .f64 0,.float .f64 0] 64)
 have CA:Hid (∀ W,Calls prog 77 #[.float .f64 (wd (aL p q))] W fun e w'=>e=.returned (.float .f64 (wd (rg (aL p q))))∧w'=W):=fun W=>lI hn.1 W
 have hrun:∀ W,(binOp .mul 62 (.float .f64 (wd p)) (.float .f64 (wd q))).run prog W=.ok (.float .f64 (wd (aL p q))) W:=fun W=>ov _ (FW.pat hp.2 hp.1) (FW.pat hq.2 hq.1) hn.2 W
 have hneg:∀ W,(Op.unary UnOp.neg (.float .f64 (wd (aL p q)))).run prog W=.ok (.float .f64 (wd (neg (aL p q)))) W:=fun W=>j7 hn W
 have nm:=(gp hn).1
 obtain⟨L,w1,rF,hL,hw1⟩:=xf (FW.pat hp.2 hp.1) (FW.pat hq.2 hq.1) (FW.pat nm.2 nm.1) (w.alloc (.cells #[.float .f64 0,.float .f64 0] 64))
 have hb1:Below (w.alloc (.cells #[.float .f64 0,.float .f64 0] 64)).heap.size (w.alloc (.cells #[.float .f64 0,.float .f64 0] 64)) w1:=by
  rcases hw1 with rfl|rfl
  ·exact aq _
  ·exact(aq _).drew
 have CB:Hid (∀ W,Calls prog 78 #[.float .f64 (wd (aL p q)),.float .f64 L] W fun e w'=>e=.returned (.agg #[.float .f64 (wd (jj (aL p q) (cT p q (neg (aL p q))))),.float .f64 (wd (jn (aL p q) (cT p q (neg (aL p q)))))])∧Below W.heap.size W w'):=fun W=>tz hn hL W
 have od:FloatKind.f64.format.order (wd (rg (aL p q))) 283726776524341248=some .gt∨FloatKind.f64.format.order (wd (rg (aL p q))) 283726776524341248=some .eq:=by
  obtain⟨a1,a2⟩:=mp hn.1
  have ca:¬ aD (rg (aL p q))=4:=by rw[tp hn.1];exact hn.2
  have w9:wd 283726776524341248=283726776524341248:=by decide
  have k9:aj 283726776524341248=283726776524341248:=by decide
  by_cases e:rg (aL p q)=283726776524341248
  ·right
   have:=fP a1 (show au 283726776524341248 by unfold au;omega) ca (by decide) (by rw[tq a2,k9];exact e)
   rwa [w9] at this
  ·left
   have:=fO a1 (show au 283726776524341248 by unfold au;omega) ca (by decide) (by rw[tq a2,k9];omega)
   rwa [w9] at this
 have o1:=iY hp p0
 have o2:=iY hq q0
 unfold bW
 generalize wd (jj (aL p q) (cT p q (neg (aL p q))))=U at *
 generalize wd (jn (aL p q) (cT p q (neg (aL p q))))=V at *
 generalize wd (rg (aL p q))=A at *
 generalize wd (neg (aL p q))=M at *
 generalize wd (aL p q)=N at *
 generalize wd p=x at *
 generalize wd q=y at *
 clear hw1 hL hd
 rcases o1 with o1|o1<;>rcases o2 with o2|o2<;>rcases od with od|od
 all_goals
  go_enter func66,ntmps66
  go_wp2_with fail
  refine(CA.out _).mono ?_
  rintro _ wz ⟨rfl,hwz⟩
  replace hwz:=hwz.symm
  subst hwz
  go_wp2_with fail
  refine(CB.out _).mono ?_
  rintro _ w3 ⟨rfl,hb3⟩
  obtain⟨s0,s1,e0,e1,hbe⟩:=tD (aa hb1 hb3) U V
  go_wp2
  refine bodyPost_ret (v:=.agg #[.float .f64 U,.float .f64 V]) (by simp[results,results66,go_sem,e0,e1]) rfl ⟨rfl,hbe⟩
theorem mU {p B:Nat} {x0 x1:Value} {W W':World} (h:p<B∧B<=W.heap.size∧W.cell? ⟨p,0,none⟩=some x0∧W.cell? ⟨p,1,none⟩=some x1) (hb:Below W.heap.size W W') :
  p<B∧B<=W'.heap.size∧W'.cell? ⟨p,0,none⟩=some x0∧W'.cell? ⟨p,1,none⟩=some x1 :=
 ⟨h.1,Nat.le_trans h.2.1 hb.size,af h.2.2.1 hb,af h.2.2.2 hb⟩
theorem eI.below' {w w':World} (h:eI w) (hb:Below w.heap.size w w'):eI w' :=
 ⟨af h.a0 hb,af h.a1 hb,af h.a2 hb,trivial,trivial,trivial⟩
theorem kl {lo hi:Int} (hl:nn lo) (hh:nn hi) (w:World) (L:eI w) :
    Calls prog 42 #[bW lo hi] w fun e w'=>e=.returned (cQ (aH lo) (aH hi))∧Below w.heap.size w w':=by
  unfold bW cQ
  have CO1:Hid (∀ W,Calls prog 65 #[.float .f64 (wd lo)] W fun e w'=>e=.returned (.int .i64 lo)∧w'=W):=fun W=>by
    have:=kW lo W hl.1
    rw[show bs lo=lo from if_neg hl.2] at this
    exact this
  have CO2:Hid (∀ W,Calls prog 65 #[.float .f64 (wd hi)] W fun e w'=>e=.returned (.int .i64 hi)∧w'=W):=fun W=>by
    have:=kW hi W hh.1
    rw[show bs hi=hi from if_neg hh.2] at this
    exact this
  have CX':Hid (∀ W,eI W->Calls prog 64 #[.int .i64 lo] W fun e w'=>e=.returned (.int .i64 (aH lo))∧Gr W w'):=fun W LW=>nZ lo W LW
  have CY':Hid (∀ W,eI W->Calls prog 64 #[.int .i64 hi] W fun e w'=>e=.returned (.int .i64 (aH hi))∧Gr W w'):=fun W LW=>nZ hi W LW
  generalize aH lo=X at *
  generalize aH hi=Y at *
  generalize wd lo=A at *
  generalize wd hi=B at *
  have hb2:=ax w (.cells #[.float .f64 A,.float .f64 B] 64) (.cells #[.int .i64 0,.int .i64 0] 23)
  have p0:=bv w (.cells #[.float .f64 A,.float .f64 B] 64) (.cells #[.int .i64 0,.int .i64 0] 23)
  have p1:=bh w (.cells #[.float .f64 A,.float .f64 B] 64) (.cells #[.int .i64 0,.int .i64 0] 23)
  have hs:=gR w (.cells #[.float .f64 A,.float .f64 B] 64) (.cells #[.int .i64 0,.int .i64 0] 23)
  have c0:=ab p0 0 rfl
  have c1:=ab p0 1 rfl
  have hbd:=hb2.drew
  have L1:=L.below' hbd
  clear hl hh
  go_enter func42,ntmps42
  go_wp2_with fail
  generalize (w.alloc (.cells #[.float .f64 A,.float .f64 B] 64)).alloc (.cells #[.int .i64 0,.int .i64 0] 23)=w1 at *
  have hc:w.heap.size<w.heap.size+1∧w.heap.size+1<=w1.drew.heap.size∧w1.drew.cell? ⟨w.heap.size,0,none⟩=some (.float .f64 A)∧w1.drew.cell? ⟨w.heap.size,1,none⟩=some (.float .f64 B):=⟨by omega,by show _<=w1.heap.size;omega,c0,c1⟩
  have hd:w1.drew.heap[w.heap.size+1]?=some (.cells #[.int .i64 0,.int .i64 0] 23 (0,0)):=p1
  go_region_held3 (fun W=>w.heap.size<w.heap.size+1∧w.heap.size+1<=W.heap.size∧W.cell? ⟨w.heap.size,0,none⟩=some (.float .f64 A)∧W.cell? ⟨w.heap.size,1,none⟩=some (.float .f64 B))
    (first|assumption|(repeat (first|exact hc|exact hc1|exact hc2|refine oi (by omega) ?_)))
    (first
      | (go_at_call 65;have _t:=LA;refine(CO2.out _).mono ?_;rintro _ _ ⟨rfl,rfl⟩)
      | (go_at_call 65;refine(CO1.out _).mono ?_;rintro _ _ ⟨rfl,rfl⟩)
      | (go_at_call 64;have _t:=LA;refine(CY'.out _ LA).mono ?_;rintro _ w3 ⟨rfl,g3⟩;have hc2:=mU hc1 g3.be;have d2:=(g3.be.block _ (aGe d1).1).trans d1;have d3:=ag d2 0 (.int .i64 X);have d4:=ag d3 1 (.int .i64 Y);have f0:=ab d2 0 rfl;have z0:=ak d2 0;have f1:=ab d3 1 rfl;have z1:=ak d3 1)
      | (go_at_call 64; refine (CX'.out _ L1).mono ?_; rintro _ w2 ⟨rfl,g2⟩; have LA:=L1.grown g2; have hc1:=mU hc g2.be; have d1:=(g2.be.block _ (Array.getElem?_eq_some_iff.1 hd).1).trans hd))
  have e0:=ab d4 0 rfl
  have e1:=ab d4 1 rfl
  have hbe:Below w.heap.size w ((w3.setCell ⟨w.heap.size+1,0,none⟩ (.int .i64 X)).setCell ⟨w.heap.size+1,1,none⟩ (.int .i64 Y)):=((aa hbd (aa g2.be g3.be)).setCell (p:=⟨w.heap.size+1,0,none⟩) (Nat.le_succ _) _).setCell (p:=⟨w.heap.size+1,1,none⟩) (Nat.le_succ _) _
  clear d1 d2 d3 d4 f0 f1 z0 z1 hd hc hc1 hc2
  generalize (w3.setCell ⟨w.heap.size+1,0,none⟩ (.int .i64 X)).setCell ⟨w.heap.size+1,1,none⟩ (.int .i64 Y)=wy at *
  go_wp2
  refine bodyPost_ret (v:=.agg #[.int .i64 X,.int .i64 Y]) (by simp[results,results42,go_sem,e0,e1]) rfl ⟨rfl,hbe⟩
theorem u9 {lo hi:Int} (hl:au lo) (hh:au hi) (w:World) :
  Calls prog 16 #[cQ lo hi] w fun e w'=>e=.returned (.bool (br lo hi))∧Below w.heap.size w w':=by
 have C1:=fun W=>el lo hi W
 have C2:=fun W=>dF hl hh W
 unfold cQ bW at *
 have hb:=ae w (.cells #[.int .i64 lo,.int .i64 hi] 23)
 go_enter func16,ntmps16
 go_wp2_with fail
 generalize w.alloc (.cells #[.int .i64 lo,.int .i64 hi] 23)=wx at *
 refine(C1 _).mono ?_
 rintro _ w1 ⟨rfl,hb1⟩
 go_wp2_with fail
 refine(C2 _).mono ?_
 rintro _ w2 ⟨rfl,hb2⟩
 go_wp2
 go_ret
 exact⟨rfl,aa hb (aa hb1 hb2)⟩
def mr (ok:Bool) (v:Value):Value:=if ok then v else .agg #[.int .i64 0,.int .i64 0]
def jq (ok:Bool):Int:=if ok then 0 else 1
theorem gL {n:Nat} (w:World) (o:Obj) (h:n=w.heap.size):(w.alloc o).heap[n]?=some o:=by
 subst h
 show(w.heap.push o)[w.heap.size]?=_
 simp
theorem sr (w:World) (o0 o1 o2 o3 o4 o5:Obj):((((((w.alloc o0).alloc o1).alloc o2).alloc o3).alloc o4).alloc o5).drew.drew.drew.heap=(((((w.heap.push o0).push o1).push o2).push o3).push o4).push o5:=rfl
theorem Cb {n m:Nat} {w:World} {o0 o1 o2 o3 o4 o5:Obj} (hs:w.heap.size=m) (h:n=m+0):(((((((w.alloc o0).alloc o1).alloc o2).alloc o3).alloc o4).alloc o5).drew.drew.drew).heap[n]?=some o0:=by
 subst hs
 subst h
 rw[sr]
 rw[Array.getElem?_push,if_neg (by first|(simp;done)|(simp;omega))]
 rw[Array.getElem?_push,if_neg (by first|(simp;done)|(simp;omega))]
 rw[Array.getElem?_push,if_neg (by first|(simp;done)|(simp;omega))]
 rw[Array.getElem?_push,if_neg (by first|(simp;done)|(simp;omega))]
 rw[Array.getElem?_push,if_neg (by first|(simp;done)|(simp;omega))]
 rw[Array.getElem?_push,if_pos (by simp)]
theorem Cc {n m:Nat} {w:World} {o0 o1 o2 o3 o4 o5:Obj} (hs:w.heap.size=m) (h:n=m+1):(((((((w.alloc o0).alloc o1).alloc o2).alloc o3).alloc o4).alloc o5).drew.drew.drew).heap[n]?=some o1:=by
 subst hs
 subst h
 rw[sr]
 rw[Array.getElem?_push,if_neg (by first|(simp;done)|(simp;omega))]
 rw[Array.getElem?_push,if_neg (by first|(simp;done)|(simp;omega))]
 rw[Array.getElem?_push,if_neg (by first|(simp;done)|(simp;omega))]
 rw[Array.getElem?_push,if_neg (by first|(simp;done)|(simp;omega))]
 rw[Array.getElem?_push,if_pos (by simp)]
theorem Cd {n m:Nat} {w:World} {o0 o1 o2 o3 o4 o5:Obj} (hs:w.heap.size=m) (h:n=m+2):(((((((w.alloc o0).alloc o1).alloc o2).alloc o3).alloc o4).alloc o5).drew.drew.drew).heap[n]?=some o2:=by
 subst hs
 subst h
 rw[sr]
 rw[Array.getElem?_push,if_neg (by first|(simp;done)|(simp;omega))]
 rw[Array.getElem?_push,if_neg (by first|(simp;done)|(simp;omega))]
 rw[Array.getElem?_push,if_neg (by first|(simp;done)|(simp;omega))]
 rw[Array.getElem?_push,if_pos (by simp)]
theorem Ce {n m:Nat} {w:World} {o0 o1 o2 o3 o4 o5:Obj} (hs:w.heap.size=m) (h:n=m+3):(((((((w.alloc o0).alloc o1).alloc o2).alloc o3).alloc o4).alloc o5).drew.drew.drew).heap[n]?=some o3:=by
 subst hs
 subst h
 rw[sr]
 rw[Array.getElem?_push,if_neg (by first|(simp;done)|(simp;omega))]
 rw[Array.getElem?_push,if_neg (by first|(simp;done)|(simp;omega))]
 rw[Array.getElem?_push,if_pos (by simp)]
theorem Cf {n m:Nat} {w:World} {o0 o1 o2 o3 o4 o5:Obj} (hs:w.heap.size=m) (h:n=m+4):(((((((w.alloc o0).alloc o1).alloc o2).alloc o3).alloc o4).alloc o5).drew.drew.drew).heap[n]?=some o4:=by
 subst hs
 subst h
 rw[sr]
 rw[Array.getElem?_push,if_neg (by first|(simp;done)|(simp;omega))]
 rw[Array.getElem?_push,if_pos (by simp)]
theorem Cg {n m:Nat} {w:World} {o0 o1 o2 o3 o4 o5:Obj} (hs:w.heap.size=m) (h:n=m+5):(((((((w.alloc o0).alloc o1).alloc o2).alloc o3).alloc o4).alloc o5).drew.drew.drew).heap[n]?=some o5:=by
 subst hs
 subst h
 rw[sr]
 rw[Array.getElem?_push,if_pos (by simp)]
theorem Ch {w:World} {o0 o1 o2 o3 o4 o5:Obj}:Below w.heap.size w (((((((w.alloc o0).alloc o1).alloc o2).alloc o3).alloc o4).alloc o5).drew.drew.drew) :=
 (aa (ax w o0 o1) (aa (ax _ o2 o3) (ax _ o4 o5))).drew.drew.drew
theorem nI {a b B:Nat} {x0 x1 x2 x3:Value} {W W':World} (h:(a<B∧b<B∧B<=W.heap.size)∧W.cell? ⟨a,0,none⟩=some x0∧W.cell? ⟨a,1,none⟩=some x1∧W.cell? ⟨b,0,none⟩=some x2∧W.cell? ⟨b,1,none⟩=some x3) (hb:Below W.heap.size W W') :
  (a<B∧b<B∧B<=W'.heap.size)∧W'.cell? ⟨a,0,none⟩=some x0∧W'.cell? ⟨a,1,none⟩=some x1∧W'.cell? ⟨b,0,none⟩=some x2∧W'.cell? ⟨b,1,none⟩=some x3 :=
 ⟨⟨h.1.1,h.1.2.1,Nat.le_trans h.1.2.2 hb.size⟩,af h.2.1 hb,af h.2.2.1 hb,af h.2.2.2.1 hb,af h.2.2.2.2 hb⟩
theorem xk {a b B:Nat} {x0 x1 x2 x3:Value} {W:World} (o:Obj) (h:(a<B∧b<B∧B<=W.heap.size)∧W.cell? ⟨a,0,none⟩=some x0∧W.cell? ⟨a,1,none⟩=some x1∧W.cell? ⟨b,0,none⟩=some x2∧W.cell? ⟨b,1,none⟩=some x3) :
  (a<B∧b<B∧B<=(W.alloc o).heap.size)∧(W.alloc o).cell? ⟨a,0,none⟩=some x0∧(W.alloc o).cell? ⟨a,1,none⟩=some x1∧(W.alloc o).cell? ⟨b,0,none⟩=some x2∧(W.alloc o).cell? ⟨b,1,none⟩=some x3:=nI h (ae _ _)
theorem ss {a b B:Nat} {x0 x1 x2 x3:Value} {W:World} (h:(a<B∧b<B∧B<=W.heap.size)∧W.cell? ⟨a,0,none⟩=some x0∧W.cell? ⟨a,1,none⟩=some x1∧W.cell? ⟨b,0,none⟩=some x2∧W.cell? ⟨b,1,none⟩=some x3) :
  (a<B∧b<B∧B<=W.drew.heap.size)∧W.drew.cell? ⟨a,0,none⟩=some x0∧W.drew.cell? ⟨a,1,none⟩=some x1∧W.drew.cell? ⟨b,0,none⟩=some x2∧W.drew.cell? ⟨b,1,none⟩=some x3:=h
theorem vd (F:Nat) {a b c d x y:Int} (ha:au a) (hb:au b) (hc:au c) (hd:au d) (w:World) (L:eI w)
    (hE:∀ (cap:Array Value) (w:World),(callFunc F cap).run prog w=.ok (.enter F cap) w)
    (CF:Hid (br a b=true->br c d=true->nn x∧nn y∧∀ W,eI W->Calls prog F #[bW a b,bW c d] W fun e w'=>e=.returned (bW x y)∧Below W.heap.size W w')) :
    Calls prog 35 #[cQ a b,cQ c d,.func (.func F) #[] #[]] w fun e w'=>e=.returned (.tuple #[mr (br a b&&br c d) (cQ (aH x) (aH y)),.int .i64 (jq (br a b&&br c d))])∧Below w.heap.size w w':=by
  have R1:=fun W=>lj a b W
  have R2:=fun W=>lj c d W
  have V1:Hid (∀ W,Calls prog 38 #[bW a b] W fun e w'=>e=.returned (.bool (br a b))∧Below W.heap.size W w'):=fun W=>dF ha hb W
  have V2:Hid (∀ W,Calls prog 38 #[bW c d] W fun e w'=>e=.returned (.bool (br c d))∧Below W.heap.size W w'):=fun W=>dF hc hd W
  unfold cQ bW at *
  obtain⟨q0,q1,q2,hs,hb3⟩:=oU w (.cells #[.int .i64 a,.int .i64 b] 23) (.cells #[.int .i64 c,.int .i64 d] 23) (.cells #[.int .i64 0,.int .i64 0] 23)
  go_enter func35,ntmps35
  go_wp2_with fail
  have k0:=ab q0 0 rfl
  have k1:=ab q0 1 rfl
  have k2:=ab q1 0 rfl
  have k3:=ab q1 1 rfl
  generalize ((w.alloc (.cells #[.int .i64 a,.int .i64 b] 23)).alloc (.cells #[.int .i64 c,.int .i64 d] 23)).alloc (.cells #[.int .i64 0,.int .i64 0] 23)=wx at *
  have hst:∀ (p:Addr) (n:Nat) (m:Mode) (w:World),(store p (.float .f64 n) m).run prog w=stored prog w p (.float .f64 n) m:=fun p n m w=>run_store _ w p _ m rfl
  have hc:(w.heap.size<w.heap.size+3∧w.heap.size+1<w.heap.size+3∧w.heap.size+3<=wx.drew.heap.size)∧wx.drew.cell? ⟨w.heap.size,0,none⟩=some (.int .i64 a)∧wx.drew.cell? ⟨w.heap.size,1,none⟩=some (.int .i64 b)∧wx.drew.cell? ⟨w.heap.size+1,0,none⟩=some (.int .i64 c)∧wx.drew.cell? ⟨w.heap.size+1,1,none⟩=some (.int .i64 d):=⟨⟨by omega,by omega,by show _<=wx.heap.size;omega⟩,k0,k1,k2,k3⟩
  rename_i Q' K haK
  have H:∀ (gi gj:Nat) (W:World),W.heap[gi]?=some (.cells #[.float .f64 (wd a),.float .f64 (wd b)] 64 (0,0))->W.heap[gj]?=some (.cells #[.float .f64 (wd c),.float .f64 (wd d)] 64 (0,0))->Below wx.heap.size wx W ->
      Exit.then K Q' Exit.normal { tmps:=#[.agg #[.int .i64 a,.int .i64 b],.agg #[.int .i64 c,.int .i64 d],.func (.func F) #[] #[],.pointer (some ⟨w.heap.size,0,none⟩),.pointer (some ⟨w.heap.size+1,0,none⟩),undef,.pointer (some ⟨w.heap.size+1+1,0,none⟩),.int .i64 0,.pointer (some ⟨gi,0,none⟩),.pointer (some ⟨gj,0,none⟩),.agg #[.int .i64 a,.int .i64 b],.agg #[.float .f64 (wd a),.float .f64 (wd b)],.agg #[.int .i64 c,.int .i64 d],.agg #[.float .f64 (wd c),.float .f64 (wd d)],undef,undef,undef,undef,undef,undef,undef,undef,undef,undef,undef,undef,undef,undef],defers:=[] } W:=by
    intro gi gj W hgi hgj hbW
    clear hc k0 k1 k2 k3 q0 q1 R1 R2 hst
    have i0:=ab hgi 0 rfl
    have i1:=ab hgi 1 rfl
    have j0:=ab hgj 0 rfl
    have j1:=ab hgj 1 rfl
    go_wp2_with fail
    refine(V1.out _).mono ?_
    rintro _ w1 ⟨rfl,hb4⟩
    have hgi1:=(hb4.block _ (aGe hgi).1).trans hgi
    have hgj1:=(hb4.block _ (aGe hgj).1).trans hgj
    clear i0 i1 j0 j1
    have j0:=ab hgj1 0 rfl
    have j1:=ab hgj1 1 rfl
    by_cases h1:br a b=false
    · rw[h1]
      have hbR:=aa hbW hb4
      have d2:=(hbR.block _ (aGe q2).1).trans q2
      have d3:=ag d2 0 (.int .i64 0)
      have d4:=ag d3 1 (.int .i64 0)
      have f0:=ab d2 0 rfl
      have z0:=ak d2 0
      have f1:=ab d3 1 rfl
      have z1:=ak d3 1
      have e0:=ab d4 0 rfl
      have e1:=ab d4 1 rfl
      have hbe:=((aa hb3 hbR).setCell (p:=⟨w.heap.size+1+1,0,none⟩) (show w.heap.size<=w.heap.size+1+1 by omega) (.int .i64 0)).setCell (p:=⟨w.heap.size+1+1,1,none⟩) (show w.heap.size<=w.heap.size+1+1 by omega) (.int .i64 0)
      clear d2 d3 d4
      go_wp2
      refine bodyPost_ret (v:=.tuple #[.agg #[.int .i64 0,.int .i64 0],.int .i64 1]) (by simp[results,results35,go_sem,e0,e1]) rfl ⟨by rw[h1];rfl,hbe⟩
    replace h1:br a b=true:=by simpa using h1
    rw[h1]
    go_wp2_with fail
    refine(V2.out _).mono ?_
    rintro _ w2 ⟨rfl,hb5⟩
    have hgi2:=(hb5.block _ (aGe hgi1).1).trans hgi1
    have hgj2:=(hb5.block _ (aGe hgj1).1).trans hgj1
    clear j0 j1
    have i0:=ab hgi2 0 rfl
    have i1:=ab hgi2 1 rfl
    have j0:=ab hgj2 0 rfl
    have j1:=ab hgj2 1 rfl
    have hbR:=aa hbW (aa hb4 hb5)
    by_cases h2:br c d=false
    · rw[h2]
      have d2:=(hbR.block _ (aGe q2).1).trans q2
      have d3:=ag d2 0 (.int .i64 0)
      have d4:=ag d3 1 (.int .i64 0)
      have f0:=ab d2 0 rfl
      have z0:=ak d2 0
      have f1:=ab d3 1 rfl
      have z1:=ak d3 1
      have e0:=ab d4 0 rfl
      have e1:=ab d4 1 rfl
      have hbe:=((aa hb3 hbR).setCell (p:=⟨w.heap.size+1+1,0,none⟩) (show w.heap.size<=w.heap.size+1+1 by omega) (.int .i64 0)).setCell (p:=⟨w.heap.size+1+1,1,none⟩) (show w.heap.size<=w.heap.size+1+1 by omega) (.int .i64 0)
      clear d2 d3 d4
      go_wp2
      refine bodyPost_ret (v:=.tuple #[.agg #[.int .i64 0,.int .i64 0],.int .i64 1]) (by simp[results,results35,go_sem,e0,e1]) rfl ⟨by rw[h2,Bool.and_false];rfl,hbe⟩
    replace h2:br c d=true:=by simpa using h2
    rw[h2]
    obtain⟨nx,ny,CF'⟩:=CF.out h1 h2
    have L2:=L.below' (aa hb3 hbR)
    have CT:=fun W LW=>kl nx ny W LW
    unfold bW cQ at CT
    go_wp2_with fail
    refine(CF' _ L2).mono ?_
    rintro _ w3 ⟨rfl,hb6⟩
    have L3:=L2.below' hb6
    go_wp2_with fail
    refine(CT _ L3).mono ?_
    rintro _ w4 ⟨rfl,hb7⟩
    replace hbR:=aa hbR (aa hb6 hb7)
    have d2:=(hbR.block _ (aGe q2).1).trans q2
    generalize hX:aH x=X at *
    generalize hY:aH y=Y at *
    have d3:=ag d2 0 (.int .i64 X)
    have d4:=ag d3 1 (.int .i64 Y)
    have f0:=ab d2 0 rfl
    have z0:=ak d2 0
    have f1:=ab d3 1 rfl
    have z1:=ak d3 1
    have e0:=ab d4 0 rfl
    have e1:=ab d4 1 rfl
    have hbe:=((aa hb3 hbR).setCell (p:=⟨w.heap.size+1+1,0,none⟩) (show w.heap.size<=w.heap.size+1+1 by omega) (.int .i64 X)).setCell (p:=⟨w.heap.size+1+1,1,none⟩) (show w.heap.size<=w.heap.size+1+1 by omega) (.int .i64 Y)
    clear d2 d3 d4 CT CF CF'
    go_wp2
    refine bodyPost_ret (v:=.tuple #[.agg #[.int .i64 X,.int .i64 Y],.int .i64 0]) (by simp[results,results35,go_sem,e0,e1]) rfl ⟨by rw[h1,h2,hX,hY];rfl,hbe⟩
  go_region_held3 (fun W=>(w.heap.size<w.heap.size+3∧w.heap.size+1<w.heap.size+3∧w.heap.size+3<=W.heap.size)∧W.cell? ⟨w.heap.size,0,none⟩=some (.int .i64 a)∧W.cell? ⟨w.heap.size,1,none⟩=some (.int .i64 b)∧W.cell? ⟨w.heap.size+1,0,none⟩=some (.int .i64 c)∧W.cell? ⟨w.heap.size+1,1,none⟩=some (.int .i64 d))
    (first|assumption|(repeat (first|exact hc|refine ss ?_|refine xk _ ?_|refine uL (by first|omega|(simp;omega)) ?_)))
    (first
      | (go_at_call 37;have _t:=T1;refine(R2 _).mono ?_;rintro _ _ ⟨rfl,rfl⟩)
      | (go_at_call 37; refine (R1 _).mono ?_; rintro _ _ ⟨rfl,rfl⟩; have T1:True:=trivial))
  all_goals
    refine H _ _ _ ?_ ?_ Ch
    all_goals first
      | exact Cb hs rfl
      | exact Cc hs rfl
      | exact Cd hs rfl
      | exact Ce hs rfl
      | exact Cf hs rfl
      | exact Cg hs rfl
theorem qm {p q way:Int} (rp:au p) (rq:au q) (hp:aB p=true) (hq:aB q=true) (h:bL p q≠0) (hw:way≠0):dG way p q=cq way (bL p q):=by
 unfold dG
 have n1:¬ (way=0∨(aB p&&aB q)=false):=fun k=>by
  rcases k with k|k
  ·exact hw k
  ·rw[hp,hq] at k;cases k
 rw[if_neg n1,if_pos h]
theorem dp {p q:Int} (hp:nn p) (hq:nn q):nn (dT p q)∧nn (eJ p q):=by
 unfold dT eJ
 by_cases h0:rg p=0∨rg q=0
 ·rw[if_pos h0,if_pos h0];exact⟨cP.1,cP.1⟩
 ·rw[if_neg h0,if_neg h0]
  by_cases hi:rg p=9218868437227405312∨rg q=9218868437227405312
  ·rw[if_pos hi,if_pos hi];exact⟨gJ (by decide) (by decide),gJ (by decide) (by decide)⟩
  ·rw[if_neg hi,if_neg hi]
   have pp:=cy hp (fun k=>hi (.inl k))
   have pq:=cy hq (fun k=>hi (.inr k))
   have hz:=mQ hp.1 hq.1 pp pq (fun k=>h0 (.inl k)) (fun k=>h0 (.inr k))
   exact⟨⟨(iJ 1 hz).1,(iJ 1 hz).2⟩,⟨(iJ 2 hz).1,(iJ 2 hz).2⟩⟩
theorem oz {p q:Int} (hp:nn p) (hq:nn q) (w:World) (H:aA w) :
  Calls prog 66 #[.float .f64 (wd p),.float .f64 (wd q)] w fun e w'=>e=.returned (bW (dT p q) (eJ p q))∧Below w.heap.size w w':=by
 by_cases h0:rg p=0∨rg q=0
 ·have e1:dT p q=0:=by unfold dT;rw[if_pos h0]
  have e2:eJ p q=0:=by unfold eJ;rw[if_pos h0]
  rw[e1,e2]
  exact qk hp hq h0 w
 ·have p0:rg p≠0:=fun k=>h0 (.inl k)
  have q0:rg q≠0:=fun k=>h0 (.inr k)
  by_cases hi:rg p=9218868437227405312∨rg q=9218868437227405312
  ·obtain⟨f1,f2⟩:=yW hp hq p0 q0 hi
   have hn:nn (aL p q):=by rw[f1];exact gJ (by decide) (by decide)
   have hd:283726776524341248<=rg (aL p q):=by rw[f1,(cV (by decide) (by decide)).2.1];decide
   have:=mT hp hq p0 q0 hn hd w
   rw[f2,f1] at this
   have e1:dT p q=aw (aU p q) 9218868437227405312:=by unfold dT;rw[if_neg h0,if_pos hi]
   have e2:eJ p q=aw (aU p q) 9218868437227405312:=by unfold eJ;rw[if_neg h0,if_pos hi]
   have b1:jj (aw (aU p q) 9218868437227405312) 9221120237041090561=aw (aU p q) 9218868437227405312:=by unfold jj;rw[show bP 9221120237041090561 0=false by decide];rfl
   have b2:jn (aw (aU p q) 9218868437227405312) 9221120237041090561=aw (aU p q) 9218868437227405312:=by unfold jn;rw[show bP 9221120237041090561 0=false by decide,show bP 0 9221120237041090561=false by decide];rfl
   rw[b1,b2] at this
   rw[e1,e2]
   exact this
  ·have pp:=cy hp (fun k=>hi (.inl k))
   have pq:=cy hq (fun k=>hi (.inr k))
   have hz:=mQ hp.1 hq.1 pp pq p0 q0
   have e1:dT p q=cq 1 (bL p q):=by unfold dT;rw[if_neg h0,if_neg hi]
   have e2:eJ p q=cq 2 (bL p q):=by unfold eJ;rw[if_neg h0,if_neg hi]
   have hN:=oq hp.1 hq.1 pp pq hz
   have hn:nn (aL p q):=by rw[hN];exact⟨(e9 hz).1,(e9 hz).2⟩
   rw[e1,e2]
   by_cases hd:rg (aL p q)<283726776524341248
   ·have:=ql hp hq p0 q0 hn hd w H
    rwa [qm hp.1 hq.1 pp pq hz (by decide),qm hp.1 hq.1 pp pq hz (by decide)] at this
   ·have:=mT hp hq p0 q0 hn (by omega) w
    obtain⟨b1,b2⟩:=AQ hp.1 hq.1 pp pq p0 q0 (by omega)
    rwa [b1,b2] at this
theorem fY {w W:World} (h:Below w.heap.size w W) (o:Obj):Below w.heap.size w (W.alloc o):=h.alloc h.size o
theorem ac {w W:World} (h:Below w.heap.size w W) {g:Nat} {X:Obj} (k:w.heap[g]?=some X):W.heap[g]?=some X:=(h.block _ (aGe k).1).trans k
theorem st (x:Nat) (w:World) :
  Calls prog 78 #[.float .f64 x,.float .f64 0] w fun e w'=>e=.returned (.agg #[.float .f64 x,.float .f64 x])∧w'=w.alloc (.cells #[.float .f64 x,.float .f64 x] 64):=by
 have hst:∀ (p:Addr) (n:Nat) (m:Mode) (w:World),(store p (.float .f64 n) m).run prog w=stored prog w p (.float .f64 n) m:=fun p n m w=>run_store _ w p _ m rfl
 have o:FloatKind.f64.format.order 0 0=some .eq:=by decide +kernel
 have hg:(w.alloc (.cells #[.float .f64 x,.float .f64 x] 64)).heap[w.heap.size]?=some (.cells #[.float .f64 x,.float .f64 x] 64 (0,0)):=gL _ _ rfl
 have e0:=ab hg 0 rfl
 have e1:=ab hg 1 rfl
 go_enter func78,ntmps78
 go_wp2
 refine bodyPost_ret (v:=.agg #[.float .f64 x,.float .f64 x]) (by simp[results,results78,go_sem,e0,e1]) rfl ⟨rfl,rfl⟩
end Go.Proofs.YtkkpppgfoilgmaaGreatDoor
