/-
  Parts of the proof, one behind another.
-/
import Derived.Test.YtinccocmgkjalaaGreatDoorPart22
import Derived.Test.YtinccocmgkjalaaGreatDoorPart14
import Derived.Test.YtinccocmgkjalaaGreatDoorPart16
import Derived.Test.YtinccocmgkjalaaGreatDoorPart12
import Derived.Test.YtinccocmgkjalaaGreatDoorPart19
import Derived.Test.YtinccocmgkjalaaGreatDoorPart9
import Derived.Test.YtinccocmgkjalaaGreatDoorPart10
import Derived.Test.YtinccocmgkjalaaGreatDoorPart17
import Derived.Test.YtinccocmgkjalaaGreatDoorPart21
set_option linter.unusedVariables false
set_option linter.unusedSimpArgs false
namespace Go.Proofs.YtinccocmgkjalaaGreatDoor
open Go Go.RowKit Go.Proofs.YtinccocmgkjalaaGreatDoor.M
theorem told_finM {p:Int} (h:pok p=true):told p=p:=by unfold told; rw [if_neg (q_fin h)]
set_option maxRecDepth 100000 in
theorem aFloats {p q:Int} (hp:Mz p) (hq:Mz q) (w:World) (H:Hold4 w) :
  Calls Tryz.prog 88 #[.int .i64 p,.int .i64 q] w fun r w'=>r=.returned (.tuple #[.float .f64 (wd (fsum p (neg q))),.float .f64 (wd (sL p (neg q)))])∧Below w.heap.size w w':=by
 obtain ⟨n1,n2,n3⟩:=neg_facts hq.1 hq.2.1
 have CT:Hid (∀ W,Hold4 W->Calls Tryz.prog 121 #[.int .i64 p,.int .i64 q] W fun e w'=>e=.returned (.tuple #[.int .i64 (fsum p (neg q)),.int .i64 (sL p (neg q)),.bool (pok (sL p (neg q)))])∧Below W.heap.size W w'):=fun W h=>by
  have:=twoDiff_any hp.1 hq.1 W h.env.lays
  rw [told_finM hp.2.1,told_finM n2] at this
  exact this
 have C1:Hid (∀ W,Calls Tryz.prog 32 #[.int .i64 (fsum p (neg q))] W fun e w'=>e=.returned (.float .f64 (wd (fsum p (neg q))))∧w'=W):=fun W=>bitsFloat _ W
 have C2:Hid (∀ W,Calls Tryz.prog 32 #[.int .i64 (sL p (neg q))] W fun e w'=>e=.returned (.float .f64 (wd (sL p (neg q))))∧w'=W):=fun W=>bitsFloat _ W
 clear hp hq n1 n2 n3
 generalize wd (fsum p (neg q))=Wa at *
 generalize wd (sL p (neg q))=Wb at *
 generalize pok (sL p (neg q))=Wc at *
 generalize fsum p (neg q)=a at *
 generalize sL p (neg q)=b at *
 go_enter Tryz.func88,Tryz.ntmps88
 go_wp2_with fail
 refine (CT.out _ H).mono ?_
 rintro _ y1 ⟨rfl,hw1⟩
 go_wp2_with fail
 refine (C1.out _).mono ?_
 rintro _ wz ⟨rfl,hwz⟩
 replace hwz:=hwz.symm
 subst hwz
 go_wp2_with fail
 refine (C2.out _).mono ?_
 rintro _ wz ⟨rfl,hwz⟩
 replace hwz:=hwz.symm
 subst hwz
 go_wp2
 exact bodyPost_ret (v:=.tuple #[.float .f64 Wa,.float .f64 Wb]) (by simp [results,Tryz.results88,go_sem]) rfl ⟨rfl,hw1⟩
theorem nil_order {f:Int} (hf:rng f) (pf:pok f=true):(rg f=0->FloatKind.f64.format.order (wd f) 0=some .eq)∧(¬ rg f=0->FloatKind.f64.format.order (wd f) 0=some .lt∨FloatKind.f64.format.order (wd f) 0=some .gt):=by
 have r0:rng 0:=by unfold rng; decide
 have p0:pok 0=true:=by decide
 have k0:key 0=0:=by decide
 have kz:key f=0 ↔ rg f=0:=by
  unfold key rg
  unfold rng at hf
  split <;> omega
 refine ⟨fun h=>?_,fun h=>?_⟩
 ·have:=q_eq hf r0 (q_fin pf) (q_fin p0) (by rw [k0]; exact kz.2 h)
  rw [wd_nil] at this
  exact this
 ·rcases Int.lt_trichotomy (key f) 0 with g | g | g
  ·have:=q_lt hf r0 (q_fin pf) (q_fin p0) (by rw [k0]; exact g)
   rw [wd_nil] at this
   exact .inl this
  ·exact absurd (kz.1 g) h
  ·have:=q_gt hf r0 (q_fin pf) (q_fin p0) (by rw [k0]; exact g)
   rw [wd_nil] at this
   exact .inr this
def s0L:Ls:=⟨0,fun _=>0⟩
theorem grow_bel {N:Nat} {w w1:World} {o:Obj} {v:Value} {s:Nat} {d:Nat->Int} (h:Out N w v s d) (g:(w.alloc o).grownBy w1 v.ownBlock) (hN:N <= w.heap.size):Below N w w1:=by
 have ha:=bel_alloc w o
 refine ⟨g.os.trans ha.os,g.tape.trans ha.tape,g.output.trans ha.output,Nat.le_trans ha.size g.size,fun k hk=>?_⟩
 have hk':=Nat.lt_of_lt_of_le hk hN
 refine (g.block k (Nat.lt_of_lt_of_le hk' ha.size) fun e=>?_).trans (ha.block k hk')
 have:=(h.ge e.symm).1
 omega
theorem add_out {B:Nat} {w:World} {v:Value} {s:Ls} {b:Int} (h0:¬ rg b=0) (h:Out B w v (s.n + 1) (cat s.d s.n (fun _=>b))):Out B w v (s.add b).n (s.add b).d:=by
 have e:s.add b=⟨s.n + 1,upd s.d s.n b⟩:=by unfold Ls.add; rw [if_neg h0]
 rw [e]
 refine h.congr fun i hi=>?_
 by_cases e:i < s.n
 ·simp [cat,e,upd_other s.d _ (show i ≠ s.n by omega)]
 ·obtain rfl:i=s.n:=by omega
  simp [cat,upd_same]
def ptL (h t:Int):Nat->Ls
 | 0=>s0L
 | 1=>s0L.add t
 | _=>(s0L.add t).add h
def ptF (h t:Int) (k:Nat):Int:=if k=0 then t else h
theorem ptL_succ (h t:Int) {k:Nat} (hk:k < 2):ptL h t (k + 1)=(ptL h t k).add (ptF h t k):=by
 match k,hk with
 | 0,_=>rfl
 | 1,_=>rfl
theorem ptL_n (h t:Int):∀ {k:Nat},k <= 2->(ptL h t k).n <= 2:=fun {k} hk=>by
 have a1:∀ (s:Ls) (b:Int),(s.add b).n <= s.n + 1:=fun s b=>(s.add_le b).2
 match k,hk with
 | 0,_=>exact Nat.zero_le _
 | 1,_=>exact Nat.le_trans (a1 _ _) (by show 0 + 1 <= 2; omega)
 | 2,_=>exact Nat.le_trans (a1 _ _) (Nat.succ_le_succ (a1 _ _))
set_option maxRecDepth 100000 in
set_option maxHeartbeats 1000000 in
theorem aParts {h t:Int} (rh:rng h) (ph:pok h=true) (rt:rng t) (pt:pok t=true) (w:World) :
  Calls Tryz.prog 94 #[.float .f64 (wd h),.float .f64 (wd t)] w fun r w'=>∃ v,r=.returned v∧Out w.heap.size w' v (ptL h t 2).n (ptL h t 2).d∧Below w.heap.size w w':=by
 have CO:Hid (∀ k W,k < 2->Calls Tryz.prog 62 #[.float .f64 (wd (ptF h t k))] W fun e w'=>e=.returned (.int .i64 (ptF h t k))∧w'=W):=fun k W _=>by
  unfold ptF
  split
  ·exact of_FW (FW.pat (q_fin pt) rt) W
  ·exact of_FW (FW.pat (q_fin ph) rh) W
 have HN:Hid (∀ k,k < 2->(rg (ptF h t k)=0->FloatKind.f64.format.order (wd (ptF h t k)) 0=some .eq)∧(¬ rg (ptF h t k)=0->FloatKind.f64.format.order (wd (ptF h t k)) 0=some .lt∨FloatKind.f64.format.order (wd (ptF h t k)) 0=some .gt)):=fun k _=>by
  unfold ptF
  split
  ·exact nil_order rt pt
  ·exact nil_order rh ph
 have HR:Hid (∀ k,k < 2->rng (ptF h t k)):=fun k _=>by unfold ptF; split <;> assumption
 have hix0:∀ w,(Instr.index 153 (.agg #[.float .f64 (wd t),.float .f64 (wd h)]) (.int .i64 0)).run Tryz.prog w=.ok (.float .f64 (wd t)) w:=fun _=>by kernel_rfl
 have hix1:∀ w,(Instr.index 153 (.agg #[.float .f64 (wd t),.float .f64 (wd h)]) (.int .i64 1)).run Tryz.prog w=.ok (.float .f64 (wd h)) w:=fun _=>by kernel_rfl
 clear rh ph rt pt
 go_enter Tryz.func94,Tryz.ntmps94
 go_wp2_with fail
 go_loopw [5,11] (fun v i wr=>∃ k:Nat,k <= 2∧i=.int .i64 k∧Hid (Out w.heap.size wr v (ptL h t k).n (ptL h t k).d)∧Below w.heap.size w wr) (fun _ i _=>2 - (intOf i).toNat)
 case atStart=>exact ⟨0,by omega,rfl,Out.nil _ _ _,bel_refl _⟩
 case round=>
  obtain ⟨k,hk,rfl,HO,hbw⟩:=hrel
  by_cases hlt:k < 2
  ·rcases (show k=0∨k=1 by omega) with rfl | rfl
   ·have CK:Hid (∀ W,Calls Tryz.prog 62 #[.float .f64 (wd t)] W fun e w'=>e=.returned (.int .i64 t)∧w'=W):=fun W=>CO.out 0 W (by omega)
    have HK:(rg t=0->FloatKind.f64.format.order (wd t) 0=some .eq)∧(¬ rg t=0->FloatKind.f64.format.order (wd t) 0=some .lt∨FloatKind.f64.format.order (wd t) 0=some .gt):=HN.out 0 (by omega)
    have rK:rng t:=HR.out 0 (by omega)
    have hN:=ptL_n h t (show 0 <= 2 by omega)
    by_cases h0:rg t=0
    ·have ho:=HK.1 h0
     have HE:Hid (ptL h t (0 + 1)=ptL h t 0):=(ptL_succ h t (by omega)).trans (if_pos h0)
     clear HK h0 CK
     go_wp2
     go_roundw
     case rel=>exact ⟨0 + 1,by omega,by go_num,(show Out w.heap.size wr _ (ptL h t (0 + 1)).n (ptL h t (0 + 1)).d by rw [HE.out]; exact HO.out),hbw⟩
     case measure=>simp [intOf]
    ·have ho:=HK.2 h0
     have HE:Hid (ptL h t (0 + 1)=(ptL h t 0).add t):=ptL_succ h t (by omega)
     have H0:Hid (¬ rg t=0):=h0
     clear HK h0
     rcases ho with ho | ho
     all_goals
      go_wp2_with (first
       | (go_at_call 62; refine (CK.out _).mono ?_; rintro _ wz ⟨rfl,hwz⟩; replace hwz:=hwz.symm; subst hwz)
       | (at_builtin; refine wpList_app rfl _ _ rfl w.heap.size _ (ptL h t 0).n (ptL h t 0).d rfl (HO.out.stays (bel_alloc _ _)) _ 1 1 (fun _=>t) rfl (row1 _ _ rfl) (by omega) (Nat.le_trans hbw.size (bel_alloc _ _).size) ?_; intro v' w1 hO1 hg1))
      go_roundw
      case rel=>exact ⟨0 + 1,by omega,by go_num,(show Out w.heap.size _ _ (ptL h t (0 + 1)).n (ptL h t (0 + 1)).d by rw [HE.out]; exact add_out H0.out hO1),hbw.trans (grow_bel HO.out hg1 hbw.size)⟩
      case measure=>simp [intOf]
   ·have CK:Hid (∀ W,Calls Tryz.prog 62 #[.float .f64 (wd h)] W fun e w'=>e=.returned (.int .i64 h)∧w'=W):=fun W=>CO.out 1 W (by omega)
    have HK:(rg h=0->FloatKind.f64.format.order (wd h) 0=some .eq)∧(¬ rg h=0->FloatKind.f64.format.order (wd h) 0=some .lt∨FloatKind.f64.format.order (wd h) 0=some .gt):=HN.out 1 (by omega)
    have rK:rng h:=HR.out 1 (by omega)
    have hN:=ptL_n h t (show 1 <= 2 by omega)
    by_cases h0:rg h=0
    ·have ho:=HK.1 h0
     have HE:Hid (ptL h t (1 + 1)=ptL h t 1):=(ptL_succ h t (by omega)).trans (if_pos h0)
     clear HK h0 CK
     go_wp2
     go_roundw
     case rel=>exact ⟨1 + 1,by omega,by go_num,(show Out w.heap.size wr _ (ptL h t (1 + 1)).n (ptL h t (1 + 1)).d by rw [HE.out]; exact HO.out),hbw⟩
     case measure=>simp [intOf]
    ·have ho:=HK.2 h0
     have HE:Hid (ptL h t (1 + 1)=(ptL h t 1).add h):=ptL_succ h t (by omega)
     have H0:Hid (¬ rg h=0):=h0
     clear HK h0
     rcases ho with ho | ho
     all_goals
      go_wp2_with (first
       | (go_at_call 62; refine (CK.out _).mono ?_; rintro _ wz ⟨rfl,hwz⟩; replace hwz:=hwz.symm; subst hwz)
       | (at_builtin; refine wpList_app rfl _ _ rfl w.heap.size _ (ptL h t 1).n (ptL h t 1).d rfl (HO.out.stays (bel_alloc _ _)) _ 1 1 (fun _=>h) rfl (row1 _ _ rfl) (by omega) (Nat.le_trans hbw.size (bel_alloc _ _).size) ?_; intro v' w1 hO1 hg1))
      go_roundw
      case rel=>exact ⟨1 + 1,by omega,by go_num,(show Out w.heap.size _ _ (ptL h t (1 + 1)).n (ptL h t (1 + 1)).d by rw [HE.out]; exact add_out H0.out hO1),hbw.trans (grow_bel HO.out hg1 hbw.size)⟩
      case measure=>simp [intOf]
  ·obtain rfl:k=2:=by omega
   go_wp2
   go_ret
   exact ⟨_,rfl,HO.out,hbw⟩
def XLs (w:World) (v:Value) (s:Ls):Prop:=∃ ao cap,v=.slice ao s.n cap∧Row w ao s.n cap s.d
theorem XLs.keeps {w w':World} {v:Value} {s:Ls} (h:XLs w v s) (hb:Below w.heap.size w w'):XLs w' v s:=by
 obtain ⟨ao,cap,e,hR⟩:=h
 exact ⟨ao,cap,e,hR.keeps hb⟩
theorem iV_lt {p:Int} (hp:rng p) (h:iV p ≠ 0):iV p < 0 ↔ p < 0:=by
 obtain ⟨k1,k2⟩:=iV_key hp
 rw [k1]
 have hz:key p ≠ 0:=fun e=>by
  have a:=mt k1.1
  rcases Int.lt_trichotomy (iV p) 0 with g | g | g
  ·have:=k1.1 g; omega
  ·exact h g
  ·have:=k2.1 g; omega
 unfold rng at hp
 by_cases c:p < 0
 ·have e:key p=-(p + 9223372036854775808):=by unfold key; rw [if_pos c]
  rw [e] at hz ⊢
  omega
 ·have e:key p=p:=by unfold key; rw [if_neg c]
  rw [e]
set_option maxRecDepth 100000 in
set_option maxHeartbeats 1000000 in
theorem xSign {v:Value} {s:Ls} (w:World) (h:XLs w v s) (hx:XV s.d s.n) (H:Hold4 w) :
  Calls Tryz.prog 66 #[v] w fun r w'=>r=.returned (.tuple #[.int .i64 (ord (lsm s.d s.n) 0),.int .i64 0])∧Below w.heap.size w w':=by
 obtain ⟨ao,cap,rfl,hR⟩:=h
 obtain ⟨n,d⟩:=s
 simp only at *
 have hle:=hR.le
 have hmx:=hR.max
 have CV:Hid (∀ W,Below w.heap.size w W->Calls Tryz.prog 96 #[.slice ao n cap] W fun e w'=>e=.returned (.bool true)∧Below W.heap.size W w'):=fun W hb=>by
  have:=xvalid_any W (hR.keeps hb) (H.keeps hb)
  rw [xval_of hx] at this
  exact this
 cases n with
 | zero=>
  have e:ord (lsm d 0) 0=0:=by show ord 0 0=0; decide
  rw [e]
  go_enter Tryz.func66,Tryz.ntmps66
  go_wp2_with fail
  refine (CV.out _ (bel_refl _)).mono ?_
  rintro _ y1 ⟨rfl,hw1⟩
  go_wp2
  exact bodyPost_ret (v:=.tuple #[.int .i64 0,.int .i64 0]) (by simp [results,Tryz.results66,go_sem]) rfl ⟨rfl,hw1⟩
 | succ n=>
  obtain ⟨s1,s2⟩:=lsm_sign hx
  have hr:=(hx.fin n (by omega)).1
  have hne:=hx.ne (show n < n + 1 by omega)
  have hl:=iV_lt hr hne
  obtain ⟨b,off,rfl,hb,hc⟩:=hR.spot (by omega)
  have i0:(0:Int) <= (n:Int):=by omega
  have i1:(n:Int) < ((n + 1:Nat):Int):=by omega
  have hidx:((n + 1:Nat):Int) - 1=(n:Int):=by omega
  by_cases hd:d n < 0
  ·have e:ord (lsm d (n + 1)) 0=-1:=by
    have:lsm d (n + 1) < 0:=s2.2 (hl.2 hd)
    unfold ord; rw [if_pos this]
   rw [e]
   have hdd:decide (d n < 0)=true:=decide_eq_true hd
   clear s1 s2 hl hne hr e
   have HC:Hid (∀ W,Below w.heap.size w W->W.cell? ⟨b,off + n,none⟩=some (.int .i64 (d n))):=fun W hw=>(hw.cell (p:=⟨b,off + n,none⟩) hb).trans (hc n (by omega))
   clear hc hx hd
   go_enter Tryz.func66,Tryz.ntmps66
   go_wp2_with fail
   refine (CV.out _ (bel_refl _)).mono ?_
   rintro _ y1 ⟨rfl,hw1⟩
   have c1:=HC.out _ hw1
   go_wp2
   exact bodyPost_ret (v:=.tuple #[.int .i64 (-1),.int .i64 0]) (by simp [results,Tryz.results66,go_sem]) rfl ⟨rfl,hw1⟩
  ·have e:ord (lsm d (n + 1)) 0=1:=by
    have h1:¬ iV (d n) < 0:=fun q=>hd (hl.1 q)
    have:0 < lsm d (n + 1):=s1.2 (by omega)
    have h2:¬ lsm d (n + 1) < 0:=by omega
    unfold ord; rw [if_neg h2]; first | rw [if_pos this] | (simp [this]; omega)
   rw [e]
   have hdd:decide (d n < 0)=false:=decide_eq_false hd
   clear s1 s2 hl hne hr e
   have HC:Hid (∀ W,Below w.heap.size w W->W.cell? ⟨b,off + n,none⟩=some (.int .i64 (d n))):=fun W hw=>(hw.cell (p:=⟨b,off + n,none⟩) hb).trans (hc n (by omega))
   clear hc hx hd
   go_enter Tryz.func66,Tryz.ntmps66
   go_wp2_with fail
   refine (CV.out _ (bel_refl _)).mono ?_
   rintro _ y1 ⟨rfl,hw1⟩
   have c1:=HC.out _ hw1
   go_wp2
   exact bodyPost_ret (v:=.tuple #[.int .i64 1,.int .i64 0]) (by simp [results,Tryz.results66,go_sem]) rfl ⟨rfl,hw1⟩
def pL (a b c:Int):Ls:=prS (dfL a b).d (dfL a b).n (dfL c b).d (dfL c b).n
def dL (ax ay bx by' cx cy:Int):Ls:=gaS ⟨(pL ax bx cx).n,(pL ax bx cx).d⟩ (pL ay by' cy).d (pL ay by' cy).n
def cLo (V:Int):Int:=if V=0 then 0 else canon (rdP 1 V)
def cHi (V:Int):Int:=if V=0 then 0 else canon (rdP 2 V)
theorem canon_patS {g:Bool} {r:Int} (h0:0 <= r) (h1:r <= 9218868437227405312):canon (patS g r)=patS (g && decide (0 < r)) r:=by
 obtain ⟨a,b,c⟩:=patS_parts (ng:=g) h0 h1
 obtain ⟨d1,d2⟩:=cls_rg a
 rw [b] at d1 d2
 unfold canon
 have n4:¬ cls (patS g r)=4:=fun q=>by have:=d1.1 q; omega
 rw [if_neg n4]
 by_cases hr:r=0
 ·rw [if_pos (d2.2 hr),hr]
  cases g <;> decide
 ·rw [if_neg (fun q=>hr (d2.1 q)),decide_eq_true (show 0 < r by omega),Bool.and_true]
theorem c_rung {V:Int} (h0:V ≠ 0):∃ (g:Bool) (A:Int) (r0:Nat) (left:Int),V=sg g A∧0 < A∧Rung A r0 left∧cLo V=patS (g && decide (0 < rTo 1 g r0 left)) (rTo 1 g r0 left)∧cHi V=patS (g && decide (0 < rTo 2 g r0 left)) (rTo 2 g r0 left):=by
 obtain ⟨g,A,r0,left,e,hA,hR,_,e1,e2⟩:=dir_cases h0
 have r1:=rTo_range 1 g r0 left
 have r2:=rTo_range 2 g r0 left
 refine ⟨g,A,r0,left,e,hA,hR,?_,?_⟩
 ·unfold cLo; rw [if_neg h0,e1,canon_patS r1.1 r1.2]
 ·unfold cHi; rw [if_neg h0,e2,canon_patS r2.1 r2.2]
theorem around_c {V:Int} {ng:Bool} {f:Int->Int × Bool} (h:RdOf V ng f):(f 1).1=cLo V∧(f 2).1=cHi V:=by
 obtain ⟨A,r0,left,e,hng,hR,hf⟩:=h
 rw [hf 1,hf 2]
 by_cases h0:V=0
 ·have hA:A=0:=by
   rw [h0] at e
   cases ng
   ·exact e.symm
   ·have:(0:Int)=-A:=e
    omega
  have hn:ng=false:=by
   cases ng
   ·rfl
   ·have:=hng rfl; omega
  subst hn
  rw [hA] at hR
  obtain ⟨u1,u2⟩:=hR.unique rung_zero
  subst u1 u2
  unfold cLo cHi
  rw [if_pos h0,if_pos h0]
  have t1:=rTo_zero 1
  have t2:=rTo_zero 2
  refine ⟨?_,?_⟩
  ·simp only [t1]; rfl
  ·simp only [t2]; rfl
 ·obtain ⟨g,B,s0,l,e',hB,hR',c1,c2⟩:=c_rung h0
  have hA:0 < A:=by
   have hA0:0 <= A:=by
    have:=hR.lo
    have hv:0 <= vS r0:=Int.mul_nonneg (by omega) (Int.le_of_lt (pw_pos _))
    omega
   have:A ≠ 0:=fun q=>h0 (by rw [e,q]; cases ng <;> rfl)
   omega
  have s1:decide (V < 0)=ng:=by rw [e]; exact sg_lt hA
  have s2:decide (V < 0)=g:=by rw [e']; exact sg_lt hB
  have hg:ng=g:=s1.symm.trans s2
  subst hg
  have hAB:=sg_inj (e.symm.trans e')
  subst hAB
  obtain ⟨u1,u2⟩:=hR.unique hR'
  subst u1 u2
  exact ⟨c1.symm,c2.symm⟩
theorem prod_c {p q:Int} (rp:rng p) (rq:rng q) (hp:pok p=true) (hq:pok q=true):canon (prLo p q)=cLo (prV p q)∧canon (prHi p q)=cHi (prV p q):=by
 have h1:=(pok_rg rp).1 hp
 have h2:=(pok_rg rq).1 hq
 have i2:¬ (rg p=9218868437227405312∨rg q=9218868437227405312):=by omega
 by_cases h0:rg p=0∨rg q=0
 ·have hz:prV p q=0:=by
   obtain ⟨_,_,_,_,hC⟩:=prV_parts rp rq hp hq
   have:patV p * patV q=0:=by
    rcases h0 with h | h
    ·have:patV p=0:=by rw [patV_iV rp hp]; unfold iV; rw [h]; cases decide (p < 0) <;> exact Int.zero_mul _
     rw [this,Int.zero_mul]
    ·have:patV q=0:=by rw [patV_iV rq hq]; unfold iV; rw [h]; cases decide (q < 0) <;> exact Int.zero_mul _
     rw [this,Int.mul_zero]
   rw [this] at hC
   rcases Int.mul_eq_zero.1 hC with k | k
   ·exact k
   ·exact absurd k (Int.ne_of_gt (two_pos 4194304))
  unfold prLo prHi cLo cHi
  rw [if_pos h0,if_pos h0,if_pos hz,if_pos hz]
  exact ⟨by decide,by decide⟩
 ·have hz:=prV_nz rp rq hp hq (fun k=>h0 (.inl k)) (fun k=>h0 (.inr k))
  unfold prLo prHi cLo cHi
  rw [if_neg h0,if_neg h0,if_neg i2,if_neg i2,if_neg hz,if_neg hz]
  exact ⟨rfl,rfl⟩
theorem suN_near {p q:Int} (rp:rng p) (rq:rng q) (hp:pok p=true) (hq:pok q=true):suN p q=if patV p + patV q=0 then patS (decide (hiM p q < 0) && decide (loM p q < 0)) 0 else nearP (patV p + patV q):=by
 unfold suN hiM loM
 by_cases h:rg p < rg q
 ·rw [if_pos h,if_pos h,fsum_eqn rq rp hq hp,Int.add_comm]
 ·rw [if_neg h,if_neg h,fsum_eqn rp rq hp hq]
theorem sum_c {p q:Int} (rp:rng p) (rq:rng q) (hp:pok p=true) (hq:pok q=true):nn (suN p q)∧canon (beLo (suN p q) (suL p q))=cLo (patV p + patV q)∧canon (beHi (suN p q) (suL p q))=cHi (patV p + patV q):=by
 have hN:=suN_near rp rq hp hq
 have hVi:patV p + patV q=(iV p + iV q) * pw (-1074):=by rw [patV_iV rp hp,patV_iV rq hq,Int.add_mul]
 have hq0:=pw_pos (-1074)
 by_cases h0:patV p + patV q=0
 ·rw [if_pos h0] at hN
  have hnn:nn (suN p q):=by rw [hN]; exact patS_nn (by decide) (by decide)
  have hz:iV p + iV q=0:=by
   rcases Int.mul_eq_zero.1 (hVi.symm.trans h0) with k | k
   ·exact k
   ·omega
  have hpok:pok (suN p q)=true:=by rw [hN]; cases (decide (hiM p q < 0) && decide (loM p q < 0)) <;> decide
  have hi0:iV (suN p q)=0:=by rw [hN]; cases (decide (hiM p q < 0) && decide (loM p q < 0)) <;> decide
  obtain ⟨_,_,hc⟩:=su_btw rp rq hp hq hpok hnn
  rw [hi0,hz] at hc
  refine ⟨hnn,?_⟩
  rcases hc with ⟨_,b1,b2⟩ | ⟨k,_⟩ | ⟨k,_⟩
  ·rw [b1,b2]
   unfold cLo cHi
   rw [if_pos h0,if_pos h0,hN]
   exact ⟨by cases (decide (hiM p q < 0) && decide (loM p q < 0)) <;> decide,by cases (decide (hiM p q < 0) && decide (loM p q < 0)) <;> decide⟩
  ·omega
  ·omega
 ·rw [if_neg h0] at hN
  obtain ⟨g1,g2⟩:=nearP_pat h0
  have hnn:nn (suN p q):=by rw [hN]; exact ⟨g1,g2⟩
  refine ⟨hnn,?_⟩
  unfold cLo cHi
  rw [if_neg h0,if_neg h0]
  cases hf:pok (nearP (patV p + patV q))
  ·have hi:=dir_inf h0 hf
   have hr:rg (suN p q)=9218868437227405312:=by
    rw [hN]
    have k1:=nn_rg (show nn (nearP (patV p + patV q)) from ⟨g1,g2⟩)
    rcases Int.lt_or_le (rg (nearP (patV p + patV q))) 9218868437227405312 with k | k
    ·rw [(pok_rg g1).2 k] at hf; cases hf
    ·omega
   have h1:=(pok_rg rp).1 hp
   have h2:=(pok_rg rq).1 hq
   obtain ⟨o1,o2⟩:=su_over ⟨rp,pok_clsF rp hp⟩ ⟨rq,pok_clsF rq hq⟩ (by omega) (by omega) hnn hr
   rcases Int.lt_or_gt_of_ne h0 with k | k
   ·obtain ⟨e0,e1,e2⟩:=hi.2 k
    obtain ⟨b1,b2⟩:=o2 (by rw [hN,e0]; decide)
    rw [b1,b2,hN,e0,e1,e2]
    exact ⟨by decide,by decide⟩
   ·obtain ⟨e0,e1,e2⟩:=hi.1 k
    obtain ⟨b1,b2⟩:=o1 (by rw [hN,e0]; decide)
    rw [b1,b2,hN,e0,e1,e2]
    exact ⟨by decide,by decide⟩
  ·obtain ⟨d1,d2,d3⟩:=dir_fin h0 hf
   rw [<- hN] at d1 d2 d3 hf
   obtain ⟨_,_,hc⟩:=su_btw rp rq hp hq hf hnn
   have hvn:=patV_iV hnn.1 hf
   rw [hvn,hVi] at d1 d2 d3
   rw [hVi]
   generalize pw (-1074)=w at *
   rcases hc with ⟨k,b1,b2⟩ | ⟨k,b1,b2⟩ | ⟨k,b1,b2⟩
   ·rw [b1,b2]
    obtain ⟨f1,f2⟩:=d3 (by rw [k])
    rw [<- f1,<- f2]
    exact ⟨rfl,rfl⟩
   ·rw [b1,b2]
    obtain ⟨f1,f2⟩:=d1 (Int.mul_lt_mul_of_pos_right k hq0)
    rw [<- f1,<- f2]
    exact ⟨rfl,rfl⟩
   ·rw [b1,b2]
    obtain ⟨f1,f2⟩:=d2 (Int.mul_lt_mul_of_pos_right k hq0)
    rw [<- f1,<- f2]
    exact ⟨rfl,rfl⟩
theorem rung_at (r:Nat):Rung (vS r) r 0:=by
 have h:=vS_lt (show r < r + 1 by omega)
 refine ⟨Int.le_refl _,h,⟨fun _=>rfl,fun _=>rfl⟩,⟨fun q=>by omega,fun q=>by omega⟩,⟨fun q=>by omega,fun q=>by omega⟩,⟨fun q=>by omega,fun q=>by omega⟩⟩
theorem rTo_at (way:Int) (g:Bool) {r:Nat} (h:(r:Int) < 9218868437227405312):rTo way g r 0=(r:Int):=by
 rw [rTo_low way h,(rUp_dn (decide (r % 2=1)) 0).2.2.2.2 way g rfl]
 simp
theorem c_at {g:Bool} {r:Nat} (h:(r:Int) < 9218868437227405312) (h0:0 < r):cLo (sg g (vS r))=patS g (r:Int)∧cHi (sg g (vS r))=patS g (r:Int):=by
 have hp:0 < vS r:=by
  have:=vS_lt h0
  have hz:vS 0=0:=by unfold vS; rw [V_zero]; exact Int.zero_mul _
  omega
 have hn:sg g (vS r) ≠ 0:=fun q=>by
  generalize vS r=y at *
  cases g
  ·rw [sgFF] at q; omega
  ·rw [sgTT] at q; omega
 obtain ⟨g',A,r0,left,e,hA,hR,c1,c2⟩:=c_rung hn
 have s1:decide (sg g (vS r) < 0)=g:=sg_lt hp
 have s2:decide (sg g (vS r) < 0)=g':=by rw [e]; exact sg_lt hA
 have hg:g=g':=s1.symm.trans s2
 subst hg
 have hAB:=sg_inj e
 rw [<- hAB] at hR
 obtain ⟨u1,u2⟩:=hR.unique (rung_at r)
 subst u1 u2
 rw [c1,c2,rTo_at 1 g h,rTo_at 2 g h,decide_eq_true (show (0:Int) < (r0:Int) by omega),Bool.and_true]
 exact ⟨rfl,rfl⟩
theorem q_two_keep {p B:Nat} {x0 x1:Value} {W W':World} (h:p < B∧B <= W.heap.size∧W.cell? ⟨p,0,none⟩=some x0∧W.cell? ⟨p,1,none⟩=some x1) (hb:Below W.heap.size W W') :
  p < B∧B <= W'.heap.size∧W'.cell? ⟨p,0,none⟩=some x0∧W'.cell? ⟨p,1,none⟩=some x1 :=
 ⟨h.1,Nat.le_trans h.2.1 hb.size,q_cell h.2.2.1 hb,q_cell h.2.2.2 hb⟩
theorem Lays.below' {w w':World} (h:Lays w) (hb:Below w.heap.size w w'):Lays w' :=
 ⟨q_cell h.a0 hb,q_cell h.a1 hb,q_cell h.a2 hb,trivial,trivial,trivial⟩
set_option maxRecDepth 100000 in
set_option maxHeartbeats 1000000 in
theorem spanTold {lo hi:Int} (hl:nn lo) (hh:nn hi) (w:World) (L:Lays w) :
  Calls Tryz.prog 97 #[ivl lo hi] w fun e w'=>e=.returned (spn (canon lo) (canon hi))∧Below w.heap.size w w':=by
 unfold ivl spn
 have CO1:Hid (∀ W,Calls Tryz.prog 62 #[.float .f64 (wd lo)] W fun e w'=>e=.returned (.int .i64 lo)∧w'=W):=fun W=>by
  have:=bitsOf lo W hl.1
  rw [show told lo=lo from if_neg hl.2] at this
  exact this
 have CO2:Hid (∀ W,Calls Tryz.prog 62 #[.float .f64 (wd hi)] W fun e w'=>e=.returned (.int .i64 hi)∧w'=W):=fun W=>by
  have:=bitsOf hi W hh.1
  rw [show told hi=hi from if_neg hh.2] at this
  exact this
 have CX':Hid (∀ W,Lays W->Calls Tryz.prog 138 #[.int .i64 lo] W fun e w'=>e=.returned (.int .i64 (canon lo))∧Gr W w'):=fun W LW=>bitsCanon lo W LW
 have CY':Hid (∀ W,Lays W->Calls Tryz.prog 138 #[.int .i64 hi] W fun e w'=>e=.returned (.int .i64 (canon hi))∧Gr W w'):=fun W LW=>bitsCanon hi W LW
 generalize canon lo=X at *
 generalize canon hi=Y at *
 generalize wd lo=A at *
 generalize wd hi=B at *
 have hb2:=bel_alloc2 w (.cells #[.float .f64 A,.float .f64 B] 103) (.cells #[.int .i64 0,.int .i64 0] 77)
 have p0:=heap_a2 w (.cells #[.float .f64 A,.float .f64 B] 103) (.cells #[.int .i64 0,.int .i64 0] 77)
 have p1:=heap_b2 w (.cells #[.float .f64 A,.float .f64 B] 103) (.cells #[.int .i64 0,.int .i64 0] 77)
 have hs:=size2 w (.cells #[.float .f64 A,.float .f64 B] 103) (.cells #[.int .i64 0,.int .i64 0] 77)
 have c0:=blkC p0 0 rfl
 have c1:=blkC p0 1 rfl
 have hbd:=hb2.drew
 have L1:=L.below' hbd
 clear hl hh
 go_enter Tryz.func97,Tryz.ntmps97
 go_wp2_with fail
 generalize (w.alloc (.cells #[.float .f64 A,.float .f64 B] 103)).alloc (.cells #[.int .i64 0,.int .i64 0] 77)=w1 at *
 have hc:w.heap.size < w.heap.size + 1∧w.heap.size + 1 <= w1.drew.heap.size∧w1.drew.cell? ⟨w.heap.size,0,none⟩=some (.float .f64 A)∧w1.drew.cell? ⟨w.heap.size,1,none⟩=some (.float .f64 B):=⟨by omega,by show _ <= w1.heap.size; omega,c0,c1⟩
 have hd:w1.drew.heap[w.heap.size + 1]?=some (.cells #[.int .i64 0,.int .i64 0] 77 (0,0)):=p1
 go_region_held3 (fun W=>w.heap.size < w.heap.size + 1∧w.heap.size + 1 <= W.heap.size∧W.cell? ⟨w.heap.size,0,none⟩=some (.float .f64 A)∧W.cell? ⟨w.heap.size,1,none⟩=some (.float .f64 B))
  (first | assumption | (repeat (first | exact hc | exact hc1 | exact hc2 | refine q_two_set (by omega) ?_)))
  (first
   | (go_at_call 62; have _t:=LA; refine (CO2.out _).mono ?_; rintro _ _ ⟨rfl,rfl⟩)
   | (go_at_call 62; refine (CO1.out _).mono ?_; rintro _ _ ⟨rfl,rfl⟩)
   | (go_at_call 138; have _t:=LA; refine (CY'.out _ LA).mono ?_; rintro _ w3 ⟨rfl,g3⟩; have hc2:=q_two_keep hc1 g3.be; have d2:=(g3.be.block _ (Array.getElem?_eq_some_iff.1 d1).1).trans d1; have d3:=q_heap_set d2 0 (.int .i64 X); have d4:=q_heap_set d3 1 (.int .i64 Y); have f0:=blkC d2 0 rfl; have z0:=blkF d2 0; have f1:=blkC d3 1 rfl; have z1:=blkF d3 1)
   | (go_at_call 138; refine (CX'.out _ L1).mono ?_; rintro _ w2 ⟨rfl,g2⟩; have LA:=L1.grown g2; have hc1:=q_two_keep hc g2.be; have d1:=(g2.be.block _ (Array.getElem?_eq_some_iff.1 hd).1).trans hd))
 have e0:=blkC d4 0 rfl
 have e1:=blkC d4 1 rfl
 have hbe:Below w.heap.size w ((w3.setCell ⟨w.heap.size + 1,0,none⟩ (.int .i64 X)).setCell ⟨w.heap.size + 1,1,none⟩ (.int .i64 Y)):=((bel_trans hbd (bel_trans g2.be g3.be)).setCell (p:=⟨w.heap.size + 1,0,none⟩) (Nat.le_succ _) _).setCell (p:=⟨w.heap.size + 1,1,none⟩) (Nat.le_succ _) _
 clear d1 d2 d3 d4 f0 f1 z0 z1 hd hc hc1 hc2
 generalize (w3.setCell ⟨w.heap.size + 1,0,none⟩ (.int .i64 X)).setCell ⟨w.heap.size + 1,1,none⟩ (.int .i64 Y)=wy at *
 go_wp2
 refine bodyPost_ret (v:=.agg #[.int .i64 X,.int .i64 Y]) (by simp [results,Tryz.results97,go_sem,e0,e1]) rfl ⟨rfl,hbe⟩
def twoV (ok:Bool) (v:Value):Value:=if ok then v else .agg #[.int .i64 0,.int .i64 0]
def errA (ok:Bool):Int:=if ok then 0 else 1
theorem hl_last {n:Nat} (w:World) (o:Obj) (h:n=w.heap.size):(w.alloc o).heap[n]?=some o:=by
 subst h
 show (w.heap.push o)[w.heap.size]?=_
 simp
theorem hl6 (w:World) (o0 o1 o2 o3 o4 o5:Obj):((((((w.alloc o0).alloc o1).alloc o2).alloc o3).alloc o4).alloc o5).drew.drew.drew.heap=(((((w.heap.push o0).push o1).push o2).push o3).push o4).push o5:=rfl
theorem hl6_0 {n m:Nat} {w:World} {o0 o1 o2 o3 o4 o5:Obj} (hs:w.heap.size=m) (h:n=m + 0):(((((((w.alloc o0).alloc o1).alloc o2).alloc o3).alloc o4).alloc o5).drew.drew.drew).heap[n]?=some o0:=by
 subst hs
 subst h
 rw [hl6]
 rw [Array.getElem?_push,if_neg (by first | (simp; done) | (simp; omega))]
 rw [Array.getElem?_push,if_neg (by first | (simp; done) | (simp; omega))]
 rw [Array.getElem?_push,if_neg (by first | (simp; done) | (simp; omega))]
 rw [Array.getElem?_push,if_neg (by first | (simp; done) | (simp; omega))]
 rw [Array.getElem?_push,if_neg (by first | (simp; done) | (simp; omega))]
 rw [Array.getElem?_push,if_pos (by simp)]
theorem hl6_1 {n m:Nat} {w:World} {o0 o1 o2 o3 o4 o5:Obj} (hs:w.heap.size=m) (h:n=m + 1):(((((((w.alloc o0).alloc o1).alloc o2).alloc o3).alloc o4).alloc o5).drew.drew.drew).heap[n]?=some o1:=by
 subst hs
 subst h
 rw [hl6]
 rw [Array.getElem?_push,if_neg (by first | (simp; done) | (simp; omega))]
 rw [Array.getElem?_push,if_neg (by first | (simp; done) | (simp; omega))]
 rw [Array.getElem?_push,if_neg (by first | (simp; done) | (simp; omega))]
 rw [Array.getElem?_push,if_neg (by first | (simp; done) | (simp; omega))]
 rw [Array.getElem?_push,if_pos (by simp)]
theorem hl6_2 {n m:Nat} {w:World} {o0 o1 o2 o3 o4 o5:Obj} (hs:w.heap.size=m) (h:n=m + 2):(((((((w.alloc o0).alloc o1).alloc o2).alloc o3).alloc o4).alloc o5).drew.drew.drew).heap[n]?=some o2:=by
 subst hs
 subst h
 rw [hl6]
 rw [Array.getElem?_push,if_neg (by first | (simp; done) | (simp; omega))]
 rw [Array.getElem?_push,if_neg (by first | (simp; done) | (simp; omega))]
 rw [Array.getElem?_push,if_neg (by first | (simp; done) | (simp; omega))]
 rw [Array.getElem?_push,if_pos (by simp)]
theorem hl6_3 {n m:Nat} {w:World} {o0 o1 o2 o3 o4 o5:Obj} (hs:w.heap.size=m) (h:n=m + 3):(((((((w.alloc o0).alloc o1).alloc o2).alloc o3).alloc o4).alloc o5).drew.drew.drew).heap[n]?=some o3:=by
 subst hs
 subst h
 rw [hl6]
 rw [Array.getElem?_push,if_neg (by first | (simp; done) | (simp; omega))]
 rw [Array.getElem?_push,if_neg (by first | (simp; done) | (simp; omega))]
 rw [Array.getElem?_push,if_pos (by simp)]
theorem hl6_4 {n m:Nat} {w:World} {o0 o1 o2 o3 o4 o5:Obj} (hs:w.heap.size=m) (h:n=m + 4):(((((((w.alloc o0).alloc o1).alloc o2).alloc o3).alloc o4).alloc o5).drew.drew.drew).heap[n]?=some o4:=by
 subst hs
 subst h
 rw [hl6]
 rw [Array.getElem?_push,if_neg (by first | (simp; done) | (simp; omega))]
 rw [Array.getElem?_push,if_pos (by simp)]
theorem hl6_5 {n m:Nat} {w:World} {o0 o1 o2 o3 o4 o5:Obj} (hs:w.heap.size=m) (h:n=m + 5):(((((((w.alloc o0).alloc o1).alloc o2).alloc o3).alloc o4).alloc o5).drew.drew.drew).heap[n]?=some o5:=by
 subst hs
 subst h
 rw [hl6]
 rw [Array.getElem?_push,if_pos (by simp)]
theorem hl6_b {w:World} {o0 o1 o2 o3 o4 o5:Obj}:Below w.heap.size w (((((((w.alloc o0).alloc o1).alloc o2).alloc o3).alloc o4).alloc o5).drew.drew.drew) :=
 (bel_trans (bel_alloc2 w o0 o1) (bel_trans (bel_alloc2 _ o2 o3) (bel_alloc2 _ o4 o5))).drew.drew.drew
theorem s4_keep {a b B:Nat} {x0 x1 x2 x3:Value} {W W':World} (h:(a < B∧b < B∧B <= W.heap.size)∧W.cell? ⟨a,0,none⟩=some x0∧W.cell? ⟨a,1,none⟩=some x1∧W.cell? ⟨b,0,none⟩=some x2∧W.cell? ⟨b,1,none⟩=some x3) (hb:Below W.heap.size W W') :
  (a < B∧b < B∧B <= W'.heap.size)∧W'.cell? ⟨a,0,none⟩=some x0∧W'.cell? ⟨a,1,none⟩=some x1∧W'.cell? ⟨b,0,none⟩=some x2∧W'.cell? ⟨b,1,none⟩=some x3 :=
 ⟨⟨h.1.1,h.1.2.1,Nat.le_trans h.1.2.2 hb.size⟩,q_cell h.2.1 hb,q_cell h.2.2.1 hb,q_cell h.2.2.2.1 hb,q_cell h.2.2.2.2 hb⟩
theorem s4_alloc {a b B:Nat} {x0 x1 x2 x3:Value} {W:World} (o:Obj) (h:(a < B∧b < B∧B <= W.heap.size)∧W.cell? ⟨a,0,none⟩=some x0∧W.cell? ⟨a,1,none⟩=some x1∧W.cell? ⟨b,0,none⟩=some x2∧W.cell? ⟨b,1,none⟩=some x3) :
  (a < B∧b < B∧B <= (W.alloc o).heap.size)∧(W.alloc o).cell? ⟨a,0,none⟩=some x0∧(W.alloc o).cell? ⟨a,1,none⟩=some x1∧(W.alloc o).cell? ⟨b,0,none⟩=some x2∧(W.alloc o).cell? ⟨b,1,none⟩=some x3:=s4_keep h (bel_alloc _ _)
theorem s4_drew {a b B:Nat} {x0 x1 x2 x3:Value} {W:World} (h:(a < B∧b < B∧B <= W.heap.size)∧W.cell? ⟨a,0,none⟩=some x0∧W.cell? ⟨a,1,none⟩=some x1∧W.cell? ⟨b,0,none⟩=some x2∧W.cell? ⟨b,1,none⟩=some x3) :
  (a < B∧b < B∧B <= W.drew.heap.size)∧W.drew.cell? ⟨a,0,none⟩=some x0∧W.drew.cell? ⟨a,1,none⟩=some x1∧W.drew.cell? ⟨b,0,none⟩=some x2∧W.drew.cell? ⟨b,1,none⟩=some x3:=h
theorem mulP_dir {p q way:Int} (rp:rng p) (rq:rng q) (hp:pok p=true) (hq:pok q=true) (h:prV p q ≠ 0) (hw:way ≠ 0):mulP way p q=rdP way (prV p q):=by
 unfold mulP
 have n1:¬ (way=0∨(pok p && pok q)=false):=fun k=>by
  rcases k with k | k
  ·exact hw k
  ·rw [hp,hq] at k; cases k
 rw [if_neg n1,if_pos h]
theorem prLo_nn {p q:Int} (hp:nn p) (hq:nn q):nn (prLo p q)∧nn (prHi p q):=by
 unfold prLo prHi
 by_cases h0:rg p=0∨rg q=0
 ·rw [if_pos h0,if_pos h0]; exact ⟨nn0.1,nn0.1⟩
 ·rw [if_neg h0,if_neg h0]
  by_cases hi:rg p=9218868437227405312∨rg q=9218868437227405312
  ·rw [if_pos hi,if_pos hi]; exact ⟨patS_nn (by decide) (by decide),patS_nn (by decide) (by decide)⟩
  ·rw [if_neg hi,if_neg hi]
   have pp:=rg_pat0 hp (fun k=>hi (.inl k))
   have pq:=rg_pat0 hq (fun k=>hi (.inr k))
   have hz:=prV_nz hp.1 hq.1 pp pq (fun k=>h0 (.inl k)) (fun k=>h0 (.inr k))
   exact ⟨⟨(rdP_pat 1 hz).1,(rdP_pat 1 hz).2⟩,⟨(rdP_pat 2 hz).1,(rdP_pat 2 hz).2⟩⟩
theorem spProduct {p q:Int} (hp:nn p) (hq:nn q) (w:World) (H:Hold4 w) :
  Calls Tryz.prog 98 #[.float .f64 (wd p),.float .f64 (wd q)] w fun e w'=>e=.returned (ivl (prLo p q) (prHi p q))∧Below w.heap.size w w':=by
 by_cases h0:rg p=0∨rg q=0
 ·have e1:prLo p q=0:=by unfold prLo; rw [if_pos h0]
  have e2:prHi p q=0:=by unfold prHi; rw [if_pos h0]
  rw [e1,e2]
  exact product_zero hp hq h0 w
 ·have p0:rg p ≠ 0:=fun k=>h0 (.inl k)
  have q0:rg q ≠ 0:=fun k=>h0 (.inr k)
  by_cases hi:rg p=9218868437227405312∨rg q=9218868437227405312
  ·obtain ⟨f1,f2⟩:=pr_infE hp hq p0 q0 hi
   have hn:nn (fprod p q):=by rw [f1]; exact patS_nn (by decide) (by decide)
   have hd:283726776524341248 <= rg (fprod p q):=by rw [f1,(patS_parts (by decide) (by decide)).2.1]; decide
   have:=product_be hp hq p0 q0 hn hd w
   rw [f2,f1] at this
   have e1:prLo p q=patS (xsg p q) 9218868437227405312:=by unfold prLo; rw [if_neg h0,if_pos hi]
   have e2:prHi p q=patS (xsg p q) 9218868437227405312:=by unfold prHi; rw [if_neg h0,if_pos hi]
   have b1:beLo (patS (xsg p q) 9218868437227405312) 9221120237041090561=patS (xsg p q) 9218868437227405312:=by unfold beLo; rw [show less 9221120237041090561 0=false by decide]; rfl
   have b2:beHi (patS (xsg p q) 9218868437227405312) 9221120237041090561=patS (xsg p q) 9218868437227405312:=by unfold beHi; rw [show less 9221120237041090561 0=false by decide,show less 0 9221120237041090561=false by decide]; rfl
   rw [b1,b2] at this
   rw [e1,e2]
   exact this
  ·have pp:=rg_pat0 hp (fun k=>hi (.inl k))
   have pq:=rg_pat0 hq (fun k=>hi (.inr k))
   have hz:=prV_nz hp.1 hq.1 pp pq p0 q0
   have e1:prLo p q=rdP 1 (prV p q):=by unfold prLo; rw [if_neg h0,if_neg hi]
   have e2:prHi p q=rdP 2 (prV p q):=by unfold prHi; rw [if_neg h0,if_neg hi]
   have hN:=fprod_fin hp.1 hq.1 pp pq hz
   have hn:nn (fprod p q):=by rw [hN]; exact ⟨(nearP_pat hz).1,(nearP_pat hz).2⟩
   rw [e1,e2]
   by_cases hd:rg (fprod p q) < 283726776524341248
   ·have:=product_deep hp hq p0 q0 hn hd w H
    rwa [mulP_dir hp.1 hq.1 pp pq hz (by decide),mulP_dir hp.1 hq.1 pp pq hz (by decide)] at this
   ·have:=product_be hp hq p0 q0 hn (by omega) w
    obtain ⟨b1,b2⟩:=pr_fin hp.1 hq.1 pp pq p0 q0 (by omega)
    rwa [b1,b2] at this
theorem al1 {w W:World} (h:Below w.heap.size w W) (o:Obj):Below w.heap.size w (W.alloc o):=h.alloc h.size o
theorem blk_up {w W:World} (h:Below w.heap.size w W) {g:Nat} {X:Obj} (k:w.heap[g]?=some X):W.heap[g]?=some X:=(h.block _ (Array.getElem?_eq_some_iff.1 k).1).trans k
end Go.Proofs.YtinccocmgkjalaaGreatDoor
