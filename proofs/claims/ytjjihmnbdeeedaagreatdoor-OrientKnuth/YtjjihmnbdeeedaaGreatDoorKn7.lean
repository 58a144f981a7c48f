/- Parts of the proof. -/
import Derived.Test.YtjjihmnbdeeedaaGreatDoorKn6
import Derived.ArgAppend
import Derived.Test.YtjjihmnbdeeedaaGreatDoorKn1
import Derived.Test.YtjjihmnbdeeedaaGreatDoorKn3
import Derived.Test.YtjjihmnbdeeedaaGreatDoorKn2
import Derived.Test.YtjjihmnbdeeedaaGreatDoorKn4
import Derived.Lib.AppendZerosOnto
set_option maxRecDepth 100000
set_option maxHeartbeats 40000000
set_option linter.unusedVariables false
set_option linter.unusedSimpArgs false
namespace Go.Proofs.YtjjihmnbdeeedaaGreatDoor
open Go Go.RowKit Go.Proofs.YtjjihmnbdeeedaaGreatDoor.M
def LsO (B:Nat) (w:World) (v:Value) (s:Ls):Prop:=Out B w v s.n s.d∨(s.n=0∧∃ ad,v=.slice (some ad) 0 0)
def XGr (B:Nat) (w:World) (v:Value) (w':World):Prop:=w.grownBy w' none∨∃ k,v.ownBlock=some k∧B<=k∧w.grownBy w' (some k)
theorem XGr.of_out {B:Nat} {w w':World} {v:Value} {n:Nat} {d:Nat->Int} (h:Out B w v n d) (g:w.grownBy w' v.ownBlock):XGr B w v w':=by
 cases e:v.ownBlock with
 | none=>rw [e] at g; exact .inl g
 | some k=>rw [e] at g; exact .inr ⟨k,e,own_ge h k e,g⟩
theorem XGr.below {B:Nat} {w w':World} {v:Value} (h:XGr B w v w') (hB:B<=w.heap.size):Below B w w':=by
 rcases h with h | ⟨k,_,hk,h⟩
 ·exact (Below.refl B w).grown h hB (fun k hk=>by cases hk)
 ·exact grown_bel h hk hB
theorem XGr.size {B:Nat} {w w':World} {v:Value} (h:XGr B w v w'):w.heap.size<=w'.heap.size:=by
 rcases h with h | ⟨k,_,_,h⟩ <;> exact h.size
theorem xadd_E {ad:Addr} {d:Nat->Int} {b:Int} (w:World) (hb:rng b) :
    Calls Tryz.prog 268 #[.slice (some ad) 0 0,.int .i64 b] w fun e w'=>∃ v',e=.returned v'∧LsO w.heap.size w' v' ((⟨0,d⟩:Ls).add b)∧w.grownBy w' none:=by
  have hz:=fun W=>xnought hb W
  by_cases h0:rg b=0
  · have e:(⟨0,d⟩:Ls).add b=⟨0,d⟩:=by unfold Ls.add; rw [if_pos h0]
    rw [decide_eq_true h0] at hz
    rw [e]
    go_enter Tryz.func268,Tryz.ntmps268
    go_wp2_with (go_at_call 266; refine (hz _).mono ?_; rintro _ _ ⟨rfl,rfl⟩)
    go_ret
    exact ⟨_,rfl,.inr ⟨rfl,ad,rfl⟩,World.grownBy.refl _ _⟩
  · have e:(⟨0,d⟩:Ls).add b=⟨1,upd d 0 b⟩:=by unfold Ls.add; rw [if_neg h0]
    rw [decide_eq_false h0] at hz
    rw [e]
    obtain ⟨i0,hi,hz0,hz1,hz2⟩:=info_parts info_int
    have hr:=fun W:World=>row1 W b rfl
    go_enter Tryz.func268,Tryz.ntmps268
    go_wp2_with (first
      | (go_at_call 266; refine (hz _).mono ?_; rintro _ _ ⟨rfl,rfl⟩)
      | (at_builtin; refine wpList_append_grows _ rfl _ _ 38 rfl 3 i0 (.int .i64 0) 1 8 Tryz.underlying38 hi hz0 hz1 hz2 rfl (by decide) (some ad) 0 0 [] rfl (fun q=>by cases q) rfl (fun _ _ j u hu=>by simp at hu) _ 1 1 [.int .i64 b] rfl rfl (by intro j u hu; match j,hu with | 0,hu=>(simp at hu; subst hu; obtain ⟨bb,off,e1,_,hc⟩:=(hr _).spot (by omega); simp only [Option.some.injEq] at e1; have:=hc 0 (by omega); rw [Nat.add_zero] at this; rw [<- e1] at this; rw [add_none]; exact this)) (by simp [Value.oneCell']) (by omega) (by unfold maxLen; omega) (by omega) ?_; intro v' w1 hO1 hg1))
    go_ret
    refine ⟨v',rfl,.inl ?_,grown_past hg1⟩
    have hO2:=hO1
    rw [show ([] ++ [Value.int .i64 b]:List Value)=vals (upd d 0 b) (0+1) from (vals_ext rfl fun i hi=>by
      match i,hi with
      | 0,_=>simp [upd_same])] at hO2
    have hO3:Out _ w1 v' (0+1) (upd d 0 b):=hO2
    exact hO3.lower (by simp)
theorem xgrow_E {ad:Addr} {d:Nat->Int} {q:Int} (w:World) (hq:rng q) :
  Calls Tryz.prog 264 #[.slice (some ad) 0 0,.int .i64 q] w fun e w'=>∃ v',e=.returned v'∧LsO w.heap.size w' v' (grw 0 d q)∧w.grownBy w' none:=by
 have CA:Hid (∀ W,W=w->Calls Tryz.prog 268 #[.slice (some ad) 0 0,.int .i64 q] W fun e w'=>∃ v',e=.returned v'∧LsO W.heap.size w' v' (grw 0 d q)∧W.grownBy w' none):=fun W hW=>by
  subst hW
  exact xadd_E W hq
 clear hq
 go_enter Tryz.func264,Tryz.ntmps264
 go_wp2_with fail
 go_loopw [1,5,13] (fun qv gv iv wr=>iv=.int .i64 0∧qv=.int .i64 q∧gv=.slice (some ad) 0 0∧wr=w) (fun _ _ iv _=>0)
 case atStart=>exact ⟨rfl,rfl,rfl,rfl⟩
 case round=>
  obtain ⟨rfl,rfl,rfl,rfl⟩:=hrel
  go_wp2_with fail
  refine (CA.out _ rfl).mono ?_
  rintro _ w2 ⟨v',rfl,hO2,hg2⟩
  go_wp2
  go_ret
  exact ⟨v',rfl,hO2,hg2⟩
theorem LsO.lower {B B':Nat} {w:World} {v:Value} {s:Ls} (h:LsO B w v s) (hB:B'<=B):LsO B' w v s:=by
 rcases h with h | h
 ·exact .inl (h.lower hB)
 ·exact .inr h
theorem xgrow_L {B:Nat} {v:Value} {s:Ls} {q:Int} (w:World) (h:LsO B w v s) (hd:∀ i,i<s.n->rng (s.d i)∧pok (s.d i)=true) (hq:rng q) (pq:pok q=true) (hn:s.n<=800000) (hB:B<=w.heap.size) :
  Calls Tryz.prog 264 #[v,.int .i64 q] w fun e w'=>(gx s.d q s.n=true∧∃ v',e=.returned v'∧LsO B w' v' (grw s.n s.d q)∧XGr B w v w')∨(gx s.d q s.n=false∧e=gaveX∧XGr B w v w'):=by
 rcases h with h | ⟨h0,ad,rfl⟩
 ·refine (xgrow_any w h hd hq pq hn hB).mono ?_
  rintro e w' (⟨h1,v',h2,h3,h4⟩ | ⟨h1,h2,h3⟩)
  ·exact .inl ⟨h1,v',h2,.inl h3,XGr.of_out h h4⟩
  ·exact .inr ⟨h1,h2,XGr.of_out h h3⟩
 ·obtain ⟨sn,sd⟩:=s
  simp only at h0
  subst h0
  refine (xgrow_E (d:=sd) w hq).mono ?_
  rintro e w' ⟨v',h1,h2,h3⟩
  exact .inl ⟨rfl,v',h1,h2.lower hB,.inl h3⟩
def Ls.fin (s:Ls):Prop:=∀ i,i<s.n->rng (s.d i)∧pok (s.d i)=true
theorem Ls.fin.add {s:Ls} (h:s.fin) {b:Int} (hb:rng b) (pb:pok b=true):(s.add b).fin:=by
 unfold Ls.add
 split
 ·exact h
 ·intro i hi
  show rng (upd s.d s.n b i)∧pok (upd s.d s.n b i)=true
  by_cases e:i=s.n
  ·subst e; rw [upd_same]; exact ⟨hb,pb⟩
  ·rw [upd_other _ _ e]
   exact h i (by have:i<s.n+1:=hi; omega)
theorem gs_fin {d:Nat->Int} {q:Int} {n:Nat} (hd:∀ i,i<n->rng (d i)∧pok (d i)=true) (hq:rng q) (pq:pok q=true):∀ k,k<=n->gx d q k=true->(gs d q k).fin
 | 0,_,_=>fun i hi=>absurd hi (Nat.not_lt_zero _)
 | k+1,hk,hx=>by
  have hx':(gx d q k && pok (gl d q k))=true:=hx
  rw [Bool.and_eq_true] at hx'
  obtain ⟨r1,r2⟩:=gq_fin hd hq pq k (by omega) hx'.1
  exact (gs_fin hd hq pq k (by omega) hx'.1).add (sL_rng r1 (hd k (by omega)).1) hx'.2
theorem grw_fin {s:Ls} {q:Int} (hs:s.fin) (hq:rng q) (pq:pok q=true) (hx:gx s.d q s.n=true):(grw s.n s.d q).fin:=by
 obtain ⟨r1,r2⟩:=gq_fin hs hq pq s.n (Nat.le_refl _) hx
 exact (gs_fin hs hq pq s.n (Nat.le_refl _) hx).add r1 r2
theorem grw_le (n:Nat) (d:Nat->Int) (q:Int):(grw n d q).n<=n+1:=by
 have h1:=gs_le d q n
 have h2:=((gs d q n).add_le (gq d q n)).2
 show ((gs d q n).add _).n<=n+1
 omega
def gaS (s:Ls) (f:Nat->Int):Nat->Ls
 | 0=>s
 | k+1=>grw (gaS s f k).n (gaS s f k).d (f k)
def gaX (s:Ls) (f:Nat->Int):Nat->Bool
 | 0=>true
 | k+1=>gaX s f k && gx (gaS s f k).d (f k) (gaS s f k).n
theorem gaS_le (s:Ls) (f:Nat->Int):∀ k,(gaS s f k).n<=s.n+k
 | 0=>Nat.le_refl _
 | k+1=>by
  have h1:=gaS_le s f k
  have h2:=grw_le (gaS s f k).n (gaS s f k).d (f k)
  show (grw _ _ _).n<=s.n+(k+1)
  omega
theorem gaX_mono {s:Ls} {f:Nat->Int}:∀ {k j},j<=k->gaX s f k=true->gaX s f j=true
 | 0,j,h,hx=>by
  obtain rfl:j=0:=by omega
  rfl
 | k+1,j,h,hx=>by
  by_cases e:j=k+1
  ·subst e; exact hx
  ·have:(gaX s f k && gx (gaS s f k).d (f k) (gaS s f k).n)=true:=hx
   rw [Bool.and_eq_true] at this
   exact gaX_mono (by omega) this.1
theorem gaS_fin {s:Ls} {f:Nat->Int} {m:Nat} (hs:s.fin) (hf:∀ i,i<m->rng (f i)∧pok (f i)=true):∀ k,k<=m->gaX s f k=true->(gaS s f k).fin
 | 0,_,_=>hs
 | k+1,hk,hx=>by
  have hx':(gaX s f k && gx (gaS s f k).d (f k) (gaS s f k).n)=true:=hx
  rw [Bool.and_eq_true] at hx'
  obtain ⟨r1,r2⟩:=hf k (by omega)
  exact grw_fin (gaS_fin hs hf k (by omega) hx'.1) r1 r2 hx'.2
theorem xown_some {ad:Addr} {n cap:Nat} {d:Nat->Int} (w:World) (h:Row w (some ad) n cap d) (h0:0<n) (hn:n<=700000) :
  Calls Tryz.prog 214 #[.slice (some ad) n cap] w fun e w'=>∃ v',e=.returned v'∧Out w.heap.size w' v' n d∧w.grownBy w' none:=by
 obtain ⟨i0,hi,hz0,hz1,hz2⟩:=info_parts info_int
 obtain ⟨b,off,e0,hb,hc⟩:=h.spot h0
 have hle:=h.le
 have hmx:=h.max
 simp only [Option.some.injEq] at e0
 subst e0
 go_enter Tryz.func214,Tryz.ntmps214
 go_wp2_with (at_builtin; refine wpList_append_grows _ rfl _ _ 38 rfl 3 i0 (.int .i64 0) 1 8 Tryz.underlying38 hi hz0 hz1 hz2 rfl (by decide) _ 0 0 [] rfl (fun q=>⟨rfl,rfl⟩) rfl (fun _ _ j u hu=>by simp at hu) _ n cap (vals d n) rfl (by rw [vals_length]; omega) (by intro j u hu; have hj:j<n:=(by have:=(List.getElem?_eq_some_iff.1 hu).1; rwa [vals_length] at this); rw [vals_get d hj] at hu; rw [add_none,hc j hj]; exact hu) (vals_one d n) (by omega) (by unfold maxLen; omega) (by omega) ?_; intro v' w1 hO1 hg1)
 go_ret
 refine ⟨v',rfl,?_,hg1⟩
 rw [Nat.zero_add,List.nil_append] at hO1
 exact hO1
theorem run_app00 (ad ad2:Addr) (c:Nat) (ty:TypeId) (w:World):(Builtin.append_ #[38,38] ty #[.slice (some ad) 0 0,.slice (some ad2) 0 c]).run Tryz.prog w=.ok (.slice (some ad) 0 0) w:=by
 obtain ⟨i0,hi,hz0,hz1,hz2⟩:=info_parts info_int
 have hf:=run_firstCells_some (P:=Tryz.prog) w i0.size 0 ad2 0 c [] (by simp) (by intro j u hu; simp at hu)
 simp [Builtin.append_,run_underlying Tryz.underlying38,sizeOf,typeInfo,hi,Builtin.lenOf,hf,storeCells]
theorem xown_nil (w:World):Calls Tryz.prog 214 #[.slice none 0 0] w fun e w'=>e=.returned (.slice none 0 0)∧w'=w:=by
 obtain ⟨i0,hi,hz0,hz1,hz2⟩:=info_parts info_int
 go_enter Tryz.func214,Tryz.ntmps214
 go_wp2_with (at_builtin; refine wpList_append_own_none rfl _ _ 38 rfl w.heap.size 3 i0 1 Tryz.underlying38 hi (.slice none 0 0) 0 [] rfl (World.ownsRow_nil _ _ _ _) rfl ?_)
 go_ret
 exact ⟨rfl,rfl⟩
theorem xown_zero (ad:Addr) (cap:Nat) (hm:cap<=9223372036854775807) (w:World):Calls Tryz.prog 214 #[.slice (some ad) 0 cap] w fun e w'=>(∃ ad',e=.returned (.slice (some ad') 0 0))∧w'=w:=by
 have h0:=run_app00
 go_enter Tryz.func214,Tryz.ntmps214
 go_wp2
 all_goals go_ret
 all_goals exact ⟨⟨_,rfl⟩,rfl⟩
theorem xown_any {ao:Option Addr} {n cap:Nat} {d:Nat->Int} (w:World) (h:Row w ao n cap d) (hn:n<=700000) :
  Calls Tryz.prog 214 #[.slice ao n cap] w fun e w'=>∃ v',e=.returned v'∧LsO w.heap.size w' v' ⟨n,d⟩∧w.grownBy w' none:=by
 cases ao with
 | none=>
  have hc:=h.nl rfl
  have hl:=h.le
  subst hc
  obtain rfl:n=0:=by omega
  refine (xown_nil w).mono ?_
  rintro e w' ⟨rfl,rfl⟩
  exact ⟨_,rfl,.inl (Out.nil _ _ _),World.grownBy.refl _ _⟩
 | some ad=>
  by_cases h0:n=0
  ·subst h0
   refine (xown_zero ad cap h.max w).mono ?_
   rintro e w' ⟨⟨ad',rfl⟩,rfl⟩
   exact ⟨_,rfl,.inr ⟨rfl,ad',rfl⟩,World.grownBy.refl _ _⟩
  ·refine (xown_some w h (by omega) hn).mono ?_
   rintro e w' ⟨v',rfl,h1,h2⟩
   exact ⟨v',rfl,.inl h1,h2⟩
theorem gaS_succ (s:Ls) (f:Nat->Int) (k:Nat):gaS s f (k+1)=grw (gaS s f k).n (gaS s f k).d (f k):=rfl
theorem gaX_succ (s:Ls) (f:Nat->Int) (k:Nat):gaX s f (k+1)=(gaX s f k && gx (gaS s f k).d (f k) (gaS s f k).n):=rfl
theorem LsO.shape {B:Nat} {w:World} {v:Value} {s:Ls} (h:LsO B w v s):∃ ao cap,v=.slice ao s.n cap:=by
 rcases h with h | ⟨h0,ad,rfl⟩
 ·obtain ⟨ao,cap,e,_⟩:=h.row
  exact ⟨ao,cap,e⟩
 ·exact ⟨some ad,0,by rw [h0]⟩
theorem xgather_any {B:Nat} {v:Value} {s:Ls} {fo:Option Addr} {m fc:Nat} {f:Nat->Int} (w:World) (h:LsO B w v s) (hs:s.fin) (hf:∀ W,Below B w W->Row W fo m fc f) (hff:∀ i,i<m->rng (f i)∧pok (f i)=true) (hn:s.n+m<=700000) (hB:B<=w.heap.size) :
  Calls Tryz.prog 213 #[v,.slice fo m fc] w fun e w'=>(gaX s f m=true∧∃ v',e=.returned v'∧LsO B w' v' (gaS s f m)∧Below B w w')∨(gaX s f m=false∧e=gaveX∧Below B w w'):=by
 have hR:=hf w (Below.refl _ _)
 have hle:=hR.le
 have hmx:=hR.max
 have HF:Hid (∀ W,Below B w W->Row W fo m fc f):=hf
 have HFF:Hid (∀ i,i<m->rng (f i)∧pok (f i)=true):=hff
 have HFI:Hid (∀ k,k<=m->gaX s f k=true->(gaS s f k).fin):=gaS_fin hs hff
 have hL:=gaS_le s f
 obtain ⟨ao0,cap0,rfl⟩:=h.shape
 clear hf hff hR hs
 go_enter Tryz.func213,Tryz.ntmps213
 go_wp2_with fail
 go_loopw [0,9] (fun hv iv wr=>∃ (k:Nat) (v0:Value),k<=m∧iv=.int .i64 k∧hv=v0∧Hid (gaX s f k=true)∧Hid (LsO B wr v0 (gaS s f k))∧Hid (Below B w wr)) (fun _ iv _=>m-(intOf iv).toNat)
 case atStart=>exact ⟨0,_,Nat.zero_le _,rfl,rfl,rfl,h,Below.refl _ _⟩
 case round=>
  obtain ⟨k,hv,hk,rfl,hve,HX,HL,HBW⟩:=hrel
  replace hve:=hve.symm
  subst hve
  clear h
  have hLk:=hL k
  by_cases hlt:k<m
  ·obtain ⟨b,off,rfl,hbb,hc⟩:=(HF.out _ HBW.out).spot (by omega)
   have c0:=hc k hlt
   clear hc
   obtain ⟨d1,d2⟩:=HFF.out k hlt
   have hwr:B<=wr.heap.size:=Nat.le_trans hB HBW.out.size
   have CG:Hid (∀ W,W=wr->Calls Tryz.prog 264 #[hv,.int .i64 (f k)] W fun e w'=>(gaX s f (k+1)=true∧∃ v',e=.returned v'∧LsO B w' v' (gaS s f (k+1))∧Below B W w')∨(gaX s f m=false∧e=gaveX∧Below B W w')):=fun W hW=>by
    subst hW
    rw [gaS_succ,gaX_succ]
    refine (xgrow_L W HL.out (HFI.out k hk HX.out) d1 d2 (by omega) hwr).mono ?_
    rintro e w' (⟨h1,v',h2,h3,h4⟩ | ⟨h1,h2,h3⟩)
    ·exact .inl ⟨by rw [HX.out,h1]; rfl,v',h2,h3,h4.below hwr⟩
    ·refine .inr ⟨?_,h2,h3.below hwr⟩
     cases hx:gaX s f m
     ·rfl
     ·have:=gaX_mono (show k+1<=m by omega) hx
      rw [gaX_succ,h1,Bool.and_false] at this
      cases this
   generalize f k=fk at *
   have i0:(0:Int)<=(k:Int):=by omega
   have i1:(k:Int)<(m:Int):=by omega
   go_wp2_with fail
   refine (CG.out _ rfl).mono ?_
   rintro _ w1 (⟨h1,v',rfl,h3,h4⟩ | ⟨h1,rfl,h3⟩)
   ·go_wp2
    go_roundw
    case rel=>exact ⟨k+1,_,by omega,by go_num,rfl,h1,h3,HBW.out.trans h4⟩
    case measure=>simp [intOf]; omega
   ·unfold gaveX
    go_wp2
    exact ⟨rfl,.inr ⟨h1,rfl,HBW.out.trans h3⟩⟩
  ·obtain rfl:k=m:=by omega
   go_wp2
   go_ret
   exact .inl ⟨HX.out,_,rfl,HL.out,HBW.out⟩
def sq (d:Nat->Int) (b:Int):Nat->Int
 | 0=>fprod (d 0) b
 | k+1=>fsum (fprod (d (k+1)) b) (fsum (sq d b k) (prL (d (k+1)) b))
def ss (s:Ls) (d:Nat->Int) (b:Int):Nat->Ls
 | 0=>s.add (prL (d 0) b)
 | k+1=>((ss s d b k).add (sL (sq d b k) (prL (d (k+1)) b))).add (fL (fprod (d (k+1)) b) (fsum (sq d b k) (prL (d (k+1)) b)))
def sx (d:Nat->Int) (b:Int):Nat->Bool
 | 0=>pX (d 0) b
 | k+1=>sx d b k && (pX (d (k+1)) b && (pok (sL (sq d b k) (prL (d (k+1)) b)) && fX (fprod (d (k+1)) b) (fsum (sq d b k) (prL (d (k+1)) b))))
def scl (s:Ls) (d:Nat->Int) (b:Int) (n:Nat):Ls:=(ss s d b n).add (sq d b n)
theorem ss_le (s:Ls) (d:Nat->Int) (b:Int):∀ k,(ss s d b k).n<=s.n+2*k+1
 | 0=>(s.add_le _).2
 | k+1=>by
  have h1:=ss_le s d b k
  have h2:=((ss s d b k).add_le (sL (sq d b k) (prL (d (k+1)) b))).2
  have h3:=(((ss s d b k).add (sL (sq d b k) (prL (d (k+1)) b))).add_le (fL (fprod (d (k+1)) b) (fsum (sq d b k) (prL (d (k+1)) b)))).2
  show (((ss s d b k).add _).add _).n<=_
  omega
theorem sx_succ (d:Nat->Int) (b:Int) (k:Nat):sx d b (k+1)=(sx d b k && (pX (d (k+1)) b && (pok (sL (sq d b k) (prL (d (k+1)) b)) && fX (fprod (d (k+1)) b) (fsum (sq d b k) (prL (d (k+1)) b))))):=rfl
theorem sq_succ (d:Nat->Int) (b:Int) (k:Nat):sq d b (k+1)=fsum (fprod (d (k+1)) b) (fsum (sq d b k) (prL (d (k+1)) b)):=rfl
theorem ss_succ (s:Ls) (d:Nat->Int) (b:Int) (k:Nat):ss s d b (k+1)=((ss s d b k).add (sL (sq d b k) (prL (d (k+1)) b))).add (fL (fprod (d (k+1)) b) (fsum (sq d b k) (prL (d (k+1)) b))):=rfl
theorem sx_mono {d:Nat->Int} {b:Int}:∀ {k j},j<=k->sx d b k=true->sx d b j=true
 | 0,j,h,hx=>by
  obtain rfl:j=0:=by omega
  exact hx
 | k+1,j,h,hx=>by
  by_cases e:j=k+1
  ·subst e; exact hx
  ·rw [sx_succ,Bool.and_eq_true] at hx
   exact sx_mono (by omega) hx.1
theorem pX_fin {p q:Int} (hp:rng p) (hq:rng q) (h:pX p q=true):pok (fprod p q)=true∧pok (prL p q)=true:=by
 unfold pX at h
 rw [Bool.and_eq_true] at h
 exact ⟨(prL_args hp hq h.1).2.1,h.1⟩
theorem fX_fin {p q:Int} (hp:rng p) (hq:rng q) (h:fX p q=true):pok (fsum p q)=true∧pok (fL p q)=true:=by
 unfold fX at h
 rw [Bool.and_eq_true] at h
 exact ⟨(fL_args hp hq h.1).2,h.1⟩
theorem sq_fin {d:Nat->Int} {b:Int} {n:Nat} (hd:∀ i,i<=n->rng (d i)∧pok (d i)=true) (hb:rng b):∀ k,k<=n->sx d b k=true->rng (sq d b k)∧pok (sq d b k)=true
 | 0,_,hx=>⟨fprod_rng (hd 0 (by omega)).1 hb,(pX_fin (hd 0 (by omega)).1 hb hx).1⟩
 | k+1,hk,hx=>by
  rw [sx_succ,Bool.and_eq_true,Bool.and_eq_true,Bool.and_eq_true] at hx
  obtain ⟨h1,h2,h3,h4⟩:=hx
  obtain ⟨r1,r2⟩:=sq_fin hd hb k (by omega) h1
  obtain ⟨d1,d2⟩:=hd (k+1) hk
  have rp:=prL_rng d1 hb
  have rt:=fprod_rng d1 hb
  have rs:=fsum_rng r1 rp
  rw [sq_succ]
  exact ⟨fsum_rng rt rs,(fX_fin rt rs h4).1⟩
theorem xtwoProd {p q:Int} (hp:rng p) (hq:rng q) (pp:pok p=true) (pq:pok q=true) (w:World) (H:Hold4 w) :
  Calls Tryz.prog 182 #[.int .i64 p,.int .i64 q] w fun e w'=>e=.returned (.tuple #[.int .i64 (fprod p q),.int .i64 (prL p q),.bool (pX p q)])∧Below w.heap.size w w':=by
 have:=twoProd_any hp hq w H
 rw [told_ok pp hp,told_ok pq hq] at this
 exact this
theorem xfast {p q:Int} (hp:rng p) (hq:rng q) (pp:pok p=true) (pq:pok q=true) (w:World) :
  Calls Tryz.prog 269 #[.int .i64 p,.int .i64 q] w fun e w'=>e=.returned (.tuple #[.int .i64 (fsum p q),.int .i64 (fL p q),.bool (fX p q)])∧Below w.heap.size w w':=by
 have:=fastTwoSum_any hp hq w
 rw [told_ok pp hp,told_ok pq hq] at this
 exact this
theorem xscale_empty {v:Value} {eo:Option Addr} {ec:Nat} {b:Int} (w:World) :
  Calls Tryz.prog 216 #[v,.slice eo 0 ec,.int .i64 b] w fun e w'=>e=.returned v∧w'=w:=by
 go_enter Tryz.func216,Tryz.ntmps216
 go_wp2
 go_ret
 exact ⟨rfl,rfl⟩
theorem xscale_nought {v:Value} {eo:Option Addr} {n ec:Nat} {b:Int} (w:World) (hb:rng b) (h0:rg b=0) (hn:n<=9223372036854775807) :
  Calls Tryz.prog 216 #[v,.slice eo n ec,.int .i64 b] w fun e w'=>e=.returned v∧w'=w:=by
 have hz:=fun W=>xnought hb W
 rw [decide_eq_true h0] at hz
 go_enter Tryz.func216,Tryz.ntmps216
 go_wp2_with (go_at_call 266; refine (hz _).mono ?_; rintro _ _ ⟨rfl,rfl⟩)
 all_goals go_ret
 all_goals exact ⟨rfl,rfl⟩
theorem xif_nil (w:World):(binOp .eql 20 Value.nilIface Value.nilIface).run Tryz.prog w=.ok (.bool true) w:=by kernel_rfl
theorem xif_not (w:World):(binOp .eql 20 (.iface 29 (.int .i64 14)) Value.nilIface).run Tryz.prog w=.ok (.bool false) w:=by kernel_rfl
theorem xif_is (w:World):(binOp .eql 20 (.iface 29 (.int .i64 14)) (.iface 29 (.int .i64 14))).run Tryz.prog w=.ok (.bool true) w:=by kernel_rfl
theorem xcatch_panicking (p:Addr) (x:Value) (older:List PanicEntry) (w:World) (hc:w.cell? p=some x) (hz:w.frozen? p=false) :
  CallsD Tryz.prog 263 #[.pointer (some p)] (.panicking ({ v:=.iface 29 (.int .i64 14),recovered:=false } :: older)) w fun e u' w'=>
   e=.returned (.tuple #[])∧u'=.panicking ({ v:=.iface 29 (.int .i64 14),recovered:=true } :: older)∧w'=w.setCell p (.int .i64 14):=by
 have h1:=xif_not
 have h2:=xif_is
 refine callsD_of_wpS Tryz.func263 rfl fun c₀ cs hu=>?_
 apply wpS_seq
 apply wpS_region
 simp [wpOpsS,go_sem,recoverD,hu,Tryz.ntmps263,Exit.thenS]
 refine wpS_of_wp ?_
 go_wp2
 simp [bodyPostS,results,Tryz.results263]
theorem xcatch_idle (p:Addr) (w:World) :
  CallsD Tryz.prog 263 #[.pointer (some p)] .returning w fun e u' w'=>e=.returned (.tuple #[])∧u'=.returning∧w'=w:=by
 have h1:=xif_nil
 refine callsD_of_wpS Tryz.func263 rfl fun c₀ cs hu=>?_
 apply wpS_seq
 apply wpS_region
 simp [wpOpsS,go_sem,recoverD,hu,Tryz.ntmps263,Exit.thenS]
 refine wpS_of_wp ?_
 go_wp2
 cases c₀
 simp_all [bodyPostS,results,Tryz.results263]
theorem xtold_no (F:Nat) (cap:Array Value) (w:World) (hE:∀ w,(callFunc F cap).run Tryz.prog w=.ok (.enter F cap) w) (hF:∀ W,Below w.heap.size w W->Calls Tryz.prog F cap W fun r W'=>r=gaveX∧Below W.heap.size W W') :
  Calls Tryz.prog 211 #[.func (.func F) #[] cap] w fun r w'=>r=.returned (.tuple #[.slice none 0 0,.int .i64 14])∧Below w.heap.size w w':=by
 have hmf:∀ (fn:Fn) (first cap:Array Value) (w:World),(Instr.makeFunc fn first cap).run Tryz.prog w=.ok (.func fn first cap) w:=fun _ _ _ _=>rfl
 go_enter_defers Tryz.func211,Tryz.ntmps211
 go_wp2_with fail
 refine (hF _ (bel_alloc _ _)).mono ?_
 rintro r W' ⟨rfl,hb⟩
 unfold gaveX
 have q1:=(hb.block w.heap.size (by rw [size1]; omega)).trans (heap_a1 _ _)
 have f0:=blkF q1 0
 have k0:=blkC q1 0 rfl
 go_wp2_with fail
 refine leaves_cons (f:=263) (args:=#[.pointer (some ⟨w.heap.size,0,none⟩)]) (by simp) (by simp [go_sem]) ?_
 refine (xcatch_panicking ⟨w.heap.size,0,none⟩ _ [] _ k0 f0).mono ?_
 rintro e u' w'' ⟨rfl,rfl,rfl⟩
 simp [Leaves,settle,results,Tryz.results211,go_sem,k0]
 exact (bel_trans (bel_alloc _ _) hb).setCell (Nat.le_refl _) _
theorem xtold_yes (F:Nat) (cap:Array Value) (w:World) (s:Ls) (hE:∀ w,(callFunc F cap).run Tryz.prog w=.ok (.enter F cap) w) (hF:∀ W,Below w.heap.size w W->Calls Tryz.prog F cap W fun r W'=>∃ v,r=.returned v∧LsO W.heap.size W' v s∧Below W.heap.size W W') :
  Calls Tryz.prog 211 #[.func (.func F) #[] cap] w fun r w'=>∃ v,r=.returned (.tuple #[v,.int .i64 0])∧LsO w.heap.size w' v s∧Below w.heap.size w w':=by
 have hmf:∀ (fn:Fn) (first cap:Array Value) (w:World),(Instr.makeFunc fn first cap).run Tryz.prog w=.ok (.func fn first cap) w:=fun _ _ _ _=>rfl
 go_enter_defers Tryz.func211,Tryz.ntmps211
 go_wp2_with fail
 refine (hF _ (bel_alloc _ _)).mono ?_
 rintro r W' ⟨v,rfl,hL,hb⟩
 have q1:=(hb.block w.heap.size (by rw [size1]; omega)).trans (heap_a1 _ _)
 have f0:=blkF q1 0
 have k0:=blkC q1 0 rfl
 have hL2:LsO w.heap.size (W'.setCell ⟨w.heap.size,0,none⟩ (.int .i64 0)) v s:=by
  rcases hL with h | h
  ·exact .inl ((h.set_below (a:=⟨w.heap.size,0,none⟩) (by rw [size1]; exact Nat.lt_succ_self _) _).lower (by rw [size1]; omega))
  ·exact .inr h
 have hb2:Below w.heap.size w (W'.setCell ⟨w.heap.size,0,none⟩ (.int .i64 0)):=(bel_trans (bel_alloc _ _) hb).setCell (p:=⟨w.heap.size,0,none⟩) (Nat.le_refl _) _
 obtain ⟨ao,cc,rfl⟩:=hL.shape
 go_wp2_with fail
 refine leaves_cons (f:=263) (args:=#[.pointer (some ⟨w.heap.size,0,none⟩)]) (by simp) (by simp [go_sem]) ?_
 refine (xcatch_idle ⟨w.heap.size,0,none⟩ _).mono ?_
 rintro e u' w'' ⟨rfl,rfl,rfl⟩
 simp [Leaves,settle,results,Tryz.results211,go_sem,k0]
 first | exact hb2 | exact ⟨hL2,hb2⟩ | exact ⟨_,rfl,hL2,hb2⟩
def xab (d:Nat->Int):Nat->Int
 | 0=>-9223372036854775808
 | k+1=>pexp (d k)+blen (pmag (d k))
def xok (d:Nat->Int) (k:Nat):Bool:=!decide (pmag (d k)=0) && !decide (pexp (d k)+jz (pmag (d k))<xab d k)
def xval (d:Nat->Int):Nat->Bool
 | 0=>true
 | k+1=>xval d k && xok d k
theorem xval_succ (d:Nat->Int) (k:Nat):xval d (k+1)=(xval d k && xok d k):=rfl
theorem xval_mono {d:Nat->Int}:∀ {k j},j<=k->xval d k=true->xval d j=true
 | 0,j,h,hx=>by
  obtain rfl:j=0:=by omega
  rfl
 | k+1,j,h,hx=>by
  by_cases e:j=k+1
  ·subst e; exact hx
  ·rw [xval_succ,Bool.and_eq_true] at hx
   exact xval_mono (by omega) hx.1
theorem xmag_in (b:Int):0<=pmag b∧pmag b<9007199254740992∧-2000<=pexp b∧pexp b<=2000:=by
 cases h:pok b
 ·have:fld b=2047:=by simpa [pok] using h
  unfold pmag pexp
  rw [if_pos this,if_pos this]
  omega
 ·have:=pmag_in h
  omega
theorem jz_small (b:Int):pmag b≠0->jz (pmag b)<=64:=fun hne=>by
 have hm:=xmag_in b
 have h1:(pmag b).toNat<2^64:=Nat.lt_of_lt_of_le (show (pmag b).toNat<9007199254740992 by omega) (by decide)
 exact Nat.le_of_lt (Lib.lowest_bit 64 (pmag b).toNat (by omega) h1).2
theorem xvalid_any {eo:Option Addr} {n ec:Nat} {d:Nat->Int} (w:World) (h:Row w eo n ec d) (H:Hold4 w) :
    Calls Tryz.prog 185 #[.slice eo n ec] w fun e w'=>e=.returned (.bool (xval d n))∧Below w.heap.size w w':=by
  have hle:=h.le
  have hmx:=h.max
  have HR:Hid (Row w eo n ec d):=h
  have HH:Hid (Hold4 w):=H
  clear h H
  go_enter Tryz.func185,Tryz.ntmps185
  go_wp2_with fail
  go_loopw [3,12] (fun av iv wr=>∃ k:Nat,k<=n∧iv=.int .i64 k∧av=.int .i64 (xab d k)∧Hid (xval d k=true)∧Below w.heap.size w wr) (fun _ iv _=>n-(intOf iv).toNat)
  case atStart=>exact ⟨0,Nat.zero_le _,rfl,rfl,rfl,bel_refl _⟩
  case round=>
    obtain ⟨k,hk,rfl,rfl,HX,hbw⟩:=hrel
    by_cases hlt:k<n
    · obtain ⟨b,off,rfl,hbb,hc⟩:=(HR.out.keeps hbw).spot (by omega)
      have c0:=hc k hlt
      clear hc
      have H:=HH.out.keeps hbw
      have CP:=bitsPartsA (d k) wr H.lay
      have m1:=xmag_in (d k)
      have HNO:Hid (xok d k=false->xval d n=false):=fun hno=>by
        cases hx:xval d n
        · rfl
        · have:=xval_mono (show k+1<=n by omega) hx
          rw [xval_succ,hno,Bool.and_false] at this
          cases this
      have HO:Hid (xok d k=(!decide (pmag (d k)=0) && !decide (pexp (d k)+jz (pmag (d k))<xab d k))):=rfl
      have HA:Hid (xab d (k+1)=pexp (d k)+blen (pmag (d k))):=rfl
      have hab:-9223372036854775808<=xab d k:=by
        cases k with
        | zero=>exact Int.le_refl _
        | succ j=>
          show _<=pexp (d j)+((blen (pmag (d j)):Nat):Int)
          have:=xmag_in (d j)
          omega
      have CT:Hid (∀ W,b_Tab W->0<pmag (d k)->Calls Tryz.prog 244 #[.int .u64 (pmag (d k))] W fun e w'=>e=.returned (.int .i64 (jz (pmag (d k))))∧w'=W):=fun W hT hp=>tzero_any _ hp (by omega) W hT
      have CL:Hid (∀ W,Calls Tryz.prog 245 #[.int .u64 (pmag (d k))] W fun e w'=>e=.returned (.int .i64 (blen (pmag (d k))))∧w'=W):=fun W=>len_any _ W (by omega) (by omega)
      have hj:=jz_small (d k)
      have hbl:blen (pmag (d k))<=63:=blen_le (show pmag (d k)<9223372036854775808 by omega)
      have cv:IntKind.u64.wrap (pmag (d k))=pmag (d k):=by rw [IntKind.wrap_u64]; omega
      generalize hmg:pmag (d k)=mg at *
      generalize hex:pexp (d k)=ex at *
      generalize pneg (d k)=ng at *
      generalize pok (d k)=fn at *
      generalize hdk:d k=dk at *
      generalize hbn:blen mg=bn at *
      clear hmg hex hdk hbn
      have i0:(0:Int)<=(k:Int):=by omega
      have i1:(k:Int)<(n:Int):=by omega
      by_cases hm:mg=0
      · subst hm
        have hno:Hid (false=xval d n):=(HNO.out (by rw [HO.out]; simp)).symm
        go_wp2_with fail
        refine CP.mono ?_
        rintro _ w1 ⟨rfl,hb1⟩
        go_wp2
        all_goals go_ret
        all_goals exact ⟨ret_bool hno.out,by first | exact bel_trans hbw hb1 | exact (bel_trans hbw hb1).drew⟩
      · have hm0:(mg == 0)=false:=by simpa using hm
        have hmp:0<mg:=by omega
        have hj':=hj hm
        generalize hjj:jz mg=jj at *
        clear hj hjj
        by_cases hl:ex+(jj:Int)<xab d k
        · have hno:Hid (false=xval d n):=(HNO.out (by rw [HO.out]; simp [hl])).symm
          generalize xab d k=ab at *
          go_wp2_with fail
          refine CP.mono ?_
          rintro _ w1 ⟨rfl,hb1⟩
          have hbw1:=bel_trans hbw hb1
          have HT:Hid (b_Tab w1):=(HH.out.keeps hbw1).tab
          go_wp2_with (go_at_call 244; refine (CT.out _ HT.out hmp).mono ?_; rintro _ wz ⟨rfl,hw⟩; replace hw:=hw.symm; subst hw)
          all_goals go_ret
          all_goals exact ⟨ret_bool hno.out,by first | exact hbw1 | exact hbw1.drew⟩
        · have hyes:xval d (k+1)=true:=by rw [xval_succ,HX.out,HO.out]; simp [hl,hm]
          have hl':¬ (ex+(jj:Int)<xab d k):=hl
          clear hl
          generalize xab d k=ab at *
          go_wp2_with fail
          refine CP.mono ?_
          rintro _ w1 ⟨rfl,hb1⟩
          have hbw1:=bel_trans hbw hb1
          have HT:Hid (b_Tab w1):=(HH.out.keeps hbw1).tab
          go_wp2_with (first
            | (go_at_call 244; refine (CT.out _ HT.out hmp).mono ?_; rintro _ wz ⟨rfl,hw⟩; replace hw:=hw.symm; subst hw)
            | (go_at_call 245; refine (CL.out _).mono ?_; rintro _ wz ⟨rfl,hw⟩; replace hw:=hw.symm; subst hw))
          go_roundw
          case rel=>exact ⟨k+1,by omega,by go_num,by rw [HA.out],hyes,by first | exact hbw1 | exact hbw1.drew⟩
          case measure=>simp [intOf]; omega
    · obtain rfl:k=n:=by omega
      go_wp2
      go_ret
      exact ⟨ret_bool HX.out.symm,hbw⟩
def XR (w:World) (ok:Bool) (s:Ls) (r:Ending) (w':World):Prop:=((ok=true∧∃ v,r=.returned v∧LsO w.heap.size w' v s)∨(ok=false∧r=gaveX))∧Below w.heap.size w w'
def XA (w:World) (ok:Bool) (s:Ls) (r:Ending) (w':World):Prop:=((ok=true∧∃ v,r=.returned (.tuple #[v,.int .i64 0])∧LsO w.heap.size w' v s)∨(ok=false∧r=.returned (.tuple #[.slice none 0 0,.int .i64 14])))∧Below w.heap.size w w'
theorem xtold_any (F:Nat) (cap:Array Value) (w:World) (ok:Bool) (s:Ls) (hE:∀ w,(callFunc F cap).run Tryz.prog w=.ok (.enter F cap) w) (hF:∀ W,Below w.heap.size w W->Calls Tryz.prog F cap W fun r W'=>XR W ok s r W') :
  Calls Tryz.prog 211 #[.func (.func F) #[] cap] w fun r w'=>XA w ok s r w':=by
 cases ok
 ·refine (xtold_no F cap w hE fun W hW=>(hF W hW).mono ?_).mono ?_
  ·rintro r W' ⟨(⟨h,_⟩ | ⟨_,h⟩),hb⟩
   ·cases h
   ·exact ⟨h,hb⟩
  ·rintro r w' ⟨h,hb⟩
   exact ⟨.inr ⟨rfl,h⟩,hb⟩
 ·refine (xtold_yes F cap w s hE fun W hW=>(hF W hW).mono ?_).mono ?_
  ·rintro r W' ⟨(⟨_,v,h1,h2⟩ | ⟨h,_⟩),hb⟩
   ·exact ⟨v,h1,h2,hb⟩
   ·cases h
  ·rintro r w' ⟨v,h1,h2,hb⟩
   exact ⟨.inl ⟨rfl,v,h1,h2⟩,hb⟩
theorem xwl1 (G:Nat) (eo fo:Option Addr) (n ec m fc:Nat) (p0 p1 p2:Addr) (w:World) (ok:Bool) (s:Ls) (hEG:∀ (cap:Array Value) (w:World),(callFunc G cap).run Tryz.prog w=.ok (.enter G cap) w) (c0:w.cell? p0=some (.func (.func G) #[] #[])) (c1:w.cell? p1=some (.slice eo n ec)) (c2:w.cell? p2=some (.slice fo m fc))
  (hG:Calls Tryz.prog G #[.slice eo n ec,.slice fo m fc] w fun r w'=>XR w ok s r w') :
  Calls Tryz.prog 212 #[.pointer (some p0),.pointer (some p1),.pointer (some p2)] w fun r w'=>XR w ok s r w':=by
 go_enter Tryz.func212,Tryz.ntmps212
 go_wp2_with fail
 refine hG.mono ?_
 rintro r w' ⟨(⟨h1,v,rfl,h2⟩ | ⟨h1,rfl⟩),hb⟩
 ·obtain ⟨ao,cc,rfl⟩:=h2.shape
  go_wp2
  go_ret
  exact ⟨.inl ⟨h1,_,rfl,h2⟩,hb⟩
 ·unfold gaveX
  go_wp2
  exact ⟨rfl,.inr ⟨h1,rfl⟩,hb⟩
theorem xwl_ok (G:Nat) {eo fo:Option Addr} {n ec m fc:Nat} {d f:Nat->Int} (w:World) (ok:Bool) (s:Ls) (hEG:∀ (cap:Array Value) (w:World),(callFunc G cap).run Tryz.prog w=.ok (.enter G cap) w) (h:Row w eo n ec d) (hf:Row w fo m fc f) (hv:xval d n=true) (hu:xval f m=true) (H:Hold4 w)
  (hG:∀ W,Below w.heap.size w W->Calls Tryz.prog G #[.slice eo n ec,.slice fo m fc] W fun r w'=>XR W ok s r w') :
  Calls Tryz.prog 157 #[.slice eo n ec,.slice fo m fc,.func (.func G) #[] #[]] w fun r w'=>XA w ok s r w':=by
 have hmf:∀ (fn:Fn) (first cap:Array Value) (w:World),(Instr.makeFunc fn first cap).run Tryz.prog w=.ok (.func fn first cap) w:=fun _ _ _ _=>rfl
 have hst:∀ p F m w,(store p (.func (.func F) #[] #[]) m).run Tryz.prog w=stored Tryz.prog w p (.func (.func F) #[] #[]) m:=fun p F m w=>run_store _ w p _ m rfl
 have hE:∀ (cap:Array Value) (w:World),(callFunc 212 cap).run Tryz.prog w=.ok (.enter 212 cap) w:=by
  intro cap w
  simp [go_sem]
 have k0:=h3_0 w (.cells #[.slice eo n ec] 38) (.cells #[.slice fo m fc] 38) (.cells #[.func (.func G) #[] #[]] 185)
 have k1:=h3_1 w (.cells #[.slice eo n ec] 38) (.cells #[.slice fo m fc] 38) (.cells #[.func (.func G) #[] #[]] 185)
 have k2:=h3_2 w (.cells #[.slice eo n ec] 38) (.cells #[.slice fo m fc] 38) (.cells #[.func (.func G) #[] #[]] 185)
 have hb0:=bel_a3 w (.cells #[.slice eo n ec] 38) (.cells #[.slice fo m fc] 38) (.cells #[.func (.func G) #[] #[]] 185)
 have CV:=fun W hW=>xvalid_any W (h.keeps hW) (H.keeps hW)
 rw [hv] at CV
 have CP:=fun W hW=>xvalid_any W (hf.keeps hW) (H.keeps hW)
 rw [hu] at CP
 go_enter Tryz.func157,Tryz.ntmps157
 go_wp2_with fail
 generalize ((w.alloc (.cells #[.slice eo n ec] 38)).alloc (.cells #[.slice fo m fc] 38)).alloc (.cells #[.func (.func G) #[] #[]] 185)=x0 at k0 k1 k2 hb0 ⊢
 refine (CV _ hb0).mono ?_
 rintro _ y1 ⟨rfl,hw1⟩
 have k0:=(hw1.block _ (Array.getElem?_eq_some_iff.1 k0).1).trans k0
 have k1:=(hw1.block _ (Array.getElem?_eq_some_iff.1 k1).1).trans k1
 have k2:=(hw1.block _ (Array.getElem?_eq_some_iff.1 k2).1).trans k2
 have hbA:=bel_trans hb0 hw1
 have c1:=blkC k1 0 rfl
 go_wp2_with fail
 refine (CP _ hbA).mono ?_
 rintro _ y2 ⟨rfl,hw2⟩
 have k0:=(hw2.block _ (Array.getElem?_eq_some_iff.1 k0).1).trans k0
 have k1:=(hw2.block _ (Array.getElem?_eq_some_iff.1 k1).1).trans k1
 have k2:=(hw2.block _ (Array.getElem?_eq_some_iff.1 k2).1).trans k2
 have hbB:=bel_trans hbA hw2
 have c0:=blkC k0 0 rfl
 have c1:=blkC k1 0 rfl
 have c2:=blkC k2 0 rfl
 go_wp2_with fail
 refine (xtold_any 212 _ _ ok s (hE _) (fun W hW=>?_)).mono ?_
 ·have k0:=(hW.block _ (Array.getElem?_eq_some_iff.1 k0).1).trans k0
  have k1:=(hW.block _ (Array.getElem?_eq_some_iff.1 k1).1).trans k1
  have k2:=(hW.block _ (Array.getElem?_eq_some_iff.1 k2).1).trans k2
  exact xwl1 G eo fo n ec m fc _ _ _ W ok s hEG (blkC k2 0 rfl) (blkC k0 0 rfl) (blkC k1 0 rfl) (hG W (bel_trans hbB hW))
 rintro r w2 ⟨(⟨h1,v,rfl,h2⟩ | ⟨h1,rfl⟩),hb2⟩
 ·obtain ⟨ao,cc,rfl⟩:=h2.shape
  go_wp2
  refine bodyPost_ret (v:=.tuple #[.slice ao s.n cc,.int .i64 0]) (by simp [results,Tryz.results157,go_sem]) rfl ⟨.inl ⟨h1,_,rfl,h2.lower hbB.size⟩,bel_trans hbB hb2⟩
 ·go_wp2
  refine bodyPost_ret (v:=.tuple #[.slice none 0 0,.int .i64 14]) (by simp [results,Tryz.results157,go_sem]) rfl ⟨.inr ⟨h1,rfl⟩,bel_trans hbB hb2⟩
theorem xval_fin {d:Nat->Int}:∀ {n},xval d n=true->∀ i,i<n->pok (d i)=true
 | 0,_,i,hi=>absurd hi (Nat.not_lt_zero _)
 | n+1,h,i,hi=>by
  rw [xval_succ,Bool.and_eq_true] at h
  by_cases e:i=n
  ·subst e
   have h2:=h.2
   unfold xok at h2
   rw [Bool.and_eq_true] at h2
   cases hp:pok (d i)
   ·exfalso
    have hf:fld (d i)=2047:=by simpa [pok] using hp
    have:pmag (d i)=0:=by unfold pmag; rw [if_pos hf]
    simp [this] at h2
   ·rfl
  ·exact xval_fin h.1 i (by omega)
theorem XR.of_gr {w w1 w':World} {ok:Bool} {s:Ls} {r:Ending} (hb:w.grownBy w1 none) (h:(ok=true∧∃ v,r=.returned v∧LsO w.heap.size w' v s∧Below w.heap.size w1 w')∨(ok=false∧r=gaveX∧Below w.heap.size w1 w')):XR w ok s r w':=by
 have hb0:Below w.heap.size w w1:=grown_below hb
 rcases h with ⟨h1,v,h2,h3,h4⟩ | ⟨h1,h2,h3⟩
 ·exact ⟨.inl ⟨h1,v,h2,h3⟩,hb0.trans h4⟩
 ·exact ⟨.inr ⟨h1,h2⟩,hb0.trans h3⟩
theorem xsum_any {eo fo:Option Addr} {n ec m fc:Nat} {d f:Nat->Int} (w:World) (h:Row w eo n ec d) (hf:Row w fo m fc f) (hd:∀ i,i<n->rng (d i)∧pok (d i)=true) (hff:∀ i,i<m->rng (f i)∧pok (f i)=true) (hn:n+m<=600000) :
  Calls Tryz.prog 158 #[.slice eo n ec,.slice fo m fc] w fun r w'=>XR w (gaX ⟨n,d⟩ f m) (gaS ⟨n,d⟩ f m) r w':=by
 have CO:=xown_any w h (by omega)
 have CG:Hid (∀ W v,w.grownBy W none->LsO w.heap.size W v ⟨n,d⟩->Calls Tryz.prog 213 #[v,.slice fo m fc] W fun e w'=>(gaX ⟨n,d⟩ f m=true∧∃ v',e=.returned v'∧LsO w.heap.size w' v' (gaS ⟨n,d⟩ f m)∧Below w.heap.size W w')∨(gaX ⟨n,d⟩ f m=false∧e=gaveX∧Below w.heap.size W w')):=fun W v hW hL=>
  xgather_any W hL hd (fun W' hW'=>hf.keeps ((grown_below hW).trans hW')) hff (show n+m<=700000 by omega) hW.size
 generalize gaX ⟨n,d⟩ f m=X at *
 generalize gaS ⟨n,d⟩ f m=S at *
 go_enter Tryz.func158,Tryz.ntmps158
 go_wp2_with fail
 refine CO.mono ?_
 rintro _ w1 ⟨v,rfl,hL,hg⟩
 obtain ⟨ao,cc,rfl⟩:=hL.shape
 go_wp2_with fail
 refine (CG.out _ _ hg hL).mono ?_
 rintro _ w2 (⟨h1,v',rfl,h3,h4⟩ | ⟨h1,rfl,h3⟩)
 ·obtain ⟨ao',cc',rfl⟩:=h3.shape
  go_wp2
  go_ret
  exact XR.of_gr hg (.inl ⟨h1,_,rfl,h3,h4⟩)
 ·unfold gaveX
  go_wp2
  exact ⟨rfl,XR.of_gr hg (.inr ⟨h1,rfl,h3⟩)⟩
def sclN (d:Nat->Int) (b:Int):Nat->Ls
 | 0=>⟨0,fun _=>0⟩
 | n+1=>if rg b=0 then ⟨0,fun _=>0⟩ else scl ⟨0,fun _=>0⟩ d b n
def sxN (d:Nat->Int) (b:Int):Nat->Bool
 | 0=>true
 | n+1=>if rg b=0 then true else sx d b n
end Go.Proofs.YtjjihmnbdeeedaaGreatDoor
namespace Go.Proofs.YtjjihmnbdeeedaaGreatDoor
open Go Go.RowKit Go.Proofs.YtjjihmnbdeeedaaGreatDoor.M Ieee
end Go.Proofs.YtjjihmnbdeeedaaGreatDoor
namespace Go.Proofs.YtjjihmnbdeeedaaGreatDoor
open Go Go.RowKit Go.Proofs.YtjjihmnbdeeedaaGreatDoor.M
theorem LsO.row {B:Nat} {w:World} {v:Value} {s:Ls} (h:LsO B w v s):∃ ao cap,v=.slice ao s.n cap∧Row w ao s.n cap s.d:=by
 rcases h with h | ⟨h0,ad,rfl⟩
 ·exact h.row
 ·rw [h0]
  exact ⟨some ad,0,rfl,Nat.le_refl _,by decide,(fun q=>by cases q),fun q=>by omega⟩
theorem XA.yes {w w':World} {ok:Bool} {s:Ls} {r:Ending} (h:XA w ok s r w') (ho:ok=true):∃ ao cap,r=.returned (.tuple #[.slice ao s.n cap,.int .i64 0])∧Row w' ao s.n cap s.d∧Below w.heap.size w w':=by
 obtain ⟨(⟨_,v,h1,h2⟩ | ⟨h1,_⟩),hb⟩:=h
 ·obtain ⟨ao,cap,rfl,hR⟩:=h2.row
  exact ⟨ao,cap,h1,hR,hb⟩
 ·rw [ho] at h1; cases h1
theorem XA.no {w w':World} {ok:Bool} {s:Ls} {r:Ending} (h:XA w ok s r w') (ho:ok=false):r=.returned (.tuple #[.slice none 0 0,.int .i64 14])∧Below w.heap.size w w':=by
 obtain ⟨(⟨h1,_⟩ | ⟨_,h1⟩),hb⟩:=h
 ·rw [ho] at h1; cases h1
 ·exact ⟨h1,hb⟩
end Go.Proofs.YtjjihmnbdeeedaaGreatDoor
namespace Go.Proofs.YtjjihmnbdeeedaaGreatDoor
open Go Go.RowKit Go.Proofs.YtjjihmnbdeeedaaGreatDoor.M Ieee
theorem k_sp1 {a c B M:Int} (h:(a.natAbs:Int)<=B) (hM:268435455*B<=M):((134217729*a).natAbs:Int)<=M:=by omega
theorem k_sp2 {a c B M:Int} (h:(a.natAbs:Int)<=B) (hM:268435455*B<=M) (r:1000*(c-134217729*a).natAbs<=(134217729*a).natAbs):((c-a).natAbs:Int)<=M∧((c-a).natAbs:Int)<=200000000*B:=by omega
theorem k_sp3 {a c d B M:Int} (h:(a.natAbs:Int)<=B) (hM:268435455*B<=M) (g:((c-a).natAbs:Int)<=200000000*B) (r:1000*(d-(c-a)).natAbs<=(c-a).natAbs):((c-d).natAbs:Int)<=M∧((c-d).natAbs:Int)<=300000*B:=by omega
theorem k_sp4 {a c d x B M:Int} (h:(a.natAbs:Int)<=B) (hM:268435455*B<=M) (g:((c-d).natAbs:Int)<=300000*B) (r:1000*(x-(c-d)).natAbs<=(c-d).natAbs):((a-x).natAbs:Int)<=M:=by omega
theorem sp_fin {p B:Int} (hp:M.rng p) (pp:pok p=true) (h:((iV p).natAbs:Int)<=B) (hM:268435455*B<=maxV):pok (spL p)=true:=by
 have rc:M.rng (cC p):=fprod_rng spl_rng hp
 have rd:=fsum_rng rc (neg_rng hp)
 have rH:M.rng (spH p):=fsum_rng rc (neg_rng rd)
 have S1:=stp_split hp pp
 have pc:=S1.fin (k_sp1 (c:=0) h hM)
 have r1:=nr_rel (S1.nr pc)
 obtain ⟨g1,g2⟩:=k_sp2 h hM r1
 have S2:=stp_diff rc hp pc pp
 have pd:=S2.fin g1
 have r2:=nr_rel (S2.nr pd)
 obtain ⟨g3,g4⟩:=k_sp3 h hM g2 r2
 have S3:=stp_diff rc rd pc pd
 have pH:=S3.fin g3
 have r3:=nr_rel (S3.nr pH)
 exact (stp_diff hp rH pp pH).fin (k_sp4 h hM g4 r3)
theorem pr_1 {a b h M:Int} (h1:((a.natAbs:Int)+b.natAbs)<=M):((a+b).natAbs:Int)<=M:=by omega
theorem pr_2 {a b h M:Int} (ha:2*(a.natAbs:Int)<=M) (hb:2*(b.natAbs:Int)<=M) (e1:(h-(a+b)).natAbs<=(a-(a+b)).natAbs):((h-a).natAbs:Int)<=M:=by omega
theorem pr_3 {a b h v M:Int} (ha:2*(a.natAbs:Int)<=M) (e2:(h-(a+b)).natAbs<=(b-(a+b)).natAbs) (e3:(v-(h-a)).natAbs<=(b-(h-a)).natAbs):((h-v).natAbs:Int)<=M:=by omega
theorem pr_4 {a b h v u M:Int} (ha:2*(a.natAbs:Int)<=M) (e2:(h-(a+b)).natAbs<=(b-(a+b)).natAbs) (e3:(v-(h-a)).natAbs<=(b-(h-a)).natAbs) (e4:(u-(h-v)).natAbs<=(a-(h-v)).natAbs):((a-u).natAbs:Int)<=M∧(a-u).natAbs<=2*(h-(a+b)).natAbs:=by omega
theorem pr_5 {a b h v M:Int} (hb:2*(b.natAbs:Int)<=M) (e1:(h-(a+b)).natAbs<=(a-(a+b)).natAbs) (e3:(v-(h-a)).natAbs<=(b-(h-a)).natAbs):((b-v).natAbs:Int)<=M∧(b-v).natAbs<=2*(h-(a+b)).natAbs:=by omega
theorem pr_6 {S h x y p q M:Int} (hM:(S.natAbs:Int)<=M) (r:1000*(h-S).natAbs<=S.natAbs) (g1:x.natAbs<=2*(h-S).natAbs) (g2:y.natAbs<=2*(h-S).natAbs) (n1:(p-x).natAbs<=(0-x).natAbs) (n2:(q-y).natAbs<=(0-y).natAbs):((p+q).natAbs:Int)<=M:=by omega
theorem sum_fin {p q:Int} (hp:M.rng p) (hq:M.rng q) (pp:pok p=true) (pq:pok q=true) (h1:2*((iV p).natAbs:Int)<=maxV) (h2:2*((iV q).natAbs:Int)<=maxV):pok (fsum p q)=true∧pok (sL p q)=true:=by
 have rh:=fsum_rng hp hq
 have rv:M.rng (sV p q):=fsum_rng rh (neg_rng hp)
 have rU:=fsum_rng rh (neg_rng rv)
 have rX:=fsum_rng hp (neg_rng rU)
 have rY:=fsum_rng hq (neg_rng rv)
 have Sh:=stp_sum hp hq pp pq
 have hM:=pr_1 (h:=0) (a:=iV p) (b:=iV q) (M:=maxV) (by omega)
 have ph:=Sh.fin hM
 have nh:=Sh.nr ph
 have e1:=nh.2 _ (fl_iV p)
 have e2:=nh.2 _ (fl_iV q)
 have Sv:=stp_diff rh hp ph pp
 have pv:=Sv.fin (pr_2 h1 h2 e1)
 have nv:=Sv.nr pv
 have e3:=nv.2 _ (fl_iV q)
 have SU:=stp_diff rh rv ph pv
 have pU:=SU.fin (pr_3 h1 e2 e3)
 have e4:=(SU.nr pU).2 _ (fl_iV p)
 have SX:=stp_diff hp rU pp pU
 obtain ⟨g1,g2⟩:=pr_4 h1 e2 e3 e4
 have pX:=SX.fin g1
 have SY:=stp_diff hq rv pq pv
 obtain ⟨g3,g4⟩:=pr_5 h2 e1 e3
 have pY:=SY.fin g3
 exact ⟨ph,(stp_sum rX rY pX pY).fin (pr_6 hM (nr_rel nh) g2 g4 ((SX.nr pX).2 _ fl_zero) ((SY.nr pY).2 _ fl_zero))⟩
theorem hlv_small {a h l:Int} (H:Hlv a h l):67108864*(l.natAbs:Int)<=(a.natAbs:Int):=by
 by_cases h0:a=0
 ·have:=H.zero h0
  have:=H.sum
  omega
 ·obtain ⟨x,j,s,g1,g2⟩:=H.spl h0
  have e:2^x*a-2^x*h=2^x*l:=by rw [<- Int.mul_sub]; congr 1; have:=H.sum; omega
  have u4:=s.low
  rw [e,natAbs_p2] at u4
  rw [natAbs_p2] at g1
  have hx:=p2 x
  have hj:=p2 j
  have:(2:Int)^x*(67108864*(l.natAbs:Int))<=2^x*(a.natAbs:Int):=by
   rw [show (2:Int)^x*(67108864*(l.natAbs:Int))=67108864*(2^x*(l.natAbs:Int)) by ac_rfl]
   omega
  exact Int.le_of_mul_le_mul_left this hx
theorem pr_ratio {K T U a b x y c:Int} (hK:0<K) (hT:K*T=a*b) (hU:K*U=x*y) (h:c*((x*y).natAbs:Int)<=((a*b).natAbs:Int)):c*(U.natAbs:Int)<=(T.natAbs:Int):=by
 rw [<- hT,<- hU,Int.natAbs_mul,Int.natAbs_mul,Int.natCast_mul,Int.natCast_mul,show ((K.natAbs:Nat):Int)=K by omega,show c*(K*(U.natAbs:Int))=K*(c*(U.natAbs:Int)) by ac_rfl] at h
 exact Int.le_of_mul_le_mul_left h hK
theorem pr_m1 {q r a b:Int} (hq:67108864*(q.natAbs:Int)<=(a.natAbs:Int)) (hr:(r.natAbs:Int)<=2*(b.natAbs:Int)):33554432*((q*r).natAbs:Int)<=((a*b).natAbs:Int):=by
 rw [Int.natAbs_mul,Int.natAbs_mul,Int.natCast_mul,Int.natCast_mul]
 have h1:=Int.mul_le_mul hq hr (by omega) (by omega)
 generalize (q.natAbs:Int)=Q at *
 generalize (r.natAbs:Int)=R at *
 generalize (a.natAbs:Int)=A at *
 generalize (b.natAbs:Int)=B at *
 rw [show 67108864*Q*R=67108864*(Q*R) by ac_rfl,show A*(2*B)=2*(A*B) by ac_rfl] at h1
 omega
end Go.Proofs.YtjjihmnbdeeedaaGreatDoor
namespace Go.Proofs.YtjjihmnbdeeedaaGreatDoor
open Go Go.RowKit Go.Proofs.YtjjihmnbdeeedaaGreatDoor.M
theorem cls_nought {b:Int} (hb:rng b):cls b=0 ↔ rg b=0:=by
 have h1:=q_cls hb
 rw [<- h1]
 constructor
 ·intro h
  have hr:=(q_rg hb).1
  have h0:0<=rg b:=(q_rg hb).2
  generalize rg b=r at *
  unfold rng at hr
  unfold cls fld frc at h
  split at h
  ·split at h <;> omega
  ·split at h
   ·split at h
    ·omega
    ·omega
   ·omega
 ·intro h; rw [h]; decide
theorem Ls.same.refl (s:Ls):s.same s:=⟨rfl,fun _ _=>rfl⟩
theorem Ls.same.symm {s t:Ls} (h:s.same t):t.same s:=⟨h.1.symm,fun i hi=>(h.2 i (by rw [h.1]; exact hi)).symm⟩
theorem Ls.same.trans {s t u:Ls} (h:s.same t) (k:t.same u):s.same u:=⟨h.1.trans k.1,fun i hi=>(h.2 i hi).trans (k.2 i (by rw [<- h.1]; exact hi))⟩
theorem gq_same {d f:Nat->Int} {q:Int} {n:Nat} (h:∀ i,i<n->d i=f i):∀ k,k<=n->gq d q k=gq f q k
 | 0,_=>rfl
 | k+1,hk=>by
  show fsum (gq d q k) (d k)=fsum (gq f q k) (f k)
  rw [gq_same h k (by omega),h k (by omega)]
theorem gl_same {d f:Nat->Int} {q:Int} {n:Nat} (h:∀ i,i<n->d i=f i) (k:Nat) (hk:k<n):gl d q k=gl f q k:=by
 unfold gl
 rw [gq_same h k (by omega),h k hk]
theorem gx_same {d f:Nat->Int} {q:Int} {n:Nat} (h:∀ i,i<n->d i=f i):∀ k,k<=n->gx d q k=gx f q k
 | 0,_=>rfl
 | k+1,hk=>by
  show (gx d q k && pok (gl d q k))=(gx f q k && pok (gl f q k))
  rw [gx_same h k (by omega),gl_same h k (by omega)]
theorem gs_same {d f:Nat->Int} {q:Int} {n:Nat} (h:∀ i,i<n->d i=f i):∀ k,k<=n->(gs d q k).same (gs f q k)
 | 0,_=>⟨rfl,fun i hi=>absurd hi (Nat.not_lt_zero _)⟩
 | k+1,hk=>by
  show ((gs d q k).add (gl d q k)).same ((gs f q k).add (gl f q k))
  rw [gl_same h k (by omega)]
  exact (gs_same h k (by omega)).add _
theorem grw_same {d f:Nat->Int} {q:Int} {n:Nat} (h:∀ i,i<n->d i=f i):(grw n d q).same (grw n f q):=by
 unfold grw
 rw [gq_same h n (Nat.le_refl _)]
 exact (gs_same h n (Nat.le_refl _)).add _
theorem ss_same {s t:Ls} (h:s.same t) (d:Nat->Int) (b:Int):∀ k,(ss s d b k).same (ss t d b k)
 | 0=>h.add _
 | k+1=>((ss_same h d b k).add _).add _
theorem gaS_same {s t:Ls} (h:s.same t) {f g:Nat->Int} {m:Nat} (hf:∀ i,i<m->f i=g i):∀ k,k<=m->(gaS s f k).same (gaS t g k)∧gaX s f k=gaX t g k
 | 0,_=>⟨h,rfl⟩
 | k+1,hk=>by
  obtain ⟨h1,h2⟩:=gaS_same h hf k (by omega)
  rw [gaS_succ,gaS_succ,gaX_succ,gaX_succ,h2,hf k (by omega),<- h1.1,gx_same h1.2 _ (Nat.le_refl _)]
  exact ⟨grw_same h1.2,rfl⟩
theorem sclN_le (d:Nat->Int) (b:Int):∀ n,(sclN d b n).n<=2*n
 | 0=>Nat.le_refl _
 | n+1=>by
  show (if rg b=0 then (⟨0,fun _=>0⟩:Ls) else scl ⟨0,fun _=>0⟩ d b n).n<=_
  split
  ·exact Nat.zero_le _
  ·have h1:=ss_le ⟨0,fun _=>0⟩ d b n
   have h2:=((ss ⟨0,fun _=>0⟩ d b n).add_le (sq d b n)).2
   have h1':(ss ⟨0,fun _=>0⟩ d b n).n<=0+2*n+1:=h1
   show ((ss ⟨0,fun _=>0⟩ d b n).add (sq d b n)).n<=_
   omega
def Lo (x y:Int):Prop:=∃ s:Nat,(x.natAbs:Int)<2^s∧(2^s:Int) ∣ y
theorem dvd_abs_le {x y:Int} (h:x ∣ y) (h0:y≠0) (hx:0<x):x<=(y.natAbs:Int):=by
 have h1:x ∣ (y.natAbs:Int):=Int.dvd_natAbs.2 h
 exact Int.le_of_dvd (by omega) h1
theorem nr_unit {S x:Int} (n:Nr S x) (hne:x≠S):∃ u:Nat,(2^u:Int) ∣ x∧((S-x).natAbs:Int)<2^u:=by
 obtain ⟨k,h1,h2⟩:=binade (S.natAbs:Int) (by omega)
 rcases h2 with rfl | h2
 ·exfalso
  have:Fl S:=⟨0,⟨S,by simp⟩,by simpa using h1⟩
  exact hne (nr_self this n)
 ·have f:Fl (4503599627370496*2^k:Int):=by
   have:=fl_p2 k (m:=4503599627370496) (by decide)
   exact this
  have h3:=dk5 n f h2
  have h4:=nr_err n (i:=k) (by omega)
  have p:=p2 k
  exact ⟨k,fl_units n.1 h3,by omega⟩
theorem nr_loss {a b x:Int} (ha:Fl a) (n:Nr (a+b) x):(a+b-x).natAbs<=b.natAbs:=by
 have:=n.2 a ha
 omega
theorem Lo.trans {x y z:Int} (h:Lo x y) (hy:y≠0) (k:Lo y z):Lo x z:=by
 obtain ⟨s,h1,h2⟩:=h
 obtain ⟨t,k1,k2⟩:=k
 have h3:=dvd_abs_le h2 hy (p2 s)
 have h4:s<t:=p2lt (Int.lt_of_le_of_lt h3 k1)
 exact ⟨s,h1,Int.dvd_trans (p2dvd (by omega)) k2⟩
theorem iV_nought {b:Int} (hb:rng b) (h:rg b=0):iV b=0:=by
 have:=iV_abs b
 rw [h] at this
 have h2:(V Ieee.double (0:Int).toNat:Int)=0:=by decide +kernel
 omega
theorem iV_some {b:Int} (hb:rng b) (pb:pok b=true) (h:rg b≠0):iV b≠0∧pmag b≠0:=by
 have e:=iV_form hb pb
 have hm:pmag b≠0:=by
  intro q
  have hc:cls b=0:=by
   have hf:fld b≠2047:=by simpa [pok] using pb
   have:=frc_le b
   unfold pmag at q
   rw [if_neg hf] at q
   unfold cls
   rw [if_neg hf]
   by_cases h0:fld b=0
   ·rw [if_pos h0] at q ⊢
    rw [if_pos q]
   ·rw [if_neg h0] at q
    omega
  exact h ((cls_nought hb).1 hc)
 refine ⟨fun q=>?_,hm⟩
 obtain ⟨i0,_⟩:=pmag_in pb
 have p1:=two_pos (pexp b+1074).toNat
 have:0<pmag b*2^(pexp b+1074).toNat:=Int.mul_pos (by omega) p1
 rw [q] at e
 omega
theorem odd_dvd {s t:Nat} {m:Int} (h:(2^s:Int) ∣ 2^t*(2*m+1)):s<=t:=by
 apply Classical.byContradiction
 intro hn
 obtain ⟨r,rfl⟩:∃ r,s=t+1+r:=⟨s-t-1,by omega⟩
 obtain ⟨c,hc⟩:=h
 rw [Int.pow_add,Int.pow_add,Int.mul_assoc,Int.mul_assoc] at hc
 have:=Int.eq_of_mul_eq_mul_left (Int.ne_of_gt (two_pos t)) hc
 omega
theorem lo_iff {a b:Int} (ha:rng a) (hb:rng b) (pa:pok a=true) (pb:pok b=true) (ma:pmag a≠0) (mb:pmag b≠0):(pexp a+blen (pmag a)<=pexp b+jz (pmag b)) ↔ Lo (iV a) (iV b):=by
 obtain ⟨i0,i1,i2,i3⟩:=pmag_in pa
 obtain ⟨j0,j1,j2,j3⟩:=pmag_in pb
 obtain ⟨m,hm,_,_⟩:=jz_spec (show 0<pmag b by omega) (by omega)
 have e1:=iV_form ha pa
 have e2:=iV_form hb pb
 have hl:=blen_lt (pmag a)
 obtain ⟨_,hg⟩:=blen_pos (show 0<pmag a by omega)
 have hb1:1<=blen (pmag a):=(blen_pos (show 0<pmag a by omega)).1
 have p1:=two_pos (pexp a+1074).toNat
 have p2':=two_pos (pexp b+1074).toNat
 have s1:pmag a*2^(pexp a+1074).toNat<2^blen (pmag a)*2^(pexp a+1074).toNat:=Int.mul_lt_mul_of_pos_right hl p1
 rw [<- Int.pow_add] at s1
 have s2:(2:Int)^(blen (pmag a)-1)*2^(pexp a+1074).toNat<=pmag a*2^(pexp a+1074).toNat:=Int.mul_le_mul_of_nonneg_right hg (by omega)
 rw [<- Int.pow_add] at s2
 have e3:((iV b).natAbs:Int)=2^(jz (pmag b)+(pexp b+1074).toNat)*(2*(m:Int)+1):=by
  rw [e2,Int.pow_add]
  calc pmag b*2^(pexp b+1074).toNat=2^jz (pmag b)*(2*(m:Int)+1)*2^(pexp b+1074).toNat:=by rw [<- hm]
   _=_:=by rw [Int.mul_assoc,Int.mul_comm (2*(m:Int)+1),<- Int.mul_assoc]
 constructor
 ·intro h
  refine ⟨blen (pmag a)+(pexp a+1074).toNat,by rw [e1]; exact s1,?_⟩
  apply Int.dvd_natAbs.1
  rw [e3]
  exact Int.dvd_trans (p2dvd (by omega)) ⟨_,rfl⟩
 ·rintro ⟨s,h1,h2⟩
  have h3:(2^s:Int) ∣ 2^(jz (pmag b)+(pexp b+1074).toNat)*(2*(m:Int)+1):=by
   rw [<- e3]
   exact Int.dvd_natAbs.2 h2
  have h4:=odd_dvd h3
  rw [e1] at h1
  have h5:=p2lt (Int.lt_of_le_of_lt s2 h1)
  omega
structure XV (d:Nat->Int) (n:Nat):Prop where
 fin:∀ i,i<n->rng (d i)∧pok (d i)=true∧rg (d i)≠0
 lo:∀ i,i+1<n->Lo (iV (d i)) (iV (d (i+1)))
theorem XV.ne {d:Nat->Int} {n:Nat} (h:XV d n) {i:Nat} (hi:i<n):iV (d i)≠0:=(iV_some (h.fin i hi).1 (h.fin i hi).2.1 (h.fin i hi).2.2).1
theorem xval_of {d:Nat->Int}:∀ {n},XV d n->xval d n=true
 | 0,_=>rfl
 | n+1,h=>by
  have ih:xval d n=true:=xval_of ⟨fun i hi=>h.fin i (by omega),fun i hi=>h.lo i (by omega)⟩
  rw [xval_succ,ih,Bool.true_and]
  obtain ⟨r,p,z⟩:=h.fin n (by omega)
  have hm:=(iV_some r p z).2
  have hx:=xmag_in (d n)
  unfold xok
  have hz:decide (pmag (d n)=0)=false:=decide_eq_false hm
  rw [hz]
  cases n with
  | zero=>
   have:xab d 0=-9223372036854775808:=rfl
   rw [this]
   have:¬ (pexp (d 0)+jz (pmag (d 0)) < -9223372036854775808):=by omega
   simp [this]
  | succ j=>
   have e:xab d (j+1)=pexp (d j)+blen (pmag (d j)):=rfl
   obtain ⟨r',p',z'⟩:=h.fin j (by omega)
   have:=(lo_iff r' r p' p (iV_some r' p' z').2 hm).2 (h.lo j (by omega))
   rw [e]
   have:¬ (pexp (d (j+1))+jz (pmag (d (j+1)))<pexp (d j)+blen (pmag (d j))):=by omega
   simp [this]
theorem XV.far {d:Nat->Int} {n:Nat} (h:XV d n) {i:Nat}:∀ {j},i<j->j<n->Lo (iV (d i)) (iV (d j))
 | 0,hij,_=>absurd hij (Nat.not_lt_zero _)
 | j+1,hij,hj=>by
  by_cases e:i=j
  ·subst e; exact h.lo i hj
  ·exact (h.far (show i<j by omega) (by omega)).trans (h.ne (by omega)) (h.lo j hj)
structure GI (d:Nat->Int) (q:Int) (n k:Nat):Prop where
 xv:XV (gs d q k).d (gs d q k).n
 up:∀ i,i<(gs d q k).n->∃ s:Nat,((iV ((gs d q k).d i)).natAbs:Int)<2^s∧(2^s:Int) ∣ iV (gq d q k)∧∀ j,k<=j->j<n->(2^s:Int) ∣ iV (d j)
theorem XV.add {s:Ls} (h:XV s.d s.n) {b:Int} (hb:rng b) (pb:pok b=true) (hlo:∀ i,i<s.n->Lo (iV (s.d i)) (iV b)):XV (s.add b).d (s.add b).n:=by
 unfold Ls.add
 split
 ·exact h
 ·rename_i hz
  refine ⟨fun i hi=>?_,fun i hi=>?_⟩
  ·show rng (upd s.d s.n b i)∧pok (upd s.d s.n b i)=true∧rg (upd s.d s.n b i)≠0
   by_cases e:i=s.n
   ·subst e; rw [upd_same]; exact ⟨hb,pb,hz⟩
   ·rw [upd_other _ _ e]; exact h.fin i (by have:i<s.n+1:=hi; omega)
  ·have hi':i+1<s.n+1:=hi
   show Lo (iV (upd s.d s.n b i)) (iV (upd s.d s.n b (i+1)))
   rw [upd_other _ _ (show i≠s.n by omega)]
   by_cases e:i+1=s.n
   ·rw [e,upd_same]; exact hlo i (by omega)
   ·rw [upd_other _ _ e]; exact h.lo i (by omega)
theorem fsum_nr {p q:Int} (hp:rng p) (hq:rng q) (h:pok (sL p q)=true):Nr (iV p+iV q) (iV (fsum p q)):=by
 obtain ⟨⟨pp,pq⟩,ps,e⟩:=sL_exact hp hq h
 exact (stp_sum hp hq pp pq).nr ps
theorem gi_step {d:Nat->Int} {q:Int} {n k:Nat} (hd:XV d n) (hq:rng q) (pq:pok q=true) (hk:k<n) (hx:gx d q (k+1)=true) (h:GI d q n k):GI d q n (k+1):=by
 have hfin:∀ i,i<n->rng (d i)∧pok (d i)=true:=fun i hi=>⟨(hd.fin i hi).1,(hd.fin i hi).2.1⟩
 have hx':(gx d q k && pok (gl d q k))=true:=hx
 rw [Bool.and_eq_true] at hx'
 obtain ⟨r1,r2⟩:=gq_fin hfin hq pq k (by omega) hx'.1
 obtain ⟨d1,d2⟩:=hfin k hk
 have hl:pok (sL (gq d q k) (d k))=true:=hx'.2
 obtain ⟨_,ps,e⟩:=sL_exact r1 d1 hl
 have nr:=fsum_nr r1 d1 hl
 have rl:rng (gl d q k):=sL_rng r1 d1
 have eq1:gq d q (k+1)=fsum (gq d q k) (d k):=rfl
 have egl:gl d q k=sL (gq d q k) (d k):=rfl
 have es:gs d q (k+1)=(gs d q k).add (gl d q k):=rfl
 rw [<- egl,<- eq1] at e
 rw [<- eq1] at nr
 have herr:iV (gl d q k)=iV (gq d q k)+iV (d k)-iV (gq d q (k+1)):=by omega
 have hold:∀ i,i<(gs d q k).n->∃ s:Nat,((iV ((gs d q k).d i)).natAbs:Int)<2^s∧(2^s:Int) ∣ iV (gq d q (k+1))∧(2^s:Int) ∣ iV (gl d q k)∧∀ j,k+1<=j->j<n->(2^s:Int) ∣ iV (d j):=fun i hi=>by
  obtain ⟨s,h1,h2,h3⟩:=h.up i hi
  have h4:(2^s:Int) ∣ iV (gq d q k)+iV (d k):=Int.dvd_add h2 (h3 k (Nat.le_refl _) hk)
  have h5:=nr_dvd nr h4
  exact ⟨s,h1,h5,by rw [herr]; exact Int.dvd_sub h4 h5,fun j hj hjn=>h3 j (by omega) hjn⟩
 have hnew:rg (gl d q k)≠0->∃ s:Nat,((iV (gl d q k)).natAbs:Int)<2^s∧(2^s:Int) ∣ iV (gq d q (k+1))∧∀ j,k+1<=j->j<n->(2^s:Int) ∣ iV (d j):=fun hz=>by
  have hne:=(iV_some rl hx'.2 hz).1
  obtain ⟨u,h1,h2⟩:=nr_unit nr (fun c=>hne (by rw [herr,c]; omega))
  rw [<- herr] at h2
  by_cases hlast:k+1<n
  ·obtain ⟨t,k1,k2⟩:=hd.lo k hlast
   have h3:=nr_loss (fl_iV (gq d q k)) nr
   rw [<- herr] at h3
   have hup:∀ j,k+1<=j->j<n->(2^t:Int) ∣ iV (d j):=fun j hj hjn=>by
    by_cases e:j=k+1
    ·subst e; exact k2
    ·obtain ⟨t2,m1,m2⟩:=hd.far (show k+1<j by omega) hjn
     have h4:=dvd_abs_le k2 (hd.ne hlast) (p2 t)
     have h5:t<t2:=p2lt (Int.lt_of_le_of_lt h4 m1)
     exact Int.dvd_trans (p2dvd (by omega)) m2
   by_cases hut:u<=t
   ·exact ⟨u,h2,h1,fun j hj hjn=>Int.dvd_trans (p2dvd hut) (hup j hj hjn)⟩
   ·exact ⟨t,by omega,Int.dvd_trans (p2dvd (by omega)) h1,hup⟩
  ·exact ⟨u,h2,h1,fun j hj hjn=>by omega⟩
 refine ⟨?_,?_⟩
 ·rw [es]
  exact h.xv.add rl hx'.2 fun i hi=>by
   obtain ⟨s,h1,_,h3,_⟩:=hold i hi
   exact ⟨s,h1,h3⟩
 ·rw [es]
  intro i hi
  by_cases hz:rg (gl d q k)=0
  ·have ea:(gs d q k).add (gl d q k)=gs d q k:=by unfold Ls.add; rw [if_pos hz]
   rw [ea] at hi ⊢
   obtain ⟨s,h1,h2,_,h4⟩:=hold i hi
   exact ⟨s,h1,h2,h4⟩
  ·have ea:(gs d q k).add (gl d q k)=⟨(gs d q k).n+1,upd (gs d q k).d (gs d q k).n (gl d q k)⟩:=by unfold Ls.add; rw [if_neg hz]
   rw [ea] at hi ⊢
   have hi':i<(gs d q k).n+1:=hi
   show ∃ s:Nat,((iV (upd (gs d q k).d (gs d q k).n (gl d q k) i)).natAbs:Int)<2^s∧_
   by_cases e:i=(gs d q k).n
   ·subst e
    rw [upd_same]
    exact hnew hz
   ·rw [upd_other _ _ e]
    obtain ⟨s,h1,h2,_,h4⟩:=hold i (by omega)
    exact ⟨s,h1,h2,h4⟩
theorem gi_all {d:Nat->Int} {q:Int} {n:Nat} (hd:XV d n) (hq:rng q) (pq:pok q=true):∀ k,k<=n->gx d q k=true->GI d q n k
 | 0,_,_=>⟨⟨fun i hi=>absurd hi (Nat.not_lt_zero _),fun i hi=>absurd hi (Nat.not_lt_zero _)⟩,fun i hi=>absurd hi (Nat.not_lt_zero _)⟩
 | k+1,hk,hx=>by
  have hx':(gx d q k && pok (gl d q k))=true:=hx
  rw [Bool.and_eq_true] at hx'
  exact gi_step hd hq pq (by omega) hx (gi_all hd hq pq k (by omega) hx'.1)
theorem grw_xv {d:Nat->Int} {q:Int} {n:Nat} (hd:XV d n) (hq:rng q) (pq:pok q=true) (hx:gx d q n=true):XV (grw n d q).d (grw n d q).n:=by
 have hfin:∀ i,i<n->rng (d i)∧pok (d i)=true:=fun i hi=>⟨(hd.fin i hi).1,(hd.fin i hi).2.1⟩
 obtain ⟨r1,r2⟩:=gq_fin hfin hq pq n (Nat.le_refl _) hx
 have h:=gi_all hd hq pq n (Nat.le_refl _) hx
 exact h.xv.add r1 r2 fun i hi=>by
  obtain ⟨s,h1,h2,_⟩:=h.up i hi
  exact ⟨s,h1,h2⟩
def lsm (d:Nat->Int):Nat->Int
 | 0=>0
 | k+1=>lsm d k+iV (d k)
theorem lsm_succ (d:Nat->Int) (k:Nat):lsm d (k+1)=lsm d k+iV (d k):=rfl
theorem lsm_congr {d e:Nat->Int}:∀ {n},(∀ i,i<n->d i=e i)->lsm d n=lsm e n
 | 0,_=>rfl
 | n+1,h=>by rw [lsm_succ,lsm_succ,lsm_congr fun i hi=>h i (by omega),h n (by omega)]
theorem lsm_add {s:Ls} {b:Int} (hb:rng b):lsm (s.add b).d (s.add b).n=lsm s.d s.n+iV b:=by
 unfold Ls.add
 split
 ·rename_i hz
  rw [iV_nought hb hz,Int.add_zero]
 ·show lsm (upd s.d s.n b) s.n+iV (upd s.d s.n b s.n)=_
  rw [upd_same,lsm_congr (e:=s.d) fun i hi=>upd_other _ _ (by omega)]
theorem gs_sum {d:Nat->Int} {q:Int} {n:Nat} (hd:∀ i,i<n->rng (d i)∧pok (d i)=true) (hq:rng q) (pq:pok q=true):∀ k,k<=n->gx d q k=true->lsm (gs d q k).d (gs d q k).n+iV (gq d q k)=iV q+lsm d k
 | 0,_,_=>by show 0+iV q=iV q+0; omega
 | k+1,hk,hx=>by
  have hx':(gx d q k && pok (gl d q k))=true:=hx
  rw [Bool.and_eq_true] at hx'
  have ih:=gs_sum hd hq pq k (by omega) hx'.1
  obtain ⟨r1,r2⟩:=gq_fin hd hq pq k (by omega) hx'.1
  obtain ⟨d1,d2⟩:=hd k (by omega)
  have rl:rng (gl d q k):=sL_rng r1 d1
  obtain ⟨_,ps,e⟩:=sL_exact r1 d1 (show pok (sL (gq d q k) (d k))=true from hx'.2)
  have eq1:gq d q (k+1)=fsum (gq d q k) (d k):=rfl
  have egl:gl d q k=sL (gq d q k) (d k):=rfl
  have es:gs d q (k+1)=(gs d q k).add (gl d q k):=rfl
  rw [<- egl,<- eq1] at e
  rw [es,lsm_add rl,lsm_succ]
  omega
theorem grw_sum {d:Nat->Int} {q:Int} {n:Nat} (hd:∀ i,i<n->rng (d i)∧pok (d i)=true) (hq:rng q) (pq:pok q=true) (hx:gx d q n=true):lsm (grw n d q).d (grw n d q).n=iV q+lsm d n:=by
 have h:=gs_sum hd hq pq n (Nat.le_refl _) hx
 obtain ⟨r1,r2⟩:=gq_fin hd hq pq n (Nat.le_refl _) hx
 show lsm ((gs d q n).add (gq d q n)).d ((gs d q n).add (gq d q n)).n=_
 rw [lsm_add r1]
 exact h
theorem mult_lt {x u t:Int} {s:Nat} (hs:(2^s:Int) ∣ x) (hu:(2^s:Int) ∣ t) (h:(x.natAbs:Int)<t):(x.natAbs:Int)+2^s<=t:=by
 obtain ⟨a,ha⟩:=Int.dvd_natAbs.2 hs
 obtain ⟨b,hb⟩:=hu
 have p:=p2 s
 rw [ha,hb] at h ⊢
 have:a<b:=Int.lt_of_mul_lt_mul_left h (Int.le_of_lt p)
 have h2:(2:Int)^s*(a+1)<=2^s*b:=Int.mul_le_mul_of_nonneg_left (by omega) (Int.le_of_lt p)
 rw [Int.mul_add,Int.mul_one] at h2
 exact h2
theorem lsm_lt {d:Nat->Int}:∀ {n},XV d (n+1)->∀ t:Nat,((iV (d n)).natAbs:Int)<2^t->((lsm d (n+1)).natAbs:Int)<2^t
 | 0,h,t,ht=>by
  have:lsm d 1=iV (d 0):=by rw [lsm_succ]; show 0+_=_; omega
  rw [this]; exact ht
 | n+1,h,t,ht=>by
  obtain ⟨s,h1,h2⟩:=h.lo n (by omega)
  have ih:=lsm_lt (n:=n) ⟨fun i hi=>h.fin i (by omega),fun i hi=>h.lo i (by omega)⟩ s h1
  have hge:=dvd_abs_le h2 (h.ne (by omega)) (p2 s)
  have hst:s<t:=p2lt (Int.lt_of_le_of_lt hge ht)
  have h3:=mult_lt (u:=0) h2 (p2dvd (show s<=t by omega)) ht
  rw [lsm_succ]
  omega
theorem maxV_ge:(2:Int)^2097<=maxV:=by
 have h:(2:Int)^2097<=(V Ieee.double 9218868437227405311:Int):=by decide +kernel
 exact h
theorem p2_up {b c:Nat} {x:Int} (h:(x.natAbs:Int)<=2^b) (hbc:b<=c):(x.natAbs:Int)<=2^c:=Int.le_trans h (p2le hbc)
def LB (s:Ls) (b:Nat):Prop:=∀ i,i<s.n->((iV (s.d i)).natAbs:Int)<=2^b
theorem LB.add {s:Ls} {b:Nat} (h:LB s b) {x:Int} (hx:((iV x).natAbs:Int)<=2^b):LB (s.add x) b:=by
 unfold Ls.add
 split
 ·exact h
 ·intro i hi
  show ((iV (upd s.d s.n x i)).natAbs:Int)<=_
  by_cases e:i=s.n
  ·subst e; rw [upd_same]; exact hx
  ·rw [upd_other _ _ e]; exact h i (by have:i<s.n+1:=hi; omega)
theorem XV.fn {s:Ls} (h:XV s.d s.n):s.fin:=fun i hi=>⟨(h.fin i hi).1,(h.fin i hi).2.1⟩
theorem lsm_neg {f:Nat->Int}:∀ {m},(∀ i,i<m->rng (f i)∧pok (f i)=true)->lsm (fun i=>neg (f i)) m=-lsm f m
 | 0,_=>rfl
 | m+1,h=>by
  rw [lsm_succ,lsm_succ,lsm_neg fun i hi=>h i (by omega),(neg_facts (h m (by omega)).1 (h m (by omega)).2).2.2]
  omega
def PTs (d T:Nat->Int) (b:Int) (n:Nat):Prop:=∀ j,j<n->2^1074*T j=iV (d j)*iV b
def tsm (T:Nat->Int):Nat->Int
 | 0=>0
 | k+1=>tsm T k+T k
theorem tsm_succ (T:Nat->Int) (k:Nat):tsm T (k+1)=tsm T k+T k:=rfl
theorem tsm_prod {d T:Nat->Int} {b:Int} {n:Nat} (h:PTs d T b n):∀ k,k<=n->2^1074*tsm T k=lsm d k*iV b
 | 0,_=>by show 2^1074*(0:Int)=0*iV b; rw [Int.mul_zero,Int.zero_mul]
 | k+1,hk=>by rw [tsm_succ,lsm_succ,Int.mul_add,Int.add_mul,tsm_prod h k (by omega),h k (by omega)]
theorem dvd_units {t B:Nat} {x b T:Int} (hx:(2^t:Int) ∣ x) (hb:(2^B:Int) ∣ b) (hT:2^1074*T=x*b):(2^(t+B-1074):Int) ∣ T:=by
 by_cases h:t+B<=1074
 ·rw [Nat.sub_eq_zero_of_le h,Int.pow_zero]; exact Int.one_dvd _
 ·obtain ⟨a,ha⟩:=hx
  obtain ⟨c,hc⟩:=hb
  refine ⟨a*c,?_⟩
  have e:(2:Int)^1074*T=2^1074*(2^(t+B-1074)*(a*c)):=by
   rw [hT,ha,hc,<- Int.mul_assoc (2^1074),<- Int.pow_add,show 1074+(t+B-1074)=t+B by omega,Int.pow_add]
   generalize (2:Int)^t=X
   generalize (2:Int)^B=Y
   grind
  exact Int.eq_of_mul_eq_mul_left (Int.ne_of_gt (p2 1074)) e
theorem fl_top {b:Int} {B:Nat} (h1:(2^B:Int) ∣ b) (h2:(b.natAbs:Int)<9007199254740992*2^B):(b.natAbs:Int)<=9007199254740991*2^B:=by
 have h3:=mult_lt (u:=0) h1 (⟨9007199254740992,by rw [Int.mul_comm]⟩:(2^B:Int) ∣ 9007199254740992*2^B) h2
 generalize (2:Int)^B=Y at *
 omega
theorem k_prod2 {A C X Y M:Int} (hA:0<=A) (hC:0<=C) (h1:A<=X-1) (h2:C<=M*Y) (hM:0<M) (hY:0<Y):A*C<X*Y*M:=by
 have e1:A*C<=(X-1)*C:=Int.mul_le_mul_of_nonneg_right h1 hC
 have e2:(X-1)*C<=(X-1)*(M*Y):=Int.mul_le_mul_of_nonneg_left h2 (by omega)
 have e3:0<M*Y:=Int.mul_pos hM hY
 have e4:(X-1)*(M*Y)=X*Y*M-M*Y:=by grind
 omega
theorem prod_lt {t B:Nat} {x b T:Int} (hx:(x.natAbs:Int)<2^t) (h1:(2^B:Int) ∣ b) (h2:(b.natAbs:Int)<9007199254740992*2^B) (hT:2^1074*T=x*b):(T.natAbs:Int)<9007199254740991*2^(t+B-1074):=by
 have h3:=fl_top h1 h2
 have e1:((2^1074*T).natAbs:Int)=2^1074*(T.natAbs:Int):=natAbs_p2 1074 T
 have e2:((x*b).natAbs:Int)=(x.natAbs:Int)*(b.natAbs:Int):=by rw [Int.natAbs_mul,Int.natCast_mul]
 have e3:=k_prod2 (A:=(x.natAbs:Int)) (C:=(b.natAbs:Int)) (X:=2^t) (Y:=2^B) (M:=9007199254740991) (by omega) (by omega) (by omega) h3 (by decide) (p2 B)
 rw [<- e2,<- hT,e1,<- Int.pow_add] at e3
 have e4:(2:Int)^(t+B)<=2^(1074+(t+B-1074)):=p2le (by omega)
 rw [Int.pow_add 2 1074] at e4
 have e5:(2:Int)^(t+B)*9007199254740991<=2^1074*2^(t+B-1074)*9007199254740991:=Int.mul_le_mul_of_nonneg_right e4 (by decide)
 have e6:(2:Int)^1074*(T.natAbs:Int)<2^1074*(9007199254740991*2^(t+B-1074)):=by
  refine Int.lt_of_lt_of_le e3 (Int.le_trans e5 ?_)
  rw [Int.mul_assoc,Int.mul_comm (2^(t+B-1074)) 9007199254740991]
  exact Int.le_refl _
 exact Int.lt_of_mul_lt_mul_left e6 (Int.le_of_lt (p2 1074))
theorem add_all {L:Ls} {l:Int} (P:Int->Prop) (h:∀ i,i<L.n->P (L.d i)) (hl:rg l≠0->P l):∀ i,i<(L.add l).n->P ((L.add l).d i):=by
 intro i
 unfold Ls.add
 split
 ·exact h i
 ·rename_i hz
  intro hi
  have hi':i<L.n+1:=hi
  show P (upd L.d L.n l i)
  by_cases e:i=L.n
  ·subst e; rw [upd_same]; exact hl hz
  ·rw [upd_other _ _ e]; exact h i (by omega)
theorem lsm_all {d:Nat->Int} {n t:Nat} (h:XV d n) (ht:∀ i,i<n->((iV (d i)).natAbs:Int)<2^t):((lsm d n).natAbs:Int)<2^t:=by
 cases n with
 | zero=>have:=p2 t; show (((0:Int).natAbs:Nat):Int)<_; omega
 | succ n=>exact lsm_lt h t (ht n (by omega))
structure SI (d T:Nat->Int) (B N k:Nat) (L:Ls) (q:Int):Prop where
 xv:XV L.d L.n
 sum:lsm L.d L.n+iV q=tsm T (k+1)
 up:∀ i,i<L.n->∃ s:Nat,((iV (L.d i)).natAbs:Int)<2^s∧(2^s:Int) ∣ iV q∧∀ j,k<j->j<=N->(2^s:Int) ∣ T j
 small:∀ t:Nat,((iV (d k)).natAbs:Int)<2^t->∀ i,i<L.n->((iV (L.d i)).natAbs:Int)<2^(t+B-1074)
theorem xv_next {d T:Nat->Int} {b:Int} {B N k:Nat} (hd:XV d (N+1)) (hB1:(2^B:Int) ∣ iV b) (hT:PTs d T b (N+1)) (hk:k<=N):∃ t:Nat,((iV (d k)).natAbs:Int)<2^t∧∀ j,k<j->j<=N->(2^(t+B-1074):Int) ∣ T j:=by
 by_cases h:k<N
 ·obtain ⟨t,k1,k2⟩:=hd.lo k (by omega)
  refine ⟨t,k1,fun j hj hjn=>dvd_units ?_ hB1 (hT j (by omega))⟩
  by_cases e:j=k+1
  ·subst e; exact k2
  ·obtain ⟨t2,m1,m2⟩:=hd.far (show k+1<j by omega) (by omega)
   have h4:=dvd_abs_le k2 (hd.ne (by omega)) (p2 t)
   have h5:t<t2:=p2lt (Int.lt_of_le_of_lt h4 m1)
   exact Int.dvd_trans (p2dvd (by omega)) m2
 ·refine ⟨(iV (d k)).natAbs,?_,fun j hj hjn=>by omega⟩
  have:(iV (d k)).natAbs<2^(iV (d k)).natAbs:=Nat.lt_two_pow_self
  have h2:(((iV (d k)).natAbs:Nat):Int)<((2^(iV (d k)).natAbs:Nat):Int):=by omega
  rwa [k_pow] at h2
theorem half_lt {x:Int} {g:Nat} (h:2*(x.natAbs:Int)<=2^g):(x.natAbs:Int)<2^g:=by
 have:=p2 g
 omega
theorem prod_facts {x b T:Int} (rx:rng x) (rb:rng b) (hx:pX x b=true) (hT:2^1074*T=iV x*iV b):pok (fprod x b)=true∧pok (prL x b)=true∧iV (fprod x b)+iV (prL x b)=T∧Nr T (iV (fprod x b)):=by
 unfold pX at hx
 rw [Bool.and_eq_true] at hx
 obtain ⟨⟨px,pb⟩,pf,e⟩:=prL_exact rx rb hx.1 hT
 exact ⟨pf,hx.1,e,(stp_prod rx rb px pb hT).nr pf⟩
theorem si_zero {d T:Nat->Int} {b:Int} {B N:Nat} (hd:XV d (N+1)) (rb:rng b) (hB1:(2^B:Int) ∣ iV b) (hB2:((iV b).natAbs:Int)<9007199254740992*2^B) (hT:PTs d T b (N+1)) (hx:pX (d 0) b=true):SI d T B N 0 ((⟨0,fun _=>0⟩:Ls).add (prL (d 0) b)) (fprod (d 0) b):=by
 obtain ⟨r0,p0,z0⟩:=hd.fin 0 (by omega)
 obtain ⟨pf,pl,e,nr⟩:=prod_facts r0 rb hx (hT 0 (by omega))
 have rl:=prL_rng r0 rb
 have small:∀ t:Nat,((iV (d 0)).natAbs:Int)<2^t->((iV (prL (d 0) b)).natAbs:Int)<2^(t+B-1074):=fun t ht=>by
  have h1:=prod_lt ht hB1 hB2 (hT 0 (by omega))
  have h2:=nr_err nr (i:=t+B-1074) (by have:=p2 (t+B-1074); omega)
  have h3:iV (prL (d 0) b)=T 0-iV (fprod (d 0) b):=by omega
  refine half_lt ?_
  rw [h3]
  omega
 refine ⟨XV.add ⟨fun i hi=>absurd hi (Nat.not_lt_zero _),fun i hi=>absurd hi (Nat.not_lt_zero _)⟩ rl pl (fun i hi=>absurd hi (Nat.not_lt_zero _)),?_,?_,fun t ht=>add_all (fun x=>((iV x).natAbs:Int)<2^(t+B-1074)) (fun i hi=>absurd hi (Nat.not_lt_zero _)) fun _=>small t ht⟩
 ·rw [lsm_add rl,tsm_succ]
  show (0:Int)+_+_=0+_
  omega
 ·refine add_all (fun x=>∃ s:Nat,((iV x).natAbs:Int)<2^s∧(2^s:Int) ∣ iV (fprod (d 0) b)∧∀ j,0<j->j<=N->(2^s:Int) ∣ T j) (fun i hi=>absurd hi (Nat.not_lt_zero _)) fun hz=>?_
  have hne:=(iV_some rl pl hz).1
  obtain ⟨u,h1,h2⟩:=nr_unit nr (fun c=>hne (by omega))
  obtain ⟨t,k1,k2⟩:=xv_next hd hB1 hT (k:=0) (by omega)
  have h3:=small t k1
  have h4:iV (prL (d 0) b)=T 0-iV (fprod (d 0) b):=by omega
  rw [<- h4] at h2
  by_cases hut:u<=t+B-1074
  ·exact ⟨u,h2,h1,fun j hj hjn=>Int.dvd_trans (p2dvd hut) (k2 j hj hjn)⟩
  ·exact ⟨t+B-1074,h3,Int.dvd_trans (p2dvd (by omega)) h1,k2⟩
theorem si_step {d T:Nat->Int} {b:Int} {B N k:Nat} (hd:XV d (N+1)) (rb:rng b) (hB1:(2^B:Int) ∣ iV b) (hB2:((iV b).natAbs:Int)<9007199254740992*2^B) (hT:PTs d T b (N+1)) (hk:k<N) {L:Ls} {q:Int} (rq:rng q) (pq:pok q=true) (h:SI d T B N k L q)
    (hx1:pX (d (k+1)) b=true) (hx2:pok (sL q (prL (d (k+1)) b))=true) (hx3:fX (fprod (d (k+1)) b) (fsum q (prL (d (k+1)) b))=true) :
    SI d T B N (k+1) ((L.add (sL q (prL (d (k+1)) b))).add (fL (fprod (d (k+1)) b) (fsum q (prL (d (k+1)) b)))) (fsum (fprod (d (k+1)) b) (fsum q (prL (d (k+1)) b))):=by
  obtain ⟨rx,px,zx⟩:=hd.fin (k+1) (by omega)
  have xne:=hd.ne (show k+1<N+1 by omega)
  have hTk:=hT (k+1) (by omega)
  obtain ⟨pT,pu,eT,nT⟩:=prod_facts rx rb hx1 hTk
  have ru:=prL_rng rx rb
  have rT:=fprod_rng rx rb
  have n1:=fsum_nr rq ru hx2
  obtain ⟨_,p1,e1⟩:=sL_exact rq ru hx2
  have r1:=fsum_rng rq ru
  have rl1:rng (sL q (prL (d (k+1)) b)):=sL_rng rq ru
  obtain ⟨p2',pl2⟩:=fX_fin rT r1 hx3
  have e2:iV (fsum (fprod (d (k+1)) b) (fsum q (prL (d (k+1)) b)))+iV (fL (fprod (d (k+1)) b) (fsum q (prL (d (k+1)) b)))=iV (fprod (d (k+1)) b)+iV (fsum q (prL (d (k+1)) b)):=by
    have:=fX_iff rT r1 pl2
    rw [hx3] at this
    exact of_decide_eq_true this.symm
  have n2:=(stp_sum rT r1 pT p1).nr p2'
  have rl2:rng (fL (fprod (d (k+1)) b) (fsum q (prL (d (k+1)) b))):=fL_rng rT r1
  obtain ⟨hxv,hsum,hup,hsmall⟩:=h
  have hl1:=nr_loss (fl_iV q) n1
  generalize fL (fprod (d (k+1)) b) (fsum q (prL (d (k+1)) b))=l2 at *
  generalize fsum (fprod (d (k+1)) b) (fsum q (prL (d (k+1)) b))=q2 at *
  generalize sL q (prL (d (k+1)) b)=l1 at *
  generalize fsum q (prL (d (k+1)) b)=q1 at *
  generalize prL (d (k+1)) b=u at *
  generalize fprod (d (k+1)) b=Tp at *
  have eu:iV u=T (k+1)-iV Tp:=by omega
  have el1:iV l1=iV q+iV u-iV q1:=by omega
  have el2:iV l2=iV Tp+iV q1-iV q2:=by omega
  rw [<- el1] at hl1
  have hold:∀ i,i<L.n->∃ s:Nat,((iV (L.d i)).natAbs:Int)<2^s∧(2^s:Int) ∣ iV l1∧(2^s:Int) ∣ iV l2∧(2^s:Int) ∣ iV q2∧∀ j,k+1<j->j<=N->(2^s:Int) ∣ T j:=fun i hi=>by
    obtain ⟨s,h1,h2,h3⟩:=hup i hi
    have d1:=h3 (k+1) (by omega) (by omega)
    have d2:=nr_dvd nT d1
    have d3:(2^s:Int) ∣ iV u:=by rw [eu]; exact Int.dvd_sub d1 d2
    have d4:(2^s:Int) ∣ iV q+iV u:=Int.dvd_add h2 d3
    have d5:=nr_dvd n1 d4
    have d6:(2^s:Int) ∣ iV Tp+iV q1:=Int.dvd_add d2 d5
    have d7:=nr_dvd n2 d6
    exact ⟨s,h1,by rw [el1]; exact Int.dvd_sub d4 d5,by rw [el2]; exact Int.dvd_sub d6 d7,d7,fun j hj hjn=>h3 j (by omega) hjn⟩
  have hxv1:XV (L.add l1).d (L.add l1).n:=hxv.add rl1 hx2 fun i hi=>by
    obtain ⟨s,h1,h2,_⟩:=hold i hi
    exact ⟨s,h1,h2⟩
  have hu:∀ t:Nat,((iV (d (k+1))).natAbs:Int)<2^t->2*((iV u).natAbs:Int)<=2^(t+B-1074):=fun t ht=>by
    have h1:=prod_lt ht hB1 hB2 hTk
    have h2:=nr_err nT (i:=t+B-1074) (by have:=p2 (t+B-1074); omega)
    rw [eu]
    omega
  have hs1:∀ t:Nat,((iV (d (k+1))).natAbs:Int)<2^t->∀ i,i<(L.add l1).n->((iV ((L.add l1).d i)).natAbs:Int)<2^(t+B-1074):=fun t ht=>by
    refine add_all (fun x=>((iV x).natAbs:Int)<2^(t+B-1074)) (fun i hi=>?_) fun _=>?_
    · obtain ⟨t0,k1,k2⟩:=hd.lo k (by omega)
      have h1:=hsmall t0 k1 i hi
      have h2:=dvd_abs_le k2 xne (p2 t0)
      have h3:t0<t:=p2lt (Int.lt_of_le_of_lt h2 ht)
      exact Int.lt_of_lt_of_le h1 (p2le (by omega))
    · have:=half_lt (hu t ht)
      omega
  have hl2:∀ t:Nat,((iV (d (k+1))).natAbs:Int)<2^t->((iV l2).natAbs:Int)<2^(t+B-1074):=fun t ht=>by
    have h1:=lsm_all hxv1 (hs1 t ht)
    rw [lsm_add rl1] at h1
    have hxk:XV d (k+1+1):=⟨fun i hi=>hd.fin i (by omega),fun i hi=>hd.lo i (by omega)⟩
    have h2:=prod_lt (lsm_lt hxk t ht) hB1 hB2 (tsm_prod hT (k+1+1) (by omega))
    rw [tsm_succ] at h2
    have h3:=nr_err n2 (i:=t+B-1074) (by
      generalize (2:Int)^(t+B-1074)=Y at *
      omega)
    refine half_lt ?_
    rw [el2]
    omega
  have hl1s:rg l1≠0->∃ s:Nat,((iV l1).natAbs:Int)<2^s∧(2^s:Int) ∣ iV l2∧(2^s:Int) ∣ iV q2∧∀ j,k+1<j->j<=N->(2^s:Int) ∣ T j:=fun hz=>by
    have hne:=(iV_some rl1 hx2 hz).1
    obtain ⟨u1,a1,a2⟩:=nr_unit n1 (fun c=>hne (by omega))
    rw [<- el1] at a2
    obtain ⟨u2,b1,b2⟩:=nr_unit nT (fun c=>hne (by omega))
    rw [<- eu] at b2
    obtain ⟨t,k1,k2⟩:=xv_next hd hB1 hT (k:=k+1) (by omega)
    have c2:=half_lt (hu t k1)
    obtain ⟨s,hs1,hs2,hs3,hs4⟩:∃ s:Nat,s<=u1∧s<=u2∧s<=t+B-1074∧((iV l1).natAbs:Int)<2^s:=by
      by_cases h1:u1<=u2∧u1<=t+B-1074
      · exact ⟨u1,Nat.le_refl _,h1.1,h1.2,a2⟩
      · by_cases h2:u2<=t+B-1074∧u2<=u1
        · exact ⟨u2,h2.2,Nat.le_refl _,h2.1,by omega⟩
        · exact ⟨t+B-1074,by omega,by omega,Nat.le_refl _,by omega⟩
    have d6:(2^s:Int) ∣ iV Tp+iV q1:=Int.dvd_add (Int.dvd_trans (p2dvd hs2) b1) (Int.dvd_trans (p2dvd hs1) a1)
    have d7:=nr_dvd n2 d6
    exact ⟨s,hs4,by rw [el2]; exact Int.dvd_sub d6 d7,d7,fun j hj hjn=>Int.dvd_trans (p2dvd hs3) (k2 j hj hjn)⟩
  have hl2s:rg l2≠0->∃ s:Nat,((iV l2).natAbs:Int)<2^s∧(2^s:Int) ∣ iV q2∧∀ j,k+1<j->j<=N->(2^s:Int) ∣ T j:=fun hz=>by
    have hne:=(iV_some rl2 pl2 hz).1
    obtain ⟨u3,a1,a2⟩:=nr_unit n2 (fun c=>hne (by omega))
    rw [<- el2] at a2
    obtain ⟨t,k1,k2⟩:=xv_next hd hB1 hT (k:=k+1) (by omega)
    have c2:=hl2 t k1
    by_cases hut:u3<=t+B-1074
    · exact ⟨u3,a2,a1,fun j hj hjn=>Int.dvd_trans (p2dvd hut) (k2 j hj hjn)⟩
    · exact ⟨t+B-1074,c2,Int.dvd_trans (p2dvd (by omega)) a1,k2⟩
  refine ⟨hxv1.add rl2 pl2 ?_,?_,?_,fun t ht=>add_all (fun x=>((iV x).natAbs:Int)<2^(t+B-1074)) (hs1 t ht) fun _=>hl2 t ht⟩
  · refine add_all (fun x=>Lo (iV x) (iV l2)) (fun i hi=>?_) fun hz=>?_
    · obtain ⟨s,h1,_,h3,_⟩:=hold i hi
      exact ⟨s,h1,h3⟩
    · obtain ⟨s,h1,h2,_⟩:=hl1s hz
      exact ⟨s,h1,h2⟩
  · rw [lsm_add rl2,lsm_add rl1,tsm_succ]
    omega
  · refine add_all (fun x=>∃ s:Nat,((iV x).natAbs:Int)<2^s∧(2^s:Int) ∣ iV q2∧∀ j,k+1<j->j<=N->(2^s:Int) ∣ T j) ?_ hl2s
    refine add_all (fun x=>∃ s:Nat,((iV x).natAbs:Int)<2^s∧(2^s:Int) ∣ iV q2∧∀ j,k+1<j->j<=N->(2^s:Int) ∣ T j) (fun i hi=>?_) fun hz=>?_
    · obtain ⟨s,h1,_,_,h4,h5⟩:=hold i hi
      exact ⟨s,h1,h4,h5⟩
    · obtain ⟨s,h1,_,h3,h4⟩:=hl1s hz
      exact ⟨s,h1,h3,h4⟩
def PB (P:Nat->Prop) (w:World):Prop:=∀ k,P k->k<w.heap.size
structure BelP (P:Nat->Prop) (w w':World):Prop where
 os:w'.os=w.os
 tape:w'.tape=w.tape
 output:w'.output=w.output
 size:w.heap.size<=w'.heap.size
 block:∀ k,P k->w'.heap[k]?=w.heap[k]?
theorem BelP.refl (P:Nat->Prop) (w:World):BelP P w w:=⟨rfl,rfl,rfl,Nat.le_refl _,fun _ _=>rfl⟩
theorem BelP.trans {P:Nat->Prop} {a b c:World} (h:BelP P a b) (k:BelP P b c):BelP P a c :=
 ⟨k.os.trans h.os,k.tape.trans h.tape,k.output.trans h.output,Nat.le_trans h.size k.size,fun i hi=>(k.block i hi).trans (h.block i hi)⟩
theorem BelP.of {P:Nat->Prop} {w w':World} (h:Below w.heap.size w w') (hP:PB P w):BelP P w w':=⟨h.os,h.tape,h.output,h.size,fun k hk=>h.block k (hP k hk)⟩
theorem PB.le {P:Nat->Prop} {w w':World} (h:PB P w) (hs:w.heap.size<=w'.heap.size):PB P w':=fun k hk=>Nat.lt_of_lt_of_le (h k hk) hs
def OutP (P:Nat->Prop) (w:World) (v:Value) (s:Ls):Prop:=Out 0 w v s.n s.d∧∀ k,v.ownBlock=some k->¬ P k
theorem OutP.shape {P:Nat->Prop} {w:World} {v:Value} {s:Ls} (h:OutP P w v s):∃ ao cap,v=.slice ao s.n cap:=by
 obtain ⟨ao,cap,e,_⟩:=h.1.row
 exact ⟨ao,cap,e⟩
theorem OutP.stays {P:Nat->Prop} {w w':World} {v:Value} {s:Ls} (h:OutP P w v s) (hb:Below w.heap.size w w'):OutP P w' v s:=⟨h.1.stays hb,h.2⟩
theorem OutP.gr {P:Nat->Prop} {w w':World} {v:Value} {s:Ls} (h:OutP P w v s) (hP:PB P w) (g:w.grownBy w' v.ownBlock):BelP P w w' :=
 ⟨g.os,g.tape,g.output,g.size,fun k hk=>g.block k (hP k hk) fun e=>h.2 k e.symm hk⟩
theorem wpList_appT {w:World} {ops:Array Oper} {rest:List Oper} {o:Oper} {a:Act} {Q:Exit->Act->World->Prop} (hgd:o.guard=none) (s x:Operand) (ho:o.op=.call { callee:=.builtin .append,args:=#[s,x],argTypes:=#[38,38] })
  (B:Nat) (v:Value) (n:Nat) (d:Nat->Int) (hs:a.eval s=v) (hO:Out B w v n d) (bo:Option Addr) (m cb:Nat) (e:Nat->Int) (hx:a.eval x=.slice bo m cb) (hR:Row w bo m cb e) (hlen:n+m<=1000000) (hB:B<=w.heap.size)
  (h:∀ v' w',Out B w' v' (n+m) (cat d n e)->w.grownBy w' v.ownBlock->(v'.ownBlock=v.ownBlock∨v'.ownBlock=some w.heap.size)->wpList Tryz.prog ops Q rest (a.put o.dst v') w'):wpList Tryz.prog ops Q (o :: rest) a w:=by
 obtain ⟨v',w',hr,h2,h3,h4⟩:=run_app o.type B v n d hO bo m cb e hR hlen hB
 exact Lib.wpList_append_run w hgd s x _ _ ho v (.slice bo m cb) hs hx _ w' hr (h v' w' h2 h3 h4)
theorem xaddP {P:Nat->Prop} {v:Value} {s:Ls} {b:Int} (w:World) (h:OutP P w v s) (hb:rng b) (hn:s.n<=900000) (hP:PB P w) :
    Calls Tryz.prog 268 #[v,.int .i64 b] w fun e w'=>∃ v',e=.returned v'∧OutP P w' v' (s.add b)∧BelP P w w':=by
  have hz:=fun W=>xnought hb W
  by_cases h0:rg b=0
  · have e:s.add b=s:=by unfold Ls.add; rw [if_pos h0]
    rw [decide_eq_true h0] at hz
    rw [e]
    go_enter Tryz.func268,Tryz.ntmps268
    go_wp2_with (go_at_call 266; refine (hz _).mono ?_; rintro _ _ ⟨rfl,rfl⟩)
    go_ret
    exact ⟨v,rfl,h,BelP.refl _ _⟩
  · have e:s.add b=⟨s.n+1,upd s.d s.n b⟩:=by unfold Ls.add; rw [if_neg h0]
    rw [decide_eq_false h0] at hz
    rw [e]
    go_enter Tryz.func268,Tryz.ntmps268
    go_wp2_with (first
      | (go_at_call 266; refine (hz _).mono ?_; rintro _ _ ⟨rfl,rfl⟩)
      | (at_builtin; refine wpList_appT rfl _ _ rfl 0 _ s.n s.d rfl (h.1.stays (bel_alloc _ _)) _ 1 1 (fun _=>b) rfl (row1 _ _ rfl) (by omega) (Nat.zero_le _) ?_; intro v' w1 hO1 hg1 hat1))
    go_ret
    refine ⟨v',rfl,⟨hO1.congr fun i hi=>?_,fun k hk=>?_⟩,h.gr hP (grown_past hg1)⟩
    · by_cases e:i<s.n
      · simp [cat,e,upd_other s.d _ (show i≠s.n by omega)]
      · obtain rfl:i=s.n:=by omega
        simp [cat,upd_same]
    · rcases hat1 with q | q
      · exact h.2 k (q.symm.trans hk)
      · rw [hk] at q
        intro hPk
        have:=hP k hPk
        simp at q
        omega
theorem xgrowP_some {P:Nat->Prop} {g n cap:Nat} {d:Nat->Int} {q:Int} (w:World) (h0:OutP P w (.slice (some ⟨g,0,none⟩) n cap) ⟨n,d⟩) (hd:∀ i,i<n->rng (d i)∧pok (d i)=true) (hq:rng q) (pq:pok q=true) (hn:n<=800000) (hP:PB P w) :
  Calls Tryz.prog 264 #[.slice (some ⟨g,0,none⟩) n cap,.int .i64 q] w fun e w'=>(gx d q n=true∧∃ v',e=.returned v'∧OutP P w' v' (grw n d q)∧BelP P w w')∨(gx d q n=false∧e=gaveX∧BelP P w w'):=by
 have h:Out 0 w (.slice (some ⟨g,0,none⟩) n cap) n d:=h0.1
 have HNP:Hid (¬ P g):=h0.2 g rfl
 have HPB:Hid (PB P w):=hP
 have HGP:Hid (∀ W,w.grownBy W (some g)->BelP P w W):=fun W hW=>h0.gr hP hW
 clear h0 hP
 obtain ⟨hI,hnc,hcm,hBg⟩:=h.inB
 have HQ:Hid (∀ k,k<=n->gx d q k=true->rng (gq d q k)∧pok (gq d q k)=true):=gq_fin hd hq pq
 have HDD:Hid (∀ i,i<n->rng (d i)∧pok (d i)=true):=hd
 have hgl:g<w.heap.size:=by obtain ⟨cur,h1,_⟩:=hI; exact (Array.getElem?_eq_some_iff.1 h1).1
 clear hd h hq pq
 go_enter Tryz.func264,Tryz.ntmps264
 go_wp2_with fail
 go_loopw [1,5,13] (fun qv gv iv wr=>∃ k:Nat,k<=n∧iv=.int .i64 k∧qv=.int .i64 (gq d q k)∧gv=.slice (some ⟨g,0,none⟩) (gs d q k).n cap∧Hid (gx d q k=true)∧Hid (InB wr g cap n (gs d q k))∧Hid (w.grownBy wr (some g))) (fun _ _ iv _=>n-(intOf iv).toNat)
 case atStart=>exact ⟨0,Nat.zero_le _,rfl,rfl,rfl,rfl,hI,World.grownBy.refl _ _⟩
 case round=>
  obtain ⟨k,hk,rfl,rfl,rfl,HX,HI,HG⟩:=hrel
  clear hI
  have hsn:=gs_le d q k
  by_cases hlt:k<n
  ·obtain ⟨r1,r2⟩:=HQ.out k hk HX.out
   obtain ⟨d1,d2⟩:=HDD.out k hlt
   have c0:wr.cell? ⟨g,k,none⟩=some (.int .i64 (d k)):=by
    obtain ⟨cur,h1,h2,h3⟩:=HI.out
    rw [cell_of_row wr g k cur _ _ h1,h3 k hlt,gs_tail d q k k (Nat.le_refl _)]
   have CT:Hid (∀ W,Calls Tryz.prog 262 #[.int .i64 (gq d q k),.int .i64 (d k)] W fun e w'=>e=.returned (.tuple #[.int .i64 (gq d q (k+1)),.int .i64 (gl d q k),.bool (pok (gl d q k))])∧Below W.heap.size W w'):=fun W=>xtwoSum r1 d1 r2 d2 W
   have rl:rng (gl d q k):=sL_rng r1 d1
   have i0:(0:Int)<=(k:Int):=by omega
   have i1:(k:Int)<(n:Int):=by omega
   have HS:Hid (gs d q (k+1)=(gs d q k).add (gl d q k)):=rfl
   have HXS:Hid (gx d q (k+1)=(gx d q k && pok (gl d q k))):=rfl
   have HNO:Hid (pok (gl d q k)=false->gx d q n=false):=fun hno=>by
    cases hx:gx d q n
    ·rfl
    ·have:=gx_mono (show k+1<=n by omega) hx
     rw [HXS.out,hno,Bool.and_false] at this
     cases this
   obtain ⟨q',hq'⟩:∃ q',gq d q (k+1)=q':=⟨_,rfl⟩
   rw [hq'] at CT
   have HQ':Hid (gq d q (k+1)=q'):=hq'
   clear hq'
   generalize gl d q k=l at *
   generalize gq d q k=q0 at *
   generalize hd0:d k=dk at *
   have HD0:Hid (d k=dk):=hd0
   clear hd0 r1 r2 d1 d2
   have CA:=fun W h=>xadd_in (g:=g) (cap:=cap) (N:=n) (s:=gs d q k) (b:=l) W h rl (by omega)
   generalize hs0:gs d q k=s0 at *
   have HS0:Hid (gs d q k=s0):=hs0
   clear hs0
   cases hl:pok l
   ·rw [hl] at CT
    go_wp2_with fail
    refine (CT.out _).mono ?_
    rintro _ w1 ⟨rfl,hb1⟩
    go_wp2_with fail
    refine (xsure_no _ _ _).mono ?_
    rintro _ _ ⟨rfl,rfl⟩
    unfold gaveX
    go_wp2
    exact ⟨rfl,.inr ⟨HNO.out hl,rfl,HGP.out _ (grown_bel2 HG.out hb1)⟩⟩
   ·rw [hl] at CT
    go_wp2_with fail
    refine (CT.out _).mono ?_
    rintro _ w1 ⟨rfl,hb1⟩
    go_wp2_with fail
    refine (xsure_yes _ _ _).mono ?_
    rintro _ _ ⟨rfl,rfl⟩
    rename_i w1
    go_wp2_with fail
    refine (CA _ (HI.out.keeps hb1)).mono ?_
    rintro _ w2 ⟨rfl,hI2,hg2⟩
    go_wp2
    go_roundw
    case rel=>exact ⟨k+1,by omega,by go_num,by rw [HQ'.out],by rw [HS.out],by show _=_; rw [HXS.out,HX.out,hl]; rfl,by show InB _ _ _ _ _; rw [HS.out]; exact hI2,xgr_trans (grown_bel2 HG.out hb1) hg2⟩
    case measure=>simp [intOf]; omega
  ·obtain rfl:k=n:=by omega
   have hO:OutP P wr (.slice (some ⟨g,0,none⟩) (gs d q k).n cap) (gs d q k):=⟨HI.out.out (B:=0) hsn hnc (Nat.zero_le _) hcm,fun j hj=>by cases hj; exact HNP.out⟩
   have HQ2:Hid (rng (gq d q k)∧pok (gq d q k)=true):=HQ.out k hk HX.out
   have CA:Hid (∀ W,W=wr->Calls Tryz.prog 268 #[.slice (some ⟨g,0,none⟩) (gs d q k).n cap,.int .i64 (gq d q k)] W fun e w'=>∃ v',e=.returned v'∧OutP P w' v' (grw k d q)∧BelP P W w'):=fun W hW=>by
    subst hW
    exact xaddP W hO HQ2.out.1 (by omega) (HPB.out.le HG.out.size)
   generalize gq d q k=q0 at *
   generalize gs d q k=s0 at *
   clear hO
   go_wp2_with fail
   refine (CA.out _ rfl).mono ?_
   rintro _ w2 ⟨v',rfl,hO2,hg2⟩
   go_wp2
   go_ret
   exact .inl ⟨HX.out,v',rfl,hO2,(HGP.out _ HG.out).trans hg2⟩
theorem xgrowP {P:Nat->Prop} {v:Value} {s:Ls} {q:Int} (w:World) (h:OutP P w v s) (hd:s.fin) (hq:rng q) (pq:pok q=true) (hn:s.n<=800000) (hP:PB P w) :
  Calls Tryz.prog 264 #[v,.int .i64 q] w fun e w'=>(gx s.d q s.n=true∧∃ v',e=.returned v'∧OutP P w' v' (grw s.n s.d q)∧BelP P w w')∨(gx s.d q s.n=false∧e=gaveX∧BelP P w w'):=by
 obtain ⟨n,d⟩:=s
 rcases id h.1.2 with ⟨rfl,h0⟩ | ⟨g,cap,cur,rfl,_⟩
 ·have h0':n=0:=h0
  subst h0'
  have CA:Hid (∀ W,W=w->Calls Tryz.prog 268 #[.slice none 0 0,.int .i64 q] W fun e w'=>∃ v',e=.returned v'∧OutP P w' v' (grw 0 d q)∧BelP P W w'):=fun W hW=>by
   subst hW
   exact xaddP (s:=⟨0,d⟩) W h hq (Nat.zero_le _) hP
  clear h hd hq pq
  go_enter Tryz.func264,Tryz.ntmps264
  go_wp2_with fail
  go_loopw [1,5,13] (fun qv gv iv wr=>iv=.int .i64 0∧qv=.int .i64 q∧gv=.slice none 0 0∧wr=w) (fun _ _ iv _=>0)
  case atStart=>exact ⟨rfl,rfl,rfl,rfl⟩
  case round=>
   obtain ⟨rfl,rfl,rfl,rfl⟩:=hrel
   go_wp2_with fail
   refine (CA.out _ rfl).mono ?_
   rintro _ w2 ⟨v',rfl,hO2,hg2⟩
   go_wp2
   go_ret
   exact .inl ⟨rfl,v',rfl,hO2,hg2⟩
 ·exact xgrowP_some w h hd hq pq hn hP
theorem xgatherP {P:Nat->Prop} {v:Value} {s:Ls} {fo:Option Addr} {m fc:Nat} {f:Nat->Int} (w:World) (h:OutP P w v s) (hs:s.fin) (hf:∀ W,BelP P w W->Row W fo m fc f) (hff:∀ i,i<m->rng (f i)∧pok (f i)=true) (hn:s.n+m<=700000) (hB:PB P w) :
  Calls Tryz.prog 213 #[v,.slice fo m fc] w fun e w'=>(gaX s f m=true∧∃ v',e=.returned v'∧OutP P w' v' (gaS s f m)∧BelP P w w')∨(gaX s f m=false∧e=gaveX∧BelP P w w'):=by
 have hR:=hf w (BelP.refl _ _)
 have hle:=hR.le
 have hmx:=hR.max
 have HF:Hid (∀ W,BelP P w W->Row W fo m fc f):=hf
 have HFF:Hid (∀ i,i<m->rng (f i)∧pok (f i)=true):=hff
 have HFI:Hid (∀ k,k<=m->gaX s f k=true->(gaS s f k).fin):=gaS_fin hs hff
 have hL:=gaS_le s f
 obtain ⟨ao0,cap0,rfl⟩:=h.shape
 clear hf hff hR hs
 go_enter Tryz.func213,Tryz.ntmps213
 go_wp2_with fail
 go_loopw [0,9] (fun hv iv wr=>∃ (k:Nat) (v0:Value),k<=m∧iv=.int .i64 k∧hv=v0∧Hid (gaX s f k=true)∧Hid (OutP P wr v0 (gaS s f k))∧Hid (BelP P w wr)) (fun _ iv _=>m-(intOf iv).toNat)
 case atStart=>exact ⟨0,_,Nat.zero_le _,rfl,rfl,rfl,h,BelP.refl _ _⟩
 case round=>
  obtain ⟨k,hv,hk,rfl,hve,HX,HL,HBW⟩:=hrel
  replace hve:=hve.symm
  subst hve
  clear h
  have hLk:=hL k
  by_cases hlt:k<m
  ·obtain ⟨b,off,rfl,hbb,hc⟩:=(HF.out _ HBW.out).spot (by omega)
   have c0:=hc k hlt
   clear hc
   obtain ⟨d1,d2⟩:=HFF.out k hlt
   have hwr:PB P wr:=PB.le hB HBW.out.size
   have CG:Hid (∀ W,W=wr->Calls Tryz.prog 264 #[hv,.int .i64 (f k)] W fun e w'=>(gaX s f (k+1)=true∧∃ v',e=.returned v'∧OutP P w' v' (gaS s f (k+1))∧BelP P W w')∨(gaX s f m=false∧e=gaveX∧BelP P W w')):=fun W hW=>by
    subst hW
    rw [gaS_succ,gaX_succ]
    refine (xgrowP W HL.out (HFI.out k hk HX.out) d1 d2 (by omega) hwr).mono ?_
    rintro e w' (⟨h1,v',h2,h3,h4⟩ | ⟨h1,h2,h3⟩)
    ·exact .inl ⟨by rw [HX.out,h1]; rfl,v',h2,h3,h4⟩
    ·refine .inr ⟨?_,h2,h3⟩
     cases hx:gaX s f m
     ·rfl
     ·have:=gaX_mono (show k+1<=m by omega) hx
      rw [gaX_succ,h1,Bool.and_false] at this
      cases this
   generalize f k=fk at *
   have i0:(0:Int)<=(k:Int):=by omega
   have i1:(k:Int)<(m:Int):=by omega
   go_wp2_with fail
   refine (CG.out _ rfl).mono ?_
   rintro _ w1 (⟨h1,v',rfl,h3,h4⟩ | ⟨h1,rfl,h3⟩)
   ·go_wp2
    go_roundw
    case rel=>exact ⟨k+1,_,by omega,by go_num,rfl,h1,h3,HBW.out.trans h4⟩
    case measure=>simp [intOf]; omega
   ·unfold gaveX
    go_wp2
    exact ⟨rfl,.inr ⟨h1,rfl,HBW.out.trans h3⟩⟩
  ·obtain rfl:k=m:=by omega
   go_wp2
   go_ret
   exact .inl ⟨HX.out,_,rfl,HL.out,HBW.out⟩
end Go.Proofs.YtjjihmnbdeeedaaGreatDoor
