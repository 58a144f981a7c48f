/-
  Parts of the proof, one behind another.
-/
import Derived.Test.YtinccocmgkjalaaGreatDoorPart5
import Derived.Test.YtinccocmgkjalaaGreatDoorPart3
import Derived.Test.YtinccocmgkjalaaGreatDoorPart4
set_option linter.unusedVariables false
set_option linter.unusedSimpArgs false
namespace Go.Proofs.YtinccocmgkjalaaGreatDoor
open Go Go.RowKit Go.Proofs.YtinccocmgkjalaaGreatDoor.M
def NumR.V (r:NumR):Int:=sg r.ng (val r.d r.n) * pw r.e
def pair2 (x y:NumR):Nat->NumR:=fun i=>if i=0 then x else y
theorem nums2 {w:World} {g:Nat} {x y:NumR} {t:TypeId} (h:w.heap[g]?=some (.cells #[.bool x.ng,.slice x.ao x.n x.cap,.int .i64 x.e,.bool y.ng,.slice y.ao y.n y.cap,.int .i64 y.e] t (0,0))) (hx:Row w x.ao x.n x.cap x.d) (hy:Row w y.ao y.n y.cap y.d) :
  Nums w (some ⟨g,0,none⟩) 2 2 (pair2 x y) :=
 ⟨Nat.le_refl _,by decide,fun _=>⟨g,0,rfl,(Array.getElem?_eq_some_iff.1 h).1,fun i hi=>by
  match i,hi with
  | 0,_=>exact ⟨blkC h 0 rfl,blkC h 1 rfl,blkC h 2 rfl,hx⟩
  | 1,_=>exact ⟨blkC h 3 rfl,blkC h 4 rfl,blkC h 5 rfl,hy⟩⟩⟩
theorem allOk2 (x y:NumR):allOk (pair2 x y) 2=(okR x && okR y):=by
 unfold allOk
 by_cases hx:okR x=true
 ·by_cases hy:okR y=true
  ·rw [hx,hy]
   exact decide_eq_true fun i hi=>by
    match i,hi with
    | 0,_=>exact hx
    | 1,_=>exact hy
  ·have:okR y=false:=by simpa using hy
   rw [hx,this]
   exact decide_eq_false fun h=>hy (h 1 (by omega))
 ·have:okR x=false:=by simpa using hx
  rw [this,Bool.false_and]
  exact decide_eq_false fun h=>hx (h 0 (by omega))
theorem sumV2 (x y:NumR):sumV (pair2 x y) 2=x.V + y.V:=by
 show 0 + x.V + y.V=_
 rw [Int.zero_add]
theorem okR_sane {x:NumR} (h:okR x=true):Sane x:=by
 rcases of_decide_eq_true h with ⟨h1,h2,h3⟩ | ⟨h1,⟨h2,h3⟩,h4,h5,h6⟩
 ·exact ⟨⟨fun i hi=>by omega,.inl h1⟩,by omega,by omega,by omega⟩
 ·exact ⟨h3,by omega,by omega,by omega⟩
theorem okR_dy {x:NumR} (h:okR x=true):Dy x.V x.ng (val x.d x.n) x.e∧val x.d x.n < P 2000∧Dok x.V:=by
 have hd:Dy x.V x.ng (val x.d x.n) x.e∧val x.d x.n < P 2000∧-1048576 <= x.e∧x.e <= 1048576:=by
  rcases of_decide_eq_true h with ⟨h1,h2,h3⟩ | ⟨h1,⟨h2,h3⟩,h4,h5,h6⟩
  ·exact ⟨⟨rfl,by omega,.inl ⟨by rw [h1]; rfl,h2,h3⟩⟩,by rw [h1]; show (0:Int) < P 2000; exact P_pos 2000,by omega,by omega⟩
  ·refine ⟨⟨rfl,by omega,.inr ⟨val_pos h3 h1,?_⟩⟩,?_,h5,h6⟩
   ·obtain ⟨m,hm⟩:∃ m,x.n=m + 1:=⟨x.n - 1,by omega⟩
    have:=val_split x.d 1 m
    rw [show 1 + m=x.n by omega] at this
    rw [this]
    rw [show val x.d 1=x.d 0 by show 0 + x.d 0 * 1=_; omega,show P 1=1073741824 from rfl]
    omega
   ·exact Int.lt_of_lt_of_le (val_lt h3.1) (P_le h2)
 exact ⟨hd.1,hd.2.1,hd.1.ok.2 hd.2⟩
theorem bel_set3 {w w1:World} (h:Below w.heap.size w w1) {g:Nat} (hg:w.heap.size <= g) (a b c:Value):Below w.heap.size w (((w1.setCell ⟨g,0,none⟩ a).setCell ⟨g,1,none⟩ b).setCell ⟨g,2,none⟩ c) :=
 ((h.setCell (p:=⟨g,0,none⟩) hg a).setCell (p:=⟨g,1,none⟩) hg b).setCell (p:=⟨g,2,none⟩) hg c
theorem heap_set {w:World} {g:Nat} {xs:Array Value} {t:TypeId} (h:w.heap[g]?=some (.cells xs t (0,0))) (i:Nat) (v:Value):(w.setCell ⟨g,i,none⟩ v).heap[g]?=some (.cells (xs.setIfInBounds i v) t (0,0)):=by
 simp [World.setCell,Array.getElem?_modify,h]
set_option maxRecDepth 100000 in
set_option maxHeartbeats 1000000 in
theorem add1_any (x y:NumR) (g h:Nat) (w:World) (cg:w.heap[g]?=some (.cells #[.bool x.ng,.slice x.ao x.n x.cap,.int .i64 x.e] 34 (0,0))) (ch:w.heap[h]?=some (.cells #[.bool y.ng,.slice y.ao y.n y.cap,.int .i64 y.e] 34 (0,0)))
  (hx:Row w x.ao x.n x.cap x.d) (hy:Row w y.ao y.n y.cap y.d) (sx:Sane x) (sy:Sane y) (hT:Tab w) :
  Calls Tryz.prog 82 #[.pointer (some ⟨g,0,none⟩),.pointer (some ⟨h,0,none⟩)] w (DOut w (x.V + y.V)):=by
 obtain ⟨an,ao,n,ca,a,e⟩:=x
 obtain ⟨bn,bo,m,cb,b,f⟩:=y
 simp only at cg ch hx hy
 have hb:=bel_alloc w (.cells #[.bool false,.slice none 0 0,.int .i64 0] 34)
 have g0:=heap_past (.cells #[.bool false,.slice none 0 0,.int .i64 0] 34) cg
 have g1:=heap_past (.cells #[.bool false,.slice none 0 0,.int .i64 0] 34) ch
 have k0:=blkC g0 0 rfl
 have k1:=blkC g0 1 rfl
 have k2:=blkC g0 2 rfl
 have j0:=blkC g1 0 rfl
 have j1:=blkC g1 1 rfl
 have j2:=blkC g1 2 rfl
 have hN:=fun q=>nums2 (w:=(w.alloc (.cells #[.bool false,.slice none 0 0,.int .i64 0] 34)).alloc (.cells #[.bool an,.slice ao n ca,.int .i64 e,.bool bn,.slice bo m cb,.int .i64 f] 34)) (g:=w.heap.size + 1) (x:=⟨an,ao,n,ca,a,e⟩) (y:=⟨bn,bo,m,cb,b,f⟩) (t:=34) q (hx.keeps (bel_alloc2 _ _ _)) (hy.keeps (bel_alloc2 _ _ _))
 go_enter Tryz.func82,Tryz.ntmps82
 go_wp2_with fail
 refine (total_any _ _ _ _ _ (hN (heap_b2 _ _ _)) (fun i hi=>?_) (by omega) (hT.keeps (bel_alloc2 _ _ _))).mono ?_
 ·match i,hi with
  | 0,_=>exact sx
  | 1,_=>exact sy
 rw [sumV2]
 rintro r w7 (⟨hok,v,rfl,hD⟩ | ⟨hno,rfl,hb7⟩)
 ·have hb7:=hD.below
  obtain ⟨ng',s',m',e',rfl,hyy,hA⟩:=id hD
  obtain ⟨so,sn,sc,rfl⟩:=hA.num.shape
  have q0:=(hb7.block w.heap.size (by rw [size2]; omega)).trans (heap_a2 _ _ _)
  have x0:=blkC q0 0 rfl
  have x1:=blkC q0 1 rfl
  have x2:=blkC q0 2 rfl
  have z0:=blkF q0 0
  have z1:=blkF q0 1
  have z2:=blkF q0 2
  go_wp2
  refine bodyPost_ret (v:=.agg #[.bool ng',.slice so sn sc,.int .i64 e']) (by simp [results,Tryz.results82,go_sem,x0,x1,x2]) rfl ?_
  exact .inl ⟨hok,_,rfl,dans_res3 (g:=w.heap.size) hD (bel_alloc2 _ _ _) (Nat.le_refl _) (by rw [size2]; omega) _ _ _⟩
 ·exact ⟨rfl,.inr ⟨hno,rfl,bel_trans (bel_alloc2 _ _ _) hb7⟩⟩
set_option maxRecDepth 100000 in
set_option maxHeartbeats 1000000 in
theorem dadd_ok (x y:NumR) (w:World) (hx:Row w x.ao x.n x.cap x.d) (hy:Row w y.ao y.n y.cap y.d) (ox:okR x=true) (oy:okR y=true) (hT:Tab w) :
  Calls Tryz.prog 52 #[x.v,y.v] w fun r w'=>∃ v er,r=.returned (.tuple #[v,.int .i64 er])∧DFit w w' (x.V + y.V) v er:=by
 have hmf:∀ (fn:Fn) (first cap:Array Value) (w:World),(Instr.makeFunc fn first cap).run Tryz.prog w=.ok (.func fn first cap) w:=fun _ _ _ _=>rfl
 have hE:∀ (cap:Array Value) (w:World),(callFunc 82 cap).run Tryz.prog w=.ok (.enter 82 cap) w:=by
  intro cap w
  simp [go_sem]
 have hA:=allOk2 x y
 rw [ox,oy] at hA
 have hN:=fun W q hb=>nums2 (w:=W) (g:=w.heap.size + 3) (x:=x) (y:=y) (t:=34) q (hx.keeps hb) (hy.keeps hb)
 have hC:=fun W hb cg ch=>add1_any x y w.heap.size (w.heap.size + 1) W cg ch (hx.keeps hb) (hy.keeps hb) (okR_sane ox) (okR_sane oy) (hT.keeps hb)
 generalize pair2 x y=pr at hA hN
 generalize x.V + y.V=V at hC ⊢
 clear ox oy
 obtain ⟨an,ao,n,ca,a,e⟩:=x
 obtain ⟨bn,bo,m,cb,b,f⟩:=y
 unfold NumR.v
 simp only at hx hy hN hC ⊢
 go_enter Tryz.func52,Tryz.ntmps52
 go_wp2_with fail
 refine (dvalids_any _ _ _ _ _ (hN _ (h4_3 _ _ _ _ _) (bel_a4 _ _ _ _ _))).mono ?_
 rw [hA]
 rintro r w1 ⟨rfl,hb1⟩
 have hbw:=bel_trans (bel_a4 w _ _ _ _) hb1
 have g0:=(hb1.block w.heap.size (by rw [size4]; omega)).trans (h4_0 _ _ _ _ _)
 have g1:=(hb1.block (w.heap.size + 1) (by rw [size4]; omega)).trans (h4_1 _ _ _ _ _)
 have g2:=(hb1.block (w.heap.size + 2) (by rw [size4]; omega)).trans (h4_2 _ _ _ _ _)
 have hs4:w.heap.size + 4 <= w1.heap.size:=by have:=hb1.size; rw [size4] at this; exact this
 go_wp2_with fail
 refine (told_any (V:=V) (hE _) (fun W hW=>hC W (bel_trans hbw hW) ((hW.block _ (by omega)).trans g0) ((hW.block _ (by omega)).trans g1))).mono ?_
 rintro r w2 ⟨v,er,rfl,hF⟩
 obtain ⟨ng',so,sn,sc,e',rfl⟩:=hF.shape
 have q0:=(hF.1.block (w.heap.size + 2) (by omega)).trans g2
 have x0:=blkC q0 0 rfl
 have x1:=blkC q0 1 rfl
 have x2:=blkC q0 2 rfl
 have z0:=blkF q0 0
 have z1:=blkF q0 1
 have z2:=blkF q0 2
 go_wp2
 refine bodyPost_ret (v:=.tuple #[.agg #[.bool ng',.slice so sn sc,.int .i64 e'],.int .i64 er]) (by simp [results,Tryz.results52,go_sem,x0,x1,x2]) rfl ⟨_,_,rfl,?_⟩
 exact dfit_res (g:=w.heap.size + 2) hF hbw (by omega) (by omega) _ _ _
theorem bitsClass (b:Int) (w:World) (L:Lays w) :
  Calls Tryz.prog 172 #[.int .i64 b] w fun e w'=>e=.returned (.int .i64 (cls b))∧Gr w w':=by
 obtain ⟨a0,a1,a2,b0,b1,b2⟩:=L
 go_enter Tryz.func172,Tryz.ntmps172
 go_wp2_with (go_at_call 193; refine (class64 _ _).mono ?_; rintro e w1 ⟨rfl,hg⟩)
 go_ret
 exact ⟨rfl,hg⟩
theorem bitsNeg (b:Int) (w:World) (L:Lays w) (hb:rng b) :
  Calls Tryz.prog 134 #[.int .i64 b] w fun e w'=>e=.returned (.int .i64 (neg b))∧Gr w w':=by
 unfold rng at hb
 by_cases h:cls b=4
 all_goals
  go_enter Tryz.func134,Tryz.ntmps134
  go_wp2_with (go_at_call 172; refine (bitsClass _ _ L).mono ?_; rintro e w1 ⟨rfl,hg⟩)
  go_ret
  exact ⟨b_ret_int (by first | (simp [neg,h]; done) | (rw [xor_i64_sign _ hb.1 hb.2]; simp [neg,h])),hg⟩
theorem bitsCanon (b:Int) (w:World) (L:Lays w) :
  Calls Tryz.prog 138 #[.int .i64 b] w fun e w'=>e=.returned (.int .i64 (canon b))∧Gr w w':=by
 by_cases h:cls b=4 <;> by_cases h0:cls b=0
 all_goals first
  | (exfalso; omega)
  | (go_enter Tryz.func138,Tryz.ntmps138
       go_wp2_with (go_at_call 172; refine (bitsClass _ _ L).mono ?_; rintro e w1 ⟨rfl,hg⟩)
       go_ret
       exact ⟨b_ret_int (by simp [canon,h,h0]),hg⟩)
set_option maxHeartbeats 400000 in
theorem rtrim_any (g n cap:Nat) (d:Nat->Int) (w:World) (h:Row w (some ⟨g,0,none⟩) n cap d) :
  Calls Tryz.prog 152 #[.slice (some ⟨g,0,none⟩) n cap] w fun e w'=>∃ t:Nat,t <= n∧Top d t∧(∀ i,t <= i->i < n->d i=0)∧e=.returned (.slice (some ⟨g,0,none⟩) t cap)∧w'=w:=by
 have hl:=h.le
 have hm:=h.max
 go_enter Tryz.func152,Tryz.ntmps152
 go_wp2
 go_loop [3] (fun i=>∃ k:Nat,k <= n∧i=.int .i64 k∧∀ i,k <= i->i < n->d i=0) (fun i=>(intOf i).toNat)
 case atStart=>exact ⟨n,Nat.le_refl _,rfl,fun i a b=>by omega⟩
 case round=>
  obtain ⟨k,hk,rfl,hz⟩:=hrel
  have HZ:Hid (∀ i,k <= i->i < n->d i=0):=hz
  clear hz
  by_cases h0:k=0
  ·subst h0
   go_wp2
   go_ret
   exact ⟨0,by omega,.inl rfl,HZ.out,by simp,rfl⟩
  ·obtain ⟨b,off,eb,hb,hc⟩:=h.spot (by omega)
   simp only [Option.some.injEq,Addr.mk.injEq,and_true] at eb
   obtain ⟨rfl,rfl⟩:=eb
   have c:=hc (k - 1) (by omega)
   rw [Nat.zero_add] at c
   by_cases h1:d (k - 1)=0
   ·go_wp2
    go_round
    case rel=>exact ⟨k - 1,by omega,by go_num,fun i a b=>by by_cases e:i=k - 1; (· rw [e]; exact h1); (· exact HZ.out i (by omega) b)⟩
    case measure=>simp [intOf]; omega
   ·go_wp2
    go_ret
    exact ⟨k,hk,.inr h1,HZ.out,by simp,rfl⟩
theorem top_of {d:Nat->Int} {t:Nat} (hd:Dig d t) (h:0 < t->P (t - 1) <= val d t):Top d t:=by
 by_cases h0:t=0
 ·exact .inl h0
 ·refine .inr fun e=>?_
  obtain ⟨k,rfl⟩:∃ k,t=k + 1:=⟨t - 1,by omega⟩
  rw [Nat.add_sub_cancel] at e h
  have h1:=h (by omega)
  rw [val_succ,e] at h1
  have h2:=val_lt (hd.le (Nat.le_succ k))
  omega
theorem cat_upd (r:Nat->Int) (k:Nat) (x:Int):∀ i,i < k + 1->cat r k (fun _=>x) i=upd r k x i:=fun i hi=>by
 by_cases e:i < k
 ·simp [cat,e,upd_other r _ (show i ≠ k by omega)]
 ·obtain rfl:i=k:=by omega
  simp [cat,upd_same]
theorem dig_upd2 {r:Nat->Int} {k:Nat} {x:Int} (h:Dig r k) (hx:0 <= x∧x < 1073741824):Dig (upd r k x) (k + 1):=fun i hi=>by
 by_cases e:i=k
 ·rw [e,upd_same]; exact hx
 ·rw [upd_other r x e]; exact h i (by omega)
set_option maxHeartbeats 1000000 in
theorem radd_any (ao bo:Option Addr) (n m ca cb:Nat) (a b:Nat->Int) (w:World) (ha:Row w ao n ca a) (hb:Row w bo m cb b) (na:Nrm a n) (nb:Nrm b m) (hn:n <= 100000) (hm:m <= 100000) :
  Calls Tryz.prog 149 #[.slice ao n ca,.slice bo m cb] w fun e w'=>∃ v,e=.returned v∧Ans w w' (val a n + val b m) v:=by
 have hla:=ha.le
 have hma:=ha.max
 have hlb:=hb.le
 have hmb:=hb.max
 have da:=na.1
 have db:=nb.1
 obtain ⟨M,hM1,hM2,hM3⟩:∃ M,n <= M∧m <= M∧(M <= n∨M <= m):=⟨max n m,by omega,by omega,by omega⟩
 go_enter Tryz.func149,Tryz.ntmps149
 go_wp2
 go_loopw [5,6,7] (fun l c i wr=>∃ (k:Nat) (q:Int) (r:Nat->Int),(k <= M∨(k=M + 1∧q=0))∧i=.int .i64 k∧c=.int .i64 q∧0 <= q∧q <= 1∧Out w.heap.size wr l k r∧Dig r k∧Hid (val r k + q * P k=val (ext a n) k + val (ext b m) k)∧Hid (k=M + 1->P M <= val a n + val b m)∧Below w.heap.size w wr) (fun _ _ i _=>M + 1 - (intOf i).toNat)
 case atStart=>exact ⟨0,0,fun _=>0,.inl (Nat.zero_le _),rfl,rfl,by omega,by omega,Out.nil _ _ _,fun i hi=>by omega,by show _=_; rfl,fun h=>by omega,bel_refl _⟩
 case round=>
  obtain ⟨k,q,r,hk,rfl,rfl,hq0,hq1,hO,hD,HV,HT,hbw⟩:=hrel
  have hkM:k <= M + 1:=by omega
  by_cases hkn:k < n
  ·by_cases hkm:k < m
   ·obtain ⟨ba,fa,rfl,hba,hca⟩:=ha.spot (by omega)
    have c1:=(hbw.cell (p:=⟨ba,fa + k,none⟩) hba).trans (hca k hkn)
    have dk:=da k hkn
    obtain ⟨bb,fb,rfl,hbb,hcb⟩:=hb.spot (by omega)
    have c2:=(hbw.cell (p:=⟨bb,fb + k,none⟩) hbb).trans (hcb k hkm)
    have dbk:=db k hkm
    have HX:Hid (q + a k + b k=q + (ext a n k + ext b m k)):=by show _=_; rw [ext_lt a hkn,ext_lt b hkm]; omega
    go_wp2_with (at_builtin; refine wpList_app rfl _ _ rfl w.heap.size _ k r rfl (hO.stays (bel_alloc _ _)) _ 1 1 (fun _=>(q + a k + b k) % 1073741824) rfl (row1 _ _ rfl) (by omega) (by have:=hbw.size; simp; omega) ?_; intro v' w1 hO1 hg1)
    have hb1:Below w.heap.size w w1:=(hbw.alloc hbw.size _).grown hg1 (by have:=hbw.size; simp; omega) (own_ge hO)
    have hs:=sum_step (x:=ext a n k + ext b m k) HV.out
    rw [<- HX.out] at hs
    go_roundw
    case rel=>exact ⟨k + 1,(q + a k + b k) / 1073741824,upd r k ((q + a k + b k) % 1073741824),by omega,by go_num,rfl,by omega,by omega,hO1.congr (cat_upd r k _),dig_upd2 hD (mod_dig _),by show _=_; rw [hs,val_succ,val_succ]; grind,fun h=>by omega,hb1⟩
    case measure=>simp [intOf]; omega
   ·obtain ⟨ba,fa,rfl,hba,hca⟩:=ha.spot (by omega)
    have c1:=(hbw.cell (p:=⟨ba,fa + k,none⟩) hba).trans (hca k hkn)
    have dk:=da k hkn
    have HX:Hid (q + a k=q + (ext a n k + ext b m k)):=by show _=_; rw [ext_lt a hkn,ext_ge b (by omega)]; omega
    go_wp2_with (at_builtin; refine wpList_app rfl _ _ rfl w.heap.size _ k r rfl (hO.stays (bel_alloc _ _)) _ 1 1 (fun _=>(q + a k) % 1073741824) rfl (row1 _ _ rfl) (by omega) (by have:=hbw.size; simp; omega) ?_; intro v' w1 hO1 hg1)
    have hb1:Below w.heap.size w w1:=(hbw.alloc hbw.size _).grown hg1 (by have:=hbw.size; simp; omega) (own_ge hO)
    have hs:=sum_step (x:=ext a n k + ext b m k) HV.out
    rw [<- HX.out] at hs
    go_roundw
    case rel=>exact ⟨k + 1,(q + a k) / 1073741824,upd r k ((q + a k) % 1073741824),by omega,by go_num,rfl,by omega,by omega,hO1.congr (cat_upd r k _),dig_upd2 hD (mod_dig _),by show _=_; rw [hs,val_succ,val_succ]; grind,fun h=>by omega,hb1⟩
    case measure=>simp [intOf]; omega
  ·by_cases hkm:k < m
   ·obtain ⟨bb,fb,rfl,hbb,hcb⟩:=hb.spot (by omega)
    have c2:=(hbw.cell (p:=⟨bb,fb + k,none⟩) hbb).trans (hcb k hkm)
    have dbk:=db k hkm
    have HX:Hid (q + b k=q + (ext a n k + ext b m k)):=by show _=_; rw [ext_ge a (by omega),ext_lt b hkm]; omega
    go_wp2_with (at_builtin; refine wpList_app rfl _ _ rfl w.heap.size _ k r rfl (hO.stays (bel_alloc _ _)) _ 1 1 (fun _=>(q + b k) % 1073741824) rfl (row1 _ _ rfl) (by omega) (by have:=hbw.size; simp; omega) ?_; intro v' w1 hO1 hg1)
    have hb1:Below w.heap.size w w1:=(hbw.alloc hbw.size _).grown hg1 (by have:=hbw.size; simp; omega) (own_ge hO)
    have hs:=sum_step (x:=ext a n k + ext b m k) HV.out
    rw [<- HX.out] at hs
    go_roundw
    case rel=>exact ⟨k + 1,(q + b k) / 1073741824,upd r k ((q + b k) % 1073741824),by omega,by go_num,rfl,by omega,by omega,hO1.congr (cat_upd r k _),dig_upd2 hD (mod_dig _),by show _=_; rw [hs,val_succ,val_succ]; grind,fun h=>by omega,hb1⟩
    case measure=>simp [intOf]; omega
   ·by_cases hq:0 < q
    ·have hkE:k=M:=by omega
     have HTT:Hid (P M <= val a n + val b m):=by
      show _ <= _
      have h:=HV.out
      rw [val_ext a (by omega),val_ext b (by omega),show q=1 by omega,hkE] at h
      have:=val_nonneg hD
      rw [hkE] at this
      omega
     have HX:Hid (q=q + (ext a n k + ext b m k)):=by show _=_; rw [ext_ge a (by omega),ext_ge b (by omega)]; omega
     go_wp2_with (at_builtin; refine wpList_app rfl _ _ rfl w.heap.size _ k r rfl (hO.stays (bel_alloc _ _)) _ 1 1 (fun _=>(q) % 1073741824) rfl (row1 _ _ rfl) (by omega) (by have:=hbw.size; simp; omega) ?_; intro v' w1 hO1 hg1)
     have hb1:Below w.heap.size w w1:=(hbw.alloc hbw.size _).grown hg1 (by have:=hbw.size; simp; omega) (own_ge hO)
     have hs:=sum_step (x:=ext a n k + ext b m k) HV.out
     rw [<- HX.out] at hs
     go_roundw
     case rel=>exact ⟨k + 1,(q) / 1073741824,upd r k ((q) % 1073741824),by omega,by go_num,rfl,by omega,by omega,hO1.congr (cat_upd r k _),dig_upd2 hD (mod_dig _),by show _=_; rw [hs,val_succ,val_succ]; grind,fun h=>HTT.out,hb1⟩
     case measure=>simp [intOf]; omega
    ·obtain rfl:q=0:=by omega
     have hkMM:M <= k:=by omega
     have hcd:decide ((0:Int) < 0)=false:=by decide
     go_wp2
     go_ret
     have hv:val r k=val a n + val b m:=by
      have h:=HV.out
      rw [val_ext a (by omega),val_ext b (by omega)] at h
      omega
     refine ⟨_,rfl,k,r,hO,⟨hD,top_of hD fun hk0=>?_⟩,hv,hbw⟩
     rw [hv]
     have A0:=val_nonneg da
     have B0:=val_nonneg db
     rcases hk with h | ⟨h,_⟩
     ·obtain rfl:k=M:=by omega
      rcases hM3 with q | q
      ·obtain rfl:k=n:=by omega
       have:=val_top da hk0 na.2
       omega
      ·obtain rfl:k=m:=by omega
       have:=val_top db hk0 nb.2
       omega
     ·rw [h,Nat.add_sub_cancel]; exact HT.out h
theorem rtrim_out {B:Nat} {w:World} {v:Value} {n:Nat} {d:Nat->Int} (h:Out B w v n d) :
  Calls Tryz.prog 152 #[v] w fun e w'=>∃ v',e=.returned v'∧∃ t,t <= n∧Top d t∧(∀ i,t <= i->i < n->d i=0)∧Out B w v' t d∧w'=w:=by
 have h0:=h
 rcases h.2 with ⟨rfl,rfl⟩ | ⟨g,cap,cur,rfl,hb,hg,hn,hm,hs,ht⟩
 ·go_enter Tryz.func152,Tryz.ntmps152
  go_wp2
  go_loop [3] (fun i=>i=.int .i64 0) (fun i=>0)
  case atStart=>rfl
  case round=>
   subst hrel
   go_wp2
   go_ret
   exact ⟨_,rfl,.inl rfl,Out.nil _ _ _,rfl⟩
 ·obtain ⟨ao,c,e,hR⟩:=h0.row
  simp only [Value.slice.injEq] at e
  obtain ⟨rfl,_,rfl⟩:=e
  refine (rtrim_any g n cap d w hR).mono ?_
  rintro e w' ⟨t,h1,h2,h3,rfl,rfl⟩
  exact ⟨_,rfl,t,h1,h2,h3,h0.cut h1,rfl⟩
theorem rtrim_ans {w0 w:World} {v:Value} {n:Nat} {d:Nat->Int} (h:Out w0.heap.size w v n d) (hd:Dig d n) (hb:Below w0.heap.size w0 w) :
  Calls Tryz.prog 152 #[v] w fun e w'=>∃ v',e=.returned v'∧Ans w0 w (val d n) v'∧w'=w:=by
 refine (rtrim_out h).mono ?_
 rintro e w' ⟨v',rfl,t,ht,htop,hz,hO,rfl⟩
 obtain ⟨hN,hv⟩:=nrm_of_top hd ht htop hz
 exact ⟨v',rfl,⟨t,d,hO,hN,hv,hb⟩,rfl⟩
set_option maxHeartbeats 1000000 in
theorem rcmp_any (ao bo:Option Addr) (n m ca cb:Nat) (a b:Nat->Int) (w:World) (ha:Row w ao n ca a) (hb:Row w bo m cb b) (na:Nrm a n) (nb:Nrm b m) :
  Calls Tryz.prog 150 #[.slice ao n ca,.slice bo m cb] w fun e w'=>e=.returned (.int .i64 (ord (val a n) (val b m)))∧Below w.heap.size w w':=by
 have hla:=ha.le
 have hma:=ha.max
 have hlb:=hb.le
 have hmb:=hb.max
 by_cases hnm:n=m
 ·subst hnm
  go_enter Tryz.func150,Tryz.ntmps150
  go_wp2
  go_loopw [5] (fun i wr=>∃ k:Nat,k <= n∧i=.int .i64 ((k:Int) - 1)∧Hid (∀ i,k <= i->i < n->a i=b i)∧Below w.heap.size w wr) (fun i _=>(intOf i + 1).toNat)
  case atStart=>exact ⟨n,Nat.le_refl _,rfl,fun i _ _=>by omega,bel_refl _⟩
  case round=>
   obtain ⟨k,hk,rfl,HS,hbw⟩:=hrel
   by_cases hlt:0 < k
   ·obtain ⟨j,rfl⟩:∃ j,k=j + 1:=⟨k - 1,by omega⟩
    have ej:((j + 1:Nat):Int) - 1=j:=by omega
    obtain ⟨ba,fa,rfl,hba,hca⟩:=ha.spot (by omega)
    obtain ⟨bb,fb,rfl,hbb,hcb⟩:=hb.spot (by omega)
    have c1:=(hbw.cell (p:=⟨ba,fa + j,none⟩) hba).trans (hca j (by omega))
    have c2:=(hbw.cell (p:=⟨bb,fb + j,none⟩) hbb).trans (hcb j (by omega))
    rw [ej]
    by_cases h1:a j < b j
    ·go_wp2
     go_quiet (fail)
     go_wp2
     go_ret
     exact ⟨ret_int ((ord_lt h1).symm.trans (ord_top na.1 nb.1 (show j < n by omega) (fun i x y=>HS.out i (by omega) y) (by omega))),bDrewN hbw _⟩
    ·by_cases h2:b j < a j
     ·go_wp2
      go_quiet (fail)
      go_wp2
      go_quiet (fail)
      go_wp2
      go_ret
      exact ⟨ret_int ((ord_gt h2).symm.trans (ord_top na.1 nb.1 (show j < n by omega) (fun i x y=>HS.out i (by omega) y) (by omega))),bDrewN (bDrewN hbw _) _⟩
     ·go_wp2
      go_quiet (fail)
      go_wp2
      go_quiet (fail)
      go_wp2
      go_roundw
      case rel=>exact ⟨j,by omega,by go_num,fun i x y=>by by_cases e:i=j; (· rw [e]; omega); (· exact HS.out i (by omega) y),bDrewN hbw _⟩
      case measure=>simp [intOf]; try omega
   ·obtain rfl:k=0:=by omega
    go_wp2
    go_ret
    exact ⟨ret_int (ord_eq (val_congr fun i hi=>HS.out i (by omega) hi)).symm,hbw⟩
 ·by_cases hlt:n < m
  ·go_enter Tryz.func150,Tryz.ntmps150
   go_wp2
   go_ret
   exact ⟨ret_int (ord_lt (nrm_lt na.1 nb hlt)).symm,bel_refl _⟩
  ·go_enter Tryz.func150,Tryz.ntmps150
   go_wp2
   go_ret
   exact ⟨ret_int (ord_gt (nrm_lt nb.1 na (by omega))).symm,bel_refl _⟩
set_option maxHeartbeats 2000000 in
theorem rsub_any (ao bo:Option Addr) (n m ca cb:Nat) (a b:Nat->Int) (w:World) (ha:Row w ao n ca a) (hb:Row w bo m cb b) (na:Nrm a n) (nb:Nrm b m) (hn:n <= 100000) (hle:val b m <= val a n) :
  Calls Tryz.prog 151 #[.slice ao n ca,.slice bo m cb] w fun e w'=>∃ v,e=.returned v∧Ans w w' (val a n - val b m) v:=by
 have hla:=ha.le
 have hma:=ha.max
 have hlb:=hb.le
 have hmb:=hb.max
 have da:=na.1
 have db:=nb.1
 have hmn:m <= n:=nrm_le_len nb da hle
 have HLE:Hid (val b m <= val a n):=hle
 clear hle
 go_enter Tryz.func151,Tryz.ntmps151
 go_wp2
 go_loopw [5,6,7] (fun l c i wr=>∃ (k:Nat) (q:Int) (r:Nat->Int),k <= n∧i=.int .i64 k∧c=.int .i64 q∧0 <= q∧q <= 1∧Out w.heap.size wr l k r∧Dig r k∧Hid (val r k - q * P k=val (ext a n) k - val (ext b m) k)∧Below w.heap.size w wr) (fun _ _ i _=>n - (intOf i).toNat)
 case atStart=>exact ⟨0,0,fun _=>0,Nat.zero_le _,rfl,rfl,by omega,by omega,Out.nil _ _ _,fun i hi=>by omega,by show _=_; rfl,bel_refl _⟩
 case round=>
  obtain ⟨k,q,r,hk,rfl,rfl,hq0,hq1,hO,hD,HV,hbw⟩:=hrel
  by_cases hkn:k < n
  ·obtain ⟨ba,fa,rfl,hba,hca⟩:=ha.spot (by omega)
   have c1:=(hbw.cell (p:=⟨ba,fa + k,none⟩) hba).trans (hca k hkn)
   have dk:=da k hkn
   by_cases hkm:k < m
   ·obtain ⟨bb,fb,rfl,hbb,hcb⟩:=hb.spot (by omega)
    have c2:=(hbw.cell (p:=⟨bb,fb + k,none⟩) hbb).trans (hcb k hkm)
    have dbk:=db k hkm
    have HX:Hid (-q + (ext a n k - ext b m k)=a k - q - b k):=by show _=_; rw [ext_lt a hkn,ext_lt b hkm]; omega
    by_cases hneg:a k - q - b k < 0
    ·go_wp2_with (at_builtin; refine wpList_app rfl _ _ rfl w.heap.size _ k r rfl (hO.stays (bel_alloc _ _)) _ 1 1 (fun _=>(a k - q - b k + 1073741824)) rfl (row1 _ _ rfl) (by omega) (by have:=hbw.size; simp; omega) ?_; intro v' w1 hO1 hg1)
     have hb1:Below w.heap.size w w1:=(hbw.alloc hbw.size _).grown hg1 (by have:=hbw.size; simp; omega) (own_ge hO)
     have hs:=sum_step (c:=-q) (x:=ext a n k - ext b m k) (r:=r) (k:=k) (V:=val (ext a n) k - val (ext b m) k) (by have:=HV.out; rw [Int.neg_mul]; omega)
     rw [show -q + (ext a n k - ext b m k)=a k - q - b k from HX.out,show (a k - q - b k) % 1073741824=(a k - q - b k + 1073741824) by omega,show (a k - q - b k) / 1073741824=-1 by omega] at hs
     go_roundw
     case rel=>exact ⟨k + 1,1,upd r k (a k - q - b k + 1073741824),by omega,by go_num,rfl,by omega,by omega,hO1.congr (cat_upd r k _),dig_upd2 hD (by omega),by show _=_; rw [val_succ (ext a n),val_succ (ext b m)]; rw [Int.sub_mul] at hs; omega,hb1⟩
     case measure=>simp [intOf]; omega
    ·go_wp2_with (at_builtin; refine wpList_app rfl _ _ rfl w.heap.size _ k r rfl (hO.stays (bel_alloc _ _)) _ 1 1 (fun _=>(a k - q - b k)) rfl (row1 _ _ rfl) (by omega) (by have:=hbw.size; simp; omega) ?_; intro v' w1 hO1 hg1)
     have hb1:Below w.heap.size w w1:=(hbw.alloc hbw.size _).grown hg1 (by have:=hbw.size; simp; omega) (own_ge hO)
     have hs:=sum_step (c:=-q) (x:=ext a n k - ext b m k) (r:=r) (k:=k) (V:=val (ext a n) k - val (ext b m) k) (by have:=HV.out; rw [Int.neg_mul]; omega)
     rw [show -q + (ext a n k - ext b m k)=a k - q - b k from HX.out,show (a k - q - b k) % 1073741824=(a k - q - b k) by omega,show (a k - q - b k) / 1073741824=-0 by omega] at hs
     go_roundw
     case rel=>exact ⟨k + 1,0,upd r k (a k - q - b k),by omega,by go_num,rfl,by omega,by omega,hO1.congr (cat_upd r k _),dig_upd2 hD (by omega),by show _=_; rw [val_succ (ext a n),val_succ (ext b m)]; rw [Int.sub_mul] at hs; omega,hb1⟩
     case measure=>simp [intOf]; omega
   ·have HX:Hid (-q + (ext a n k - ext b m k)=a k - q):=by show _=_; rw [ext_lt a hkn,ext_ge b (by omega)]; omega
    by_cases hneg:a k - q < 0
    ·go_wp2_with (at_builtin; refine wpList_app rfl _ _ rfl w.heap.size _ k r rfl (hO.stays (bel_alloc _ _)) _ 1 1 (fun _=>(a k - q + 1073741824)) rfl (row1 _ _ rfl) (by omega) (by have:=hbw.size; simp; omega) ?_; intro v' w1 hO1 hg1)
     have hb1:Below w.heap.size w w1:=(hbw.alloc hbw.size _).grown hg1 (by have:=hbw.size; simp; omega) (own_ge hO)
     have hs:=sum_step (c:=-q) (x:=ext a n k - ext b m k) (r:=r) (k:=k) (V:=val (ext a n) k - val (ext b m) k) (by have:=HV.out; rw [Int.neg_mul]; omega)
     rw [show -q + (ext a n k - ext b m k)=a k - q from HX.out,show (a k - q) % 1073741824=(a k - q + 1073741824) by omega,show (a k - q) / 1073741824=-1 by omega] at hs
     go_roundw
     case rel=>exact ⟨k + 1,1,upd r k (a k - q + 1073741824),by omega,by go_num,rfl,by omega,by omega,hO1.congr (cat_upd r k _),dig_upd2 hD (by omega),by show _=_; rw [val_succ (ext a n),val_succ (ext b m)]; rw [Int.sub_mul] at hs; omega,hb1⟩
     case measure=>simp [intOf]; omega
    ·go_wp2_with (at_builtin; refine wpList_app rfl _ _ rfl w.heap.size _ k r rfl (hO.stays (bel_alloc _ _)) _ 1 1 (fun _=>(a k - q)) rfl (row1 _ _ rfl) (by omega) (by have:=hbw.size; simp; omega) ?_; intro v' w1 hO1 hg1)
     have hb1:Below w.heap.size w w1:=(hbw.alloc hbw.size _).grown hg1 (by have:=hbw.size; simp; omega) (own_ge hO)
     have hs:=sum_step (c:=-q) (x:=ext a n k - ext b m k) (r:=r) (k:=k) (V:=val (ext a n) k - val (ext b m) k) (by have:=HV.out; rw [Int.neg_mul]; omega)
     rw [show -q + (ext a n k - ext b m k)=a k - q from HX.out,show (a k - q) % 1073741824=(a k - q) by omega,show (a k - q) / 1073741824=-0 by omega] at hs
     go_roundw
     case rel=>exact ⟨k + 1,0,upd r k (a k - q),by omega,by go_num,rfl,by omega,by omega,hO1.congr (cat_upd r k _),dig_upd2 hD (by omega),by show _=_; rw [val_succ (ext a n),val_succ (ext b m)]; rw [Int.sub_mul] at hs; omega,hb1⟩
     case measure=>simp [intOf]; omega
  ·obtain rfl:k=n:=by omega
   have HD:Hid (Dig r k∧val r k=val a k - val b m):=by
    refine ⟨hD,?_⟩
    have h1:=HV.out
    rw [val_ext a (Nat.le_refl _),val_ext b hmn] at h1
    have h2:=val_lt hD
    have h3:=HLE.out
    have hp:=P_pos k
    rcases (show q=0∨q=1 by omega) with e | e
    ·subst e; omega
    ·subst e; omega
   go_wp2_with (go_at_call 152; refine (rtrim_ans hO hD hbw).mono ?_; rintro e w3 ⟨v',rfl,hA,rfl⟩)
   go_ret
   exact ⟨_,rfl,by rw [<- HD.out.2]; exact hA⟩
set_option maxHeartbeats 2000000 in
theorem rmul_any (ao bo:Option Addr) (n m ca cb:Nat) (a b:Nat->Int) (w:World) (ha:Row w ao n ca a) (hb:Row w bo m cb b) (na:Nrm a n) (nb:Nrm b m) (hn:n <= 100000) (hm:m <= 100000) :
  Calls Tryz.prog 110 #[.slice ao n ca,.slice bo m cb] w fun e w'=>∃ v,e=.returned v∧Ans w w' (val a n * val b m) v:=by
 have hla:=ha.le
 have hma:=ha.max
 have hlb:=hb.le
 have hmb:=hb.max
 have da:=na.1
 have db:=nb.1
 by_cases hn0:n=0
 ·subst hn0
  go_enter Tryz.func110,Tryz.ntmps110
  go_wp2
  go_ret
  exact ⟨_,rfl,by rw [show val a 0 * val b m=0 from Int.zero_mul _]; exact Ans.nil (bel_refl _)⟩
 ·by_cases hm0:m=0
  ·subst hm0
   go_enter Tryz.func110,Tryz.ntmps110
   go_wp2
   go_ret
   exact ⟨_,rfl,by rw [show val a n * val b 0=0 from Int.mul_zero _]; exact Ans.nil (bel_refl _)⟩
  ·have e1:((n:Int) == 0)=false:=by simp; omega
   have e2:((m:Int) == 0)=false:=by simp; omega
   go_enter Tryz.func110,Tryz.ntmps110
   go_wp2_with (at_make; refine wpList_mk rfl _ _ rfl _ _ (n + m) rfl rfl (by omega) (by omega) (by omega) ?_; intro w1 hB1 hb1)
   go_loopw [6] (fun i wr=>∃ (k:Nat) (r:Nat->Int),k <= n∧i=.int .i64 k∧Blk wr w.heap.size (n + m) r∧Dig r (n + m)∧Hid (∀ t,k + m <= t->r t=0)∧Hid (val r (k + m)=val a k * val b m)∧Below w.heap.size w wr) (fun i _=>n - (intOf i).toNat)
   case atStart=>exact ⟨0,fun _=>0,Nat.zero_le _,rfl,hB1,zero_dig _,fun _ _=>rfl,by show _=_; rw [val_zeros (Nat.zero_le (0 + m)) (fun _ _ _=>rfl)]; show 0=0 * val b m; omega,hb1⟩
   case round=>
    obtain ⟨i,r0,hi,rfl,hB0,hD0,HZ0,HV0,hbw0⟩:=hrel
    by_cases hlt:i < n
    ·obtain ⟨ba,fa,rfl,hba,hca⟩:=ha.spot (by omega)
     have dai:=da i hlt
     go_wp2
     go_loopw [7,8] (fun c j wr=>∃ (k:Nat) (q:Int) (r:Nat->Int),k <= m∧j=.int .i64 k∧c=.int .i64 q∧0 <= q∧q < 1073741824∧Blk wr w.heap.size (n + m) r∧Dig r (n + m)∧Hid (∀ t,i + k <= t->r t=r0 t)∧Hid (val r (i + k) + q * P (i + k)=val r0 (i + k) + a i * val b k * P i)∧Below w.heap.size w wr) (fun _ j _=>m - (intOf j).toNat)
     case atStart=>exact ⟨0,0,r0,Nat.zero_le _,rfl,rfl,by omega,by omega,hB0,hD0,fun _ _=>rfl,by show _=_; show val r0 i + 0 * P i=val r0 i + a i * 0 * P i; grind,hbw0⟩
     case round=>
      obtain ⟨k,q,r,hk,rfl,rfl,hq0,hq1,hB,hD,HS,HV,hbw⟩:=hrel
      have c1:=(hbw.cell (p:=⟨ba,fa + i,none⟩) hba).trans (hca i hlt)
      by_cases hkm:k < m
      ·obtain ⟨bb,fb,rfl,hbb,hcb⟩:=hb.spot (by omega)
       have c2:=(hbw.cell (p:=⟨bb,fb + k,none⟩) hbb).trans (hcb k hkm)
       have c3:=hB.cell (show i + k < n + m by omega)
       have fg:=hB.frozen (i + k)
       have drk:=hD (i + k) (by omega)
       have hmul:=dig_mul dai (db k hkm)
       go_wp2
       go_quiet (fail)
       go_wp2
       have hs:=mul_step (b:=b) (j:=k) HV.out (HS.out (i + k) (Nat.le_refl _))
       rw [show q + (a i * b k + r (i + k))=r (i + k) + a i * b k + q by omega] at hs
       go_roundw
       case rel=>exact ⟨k + 1,(r (i + k) + a i * b k + q) / 1073741824,upd r (i + k) ((r (i + k) + a i * b k + q) % 1073741824),by omega,by go_num,rfl,by omega,by omega,hB.store (i + k) _,hD.upd _ (mod_dig _),fun t ht=>by rw [upd_other r _ (by omega)]; exact HS.out t (by omega),hs,(bDrewN hbw _).setCell (Nat.le_refl _) _⟩
       case measure=>simp [intOf]; omega
      ·obtain rfl:k=m:=by omega
       have c3:=hB.cell (show i + k < n + k by omega)
       have fg:=hB.frozen (i + k)
       go_wp2
       have hr:=mul_row HV.out HV0.out
       go_roundw
       case rel=>exact ⟨i + 1,upd r (i + k) q,by omega,by go_num,hB.store (i + k) _,hD.upd _ ⟨hq0,hq1⟩,fun t ht=>by rw [upd_other r _ (by omega),HS.out t (by omega)]; exact HZ0.out t (by omega),by show _=_; rw [hr,val_succ],hbw.setCell (Nat.le_refl _) _⟩
       case measure=>simp [intOf]; omega
    ·obtain rfl:i=n:=by omega
     go_wp2_with (go_at_call 152; refine (rtrim_ans (hB0.out (Nat.le_refl _) (Nat.le_refl _) (by omega)) hD0 hbw0).mono ?_; rintro e w3 ⟨v',rfl,hA,rfl⟩)
     go_ret
     exact ⟨_,rfl,by rw [<- HV0.out]; exact hA⟩
set_option maxHeartbeats 400000 in
theorem rfrom_any (V:Int) (w:World) (h0:0 <= V) (h1:V < 9223372036854775808) :
  Calls Tryz.prog 107 #[.int .i64 V] w fun e w'=>∃ v,e=.returned v∧Ans w w' V v:=by
 have HM:Hid (V < 9223372036854775808):=h1
 clear h1
 go_enter Tryz.func107,Tryz.ntmps107
 go_wp2
 go_loopw [0,3] (fun i v wr=>∃ (x:Int) (k:Nat) (r:Nat->Int),i=.int .i64 x∧0 <= x∧k <= 3∧Out w.heap.size wr v k r∧Dig r k∧Hid (x * P k <= V)∧Hid (x=0->Top r k)∧Hid (val r k + x * P k=V)∧Below w.heap.size w wr) (fun i _ _=>(intOf i).toNat)
 case atStart=>exact ⟨V,0,fun _=>0,rfl,h0,by omega,Out.nil _ _ _,fun i hi=>by omega,by show _ <= _; show V * 1 <= V; omega,fun _=>.inl rfl,by show _=_; show 0 + V * 1=V; omega,bel_refl _⟩
 case round=>
  obtain ⟨x,k,r,rfl,hx,hk3,hO,hD,HB,HT,HV,hbw⟩:=hrel
  by_cases hp:0 < x
  ·have hk2:k <= 2:=by
    by_cases e:k=3
    ·subst e
     have a:=HB.out
     have b:=HM.out
     have c:P 3=1073741824 * 1073741824 * 1073741824:=by decide
     have d:1 * P 3 <= x * P 3:=Int.mul_le_mul_of_nonneg_right (by omega) (Int.le_of_lt (P_pos 3))
     omega
    ·omega
   have hx2:x <= 9223372036854775807:=by
    have a:=HB.out
    have b:=HM.out
    have c:x * 1 <= x * P k:=Int.mul_le_mul_of_nonneg_left (by have:=P_pos k; omega) (by omega)
    omega
   go_wp2_with (at_builtin; refine wpList_app rfl _ _ rfl w.heap.size _ k r rfl (hO.stays (bel_alloc _ _)) _ 1 1 (fun _=>x % 1073741824) rfl (row1 _ _ rfl) (by omega) (by have:=hbw.size; simp; omega) ?_; intro v' w1 hO1 hg1)
   have hb1:Below w.heap.size w w1:=(hbw.alloc hbw.size _).grown hg1 (by have:=hbw.size; simp; omega) (own_ge hO)
   have hs:=sum_step (c:=0) (x:=x) (show val r k + 0 * P k=val r k by omega)
   rw [Int.zero_add] at hs
   go_roundw
   case rel=>exact ⟨x / 1073741824,k + 1,upd r k (x % 1073741824),rfl,by omega,by omega,hO1.congr (cat_upd r k _),dig_upd2 hD (mod_dig _),by
     show _ <= _
     have a:=HB.out
     rw [P_succ,show x / 1073741824 * (P k * 1073741824)=(x / 1073741824 * 1073741824) * P k by grind]
     have b:(x / 1073741824 * 1073741824) * P k <= x * P k:=Int.mul_le_mul_of_nonneg_right (by omega) (Int.le_of_lt (P_pos k))
     omega,fun e=>.inr (by rw [Nat.add_sub_cancel,upd_same]; omega),by show _=_; rw [hs]; exact HV.out,hb1⟩
   case measure=>simp [intOf]; omega
  ·obtain rfl:x=0:=by omega
   go_wp2
   go_ret
   exact ⟨_,rfl,k,r,hO,⟨hD,HT.out (by first | rfl | trivial)⟩,by have:=HV.out; omega,hbw⟩
theorem val_mono {d:Nat->Int} {n m:Nat} (h:Dig d n) (hm:m <= n):val d m <= val d n:=by
 have e:=val_split d m (n - m)
 rw [show m + (n - m)=n by omega] at e
 have a:=val_nonneg (show Dig (fun i=>d (m + i)) (n - m) from fun i hi=>h (m + i) (by omega))
 have:=Int.mul_nonneg (Int.le_of_lt (P_pos m)) a
 omega
set_option maxHeartbeats 400000 in
theorem small_any (ao:Option Addr) (n cap:Nat) (d:Nat->Int) (w:World) (h:Row w ao n cap d) (hd:Dig d n) (hn:n <= 3) (hv:val d n < 9223372036854775808) :
  Calls Tryz.prog 207 #[.slice ao n cap] w fun e w'=>e=.returned (.int .i64 (val d n))∧w'=w:=by
 have hl:=h.le
 have hm:=h.max
 have HV:Hid (val d n < 9223372036854775808):=hv
 clear hv
 go_enter Tryz.func207,Tryz.ntmps207
 go_wp2
 go_loop [3,7] (fun v i=>∃ k:Nat,k <= n∧i=.int .i64 k∧v=.int .i64 (val d k)) (fun _ i=>n - (intOf i).toNat)
 case atStart=>exact ⟨0,Nat.zero_le _,rfl,rfl⟩
 case round=>
  obtain ⟨k,hk,rfl,rfl⟩:=hrel
  by_cases hlt:k < n
  ·obtain ⟨b,off,rfl,hb,hc⟩:=h.spot (by omega)
   have c:=hc k hlt
   have dk:=hd k hlt
   have v0:=val_nonneg (hd.le (show k <= n by omega))
   have v1:=val_lt (hd.le (show k <= n by omega))
   have m1:=val_mono hd (show k + 1 <= n by omega)
   have hv2:=HV.out
   rw [P_two] at v1
   have e1:val d (k + 1)=val d k + d k * 2 ^ (30 * k):=by rw [val_succ,P_two]
   have m0:0 <= d k * 2 ^ (30 * k):=Int.mul_nonneg dk.1 (Int.le_of_lt (two_pos _))
   have hw:wrap64 (d k * 2 ^ (30 * k))=d k * 2 ^ (30 * k):=IntWalk.wrap64_in _ ⟨by omega,by omega⟩
   have hor:bits .or .i64 (val d k) (d k * 2 ^ (30 * k))=val d (k + 1):=(or_add _ _ _ v0 v1 dk.1 (by omega)).trans e1.symm
   clear e1 m0 m1 hv2 v0 v1
   go_wp2
   go_round
   case rel=>exact ⟨k + 1,by omega,by go_num,rfl⟩
   case measure=>simp [intOf]; omega
  ·obtain rfl:k=n:=by omega
   go_wp2
   go_ret
   exact ⟨rfl,rfl⟩
structure Lay64 (w:World):Prop where
 a0:w.cell? ⟨1,0,none⟩=some (.int .i64 52)
 a1:w.cell? ⟨1,1,none⟩=some (.int .i64 2047)
 a2:w.cell? ⟨1,2,none⟩=some (.int .i64 (-1074))
theorem Lay64.keeps {w w':World} (h:Lay64 w) (hb:Below w.heap.size w w'):Lay64 w':=⟨cell_keeps h.a0 hb,cell_keeps h.a1 hb,cell_keeps h.a2 hb⟩
theorem bitsPartsA (b:Int) (w:World) (L:Lay64 w) :
  Calls Tryz.prog 100 #[.int .i64 b] w fun e w'=>e=.returned (.tuple #[.bool (pneg b),.int .i64 (pmag b),.int .i64 (pexp b),.bool (pok b)])∧Below w.heap.size w w':=by
 obtain ⟨a0,a1,a2⟩:=L
 by_cases h:pok b=true
 all_goals
  go_enter Tryz.func100,Tryz.ntmps100
  go_wp2_with (go_at_call 142; refine (parts64 _ _).mono ?_; rintro e w1 ⟨rfl,hg⟩)
  refine bodyPost_ret (v:=.tuple #[.bool (pneg b),.int .i64 (pmag b),.int .i64 (pexp b),.bool (pok b)]) (by simp [results,Tryz.results100,go_sem,pneg,h]) rfl ⟨rfl,hg.be⟩
theorem pmag_in {b:Int} (hp:pok b=true):0 <= pmag b∧pmag b < 9007199254740992∧-1074 <= pexp b∧pexp b <= 971:=by
 have hf:=fld_le b
 have hr:=frc_le b
 have h1:fld b ≠ 2047:=by simpa [pok] using hp
 unfold pmag pexp
 rw [if_neg h1,if_neg h1]
 split <;> omega
theorem ofNat_any (x:Int) (w:World) (h0:0 <= x) (h1:x < 9223372036854775808) :
  Calls Tryz.prog 153 #[.int .i64 x] w fun e w'=>∃ v,e=.returned (.tuple #[v,.int .i64 0])∧Ans w w' x v:=by
 have HX:=digits_nat x w h0 h1
 have HX':Hid (Calls Tryz.prog 182 #[.int .i64 x] w fun e w'=>∃ v,e=.returned v∧Ans w w' x v):=HX
 clear HX h1
 go_enter Tryz.func153,Tryz.ntmps153
 go_wp2_with fail
 refine HX'.out.mono ?_
 rintro e w2 ⟨v,rfl,hA⟩
 go_wp2
 go_ret2
 exact ⟨_,rfl,hA⟩
theorem P2000_big2:9223372036854775808 < P 2000:=by
 have:=P_le (show 3 <= 2000 by omega)
 have e:P 3=1237940039285380274899124224:=rfl
 omega
theorem dok_small {ng:Bool} {M e:Int} (h0:0 <= M) (h1:M < 9223372036854775808) (e0:-1074 <= e) (e1:e <= 971):Dok (sg ng M * pw e):=by
 by_cases hz:M=0
 ·rw [hz,sg_zero,Int.zero_mul]; exact dok_zero
 ·obtain ⟨l,hl⟩:=isLow_ex (show 0 < M by omega)
  have hy:=Dy.of ng hl (show 0 < M by omega) (show -4194304 <= e by omega)
  obtain ⟨c1,c2,c3⟩:=isLow_odd hl (show 0 < M by omega)
  have hp:=two_pos l
  have hl63:l < 63:=by
   have h3:(1:Int) * 2 ^ l <= M / 2 ^ l * 2 ^ l:=Int.mul_le_mul_of_nonneg_right (by omega) (by omega)
   rw [c3] at h3
   refine two_lt_iff ?_
   rw [show (2:Int) ^ 63=9223372036854775808 by decide]
   omega
  refine hy.ok.2 ⟨?_,by omega,by omega⟩
  have:M / 2 ^ l <= M:=Int.ediv_le_self _ h0
  have:=P2000_big2
  omega
set_option maxRecDepth 100000 in
set_option maxHeartbeats 1000000 in
theorem value_yes (ng:Bool) (M e:Int) (w:World) (hT:Tab w) (h0:0 <= M) (h1:M < 9223372036854775808) (e0:-1074 <= e) (e1:e <= 971) :
  Calls Tryz.prog 111 #[.bool ng,.int .i64 M,.int .i64 e,.bool true] w fun r w'=>∃ v,r=.returned (.tuple #[v,.int .i64 0])∧DAns w w' (sg ng M * pw e) v:=by
 have hok:=dok_small (ng:=ng) h0 h1 e0 e1
 go_enter Tryz.func111,Tryz.ntmps111
 go_wp2_with fail
 refine (ofNat_any M _ h0 h1).mono ?_
 rintro r w1 ⟨v,rfl,hA⟩
 obtain ⟨so,sn,sc,d,rfl,hR,hN,hv⟩:=hA.num
 have hsn:sn <= 100:=hA.num.len (k:=100) (by have:=P_le (show 3 <= 100 by omega); have:P 3=1237940039285380274899124224:=rfl; omega)
 have hbw:=bel_trans (bel_alloc w _) hA.below
 go_wp2_with fail
 refine (settle_any (V:=sg ng M * pw e) hR hN.1 (by omega) (hT.keeps hbw) (by omega) (by rw [hv])).mono ?_
 rintro r w7 (⟨_,v,rfl,hD⟩ | ⟨hno,_⟩)
 ·have hb7:=hD.below
  obtain ⟨ng',s',m',e',rfl,hyy,hA2⟩:=id hD
  obtain ⟨so',sn',sc',rfl⟩:=hA2.num.shape
  have q0:=((bel_trans hA.below hb7).block w.heap.size (by rw [size1]; omega)).trans (heap_a1 _ _)
  have x0:=blkC q0 0 rfl
  have x1:=blkC q0 1 rfl
  have x2:=blkC q0 2 rfl
  have z0:=blkF q0 0
  have z1:=blkF q0 1
  have z2:=blkF q0 2
  go_wp2
  refine bodyPost_ret (v:=.tuple #[.agg #[.bool ng',.slice so' sn' sc',.int .i64 e'],.int .i64 0]) (by simp [results,Tryz.results111,go_sem,x0,x1,x2]) rfl ⟨_,rfl,?_⟩
  exact dans_res3 (g:=w.heap.size) hD hbw (Nat.le_refl _) (Nat.lt_of_lt_of_le (by rw [size1]; omega) hA.below.size) _ _ _
 ·exact absurd hok hno
set_option maxRecDepth 100000 in
theorem value_no (ng:Bool) (M e:Int) (w:World) :
  Calls Tryz.prog 111 #[.bool ng,.int .i64 M,.int .i64 e,.bool false] w fun r w'=>r=.returned (.tuple #[zeroV,.int .i64 10])∧Below w.heap.size w w':=by
 go_enter Tryz.func111,Tryz.ntmps111
 go_wp2
 refine bodyPost_ret (v:=.tuple #[zeroV,.int .i64 10]) (by simp [results,Tryz.results111,go_sem,zeroV]) rfl ⟨rfl,?_⟩
 exact bel_alloc _ _
set_option maxRecDepth 100000 in
set_option maxHeartbeats 1000000 in
theorem dof_any (b:Int) (w:World) (L:Lay64 w) (hT:Tab w) :
  Calls Tryz.prog 79 #[.int .i64 b] w fun r w'=>∃ v er,r=.returned (.tuple #[v,.int .i64 er])∧Below w.heap.size w w'∧((pok b=true∧er=0∧DAns w w' (sg (pneg b) (pmag b) * pw (pexp b)) v)∨(pok b=false∧er=10∧v=zeroV)):=by
 have hVy:pok b=true->∀ W,Below w.heap.size w W->Calls Tryz.prog 111 #[.bool (pneg b),.int .i64 (pmag b),.int .i64 (pexp b),.bool true] W fun r w'=>∃ v,r=.returned (.tuple #[v,.int .i64 0])∧DAns W w' (sg (pneg b) (pmag b) * pw (pexp b)) v:=fun hp W hb=>by
  have hi:=pmag_in hp
  exact value_yes _ _ _ W (hT.keeps hb) (by omega) (by omega) (by omega) (by omega)
 have hP:=fun W hb=>bitsPartsA b W (L.keeps hb)
 generalize sg (pneg b) (pmag b) * pw (pexp b)=V at hVy ⊢
 generalize pneg b=ng at *
 generalize pmag b=mg at *
 generalize pexp b=ex at *
 clear L hT
 cases hp:pok b
 ·rw [hp] at hP hVy
  go_enter Tryz.func79,Tryz.ntmps79
  go_wp2_with fail
  refine (hP _ (bel_alloc _ _)).mono ?_
  rintro r w1 ⟨rfl,hb1⟩
  go_wp2_with fail
  refine (value_no _ _ _ _).mono ?_
  unfold zeroV
  rintro r w2 ⟨rfl,hb2⟩
  have hbw:=bel_trans (bel_alloc w (.cells #[.bool false,.slice none 0 0,.int .i64 0] 34)) (bel_trans hb1 hb2)
  have q0:=((bel_trans hb1 hb2).block w.heap.size (by rw [size1]; omega)).trans (heap_a1 _ _)
  have x0:=blkC q0 0 rfl
  have x1:=blkC q0 1 rfl
  have x2:=blkC q0 2 rfl
  have z0:=blkF q0 0
  have z1:=blkF q0 1
  have z2:=blkF q0 2
  go_wp2
  refine bodyPost_ret (v:=.tuple #[zeroV,.int .i64 10]) (by simp [results,Tryz.results79,go_sem,x0,x1,x2,zeroV]) rfl ⟨_,_,rfl,?_,.inr ⟨by trivial,rfl,rfl⟩⟩
  exact bel_set3 hbw (Nat.le_refl _) _ _ _
 ·rw [hp] at hP hVy
  go_enter Tryz.func79,Tryz.ntmps79
  go_wp2_with fail
  refine (hP _ (bel_alloc _ _)).mono ?_
  rintro r w1 ⟨rfl,hb1⟩
  have hbw:=bel_trans (bel_alloc w (.cells #[.bool false,.slice none 0 0,.int .i64 0] 34)) hb1
  go_wp2_with fail
  refine (hVy (by trivial) _ hbw).mono ?_
  rintro r w2 ⟨v,rfl,hD⟩
  obtain ⟨ng',s',m',e',rfl,hyy,hA2⟩:=id hD
  obtain ⟨so',sn',sc',rfl⟩:=hA2.num.shape
  have q0:=((bel_trans hb1 hD.below).block w.heap.size (by rw [size1]; omega)).trans (heap_a1 _ _)
  have x0:=blkC q0 0 rfl
  have x1:=blkC q0 1 rfl
  have x2:=blkC q0 2 rfl
  have z0:=blkF q0 0
  have z1:=blkF q0 1
  have z2:=blkF q0 2
  go_wp2
  refine bodyPost_ret (v:=.tuple #[.agg #[.bool ng',.slice so' sn' sc',.int .i64 e'],.int .i64 0]) (by simp [results,Tryz.results79,go_sem,x0,x1,x2]) rfl ⟨_,_,rfl,?_,.inl ⟨by trivial,rfl,?_⟩⟩
  ·exact bel_set3 (bel_trans hbw hD.below) (Nat.le_refl _) _ _ _
  ·exact dans_res3 (g:=w.heap.size) hD hbw (Nat.le_refl _) (Nat.lt_of_lt_of_le (by rw [size1]; omega) hb1.size) _ _ _
def bRung (way:Int) (ng:Bool):Int:=if rUp way ng true 3 then 9218868437227405312 else 9218868437227405311
def patS (ng:Bool) (r:Int):Int:=if ng then r - 9223372036854775808 else r
theorem or_inf:bits BinOp.or IntKind.i64 9218868437227405312 (-9223372036854775808)=-4503599627370496:=by decide +kernel
theorem or_most:bits BinOp.or IntKind.i64 9218868437227405311 (-9223372036854775808)=-4503599627370497:=by decide +kernel
theorem Env.keeps {w w':World} (h:Env w) (hb:Below w.heap.size w w'):Env w' :=
 ⟨⟨cell_keeps h.lays.a0 hb,cell_keeps h.lays.a1 hb,cell_keeps h.lays.a2 hb,trivial,trivial,trivial⟩,fun j hj=>cell_keeps (h.tab j hj) hb⟩
set_option maxRecDepth 100000 in
set_option maxHeartbeats 1000000 in
theorem beyond_any (way:Int) (hw:0 <= way∧way <= 3) (ng:Bool) (w:World) :
  Calls Tryz.prog 190 #[wayV way,.bool ng,.int .i64 9218868437227405312,.int .i64 (-9223372036854775808)] w fun e w'=>e=.returned (.int .i64 (patS ng (bRung way ng)))∧Below w.heap.size w w':=by
 have hF:=wraise_any way hw
 have hE:=wraise_enter way
 unfold wayV bRung
 generalize wayF way=F at hF hE ⊢
 have q0:=heap_alloc_new w (.cells #[.func (.func F) #[] #[]] 185)
 have k0:=blkC q0 0 rfl
 have o1:=or_inf
 have o2:=or_most
 obtain ⟨R,hR⟩:∃ R,rUp way ng true 3=R:=⟨_,rfl⟩
 have hFF:=hF ng true 3
 rw [hR] at hFF ⊢
 clear hR hF
 cases ng <;> cases R
 all_goals
  unfold patS
  go_enter Tryz.func190,Tryz.ntmps190
  go_wp2_with (first | (refine (hFF _).mono ?_; rintro _ _ ⟨rfl,rfl⟩))
  all_goals go_ret
  all_goals exact ⟨by simp,bel_alloc _ _⟩
def r64 (way:Int) (ng sd:Bool) (mag:Nat) (exp:Int) (cut:Bool):Int × Bool :=
 let E:=rE 53 (-1074) mag exp
 let u:=rU mag (E - exp)
 let left:=rL mag cut (E - exp)
 let U:=u + (if rUp way ng (decide (u % 2=1)) left then 1 else 0)
 let neg:=ng && (decide (0 < U) || sd)
 if jk 52 2047 (-1074) U E then (jp neg U E,decide (left ≠ 0)) else (patS neg (bRung way neg),true)
set_option maxRecDepth 100000 in
set_option maxHeartbeats 1000000 in
theorem binary64_any (way:Int) (hw:0 <= way∧way <= 3) (ng sd:Bool) (mag:Nat) (exp:Int) (cut:Bool) (w:World) (Ev:Env w) (hm:mag < 18446744073709551616) (he:-4500000 <= exp∧exp <= 4500000) :
  Calls Tryz.prog 164 #[valV ng mag exp cut sd,wayV way] w fun e w'=>e=.returned (.tuple #[.int .i64 (r64 way ng sd mag exp cut).1,.bool (r64 way ng sd mag exp cut).2])∧Below w.heap.size w w':=by
 have e64:(2:Nat) ^ 64=18446744073709551616:=by decide
 have e53:(2:Nat) ^ (53:Int).toNat=9007199254740992:=by decide
 have hE:-5000000 <= rE 53 (-1074) mag exp∧rE 53 (-1074) mag exp <= 5000000:=by
  have hbl:Lib.bitLen mag <= 64:=by
   by_cases h0:mag=0
   ·rw [h0]; decide
   ·exact (M.bitLen_spec mag (by omega) h0).2.2.2
  unfold rE
  omega
 have hu:rU mag (rE 53 (-1074) mag exp - exp) <= 9007199254740991:=by
  by_cases h0:mag=0
  ·rw [h0]; unfold rU; split <;> simp
  ·have:=(rU_bits (size:=53) (low:=-1074) (exp:=exp) (by decide) (by omega) h0).1
   rw [e53] at this
   omega
 have hUn:=fun W=>units_any way hw ng mag exp (rE 53 (-1074) mag exp) cut sd W hm hE (by omega) (by omega)
 have HR:r64 way ng sd mag exp cut=(let E:=rE 53 (-1074) mag exp
  let u:=rU mag (E - exp)
  let left:=rL mag cut (E - exp)
  let U:=u + (if rUp way ng (decide (u % 2=1)) left then 1 else 0)
  let neg:=ng && (decide (0 < U) || sd)
  if jk 52 2047 (-1074) U E then (jp neg U E,decide (left ≠ 0)) else (patS neg (bRung way neg),true)):=rfl
 simp only at HR
 have hEE:rE 53 (-1074) mag exp=rE 53 (-1074) mag exp:=rfl
 obtain ⟨E,hEq⟩:∃ E,rE 53 (-1074) mag exp=E:=⟨_,rfl⟩
 rw [hEq] at hE hu hUn HR
 obtain ⟨left,hleft⟩:∃ l,rL mag cut (E - exp)=l:=⟨_,rfl⟩
 rw [hleft] at hUn HR
 obtain ⟨U,hU⟩:∃ U,rU mag (E - exp) + (if rUp way ng (decide (rU mag (E - exp) % 2=1)) left then 1 else 0)=U:=⟨_,rfl⟩
 rw [hU] at hUn HR
 have hU2:U <= 9007199254740992:=by rw [<- hU]; split <;> omega
 obtain ⟨neg,hneg⟩:∃ n,(ng && (decide (0 < U) || sd))=n:=⟨_,rfl⟩
 have hFl:=fun W=>float_F (wayF way) ng mag exp 53 (-1074) cut sd U E (decide (left ≠ 0)) W hm he (by omega) (by omega) hEq (by omega) hUn
 rw [hneg] at hFl HR
 have hJ:=fun W (EW:Env W)=>bitsJoin neg (U:Int) E W EW (by unfold rng; omega) (by unfold rng; omega)
 have hB:=fun W=>beyond_any way hw neg W
 obtain ⟨other,hoth⟩:∃ o,decide (left ≠ 0)=o:=⟨_,rfl⟩
 rw [hoth] at hFl HR
 obtain ⟨fin,hfin⟩:∃ f,jk 52 2047 (-1074) (U:Int) E=f:=⟨_,rfl⟩
 obtain ⟨pt,hpt⟩:∃ p,jp neg (U:Int) E=p:=⟨_,rfl⟩
 rw [hpt] at hJ HR
 rw [hfin] at hJ HR
 obtain ⟨by1,hby⟩:∃ b,patS neg (bRung way neg)=b:=⟨_,rfl⟩
 rw [hby] at hB HR
 rw [HR]
 have hUi:((U:Nat):Int)=((U:Nat):Int):=rfl
 have hb2:=bel_alloc2 w (.cells #[.bool ng,.int .u64 mag,.int .i64 exp,.bool cut,.bool sd] 172) (.cells #[.func (.func (wayF way)) #[] #[]] 185)
 have q1:=heap_b2 w (.cells #[.bool ng,.int .u64 mag,.int .i64 exp,.bool cut,.bool sd] 172) (.cells #[.func (.func (wayF way)) #[] #[]] 185)
 have k1:=blkC q1 0 rfl
 have HEV:Hid (Env w):=Ev
 clear Ev HR hUn hEq hleft hU hneg hoth hfin hpt hby hU2 hu hE hEE hUi e64 e53
 unfold wayV valV at *
 generalize wayF way=F at *
 go_enter Tryz.func164,Tryz.ntmps164
 go_wp2_with fail
 refine (hFl _).mono ?_
 rintro _ w1 ⟨rfl,hb1⟩
 have hbw:=bel_trans hb2 hb1
 have p1:=(hb1.block _ (Array.getElem?_eq_some_iff.1 q1).1).trans q1
 have k2:=blkC p1 0 rfl
 clear hFl hb2 hb1 q1 k1
 go_wp2_with fail
 refine (hJ _ (HEV.out.keeps hbw)).mono ?_
 rintro _ w2 ⟨rfl,hg⟩
 have hb2:=hg.be
 have hbw2:=bel_trans hbw hb2
 have p2:=(hb2.block _ (Array.getElem?_eq_some_iff.1 p1).1).trans p1
 have k3:=blkC p2 0 rfl
 clear hJ hg p1 p2 k2 hb2 hbw
 cases fin
 ·go_wp2_with fail
  refine (hB _).mono ?_
  rintro _ w3 ⟨rfl,hb3⟩
  go_wp2
  all_goals go_ret2
  all_goals exact ⟨by simp,bel_trans hbw2 hb3⟩
 ·go_wp2
  all_goals go_ret2
  all_goals exact ⟨by simp,hbw2⟩
end Go.Proofs.YtinccocmgkjalaaGreatDoor
