/-
  Parts of the proof, one behind another.
-/
import Derived.Test.YtinccocmgkjalaaGreatDoorPart17
import Derived.Test.YtinccocmgkjalaaGreatDoorPart11
import Derived.Test.YtinccocmgkjalaaGreatDoorPart4
import Derived.Test.YtinccocmgkjalaaGreatDoorPart10
import Derived.Test.YtinccocmgkjalaaGreatDoorPart9
set_option linter.unusedVariables false
set_option linter.unusedSimpArgs false
namespace Go.Proofs.YtinccocmgkjalaaGreatDoor
open Go Go.RowKit Go.Proofs.YtinccocmgkjalaaGreatDoor.M
theorem q_heap_last (w:World) (o:Obj):(w.alloc o).heap[w.heap.size]?=some o:=by
 show (w.heap.push o)[w.heap.size]?=_
 simp
def hiM (p q:Int):Int:=if rg p < rg q then q else p
def loM (p q:Int):Int:=if rg p < rg q then p else q
def suN (p q:Int):Int:=fsum (hiM p q) (loM p q)
def suL (p q:Int):Int:=fsum (loM p q) (neg (fsum (suN p q) (neg (hiM p q))))
set_option maxRecDepth 100000 in
set_option maxHeartbeats 1000000 in
theorem sum_core {p q x y n l:Int} (hp:nn p) (hq:nn q) (hx:nn x) (hy:nn y) (hn:nn n) (en:n=fsum x y) (el:l=fsum y (neg (fsum n (neg x)))) (w:World)
  (hsw:(FloatKind.f64.format.order (wd (rg p)) (wd (rg q))=some .lt∧x=q∧y=p)∨((FloatKind.f64.format.order (wd (rg p)) (wd (rg q))=some .gt∨FloatKind.f64.format.order (wd (rg p)) (wd (rg q))=some .eq)∧x=p∧y=q)) :
  Calls Tryz.prog 143 #[.float .f64 (wd p),.float .f64 (wd q)] w fun e w'=>e=.returned (.agg #[.float .f64 (wd (beLo n l)),.float .f64 (wd (beHi n l))])∧Below w.heap.size w w':=by
 have CP:Hid (∀ W,Calls Tryz.prog 34 #[.float .f64 (wd p)] W fun e w'=>e=.returned (.float .f64 (wd (rg p)))∧w'=W):=fun W=>mathAbs hp.1 W
 have CQ:Hid (∀ W,Calls Tryz.prog 34 #[.float .f64 (wd q)] W fun e w'=>e=.returned (.float .f64 (wd (rg q)))∧w'=W):=fun W=>mathAbs hq.1 W
 have fx:FW x (wd x):=.inl ⟨hx.2,hx.1,rfl⟩
 have fy:FW y (wd y):=.inl ⟨hy.2,hy.1,rfl⟩
 have fn:FW n (wd n):=.inl ⟨hn.2,hn.1,rfl⟩
 have h1:∀ W,(binOp .add 50 (.float .f64 (wd x)) (.float .f64 (wd y))).run Tryz.prog W=.ok (.float .f64 (wd n)) W:=fun W=>by rw [en]; exact run_sumN _ fx fy (by rw [<- en]; exact hn.2) W
 have hg:=q_heap_last w (.cells #[.float .f64 0,.float .f64 0] 103)
 have hba:=bel_alloc w (.cells #[.float .f64 0,.float .f64 0] 103)
 obtain ⟨D,W1,r1,fD,hW1⟩:=run_fdiff (P:=Tryz.prog) 50 fn fx (w.alloc (.cells #[.float .f64 0,.float .f64 0] 103))
 obtain ⟨L,W2,r2,fL,hW2⟩:=run_fdiff (P:=Tryz.prog) 50 fy fD W1
 rw [<- el] at fL
 have b1:Below (w.alloc (.cells #[.float .f64 0,.float .f64 0] 103)).heap.size (w.alloc (.cells #[.float .f64 0,.float .f64 0] 103)) W1:=by
  rcases hW1 with rfl | rfl
  ·exact bel_refl _
  ·exact (bel_refl _).drew
 have b2:Below W1.heap.size W1 W2:=by
  rcases hW2 with rfl | rfl
  ·exact bel_refl _
  ·exact (bel_refl _).drew
 have CB:Hid (∀ W,Calls Tryz.prog 140 #[.float .f64 (wd n),.float .f64 L] W fun e w'=>e=.returned (.agg #[.float .f64 (wd (beLo n l)),.float .f64 (wd (beHi n l))])∧Below W.heap.size W w'):=fun W=>beside_any hn fL W
 generalize wd (beLo n l)=U at *
 generalize wd (beHi n l)=V at *
 clear fx fy fn fD fL hW1 hW2 en el hx hy hn hp hq
 have fin:∀ (w3:World),Below W2.heap.size W2 w3->(store ⟨w.heap.size,0,none⟩ (.float .f64 U)).run Tryz.prog w3=.ok () (w3.setCell ⟨w.heap.size,0,none⟩ (.float .f64 U))∧(store ⟨w.heap.size,1,none⟩ (.float .f64 V)).run Tryz.prog (w3.setCell ⟨w.heap.size,0,none⟩ (.float .f64 U))=.ok () ((w3.setCell ⟨w.heap.size,0,none⟩ (.float .f64 U)).setCell ⟨w.heap.size,1,none⟩ (.float .f64 V))∧((w3.setCell ⟨w.heap.size,0,none⟩ (.float .f64 U)).setCell ⟨w.heap.size,1,none⟩ (.float .f64 V)).cell? ⟨w.heap.size,0,none⟩=some (.float .f64 U)∧((w3.setCell ⟨w.heap.size,0,none⟩ (.float .f64 U)).setCell ⟨w.heap.size,1,none⟩ (.float .f64 V)).cell? ⟨w.heap.size,1,none⟩=some (.float .f64 V)∧Below w.heap.size w ((w3.setCell ⟨w.heap.size,0,none⟩ (.float .f64 U)).setCell ⟨w.heap.size,1,none⟩ (.float .f64 V)):=by
  intro w3 hb3
  have hbb:=bel_trans b1 (bel_trans b2 hb3)
  have d2:=(hbb.block _ (Array.getElem?_eq_some_iff.1 hg).1).trans hg
  have d3:=q_heap_set d2 0 (.float .f64 U)
  have d4:=q_heap_set d3 1 (.float .f64 V)
  have f0:=blkC d2 0 rfl
  have z0:=blkF d2 0
  have f1:=blkC d3 1 rfl
  have z1:=blkF d3 1
  refine ⟨?_,?_,blkC d4 0 rfl,blkC d4 1 rfl,?_⟩
  ·rw [run_store _ _ _ _ _ rfl,f0]; simp only [z0]; rfl
  ·rw [run_store _ _ _ _ _ rfl,f1]; simp only [z1]; rfl
  ·exact ((bel_trans hba hbb).setCell (p:=⟨w.heap.size,0,none⟩) (Nat.le_refl _) _).setCell (p:=⟨w.heap.size,1,none⟩) (Nat.le_refl _) _
 have FIN:=hideIt fin
 clear fin b1 b2 hba hg
 rcases hsw with ⟨o,rfl,rfl⟩ | ⟨o | o,rfl,rfl⟩
 all_goals
  go_enter Tryz.func143,Tryz.ntmps143
  go_wp2_with fail
  refine (CP.out _).mono ?_
  rintro _ _ ⟨rfl,rfl⟩
  go_wp2_with fail
  refine (CQ.out _).mono ?_
  rintro _ _ ⟨rfl,rfl⟩
  go_wp2_with fail
  refine (CB.out _).mono ?_
  rintro _ w3 ⟨rfl,hb3⟩
  obtain ⟨s0,s1,e0,e1,hbe⟩:=FIN.out w3 hb3
  go_wp2
  refine bodyPost_ret (v:=.agg #[.float .f64 U,.float .f64 V]) (by simp [results,Tryz.results143,go_sem,e0,e1]) rfl ⟨rfl,hbe⟩
theorem spanSum {p q:Int} (hp:nn p) (hq:nn q) (hn:nn (suN p q)) (w:World) :
  Calls Tryz.prog 143 #[.float .f64 (wd p),.float .f64 (wd q)] w fun e w'=>e=.returned (ivl (beLo (suN p q) (suL p q)) (beHi (suN p q) (suL p q)))∧Below w.heap.size w w':=by
 obtain ⟨a1,a2⟩:=q_rg hp.1
 obtain ⟨b1,b2⟩:=q_rg hq.1
 have ca:¬ cls (rg p)=4:=by rw [q_cls hp.1]; exact hp.2
 have cb:¬ cls (rg q)=4:=by rw [q_cls hq.1]; exact hq.2
 have ka:=q_key a2
 have kb:=q_key b2
 by_cases h:rg p < rg q
 ·have ex:hiM p q=q:=if_pos h
  have ey:loM p q=p:=if_pos h
  refine sum_core hp hq hq hp hn (by unfold suN; rw [ex,ey]) (by unfold suL; rw [ex,ey]) w (.inl ⟨q_lt a1 b1 ca cb (by rw [ka,kb]; exact h),rfl,rfl⟩)
 ·have ex:hiM p q=p:=if_neg h
  have ey:loM p q=q:=if_neg h
  refine sum_core hp hq hp hq hn (by unfold suN; rw [ex,ey]) (by unfold suL; rw [ex,ey]) w (.inr ⟨?_,rfl,rfl⟩)
  by_cases e:rg p=rg q
  ·exact .inr (q_eq a1 b1 ca cb (by rw [ka,kb]; exact e))
  ·exact .inl (q_gt a1 b1 ca cb (by rw [ka,kb]; omega))
theorem rg_iV {p q:Int} (h:rg p <= rg q) (hp:0 <= rg p):(iV p).natAbs <= (iV q).natAbs:=by
 have a:=iV_abs p
 have b:=iV_abs q
 have c:=V_le (show (rg p).toNat <= (rg q).toNat by omega)
 omega
theorem su_exact {p q:Int} (hp:rng p) (hq:rng q) (pp:pok p=true) (pq:pok q=true) (hf:pok (suN p q)=true):pok (suL p q)=true∧iV (suN p q) + iV (suL p q)=iV p + iV q:=by
 by_cases h:rg p < rg q
 ·have ex:hiM p q=q:=if_pos h
  have ey:loM p q=p:=if_pos h
  unfold suL suN at *
  rw [ex,ey] at hf ⊢
  obtain ⟨a,b⟩:=fL_fin hq hp pq pp hf (rg_iV (by omega) (q_rg hp).2)
  exact ⟨a,by unfold fL at b; omega⟩
 ·have ex:hiM p q=p:=if_neg h
  have ey:loM p q=q:=if_neg h
  unfold suL suN at *
  rw [ex,ey] at hf ⊢
  obtain ⟨a,b⟩:=fL_fin hp hq pp pq hf (rg_iV (by omega) (q_rg hq).2)
  exact ⟨a,by unfold fL at b; omega⟩
theorem V_zero_iff {r:Nat}:(V Ieee.double r:Int)=0 ↔ r=0:=by
 constructor
 ·intro h
  by_cases h0:r=0
  ·exact h0
  ·have:=V_lt Ieee.double (show 0 < r by omega)
   rw [V_zero] at this
   omega
 ·rintro rfl
  rw [V_zero]
  rfl
theorem iV_key {p:Int} (hp:rng p):(iV p < 0 ↔ key p < 0)∧(0 < iV p ↔ 0 < key p):=by
 have hz:=@V_zero_iff (rg p).toNat
 have hr:=q_rg hp
 unfold rng at hp
 have hv:(0:Int) <= (V Ieee.double (rg p).toNat:Int):=by omega
 by_cases h:p < 0
 ·have e1:iV p=-(V Ieee.double (rg p).toNat:Int):=by unfold iV sg; simp [h]
  have e2:key p=-(rg p):=by unfold key rg; rw [if_pos h,if_pos h]
  rw [e1,e2]
  constructor <;> constructor <;> intro g <;> omega
 ·have e1:iV p=(V Ieee.double (rg p).toNat:Int):=by unfold iV sg; simp [h]
  have e2:key p=rg p:=by unfold key rg; rw [if_neg h,if_neg h]
  rw [e1,e2]
  constructor <;> constructor <;> intro g <;> omega
theorem iV_mono {p q:Int} (hp:rng p) (hq:rng q) (h:key p < key q):iV p < iV q:=by
 have rp:=q_rg hp
 have rq:=q_rg hq
 have ep:iV p=if p < 0 then -(V Ieee.double (rg p).toNat:Int) else (V Ieee.double (rg p).toNat:Int):=by unfold iV sg; by_cases g:p < 0 <;> simp [g]
 have eq':iV q=if q < 0 then -(V Ieee.double (rg q).toNat:Int) else (V Ieee.double (rg q).toNat:Int):=by unfold iV sg; by_cases g:q < 0 <;> simp [g]
 have kp:key p=if p < 0 then -(rg p) else rg p:=by unfold key rg; by_cases g:p < 0 <;> simp [g]
 have kq:key q=if q < 0 then -(rg q) else rg q:=by unfold key rg; by_cases g:q < 0 <;> simp [g]
 have zp:=@V_zero_iff (rg p).toNat
 have zq:=@V_zero_iff (rg q).toNat
 have m1:rg p < rg q->(V Ieee.double (rg p).toNat:Int) < V Ieee.double (rg q).toNat:=fun g=>by
  have:=V_lt Ieee.double (show (rg p).toNat < (rg q).toNat by omega)
  omega
 have m2:rg q < rg p->(V Ieee.double (rg q).toNat:Int) < V Ieee.double (rg p).toNat:=fun g=>by
  have:=V_lt Ieee.double (show (rg q).toNat < (rg p).toNat by omega)
  omega
 rw [kp,kq] at h
 rw [ep,eq']
 have hA0:(0:Int) <= (V Ieee.double (rg p).toNat:Int):=by omega
 have hB0:(0:Int) <= (V Ieee.double (rg q).toNat:Int):=by omega
 clear ep eq' kp kq
 generalize (V Ieee.double (rg p).toNat:Int)=A at *
 generalize (V Ieee.double (rg q).toNat:Int)=B at *
 by_cases a:p < 0 <;> by_cases b:q < 0 <;> simp only [a,b,if_true,if_false] at h ⊢ <;> omega
theorem nr_prev {n S:Int} (hn:nn n) (hi:¬ n=-4503599627370496) (hp:rng (prev n)) (h:Nr S (iV n)) (g:S < iV n):iV (prev n) <= S:=by
 obtain ⟨k1,_⟩:=key_prev hn.1 hn.2 hi
 have m:=iV_mono hp hn.1 (by omega)
 have:=h.2 (iV (prev n)) (fl_iV _)
 omega
theorem nr_next {n S:Int} (hn:nn n) (hi:¬ n=9218868437227405312) (hp:rng (next n)) (h:Nr S (iV n)) (g:iV n < S):S <= iV (next n):=by
 obtain ⟨k1,_,_,_⟩:=key_next hn.1 hn.2 hi
 have m:=iV_mono hn.1 hp (by omega)
 have:=h.2 (iV (next n)) (fl_iV _)
 omega
theorem rng_prev' {p:Int} (h:rng p):rng (prev p):=by unfold prev; exact rng_neg (rng_next (rng_neg h))
theorem su_btw {p q:Int} (hp:rng p) (hq:rng q) (pp:pok p=true) (pq:pok q=true) (hf:pok (suN p q)=true) (hn:nn (suN p q)) :
  iV (beLo (suN p q) (suL p q)) <= iV p + iV q∧iV p + iV q <= iV (beHi (suN p q) (suL p q))∧((iV (suN p q)=iV p + iV q∧beLo (suN p q) (suL p q)=suN p q∧beHi (suN p q) (suL p q)=suN p q)∨(iV p + iV q < iV (suN p q)∧beLo (suN p q) (suL p q)=prev (suN p q)∧beHi (suN p q) (suL p q)=suN p q)∨(iV (suN p q) < iV p + iV q∧beLo (suN p q) (suL p q)=suN p q∧beHi (suN p q) (suL p q)=next (suN p q))):=by
 obtain ⟨pl,he⟩:=su_exact hp hq pp pq hf
 have hNr:Nr (iV p + iV q) (iV (suN p q)):=by
  by_cases h:rg p < rg q
  ·have ex:hiM p q=q:=if_pos h
   have ey:loM p q=p:=if_pos h
   unfold suN at hf ⊢
   rw [ex,ey] at hf ⊢
   have:=(stp_sum hq hp pq pp).nr hf
   rwa [Int.add_comm] at this
  ·have ex:hiM p q=p:=if_neg h
   have ey:loM p q=q:=if_neg h
   unfold suN at hf ⊢
   rw [ex,ey] at hf ⊢
   exact (stp_sum hp hq pp pq).nr hf
 have i1:¬ suN p q=-4503599627370496:=fun e=>by rw [e] at hf; revert hf; decide
 have i2:¬ suN p q=9218868437227405312:=fun e=>by rw [e] at hf; revert hf; decide
 have rl:rng (suL p q):=by
  unfold suL
  have a1:rng (hiM p q):=by unfold hiM; split <;> assumption
  have a2:rng (loM p q):=by unfold loM; split <;> assumption
  exact fsum_rng a2 (rng_neg (fsum_rng hn.1 (rng_neg a1)))
 obtain ⟨kl1,kl2⟩:=iV_key rl
 have c0:¬ cls 0=4:=by decide
 have k0:key 0=0:=by decide
 have cl:=q_fin pl
 have l1:less (suL p q) 0=decide (key (suL p q) < 0):=by unfold less; simp [cl,c0,k0]
 have l2:less 0 (suL p q)=decide (0 < key (suL p q)):=by unfold less; simp [cl,c0,k0]
 unfold beLo beHi
 rw [l1,l2]
 generalize suN p q=n at *
 generalize suL p q=l at *
 by_cases a:key l < 0
 ·have al:iV l < 0:=kl1.2 a
  simp only [a,decide_true,if_true]
  exact ⟨nr_prev hn i1 (rng_prev' hn.1) hNr (by omega),by omega,.inr (.inl ⟨by omega,by trivial,by trivial⟩)⟩
 ·by_cases b:0 < key l
  ·have bl:0 < iV l:=kl2.2 b
   simp only [a,b,decide_true,decide_false,if_true,if_false,Bool.false_eq_true]
   exact ⟨by omega,nr_next hn i2 (rng_next hn.1) hNr (by omega),.inr (.inr ⟨by omega,by trivial,by trivial⟩)⟩
  ·have z1:¬ iV l < 0:=fun h=>a (kl1.1 h)
   have z2:¬ 0 < iV l:=fun h=>b (kl2.1 h)
   simp only [a,b,decide_false,if_false,Bool.false_eq_true]
   exact ⟨by omega,by omega,.inl ⟨by omega,by trivial,by trivial⟩⟩
structure Pts (w:World) (ao:Option Addr) (n cap:Nat) (px py:Nat->Int):Prop where
 le:n <= cap
 max:cap <= 9223372036854775807
 spot:0 < n->∃ b off,ao=some ⟨b,off,none⟩∧b < w.heap.size∧∀ i,i < n->w.cell? ⟨b,off + i * 2,none⟩=some (.int .i64 (px i))∧w.cell? ⟨b,off + i * 2 + 1,none⟩=some (.int .i64 (py i))
theorem Pts.keeps {w w':World} {ao:Option Addr} {n cap:Nat} {px py:Nat->Int} (h:Pts w ao n cap px py) (hb:Below w.heap.size w w'):Pts w' ao n cap px py :=
 ⟨h.le,h.max,fun hn=>by
  obtain ⟨b,off,rfl,hlt,hc⟩:=h.spot hn
  exact ⟨b,off,rfl,Nat.lt_of_lt_of_le hlt hb.size,fun i hi=>⟨(hb.cell (p:=⟨b,off + i * 2,none⟩) hlt).trans (hc i hi).1,(hb.cell (p:=⟨b,off + i * 2 + 1,none⟩) hlt).trans (hc i hi).2⟩⟩⟩
def allB (f:Nat->Bool) (n:Nat):Bool:=decide (∀ i,i < n->f i=true)
theorem allB_succ (f:Nat->Bool) (n:Nat):allB f (n + 1)=(allB f n && f n):=by
 unfold allB
 by_cases h:f n=true
 ·rw [h,Bool.and_true]
  congr 1
  exact propext ⟨fun k i hi=>k i (by omega),fun k i hi=>by by_cases e:i=n; (· subst e; exact h); (· exact k i (by omega))⟩
 ·have h':f n=false:=by simpa using h
  rw [h',Bool.and_false]
  exact decide_eq_false fun k=>h (k n (by omega))
theorem allB_zero (f:Nat->Bool):allB f 0=true:=decide_eq_true fun i hi=>absurd hi (Nat.not_lt_zero _)
def l2 (a b:Int) (i:Nat):Int:=if i=0 then a else b
def l3 (a b c:Int) (i:Nat):Int:=if i=0 then a else if i=1 then b else c
def l4 (a b c d:Int) (i:Nat):Int:=if i=0 then a else if i=1 then b else if i=2 then c else d
theorem pts3 (w:World) {g:Nat} {t:TypeId} {ax ay bx by' cx cy:Int} (h:w.heap[g]?=some (.cells #[.int .i64 ax,.int .i64 ay,.int .i64 bx,.int .i64 by',.int .i64 cx,.int .i64 cy] t (0,0))):Pts w (some ⟨g,0,none⟩) 3 3 (l3 ax bx cx) (l3 ay by' cy) :=
 ⟨by omega,by omega,fun _=>⟨g,0,rfl,(Array.getElem?_eq_some_iff.1 h).1,fun i hi=>by
  match i,hi with
  | 0,_=>exact ⟨blkC h 0 rfl,blkC h 1 rfl⟩
  | 1,_=>exact ⟨blkC h 2 rfl,blkC h 3 rfl⟩
  | 2,_=>exact ⟨blkC h 4 rfl,blkC h 5 rfl⟩⟩⟩
theorem allB3 (P:Int->Int->Bool) (ax ay bx by' cx cy:Int):allB (fun i=>P (l3 ax bx cx i) (l3 ay by' cy i)) 3=(P ax ay && P bx by' && P cx cy):=by
 rw [allB_succ,allB_succ,allB_succ,allB_zero,Bool.true_and]; rfl
theorem rng3 {a b c:Int} (ha:rng a) (hb:rng b) (hc:rng c) (i:Nat):rng (l3 a b c i):=by unfold l3; split; assumption; split <;> assumption
def ptok (x y:Int):Bool:=pok x && pok y
set_option maxRecDepth 100000 in
set_option maxHeartbeats 1000000 in
theorem mgood_any (ao:Option Addr) (n cap:Nat) (px py:Nat->Int) (w:World) (h:Pts w ao n cap px py) (hx:∀ i,rng (px i)) (hy:∀ i,rng (py i)) :
  Calls Tryz.prog 11 #[.slice ao n cap] w fun x w'=>x=.returned (.bool (allB (fun i=>ptok (px i) (py i)) n))∧Below w.heap.size w w':=by
 have hl:=h.le
 have hm:=h.max
 have e0:errF true=0:=rfl
 have e1:errF false=10:=rfl
 have CC:Hid (∀ i W,Calls Tryz.prog 18 #[.agg #[.int .i64 (px i),.int .i64 (py i)]] W fun e w'=>e=.returned (.int .i64 (errF (ptok (px i) (py i))))∧Below W.heap.size W w'):=fun i W=>pointCheck (hx i) (hy i) W
 clear hx hy
 go_enter Tryz.func11,Tryz.ntmps11
 go_wp2_with fail
 go_loopw [7] (fun i wr=>∃ k:Nat,k <= n∧i=.int .i64 k∧Hid (∀ j,j < k->ptok (px j) (py j)=true)∧Below w.heap.size w wr) (fun i _=>n - (intOf i).toNat)
 case atStart=>exact ⟨0,Nat.zero_le _,rfl,fun j hj=>by omega,bel_refl _⟩
 case round=>
  obtain ⟨k,hk,rfl,HO,hbw⟩:=hrel
  by_cases hlt:k < n
  ·obtain ⟨b,off,rfl,hb,hc⟩:=h.spot (by omega)
   have c0:=(hbw.cell (p:=⟨b,off + k * 2,none⟩) hb).trans (hc k hlt).1
   have c1:=(hbw.cell (p:=⟨b,off + k * 2 + 1,none⟩) hb).trans (hc k hlt).2
   have CK:Hid (∀ W,Calls Tryz.prog 18 #[.agg #[.int .i64 (px k),.int .i64 (py k)]] W fun e w'=>e=.returned (.int .i64 (errF (ptok (px k) (py k))))∧Below W.heap.size W w'):=CC.out k
   have HK:Hid (∀ q:ptok (px k) (py k)=false,false=allB (fun i=>ptok (px i) (py i)) n):=fun q=>(decide_eq_false fun hx=>by have:=hx k hlt; simp only at this; rw [this] at q; cases q).symm
   have HY:Hid (ptok (px k) (py k)=true->∀ j,j < k + 1->ptok (px j) (py j)=true):=fun q j hj=>by
    by_cases e:j=k
    ·subst e; exact q
    ·exact HO.out j (by omega)
   clear hc
   by_cases hok:ptok (px k) (py k)=true
   ·rw [hok,e0] at CK
    replace HY:Hid (∀ j,j < k + 1->ptok (px j) (py j)=true):=HY.out hok
    clear hok
    go_wp2_with (go_at_call 18; refine (CK.out _).mono ?_; rintro x w1 ⟨rfl,hb1⟩)
    go_roundw
    case rel=>exact ⟨k + 1,by omega,by go_num,HY,hbw.trans ((bel_trans (bel_alloc _ _) hb1).mono hbw.size)⟩
    case measure=>simp [intOf]; omega
   ·have hok':ptok (px k) (py k)=false:=by simpa using hok
    rw [hok',e1] at CK
    replace HK:Hid (false=allB (fun i=>ptok (px i) (py i)) n):=HK.out hok'
    clear hok hok' HY
    go_wp2_with (go_at_call 18; refine (CK.out _).mono ?_; rintro x w1 ⟨rfl,hb1⟩)
    go_ret
    exact ⟨ret_bool HK.out,hbw.trans ((bel_trans (bel_alloc _ _) hb1).mono hbw.size)⟩
  ·obtain rfl:k=n:=by omega
   have HD:Hid (true=allB (fun i=>ptok (px i) (py i)) k):=(decide_eq_true HO.out).symm
   go_wp2
   go_ret
   exact ⟨ret_bool HD.out,hbw⟩
set_option maxRecDepth 100000 in
set_option maxHeartbeats 1000000 in
theorem lgood_any (ao:Option Addr) (n cap:Nat) (px py:Nat->Int) (w:World) (h:Pts w ao n cap px py) (hx:∀ i,rng (px i)) (hy:∀ i,rng (py i)) :
  Calls Tryz.prog 6 #[.slice ao n cap] w fun x w'=>x=.returned (.bool (allB (fun i=>ptok (px i) (py i)) n))∧Below w.heap.size w w':=by
 have hl:=h.le
 have hm:=h.max
 have CC:Hid (∀ i W,Calls Tryz.prog 14 #[.agg #[.int .i64 (px i),.int .i64 (py i)]] W fun e w'=>e=.returned (.bool (ptok (px i) (py i)))∧Below W.heap.size W w'):=fun i W=>q_refFinite (hx i) (hy i) W
 clear hx hy
 go_enter Tryz.func6,Tryz.ntmps6
 go_wp2_with fail
 go_loopw [3] (fun i wr=>∃ k:Nat,k <= n∧i=.int .i64 k∧Hid (∀ j,j < k->ptok (px j) (py j)=true)∧Below w.heap.size w wr) (fun i _=>n - (intOf i).toNat)
 case atStart=>exact ⟨0,Nat.zero_le _,rfl,fun j hj=>by omega,bel_refl _⟩
 case round=>
  obtain ⟨k,hk,rfl,HO,hbw⟩:=hrel
  by_cases hlt:k < n
  ·obtain ⟨b,off,rfl,hb,hc⟩:=h.spot (by omega)
   have c0:=(hbw.cell (p:=⟨b,off + k * 2,none⟩) hb).trans (hc k hlt).1
   have c1:=(hbw.cell (p:=⟨b,off + k * 2 + 1,none⟩) hb).trans (hc k hlt).2
   have CK:Hid (∀ W,Calls Tryz.prog 14 #[.agg #[.int .i64 (px k),.int .i64 (py k)]] W fun e w'=>e=.returned (.bool (ptok (px k) (py k)))∧Below W.heap.size W w'):=CC.out k
   have HK:Hid (∀ q:ptok (px k) (py k)=false,false=allB (fun i=>ptok (px i) (py i)) n):=fun q=>(decide_eq_false fun hx=>by have:=hx k hlt; simp only at this; rw [this] at q; cases q).symm
   have HY:Hid (ptok (px k) (py k)=true->∀ j,j < k + 1->ptok (px j) (py j)=true):=fun q j hj=>by
    by_cases e:j=k
    ·subst e; exact q
    ·exact HO.out j (by omega)
   clear hc
   by_cases hok:ptok (px k) (py k)=true
   ·rw [hok] at CK
    replace HY:Hid (∀ j,j < k + 1->ptok (px j) (py j)=true):=HY.out hok
    clear hok
    go_wp2_with (go_at_call 14; refine (CK.out _).mono ?_; rintro x w1 ⟨rfl,hb1⟩)
    go_roundw
    case rel=>exact ⟨k + 1,by omega,by go_num,HY,hbw.trans (hb1.mono hbw.size)⟩
    case measure=>simp [intOf]; omega
   ·have hok':ptok (px k) (py k)=false:=by simpa using hok
    rw [hok'] at CK
    replace HK:Hid (false=allB (fun i=>ptok (px i) (py i)) n):=HK.out hok'
    clear hok hok' HY
    go_wp2_with (go_at_call 14; refine (CK.out _).mono ?_; rintro x w1 ⟨rfl,hb1⟩)
    go_ret
    exact ⟨ret_bool HK.out,hbw.trans (hb1.mono hbw.size)⟩
  ·obtain rfl:k=n:=by omega
   have HD:Hid (true=allB (fun i=>ptok (px i) (py i)) k):=(decide_eq_true HO.out).symm
   go_wp2
   go_ret
   exact ⟨ret_bool HD.out,hbw⟩
def pttame (x y:Int):Bool:=tame x && tame y
end Go.Proofs.YtinccocmgkjalaaGreatDoor
namespace Go.Proofs.YtinccocmgkjalaaGreatDoor
open Go Go.RowKit Go.Proofs.YtinccocmgkjalaaGreatDoor.M Ieee
theorem log2_fin {b:Int} {m u:Nat} (hb:rng b) (hp:pok b=true) (h:Ieee.double.read (wd b)=.number (decide (b < 0)) m (-1074 + (u:Int))):m < 9007199254740992∧u <= 2046:=by
 obtain ⟨h0,h1⟩:=rg_lt hb hp
 have hw:((wd b % 9223372036854775808:Nat):Int)=rg b:=wd_rung hb
 unfold Format.read at h
 rw [dSign,dBin,dInf,dLeast] at h
 dsimp only at h
 split at h
 ·rename_i h2
  simp only [Datum.number.injEq] at h
  obtain ⟨_,h3,h4⟩:=h
  exact ⟨by omega,by omega⟩
 ·rw [if_pos (by omega)] at h
  have hm:=Nat.mod_lt (wd b % 9223372036854775808) (show 0 < 4503599627370496 by decide)
  have hd:wd b % 9223372036854775808 / 4503599627370496 <= 2047:=by omega
  simp only [Datum.number.injEq] at h
  obtain ⟨_,h3,h4⟩:=h
  exact ⟨by omega,by omega⟩
theorem nearest_nearP {S t base:Int} (hb:-4194304 <= base) (hS:t * pw base=S) (h0:S ≠ 0):Ieee.double.nearest (decide (t < 0)) t.natAbs base=wd (nearP S):=by
 obtain ⟨A,r0,left,a1,a2,a3⟩:=write_near hb hS h0
 obtain ⟨B,s0,k,b1,b2,b3⟩:=nearP_rung h0
 have hAB:=sg_inj (a1.symm.trans b1)
 subst hAB
 obtain ⟨h2,h3⟩:=a2.unique b2
 subst h2 h3
 rw [a3,b3]
def fmaS (p q r:Int):Int:=sg (xsg p q) (fsize p q) + patV r
theorem ffma_fin {p q r:Int} (hp:rng p) (hq:rng q) (hr:rng r) (pp:pok p=true) (pq:pok q=true) (pr:pok r=true) :
  Ieee.double.fma (wd p) (wd q) (wd r)=some (wd (if fmaS p q r=0 then patS (xsg p q && decide (r < 0)) 0 else nearP (fmaS p q r))):=by
 obtain ⟨m,u,h1,v1⟩:=read_wd hp pp
 obtain ⟨n,v,h2,v2⟩:=read_wd hq pq
 obtain ⟨l,x,h3,v3⟩:=read_wd hr pr
 obtain ⟨i,hi⟩:∃ i:Int,-1074 + (u:Int) + (-1074 + (v:Int))=i:=⟨_,rfl⟩
 obtain ⟨j,hj⟩:∃ j:Int,-1074 + (x:Int)=j:=⟨_,rfl⟩
 have hpm:=pw_mul (a:=-1074 + (u:Int)) (b:=-1074 + (v:Int)) (by omega) (by omega)
 have hC:=fmul_core (g:=decide (p < 0)) (h:=decide (q < 0)) (x:=(m:Int)) (y:=(n:Int)) hpm
 rw [<- v1,<- v2,hi] at hC
 have hcast:((m * n:Nat):Int)=(m:Int) * (n:Int):=by push_cast; rfl
 have hf:fsize p q=((m * n:Nat):Int) * pw i:=by rw [hcast]; exact fsize_of (two_pos 4194304) hC
 obtain ⟨base,hbase⟩:∃ base,min i j=base:=⟨_,rfl⟩
 have hB:-4194304 <= base:=by omega
 obtain ⟨t,ht⟩:∃ t,signed (xsg p q) (m * n) (i - base).toNat + signed (decide (r < 0)) l (j - base).toNat=t:=⟨_,rfl⟩
 have hfma:Ieee.double.fma (wd p) (wd q) (wd r)=some (Ieee.double.nearest (if t=0 then xsg p q && decide (r < 0) else decide (t < 0)) t.natAbs base):=by
  unfold Format.fma
  rw [h1,h2,h3]
  unfold Datum.product
  dsimp only
  rw [hi,hj,xor_ne]
  show Option.map Ieee.double.write (Datum.sum (.number (xsg p q) (m * n) i) (.number (decide (r < 0)) l j))=_
  unfold Datum.sum
  dsimp only
  rw [hbase,ht]
  rfl
 have s1:=signed_pw (xsg p q) (m * n) (i - base).toNat (i:=i) (base:=base) (by omega) hB
 have s2:=signed_pw (decide (r < 0)) l (j - base).toNat (i:=j) (base:=base) (by omega) hB
 rw [hj] at v3
 rw [<- hf] at s1
 rw [<- v3] at s2
 have hS:t * pw base=fmaS p q r:=by
  unfold fmaS
  rw [<- ht,Int.add_mul,s1,s2]
 rw [hfma]
 by_cases h:fmaS p q r=0
 ·have ht0:t=0:=(eq_zero_iff (pw_pos base)).2 (hS.trans h)
  rw [if_pos h,ht0,if_pos rfl]
  unfold Format.nearest
  rw [if_pos (show Int.natAbs 0=0 from rfl)]
  have:=wd_word (ng:=xsg p q && decide (r < 0)) (r:=0) (by decide) (by decide)
  rw [<- this]
  rfl
 ·have ht0:t ≠ 0:=fun e=>h (by rw [<- hS,e,Int.zero_mul])
  rw [if_neg h,if_neg ht0,nearest_nearP hB hS h]
def RdP (way V p:Int):Prop:=∃ (A:Int) (r0:Nat) (left:Int),V=sg (decide (V < 0)) A∧Rung A r0 left∧p=patS (decide (V < 0)) (rTo way (decide (V < 0)) r0 left)
theorem RdP.unique {way V p q:Int} (h:RdP way V p) (k:RdP way V q):p=q:=by
 obtain ⟨A,r0,l,h1,h2,h3⟩:=h
 obtain ⟨B,s0,m,k1,k2,k3⟩:=k
 have hAB:=sg_inj (h1.symm.trans k1)
 subst hAB
 obtain ⟨e1,e2⟩:=h2.unique k2
 subst e1 e2
 rw [h3,k3]
theorem r64_num {way:Int} {ng sd:Bool} {M e:Int} (hv:0 < M) (he:-4194304 <= e) :
  ∃ (r0:Nat) (left:Int),Rung (M * pw e) r0 left∧r64 way ng sd (M / 2 ^ vK M).toNat (e + vK M) (decide (M % 2 ^ vK M ≠ 0))=(patS (ng && (decide (0 < rTo way ng r0 left) || sd)) (rTo way ng r0 left),decide (left ≠ 0) || decide (9218868437227405312 <= (r0:Int))):=by
 have hsm:=vK_small (Int.le_of_lt hv)
 have hb:=blen_pos hv
 have hp:=two_pos (vK M)
 have hge:2 ^ (blen M - 1 - vK M) <= M / 2 ^ vK M:=by
  rw [Int.le_ediv_iff_mul_le hp,<- Int.pow_add]
  by_cases hk:vK M <= blen M - 1
  ·rw [show blen M - 1 - vK M + vK M=blen M - 1 by omega]
   exact hb.2
  ·exfalso; unfold vK at hk; omega
 have hpos:=two_pos (blen M - 1 - vK M)
 have e64:(2:Nat) ^ 64=18446744073709551616:=by decide
 have e60:(2:Nat) ^ 60=1152921504606846976:=by decide
 refine r64_spec (held_cut (Int.le_of_lt hv) (by omega) _) (by omega) (by omega) (by omega) (fun hc=>?_)
 have hk0:0 < vK M:=by
  rcases Nat.eq_zero_or_pos (vK M) with h | h
  ·rw [h,Int.pow_zero,Int.emod_one] at hc; simp at hc
  ·exact h
 have h61:blen M - 1 - vK M=61:=by unfold vK at hk0 ⊢; omega
 rw [h61] at hge
 have e61:(2:Int) ^ 61=2305843009213693952:=by decide
 rw [e61] at hge
 omega
theorem sg_lt {ng:Bool} {A:Int} (h:0 < A):decide (sg ng A < 0)=ng:=by
 cases ng
 ·exact decide_eq_false (by show ¬ A < 0; omega)
 ·exact decide_eq_true (by show -A < 0; omega)
theorem rd_of {way V:Int} {ng:Bool} {M e:Int} (hV:V=sg ng (M * pw e)) (hv:0 < M) (he:-4194304 <= e) :
  RdP way V (r64 way ng true (M / 2 ^ vK M).toNat (e + vK M) (decide (M % 2 ^ vK M ≠ 0))).1:=by
 obtain ⟨r0,left,h1,h2⟩:=r64_num (way:=way) (ng:=ng) (sd:=true) hv he
 have hA:0 < M * pw e:=Int.mul_pos hv (pw_pos e)
 have hn:decide (V < 0)=ng:=by rw [hV]; exact sg_lt hA
 refine ⟨M * pw e,r0,left,by rw [hn]; exact hV,h1,?_⟩
 rw [h2,hn]
 simp
def rdP (way V:Int):Int:=(r64 way (decide (V < 0)) true ((V.natAbs:Int) / 2 ^ vK (V.natAbs:Int)).toNat (-4194304 + vK (V.natAbs:Int)) (decide ((V.natAbs:Int) % 2 ^ vK (V.natAbs:Int) ≠ 0))).1
theorem rdP_is (way:Int) {V:Int} (h:V ≠ 0):RdP way V (rdP way V):=by
 refine rd_of ?_ (by omega) (Int.le_refl _)
 rw [pw_least,Int.mul_one]
 by_cases hn:V < 0
 ·rw [decide_eq_true hn]; show V=-(V.natAbs:Int); omega
 ·rw [decide_eq_false hn]; show V=(V.natAbs:Int); omega
theorem rdP_eq {way V p:Int} (h0:V ≠ 0) (h:RdP way V p):rdP way V=p:=(rdP_is way h0).unique h
theorem rdP_near {V:Int} (h:V ≠ 0):rdP 0 V=nearP V:=by
 obtain ⟨A,r0,left,h1,h2,h3⟩:=nearP_rung h
 exact rdP_eq h ⟨A,r0,left,h1,h2,h3⟩
theorem r64_dy {way V:Int} {ng:Bool} {m e:Int} (hy:Dy V ng m e) (h0:V ≠ 0) (he:-4194304 <= e) :
  (r64 way ng true (m / 2 ^ vK m).toNat (e + vK m) (decide (m % 2 ^ vK m ≠ 0))).1=rdP way V:=by
 have hm:0 < m:=by
  rcases hy.form with ⟨f1,_⟩ | ⟨f1,_⟩
  ·exact absurd (hy.eq_zero.2 f1) h0
  ·exact f1
 refine (rdP_eq h0 (rd_of ?_ hm he)).symm
 rw [hy.val]
 cases ng
 ·rfl
 ·show -m * pw e=-(m * pw e); rw [Int.neg_mul]
theorem rdP_pat (way:Int) {V:Int} (h:V ≠ 0):rng (rdP way V)∧cls (rdP way V) ≠ 4:=by
 obtain ⟨A,r0,left,_,_,h3⟩:=rdP_is way h
 rw [h3]
 have:=rTo_range way (decide (V < 0)) r0 left
 exact patS_rng this.1 this.2
theorem prod_infD {p q:Int} (rp:rng p) (rq:rng q) (p0:0 <= rg p) (p1:rg p <= 9218868437227405312) (q0:0 <= rg q) (q1:rg q <= 9218868437227405312) (h:rg p=9218868437227405312∨rg q=9218868437227405312) :
  Datum.product (Ieee.double.read (wd p)) (Ieee.double.read (wd q))=if rg p=0∨rg q=0 then none else some (.infinity (xsg p q)):=by
 have hX:(decide (p < 0) ^^ decide (q < 0))=xsg p q:=xor_ne _ _
 have hX2:(decide (q < 0) ^^ decide (p < 0))=xsg p q:=by rw [<- hX]; cases decide (p < 0) <;> cases decide (q < 0) <;> rfl
 by_cases ip:rg p=9218868437227405312
 ·have ep:=read_inf64 rp ip
  by_cases iq:rg q=9218868437227405312
  ·rw [if_neg (by omega),ep,read_inf64 rq iq,<- hX]
   rfl
  ·have pq:=(pok_rg rq).2 (by omega)
   obtain ⟨m,u,eq,vq⟩:=read_wd rq pq
   have hz:=mag_zero rq pq vq
   rw [ep,eq]
   unfold Datum.product
   dsimp only
   by_cases hm:m=0
   ·rw [if_pos hm,if_pos (.inr (hz.1 hm))]
   ·rw [if_neg hm,if_neg (fun h=>by rcases h with h | h; omega; exact hm (hz.2 h)),hX]
 ·have iq:rg q=9218868437227405312:=by omega
  have pp:=(pok_rg rp).2 (by omega)
  obtain ⟨m,u,ep,vp⟩:=read_wd rp pp
  have hz:=mag_zero rp pp vp
  have eq:=read_inf64 rq iq
  rw [ep,eq]
  unfold Datum.product
  dsimp only
  by_cases hm:m=0
  ·rw [if_pos hm,if_pos (.inl (hz.1 hm))]
  ·rw [if_neg hm,if_neg (fun h=>by rcases h with h | h; exact hm (hz.2 h); omega),hX2]
def ffma (p q r:Int):Int :=
 if cls p=4∨cls q=4∨cls r=4 then 9221120237041090561
 else if rg p=9218868437227405312∨rg q=9218868437227405312 then
  if rg p=0∨rg q=0 then 9221120237041090561
  else if rg r=9218868437227405312∧¬ xsg p q=decide (r < 0) then 9221120237041090561 else patS (xsg p q) 9218868437227405312
 else if rg r=9218868437227405312 then r
 else if fmaS p q r=0 then patS (xsg p q && decide (r < 0)) 0 else nearP (fmaS p q r)
theorem fma_FW {p q r:Int} {x y z:Nat} (hx:FW p x) (hy:FW q y) (hz:FW r z):(∃ t,Ieee.double.fma x y z=some t∧FW (ffma p q r) t)∨(Ieee.double.fma x y z=none∧ffma p q r=9221120237041090561):=by
 by_cases h4:cls p=4∨cls q=4∨cls r=4
 ·right
  refine ⟨?_,by unfold ffma; rw [if_pos h4]⟩
  unfold Format.fma
  rcases h4 with h | h | h
  ·obtain ⟨s,t,e⟩:=hx.read_nan h
   rw [e]
   rfl
  ·obtain ⟨s,t,e⟩:=hy.read_nan h
   rw [e]
   cases Ieee.double.read x <;> rfl
  ·obtain ⟨s,t,e⟩:=hz.read_nan h
   rw [e]
   cases Datum.product (Ieee.double.read x) (Ieee.double.read y) with
   | none=>rfl
   | some d=>cases d <;> rfl
 ·have h4p:cls p ≠ 4:=fun h=>h4 (.inl h)
  have h4q:cls q ≠ 4:=fun h=>h4 (.inr (.inl h))
  have h4r:cls r ≠ 4:=fun h=>h4 (.inr (.inr h))
  obtain ⟨rp,rfl,p0,p1⟩:=hx.of h4p
  obtain ⟨rq,rfl,q0,q1⟩:=hy.of h4q
  obtain ⟨rr,rfl,r0,r1⟩:=hz.of h4r
  have hI:=patS_rng (ng:=xsg p q) (r:=9218868437227405312) (by decide) (by decide)
  unfold ffma
  rw [if_neg h4]
  by_cases hi:rg p=9218868437227405312∨rg q=9218868437227405312
  ·rw [if_pos hi]
   have hP:=prod_infD rp rq p0 p1 q0 q1 hi
   by_cases h0:rg p=0∨rg q=0
   ·right
    rw [if_pos h0] at hP ⊢
    refine ⟨?_,rfl⟩
    unfold Format.fma
    rw [hP]
    rfl
   ·rw [if_neg h0] at hP ⊢
    by_cases ir:rg r=9218868437227405312
    ·have er:=read_inf64 rr ir
     by_cases hs:xsg p q=decide (r < 0)
     ·left
      rw [if_neg (fun h=>h.2 hs)]
      refine ⟨_,?_,FW.pat hI.2 hI.1⟩
      unfold Format.fma
      rw [hP,er]
      show Option.map Ieee.double.write (Datum.sum (.infinity (xsg p q)) (.infinity (decide (r < 0))))=_
      unfold Datum.sum
      dsimp only
      rw [if_pos hs]
      show some (Ieee.double.write (.infinity (xsg p q)))=_
      rw [write_infS]
     ·right
      rw [if_pos ⟨ir,hs⟩]
      refine ⟨?_,rfl⟩
      unfold Format.fma
      rw [hP,er]
      show Option.map Ieee.double.write (Datum.sum (.infinity (xsg p q)) (.infinity (decide (r < 0))))=_
      unfold Datum.sum
      dsimp only
      rw [if_neg hs]
      rfl
    ·left
     obtain ⟨l,v,er,_⟩:=read_wd rr ((pok_rg rr).2 (by omega))
     rw [if_neg (fun h=>ir h.1)]
     refine ⟨_,?_,FW.pat hI.2 hI.1⟩
     unfold Format.fma
     rw [hP,er]
     show some (Ieee.double.write (.infinity (xsg p q)))=_
     rw [write_infS]
  ·rw [if_neg hi]
   have pp:=(pok_rg rp).2 (by omega)
   have pq:=(pok_rg rq).2 (by omega)
   by_cases ir:rg r=9218868437227405312
   ·left
    rw [if_pos ir]
    obtain ⟨m,u,ep,_⟩:=read_wd rp pp
    obtain ⟨n,v,eq,_⟩:=read_wd rq pq
    refine ⟨wd r,?_,FW.pat h4r rr⟩
    unfold Format.fma
    rw [ep,eq,read_inf64 rr ir]
    show some (Ieee.double.write (.infinity (decide (r < 0))))=_
    rw [write_inf64 rr ir]
   ·left
    rw [if_neg ir]
    refine ⟨_,ffma_fin rp rq rr pp pq ((pok_rg rr).2 (by omega)),?_⟩
    by_cases hS:fmaS p q r=0
    ·rw [if_pos hS]
     obtain ⟨g1,g2⟩:=patS_rng (ng:=xsg p q && decide (r < 0)) (r:=0) (by decide) (by decide)
     exact FW.pat g2 g1
    ·rw [if_neg hS]
     exact FW.pat (nearP_pat hS).2 (nearP_pat hS).1
end Go.Proofs.YtinccocmgkjalaaGreatDoor
namespace Go.Proofs.YtinccocmgkjalaaGreatDoor
open Go Go.RowKit Go.Proofs.YtinccocmgkjalaaGreatDoor.M
theorem sgTT (x:Int):sg true x=-x:=rfl
theorem sgFF (x:Int):sg false x=x:=rfl
theorem rTo_low {ng:Bool} {r0:Nat} {left:Int} (way:Int) (h:(r0:Int) < 9218868437227405312):rTo way ng r0 left=(r0:Int) + (if rUp way ng (decide (r0 % 2=1)) left then 1 else 0):=by
 unfold rTo; rw [if_pos h]
theorem dir_cases {V:Int} (h0:V ≠ 0):∃ (g:Bool) (A:Int) (r0:Nat) (left:Int),V=sg g A∧0 < A∧Rung A r0 left∧nearP V=patS g (rTo 0 g r0 left)∧rdP 1 V=patS g (rTo 1 g r0 left)∧rdP 2 V=patS g (rTo 2 g r0 left):=by
 obtain ⟨A,r0,left,e1,hR,e2⟩:=nearP_rung h0
 have hA:0 < A:=by
  by_cases hn:V < 0
  ·rw [decide_eq_true hn] at e1
   have:V=-A:=e1
   omega
  ·rw [decide_eq_false hn] at e1
   have:V=A:=e1
   omega
 exact ⟨decide (V < 0),A,r0,left,e1,hA,hR,e2,rdP_eq h0 ⟨A,r0,left,e1,hR,rfl⟩,rdP_eq h0 ⟨A,r0,left,e1,hR,rfl⟩⟩
theorem patS_nn {g:Bool} {r:Int} (h0:0 <= r) (h1:r <= 9218868437227405312):nn (patS g r):=by
 obtain ⟨a,b⟩:=patS_rng (ng:=g) h0 h1
 exact ⟨a,b⟩
theorem nextS_pos {r:Int} (h0:0 <= r) (h1:r < 9218868437227405312):next (patS false r)=patS false (r + 1):=by
 have hn:=patS_nn (g:=false) h0 (by omega)
 unfold next
 rw [if_neg hn.2]
 show (if r=9218868437227405312 then r else if r=-9223372036854775808 then 1 else if r < 0 then r - 1 else r + 1)=r + 1
 rw [if_neg (by omega),if_neg (by omega),if_neg (by omega)]
theorem nextS_neg {r:Int} (h0:0 <= r) (h1:r < 9218868437227405312):next (patS true (r + 1))=patS true r:=by
 have hn:=patS_nn (g:=true) (show 0 <= r + 1 by omega) (by omega)
 unfold next
 rw [if_neg hn.2]
 show (if r + 1 - 9223372036854775808=9218868437227405312 then r + 1 - 9223372036854775808 else if r + 1 - 9223372036854775808=-9223372036854775808 then 1 else if r + 1 - 9223372036854775808 < 0 then r + 1 - 9223372036854775808 - 1 else r + 1 - 9223372036854775808 + 1)=r - 9223372036854775808
 rw [if_neg (by omega),if_neg (by omega),if_pos (by omega)]
 omega
theorem prevS_pos {r:Int} (h0:0 <= r) (h1:r < 9218868437227405312):prev (patS false (r + 1))=patS false r:=by
 have hn:=patS_nn (g:=false) (show 0 <= r + 1 by omega) (by omega)
 rw [prev_down hn (show ¬ r + 1=-4503599627370496 by omega)]
 show (if r + 1=0∨r + 1=-9223372036854775808 then (-9223372036854775807:Int) else if r + 1 < 0 then r + 1 + 1 else r + 1 - 1)=r
 rw [if_neg (by omega),if_neg (by omega)]
 omega
theorem prevS_neg {r:Int} (h0:0 <= r) (h1:r < 9218868437227405312):prev (patS true r)=patS true (r + 1):=by
 have hn:=patS_nn (g:=true) h0 (by omega)
 rw [prev_down hn (show ¬ r - 9223372036854775808=-4503599627370496 by omega)]
 show (if r - 9223372036854775808=0∨r - 9223372036854775808=-9223372036854775808 then (-9223372036854775807:Int) else if r - 9223372036854775808 < 0 then r - 9223372036854775808 + 1 else r - 9223372036854775808 - 1)=r + 1 - 9223372036854775808
 by_cases hr:r=0
 ·rw [if_pos (by omega)]; omega
 ·rw [if_neg (by omega),if_pos (by omega)]; omega
theorem rUp_dn (odd:Bool) (left:Int):rUp 1 false odd left=false∧(left ≠ 0->rUp 1 true odd left=true)∧rUp 2 true odd left=false∧(left ≠ 0->rUp 2 false odd left=true)∧(∀ way g,left=0->rUp way g odd left=false):=by
 refine ⟨?_,fun h=>?_,?_,fun h=>?_,fun way g h=>?_⟩
 ·unfold rUp; simp
 ·unfold rUp; simp [h]
 ·unfold rUp; simp
 ·unfold rUp; simp [h]
 ·cases hu:rUp way g odd left
  ·rfl
  ·rw [h] at hu; exact absurd hu (fun q=>rUp_left q)
theorem dir_fin {V:Int} (h0:V ≠ 0) (hf:pok (nearP V)=true) :
  (V < patV (nearP V)->prev (nearP V)=rdP 1 V∧nearP V=rdP 2 V)∧(patV (nearP V) < V->nearP V=rdP 1 V∧next (nearP V)=rdP 2 V)∧(V=patV (nearP V)->nearP V=rdP 1 V∧nearP V=rdP 2 V):=by
 obtain ⟨g,A,r0,left,e,hA,hR,en,e1,e2⟩:=dir_cases h0
 have hrr:=rTo_range 0 g r0 left
 rw [en,patS_fin hrr.1 hrr.2] at hf
 have hf:=of_decide_eq_true hf
 have hr0:(r0:Int) < 9218868437227405312:=by
  rcases Int.lt_or_le (r0:Int) 9218868437227405312 with q | q
  ·exact q
  ·exfalso
   unfold rTo at hf
   rw [if_neg (by omega)] at hf
   unfold bRung at hf
   rw [show rUp 0 g true 3=true by cases g <;> decide,if_pos rfl] at hf
   omega
 obtain ⟨lo,hi,l0,l1,l2,l3⟩:=hR
 obtain ⟨u1,u2,u3,u4,u5⟩:=rUp_dn (decide (r0 % 2=1)) left
 rw [en,e1,e2,rTo_low 1 hr0,rTo_low 2 hr0]
 rw [rTo_low 0 hr0] at hf ⊢
 have pv:∀ r:Nat,(r:Int) < 9218868437227405312->patV (patS g (r:Int))=sg g (vS r):=fun r hr=>by
  cases g
  ·exact patV_patS hr (fun q=>by cases q)
  ·exact patV_neg hr
 have pv0:=pv r0 hr0
 have pv1:=pv (r0 + 1)
 clear pv l1 l2 l3
 generalize vS r0=a at *
 generalize vS (r0 + 1)=b at *
 by_cases hl:left=0
 ·have ha:=l0.1 hl
  rw [u5 0 g hl,u5 1 g hl,u5 2 g hl]
  simp only [Bool.false_eq_true,if_false,Int.add_zero] at hf ⊢
  rw [pv0,e,ha]
  clear pv0 pv1 en e1 e2 e h0
  exact ⟨fun q=>absurd q (by omega),fun q=>absurd q (by omega),fun _=>⟨trivial,trivial⟩⟩
 ·have hlt:a < A:=by
   have:A ≠ a:=fun q=>hl (l0.2 q)
   omega
  cases hu:rUp 0 g (decide (r0 % 2=1)) left
  ·rw [hu] at hf
   simp only [Bool.false_eq_true,if_false,Int.add_zero] at hf ⊢
   rw [pv0,e]
   clear pv0 pv1 en e1 e2 e h0
   cases g
   ·rw [u1,u4 hl]
    simp only [Bool.false_eq_true,if_false,if_true,Int.add_zero]
    refine ⟨fun q=>?_,fun _=>⟨trivial,nextS_pos (by omega) hr0⟩,fun q=>?_⟩
    ·rw [sgFF,sgFF] at q
     omega
    ·rw [sgFF,sgFF] at q
     omega
   ·rw [u2 hl,u3]
    simp only [Bool.false_eq_true,if_false,if_true,Int.add_zero]
    refine ⟨fun _=>⟨prevS_neg (by omega) hr0,trivial⟩,fun q=>?_,fun q=>?_⟩
    ·rw [sgTT,sgTT] at q
     omega
    ·rw [sgTT,sgTT] at q
     omega
  ·rw [hu] at hf
   simp only [if_true] at hf ⊢
   rw [show (r0:Int) + 1=((r0 + 1:Nat):Int) by push_cast; rfl] at hf ⊢
   rw [pv1 hf,e]
   clear pv0 pv1 en e1 e2 e h0
   rw [show ((r0 + 1:Nat):Int)=(r0:Int) + 1 by push_cast; rfl]
   cases g
   ·rw [u1,u4 hl]
    simp only [Bool.false_eq_true,if_false,if_true,Int.add_zero]
    refine ⟨fun _=>⟨prevS_pos (by omega) hr0,trivial⟩,fun q=>?_,fun q=>?_⟩
    ·rw [sgFF,sgFF] at q
     omega
    ·rw [sgFF,sgFF] at q
     omega
   ·rw [u2 hl,u3]
    simp only [Bool.false_eq_true,if_false,if_true,Int.add_zero]
    refine ⟨fun q=>?_,fun _=>⟨trivial,nextS_neg (by omega) hr0⟩,fun q=>?_⟩
    ·rw [sgTT,sgTT] at q
     omega
    ·rw [sgTT,sgTT] at q
     omega
theorem dir_inf {V:Int} (h0:V ≠ 0) (hf:pok (nearP V)=false) :
  (0 < V->nearP V=9218868437227405312∧rdP 1 V=9218868437227405311∧rdP 2 V=9218868437227405312)∧(V < 0->nearP V=-4503599627370496∧rdP 1 V=-4503599627370496∧rdP 2 V=-4503599627370497):=by
 obtain ⟨g,A,r0,left,e,hA,hR,en,e1,e2⟩:=dir_cases h0
 have hrr:=rTo_range 0 g r0 left
 rw [en,patS_fin hrr.1 hrr.2] at hf
 have hf:=of_decide_eq_false hf
 obtain ⟨u1,u2,u3,u4,u5⟩:=rUp_dn (decide (r0 % 2=1)) left
 have hr:rTo 0 g r0 left=9218868437227405312:=by omega
 have key:(∀ g',g=g'->rTo 1 g r0 left=if g' then 9218868437227405312 else 9218868437227405311)∧(∀ g',g=g'->rTo 2 g r0 left=if g' then 9218868437227405311 else 9218868437227405312):=by
  by_cases hr0:(r0:Int) < 9218868437227405312
  ·rw [rTo_low 0 hr0] at hr
   have hl:left ≠ 0:=fun q=>by
    rw [u5 0 g q] at hr
    simp at hr
    omega
   have hrv:(r0:Int)=9218868437227405311:=by
    split at hr <;> omega
   rw [rTo_low 1 hr0,rTo_low 2 hr0]
   cases g
   ·rw [u1,u4 hl]
    constructor
    ·intro g' hg; subst hg; simp; omega
    ·intro g' hg; subst hg; simp; omega
   ·rw [u2 hl,u3]
    constructor
    ·intro g' hg; subst hg; simp; omega
    ·intro g' hg; subst hg; simp; omega
  ·unfold rTo bRung
   rw [if_neg hr0,if_neg hr0]
   cases g
   ·constructor
    ·intro g' hg; subst hg; decide
    ·intro g' hg; subst hg; decide
   ·constructor
    ·intro g' hg; subst hg; decide
    ·intro g' hg; subst hg; decide
 cases g
 ·refine ⟨fun _=>⟨?_,?_,?_⟩,fun q=>?_⟩
  ·rw [en,hr]; rfl
  ·rw [e1,key.1 false rfl]; rfl
  ·rw [e2,key.2 false rfl]; rfl
  ·have:V=A:=e
   omega
 ·refine ⟨fun q=>?_,fun _=>⟨?_,?_,?_⟩⟩
  ·have:V=-A:=e
   omega
  ·rw [en,hr]; rfl
  ·rw [e1,key.1 true rfl]; rfl
  ·rw [e2,key.2 true rfl]; rfl
end Go.Proofs.YtinccocmgkjalaaGreatDoor
