/- Parts of the proof. -/
import Derived.Test.YtfgapefckpnjjaaGreatDoorPart11
import Derived.Test.YtfgapefckpnjjaaGreatDoorPart8
import Derived.Test.YtfgapefckpnjjaaGreatDoorPart9
import Derived.Test.YtfgapefckpnjjaaGreatDoorPart10
import Derived.Laws.Externs
import Derived.Test.YtfgapefckpnjjaaGreatDoorPart7
import Derived.Laws.MakeOwn
import Derived.Test.YtfgapefckpnjjaaGreatDoorPart6
set_option linter.unusedVariables false
set_option linter.unusedSimpArgs false
namespace Go.Proofs.YtfgapefckpnjjaaGreatDoor
open Go Go.RowKit Go.Proofs.YtfgapefckpnjjaaGreatDoor.M
theorem q_heap_last (w:World) (o:Obj):(w.alloc o).heap[w.heap.size]?=some o:=by
  show (w.heap.push o)[w.heap.size]?=_
  simp
def hiM (p q:Int):Int:=if rg p < rg q then q else p
def loM (p q:Int):Int:=if rg p < rg q then p else q
def suN (p q:Int):Int:=fsum (hiM p q) (loM p q)
def suL (p q:Int):Int:=fsum (loM p q) (neg (fsum (suN p q) (neg (hiM p q))))
set_option maxRecDepth 100000 in
set_option maxHeartbeats 1000000 in
theorem sum_core {p q x y n l:Int} (hp:nn p) (hq:nn q) (hx:nn x) (hy:nn y) (hn:nn n) (en:n=fsum x y) (el:l=fsum y (neg (fsum n (neg x)))) (w:World)
    (hsw:(FloatKind.f64.format.order (wd (rg p)) (wd (rg q))=some .lt∧x=q∧y=p)∨((FloatKind.f64.format.order (wd (rg p)) (wd (rg q))=some .gt∨FloatKind.f64.format.order (wd (rg p)) (wd (rg q))=some .eq)∧x=p∧y=q)) :
    Calls Tryz.prog 59 #[.float .f64 (wd p),.float .f64 (wd q)] w fun e w'=>e=.returned (.agg #[.float .f64 (wd (beLo n l)),.float .f64 (wd (beHi n l))])∧Below w.heap.size w w':=by
  have CP:Hid (∀ W,Calls Tryz.prog 78 #[.float .f64 (wd p)] W fun e w'=>e=.returned (.float .f64 (wd (rg p)))∧w'=W):=fun W=>mathAbs hp.1 W
  have CQ:Hid (∀ W,Calls Tryz.prog 78 #[.float .f64 (wd q)] W fun e w'=>e=.returned (.float .f64 (wd (rg q)))∧w'=W):=fun W=>mathAbs hq.1 W
  have fx:FW x (wd x):=.inl ⟨hx.2,hx.1,rfl⟩
  have fy:FW y (wd y):=.inl ⟨hy.2,hy.1,rfl⟩
  have fn:FW n (wd n):=.inl ⟨hn.2,hn.1,rfl⟩
  have h1:∀ W,(binOp .add 62 (.float .f64 (wd x)) (.float .f64 (wd y))).run Tryz.prog W=.ok (.float .f64 (wd n)) W:=fun W=>by rw [en]; exact run_sumN _ fx fy (by rw [<- en]; exact hn.2) W
  have hg:=q_heap_last w (.cells #[.float .f64 0,.float .f64 0] 64)
  have hba:=bel_alloc w (.cells #[.float .f64 0,.float .f64 0] 64)
  obtain ⟨D,W1,r1,fD,hW1⟩:=run_fdiff (P:=Tryz.prog) 62 fn fx (w.alloc (.cells #[.float .f64 0,.float .f64 0] 64))
  obtain ⟨L,W2,r2,fL,hW2⟩:=run_fdiff (P:=Tryz.prog) 62 fy fD W1
  rw [<- el] at fL
  have b1:Below (w.alloc (.cells #[.float .f64 0,.float .f64 0] 64)).heap.size (w.alloc (.cells #[.float .f64 0,.float .f64 0] 64)) W1:=by
    rcases hW1 with rfl | rfl
    . exact bel_refl _
    . exact (bel_refl _).drew
  have b2:Below W1.heap.size W1 W2:=by
    rcases hW2 with rfl | rfl
    . exact bel_refl _
    . exact (bel_refl _).drew
  have CB:Hid (∀ W,Calls Tryz.prog 79 #[.float .f64 (wd n),.float .f64 L] W fun e w'=>e=.returned (.agg #[.float .f64 (wd (beLo n l)),.float .f64 (wd (beHi n l))])∧Below W.heap.size W w'):=fun W=>beside_any hn fL W
  generalize wd (beLo n l)=U at *
  generalize wd (beHi n l)=V at *
  clear fx fy fn fD fL hW1 hW2 en el hx hy hn hp hq
  have fin:∀ (w3:World),Below W2.heap.size W2 w3->(store ⟨w.heap.size,0,none⟩ (.float .f64 U)).run Tryz.prog w3=.ok () (w3.setCell ⟨w.heap.size,0,none⟩ (.float .f64 U))∧(store ⟨w.heap.size,1,none⟩ (.float .f64 V)).run Tryz.prog (w3.setCell ⟨w.heap.size,0,none⟩ (.float .f64 U))=.ok () ((w3.setCell ⟨w.heap.size,0,none⟩ (.float .f64 U)).setCell ⟨w.heap.size,1,none⟩ (.float .f64 V))∧((w3.setCell ⟨w.heap.size,0,none⟩ (.float .f64 U)).setCell ⟨w.heap.size,1,none⟩ (.float .f64 V)).cell? ⟨w.heap.size,0,none⟩=some (.float .f64 U)∧((w3.setCell ⟨w.heap.size,0,none⟩ (.float .f64 U)).setCell ⟨w.heap.size,1,none⟩ (.float .f64 V)).cell? ⟨w.heap.size,1,none⟩=some (.float .f64 V)∧Below w.heap.size w ((w3.setCell ⟨w.heap.size,0,none⟩ (.float .f64 U)).setCell ⟨w.heap.size,1,none⟩ (.float .f64 V)):=by
    intro w3 hb3
    have hbb:=bel_trans b1 (bel_trans b2 hb3)
    have d2:=(hbb.block _ (Array.getElem?_eq_some_iff.1 hg).1).trans hg
    have d3:=q_heap_set d2 0 (.float .f64 U)
    have d4:=q_heap_set d3 1 (.float .f64 V)
    have f0:=blkC d2 0 rfl
    have z0:=blkF d2 0
    have f1:=blkC d3 1 rfl
    have z1:=blkF d3 1
    refine ⟨?_,?_,blkC d4 0 rfl,blkC d4 1 rfl,?_⟩
    . rw [run_store _ _ _ _ _ rfl,f0]; simp only [z0]; rfl
    . rw [run_store _ _ _ _ _ rfl,f1]; simp only [z1]; rfl
    . exact ((bel_trans hba hbb).setCell (p:=⟨w.heap.size,0,none⟩) (Nat.le_refl _) _).setCell (p:=⟨w.heap.size,1,none⟩) (Nat.le_refl _) _
  have FIN:=hideIt fin
  clear fin b1 b2 hba hg
  rcases hsw with ⟨o,rfl,rfl⟩ | ⟨o | o,rfl,rfl⟩
  all_goals
    go_enter Tryz.func59,Tryz.ntmps59
    go_wp2_with fail
    refine (CP.out _).mono ?_
    rintro _ _ ⟨rfl,rfl⟩
    go_wp2_with fail
    refine (CQ.out _).mono ?_
    rintro _ _ ⟨rfl,rfl⟩
    go_wp2_with fail
    refine (CB.out _).mono ?_
    rintro _ w3 ⟨rfl,hb3⟩
    obtain ⟨s0,s1,e0,e1,hbe⟩:=FIN.out w3 hb3
    go_wp2
    refine bodyPost_ret (v:=.agg #[.float .f64 U,.float .f64 V]) (by simp [results,Tryz.results59,go_sem,e0,e1]) rfl ⟨rfl,hbe⟩
theorem spanSum {p q:Int} (hp:nn p) (hq:nn q) (hn:nn (suN p q)) (w:World) :
    Calls Tryz.prog 59 #[.float .f64 (wd p),.float .f64 (wd q)] w fun e w'=>e=.returned (ivl (beLo (suN p q) (suL p q)) (beHi (suN p q) (suL p q)))∧Below w.heap.size w w':=by
  obtain ⟨a1,a2⟩:=q_rg hp.1
  obtain ⟨b1,b2⟩:=q_rg hq.1
  have ca:¬ cls (rg p)=4:=by rw [q_cls hp.1]; exact hp.2
  have cb:¬ cls (rg q)=4:=by rw [q_cls hq.1]; exact hq.2
  have ka:=q_key a2
  have kb:=q_key b2
  by_cases h:rg p < rg q
  . have ex:hiM p q=q:=if_pos h
    have ey:loM p q=p:=if_pos h
    refine sum_core hp hq hq hp hn (by unfold suN; rw [ex,ey]) (by unfold suL; rw [ex,ey]) w (.inl ⟨q_lt a1 b1 ca cb (by rw [ka,kb]; exact h),rfl,rfl⟩)
  . have ex:hiM p q=p:=if_neg h
    have ey:loM p q=q:=if_neg h
    refine sum_core hp hq hp hq hn (by unfold suN; rw [ex,ey]) (by unfold suL; rw [ex,ey]) w (.inr ⟨?_,rfl,rfl⟩)
    by_cases e:rg p=rg q
    . exact .inr (q_eq a1 b1 ca cb (by rw [ka,kb]; exact e))
    . exact .inl (q_gt a1 b1 ca cb (by rw [ka,kb]; omega))
end Go.Proofs.YtfgapefckpnjjaaGreatDoor
namespace Go.Proofs.YtfgapefckpnjjaaGreatDoor
open Go Go.RowKit Go.Proofs.YtfgapefckpnjjaaGreatDoor.M Ieee
def fL (p q:Int):Int:=fsum q (neg (fsum (fsum p q) (neg p)))
theorem cv64 (x:Nat) (w:World):(convert 62 62 (.float .f64 x)).run Tryz.prog w=.ok (.float .f64 x) w:=run_convert_float_float w _ _ _ _ _ _ (by rw [Tryz.underlying62]; rfl) Tryz.underlying62 rfl
theorem fl_iV (p:Int):Fl (iV p):=by
  unfold iV
  cases decide (p < 0)
  . exact fl_V _
  . exact (fl_V _).neg
theorem iV_abs (p:Int):((iV p).natAbs:Int)=(V Ieee.double (rg p).toNat:Int):=by
  unfold iV sg
  cases decide (p < 0)
  . simp
  . simp
theorem iV_max {p:Int} (hp:rng p) (h:pok p=true):((iV p).natAbs:Int) <= maxV:=by
  rw [iV_abs]
  have:=(pok_rg hp).1 h
  exact V_le (by omega)
theorem back_le {a b h:Int} (ha:Fl a) (hab:b.natAbs <= a.natAbs) (n:Nr (a + b) h):(h - a).natAbs <= a.natAbs:=by
  have e1:=n.2 _ ha
  have e2:=n.2 _ ha.dbl
  have e3:=n.2 _ fl_zero
  omega
theorem fL_fin {p q:Int} (hp:rng p) (hq:rng q) (pp:pok p=true) (pq:pok q=true) (ph:pok (fsum p q)=true) (hab:(iV q).natAbs <= (iV p).natAbs):pok (fL p q)=true∧iV (fsum p q) + iV (fL p q)=iV p + iV q:=by
  have rh:=fsum_rng hp hq
  have rv:rng (fsum (fsum p q) (neg p)):=fsum_rng rh (neg_rng hp)
  have nh:=(stp_sum hp hq pp pq).nr ph
  have sv:=stp_diff rh hp ph pp
  have b1:=back_le (fl_iV p) hab nh
  have pv:=sv.fin (by have:=iV_max hp pp; omega)
  have ev:=nr_self (back (fl_iV p) (fl_iV q) hab nh) (sv.nr pv)
  have sl:=stp_diff hq rv pq pv
  have e3:=nh.2 _ (fl_iV p)
  have pl:=sl.fin (by rw [ev]; have:=iV_max hq pq; omega)
  have nl:=sl.nr pl
  have e4:=fast_sum (fl_iV p) (fl_iV q) hab nh (sv.nr pv) nl
  exact ⟨pl,by unfold fL; omega⟩
theorem fsum_eqn {p q:Int} (hp:rng p) (hq:rng q) (pp:pok p=true) (pq:pok q=true):fsum p q=if patV p + patV q=0 then patS (decide (p < 0) && decide (q < 0)) 0 else nearP (patV p + patV q):=by
  obtain ⟨a1,a2⟩:=fin_cls hp pp
  obtain ⟨b1,b2⟩:=fin_cls hq pq
  unfold fsum
  rw [if_neg (fun c=>c.elim a1 b1),if_neg a2,if_neg b2]
end Go.Proofs.YtfgapefckpnjjaaGreatDoor
namespace Go.Proofs.YtfgapefckpnjjaaGreatDoor
open Go Go.RowKit Go.Proofs.YtfgapefckpnjjaaGreatDoor.M
theorem rg_iV {p q:Int} (h:rg p <= rg q) (hp:0 <= rg p):(iV p).natAbs <= (iV q).natAbs:=by
  have a:=iV_abs p
  have b:=iV_abs q
  have c:=V_le (show (rg p).toNat <= (rg q).toNat by omega)
  omega
theorem su_exact {p q:Int} (hp:rng p) (hq:rng q) (pp:pok p=true) (pq:pok q=true) (hf:pok (suN p q)=true):pok (suL p q)=true∧iV (suN p q) + iV (suL p q)=iV p + iV q:=by
  by_cases h:rg p < rg q
  . have ex:hiM p q=q:=if_pos h
    have ey:loM p q=p:=if_pos h
    unfold suL suN at *
    rw [ex,ey] at hf ⊢
    obtain ⟨a,b⟩:=fL_fin hq hp pq pp hf (rg_iV (by omega) (q_rg hp).2)
    exact ⟨a,by unfold fL at b; omega⟩
  . have ex:hiM p q=p:=if_neg h
    have ey:loM p q=q:=if_neg h
    unfold suL suN at *
    rw [ex,ey] at hf ⊢
    obtain ⟨a,b⟩:=fL_fin hp hq pp pq hf (rg_iV (by omega) (q_rg hq).2)
    exact ⟨a,by unfold fL at b; omega⟩
theorem V_zero_iff {r:Nat}:(V Ieee.double r:Int)=0 ↔ r=0:=by
  constructor
  . intro h
    by_cases h0:r=0
    . exact h0
    . have:=V_lt Ieee.double (show 0 < r by omega)
      rw [V_zero] at this
      omega
  . rintro rfl
    rw [V_zero]
    rfl
theorem iV_key {p:Int} (hp:rng p):(iV p < 0 ↔ key p < 0)∧(0 < iV p ↔ 0 < key p):=by
  have hz:=@V_zero_iff (rg p).toNat
  have hr:=q_rg hp
  unfold rng at hp
  have hv:(0:Int) <= (V Ieee.double (rg p).toNat:Int):=by omega
  by_cases h:p < 0
  . have e1:iV p=-(V Ieee.double (rg p).toNat:Int):=by unfold iV sg; simp [h]
    have e2:key p=-(rg p):=by unfold key rg; rw [if_pos h,if_pos h]
    rw [e1,e2]
    constructor <;> constructor <;> intro g <;> omega
  . have e1:iV p=(V Ieee.double (rg p).toNat:Int):=by unfold iV sg; simp [h]
    have e2:key p=rg p:=by unfold key rg; rw [if_neg h,if_neg h]
    rw [e1,e2]
    constructor <;> constructor <;> intro g <;> omega
theorem iV_mono {p q:Int} (hp:rng p) (hq:rng q) (h:key p < key q):iV p < iV q:=by
  have rp:=q_rg hp
  have rq:=q_rg hq
  have ep:iV p=if p < 0 then -(V Ieee.double (rg p).toNat:Int) else (V Ieee.double (rg p).toNat:Int):=by unfold iV sg; by_cases g:p < 0 <;> simp [g]
  have eq':iV q=if q < 0 then -(V Ieee.double (rg q).toNat:Int) else (V Ieee.double (rg q).toNat:Int):=by unfold iV sg; by_cases g:q < 0 <;> simp [g]
  have kp:key p=if p < 0 then -(rg p) else rg p:=by unfold key rg; by_cases g:p < 0 <;> simp [g]
  have kq:key q=if q < 0 then -(rg q) else rg q:=by unfold key rg; by_cases g:q < 0 <;> simp [g]
  have zp:=@V_zero_iff (rg p).toNat
  have zq:=@V_zero_iff (rg q).toNat
  have m1:rg p < rg q->(V Ieee.double (rg p).toNat:Int) < V Ieee.double (rg q).toNat:=fun g=>by
    have:=V_lt Ieee.double (show (rg p).toNat < (rg q).toNat by omega)
    omega
  have m2:rg q < rg p->(V Ieee.double (rg q).toNat:Int) < V Ieee.double (rg p).toNat:=fun g=>by
    have:=V_lt Ieee.double (show (rg q).toNat < (rg p).toNat by omega)
    omega
  rw [kp,kq] at h
  rw [ep,eq']
  have hA0:(0:Int) <= (V Ieee.double (rg p).toNat:Int):=by omega
  have hB0:(0:Int) <= (V Ieee.double (rg q).toNat:Int):=by omega
  clear ep eq' kp kq
  generalize (V Ieee.double (rg p).toNat:Int)=A at *
  generalize (V Ieee.double (rg q).toNat:Int)=B at *
  by_cases a:p < 0 <;> by_cases b:q < 0 <;> simp only [a,b,if_true,if_false] at h ⊢ <;> omega
theorem nr_prev {n S:Int} (hn:nn n) (hi:¬ n=-4503599627370496) (hp:rng (prev n)) (h:Nr S (iV n)) (g:S < iV n):iV (prev n) <= S:=by
  obtain ⟨k1,_⟩:=key_prev hn.1 hn.2 hi
  have m:=iV_mono hp hn.1 (by omega)
  have:=h.2 (iV (prev n)) (fl_iV _)
  omega
theorem nr_next {n S:Int} (hn:nn n) (hi:¬ n=9218868437227405312) (hp:rng (next n)) (h:Nr S (iV n)) (g:iV n < S):S <= iV (next n):=by
  obtain ⟨k1,_,_,_⟩:=key_next hn.1 hn.2 hi
  have m:=iV_mono hn.1 hp (by omega)
  have:=h.2 (iV (next n)) (fl_iV _)
  omega
theorem rng_prev' {p:Int} (h:rng p):rng (prev p):=by unfold prev; exact rng_neg (rng_next (rng_neg h))
theorem su_btw {p q:Int} (hp:rng p) (hq:rng q) (pp:pok p=true) (pq:pok q=true) (hf:pok (suN p q)=true) (hn:nn (suN p q)) :
    iV (beLo (suN p q) (suL p q)) <= iV p + iV q∧iV p + iV q <= iV (beHi (suN p q) (suL p q))∧((iV (suN p q)=iV p + iV q∧beLo (suN p q) (suL p q)=suN p q∧beHi (suN p q) (suL p q)=suN p q)∨(iV p + iV q < iV (suN p q)∧beLo (suN p q) (suL p q)=prev (suN p q)∧beHi (suN p q) (suL p q)=suN p q)∨(iV (suN p q) < iV p + iV q∧beLo (suN p q) (suL p q)=suN p q∧beHi (suN p q) (suL p q)=next (suN p q))):=by
  obtain ⟨pl,he⟩:=su_exact hp hq pp pq hf
  have hNr:Nr (iV p + iV q) (iV (suN p q)):=by
    by_cases h:rg p < rg q
    . have ex:hiM p q=q:=if_pos h
      have ey:loM p q=p:=if_pos h
      unfold suN at hf ⊢
      rw [ex,ey] at hf ⊢
      have:=(stp_sum hq hp pq pp).nr hf
      rwa [Int.add_comm] at this
    . have ex:hiM p q=p:=if_neg h
      have ey:loM p q=q:=if_neg h
      unfold suN at hf ⊢
      rw [ex,ey] at hf ⊢
      exact (stp_sum hp hq pp pq).nr hf
  have i1:¬ suN p q=-4503599627370496:=fun e=>by rw [e] at hf; revert hf; decide
  have i2:¬ suN p q=9218868437227405312:=fun e=>by rw [e] at hf; revert hf; decide
  have rl:rng (suL p q):=by
    unfold suL
    have a1:rng (hiM p q):=by unfold hiM; split <;> assumption
    have a2:rng (loM p q):=by unfold loM; split <;> assumption
    exact fsum_rng a2 (rng_neg (fsum_rng hn.1 (rng_neg a1)))
  obtain ⟨kl1,kl2⟩:=iV_key rl
  have c0:¬ cls 0=4:=by decide
  have k0:key 0=0:=by decide
  have cl:=q_fin pl
  have l1:less (suL p q) 0=decide (key (suL p q) < 0):=by unfold less; simp [cl,c0,k0]
  have l2:less 0 (suL p q)=decide (0 < key (suL p q)):=by unfold less; simp [cl,c0,k0]
  unfold beLo beHi
  rw [l1,l2]
  generalize suN p q=n at *
  generalize suL p q=l at *
  by_cases a:key l < 0
  . have al:iV l < 0:=kl1.2 a
    simp only [a,decide_true,if_true]
    exact ⟨nr_prev hn i1 (rng_prev' hn.1) hNr (by omega),by omega,.inr (.inl ⟨by omega,by trivial,by trivial⟩)⟩
  . by_cases b:0 < key l
    . have bl:0 < iV l:=kl2.2 b
      simp only [a,b,decide_true,decide_false,if_true,if_false,Bool.false_eq_true]
      exact ⟨by omega,nr_next hn i2 (rng_next hn.1) hNr (by omega),.inr (.inr ⟨by omega,by trivial,by trivial⟩)⟩
    . have z1:¬ iV l < 0:=fun h=>a (kl1.1 h)
      have z2:¬ 0 < iV l:=fun h=>b (kl2.1 h)
      simp only [a,b,decide_false,if_false,Bool.false_eq_true]
      exact ⟨by omega,by omega,.inl ⟨by omega,by trivial,by trivial⟩⟩
theorem su_neg {p:Int} (h:nn p):rg (neg p)=rg p∧(decide (neg p < 0) ≠ decide (p < 0)):=by
  have hr:=h.1
  unfold rng at hr
  unfold neg
  rw [if_neg h.2]
  unfold rg
  by_cases g:p < 0
  . rw [if_pos g,if_neg (by omega)]
    refine ⟨by rw [if_pos g],?_⟩
    rw [decide_eq_false (by omega),decide_eq_true g]
    decide
  . rw [if_neg g,if_pos (by omega)]
    refine ⟨by rw [if_neg g]; omega,?_⟩
    rw [decide_eq_true (by omega),decide_eq_false g]
    decide
theorem fsum_nan (p:Int):fsum p 9221120237041090561=9221120237041090561:=by
  unfold fsum
  rw [if_pos (.inr nan_canon)]
theorem hl_nn {p q:Int} (hp:nn p) (hq:nn q):nn (hiM p q)∧nn (loM p q)∧(hiM p q=p∧loM p q=q∨hiM p q=q∧loM p q=p)∧rg (loM p q) <= rg (hiM p q):=by
  unfold hiM loM
  by_cases h:rg p < rg q
  . rw [if_pos h,if_pos h]; exact ⟨hq,hp,.inr ⟨rfl,rfl⟩,by omega⟩
  . rw [if_neg h,if_neg h]; exact ⟨hp,hq,.inl ⟨rfl,rfl⟩,by omega⟩
theorem su_infEnd {p q:Int} (hp:nn p) (hq:nn q) (h:rg (hiM p q)=9218868437227405312) (hno:¬ (rg p=9218868437227405312∧rg q=9218868437227405312∧decide (p < 0) ≠ decide (q < 0))) :
    suN p q=hiM p q∧beLo (suN p q) (suL p q)=hiM p q∧beHi (suN p q) (suL p q)=hiM p q:=by
  obtain ⟨nx,ny,hxy,_⟩:=hl_nn hp hq
  have hno':¬ (rg (loM p q)=9218868437227405312∧decide (hiM p q < 0) ≠ decide (loM p q < 0)):=by
    rintro ⟨a,b⟩
    rcases hxy with ⟨e1,e2⟩ | ⟨e1,e2⟩
    . rw [e1] at h b; rw [e2] at a b; exact hno ⟨h,a,b⟩
    . rw [e1] at h b; rw [e2] at a b; exact hno ⟨a,h,fun c=>b c.symm⟩
  have e1:suN p q=hiM p q:=by
    unfold suN fsum
    rw [if_neg (by rintro (c | c); exact nx.2 c; exact ny.2 c),if_pos h,if_neg hno']
  have e2:suL p q=9221120237041090561:=by
    unfold suL
    rw [e1]
    obtain ⟨g1,g2⟩:=su_neg nx
    obtain ⟨n1,_⟩:=nn_neg nx
    have:fsum (hiM p q) (neg (hiM p q))=9221120237041090561:=by
      unfold fsum
      rw [if_neg (by rintro (c | c); exact nx.2 c; exact n1.2 c),if_pos h,if_pos ⟨by rw [g1]; exact h,fun c=>g2 c.symm⟩]
    rw [this,neg_nan nan_canon]
    exact fsum_nan _
  have l1:less 9221120237041090561 0=false:=by decide
  have l2:less 0 9221120237041090561=false:=by decide
  rw [e1,e2]
  unfold beLo beHi
  rw [l1,l2]
  exact ⟨rfl,rfl,rfl⟩
theorem su_over {p q:Int} (hp:nn p) (hq:nn q) (pp:¬ rg p=9218868437227405312) (pq:¬ rg q=9218868437227405312) (hn:nn (suN p q)) (h:rg (suN p q)=9218868437227405312) :
    (0 < key (suN p q)->beLo (suN p q) (suL p q)=prev (suN p q)∧beHi (suN p q) (suL p q)=suN p q)∧(key (suN p q) < 0->beLo (suN p q) (suL p q)=suN p q∧beHi (suN p q) (suL p q)=next (suN p q)):=by
  obtain ⟨nx,ny,hxy,_⟩:=hl_nn hp hq
  have fx:¬ rg (hiM p q)=9218868437227405312:=by rcases hxy with ⟨e1,_⟩ | ⟨e1,_⟩ <;> rw [e1] <;> assumption
  have fy:¬ rg (loM p q)=9218868437227405312:=by rcases hxy with ⟨_,e1⟩ | ⟨_,e1⟩ <;> rw [e1] <;> assumption
  obtain ⟨n1,_⟩:=nn_neg nx
  obtain ⟨m1,k1⟩:=nn_neg hn
  have e1:fsum (suN p q) (neg (hiM p q))=suN p q:=by
    unfold fsum
    rw [if_neg (by rintro (c | c); exact hn.2 c; exact n1.2 c),if_pos h,if_neg (by rintro ⟨c,_⟩; rw [(su_neg nx).1] at c; exact fx c)]
  have e2:suL p q=neg (suN p q):=by
    unfold suL
    rw [e1]
    unfold fsum
    rw [if_neg (by rintro (c | c); exact ny.2 c; exact m1.2 c),if_neg fy,if_pos (by rw [(su_neg hn).1]; exact h)]
  have c0:¬ cls 0=4:=by decide
  have k0:key 0=0:=by decide
  have l1:less (suL p q) 0=decide (0 < key (suN p q)):=by
    rw [e2]; unfold less
    simp only [m1.2,c0,k0,k1,decide_false,Bool.not_false,Bool.true_and]
    exact decide_eq_decide.2 (by omega)
  have l2:less 0 (suL p q)=decide (key (suN p q) < 0):=by
    rw [e2]; unfold less
    simp only [m1.2,c0,k0,k1,decide_false,Bool.not_false,Bool.true_and]
    exact decide_eq_decide.2 (by omega)
  unfold beLo beHi
  rw [l1,l2]
  refine ⟨fun g=>?_,fun g=>?_⟩
  . rw [decide_eq_true g]; exact ⟨rfl,rfl⟩
  . rw [decide_eq_false (by omega),decide_eq_true g]; exact ⟨rfl,rfl⟩
def prLo (p q:Int):Int:=if rg p=0∨rg q=0 then 0 else if rg p=9218868437227405312∨rg q=9218868437227405312 then patS (xsg p q) 9218868437227405312 else rdP 1 (prV p q)
def prHi (p q:Int):Int:=if rg p=0∨rg q=0 then 0 else if rg p=9218868437227405312∨rg q=9218868437227405312 then patS (xsg p q) 9218868437227405312 else rdP 2 (prV p q)
theorem nn_rg {p:Int} (h:nn p):0 <= rg p∧rg p <= 9218868437227405312:=by
  have:=(FW.pat h.2 h.1).of h.2
  exact this.2.2
theorem rg_pat0 {p:Int} (h:nn p) (hf:rg p ≠ 9218868437227405312):pok p=true:=(pok_rg h.1).2 (by have:=nn_rg h; omega)
theorem patV_nz {p:Int} (h:rng p) (hp:pok p=true) (h0:rg p ≠ 0):patV p ≠ 0:=fun e=>by
  have hv:=patV_iV h hp
  have hi:iV p=0:=by
    rcases Int.mul_eq_zero.1 (hv.symm.trans e) with q | q
    . exact q
    . have:=pw_pos (-1074); omega
  have h5:=(rg_parts h).1
  unfold iV at hi
  have hV:(V Ieee.double (rg p).toNat:Int)=0:=by
    cases hd:decide (p < 0) <;> rw [hd] at hi
    . exact hi
    . have:-(V Ieee.double (rg p).toNat:Int)=0:=hi
      omega
  rcases Nat.eq_zero_or_pos (rg p).toNat with q | q
  . omega
  . have:=V_lt Ieee.double q
    omega
theorem prV_nz {p q:Int} (rp:rng p) (rq:rng q) (hp:pok p=true) (hq:pok q=true) (p0:rg p ≠ 0) (q0:rg q ≠ 0):prV p q ≠ 0:=fun e=>by
  obtain ⟨_,_,_,_,hC⟩:=prV_parts rp rq hp hq
  rw [e,Int.zero_mul] at hC
  rcases Int.mul_eq_zero.1 hC.symm with h | h
  . exact patV_nz rp hp p0 h
  . exact patV_nz rq hq q0 h
theorem fprod_fin {p q:Int} (rp:rng p) (rq:rng q) (hp:pok p=true) (hq:pok q=true) (h:prV p q ≠ 0):fprod p q=nearP (prV p q):=by
  have h1:=(pok_rg rp).1 hp
  have h2:=(pok_rg rq).1 hq
  have hz:fsize p q ≠ 0:=fun e=>h (by unfold prV; rw [e]; cases xsg p q <;> rfl)
  have n4:¬ (cls p=4∨cls q=4):=fun k=>by rcases k with k | k; exact pok_clsF rp hp k; exact pok_clsF rq hq k
  have i2:¬ (rg p=9218868437227405312∨rg q=9218868437227405312):=by omega
  unfold fprod
  rw [if_neg n4,if_neg i2,if_neg hz]
  rfl
theorem less_key {l:Int} (h:cls l ≠ 4):(less l 0=true ↔ key l < 0)∧(less 0 l=true ↔ 0 < key l):=by
  have c0:¬ cls 0=4:=by decide
  have k0:key 0=0:=by decide
  unfold less
  rw [k0]
  simp [h,c0]
theorem pr_fin {p q:Int} (rp:rng p) (rq:rng q) (hp:pok p=true) (hq:pok q=true) (p0:rg p ≠ 0) (q0:rg q ≠ 0) (hd:283726776524341248 <= rg (fprod p q)) :
    beLo (fprod p q) (ffma p q (neg (fprod p q)))=rdP 1 (prV p q)∧beHi (fprod p q) (ffma p q (neg (fprod p q)))=rdP 2 (prV p q):=by
  have hV:=prV_nz rp rq hp hq p0 q0
  have hN:=fprod_fin rp rq hp hq hV
  rw [hN] at hd ⊢
  obtain ⟨rn,cn⟩:=nearP_pat hV
  cases hf:pok (nearP (prV p q))
  . have hi:=dir_inf hV hf
    have hm:∀ r,rng r->rg r=9218868437227405312->cls r ≠ 4->ffma p q r=r:=fun r hr h1 h4=>by
      have h5:=(pok_rg rp).1 hp
      have h6:=(pok_rg rq).1 hq
      have n4:¬ (cls p=4∨cls q=4∨cls r=4):=fun k=>by rcases k with k | k | k; exact pok_clsF rp hp k; exact pok_clsF rq hq k; exact h4 k
      have i2:¬ (rg p=9218868437227405312∨rg q=9218868437227405312):=by omega
      unfold ffma
      rw [if_neg n4,if_neg i2,if_pos h1]
    rcases Int.lt_or_gt_of_ne hV with hn | hn
    . obtain ⟨e0,e1,e2⟩:=hi.2 hn
      rw [e0,e1,e2,show neg (-4503599627370496)=9218868437227405312 by decide,hm _ (by unfold rng; omega) (by decide) (by decide)]
      exact ⟨by decide,by decide⟩
    . obtain ⟨e0,e1,e2⟩:=hi.1 hn
      rw [e0,e1,e2,show neg 9218868437227405312=-4503599627370496 by decide,hm _ (by unfold rng; omega) (by decide) (by decide)]
      exact ⟨by decide,by decide⟩
  . obtain ⟨d1,d2,d3⟩:=dir_fin hV hf
    have e0:=rdP_near hV
    have hr:=(pok_rg rn).1 hf
    obtain ⟨S,hS,hF,hb⟩:=fused_any (way:=0) rp rq hp hq hV (by rw [e0]; exact hd) (.inr ⟨rfl,by rw [e0]; exact hr⟩)
    rw [e0] at hS
    generalize nearP (prV p q)=n at *
    obtain ⟨rm,pm,im⟩:=neg_facts rn hf
    have hfS:fmaS p q (neg n)=prV p q - patV n:=by
      rw [fmaS_pr,patV_opp rn hf]
      omega
    by_cases h0:prV p q - patV n=0
    . have hl:ffma p q (neg n)=patS (xsg p q && decide (neg n < 0)) 0:=fma_zero rp rq rm hp hq pm (hfS.trans h0)
      have h1:less (ffma p q (neg n)) 0=false:=by rw [hl]; cases (xsg p q && decide (neg n < 0)) <;> decide
      have h2:less 0 (ffma p q (neg n))=false:=by rw [hl]; cases (xsg p q && decide (neg n < 0)) <;> decide
      unfold beLo beHi
      rw [h1,h2]
      have:=d3 (by omega)
      exact ⟨this.1,this.2⟩
    . have hS0:S ≠ 0:=fun e=>h0 (by rw [hS,e,Int.zero_mul])
      obtain ⟨g1,g2,g3⟩:=near_exact hF hS0 hb
      have hl:ffma p q (neg n)=nearP (S * pw (-1074)):=by
        have h5:=(pok_rg rp).1 hp
        have h6:=(pok_rg rq).1 hq
        have h7:=(pok_rg rm).1 pm
        have n4:¬ (cls p=4∨cls q=4∨cls (neg n)=4):=fun k=>by rcases k with k | k | k; exact pok_clsF rp hp k; exact pok_clsF rq hq k; exact pok_clsF rm pm k
        have i2:¬ (rg p=9218868437227405312∨rg q=9218868437227405312):=by omega
        have i3:¬ rg (neg n)=9218868437227405312:=by omega
        unfold ffma
        rw [if_neg n4,if_neg i2,if_neg i3,hfS,if_neg h0,hS]
      rw [hl]
      generalize nearP (S * pw (-1074))=l at *
      obtain ⟨k1,k2⟩:=iV_key g1
      rw [g3] at k1 k2
      obtain ⟨l1,l2⟩:=less_key (pok_clsF g1 g2)
      have hq2:=pw_pos (-1074)
      unfold beLo beHi
      rcases Int.lt_or_gt_of_ne hS0 with hn | hn
      . have hD:prV p q - patV n < 0:=by rw [hS]; exact Int.mul_neg_of_neg_of_pos hn hq2
        rw [l1.2 (k1.1 hn)]
        clear hS hq2
        have:=d1 (by omega)
        exact ⟨this.1,this.2⟩
      . have hD:0 < prV p q - patV n:=by rw [hS]; exact Int.mul_pos hn hq2
        have hno:less l 0=false:=by
          cases h:less l 0
          . rfl
          . have:=k1.2 (l1.1 h); omega
        rw [hno,l2.2 (k2.1 hn)]
        clear hS hq2
        have:=d2 (by omega)
        exact ⟨this.1,this.2⟩
theorem pr_infE {p q:Int} (hp:nn p) (hq:nn q) (p0:rg p ≠ 0) (q0:rg q ≠ 0) (hi:rg p=9218868437227405312∨rg q=9218868437227405312) :
    fprod p q=patS (xsg p q) 9218868437227405312∧ffma p q (neg (fprod p q))=9221120237041090561:=by
  have n4:¬ (cls p=4∨cls q=4):=fun k=>by rcases k with k | k; exact hp.2 k; exact hq.2 k
  have i2:¬ (rg p=0∨rg q=0):=by omega
  have e:fprod p q=patS (xsg p q) 9218868437227405312:=by
    unfold fprod
    rw [if_neg n4,if_pos hi,if_neg i2]
  refine ⟨e,?_⟩
  rw [e]
  have hneg:neg (patS (xsg p q) 9218868437227405312)=patS (!xsg p q) 9218868437227405312:=by cases xsg p q <;> decide
  rw [hneg]
  have c4:¬ cls (patS (!xsg p q) 9218868437227405312)=4:=by cases xsg p q <;> decide
  have r4:rg (patS (!xsg p q) 9218868437227405312)=9218868437227405312:=by cases xsg p q <;> decide
  have s4:decide (patS (!xsg p q) 9218868437227405312 < 0)=!xsg p q:=by cases xsg p q <;> decide
  have n5:¬ (cls p=4∨cls q=4∨cls (patS (!xsg p q) 9218868437227405312)=4):=fun k=>by rcases k with k | k | k; exact hp.2 k; exact hq.2 k; exact c4 k
  have n6:rg (patS (!xsg p q) 9218868437227405312)=9218868437227405312∧¬ xsg p q=decide (patS (!xsg p q) 9218868437227405312 < 0):=⟨r4,by rw [s4]; cases xsg p q <;> decide⟩
  unfold ffma
  rw [if_neg n5,if_pos hi,if_neg i2,if_pos n6]
def cLo (V:Int):Int:=if V=0 then 0 else canon (rdP 1 V)
def cHi (V:Int):Int:=if V=0 then 0 else canon (rdP 2 V)
theorem canon_patS {g:Bool} {r:Int} (h0:0 <= r) (h1:r <= 9218868437227405312):canon (patS g r)=patS (g && decide (0 < r)) r:=by
  obtain ⟨a,b,c⟩:=patS_parts (ng:=g) h0 h1
  obtain ⟨d1,d2⟩:=cls_rg a
  rw [b] at d1 d2
  unfold canon
  have n4:¬ cls (patS g r)=4:=fun q=>by have:=d1.1 q; omega
  rw [if_neg n4]
  by_cases hr:r=0
  . rw [if_pos (d2.2 hr),hr]
    cases g <;> decide
  . rw [if_neg (fun q=>hr (d2.1 q)),decide_eq_true (show 0 < r by omega),Bool.and_true]
theorem c_rung {V:Int} (h0:V ≠ 0):∃ (g:Bool) (A:Int) (r0:Nat) (left:Int),V=sg g A∧0 < A∧Rung A r0 left∧cLo V=patS (g && decide (0 < rTo 1 g r0 left)) (rTo 1 g r0 left)∧cHi V=patS (g && decide (0 < rTo 2 g r0 left)) (rTo 2 g r0 left):=by
  obtain ⟨g,A,r0,left,e,hA,hR,_,e1,e2⟩:=dir_cases h0
  have r1:=rTo_range 1 g r0 left
  have r2:=rTo_range 2 g r0 left
  refine ⟨g,A,r0,left,e,hA,hR,?_,?_⟩
  . unfold cLo; rw [if_neg h0,e1,canon_patS r1.1 r1.2]
  . unfold cHi; rw [if_neg h0,e2,canon_patS r2.1 r2.2]
theorem around_c {V:Int} {ng:Bool} {f:Int->Int × Bool} (h:RdOf V ng f):(f 1).1=cLo V∧(f 2).1=cHi V:=by
  obtain ⟨A,r0,left,e,hng,hR,hf⟩:=h
  rw [hf 1,hf 2]
  by_cases h0:V=0
  . have hA:A=0:=by
      rw [h0] at e
      cases ng
      . exact e.symm
      . have:(0:Int)=-A:=e
        omega
    have hn:ng=false:=by
      cases ng
      . rfl
      . have:=hng rfl; omega
    subst hn
    rw [hA] at hR
    obtain ⟨u1,u2⟩:=hR.unique rung_zero
    subst u1 u2
    unfold cLo cHi
    rw [if_pos h0,if_pos h0]
    have t1:=rTo_zero 1
    have t2:=rTo_zero 2
    refine ⟨?_,?_⟩
    . simp only [t1]; rfl
    . simp only [t2]; rfl
  . obtain ⟨g,B,s0,l,e',hB,hR',c1,c2⟩:=c_rung h0
    have hA:0 < A:=by
      have hA0:0 <= A:=by
        have:=hR.lo
        have hv:0 <= vS r0:=Int.mul_nonneg (by omega) (Int.le_of_lt (pw_pos _))
        omega
      have:A ≠ 0:=fun q=>h0 (by rw [e,q]; cases ng <;> rfl)
      omega
    have s1:decide (V < 0)=ng:=by rw [e]; exact sg_lt hA
    have s2:decide (V < 0)=g:=by rw [e']; exact sg_lt hB
    have hg:ng=g:=s1.symm.trans s2
    subst hg
    have hAB:=sg_inj (e.symm.trans e')
    subst hAB
    obtain ⟨u1,u2⟩:=hR.unique hR'
    subst u1 u2
    exact ⟨c1.symm,c2.symm⟩
theorem prod_c {p q:Int} (rp:rng p) (rq:rng q) (hp:pok p=true) (hq:pok q=true):canon (prLo p q)=cLo (prV p q)∧canon (prHi p q)=cHi (prV p q):=by
  have h1:=(pok_rg rp).1 hp
  have h2:=(pok_rg rq).1 hq
  have i2:¬ (rg p=9218868437227405312∨rg q=9218868437227405312):=by omega
  by_cases h0:rg p=0∨rg q=0
  . have hz:prV p q=0:=by
      obtain ⟨_,_,_,_,hC⟩:=prV_parts rp rq hp hq
      have:patV p * patV q=0:=by
        rcases h0 with h | h
        . have:patV p=0:=by rw [patV_iV rp hp]; unfold iV; rw [h]; cases decide (p < 0) <;> exact Int.zero_mul _
          rw [this,Int.zero_mul]
        . have:patV q=0:=by rw [patV_iV rq hq]; unfold iV; rw [h]; cases decide (q < 0) <;> exact Int.zero_mul _
          rw [this,Int.mul_zero]
      rw [this] at hC
      rcases Int.mul_eq_zero.1 hC with k | k
      . exact k
      . exact absurd k (Int.ne_of_gt (two_pos 4194304))
    unfold prLo prHi cLo cHi
    rw [if_pos h0,if_pos h0,if_pos hz,if_pos hz]
    exact ⟨by decide,by decide⟩
  . have hz:=prV_nz rp rq hp hq (fun k=>h0 (.inl k)) (fun k=>h0 (.inr k))
    unfold prLo prHi cLo cHi
    rw [if_neg h0,if_neg h0,if_neg i2,if_neg i2,if_neg hz,if_neg hz]
    exact ⟨rfl,rfl⟩
theorem suN_near {p q:Int} (rp:rng p) (rq:rng q) (hp:pok p=true) (hq:pok q=true):suN p q=if patV p + patV q=0 then patS (decide (hiM p q < 0) && decide (loM p q < 0)) 0 else nearP (patV p + patV q):=by
  unfold suN hiM loM
  by_cases h:rg p < rg q
  . rw [if_pos h,if_pos h,fsum_eqn rq rp hq hp,Int.add_comm]
  . rw [if_neg h,if_neg h,fsum_eqn rp rq hp hq]
theorem sum_c {p q:Int} (rp:rng p) (rq:rng q) (hp:pok p=true) (hq:pok q=true):nn (suN p q)∧canon (beLo (suN p q) (suL p q))=cLo (patV p + patV q)∧canon (beHi (suN p q) (suL p q))=cHi (patV p + patV q):=by
  have hN:=suN_near rp rq hp hq
  have hVi:patV p + patV q=(iV p + iV q) * pw (-1074):=by rw [patV_iV rp hp,patV_iV rq hq,Int.add_mul]
  have hq0:=pw_pos (-1074)
  by_cases h0:patV p + patV q=0
  . rw [if_pos h0] at hN
    have hnn:nn (suN p q):=by rw [hN]; exact patS_nn (by decide) (by decide)
    have hz:iV p + iV q=0:=by
      rcases Int.mul_eq_zero.1 (hVi.symm.trans h0) with k | k
      . exact k
      . omega
    have hpok:pok (suN p q)=true:=by rw [hN]; cases (decide (hiM p q < 0) && decide (loM p q < 0)) <;> decide
    have hi0:iV (suN p q)=0:=by rw [hN]; cases (decide (hiM p q < 0) && decide (loM p q < 0)) <;> decide
    obtain ⟨_,_,hc⟩:=su_btw rp rq hp hq hpok hnn
    rw [hi0,hz] at hc
    refine ⟨hnn,?_⟩
    rcases hc with ⟨_,b1,b2⟩ | ⟨k,_⟩ | ⟨k,_⟩
    . rw [b1,b2]
      unfold cLo cHi
      rw [if_pos h0,if_pos h0,hN]
      exact ⟨by cases (decide (hiM p q < 0) && decide (loM p q < 0)) <;> decide,by cases (decide (hiM p q < 0) && decide (loM p q < 0)) <;> decide⟩
    . omega
    . omega
  . rw [if_neg h0] at hN
    obtain ⟨g1,g2⟩:=nearP_pat h0
    have hnn:nn (suN p q):=by rw [hN]; exact ⟨g1,g2⟩
    refine ⟨hnn,?_⟩
    unfold cLo cHi
    rw [if_neg h0,if_neg h0]
    cases hf:pok (nearP (patV p + patV q))
    . have hi:=dir_inf h0 hf
      have hr:rg (suN p q)=9218868437227405312:=by
        rw [hN]
        have k1:=nn_rg (show nn (nearP (patV p + patV q)) from ⟨g1,g2⟩)
        rcases Int.lt_or_le (rg (nearP (patV p + patV q))) 9218868437227405312 with k | k
        . rw [(pok_rg g1).2 k] at hf; cases hf
        . omega
      have h1:=(pok_rg rp).1 hp
      have h2:=(pok_rg rq).1 hq
      obtain ⟨o1,o2⟩:=su_over ⟨rp,pok_clsF rp hp⟩ ⟨rq,pok_clsF rq hq⟩ (by omega) (by omega) hnn hr
      rcases Int.lt_or_gt_of_ne h0 with k | k
      . obtain ⟨e0,e1,e2⟩:=hi.2 k
        obtain ⟨b1,b2⟩:=o2 (by rw [hN,e0]; decide)
        rw [b1,b2,hN,e0,e1,e2]
        exact ⟨by decide,by decide⟩
      . obtain ⟨e0,e1,e2⟩:=hi.1 k
        obtain ⟨b1,b2⟩:=o1 (by rw [hN,e0]; decide)
        rw [b1,b2,hN,e0,e1,e2]
        exact ⟨by decide,by decide⟩
    . obtain ⟨d1,d2,d3⟩:=dir_fin h0 hf
      rw [<- hN] at d1 d2 d3 hf
      obtain ⟨_,_,hc⟩:=su_btw rp rq hp hq hf hnn
      have hvn:=patV_iV hnn.1 hf
      rw [hvn,hVi] at d1 d2 d3
      rw [hVi]
      generalize pw (-1074)=w at *
      rcases hc with ⟨k,b1,b2⟩ | ⟨k,b1,b2⟩ | ⟨k,b1,b2⟩
      . rw [b1,b2]
        obtain ⟨f1,f2⟩:=d3 (by rw [k])
        rw [<- f1,<- f2]
        exact ⟨rfl,rfl⟩
      . rw [b1,b2]
        obtain ⟨f1,f2⟩:=d1 (Int.mul_lt_mul_of_pos_right k hq0)
        rw [<- f1,<- f2]
        exact ⟨rfl,rfl⟩
      . rw [b1,b2]
        obtain ⟨f1,f2⟩:=d2 (Int.mul_lt_mul_of_pos_right k hq0)
        rw [<- f1,<- f2]
        exact ⟨rfl,rfl⟩
theorem rung_at (r:Nat):Rung (vS r) r 0:=by
  have h:=vS_lt (show r < r + 1 by omega)
  refine ⟨Int.le_refl _,h,⟨fun _=>rfl,fun _=>rfl⟩,⟨fun q=>by omega,fun q=>by omega⟩,⟨fun q=>by omega,fun q=>by omega⟩,⟨fun q=>by omega,fun q=>by omega⟩⟩
theorem rTo_at (way:Int) (g:Bool) {r:Nat} (h:(r:Int) < 9218868437227405312):rTo way g r 0=(r:Int):=by
  rw [rTo_low way h,(rUp_dn (decide (r % 2=1)) 0).2.2.2.2 way g rfl]
  simp
theorem c_at {g:Bool} {r:Nat} (h:(r:Int) < 9218868437227405312) (h0:0 < r):cLo (sg g (vS r))=patS g (r:Int)∧cHi (sg g (vS r))=patS g (r:Int):=by
  have hp:0 < vS r:=by
    have:=vS_lt h0
    have hz:vS 0=0:=by unfold vS; rw [V_zero]; exact Int.zero_mul _
    omega
  have hn:sg g (vS r) ≠ 0:=fun q=>by
    generalize vS r=y at *
    cases g
    . rw [sgFF] at q; omega
    . rw [sgTT] at q; omega
  obtain ⟨g',A,r0,left,e,hA,hR,c1,c2⟩:=c_rung hn
  have s1:decide (sg g (vS r) < 0)=g:=sg_lt hp
  have s2:decide (sg g (vS r) < 0)=g':=by rw [e]; exact sg_lt hA
  have hg:g=g':=s1.symm.trans s2
  subst hg
  have hAB:=sg_inj e
  rw [<- hAB] at hR
  obtain ⟨u1,u2⟩:=hR.unique (rung_at r)
  subst u1 u2
  rw [c1,c2,rTo_at 1 g h,rTo_at 2 g h,decide_eq_true (show (0:Int) < (r0:Int) by omega),Bool.and_true]
  exact ⟨rfl,rfl⟩
end Go.Proofs.YtfgapefckpnjjaaGreatDoor
namespace Go.Proofs.YtfgapefckpnjjaaGreatDoor
open Go Go.RowKit Go.Proofs.YtfgapefckpnjjaaGreatDoor.M Ieee
theorem ext_fma (x y z:Nat):∃ a b,Extern.MathFMA.fma #[.float .f64 x,.float .f64 y,.float .f64 z]=Option.casesOn (motive:=fun _=>Sem Value) (FloatKind.f64.format.fma x y z) (do pure (.float .f64 (<- choose (.nanBits .f64 a b)))) (fun r=>pure (.float .f64 r)):=by
  cases h1:Extern.MathFMA.isNaN x with
  | true=>exact ⟨x,y,by
      have:Extern.MathFMA.fma #[.float .f64 x,.float .f64 y,.float .f64 z]=Option.casesOn (motive:=fun _=>Sem Value) (FloatKind.f64.format.fma x y z) (match (if Extern.MathFMA.isNaN x then (x,y) else if Extern.MathFMA.isNaN y then (y,z) else (z,z)) with | (a,b)=>do pure (.float .f64 (<- choose (.nanBits .f64 a b)))) (fun r=>pure (.float .f64 r)):=by kernel_rfl
      rw [this,h1]; rfl⟩
  | false=>
    cases h2:Extern.MathFMA.isNaN y with
    | true=>exact ⟨y,z,by
        have:Extern.MathFMA.fma #[.float .f64 x,.float .f64 y,.float .f64 z]=Option.casesOn (motive:=fun _=>Sem Value) (FloatKind.f64.format.fma x y z) (match (if Extern.MathFMA.isNaN x then (x,y) else if Extern.MathFMA.isNaN y then (y,z) else (z,z)) with | (a,b)=>do pure (.float .f64 (<- choose (.nanBits .f64 a b)))) (fun r=>pure (.float .f64 r)):=by kernel_rfl
        rw [this,h1,h2]; rfl⟩
    | false=>exact ⟨z,z,by
        have:Extern.MathFMA.fma #[.float .f64 x,.float .f64 y,.float .f64 z]=Option.casesOn (motive:=fun _=>Sem Value) (FloatKind.f64.format.fma x y z) (match (if Extern.MathFMA.isNaN x then (x,y) else if Extern.MathFMA.isNaN y then (y,z) else (z,z)) with | (a,b)=>do pure (.float .f64 (<- choose (.nanBits .f64 a b)))) (fun r=>pure (.float .f64 r)):=by kernel_rfl
        rw [this,h1,h2]; rfl⟩
theorem run_ffma {p q r:Int} {x y z:Nat} (hx:FW p x) (hy:FW q y) (hz:FW r z) (w:World) :
    ∃ t w',(callFunc 87 #[.float .f64 x,.float .f64 y,.float .f64 z]).run Tryz.prog w=.ok (.value (.float .f64 t)) w'∧FW (ffma p q r) t∧(w'=w∨w'=w.drew):=by
  rw [run_callFunc_extern Tryz.func87 (by kernel_rfl) (by kernel_rfl) (by kernel_rfl) (e:=Extern.MathFMA.fma) (by kernel_rfl)]
  obtain ⟨a,b,hab⟩:=ext_fma x y z
  rw [hab]
  rcases fma_FW hx hy hz with ⟨t,e1,e2⟩ | ⟨e1,e2⟩
  . refine ⟨t,w,?_,e2,.inl rfl⟩
    have e1':FloatKind.f64.format.fma x y z=some t:=e1
    rw [e1']
    simp
  . have e1':FloatKind.f64.format.fma x y z=none:=e1
    rw [e1']
    refine ⟨(Question.nanBits .f64 a b).cut (w.tape w.drawn (.nanBits .f64 a b)),w.drew,?_,?_,.inr rfl⟩
    . simp
      exact fun hf=>absurd (show false=true from hf) (by decide)
    . rw [e2]
      exact FW.nan (nan_cut a b (w.tape w.drawn (.nanBits .f64 a b)))
end Go.Proofs.YtfgapefckpnjjaaGreatDoor
namespace Go.Proofs.YtfgapefckpnjjaaGreatDoor
open Go Go.RowKit Go.Proofs.YtfgapefckpnjjaaGreatDoor.M
def BlkN (w:World) (g N k:Nat) (q:Nat->NumR):Prop :=
  ∃ cur:Array Value,w.heap[g]?=some (.cells cur 26 (0,0))∧cur.size=N * 3∧∀ i,i < k->(cur[i * 3]?=some (.bool (q i).ng)∧cur[i * 3 + 1]?=some (.slice (q i).ao (q i).n (q i).cap)∧cur[i * 3 + 2]?=some (.int .i64 (q i).e))∧Row w (q i).ao (q i).n (q i).cap (q i).d
theorem info_num:∃ i,Tryz.prog.info? 26=some i∧i.zero=some (.agg #[.bool false,.slice none 0 0,.int .i64 0])∧i.size=3∧i.bytes=40:=by
  have h:(Tryz.prog.info? 26).map (fun i=>(i.zero,i.size,i.bytes))=some (some (.agg #[.bool false,.slice none 0 0,.int .i64 0]),3,40):=by kernel_rfl
  obtain ⟨i,hi,hzz⟩:=Option.map_eq_some_iff.1 h
  simp only [Prod.mk.injEq] at hzz
  exact ⟨i,hi,hzz⟩
theorem make_nums (n:Nat) (hn:n <= 100000) (w:World) :
    (Instr.makeSlice 121 (.int .i64 (n:Int)) (.int .i64 (n:Int))).run Tryz.prog w=.ok (.slice (some ⟨w.heap.size,0,none⟩) n n) (w.alloc (.cells (madeCells #[.bool false,.slice none 0 0,.int .i64 0] (n * 3)) 26)):=by
  obtain ⟨i,hi,hz,hs,hb⟩:=info_num
  have:=run_make (P:=Tryz.prog) w 121 26 i _ Tryz.underlying121 hi hz .i64 .i64 n n (by omega) (Int.le_refl _) (by rw [hb]; omega) (by omega)
  simp only [Int.toNat_natCast,hs] at this
  exact this
def updN (q:Nat->NumR) (k:Nat) (x:NumR):Nat->NumR:=fun j=>if j=k then x else q j
theorem updN_same (q:Nat->NumR) (k:Nat) (x:NumR):updN q k x k=x:=by simp [updN]
theorem updN_other (q:Nat->NumR) {k j:Nat} (x:NumR) (h:j ≠ k):updN q k x j=q j:=by simp [updN,h]
theorem wr3 (W:World) (g o0 o1 o2:Nat) (x y z:Value):Wr g W (((W.setCell ⟨g,o0,none⟩ x).setCell ⟨g,o1,none⟩ y).setCell ⟨g,o2,none⟩ z):=(((Wr.refl g W).setCell o0 x).setCell o1 y).setCell o2 z
theorem Row.wrN {w w':World} {g:Nat} {ao:Option Addr} {n cap:Nat} {d:Nat->Int} (h:Row w ao n cap d) (hw:Wr g w w') {cur:Array Value} {z:Nat × Nat} (hg:w.heap[g]?=some (.cells cur 26 z)) (ht:∀ b off,ao=some ⟨b,off,none⟩->0 < n->b ≠ g):Row w' ao n cap d :=
  ⟨h.le,h.max,h.nl,fun hn=>by
    obtain ⟨b,off,rfl,hlt,hc⟩:=h.spot hn
    exact ⟨b,off,rfl,Nat.lt_of_lt_of_le hlt hw.size,fun i hi=>(hw.cell (p:=⟨b,off + i,none⟩) hlt (ht b off rfl hn)).trans (hc i hi)⟩⟩
theorem Ans.open {w w':World} {V:Int} {so:Option Addr} {sn sc:Nat} (h:Ans w w' V (.slice so sn sc)):∃ d,Row w' so sn sc d∧Nrm d sn∧val d sn=V∧∀ b off,so=some ⟨b,off,none⟩->w.heap.size <= b:=by
  obtain ⟨t,d,hO,hN,hV,_⟩:=h
  have hge:=own_ge hO
  obtain ⟨so',sc',e,hR⟩:=hO.row
  simp only [Value.slice.injEq] at e
  obtain ⟨rfl,rfl,rfl⟩:=e
  exact ⟨d,hR,hN,hV,fun b off hb=>hge b (by rw [hb]; rfl)⟩
theorem bel_set3' {w0 w:World} {g o0 o1 o2:Nat} (h:Below w0.heap.size w0 w) (hg:w0.heap.size <= g) (x y z:Value):Below w0.heap.size w0 (((w.setCell ⟨g,o0,none⟩ x).setCell ⟨g,o1,none⟩ y).setCell ⟨g,o2,none⟩ z):=((h.setCell (p:=⟨g,o0,none⟩) hg x).setCell (p:=⟨g,o1,none⟩) hg y).setCell (p:=⟨g,o2,none⟩) hg z
theorem set3_get {cur:Array Value} {k:Nat} {x y z:Value} (h:k * 3 + 2 < cur.size) (i:Nat) :
    let c:=((cur.setIfInBounds (k * 3) x).setIfInBounds (k * 3 + 1) y).setIfInBounds (k * 3 + 2) z
    (i=k->c[i * 3]?=some x∧c[i * 3 + 1]?=some y∧c[i * 3 + 2]?=some z)∧(i ≠ k->c[i * 3]?=cur[i * 3]?∧c[i * 3 + 1]?=cur[i * 3 + 1]?∧c[i * 3 + 2]?=cur[i * 3 + 2]?):=by
  intro c
  refine ⟨fun e=>?_,fun e=>?_⟩
  . subst e
    refine ⟨?_,?_,?_⟩
    . show (((cur.setIfInBounds (i * 3) x).setIfInBounds (i * 3 + 1) y).setIfInBounds (i * 3 + 2) z)[i * 3]?=some x
      rw [Array.getElem?_setIfInBounds_ne (by omega),Array.getElem?_setIfInBounds_ne (by omega),Array.getElem?_setIfInBounds_self_of_lt (by omega)]
    . show (((cur.setIfInBounds (i * 3) x).setIfInBounds (i * 3 + 1) y).setIfInBounds (i * 3 + 2) z)[i * 3 + 1]?=some y
      rw [Array.getElem?_setIfInBounds_ne (by omega),Array.getElem?_setIfInBounds_self_of_lt (by simp; omega)]
    . show (((cur.setIfInBounds (i * 3) x).setIfInBounds (i * 3 + 1) y).setIfInBounds (i * 3 + 2) z)[i * 3 + 2]?=some z
      rw [Array.getElem?_setIfInBounds_self_of_lt (by simp; omega)]
  . refine ⟨?_,?_,?_⟩
    all_goals
      show (((cur.setIfInBounds (k * 3) x).setIfInBounds (k * 3 + 1) y).setIfInBounds (k * 3 + 2) z)[_]?=_
      rw [Array.getElem?_setIfInBounds_ne (by omega),Array.getElem?_setIfInBounds_ne (by omega),Array.getElem?_setIfInBounds_ne (by omega)]
theorem BlkN.step {wr w3:World} {g N k:Nat} {q:Nat->NumR} (h:BlkN wr g N k q) (hb:Below wr.heap.size wr w3) (x:NumR) (hx:Row w3 x.ao x.n x.cap x.d) (hk:k < N) (hg:∀ i b' off,i < k->(q i).ao=some ⟨b',off,none⟩->0 < (q i).n->g < b') (hg2:∀ b' off,x.ao=some ⟨b',off,none⟩->0 < x.n->g < b') :
    BlkN (((w3.setCell ⟨g,k * 3,none⟩ (.bool x.ng)).setCell ⟨g,k * 3 + 1,none⟩ (.slice x.ao x.n x.cap)).setCell ⟨g,k * 3 + 2,none⟩ (.int .i64 x.e)) g N (k + 1) (updN q k x):=by
  obtain ⟨cur,hcur,hsz,hc⟩:=h
  have q0:=(hb.block g (Array.getElem?_eq_some_iff.1 hcur).1).trans hcur
  have q1:=heap_set (heap_set (heap_set q0 (k * 3) (.bool x.ng)) (k * 3 + 1) (.slice x.ao x.n x.cap)) (k * 3 + 2) (.int .i64 x.e)
  have hw:=wr3 w3 g (k * 3) (k * 3 + 1) (k * 3 + 2) (.bool x.ng) (.slice x.ao x.n x.cap) (.int .i64 x.e)
  refine ⟨_,q1,by simp [hsz],fun i hi=>?_⟩
  have hs:=set3_get (cur:=cur) (k:=k) (x:=.bool x.ng) (y:=.slice x.ao x.n x.cap) (z:=.int .i64 x.e) (by omega) i
  by_cases e:i=k
  . subst e
    rw [updN_same]
    exact ⟨hs.1 rfl,hx.wrN hw q0 fun b' off he hn=>by have:=hg2 b' off he hn; omega⟩
  . rw [updN_other q x e]
    obtain ⟨s0,s1,s2⟩:=hs.2 e
    obtain ⟨⟨c0,c1,c2⟩,hR⟩:=hc i (by omega)
    refine ⟨⟨s0.trans c0,s1.trans c1,s2.trans c2⟩,(hR.keeps hb).wrN hw q0 fun b' off he hn=>?_⟩
    have:=hg i b' off (by omega) he hn
    omega
theorem BlkN.nums {w:World} {g N:Nat} {q:Nat->NumR} (h:BlkN w g N N q) (hN:N <= 100000):Nums w (some ⟨g,0,none⟩) N N q:=by
  obtain ⟨cur,hcur,hsz,hc⟩:=h
  refine ⟨Nat.le_refl _,by omega,fun _=>⟨g,0,rfl,(Array.getElem?_eq_some_iff.1 hcur).1,fun i hi=>?_⟩⟩
  obtain ⟨⟨c0,c1,c2⟩,hR⟩:=hc i hi
  rw [Nat.zero_add]
  exact ⟨blkC hcur _ c0,blkC hcur _ c1,blkC hcur _ c2,hR⟩
set_option maxRecDepth 100000 in
set_option maxHeartbeats 2000000 in
theorem values_ok (F G:Nat) (oo:Option Addr) (n cap:Nat) (d V:Nat->Int) (w:World) (hR:Row w oo n cap d) (hn:n <= 100000)
    (hEF:∀ (cap:Array Value) (w:World),(callFunc F cap).run Tryz.prog w=.ok (.enter F cap) w)
    (C:∀ i,i < n->∀ W,Below w.heap.size w W->Calls Tryz.prog F #[.int .i64 (d i)] W fun r w'=>∃ v,r=.returned (.tuple #[v,.int .i64 0])∧DAns W w' (V i) v) :
    Calls Tryz.prog 142 #[.agg #[.func (.func F) #[] #[],.func (.func G) #[] #[]],.slice oo n cap] w fun x w'=>∃ g q,x=.returned (.tuple #[.slice (some ⟨g,0,none⟩) n n,.bool true])∧w.heap.size <= g∧Nums w' (some ⟨g,0,none⟩) n n q∧Below w.heap.size w w'∧∀ i,i < n->Nrm (q i).d (q i).n∧Dy (V i) (q i).ng (val (q i).d (q i).n) (q i).e:=by
  have hle:=hR.le
  have hma:=hR.max
  have hmake:=make_nums n hn
  have hst:∀ (p:Addr) (F:Nat) (m:Mode) (w:World),(store p (.func (.func F) #[] #[]) m).run Tryz.prog w=stored Tryz.prog w p (.func (.func F) #[] #[]) m:=fun p F m w=>run_store _ w p _ m rfl
  have ha1:=bel_alloc w (.cells #[.func (.func F) #[] #[],.func (.func G) #[] #[]] 157)
  have q1:=heap_alloc_new w (.cells #[.func (.func F) #[] #[],.func (.func G) #[] #[]] 157)
  have k0:=blkC q1 0 rfl
  have k1:=blkC q1 1 rfl
  go_enter Tryz.func142,Tryz.ntmps142
  go_wp2_with fail
  have hb0:=bel_alloc2 w (.cells #[.func (.func F) #[] #[],.func (.func G) #[] #[]] 157) (.cells (madeCells #[.bool false,.slice none 0 0,.int .i64 0] (n * 3)) 26)
  have g1:=heap_b2 w (.cells #[.func (.func F) #[] #[],.func (.func G) #[] #[]] 157) (.cells (madeCells #[.bool false,.slice none 0 0,.int .i64 0] (n * 3)) 26)
  have g0:=heap_a2 w (.cells #[.func (.func F) #[] #[],.func (.func G) #[] #[]] 157) (.cells (madeCells #[.bool false,.slice none 0 0,.int .i64 0] (n * 3)) 26)
  have HB0:Hid (BlkN ((w.alloc (.cells #[.func (.func F) #[] #[],.func (.func G) #[] #[]] 157)).alloc (.cells (madeCells #[.bool false,.slice none 0 0,.int .i64 0] (n * 3)) 26)) (w.heap.size + 1) n 0 (fun _=>⟨false,none,0,0,fun _=>0,0⟩)):=⟨_,g1,by rw [size_madeCells],fun i hi=>by omega⟩
  clear g1 hmake q1 k0 k1 ha1
  generalize (w.alloc (.cells #[.func (.func F) #[] #[],.func (.func G) #[] #[]] 157)).alloc (.cells (madeCells #[.bool false,.slice none 0 0,.int .i64 0] (n * 3)) 26)=wx at hb0 HB0 g0 ⊢
  go_loopw [16] (fun iv wr=>∃ (k:Nat) (q:Nat->NumR),k <= n∧iv=.int .i64 k∧Hid (BlkN wr (w.heap.size + 1) n k q)∧Hid (∀ i,i < k->Nrm (q i).d (q i).n∧Dy (V i) (q i).ng (val (q i).d (q i).n) (q i).e)∧Hid (∀ i b' off,i < k->(q i).ao=some ⟨b',off,none⟩->0 < (q i).n->w.heap.size + 1 < b')∧Hid (wr.heap[w.heap.size]?=some (.cells #[.func (.func F) #[] #[],.func (.func G) #[] #[]] 157 (0,0)))∧Below w.heap.size w wr) (fun iv _=>n - (intOf iv).toNat)
  case atStart=>exact ⟨0,_,Nat.zero_le _,rfl,HB0,fun i hi=>by omega,fun i b' off hi=>by omega,g0,hb0⟩
  case round=>
    obtain ⟨k,q,hk,rfl,HQ,HF,HG,HK,hbw⟩:=hrel
    clear HB0 hb0 g0
    by_cases hlt:k < n
    . obtain ⟨ba,oa,rfl,hba,hca⟩:=hR.spot (by omega)
      have c0:=(hbw.cell (p:=⟨ba,oa + k,none⟩) hba).trans (hca k hlt)
      have CF:=C k hlt
      have kf:=blkC HK.out 0 rfl
      obtain ⟨cur,hcur,hsz,hcells⟩:=HQ.out
      have e0:k * 3 < cur.size:=by omega
      have e1:k * 3 + 1 < cur.size:=by omega
      have e2:k * 3 + 2 < cur.size:=by omega
      obtain ⟨v0,hv0⟩:∃ v,cur[k * 3]?=some v:=⟨_,Array.getElem?_eq_getElem e0⟩
      obtain ⟨v1,hv1⟩:∃ v,cur[k * 3 + 1]?=some v:=⟨_,Array.getElem?_eq_getElem e1⟩
      obtain ⟨v2,hv2⟩:∃ v,cur[k * 3 + 2]?=some v:=⟨_,Array.getElem?_eq_getElem e2⟩
      have HV:Hid (cur[k * 3]?=some v0∧cur[k * 3 + 1]?=some v1∧cur[k * 3 + 2]?=some v2):=⟨hv0,hv1,hv2⟩
      have HCUR:Hid (wr.heap[w.heap.size + 1]?=some (.cells cur 26 (0,0))):=hcur
      have hgs:w.heap.size + 1 < wr.heap.size:=(Array.getElem?_eq_some_iff.1 hcur).1
      clear hcells hv0 hv1 hv2 hcur hsz e0 e1 e2 hca C
      have i0:(0:Int) <= (k:Int):=by omega
      have i1:(k:Int) < (n:Int):=by omega
      generalize d k=x at *
      go_wp2_with fail
      refine (CF _ hbw).mono ?_
      rintro _ w3 ⟨v,rfl,hD⟩
      have hb3:=hD.below
      have HD:Hid (DAns wr w3 (V k) v):=hD
      obtain ⟨g,s0,m0,e,rfl,_,hA0⟩:=id hD
      obtain ⟨so,sn,sc,rfl⟩:=hA0.num.shape
      clear hD CF hA0
      have hb4:=bel_trans hb3 (bel_alloc w3 (.cells #[.bool g,.slice so sn sc,.int .i64 e] 26))
      have q0:=(hb4.block (w.heap.size + 1) hgs).trans HCUR.out
      have HK4:Hid ((w3.alloc (.cells #[.bool g,.slice so sn sc,.int .i64 e] 26)).heap[w.heap.size]?=some (.cells #[.func (.func F) #[] #[],.func (.func G) #[] #[]] 157 (0,0))):=(hb4.block _ (Array.getElem?_eq_some_iff.1 HK.out).1).trans HK.out
      have qx:=heap_a1 w3 (.cells #[.bool g,.slice so sn sc,.int .i64 e] 26)
      have t0:=blkC qx 0 rfl
      have t1:=blkC qx 1 rfl
      have t2:=blkC qx 2 rfl
      have x0:=blkC q0 (k * 3) HV.out.1
      have x1:=blkC q0 (k * 3 + 1) HV.out.2.1
      have x2:=blkC q0 (k * 3 + 2) HV.out.2.2
      have f0:=blkF q0 (k * 3)
      have f1:=blkF q0 (k * 3 + 1)
      have f2:=blkF q0 (k * 3 + 2)
      have hn1:w.heap.size + 1 ≠ w.heap.size:=by omega
      clear q0 qx kf
      go_wp2
      all_goals
        go_roundw
        case rel=>
          obtain ⟨ng,s,m,e',h1,hyy,hA⟩:=HD.out
          simp only [Value.agg.injEq,Array.mk.injEq,List.cons.injEq,Value.bool.injEq,Value.int.injEq,true_and,and_true] at h1
          obtain ⟨rfl,rfl,rfl⟩:=h1
          obtain ⟨dd,hRd,hNd,hVd,hgd⟩:=hA.open
          have hgs2:∀ b' off,so=some ⟨b',off,none⟩->0 < sn->w.heap.size + 1 < b':=fun b' off he _=>by
            have h9:=hgd b' off he
            omega
          refine ⟨k + 1,updN q k ⟨g,so,sn,sc,dd,e⟩,by omega,by go_num,BlkN.step (x:=⟨g,so,sn,sc,dd,e⟩) HQ.out hb4 (hRd.keeps (bel_alloc _ _)) hlt HG.out hgs2,fun i hi=>?_,fun i b' off hi he hn'=>?_,?_,bel_set3' (bel_trans hbw hb4) (by omega) _ _ _⟩
          . by_cases ei:i=k
            . subst ei
              rw [updN_same]
              exact ⟨hNd,by rw [hVd]; exact hyy⟩
            . rw [updN_other _ _ ei]
              exact HF.out i (by omega)
          . by_cases ei:i=k
            . subst ei
              rw [updN_same] at he hn'
              exact hgs2 b' off he hn'
            . rw [updN_other _ _ ei] at he hn'
              exact HG.out i b' off (by omega) he hn'
          . show _=_
            rw [heap_setCell_other _ ⟨w.heap.size + 1,_,none⟩ w.heap.size _ (Ne.symm hn1),heap_setCell_other _ ⟨w.heap.size + 1,_,none⟩ w.heap.size _ (Ne.symm hn1),heap_setCell_other _ ⟨w.heap.size + 1,_,none⟩ w.heap.size _ (Ne.symm hn1)]
            exact HK4.out
        case measure=>simp [intOf]; omega
    . obtain rfl:k=n:=by omega
      go_wp2
      all_goals refine bodyPost_ret (v:=.tuple #[.slice (some ⟨w.heap.size + 1,0,none⟩) k k,.bool true]) (by simp [results,Tryz.results142,go_sem]) rfl ⟨_,q,rfl,by omega,HQ.out.nums hn,hbw,HF.out⟩
end Go.Proofs.YtfgapefckpnjjaaGreatDoor
