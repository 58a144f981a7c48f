/- Parts of the proof. -/
import Derived.Test.YtijiabajfgnaoaaGreatDoorPart6
import Derived.ArgAppend
set_option linter.unusedVariables false
set_option linter.unusedSimpArgs false
namespace Go.Proofs.YtijiabajfgnaoaaGreatDoor
open Go Go.RowKit Go.Proofs.YtijiabajfgnaoaaGreatDoor.M
structure Ls where
  n:Nat
  d:Nat->Int
def Ls.add (s:Ls) (b:Int):Ls:=if rg b=0 then s else ⟨s.n + 1,upd s.d s.n b⟩
theorem Ls.add_le (s:Ls) (b:Int):s.n <= (s.add b).n∧(s.add b).n <= s.n + 1:=by
  unfold Ls.add
  split
  . exact ⟨Nat.le_refl _,Nat.le_succ _⟩
  . exact ⟨Nat.le_succ _,Nat.le_refl _⟩
def Ls.same (s t:Ls):Prop:=s.n=t.n∧∀ i,i < s.n->s.d i=t.d i
theorem Ls.same.add {s t:Ls} (h:s.same t) (b:Int):(s.add b).same (t.add b):=by
  unfold Ls.add
  split
  . exact h
  . refine ⟨by show s.n + 1=t.n + 1; rw [h.1],fun i hi=>?_⟩
    show upd s.d s.n b i=upd t.d t.n b i
    by_cases e:i=s.n
    . subst e; rw [upd_same,h.1,upd_same]
    . rw [upd_other _ _ e,upd_other _ _ (by rw [<- h.1]; exact e)]
      exact h.2 i (by have:i < s.n + 1:=hi; omega)
def gq (d:Nat->Int) (q:Int):Nat->Int
  | 0=>q
  | k + 1=>fsum (gq d q k) (d k)
def gl (d:Nat->Int) (q:Int) (k:Nat):Int:=sL (gq d q k) (d k)
def gs (d:Nat->Int) (q:Int):Nat->Ls
  | 0=>⟨0,d⟩
  | k + 1=>(gs d q k).add (gl d q k)
def gx (d:Nat->Int) (q:Int):Nat->Bool
  | 0=>true
  | k + 1=>gx d q k && pok (gl d q k)
def grw (n:Nat) (d:Nat->Int) (q:Int):Ls:=(gs d q n).add (gq d q n)
theorem gs_le (d:Nat->Int) (q:Int):∀ k,(gs d q k).n <= k
  | 0=>Nat.le_refl _
  | k + 1=>by
    have h1:=gs_le d q k
    have h2:=((gs d q k).add_le (gl d q k)).2
    show ((gs d q k).add _).n <= k + 1
    omega
theorem gs_tail (d:Nat->Int) (q:Int):∀ k i,k <= i->(gs d q k).d i=d i
  | 0,i,_=>rfl
  | k + 1,i,h=>by
    have h1:=gs_le d q k
    show ((gs d q k).add _).d i=d i
    unfold Ls.add
    split
    . exact gs_tail d q k i (by omega)
    . show upd _ _ _ i=d i
      rw [upd_other _ _ (by omega)]
      exact gs_tail d q k i (by omega)
theorem gx_mono {d:Nat->Int} {q:Int}:∀ {k j},j <= k->gx d q k=true->gx d q j=true
  | 0,j,h,hx=>by
    obtain rfl:j=0:=by omega
    rfl
  | k + 1,j,h,hx=>by
    by_cases e:j=k + 1
    . subst e; exact hx
    . have:(gx d q k && pok (gl d q k))=true:=hx
      rw [Bool.and_eq_true] at this
      exact gx_mono (by omega) this.1
theorem gq_fin {d:Nat->Int} {q:Int} {n:Nat} (hd:∀ i,i < n->rng (d i)∧pok (d i)=true) (hq:rng q) (pq:pok q=true):∀ k,k <= n->gx d q k=true->rng (gq d q k)∧pok (gq d q k)=true
  | 0,_,_=>⟨hq,pq⟩
  | k + 1,hk,hx=>by
    have hx':(gx d q k && pok (gl d q k))=true:=hx
    rw [Bool.and_eq_true] at hx'
    obtain ⟨r1,r2⟩:=gq_fin hd hq pq k (by omega) hx'.1
    obtain ⟨d1,d2⟩:=hd k (by omega)
    exact ⟨fsum_rng r1 d1,(sL_exact r1 d1 hx'.2).2.1⟩
theorem nought_order {b:Int} (hb:rng b):(FloatKind.f64.format.order (wd b) 0 == some .eq)=decide (rg b=0):=by
  have h:=same_order hb (show rng 0 by unfold rng; omega)
  rw [show wd 0=0 by decide] at h
  rw [h]
  unfold same
  have hk:key 0=0:=by decide
  have c0:¬ cls 0=4:=by decide
  by_cases h4:cls b=4
  . have:rg b ≠ 0:=fun e=>by
      have:=q_cls hb
      rw [e] at this
      rw [<- this] at h4
      exact c0 h4
    simp [h4,this]
  . have e:(key b=key 0) ↔ rg b=0:=by
      rw [hk]
      unfold rng at hb
      unfold key rg
      split <;> omega
    by_cases hz:rg b=0
    . simp [h4,c0,hz,e.2 hz]
    . have:¬ key b=key 0:=fun q=>hz (e.1 q)
      simp [h4,c0,hz,this]
def gaveX:Ending:=.panicked [{ v:=.iface 30 (.int .i64 14),recovered:=false }]
theorem xnought {b:Int} (hb:rng b) (w:World) :
    Calls Tryz.prog 30 #[.int .i64 b] w fun e w'=>e=.returned (.bool (decide (rg b=0)))∧w'=w:=by
  have ho:=nought_order hb
  generalize decide (rg b=0)=Z at *
  go_enter Tryz.func30,Tryz.ntmps30
  go_wp2_with (go_at_call 51; refine (bitsFloat _ _).mono ?_; rintro _ _ ⟨rfl,rfl⟩)
  go_ret
  exact ⟨b_ret_bool (by first | rfl | simp [ho]),rfl⟩
theorem xsure_yes (h l:Int) (w:World) :
    Calls Tryz.prog 56 #[.int .i64 h,.int .i64 l,.bool true] w fun e w'=>e=.returned (.tuple #[.int .i64 h,.int .i64 l])∧w'=w:=by
  go_enter Tryz.func56,Tryz.ntmps56
  go_wp2
  refine bodyPost_ret (v:=.tuple #[.int .i64 h,.int .i64 l]) (by simp [results,Tryz.results56,go_sem]) rfl ⟨rfl,rfl⟩
theorem xsure_no (h l:Int) (w:World) :
    Calls Tryz.prog 56 #[.int .i64 h,.int .i64 l,.bool false] w fun e w'=>e=gaveX∧w'=w:=by
  go_enter Tryz.func56,Tryz.ntmps56
  go_wp2
  exact ⟨rfl,rfl,rfl⟩
structure Own (B:Nat) (w:World) (v:Value) (w':World) (v':Value) (s:Ls):Prop where
  out:Out B w' v' s.n s.d
  gr:w.grownBy w' v.ownBlock
  at':v'.ownBlock=v.ownBlock∨∀ k,v'.ownBlock=some k->w.heap.size <= k
theorem Own.refl {B:Nat} {w:World} {v:Value} {s:Ls} (h:Out B w v s.n s.d):Own B w v w v s:=⟨h,World.grownBy.refl _ _,.inl rfl⟩
theorem Own.below {B:Nat} {w w':World} {v v':Value} {s:Ls} (h:Own B w v w' v' s) (hO:∀ k,v.ownBlock=some k->B <= k) (hB:B <= w.heap.size):Below B w w' :=
  (Below.refl B w).grown h.gr hB hO
theorem grown_past {w w1:World} {o:Obj} {k:Option Nat} (h:(w.alloc o).grownBy w1 k):w.grownBy w1 k:=by
  have ha:=bel_alloc w o
  exact ⟨h.os.trans ha.os,h.tape.trans ha.tape,h.output.trans ha.output,Nat.le_trans ha.size h.size,fun k hk hne=>(h.block k (Nat.lt_of_lt_of_le hk ha.size) hne).trans (ha.block k hk)⟩
set_option maxRecDepth 100000 in
theorem xadd_any {B:Nat} {v:Value} {s:Ls} {b:Int} (w:World) (h:Out B w v s.n s.d) (hb:rng b) (hn:s.n <= 900000) (hB:B <= w.heap.size) :
    Calls Tryz.prog 58 #[v,.int .i64 b] w fun e w'=>∃ v',e=.returned v'∧Out B w' v' (s.add b).n (s.add b).d∧w.grownBy w' v.ownBlock:=by
  have hz:=fun W=>xnought hb W
  by_cases h0:rg b=0
  . have e:s.add b=s:=by unfold Ls.add; rw [if_pos h0]
    rw [decide_eq_true h0] at hz
    rw [e]
    go_enter Tryz.func58,Tryz.ntmps58
    go_wp2_with (go_at_call 30; refine (hz _).mono ?_; rintro _ _ ⟨rfl,rfl⟩)
    go_ret
    exact ⟨v,rfl,h,World.grownBy.refl _ _⟩
  . have e:s.add b=⟨s.n + 1,upd s.d s.n b⟩:=by unfold Ls.add; rw [if_neg h0]
    rw [decide_eq_false h0] at hz
    rw [e]
    go_enter Tryz.func58,Tryz.ntmps58
    go_wp2_with (first
      | (go_at_call 30; refine (hz _).mono ?_; rintro _ _ ⟨rfl,rfl⟩)
      | (at_builtin; refine wpList_app rfl _ _ rfl B _ s.n s.d rfl (h.stays (bel_alloc _ _)) _ 1 1 (fun _=>b) rfl (row1 _ _ rfl) (by omega) (by simp; omega) ?_; intro v' w1 hO1 hg1))
    go_ret
    refine ⟨v',rfl,hO1.congr fun i hi=>?_,?_⟩
    . by_cases e:i < s.n
      . simp [cat,e,upd_other s.d _ (show i ≠ s.n by omega)]
      . obtain rfl:i=s.n:=by omega
        simp [cat,upd_same]
    . exact grown_past hg1
def InB (w:World) (g cap N:Nat) (s:Ls):Prop:=∃ cur,w.heap[g]?=some (.cells cur 3 (0,0))∧cur.size=cap∧∀ i,i < N->cur[i]?=some (.int .i64 (s.d i))
theorem InB.keeps {w w':World} {g cap N:Nat} {s:Ls} (h:InB w g cap N s) (hb:Below w.heap.size w w'):InB w' g cap N s:=by
  obtain ⟨cur,h1,h2⟩:=h
  exact ⟨cur,(hb.block _ (Array.getElem?_eq_some_iff.1 h1).1).trans h1,h2⟩
theorem InB.out {w:World} {B g cap N:Nat} {s:Ls} (h:InB w g cap N s) (hn:s.n <= N) (hN:N <= cap) (hB:B <= g) (hm:cap <= 9223372036854775807):Out B w (.slice (some ⟨g,0,none⟩) s.n cap) s.n s.d:=by
  obtain ⟨cur,h1,h2,h3⟩:=h
  refine ⟨by rw [vals_length]; omega,.inr ⟨g,cap,cur,rfl,hB,h1,by omega,by unfold maxLen; omega,by omega,?_⟩⟩
  apply vals_ext (by simp; omega)
  intro i hi
  rw [List.getElem?_take,if_pos (by omega),Array.getElem?_toList]
  exact h3 i (by omega)
theorem Out.inB {B:Nat} {w:World} {g n cap:Nat} {d:Nat->Int} (h:Out B w (.slice (some ⟨g,0,none⟩) n cap) n d):InB w g cap n ⟨0,d⟩∧n <= cap∧cap <= 9223372036854775807∧B <= g:=by
  rcases h.2 with ⟨e,_⟩ | ⟨g',cap',cur,e,hb,hg,hn,hm,hs,ht⟩
  . simp at e
  . simp only [Value.slice.injEq,Option.some.injEq,Addr.mk.injEq,and_true,true_and] at e
    obtain ⟨rfl,rfl⟩:=e
    refine ⟨⟨cur,hg,by omega,fun i hi=>?_⟩,hn,by unfold maxLen at hm; exact hm,hb⟩
    have e:(cur.toList.take (n * 1))[i]?=(vals d n)[i]?:=by rw [ht]
    rw [List.getElem?_take,if_pos (by omega),vals_get d hi,Array.getElem?_toList] at e
    exact e
set_option maxRecDepth 100000 in
theorem wpList_appIn {w:World} {ops:Array Oper} {rest:List Oper} {o:Oper} {a:Act} {Q:Exit->Act->World->Prop} (hgd:o.guard=none) (s x:Operand)
    (ho:o.op=.call { callee:=.builtin .append,args:=#[s,x],argTypes:=#[22,22] }) (g m cap N:Nat) (r:Ls) (hs:a.eval s=.slice (some ⟨g,0,none⟩) m cap) (hI:InB w g cap N r) (hm:m < cap)
    (ad:Addr) (b:Int) (hx:a.eval x=.slice (some ad) 1 1) (hc:w.cell? ad=some (.int .i64 b))
    (h:∀ w',InB w' g cap N ⟨m + 1,upd r.d m b⟩->w.grownBy w' (some g)->wpList Tryz.prog ops Q rest (a.put o.dst (.slice (some ⟨g,0,none⟩) (m + 1) cap)) w'):wpList Tryz.prog ops Q (o :: rest) a w:=by
  obtain ⟨i0,hi,hz0,hz1,hz2⟩:=info_parts info_int
  obtain ⟨cur,hg,hs2,hr⟩:=hI
  refine wpList_plain hgd fun K hK'=>?_
  have hr2:=run_append_room (P:=Tryz.prog) w 22 o.type 3 i0 Tryz.underlying22 hi g m cap cur hg ad 1 1 [.int .i64 b] (by rw [hz1]; rfl) (by
    intro j u hu
    match j,hu with
    | 0,hu=>
      simp at hu
      subst hu
      rw [show ad.add 0=ad by unfold Addr.add; split <;> simp_all]
      exact hc) (by simp [Value.oneCell']) (by omega) (by rw [hz1]; simp; omega)
  unfold Oper.wp
  simp [execOp,ho,resolve,invoke,builtin,hs,hx,hr2,Result.andThen]
  refine hK' _ _ (h _ ?_ ?_)
  . refine ⟨_,setRow_heap w g cur _ _ _ hg,?_,fun i hi=>?_⟩
    . simp [hz1]; omega
    . rw [hz1]
      show (cur.toList.take (m * 1) ++ Value.int .i64 b :: cur.toList.drop (m * 1 + 1)).toArray[i]?=some (.int .i64 (upd r.d m b i))
      rw [Nat.mul_one]
      have hl:(cur.toList.take m).length=m:=by simp; omega
      rw [List.getElem?_toArray]
      by_cases e:i=m
      . subst e
        rw [upd_same,List.getElem?_append_right (by omega),hl]
        simp
      . rw [upd_other _ _ e,<- hr i hi]
        by_cases e2:i < m
        . rw [List.getElem?_append_left (by omega),List.getElem?_take,if_pos e2,Array.getElem?_toList]
        . rw [List.getElem?_append_right (by omega),hl]
          obtain ⟨j,hj⟩:∃ j,i - m=j + 1:=⟨i - m - 1,by omega⟩
          rw [hj,List.getElem?_cons_succ,List.getElem?_drop,Array.getElem?_toList]
          rw [show m + 1 + j=i by omega]
  . exact ⟨rfl,rfl,rfl,by simp,fun k _ hk=>setRow_other w g k _ (fun e=>hk (by simp [e]))⟩
set_option maxRecDepth 100000 in
theorem xadd_in {g cap N:Nat} {s:Ls} {b:Int} (w:World) (h:InB w g cap N s) (hb:rng b) (hn:s.n < cap) :
    Calls Tryz.prog 58 #[.slice (some ⟨g,0,none⟩) s.n cap,.int .i64 b] w fun e w'=>e=.returned (.slice (some ⟨g,0,none⟩) (s.add b).n cap)∧InB w' g cap N (s.add b)∧w.grownBy w' (some g):=by
  have hz:=fun W=>xnought hb W
  by_cases h0:rg b=0
  . have e:s.add b=s:=by unfold Ls.add; rw [if_pos h0]
    rw [decide_eq_true h0] at hz
    rw [e]
    go_enter Tryz.func58,Tryz.ntmps58
    go_wp2_with (go_at_call 30; refine (hz _).mono ?_; rintro _ _ ⟨rfl,rfl⟩)
    go_ret
    exact ⟨rfl,h,World.grownBy.refl _ _⟩
  . have e:s.add b=⟨s.n + 1,upd s.d s.n b⟩:=by unfold Ls.add; rw [if_neg h0]
    rw [decide_eq_false h0] at hz
    rw [e]
    have hr:=fun W:World=>row1 W b rfl
    go_enter Tryz.func58,Tryz.ntmps58
    go_wp2_with (first
      | (go_at_call 30; refine (hz _).mono ?_; rintro _ _ ⟨rfl,rfl⟩)
      | (at_builtin; refine wpList_appIn rfl _ _ rfl g s.n cap N s rfl (h.keeps (bel_alloc _ _)) hn _ b rfl (by obtain ⟨bb,off,e1,_,hc⟩:=(hr _).spot (by omega); simp only [Option.some.injEq] at e1; have:=hc 0 (by omega); rw [Nat.add_zero] at this; rw [<- e1] at this; exact this) ?_; intro w1 hI1 hg1))
    go_ret
    refine ⟨rfl,hI1,?_⟩
    exact grown_past hg1
theorem xtwoSum {p q:Int} (hp:rng p) (hq:rng q) (pp:pok p=true) (pq:pok q=true) (w:World) :
    Calls Tryz.prog 57 #[.int .i64 p,.int .i64 q] w fun e w'=>e=.returned (.tuple #[.int .i64 (fsum p q),.int .i64 (sL p q),.bool (pok (sL p q))])∧Below w.heap.size w w':=by
  have:=twoSum_any hp hq w
  rw [told_ok pp hp,told_ok pq hq] at this
  exact this
theorem grown_bel {B:Nat} {w w':World} {g:Nat} (h:w.grownBy w' (some g)) (hB:B <= g) (hw:B <= w.heap.size):Below B w w' :=
  (Below.refl B w).grown h hw (fun k hk=>by simp at hk; omega)
theorem grown_bel2 {w w1 w2:World} {o:Option Nat} (h:w.grownBy w1 o) (k:Below w1.heap.size w1 w2):w.grownBy w2 o :=
  ⟨k.os.trans h.os,k.tape.trans h.tape,k.output.trans h.output,Nat.le_trans h.size k.size,fun j hj hne=>(k.block j (Nat.lt_of_lt_of_le hj h.size)).trans (h.block j hj hne)⟩
theorem xgr_trans {w w1 w2:World} {o:Option Nat} (h:w.grownBy w1 o) (k:w1.grownBy w2 o):w.grownBy w2 o :=
  ⟨k.os.trans h.os,k.tape.trans h.tape,k.output.trans h.output,Nat.le_trans h.size k.size,fun j hj hne=>(k.block j (Nat.lt_of_lt_of_le hj h.size) hne).trans (h.block j hj hne)⟩
set_option maxRecDepth 100000 in
set_option maxHeartbeats 2000000 in
theorem xgrow_some {B g n cap:Nat} {d:Nat->Int} {q:Int} (w:World) (h:Out B w (.slice (some ⟨g,0,none⟩) n cap) n d) (hd:∀ i,i < n->rng (d i)∧pok (d i)=true) (hq:rng q) (pq:pok q=true) (hn:n <= 800000) (hB:B <= w.heap.size) :
    Calls Tryz.prog 36 #[.slice (some ⟨g,0,none⟩) n cap,.int .i64 q] w fun e w'=>(gx d q n=true∧∃ v',e=.returned v'∧Out B w' v' (grw n d q).n (grw n d q).d∧w.grownBy w' (some g))∨(gx d q n=false∧e=gaveX∧w.grownBy w' (some g)):=by
  obtain ⟨hI,hnc,hcm,hBg⟩:=h.inB
  have HQ:Hid (∀ k,k <= n->gx d q k=true->rng (gq d q k)∧pok (gq d q k)=true):=gq_fin hd hq pq
  have HDD:Hid (∀ i,i < n->rng (d i)∧pok (d i)=true):=hd
  have hgl:g < w.heap.size:=by obtain ⟨cur,h1,_⟩:=hI; exact (Array.getElem?_eq_some_iff.1 h1).1
  clear hd h hq pq
  go_enter Tryz.func36,Tryz.ntmps36
  go_wp2_with fail
  go_loopw [1,5,13] (fun qv gv iv wr=>∃ k:Nat,k <= n∧iv=.int .i64 k∧qv=.int .i64 (gq d q k)∧gv=.slice (some ⟨g,0,none⟩) (gs d q k).n cap∧Hid (gx d q k=true)∧Hid (InB wr g cap n (gs d q k))∧Hid (w.grownBy wr (some g))) (fun _ _ iv _=>n - (intOf iv).toNat)
  case atStart=>exact ⟨0,Nat.zero_le _,rfl,rfl,rfl,rfl,hI,World.grownBy.refl _ _⟩
  case round=>
    obtain ⟨k,hk,rfl,rfl,rfl,HX,HI,HG⟩:=hrel
    clear hI
    have hsn:=gs_le d q k
    by_cases hlt:k < n
    . obtain ⟨r1,r2⟩:=HQ.out k hk HX.out
      obtain ⟨d1,d2⟩:=HDD.out k hlt
      have c0:wr.cell? ⟨g,k,none⟩=some (.int .i64 (d k)):=by
        obtain ⟨cur,h1,h2,h3⟩:=HI.out
        rw [cell_of_row wr g k cur _ _ h1,h3 k hlt,gs_tail d q k k (Nat.le_refl _)]
      have CT:Hid (∀ W,Calls Tryz.prog 57 #[.int .i64 (gq d q k),.int .i64 (d k)] W fun e w'=>e=.returned (.tuple #[.int .i64 (gq d q (k + 1)),.int .i64 (gl d q k),.bool (pok (gl d q k))])∧Below W.heap.size W w'):=fun W=>xtwoSum r1 d1 r2 d2 W
      have rl:rng (gl d q k):=sL_rng r1 d1
      have i0:(0:Int) <= (k:Int):=by omega
      have i1:(k:Int) < (n:Int):=by omega
      have HS:Hid (gs d q (k + 1)=(gs d q k).add (gl d q k)):=rfl
      have HXS:Hid (gx d q (k + 1)=(gx d q k && pok (gl d q k))):=rfl
      have HNO:Hid (pok (gl d q k)=false->gx d q n=false):=fun hno=>by
        cases hx:gx d q n
        . rfl
        . have:=gx_mono (show k + 1 <= n by omega) hx
          rw [HXS.out,hno,Bool.and_false] at this
          cases this
      obtain ⟨q',hq'⟩:∃ q',gq d q (k + 1)=q':=⟨_,rfl⟩
      rw [hq'] at CT
      have HQ':Hid (gq d q (k + 1)=q'):=hq'
      clear hq'
      generalize gl d q k=l at *
      generalize gq d q k=q0 at *
      generalize hd0:d k=dk at *
      have HD0:Hid (d k=dk):=hd0
      clear hd0 r1 r2 d1 d2
      have CA:=fun W h=>xadd_in (g:=g) (cap:=cap) (N:=n) (s:=gs d q k) (b:=l) W h rl (by omega)
      generalize hs0:gs d q k=s0 at *
      have HS0:Hid (gs d q k=s0):=hs0
      clear hs0
      cases hl:pok l
      . rw [hl] at CT
        go_wp2_with fail
        refine (CT.out _).mono ?_
        rintro _ w1 ⟨rfl,hb1⟩
        go_wp2_with fail
        refine (xsure_no _ _ _).mono ?_
        rintro _ _ ⟨rfl,rfl⟩
        unfold gaveX
        go_wp2
        exact ⟨rfl,.inr ⟨HNO.out hl,rfl,grown_bel2 HG.out hb1⟩⟩
      . rw [hl] at CT
        go_wp2_with fail
        refine (CT.out _).mono ?_
        rintro _ w1 ⟨rfl,hb1⟩
        go_wp2_with fail
        refine (xsure_yes _ _ _).mono ?_
        rintro _ _ ⟨rfl,rfl⟩
        rename_i w1
        go_wp2_with fail
        refine (CA _ (HI.out.keeps hb1)).mono ?_
        rintro _ w2 ⟨rfl,hI2,hg2⟩
        go_wp2
        go_roundw
        case rel=>exact ⟨k + 1,by omega,by go_num,by rw [HQ'.out],by rw [HS.out],by show _=_; rw [HXS.out,HX.out,hl]; rfl,by show InB _ _ _ _ _; rw [HS.out]; exact hI2,xgr_trans (grown_bel2 HG.out hb1) hg2⟩
        case measure=>simp [intOf]; omega
    . obtain rfl:k=n:=by omega
      have hO:=HI.out.out (B:=B) hsn hnc hBg hcm
      have hwr:B <= wr.heap.size:=Nat.le_trans hB HG.out.size
      have HQ2:Hid (rng (gq d q k)∧pok (gq d q k)=true):=HQ.out k hk HX.out
      have CA:Hid (∀ W,W=wr->Calls Tryz.prog 58 #[.slice (some ⟨g,0,none⟩) (gs d q k).n cap,.int .i64 (gq d q k)] W fun e w'=>∃ v',e=.returned v'∧Out B w' v' (grw k d q).n (grw k d q).d∧W.grownBy w' (some g)):=fun W hW=>by
        subst hW
        exact xadd_any W hO HQ2.out.1 (by omega) hwr
      generalize gq d q k=q0 at *
      generalize gs d q k=s0 at *
      clear hO
      go_wp2_with fail
      refine (CA.out _ rfl).mono ?_
      rintro _ w2 ⟨v',rfl,hO2,hg2⟩
      go_wp2
      go_ret
      exact .inl ⟨HX.out,v',rfl,hO2,xgr_trans HG.out hg2⟩
theorem xgrow_any {B n:Nat} {v:Value} {d:Nat->Int} {q:Int} (w:World) (h:Out B w v n d) (hd:∀ i,i < n->rng (d i)∧pok (d i)=true) (hq:rng q) (pq:pok q=true) (hn:n <= 800000) (hB:B <= w.heap.size) :
    Calls Tryz.prog 36 #[v,.int .i64 q] w fun e w'=>(gx d q n=true∧∃ v',e=.returned v'∧Out B w' v' (grw n d q).n (grw n d q).d∧w.grownBy w' v.ownBlock)∨(gx d q n=false∧e=gaveX∧w.grownBy w' v.ownBlock):=by
  rcases id h.2 with ⟨rfl,rfl⟩ | ⟨g,cap,cur,rfl,_⟩
  . have CA:Hid (∀ W,W=w->Calls Tryz.prog 58 #[.slice none 0 0,.int .i64 q] W fun e w'=>∃ v',e=.returned v'∧Out B w' v' (grw 0 d q).n (grw 0 d q).d∧W.grownBy w' none):=fun W hW=>by
      subst hW
      exact xadd_any (s:=⟨0,d⟩) W h hq (Nat.zero_le _) hB
    clear h hd hq pq
    go_enter Tryz.func36,Tryz.ntmps36
    go_wp2_with fail
    go_loopw [1,5,13] (fun qv gv iv wr=>iv=.int .i64 0∧qv=.int .i64 q∧gv=.slice none 0 0∧wr=w) (fun _ _ iv _=>0)
    case atStart=>exact ⟨rfl,rfl,rfl,rfl⟩
    case round=>
      obtain ⟨rfl,rfl,rfl,rfl⟩:=hrel
      go_wp2_with fail
      refine (CA.out _ rfl).mono ?_
      rintro _ w2 ⟨v',rfl,hO2,hg2⟩
      go_wp2
      go_ret
      exact .inl ⟨rfl,v',rfl,hO2,hg2⟩
  . exact xgrow_some w h hd hq pq hn hB
def LsO (B:Nat) (w:World) (v:Value) (s:Ls):Prop:=Out B w v s.n s.d∨(s.n=0∧∃ ad,v=.slice (some ad) 0 0)
def XGr (B:Nat) (w:World) (v:Value) (w':World):Prop:=w.grownBy w' none∨∃ k,v.ownBlock=some k∧B <= k∧w.grownBy w' (some k)
theorem XGr.of_out {B:Nat} {w w':World} {v:Value} {n:Nat} {d:Nat->Int} (h:Out B w v n d) (g:w.grownBy w' v.ownBlock):XGr B w v w':=by
  cases e:v.ownBlock with
  | none=>rw [e] at g; exact .inl g
  | some k=>rw [e] at g; exact .inr ⟨k,e,own_ge h k e,g⟩
theorem XGr.below {B:Nat} {w w':World} {v:Value} (h:XGr B w v w') (hB:B <= w.heap.size):Below B w w':=by
  rcases h with h | ⟨k,_,hk,h⟩
  . exact (Below.refl B w).grown h hB (fun k hk=>by cases hk)
  . exact grown_bel h hk hB
theorem XGr.size {B:Nat} {w w':World} {v:Value} (h:XGr B w v w'):w.heap.size <= w'.heap.size:=by
  rcases h with h | ⟨k,_,_,h⟩ <;> exact h.size
set_option maxRecDepth 100000 in
theorem xadd_E {ad:Addr} {d:Nat->Int} {b:Int} (w:World) (hb:rng b) :
    Calls Tryz.prog 58 #[.slice (some ad) 0 0,.int .i64 b] w fun e w'=>∃ v',e=.returned v'∧LsO w.heap.size w' v' ((⟨0,d⟩:Ls).add b)∧w.grownBy w' none:=by
  have hz:=fun W=>xnought hb W
  by_cases h0:rg b=0
  . have e:(⟨0,d⟩:Ls).add b=⟨0,d⟩:=by unfold Ls.add; rw [if_pos h0]
    rw [decide_eq_true h0] at hz
    rw [e]
    go_enter Tryz.func58,Tryz.ntmps58
    go_wp2_with (go_at_call 30; refine (hz _).mono ?_; rintro _ _ ⟨rfl,rfl⟩)
    go_ret
    exact ⟨_,rfl,.inr ⟨rfl,ad,rfl⟩,World.grownBy.refl _ _⟩
  . have e:(⟨0,d⟩:Ls).add b=⟨1,upd d 0 b⟩:=by unfold Ls.add; rw [if_neg h0]
    rw [decide_eq_false h0] at hz
    rw [e]
    obtain ⟨i0,hi,hz0,hz1,hz2⟩:=info_parts info_int
    have hr:=fun W:World=>row1 W b rfl
    go_enter Tryz.func58,Tryz.ntmps58
    go_wp2_with (first
      | (go_at_call 30; refine (hz _).mono ?_; rintro _ _ ⟨rfl,rfl⟩)
      | (at_builtin; refine wpList_append_grows _ rfl _ _ 22 rfl 3 i0 (.int .i64 0) 1 8 Tryz.underlying22 hi hz0 hz1 hz2 rfl (by decide) (some ad) 0 0 [] rfl (fun q=>by cases q) rfl (fun _ _ j u hu=>by simp at hu) _ 1 1 [.int .i64 b] rfl rfl (by intro j u hu; match j,hu with | 0,hu=>(simp at hu; subst hu; obtain ⟨bb,off,e1,_,hc⟩:=(hr _).spot (by omega); simp only [Option.some.injEq] at e1; have:=hc 0 (by omega); rw [Nat.add_zero] at this; rw [<- e1] at this; rw [add_none]; exact this)) (by simp [Value.oneCell']) (by omega) (by unfold maxLen; omega) (by omega) ?_; intro v' w1 hO1 hg1))
    go_ret
    refine ⟨v',rfl,.inl ?_,grown_past hg1⟩
    have hO2:=hO1
    rw [show ([] ++ [Value.int .i64 b]:List Value)=vals (upd d 0 b) (0 + 1) from (vals_ext rfl fun i hi=>by
      match i,hi with
      | 0,_=>simp [upd_same])] at hO2
    have hO3:Out _ w1 v' (0 + 1) (upd d 0 b):=hO2
    exact hO3.lower (by simp)
set_option maxRecDepth 100000 in
theorem xgrow_E {ad:Addr} {d:Nat->Int} {q:Int} (w:World) (hq:rng q) :
    Calls Tryz.prog 36 #[.slice (some ad) 0 0,.int .i64 q] w fun e w'=>∃ v',e=.returned v'∧LsO w.heap.size w' v' (grw 0 d q)∧w.grownBy w' none:=by
  have CA:Hid (∀ W,W=w->Calls Tryz.prog 58 #[.slice (some ad) 0 0,.int .i64 q] W fun e w'=>∃ v',e=.returned v'∧LsO W.heap.size w' v' (grw 0 d q)∧W.grownBy w' none):=fun W hW=>by
    subst hW
    exact xadd_E W hq
  clear hq
  go_enter Tryz.func36,Tryz.ntmps36
  go_wp2_with fail
  go_loopw [1,5,13] (fun qv gv iv wr=>iv=.int .i64 0∧qv=.int .i64 q∧gv=.slice (some ad) 0 0∧wr=w) (fun _ _ iv _=>0)
  case atStart=>exact ⟨rfl,rfl,rfl,rfl⟩
  case round=>
    obtain ⟨rfl,rfl,rfl,rfl⟩:=hrel
    go_wp2_with fail
    refine (CA.out _ rfl).mono ?_
    rintro _ w2 ⟨v',rfl,hO2,hg2⟩
    go_wp2
    go_ret
    exact ⟨v',rfl,hO2,hg2⟩
theorem LsO.lower {B B':Nat} {w:World} {v:Value} {s:Ls} (h:LsO B w v s) (hB:B' <= B):LsO B' w v s:=by
  rcases h with h | h
  . exact .inl (h.lower hB)
  . exact .inr h
theorem xgrow_L {B:Nat} {v:Value} {s:Ls} {q:Int} (w:World) (h:LsO B w v s) (hd:∀ i,i < s.n->rng (s.d i)∧pok (s.d i)=true) (hq:rng q) (pq:pok q=true) (hn:s.n <= 800000) (hB:B <= w.heap.size) :
    Calls Tryz.prog 36 #[v,.int .i64 q] w fun e w'=>(gx s.d q s.n=true∧∃ v',e=.returned v'∧LsO B w' v' (grw s.n s.d q)∧XGr B w v w')∨(gx s.d q s.n=false∧e=gaveX∧XGr B w v w'):=by
  rcases h with h | ⟨h0,ad,rfl⟩
  . refine (xgrow_any w h hd hq pq hn hB).mono ?_
    rintro e w' (⟨h1,v',h2,h3,h4⟩ | ⟨h1,h2,h3⟩)
    . exact .inl ⟨h1,v',h2,.inl h3,XGr.of_out h h4⟩
    . exact .inr ⟨h1,h2,XGr.of_out h h3⟩
  . obtain ⟨sn,sd⟩:=s
    simp only at h0
    subst h0
    refine (xgrow_E (d:=sd) w hq).mono ?_
    rintro e w' ⟨v',h1,h2,h3⟩
    exact .inl ⟨rfl,v',h1,h2.lower hB,.inl h3⟩
def Ls.fin (s:Ls):Prop:=∀ i,i < s.n->rng (s.d i)∧pok (s.d i)=true
theorem Ls.fin.add {s:Ls} (h:s.fin) {b:Int} (hb:rng b) (pb:pok b=true):(s.add b).fin:=by
  unfold Ls.add
  split
  . exact h
  . intro i hi
    show rng (upd s.d s.n b i)∧pok (upd s.d s.n b i)=true
    by_cases e:i=s.n
    . subst e; rw [upd_same]; exact ⟨hb,pb⟩
    . rw [upd_other _ _ e]
      exact h i (by have:i < s.n + 1:=hi; omega)
theorem grw_le (n:Nat) (d:Nat->Int) (q:Int):(grw n d q).n <= n + 1:=by
  have h1:=gs_le d q n
  have h2:=((gs d q n).add_le (gq d q n)).2
  show ((gs d q n).add _).n <= n + 1
  omega
def gaS (s:Ls) (f:Nat->Int):Nat->Ls
  | 0=>s
  | k + 1=>grw (gaS s f k).n (gaS s f k).d (f k)
def gaX (s:Ls) (f:Nat->Int):Nat->Bool
  | 0=>true
  | k + 1=>gaX s f k && gx (gaS s f k).d (f k) (gaS s f k).n
theorem gaS_le (s:Ls) (f:Nat->Int):∀ k,(gaS s f k).n <= s.n + k
  | 0=>Nat.le_refl _
  | k + 1=>by
    have h1:=gaS_le s f k
    have h2:=grw_le (gaS s f k).n (gaS s f k).d (f k)
    show (grw _ _ _).n <= s.n + (k + 1)
    omega
set_option maxRecDepth 100000 in
theorem xown_some {ad:Addr} {n cap:Nat} {d:Nat->Int} (w:World) (h:Row w (some ad) n cap d) (h0:0 < n) (hn:n <= 700000) :
    Calls Tryz.prog 37 #[.slice (some ad) n cap] w fun e w'=>∃ v',e=.returned v'∧Out w.heap.size w' v' n d∧w.grownBy w' none:=by
  obtain ⟨i0,hi,hz0,hz1,hz2⟩:=info_parts info_int
  obtain ⟨b,off,e0,hb,hc⟩:=h.spot h0
  have hle:=h.le
  have hmx:=h.max
  simp only [Option.some.injEq] at e0
  subst e0
  go_enter Tryz.func37,Tryz.ntmps37
  go_wp2_with (at_builtin; refine wpList_append_grows _ rfl _ _ 22 rfl 3 i0 (.int .i64 0) 1 8 Tryz.underlying22 hi hz0 hz1 hz2 rfl (by decide) _ 0 0 [] rfl (fun q=>⟨rfl,rfl⟩) rfl (fun _ _ j u hu=>by simp at hu) _ n cap (vals d n) rfl (by rw [vals_length]; omega) (by intro j u hu; have hj:j < n:=(by have:=(List.getElem?_eq_some_iff.1 hu).1; rwa [vals_length] at this); rw [vals_get d hj] at hu; rw [add_none,hc j hj]; exact hu) (vals_one d n) (by omega) (by unfold maxLen; omega) (by omega) ?_; intro v' w1 hO1 hg1)
  go_ret
  refine ⟨v',rfl,?_,hg1⟩
  rw [Nat.zero_add,List.nil_append] at hO1
  exact hO1
theorem run_app00 (ad ad2:Addr) (c:Nat) (ty:TypeId) (w:World):(Builtin.append_ #[22,22] ty #[.slice (some ad) 0 0,.slice (some ad2) 0 c]).run Tryz.prog w=.ok (.slice (some ad) 0 0) w:=by
  obtain ⟨i0,hi,hz0,hz1,hz2⟩:=info_parts info_int
  have hf:=run_firstCells_some (P:=Tryz.prog) w i0.size 0 ad2 0 c [] (by simp) (by intro j u hu; simp at hu)
  simp [Builtin.append_,run_underlying Tryz.underlying22,sizeOf,typeInfo,hi,Builtin.lenOf,hf,storeCells]
set_option maxRecDepth 100000 in
theorem xown_nil (w:World):Calls Tryz.prog 37 #[.slice none 0 0] w fun e w'=>e=.returned (.slice none 0 0)∧w'=w:=by
  obtain ⟨i0,hi,hz0,hz1,hz2⟩:=info_parts info_int
  go_enter Tryz.func37,Tryz.ntmps37
  go_wp2_with (at_builtin; refine wpList_append_own_none rfl _ _ 22 rfl w.heap.size 3 i0 1 Tryz.underlying22 hi (.slice none 0 0) 0 [] rfl (World.ownsRow_nil _ _ _ _) rfl ?_)
  go_ret
  exact ⟨rfl,rfl⟩
set_option maxRecDepth 100000 in
theorem xown_zero (ad:Addr) (cap:Nat) (hm:cap <= 9223372036854775807) (w:World):Calls Tryz.prog 37 #[.slice (some ad) 0 cap] w fun e w'=>(∃ ad',e=.returned (.slice (some ad') 0 0))∧w'=w:=by
  have h0:=run_app00
  go_enter Tryz.func37,Tryz.ntmps37
  go_wp2
  all_goals go_ret
  all_goals exact ⟨⟨_,rfl⟩,rfl⟩
theorem xown_any {ao:Option Addr} {n cap:Nat} {d:Nat->Int} (w:World) (h:Row w ao n cap d) (hn:n <= 700000) :
    Calls Tryz.prog 37 #[.slice ao n cap] w fun e w'=>∃ v',e=.returned v'∧LsO w.heap.size w' v' ⟨n,d⟩∧w.grownBy w' none:=by
  cases ao with
  | none=>
    have hc:=h.nl rfl
    have hl:=h.le
    subst hc
    obtain rfl:n=0:=by omega
    refine (xown_nil w).mono ?_
    rintro e w' ⟨rfl,rfl⟩
    exact ⟨_,rfl,.inl (Out.nil _ _ _),World.grownBy.refl _ _⟩
  | some ad=>
    by_cases h0:n=0
    . subst h0
      refine (xown_zero ad cap h.max w).mono ?_
      rintro e w' ⟨⟨ad',rfl⟩,rfl⟩
      exact ⟨_,rfl,.inr ⟨rfl,ad',rfl⟩,World.grownBy.refl _ _⟩
    . refine (xown_some w h (by omega) hn).mono ?_
      rintro e w' ⟨v',rfl,h1,h2⟩
      exact ⟨v',rfl,.inl h1,h2⟩
theorem gaS_succ (s:Ls) (f:Nat->Int) (k:Nat):gaS s f (k + 1)=grw (gaS s f k).n (gaS s f k).d (f k):=rfl
theorem gaX_succ (s:Ls) (f:Nat->Int) (k:Nat):gaX s f (k + 1)=(gaX s f k && gx (gaS s f k).d (f k) (gaS s f k).n):=rfl
theorem LsO.shape {B:Nat} {w:World} {v:Value} {s:Ls} (h:LsO B w v s):∃ ao cap,v=.slice ao s.n cap:=by
  rcases h with h | ⟨h0,ad,rfl⟩
  . obtain ⟨ao,cap,e,_⟩:=h.row
    exact ⟨ao,cap,e⟩
  . exact ⟨some ad,0,by rw [h0]⟩
theorem xadd_L {B:Nat} {v:Value} {s:Ls} {b:Int} (w:World) (h:LsO B w v s) (hb:rng b) (hn:s.n <= 900000) (hB:B <= w.heap.size) :
    Calls Tryz.prog 58 #[v,.int .i64 b] w fun e w'=>∃ v',e=.returned v'∧LsO B w' v' (s.add b)∧Below B w w':=by
  rcases h with h | ⟨h0,ad,rfl⟩
  . refine (xadd_any w h hb hn hB).mono ?_
    rintro e w' ⟨v',h2,h3,h4⟩
    exact ⟨v',h2,.inl h3,(XGr.of_out h h4).below hB⟩
  . obtain ⟨sn,sd⟩:=s
    simp only at h0
    subst h0
    refine (xadd_E (d:=sd) w hb).mono ?_
    rintro e w' ⟨v',h1,h2,h3⟩
    exact ⟨v',h1,h2.lower hB,XGr.below (v:=v') (.inl h3) hB⟩
def sq (d:Nat->Int) (b:Int):Nat->Int
  | 0=>fprod (d 0) b
  | k + 1=>fsum (fprod (d (k + 1)) b) (fsum (sq d b k) (prL (d (k + 1)) b))
def ss (s:Ls) (d:Nat->Int) (b:Int):Nat->Ls
  | 0=>s.add (prL (d 0) b)
  | k + 1=>((ss s d b k).add (sL (sq d b k) (prL (d (k + 1)) b))).add (fL (fprod (d (k + 1)) b) (fsum (sq d b k) (prL (d (k + 1)) b)))
def sx (d:Nat->Int) (b:Int):Nat->Bool
  | 0=>pX (d 0) b
  | k + 1=>sx d b k && (pX (d (k + 1)) b && (pok (sL (sq d b k) (prL (d (k + 1)) b)) && fX (fprod (d (k + 1)) b) (fsum (sq d b k) (prL (d (k + 1)) b))))
def scl (s:Ls) (d:Nat->Int) (b:Int) (n:Nat):Ls:=(ss s d b n).add (sq d b n)
theorem ss_le (s:Ls) (d:Nat->Int) (b:Int):∀ k,(ss s d b k).n <= s.n + 2 * k + 1
  | 0=>(s.add_le _).2
  | k + 1=>by
    have h1:=ss_le s d b k
    have h2:=((ss s d b k).add_le (sL (sq d b k) (prL (d (k + 1)) b))).2
    have h3:=(((ss s d b k).add (sL (sq d b k) (prL (d (k + 1)) b))).add_le (fL (fprod (d (k + 1)) b) (fsum (sq d b k) (prL (d (k + 1)) b)))).2
    show (((ss s d b k).add _).add _).n <= _
    omega
theorem sx_succ (d:Nat->Int) (b:Int) (k:Nat):sx d b (k + 1)=(sx d b k && (pX (d (k + 1)) b && (pok (sL (sq d b k) (prL (d (k + 1)) b)) && fX (fprod (d (k + 1)) b) (fsum (sq d b k) (prL (d (k + 1)) b))))):=rfl
theorem sq_succ (d:Nat->Int) (b:Int) (k:Nat):sq d b (k + 1)=fsum (fprod (d (k + 1)) b) (fsum (sq d b k) (prL (d (k + 1)) b)):=rfl
theorem ss_succ (s:Ls) (d:Nat->Int) (b:Int) (k:Nat):ss s d b (k + 1)=((ss s d b k).add (sL (sq d b k) (prL (d (k + 1)) b))).add (fL (fprod (d (k + 1)) b) (fsum (sq d b k) (prL (d (k + 1)) b))):=rfl
theorem sx_mono {d:Nat->Int} {b:Int}:∀ {k j},j <= k->sx d b k=true->sx d b j=true
  | 0,j,h,hx=>by
    obtain rfl:j=0:=by omega
    exact hx
  | k + 1,j,h,hx=>by
    by_cases e:j=k + 1
    . subst e; exact hx
    . rw [sx_succ,Bool.and_eq_true] at hx
      exact sx_mono (by omega) hx.1
theorem pX_fin {p q:Int} (hp:rng p) (hq:rng q) (h:pX p q=true):pok (fprod p q)=true∧pok (prL p q)=true:=by
  unfold pX at h
  rw [Bool.and_eq_true] at h
  exact ⟨(prL_args hp hq h.1).2.1,h.1⟩
theorem fX_fin {p q:Int} (hp:rng p) (hq:rng q) (h:fX p q=true):pok (fsum p q)=true∧pok (fL p q)=true:=by
  unfold fX at h
  rw [Bool.and_eq_true] at h
  exact ⟨(fL_args hp hq h.1).2,h.1⟩
theorem sq_fin {d:Nat->Int} {b:Int} {n:Nat} (hd:∀ i,i <= n->rng (d i)∧pok (d i)=true) (hb:rng b):∀ k,k <= n->sx d b k=true->rng (sq d b k)∧pok (sq d b k)=true
  | 0,_,hx=>⟨fprod_rng (hd 0 (by omega)).1 hb,(pX_fin (hd 0 (by omega)).1 hb hx).1⟩
  | k + 1,hk,hx=>by
    rw [sx_succ,Bool.and_eq_true,Bool.and_eq_true,Bool.and_eq_true] at hx
    obtain ⟨h1,h2,h3,h4⟩:=hx
    obtain ⟨r1,r2⟩:=sq_fin hd hb k (by omega) h1
    obtain ⟨d1,d2⟩:=hd (k + 1) hk
    have rp:=prL_rng d1 hb
    have rt:=fprod_rng d1 hb
    have rs:=fsum_rng r1 rp
    rw [sq_succ]
    exact ⟨fsum_rng rt rs,(fX_fin rt rs h4).1⟩
theorem xtwoProd {p q:Int} (hp:rng p) (hq:rng q) (pp:pok p=true) (pq:pok q=true) (w:World) (H:Hold4 w) :
    Calls Tryz.prog 59 #[.int .i64 p,.int .i64 q] w fun e w'=>e=.returned (.tuple #[.int .i64 (fprod p q),.int .i64 (prL p q),.bool (pX p q)])∧Below w.heap.size w w':=by
  have:=twoProd_any hp hq w H
  rw [told_ok pp hp,told_ok pq hq] at this
  exact this
theorem xfast {p q:Int} (hp:rng p) (hq:rng q) (pp:pok p=true) (pq:pok q=true) (w:World) :
    Calls Tryz.prog 60 #[.int .i64 p,.int .i64 q] w fun e w'=>e=.returned (.tuple #[.int .i64 (fsum p q),.int .i64 (fL p q),.bool (fX p q)])∧Below w.heap.size w w':=by
  have:=fastTwoSum_any hp hq w
  rw [told_ok pp hp,told_ok pq hq] at this
  exact this
set_option maxRecDepth 100000 in
theorem xscale_empty {v:Value} {eo:Option Addr} {ec:Nat} {b:Int} (w:World) :
    Calls Tryz.prog 38 #[v,.slice eo 0 ec,.int .i64 b] w fun e w'=>e=.returned v∧w'=w:=by
  go_enter Tryz.func38,Tryz.ntmps38
  go_wp2
  go_ret
  exact ⟨rfl,rfl⟩
set_option maxRecDepth 100000 in
theorem xscale_nought {v:Value} {eo:Option Addr} {n ec:Nat} {b:Int} (w:World) (hb:rng b) (h0:rg b=0) (hn:n <= 9223372036854775807) :
    Calls Tryz.prog 38 #[v,.slice eo n ec,.int .i64 b] w fun e w'=>e=.returned v∧w'=w:=by
  have hz:=fun W=>xnought hb W
  rw [decide_eq_true h0] at hz
  go_enter Tryz.func38,Tryz.ntmps38
  go_wp2_with (go_at_call 30; refine (hz _).mono ?_; rintro _ _ ⟨rfl,rfl⟩)
  all_goals go_ret
  all_goals exact ⟨rfl,rfl⟩
set_option maxRecDepth 100000 in
set_option maxHeartbeats 1000000 in
theorem xscale_some {B:Nat} {v:Value} {s:Ls} {eo:Option Addr} {N ec:Nat} {d:Nat->Int} {b:Int} (w:World) (h:LsO B w v s) (hE:∀ W,Below B w W->Row W eo (N + 1) ec d) (hd:∀ i,i <= N->rng (d i)∧pok (d i)=true) (hb:rng b) (pb:pok b=true) (h0:¬ rg b=0) (hn:s.n + 2 * N <= 700000) (hB:B <= w.heap.size) (H:∀ W,Below B w W->Hold4 W) :
    Calls Tryz.prog 38 #[v,.slice eo (N + 1) ec,.int .i64 b] w fun e w'=>(sx d b N=true∧∃ v',e=.returned v'∧LsO B w' v' (scl s d b N)∧Below B w w')∨(sx d b N=false∧e=gaveX∧Below B w w'):=by
  have hz:=fun W=>xnought hb W
  rw [decide_eq_false h0] at hz
  have hR:=hE w (Below.refl _ _)
  have hle:=hR.le
  have hmx:=hR.max
  obtain ⟨bb,off,rfl,hbb,hc⟩:=hR.spot (by omega)
  have c0:=hc 0 (by omega)
  rw [Nat.add_zero] at c0
  have HE:Hid (∀ W,Below B w W->Row W (some ⟨bb,off,none⟩) (N + 1) ec d):=hE
  have HH:Hid (∀ W,Below B w W->Hold4 W):=H
  have HD:Hid (∀ i,i <= N->rng (d i)∧pok (d i)=true):=hd
  have HSQ:Hid (∀ k,k <= N->sx d b k=true->rng (sq d b k)∧pok (sq d b k)=true):=sq_fin hd hb
  have HSL:=ss_le s d b
  have HB:Hid (rng b∧pok b=true):=⟨hb,pb⟩
  have CP:Hid (∀ W,Hold4 W->Calls Tryz.prog 59 #[.int .i64 (d 0),.int .i64 b] W fun e w'=>e=.returned (.tuple #[.int .i64 (sq d b 0),.int .i64 (prL (d 0) b),.bool (sx d b 0)])∧Below W.heap.size W w'):=fun W hW=>xtwoProd (hd 0 (by omega)).1 hb (hd 0 (by omega)).2 pb W hW
  have HS0:Hid (ss s d b 0=s.add (prL (d 0) b)):=rfl
  have rl0:rng (prL (d 0) b):=prL_rng (hd 0 (by omega)).1 hb
  have HNO:Hid (sx d b 0=false->sx d b N=false):=fun hno=>by
    cases hx:sx d b N
    . rfl
    . have:=sx_mono (Nat.zero_le N) hx
      rw [hno] at this
      cases this
  clear hE H hd hc hR hb pb
  have hN1:((N:Int) + 1 == 0)=false:=by simp; omega
  obtain ⟨ao0,cap0,rfl⟩:=h.shape
  cases hx0:sx d b 0
  . rw [hx0] at CP
    generalize sq d b 0=q0 at *
    generalize prL (d 0) b=l0 at *
    generalize d 0=d0 at *
    go_enter Tryz.func38,Tryz.ntmps38
    go_wp2_with (go_at_call 30; refine (hz _).mono ?_; rintro _ wz ⟨rfl,hw⟩; replace hw:=hw.symm; subst hw)
    refine (CP.out _ (HH.out _ (Below.refl _ _))).mono ?_
    rintro _ w1 ⟨rfl,hb1⟩
    have hB1:Below B w w1:=hb1.mono hB
    go_wp2_with fail
    refine (xsure_no _ _ _).mono ?_
    rintro _ wz ⟨rfl,hw⟩
    replace hw:=hw.symm
    subst hw
    unfold gaveX
    go_wp2
    exact ⟨rfl,.inr ⟨HNO.out hx0,rfl,hB1⟩⟩
  . rw [hx0] at CP
    have CA:Hid (∀ W,Below B w W->LsO B W (.slice ao0 s.n cap0) s->Calls Tryz.prog 58 #[.slice ao0 s.n cap0,.int .i64 (prL (d 0) b)] W fun e w'=>∃ v',e=.returned v'∧LsO B w' v' (ss s d b 0)∧Below B W w'):=fun W hW hL=>by
      rw [HS0.out]
      exact xadd_L W hL rl0 (by omega) (Nat.le_trans hB hW.size)
    have HK:Hid (∀ W,Below w.heap.size w W->LsO B W (.slice ao0 s.n cap0) s):=fun W hW=>by
      rcases h with h | h
      . exact .inl (h.stays hW)
      . exact .inr h
    clear h
    obtain ⟨q0,hq0⟩:∃ q0,sq d b 0=q0:=⟨_,rfl⟩
    obtain ⟨l0,hl0⟩:∃ l0,prL (d 0) b=l0:=⟨_,rfl⟩
    rw [hq0,hl0] at CP
    rw [hl0] at CA
    have HQ0:Hid (sq d b 0=q0):=hq0
    clear hq0 hl0 rl0 HS0 HNO
    generalize hd0:d 0=d0 at c0 CP
    clear hd0
    go_enter Tryz.func38,Tryz.ntmps38
    go_wp2_with (go_at_call 30; refine (hz _).mono ?_; rintro _ wz ⟨rfl,hw⟩; replace hw:=hw.symm; subst hw)
    refine (CP.out _ (HH.out _ (Below.refl _ _))).mono ?_
    rintro _ w1 ⟨rfl,hb1⟩
    have hB1:Below B w w1:=hb1.mono hB
    go_wp2_with fail
    refine (xsure_yes _ _ _).mono ?_
    rintro _ wz ⟨rfl,hw⟩
    replace hw:=hw.symm
    subst hw
    go_wp2_with fail
    refine (CA.out _ hB1 (HK.out _ hb1)).mono ?_
    rintro _ w2 ⟨v2,rfl,hL2,hb2⟩
    have hB2:=hB1.trans hb2
    clear CP CA HK hz
    go_wp2_with fail
    . have hN0:N=0:=by omega
      go_loopw [0,7,39] (fun hv qv iv wr=>∃ (k:Nat) (v0:Value),k <= N∧iv=.int .i64 k∧hv=v0∧qv=.int .i64 (sq d b k)∧Hid (sx d b k=true)∧Hid (LsO B wr v0 (ss s d b k))∧Hid (Below B w wr)) (fun _ _ iv _=>N - (intOf iv).toNat)
      case atStart=>exact ⟨0,_,Nat.zero_le _,rfl,rfl,by rw [HQ0.out],hx0,hL2,hB2⟩
      case round=>
        obtain ⟨k,hv,hk,rfl,hve,rfl,HX,HL,HBW⟩:=hrel
        replace hve:=hve.symm
        subst hve
        clear hL2 hB2 HQ0
        have hLk:=HSL k
        obtain rfl:k=N:=by omega
        obtain ⟨r1,r2⟩:=HSQ.out k hk HX.out
        have hwr:B <= wr.heap.size:=Nat.le_trans hB HBW.out.size
        have CA:Hid (∀ W,W=wr->Calls Tryz.prog 58 #[hv,.int .i64 (sq d b k)] W fun e w'=>∃ v',e=.returned v'∧LsO B w' v' (scl s d b k)∧Below B W w'):=fun W hW=>by
          subst hW
          exact xadd_L W HL.out r1 (by omega) hwr
        clear r1 r2
        generalize sq d b k=qk at *
        go_wp2_with fail
        refine (CA.out _ rfl).mono ?_
        rintro _ w3 ⟨v3,rfl,hL3,hb3⟩
        go_wp2
        go_ret
        exact .inl ⟨HX.out,v3,rfl,hL3,HBW.out.trans hb3⟩
    . go_loopw [0,7,39] (fun hv qv iv wr=>∃ (k:Nat) (v0:Value),k <= N∧iv=.int .i64 k∧hv=v0∧qv=.int .i64 (sq d b k)∧Hid (sx d b k=true)∧Hid (LsO B wr v0 (ss s d b k))∧Hid (Below B w wr)) (fun _ _ iv _=>N - (intOf iv).toNat)
      case atStart=>exact ⟨0,_,Nat.zero_le _,rfl,rfl,by rw [HQ0.out],hx0,hL2,hB2⟩
      case round=>
        obtain ⟨k,hv,hk,rfl,hve,rfl,HX,HL,HBW⟩:=hrel
        replace hve:=hve.symm
        subst hve
        clear hL2 hB2 HQ0
        have hLk:=HSL k
        by_cases hlt:k < N
        . obtain ⟨bb',off',e1,hbb',hc⟩:=(HE.out _ HBW.out).spot (by omega)
          simp only [Option.some.injEq,Addr.mk.injEq,and_true] at e1
          obtain ⟨rfl,rfl⟩:=e1
          have c1:=hc (k + 1) (by omega)
          rw [show off + (k + 1)=off + 1 + k by omega] at c1
          clear hc
          obtain ⟨d1,d2⟩:=HD.out (k + 1) (by omega)
          obtain ⟨r1,r2⟩:=HSQ.out k hk HX.out
          obtain ⟨b1,b2⟩:=HB.out
          have hwr:B <= wr.heap.size:=Nat.le_trans hB HBW.out.size
          have C1:Hid (∀ W,Hold4 W->Calls Tryz.prog 59 #[.int .i64 (d (k + 1)),.int .i64 b] W fun e w'=>e=.returned (.tuple #[.int .i64 (fprod (d (k + 1)) b),.int .i64 (prL (d (k + 1)) b),.bool (pX (d (k + 1)) b)])∧Below W.heap.size W w'):=fun W hW=>xtwoProd d1 b1 d2 b2 W hW
          have rt:rng (fprod (d (k + 1)) b):=fprod_rng d1 b1
          have ru:rng (prL (d (k + 1)) b):=prL_rng d1 b1
          have HP:Hid (pX (d (k + 1)) b=true->pok (fprod (d (k + 1)) b)=true∧pok (prL (d (k + 1)) b)=true):=pX_fin d1 b1
          have HXS:Hid (sx d b (k + 1)=(sx d b k && (pX (d (k + 1)) b && (pok (sL (sq d b k) (prL (d (k + 1)) b)) && fX (fprod (d (k + 1)) b) (fsum (sq d b k) (prL (d (k + 1)) b)))))):=sx_succ d b k
          have HQS:Hid (sq d b (k + 1)=fsum (fprod (d (k + 1)) b) (fsum (sq d b k) (prL (d (k + 1)) b))):=sq_succ d b k
          have HSS:Hid (ss s d b (k + 1)=((ss s d b k).add (sL (sq d b k) (prL (d (k + 1)) b))).add (fL (fprod (d (k + 1)) b) (fsum (sq d b k) (prL (d (k + 1)) b)))):=ss_succ s d b k
          have HNO:Hid (sx d b (k + 1)=false->sx d b N=false):=fun hno=>by
            cases hx:sx d b N
            . rfl
            . have:=sx_mono (show k + 1 <= N by omega) hx
              rw [hno] at this
              cases this
          generalize fprod (d (k + 1)) b=t at *
          generalize prL (d (k + 1)) b=u at *
          generalize pX (d (k + 1)) b=x1 at *
          generalize d (k + 1)=dk at *
          obtain ⟨qk,hqk⟩:∃ qk,sq d b k=qk:=⟨_,rfl⟩
          rw [hqk] at HXS HQS HSS r1 r2 ⊢
          obtain ⟨sk,hsk⟩:∃ sk,ss s d b k=sk:=⟨_,rfl⟩
          rw [hsk] at HL HSS hLk
          clear hqk hsk d1 d2 HSQ HD HSL
          have i0:(0:Int) <= (k:Int):=by omega
          have i1:(k:Int) < (N:Int):=by omega
          cases hx1:x1
          . rw [hx1] at C1
            have hno:sx d b N=false:=HNO.out (by rw [HXS.out,hx1]; simp)
            go_wp2_with fail
            refine (C1.out _ (HH.out _ HBW.out)).mono ?_
            rintro _ w3 ⟨rfl,hb3⟩
            go_wp2_with fail
            refine (xsure_no _ _ _).mono ?_
            rintro _ wz ⟨rfl,hw⟩
            replace hw:=hw.symm
            subst hw
            unfold gaveX
            go_wp2
            exact ⟨rfl,.inr ⟨hno,rfl,HBW.out.trans (hb3.mono hwr)⟩⟩
          . rw [hx1] at C1
            obtain ⟨pt,pu⟩:=HP.out hx1
            have C2:Hid (∀ W,Calls Tryz.prog 57 #[.int .i64 qk,.int .i64 u] W fun e w'=>e=.returned (.tuple #[.int .i64 (fsum qk u),.int .i64 (sL qk u),.bool (pok (sL qk u))])∧Below W.heap.size W w'):=fun W=>xtwoSum r1 ru r2 pu W
            have rl1:rng (sL qk u):=sL_rng r1 ru
            have rq1:rng (fsum qk u):=fsum_rng r1 ru
            have HP2:Hid (pok (sL qk u)=true->pok (fsum qk u)=true):=fun hh=>(sL_exact r1 ru hh).2.1
            clear HP r1 r2 ru pu
            generalize sL qk u=l1 at *
            generalize fsum qk u=q1 at *
            cases hx2:pok l1
            . rw [hx2] at C2
              have hno:sx d b N=false:=HNO.out (by rw [HXS.out,hx2]; simp)
              go_wp2_with fail
              refine (C1.out _ (HH.out _ HBW.out)).mono ?_
              rintro _ w3 ⟨rfl,hb3⟩
              go_wp2_with fail
              refine (xsure_yes _ _ _).mono ?_
              rintro _ wz ⟨rfl,hw⟩
              replace hw:=hw.symm
              subst hw
              go_wp2_with fail
              refine (C2.out _).mono ?_
              rintro _ w4 ⟨rfl,hb4⟩
              go_wp2_with fail
              refine (xsure_no _ _ _).mono ?_
              rintro _ wz ⟨rfl,hw⟩
              replace hw:=hw.symm
              subst hw
              unfold gaveX
              go_wp2
              exact ⟨rfl,.inr ⟨hno,rfl,HBW.out.trans ((bel_trans hb3 hb4).mono hwr)⟩⟩
            . rw [hx2] at C2
              have pq1:=HP2.out hx2
              have C3:Hid (∀ W,Calls Tryz.prog 60 #[.int .i64 t,.int .i64 q1] W fun e w'=>e=.returned (.tuple #[.int .i64 (fsum t q1),.int .i64 (fL t q1),.bool (fX t q1)])∧Below W.heap.size W w'):=fun W=>xfast rt rq1 pt pq1 W
              have rl2:rng (fL t q1):=fL_rng rt rq1
              have hA1:=(sk.add_le l1).2
              have CA1:Hid (∀ W,Below B wr W->LsO B W hv sk->Calls Tryz.prog 58 #[hv,.int .i64 l1] W fun e w'=>∃ v',e=.returned v'∧LsO B w' v' (sk.add l1)∧Below B W w'):=fun W hW hL=>xadd_L W hL rl1 (by omega) (Nat.le_trans hwr hW.size)
              have CA2:Hid (∀ W v',Below B wr W->LsO B W v' (sk.add l1)->Calls Tryz.prog 58 #[v',.int .i64 (fL t q1)] W fun e w'=>∃ v'',e=.returned v''∧LsO B w' v'' ((sk.add l1).add (fL t q1))∧Below B W w'):=fun W v' hW hL=>xadd_L W hL rl2 (by omega) (Nat.le_trans hwr hW.size)
              have HKP:Hid (∀ {W W' v' s'},LsO B W v' s'->Below W.heap.size W W'->LsO B W' v' s'):=fun {W W' v' s'} hL hW=>by
                rcases hL with h | h
                . exact .inl (h.stays hW)
                . exact .inr h
              clear HP2 rl1 rl2 rq1 rt pt pq1 b1 b2
              generalize fL t q1=l2 at *
              generalize fsum t q1=q2 at *
              cases hx3:fX t q1
              . rw [hx3] at C3
                have hno:sx d b N=false:=HNO.out (by rw [HXS.out,hx3]; simp)
                go_wp2_with fail
                refine (C1.out _ (HH.out _ HBW.out)).mono ?_
                rintro _ w3 ⟨rfl,hb3⟩
                go_wp2_with fail
                refine (xsure_yes _ _ _).mono ?_
                rintro _ wz ⟨rfl,hw⟩
                replace hw:=hw.symm
                subst hw
                go_wp2_with fail
                refine (C2.out _).mono ?_
                rintro _ w4 ⟨rfl,hb4⟩
                go_wp2_with fail
                refine (xsure_yes _ _ _).mono ?_
                rintro _ wz ⟨rfl,hw⟩
                replace hw:=hw.symm
                subst hw
                have hb34:=bel_trans hb3 hb4
                go_wp2_with fail
                refine (CA1.out _ (hb34.mono hwr) (HKP.out HL.out hb34)).mono ?_
                rintro _ w5 ⟨v5,rfl,hL5,hb5⟩
                go_wp2_with fail
                refine (C3.out _).mono ?_
                rintro _ w6 ⟨rfl,hb6⟩
                go_wp2_with fail
                refine (xsure_no _ _ _).mono ?_
                rintro _ wz ⟨rfl,hw⟩
                replace hw:=hw.symm
                subst hw
                have hb56:=((hb34.mono hwr).trans hb5).trans (hb6.mono (Nat.le_trans hwr ((hb34.mono hwr).trans hb5).size))
                unfold gaveX
                go_wp2
                exact ⟨rfl,.inr ⟨hno,rfl,HBW.out.trans hb56⟩⟩
              . rw [hx3] at C3
                have hyes:sx d b (k + 1)=true:=by rw [HXS.out,HX.out,hx1,hx2,hx3]; rfl
                go_wp2_with fail
                refine (C1.out _ (HH.out _ HBW.out)).mono ?_
                rintro _ w3 ⟨rfl,hb3⟩
                go_wp2_with fail
                refine (xsure_yes _ _ _).mono ?_
                rintro _ wz ⟨rfl,hw⟩
                replace hw:=hw.symm
                subst hw
                go_wp2_with fail
                refine (C2.out _).mono ?_
                rintro _ w4 ⟨rfl,hb4⟩
                go_wp2_with fail
                refine (xsure_yes _ _ _).mono ?_
                rintro _ wz ⟨rfl,hw⟩
                replace hw:=hw.symm
                subst hw
                have hb34:=bel_trans hb3 hb4
                go_wp2_with fail
                refine (CA1.out _ (hb34.mono hwr) (HKP.out HL.out hb34)).mono ?_
                rintro _ w5 ⟨v5,rfl,hL5,hb5⟩
                go_wp2_with fail
                refine (C3.out _).mono ?_
                rintro _ w6 ⟨rfl,hb6⟩
                go_wp2_with fail
                refine (xsure_yes _ _ _).mono ?_
                rintro _ wz ⟨rfl,hw⟩
                replace hw:=hw.symm
                subst hw
                have hb56:=((hb34.mono hwr).trans hb5).trans (hb6.mono (Nat.le_trans hwr ((hb34.mono hwr).trans hb5).size))
                go_wp2_with fail
                refine (CA2.out _ _ hb56 (HKP.out hL5 hb6)).mono ?_
                rintro _ w7 ⟨v7,rfl,hL7,hb7⟩
                go_wp2
                go_roundw
                case rel=>exact ⟨k + 1,_,by omega,by go_num,rfl,by rw [HQS.out],hyes,by show LsO _ _ _ _; rw [HSS.out]; exact hL7,HBW.out.trans (hb56.trans hb7)⟩
                case measure=>simp [intOf]; omega
        . obtain rfl:k=N:=by omega
          obtain ⟨r1,r2⟩:=HSQ.out k hk HX.out
          have hwr:B <= wr.heap.size:=Nat.le_trans hB HBW.out.size
          have CA:Hid (∀ W,W=wr->Calls Tryz.prog 58 #[hv,.int .i64 (sq d b k)] W fun e w'=>∃ v',e=.returned v'∧LsO B w' v' (scl s d b k)∧Below B W w'):=fun W hW=>by
            subst hW
            exact xadd_L W HL.out r1 (by omega) hwr
          clear r1 r2
          generalize sq d b k=qk at *
          go_wp2_with fail
          refine (CA.out _ rfl).mono ?_
          rintro _ w3 ⟨v3,rfl,hL3,hb3⟩
          go_wp2
          go_ret
          exact .inl ⟨HX.out,v3,rfl,hL3,HBW.out.trans hb3⟩
theorem xif_nil (w:World):(binOp .eql 20 Value.nilIface Value.nilIface).run Tryz.prog w=.ok (.bool true) w:=by kernel_rfl
theorem xif_not (w:World):(binOp .eql 20 (.iface 30 (.int .i64 14)) Value.nilIface).run Tryz.prog w=.ok (.bool false) w:=by kernel_rfl
theorem xif_is (w:World):(binOp .eql 20 (.iface 30 (.int .i64 14)) (.iface 30 (.int .i64 14))).run Tryz.prog w=.ok (.bool true) w:=by kernel_rfl
theorem xcatch_panicking (p:Addr) (x:Value) (older:List PanicEntry) (w:World) (hc:w.cell? p=some x) (hz:w.frozen? p=false) :
    CallsD Tryz.prog 28 #[.pointer (some p)] (.panicking ({ v:=.iface 30 (.int .i64 14),recovered:=false } :: older)) w fun e u' w'=>
      e=.returned (.tuple #[])∧u'=.panicking ({ v:=.iface 30 (.int .i64 14),recovered:=true } :: older)∧w'=w.setCell p (.int .i64 14):=by
  have h1:=xif_not
  have h2:=xif_is
  refine callsD_of_wpS Tryz.func28 rfl fun c₀ cs hu=>?_
  apply wpS_seq
  apply wpS_region
  simp [wpOpsS,go_sem,recoverD,hu,Tryz.ntmps28,Exit.thenS]
  refine wpS_of_wp ?_
  go_wp2
  simp [bodyPostS,results,Tryz.results28]
theorem xcatch_idle (p:Addr) (w:World) :
    CallsD Tryz.prog 28 #[.pointer (some p)] .returning w fun e u' w'=>e=.returned (.tuple #[])∧u'=.returning∧w'=w:=by
  have h1:=xif_nil
  refine callsD_of_wpS Tryz.func28 rfl fun c₀ cs hu=>?_
  apply wpS_seq
  apply wpS_region
  simp [wpOpsS,go_sem,recoverD,hu,Tryz.ntmps28,Exit.thenS]
  refine wpS_of_wp ?_
  go_wp2
  cases c₀
  simp_all [bodyPostS,results,Tryz.results28]
set_option maxRecDepth 100000 in
set_option maxHeartbeats 1000000 in
theorem xtold_no (F:Nat) (cap:Array Value) (w:World) (hE:∀ w,(callFunc F cap).run Tryz.prog w=.ok (.enter F cap) w) (hF:∀ W,Below w.heap.size w W->Calls Tryz.prog F cap W fun r W'=>r=gaveX∧Below W.heap.size W W') :
    Calls Tryz.prog 15 #[.func (.func F) #[] cap] w fun r w'=>r=.returned (.tuple #[.slice none 0 0,.int .i64 14])∧Below w.heap.size w w':=by
  have hmf:∀ (fn:Fn) (first cap:Array Value) (w:World),(Instr.makeFunc fn first cap).run Tryz.prog w=.ok (.func fn first cap) w:=fun _ _ _ _=>rfl
  go_enter_defers Tryz.func15,Tryz.ntmps15
  go_wp2_with fail
  refine (hF _ (bel_alloc _ _)).mono ?_
  rintro r W' ⟨rfl,hb⟩
  unfold gaveX
  have q1:=(hb.block w.heap.size (by rw [size1]; omega)).trans (heap_a1 _ _)
  have f0:=blkF q1 0
  have k0:=blkC q1 0 rfl
  go_wp2_with fail
  refine leaves_cons (f:=28) (args:=#[.pointer (some ⟨w.heap.size,0,none⟩)]) (by simp) (by simp [go_sem]) ?_
  refine (xcatch_panicking ⟨w.heap.size,0,none⟩ _ [] _ k0 f0).mono ?_
  rintro e u' w'' ⟨rfl,rfl,rfl⟩
  simp [Leaves,settle,results,Tryz.results15,go_sem,k0]
  exact (bel_trans (bel_alloc _ _) hb).setCell (Nat.le_refl _) _
set_option maxRecDepth 100000 in
set_option maxHeartbeats 1000000 in
theorem xtold_yes (F:Nat) (cap:Array Value) (w:World) (s:Ls) (hE:∀ w,(callFunc F cap).run Tryz.prog w=.ok (.enter F cap) w) (hF:∀ W,Below w.heap.size w W->Calls Tryz.prog F cap W fun r W'=>∃ v,r=.returned v∧LsO W.heap.size W' v s∧Below W.heap.size W W') :
    Calls Tryz.prog 15 #[.func (.func F) #[] cap] w fun r w'=>∃ v,r=.returned (.tuple #[v,.int .i64 0])∧LsO w.heap.size w' v s∧Below w.heap.size w w':=by
  have hmf:∀ (fn:Fn) (first cap:Array Value) (w:World),(Instr.makeFunc fn first cap).run Tryz.prog w=.ok (.func fn first cap) w:=fun _ _ _ _=>rfl
  go_enter_defers Tryz.func15,Tryz.ntmps15
  go_wp2_with fail
  refine (hF _ (bel_alloc _ _)).mono ?_
  rintro r W' ⟨v,rfl,hL,hb⟩
  have q1:=(hb.block w.heap.size (by rw [size1]; omega)).trans (heap_a1 _ _)
  have f0:=blkF q1 0
  have k0:=blkC q1 0 rfl
  have hL2:LsO w.heap.size (W'.setCell ⟨w.heap.size,0,none⟩ (.int .i64 0)) v s:=by
    rcases hL with h | h
    . exact .inl ((h.set_below (a:=⟨w.heap.size,0,none⟩) (by rw [size1]; exact Nat.lt_succ_self _) _).lower (by rw [size1]; omega))
    . exact .inr h
  have hb2:Below w.heap.size w (W'.setCell ⟨w.heap.size,0,none⟩ (.int .i64 0)):=(bel_trans (bel_alloc _ _) hb).setCell (p:=⟨w.heap.size,0,none⟩) (Nat.le_refl _) _
  obtain ⟨ao,cc,rfl⟩:=hL.shape
  go_wp2_with fail
  refine leaves_cons (f:=28) (args:=#[.pointer (some ⟨w.heap.size,0,none⟩)]) (by simp) (by simp [go_sem]) ?_
  refine (xcatch_idle ⟨w.heap.size,0,none⟩ _).mono ?_
  rintro e u' w'' ⟨rfl,rfl,rfl⟩
  simp [Leaves,settle,results,Tryz.results15,go_sem,k0]
  first | exact hb2 | exact ⟨hL2,hb2⟩ | exact ⟨_,rfl,hL2,hb2⟩
def xab (d:Nat->Int):Nat->Int
  | 0=>-9223372036854775808
  | k + 1=>pexp (d k) + blen (pmag (d k))
def xok (d:Nat->Int) (k:Nat):Bool:=!decide (pmag (d k)=0) && !decide (pexp (d k) + jz (pmag (d k)) < xab d k)
def xval (d:Nat->Int):Nat->Bool
  | 0=>true
  | k + 1=>xval d k && xok d k
theorem xval_succ (d:Nat->Int) (k:Nat):xval d (k + 1)=(xval d k && xok d k):=rfl
theorem xval_mono {d:Nat->Int}:∀ {k j},j <= k->xval d k=true->xval d j=true
  | 0,j,h,hx=>by
    obtain rfl:j=0:=by omega
    rfl
  | k + 1,j,h,hx=>by
    by_cases e:j=k + 1
    . subst e; exact hx
    . rw [xval_succ,Bool.and_eq_true] at hx
      exact xval_mono (by omega) hx.1
theorem xmag_in (b:Int):0 <= pmag b∧pmag b < 9007199254740992∧-2000 <= pexp b∧pexp b <= 2000:=by
  cases h:pok b
  . have:fld b=2047:=by simpa [pok] using h
    unfold pmag pexp
    rw [if_pos this,if_pos this]
    omega
  . have:=pmag_in h
    omega
theorem jz_small (b:Int):pmag b ≠ 0->jz (pmag b) <= 64:=fun hne=>by
  have hm:=xmag_in b
  have h1:(pmag b).toNat < 2 ^ 64:=Nat.lt_of_lt_of_le (show (pmag b).toNat < 9007199254740992 by omega) (by decide)
  exact Nat.le_of_lt (Lib.lowest_bit 64 (pmag b).toNat (by omega) h1).2
set_option maxRecDepth 100000 in
set_option maxHeartbeats 1000000 in
theorem xvalid_any {eo:Option Addr} {n ec:Nat} {d:Nat->Int} (w:World) (h:Row w eo n ec d) (H:Hold4 w) :
    Calls Tryz.prog 12 #[.slice eo n ec] w fun e w'=>e=.returned (.bool (xval d n))∧Below w.heap.size w w':=by
  have hle:=h.le
  have hmx:=h.max
  have HR:Hid (Row w eo n ec d):=h
  have HH:Hid (Hold4 w):=H
  clear h H
  go_enter Tryz.func12,Tryz.ntmps12
  go_wp2_with fail
  go_loopw [3,12] (fun av iv wr=>∃ k:Nat,k <= n∧iv=.int .i64 k∧av=.int .i64 (xab d k)∧Hid (xval d k=true)∧Below w.heap.size w wr) (fun _ iv _=>n - (intOf iv).toNat)
  case atStart=>exact ⟨0,Nat.zero_le _,rfl,rfl,rfl,bel_refl _⟩
  case round=>
    obtain ⟨k,hk,rfl,rfl,HX,hbw⟩:=hrel
    by_cases hlt:k < n
    . obtain ⟨b,off,rfl,hbb,hc⟩:=(HR.out.keeps hbw).spot (by omega)
      have c0:=hc k hlt
      clear hc
      have H:=HH.out.keeps hbw
      have CP:=bitsPartsA (d k) wr H.lay
      have m1:=xmag_in (d k)
      have HNO:Hid (xok d k=false->xval d n=false):=fun hno=>by
        cases hx:xval d n
        . rfl
        . have:=xval_mono (show k + 1 <= n by omega) hx
          rw [xval_succ,hno,Bool.and_false] at this
          cases this
      have HO:Hid (xok d k=(!decide (pmag (d k)=0) && !decide (pexp (d k) + jz (pmag (d k)) < xab d k))):=rfl
      have HA:Hid (xab d (k + 1)=pexp (d k) + blen (pmag (d k))):=rfl
      have hab:-9223372036854775808 <= xab d k:=by
        cases k with
        | zero=>exact Int.le_refl _
        | succ j=>
          show _ <= pexp (d j) + ((blen (pmag (d j)):Nat):Int)
          have:=xmag_in (d j)
          omega
      have CT:Hid (∀ W,b_Tab W->0 < pmag (d k)->Calls Tryz.prog 23 #[.int .u64 (pmag (d k))] W fun e w'=>e=.returned (.int .i64 (jz (pmag (d k))))∧w'=W):=fun W hT hp=>tzero_any _ hp (by omega) W hT
      have CL:Hid (∀ W,Calls Tryz.prog 24 #[.int .u64 (pmag (d k))] W fun e w'=>e=.returned (.int .i64 (blen (pmag (d k))))∧w'=W):=fun W=>len_any _ W (by omega) (by omega)
      have hj:=jz_small (d k)
      have hbl:blen (pmag (d k)) <= 63:=blen_le (show pmag (d k) < 9223372036854775808 by omega)
      have cv:IntKind.u64.wrap (pmag (d k))=pmag (d k):=by rw [IntKind.wrap_u64]; omega
      generalize hmg:pmag (d k)=mg at *
      generalize hex:pexp (d k)=ex at *
      generalize pneg (d k)=ng at *
      generalize pok (d k)=fn at *
      generalize hdk:d k=dk at *
      generalize hbn:blen mg=bn at *
      clear hmg hex hdk hbn
      have i0:(0:Int) <= (k:Int):=by omega
      have i1:(k:Int) < (n:Int):=by omega
      by_cases hm:mg=0
      . subst hm
        have hno:Hid (false=xval d n):=(HNO.out (by rw [HO.out]; simp)).symm
        go_wp2_with fail
        refine CP.mono ?_
        rintro _ w1 ⟨rfl,hb1⟩
        go_wp2
        all_goals go_ret
        all_goals exact ⟨ret_bool hno.out,by first | exact bel_trans hbw hb1 | exact (bel_trans hbw hb1).drew⟩
      . have hm0:(mg == 0)=false:=by simpa using hm
        have hmp:0 < mg:=by omega
        have hj':=hj hm
        generalize hjj:jz mg=jj at *
        clear hj hjj
        by_cases hl:ex + (jj:Int) < xab d k
        . have hno:Hid (false=xval d n):=(HNO.out (by rw [HO.out]; simp [hl])).symm
          generalize xab d k=ab at *
          go_wp2_with fail
          refine CP.mono ?_
          rintro _ w1 ⟨rfl,hb1⟩
          have hbw1:=bel_trans hbw hb1
          have HT:Hid (b_Tab w1):=(HH.out.keeps hbw1).tab
          go_wp2_with (go_at_call 23; refine (CT.out _ HT.out hmp).mono ?_; rintro _ wz ⟨rfl,hw⟩; replace hw:=hw.symm; subst hw)
          all_goals go_ret
          all_goals exact ⟨ret_bool hno.out,by first | exact hbw1 | exact hbw1.drew⟩
        . have hyes:xval d (k + 1)=true:=by rw [xval_succ,HX.out,HO.out]; simp [hl,hm]
          have hl':¬ (ex + (jj:Int) < xab d k):=hl
          clear hl
          generalize xab d k=ab at *
          go_wp2_with fail
          refine CP.mono ?_
          rintro _ w1 ⟨rfl,hb1⟩
          have hbw1:=bel_trans hbw hb1
          have HT:Hid (b_Tab w1):=(HH.out.keeps hbw1).tab
          go_wp2_with (first
            | (go_at_call 23; refine (CT.out _ HT.out hmp).mono ?_; rintro _ wz ⟨rfl,hw⟩; replace hw:=hw.symm; subst hw)
            | (go_at_call 24; refine (CL.out _).mono ?_; rintro _ wz ⟨rfl,hw⟩; replace hw:=hw.symm; subst hw))
          go_roundw
          case rel=>exact ⟨k + 1,by omega,by go_num,by rw [HA.out],hyes,by first | exact hbw1 | exact hbw1.drew⟩
          case measure=>simp [intOf]; omega
    . obtain rfl:k=n:=by omega
      go_wp2
      go_ret
      exact ⟨ret_bool HX.out.symm,hbw⟩
def XR (w:World) (ok:Bool) (s:Ls) (r:Ending) (w':World):Prop:=((ok=true∧∃ v,r=.returned v∧LsO w.heap.size w' v s)∨(ok=false∧r=gaveX))∧Below w.heap.size w w'
def XA (w:World) (ok:Bool) (s:Ls) (r:Ending) (w':World):Prop:=((ok=true∧∃ v,r=.returned (.tuple #[v,.int .i64 0])∧LsO w.heap.size w' v s)∨(ok=false∧r=.returned (.tuple #[.slice none 0 0,.int .i64 14])))∧Below w.heap.size w w'
theorem xtold_any (F:Nat) (cap:Array Value) (w:World) (ok:Bool) (s:Ls) (hE:∀ w,(callFunc F cap).run Tryz.prog w=.ok (.enter F cap) w) (hF:∀ W,Below w.heap.size w W->Calls Tryz.prog F cap W fun r W'=>XR W ok s r W') :
    Calls Tryz.prog 15 #[.func (.func F) #[] cap] w fun r w'=>XA w ok s r w':=by
  cases ok
  . refine (xtold_no F cap w hE fun W hW=>(hF W hW).mono ?_).mono ?_
    . rintro r W' ⟨(⟨h,_⟩ | ⟨_,h⟩),hb⟩
      . cases h
      . exact ⟨h,hb⟩
    . rintro r w' ⟨h,hb⟩
      exact ⟨.inr ⟨rfl,h⟩,hb⟩
  . refine (xtold_yes F cap w s hE fun W hW=>(hF W hW).mono ?_).mono ?_
    . rintro r W' ⟨(⟨_,v,h1,h2⟩ | ⟨h,_⟩),hb⟩
      . exact ⟨v,h1,h2,hb⟩
      . cases h
    . rintro r w' ⟨v,h1,h2,hb⟩
      exact ⟨.inl ⟨rfl,v,h1,h2⟩,hb⟩
set_option maxRecDepth 100000 in
theorem xwf1 (G:Nat) (eo:Option Addr) (n ec:Nat) (b:Int) (p0 p1 p2:Addr) (w:World) (ok:Bool) (s:Ls) (hEG:∀ (cap:Array Value) (w:World),(callFunc G cap).run Tryz.prog w=.ok (.enter G cap) w) (c0:w.cell? p0=some (.func (.func G) #[] #[])) (c1:w.cell? p1=some (.slice eo n ec)) (c2:w.cell? p2=some (.int .i64 b))
    (hG:Calls Tryz.prog G #[.slice eo n ec,.int .i64 b] w fun r w'=>XR w ok s r w') :
    Calls Tryz.prog 35 #[.pointer (some p0),.pointer (some p1),.pointer (some p2)] w fun r w'=>XR w ok s r w':=by
  go_enter Tryz.func35,Tryz.ntmps35
  go_wp2_with fail
  refine hG.mono ?_
  rintro r w' ⟨(⟨h1,v,rfl,h2⟩ | ⟨h1,rfl⟩),hb⟩
  . obtain ⟨ao,cc,rfl⟩:=h2.shape
    go_wp2
    go_ret
    exact ⟨.inl ⟨h1,_,rfl,h2⟩,hb⟩
  . unfold gaveX
    go_wp2
    exact ⟨rfl,.inr ⟨h1,rfl⟩,hb⟩
set_option maxRecDepth 100000 in
set_option maxHeartbeats 1000000 in
theorem xwf_ok (G:Nat) {eo:Option Addr} {n ec:Nat} {d:Nat->Int} {b:Int} (w:World) (ok:Bool) (s:Ls) (hEG:∀ (cap:Array Value) (w:World),(callFunc G cap).run Tryz.prog w=.ok (.enter G cap) w) (h:Row w eo n ec d) (hv:xval d n=true) (pb:pok b=true) (H:Hold4 w)
    (hG:∀ W,Below w.heap.size w W->Calls Tryz.prog G #[.slice eo n ec,.int .i64 b] W fun r w'=>XR W ok s r w') :
    Calls Tryz.prog 19 #[.slice eo n ec,.int .i64 b,.func (.func G) #[] #[]] w fun r w'=>XA w ok s r w':=by
  have hmf:∀ (fn:Fn) (first cap:Array Value) (w:World),(Instr.makeFunc fn first cap).run Tryz.prog w=.ok (.func fn first cap) w:=fun _ _ _ _=>rfl
  have hst:∀ p F m w,(store p (.func (.func F) #[] #[]) m).run Tryz.prog w=stored Tryz.prog w p (.func (.func F) #[] #[]) m:=fun p F m w=>run_store _ w p _ m rfl
  have hE:∀ (cap:Array Value) (w:World),(callFunc 35 cap).run Tryz.prog w=.ok (.enter 35 cap) w:=by
    intro cap w
    simp [go_sem]
  have k0:=h3_0 w (.cells #[.slice eo n ec] 22) (.cells #[.int .i64 b] 3) (.cells #[.func (.func G) #[] #[]] 47)
  have k1:=h3_1 w (.cells #[.slice eo n ec] 22) (.cells #[.int .i64 b] 3) (.cells #[.func (.func G) #[] #[]] 47)
  have k2:=h3_2 w (.cells #[.slice eo n ec] 22) (.cells #[.int .i64 b] 3) (.cells #[.func (.func G) #[] #[]] 47)
  have hb0:=bel_a3 w (.cells #[.slice eo n ec] 22) (.cells #[.int .i64 b] 3) (.cells #[.func (.func G) #[] #[]] 47)
  have CV:=fun W hW=>xvalid_any W (h.keeps hW) (H.keeps hW)
  rw [hv] at CV
  have CP:=fun W hW=>bitsPartsA b W (H.keeps hW).lay
  rw [pb] at CP
  go_enter Tryz.func19,Tryz.ntmps19
  go_wp2_with fail
  generalize ((w.alloc (.cells #[.slice eo n ec] 22)).alloc (.cells #[.int .i64 b] 3)).alloc (.cells #[.func (.func G) #[] #[]] 47)=x0 at k0 k1 k2 hb0 ⊢
  refine (CV _ hb0).mono ?_
  rintro _ y1 ⟨rfl,hw1⟩
  have k0:=(hw1.block _ (Array.getElem?_eq_some_iff.1 k0).1).trans k0
  have k1:=(hw1.block _ (Array.getElem?_eq_some_iff.1 k1).1).trans k1
  have k2:=(hw1.block _ (Array.getElem?_eq_some_iff.1 k2).1).trans k2
  have hbA:=bel_trans hb0 hw1
  have c1:=blkC k1 0 rfl
  go_wp2_with fail
  refine (CP _ hbA).mono ?_
  rintro _ y2 ⟨rfl,hw2⟩
  have k0:=(hw2.block _ (Array.getElem?_eq_some_iff.1 k0).1).trans k0
  have k1:=(hw2.block _ (Array.getElem?_eq_some_iff.1 k1).1).trans k1
  have k2:=(hw2.block _ (Array.getElem?_eq_some_iff.1 k2).1).trans k2
  have hbB:=bel_trans hbA hw2
  have c0:=blkC k0 0 rfl
  have c1:=blkC k1 0 rfl
  have c2:=blkC k2 0 rfl
  go_wp2_with fail
  refine (xtold_any 35 _ _ ok s (hE _) (fun W hW=>?_)).mono ?_
  . have k0:=(hW.block _ (Array.getElem?_eq_some_iff.1 k0).1).trans k0
    have k1:=(hW.block _ (Array.getElem?_eq_some_iff.1 k1).1).trans k1
    have k2:=(hW.block _ (Array.getElem?_eq_some_iff.1 k2).1).trans k2
    exact xwf1 G eo n ec b _ _ _ W ok s hEG (blkC k2 0 rfl) (blkC k0 0 rfl) (blkC k1 0 rfl) (hG W (bel_trans hbB hW))
  rintro r w2 ⟨(⟨h1,v,rfl,h2⟩ | ⟨h1,rfl⟩),hb2⟩
  . obtain ⟨ao,cc,rfl⟩:=h2.shape
    go_wp2
    refine bodyPost_ret (v:=.tuple #[.slice ao s.n cc,.int .i64 0]) (by simp [results,Tryz.results19,go_sem]) rfl ⟨.inl ⟨h1,_,rfl,h2.lower hbB.size⟩,bel_trans hbB hb2⟩
  . go_wp2
    refine bodyPost_ret (v:=.tuple #[.slice none 0 0,.int .i64 14]) (by simp [results,Tryz.results19,go_sem]) rfl ⟨.inr ⟨h1,rfl⟩,bel_trans hbB hb2⟩
theorem xval_fin {d:Nat->Int}:∀ {n},xval d n=true->∀ i,i < n->pok (d i)=true
  | 0,_,i,hi=>absurd hi (Nat.not_lt_zero _)
  | n + 1,h,i,hi=>by
    rw [xval_succ,Bool.and_eq_true] at h
    by_cases e:i=n
    . subst e
      have h2:=h.2
      unfold xok at h2
      rw [Bool.and_eq_true] at h2
      cases hp:pok (d i)
      . exfalso
        have hf:fld (d i)=2047:=by simpa [pok] using hp
        have:pmag (d i)=0:=by unfold pmag; rw [if_pos hf]
        simp [this] at h2
      . rfl
    . exact xval_fin h.1 i (by omega)
theorem XR.of_gr {w w1 w':World} {ok:Bool} {s:Ls} {r:Ending} (hb:w.grownBy w1 none) (h:(ok=true∧∃ v,r=.returned v∧LsO w.heap.size w' v s∧Below w.heap.size w1 w')∨(ok=false∧r=gaveX∧Below w.heap.size w1 w')):XR w ok s r w':=by
  have hb0:Below w.heap.size w w1:=grown_below hb
  rcases h with ⟨h1,v,h2,h3,h4⟩ | ⟨h1,h2,h3⟩
  . exact ⟨.inl ⟨h1,v,h2,h3⟩,hb0.trans h4⟩
  . exact ⟨.inr ⟨h1,h2⟩,hb0.trans h3⟩
set_option maxRecDepth 100000 in
theorem xgrown_any {eo:Option Addr} {n ec:Nat} {d:Nat->Int} {b:Int} (w:World) (h:Row w eo n ec d) (hd:∀ i,i < n->rng (d i)∧pok (d i)=true) (hb:rng b) (pb:pok b=true) (hn:n <= 600000) :
    Calls Tryz.prog 20 #[.slice eo n ec,.int .i64 b] w fun r w'=>XR w (gx d b n) (grw n d b) r w':=by
  have CO:=xown_any w h (by omega)
  have CG:Hid (∀ W v,W.heap.size >= w.heap.size->LsO w.heap.size W v ⟨n,d⟩->Calls Tryz.prog 36 #[v,.int .i64 b] W fun e w'=>(gx d b n=true∧∃ v',e=.returned v'∧LsO w.heap.size w' v' (grw n d b)∧Below w.heap.size W w')∨(gx d b n=false∧e=gaveX∧Below w.heap.size W w')):=fun W v hW hL=>by
    refine (xgrow_L W hL hd hb pb (show n <= 800000 by omega) hW).mono ?_
    rintro e w' (⟨h1,v',h2,h3,h4⟩ | ⟨h1,h2,h3⟩)
    . exact .inl ⟨h1,v',h2,h3,h4.below hW⟩
    . exact .inr ⟨h1,h2,h3.below hW⟩
  generalize gx d b n=X at *
  generalize hS:grw n d b=S at *
  clear hS
  go_enter Tryz.func20,Tryz.ntmps20
  go_wp2_with fail
  refine CO.mono ?_
  rintro _ w1 ⟨v,rfl,hL,hg⟩
  obtain ⟨ao,cc,rfl⟩:=hL.shape
  go_wp2_with fail
  refine (CG.out _ _ hg.size hL).mono ?_
  rintro _ w2 (⟨h1,v',rfl,h3,h4⟩ | ⟨h1,rfl,h3⟩)
  . obtain ⟨ao',cc',rfl⟩:=h3.shape
    go_wp2
    go_ret
    exact XR.of_gr hg (.inl ⟨h1,_,rfl,h3,h4⟩)
  . unfold gaveX
    go_wp2
    exact ⟨rfl,XR.of_gr hg (.inr ⟨h1,rfl,h3⟩)⟩
def sclN (d:Nat->Int) (b:Int):Nat->Ls
  | 0=>⟨0,fun _=>0⟩
  | n + 1=>if rg b=0 then ⟨0,fun _=>0⟩ else scl ⟨0,fun _=>0⟩ d b n
def sxN (d:Nat->Int) (b:Int):Nat->Bool
  | 0=>true
  | n + 1=>if rg b=0 then true else sx d b n
set_option maxRecDepth 100000 in
theorem xscaled_any {eo:Option Addr} {n ec:Nat} {d:Nat->Int} {b:Int} (w:World) (h:Row w eo n ec d) (hd:∀ i,i < n->rng (d i)∧pok (d i)=true) (hb:rng b) (pb:pok b=true) (hn:n <= 300000) (H:Hold4 w) :
    Calls Tryz.prog 21 #[.slice eo n ec,.int .i64 b] w fun r w'=>XR w (sxN d b n) (sclN d b n) r w':=by
  have hle:=h.le
  have hmx:=h.max
  have CS:Calls Tryz.prog 38 #[.slice none 0 0,.slice eo n ec,.int .i64 b] w fun r w'=>XR w (sxN d b n) (sclN d b n) r w':=by
    cases n with
    | zero=>
      refine (xscale_empty w).mono ?_
      rintro r w' ⟨rfl,rfl⟩
      exact ⟨.inl ⟨rfl,_,rfl,.inl (Out.nil _ _ _)⟩,bel_refl _⟩
    | succ n=>
      by_cases h0:rg b=0
      . have e1:sxN d b (n + 1)=true:=if_pos h0
        have e2:sclN d b (n + 1)=⟨0,fun _=>0⟩:=if_pos h0
        rw [e1,e2]
        refine (xscale_nought w hb h0 (by omega)).mono ?_
        rintro r w' ⟨rfl,rfl⟩
        exact ⟨.inl ⟨rfl,_,rfl,.inl (Out.nil _ _ _)⟩,bel_refl _⟩
      . have e1:sxN d b (n + 1)=sx d b n:=if_neg h0
        have e2:sclN d b (n + 1)=scl ⟨0,fun _=>0⟩ d b n:=if_neg h0
        rw [e1,e2]
        refine (xscale_some (B:=w.heap.size) (s:=⟨0,fun _=>0⟩) w (.inl (Out.nil _ _ _)) (fun W hW=>h.keeps hW) (fun i hi=>hd i (by omega)) hb pb h0 (show 0 + 2 * n <= 700000 by omega) (Nat.le_refl _) (fun W hW=>H.keeps hW)).mono ?_
        rintro r w' (⟨h1,v',h2,h3,h4⟩ | ⟨h1,h2,h3⟩)
        . exact ⟨.inl ⟨h1,v',h2,h3⟩,h4⟩
        . exact ⟨.inr ⟨h1,h2⟩,h3⟩
  generalize sxN d b n=X at *
  generalize sclN d b n=S at *
  go_enter Tryz.func21,Tryz.ntmps21
  go_wp2_with fail
  refine CS.mono ?_
  rintro _ w2 ⟨(⟨h1,v',rfl,h3⟩ | ⟨h1,rfl⟩),h4⟩
  . obtain ⟨ao',cc',rfl⟩:=h3.shape
    go_wp2
    go_ret
    exact ⟨.inl ⟨h1,_,rfl,h3⟩,h4⟩
  . unfold gaveX
    go_wp2
    exact ⟨rfl,.inr ⟨h1,rfl⟩,h4⟩
set_option maxRecDepth 100000 in
theorem xGrow {eo:Option Addr} {n ec:Nat} {d:Nat->Int} {b:Int} (w:World) (h:Row w eo n ec d) (hr:∀ i,i < n->rng (d i)) (hv:xval d n=true) (hb:rng b) (pb:pok b=true) (hn:n <= 300000) (H:Hold4 w) :
    Calls Tryz.prog 9 #[.slice eo n ec,.int .i64 b] w fun r w'=>XA w (gx d b n) (grw n d b) r w':=by
  have hEG:∀ (cap:Array Value) (w:World),(callFunc 20 cap).run Tryz.prog w=.ok (.enter 20 cap) w:=by
    intro cap w
    simp [go_sem]
  have hd:∀ i,i < n->rng (d i)∧pok (d i)=true:=fun i hi=>⟨hr i hi,xval_fin hv i hi⟩
  have CW:=xwf_ok 20 w (gx d b n) (grw n d b) hEG h hv pb H (fun W hW=>xgrown_any W (h.keeps hW) hd hb pb (by omega))
  generalize gx d b n=X at *
  generalize grw n d b=S at *
  go_enter Tryz.func9,Tryz.ntmps9
  go_wp2_with fail
  refine CW.mono ?_
  rintro _ w1 ⟨(⟨h1,v,rfl,h2⟩ | ⟨h1,rfl⟩),hb⟩
  . obtain ⟨ao,cc,rfl⟩:=h2.shape
    go_wp2
    refine bodyPost_ret (v:=.tuple #[.slice ao S.n cc,.int .i64 0]) (by simp [results,Tryz.results9,go_sem]) rfl ⟨.inl ⟨h1,_,rfl,h2⟩,hb⟩
  . go_wp2
    refine bodyPost_ret (v:=.tuple #[.slice none 0 0,.int .i64 14]) (by simp [results,Tryz.results9,go_sem]) rfl ⟨.inr ⟨h1,rfl⟩,hb⟩
set_option maxRecDepth 100000 in
theorem xScale {eo:Option Addr} {n ec:Nat} {d:Nat->Int} {b:Int} (w:World) (h:Row w eo n ec d) (hr:∀ i,i < n->rng (d i)) (hv:xval d n=true) (hb:rng b) (pb:pok b=true) (hn:n <= 300000) (H:Hold4 w) :
    Calls Tryz.prog 10 #[.slice eo n ec,.int .i64 b] w fun r w'=>XA w (sxN d b n) (sclN d b n) r w':=by
  have hEG:∀ (cap:Array Value) (w:World),(callFunc 21 cap).run Tryz.prog w=.ok (.enter 21 cap) w:=by
    intro cap w
    simp [go_sem]
  have hd:∀ i,i < n->rng (d i)∧pok (d i)=true:=fun i hi=>⟨hr i hi,xval_fin hv i hi⟩
  have CW:=xwf_ok 21 w (sxN d b n) (sclN d b n) hEG h hv pb H (fun W hW=>xscaled_any W (h.keeps hW) hd hb pb hn (H.keeps hW))
  generalize sxN d b n=X at *
  generalize sclN d b n=S at *
  go_enter Tryz.func10,Tryz.ntmps10
  go_wp2_with fail
  refine CW.mono ?_
  rintro _ w1 ⟨(⟨h1,v,rfl,h2⟩ | ⟨h1,rfl⟩),hb⟩
  . obtain ⟨ao,cc,rfl⟩:=h2.shape
    go_wp2
    refine bodyPost_ret (v:=.tuple #[.slice ao S.n cc,.int .i64 0]) (by simp [results,Tryz.results10,go_sem]) rfl ⟨.inl ⟨h1,_,rfl,h2⟩,hb⟩
  . go_wp2
    refine bodyPost_ret (v:=.tuple #[.slice none 0 0,.int .i64 14]) (by simp [results,Tryz.results10,go_sem]) rfl ⟨.inr ⟨h1,rfl⟩,hb⟩
def Lies (v:Value) (x y:Nat):Prop:=∀ g,v.ownBlock=some g->x <= g∧g < y
def RFit (w w':World) (V:Int) (v:Value) (er:Int):Prop:=DFit w w' V v er
theorem RFit.shape {w w':World} {V er:Int} {v:Value} (h:RFit w w' V v er):∃ ng so sn sc e,v=.agg #[.bool ng,.slice so sn sc,.int .i64 e]:=by
  exact DFit.shape h
def DAn (B:Nat) (w:World) (V:Int) (v:Value):Prop:=∃ ng s m e,v=.agg #[.bool ng,s,.int .i64 e]∧Dy V ng m e∧An B w s m
def DFitA (B:Nat) (w:World) (V:Int) (v:Value) (er:Int):Prop:=(Dok V∧er=0∧DAn B w V v)∨(¬ Dok V∧er=2∧v=zeroV)
theorem DAns.dan {w w':World} {V:Int} {v:Value} (h:DAns w w' V v):DAn w.heap.size w' V v:=by
  obtain ⟨ng,s,m,e,h1,h2,h3⟩:=h
  exact ⟨ng,s,m,e,h1,h2,h3.an⟩
theorem An.wr {B:Nat} {w w':World} {v:Value} {V:Int} {g:Nat} (h:An B w v V) (hw:Wr g w w') (hg:g < B):An B w' v V:=by
  obtain ⟨t,d,h1,h2⟩:=h
  exact ⟨t,d,h1.of_block fun g' hg'=>hw.block g' (h1.ge hg').2 (by have:=(h1.ge hg').1; omega),h2⟩
theorem DAn.wr {B:Nat} {w w':World} {v:Value} {V:Int} {g:Nat} (h:DAn B w V v) (hw:Wr g w w') (hg:g < B):DAn B w' V v:=by
  obtain ⟨ng,s,m,e,h1,h2,h3⟩:=h
  exact ⟨ng,s,m,e,h1,h2,h3.wr hw hg⟩
theorem DAn.keeps {B:Nat} {w w':World} {v:Value} {V:Int} (h:DAn B w V v) (k:Below w.heap.size w w'):DAn B w' V v:=by
  obtain ⟨ng,s,m,e,h1,h2,h3⟩:=h
  exact ⟨ng,s,m,e,h1,h2,h3.keeps k⟩
theorem DAn.lower {B B':Nat} {w:World} {v:Value} {V:Int} (h:DAn B w V v) (hB:B' <= B):DAn B' w V v:=by
  obtain ⟨ng,s,m,e,h1,h2,h3⟩:=h
  exact ⟨ng,s,m,e,h1,h2,h3.lower hB⟩
theorem DAn.num {B:Nat} {w:World} {v:Value} {V:Int} (h:DAn B w V v):DNum w v V:=by
  obtain ⟨ng,s,m,e,h1,h2,h3⟩:=h
  exact ⟨ng,s,m,e,h1,h2,h3.num⟩
theorem DFitA.wr {B:Nat} {w w':World} {v:Value} {V er:Int} {g:Nat} (h:DFitA B w V v er) (hw:Wr g w w') (hg:g < B):DFitA B w' V v er:=by
  rcases h with ⟨h1,h2,h3⟩ | h
  . exact .inl ⟨h1,h2,h3.wr hw hg⟩
  . exact .inr h
theorem DFitA.keeps {B:Nat} {w w':World} {v:Value} {V er:Int} (h:DFitA B w V v er) (k:Below w.heap.size w w'):DFitA B w' V v er:=by
  rcases h with ⟨h1,h2,h3⟩ | h
  . exact .inl ⟨h1,h2,h3.keeps k⟩
  . exact .inr h
theorem DFitA.lower {B B':Nat} {w:World} {v:Value} {V er:Int} (h:DFitA B w V v er) (hB:B' <= B):DFitA B' w V v er:=by
  rcases h with ⟨h1,h2,h3⟩ | h
  . exact .inl ⟨h1,h2,h3.lower hB⟩
  . exact .inr h
theorem DFitA.shape {B:Nat} {w:World} {v:Value} {V er:Int} (h:DFitA B w V v er):∃ ng so sn sc e,v=.agg #[.bool ng,.slice so sn sc,.int .i64 e]:=by
  rcases h with ⟨_,_,ng,s,m,e,h1,_,h3⟩ | ⟨_,_,rfl⟩
  . obtain ⟨so,sn,sc,rfl⟩:=h3.shape
    exact ⟨_,_,_,_,_,h1⟩
  . exact ⟨_,_,_,_,_,rfl⟩
theorem DFitA.ge {B:Nat} {w:World} {ng:Bool} {so:Option Addr} {sn sc:Nat} {e V er:Int} (h:DFitA B w V (.agg #[.bool ng,.slice so sn sc,.int .i64 e]) er):Lies (.slice so sn sc) B w.heap.size:=by
  intro g hg
  rcases h with ⟨_,_,ng',s,m,e',h1,_,h3⟩ | ⟨_,_,h1⟩
  . simp only [Value.agg.injEq,Array.mk.injEq,List.cons.injEq,Value.bool.injEq,Value.int.injEq,and_true,true_and] at h1
    obtain ⟨_,h1,_⟩:=h1
    rw [<- h1] at h3
    exact h3.ge hg
  . simp only [zeroV,Value.agg.injEq,Array.mk.injEq,List.cons.injEq,Value.bool.injEq,Value.int.injEq,Value.slice.injEq,and_true,true_and] at h1
    obtain ⟨_,⟨rfl,_,_⟩,_⟩:=h1
    simp [Value.ownBlock] at hg
theorem DAn.parts {B:Nat} {w:World} {ng:Bool} {so:Option Addr} {sn sc:Nat} {e V:Int} (h:DAn B w V (.agg #[.bool ng,.slice so sn sc,.int .i64 e])):∃ m,Dy V ng m e∧An B w (.slice so sn sc) m:=by
  obtain ⟨ng',s,m,e',h1,h2,h3⟩:=h
  simp only [Value.agg.injEq,Array.mk.injEq,List.cons.injEq,Value.bool.injEq,Value.int.injEq,and_true,true_and] at h1
  obtain ⟨rfl,rfl,rfl⟩:=h1
  exact ⟨m,h2,h3⟩
theorem Out.set_num {B:Nat} {w:World} {x:Value} {n:Nat} {d:Nat->Int} (h:Out B w x n d) {g:Nat} {xs:Array Value} {z:Nat × Nat} (hg:w.heap[g]?=some (.cells xs 27 z)) (o:Nat) (u:Value):Out B (w.setCell ⟨g,o,none⟩ u) x n d :=
  h.of_block fun g' hg'=>Below.heap_setCell _ _ _ _ fun he=>by
    change g'=g at he
    subst he
    obtain ⟨cur,z',hc⟩:=h.typed hg'
    rw [hg] at hc
    simp at hc
theorem dan_st {B:Nat} {w:World} {V:Int} {v:Value} (h:DAn B w V v) {g:Nat} {xs:Array Value} {z:Nat × Nat} (hg:w.heap[g]?=some (.cells xs 27 z)) (o:Nat) (u:Value):DAn B (w.setCell ⟨g,o,none⟩ u) V v:=by
  obtain ⟨ng,s,m,e,rfl,hy,t,d,hO,hN,hv⟩:=h
  exact ⟨ng,s,m,e,rfl,hy,t,d,hO.set_num hg o u,hN,hv⟩
theorem dan_gr {B:Nat} {w w':World} {V:Int} {v:Value} {row:Option Nat} (h:DAn B w V v) (g:w.grownBy w' row) (hr:∀ k,row=some k->k < B):DAn B w' V v:=by
  obtain ⟨ng,s,m,e,rfl,hy,t,d,hO,hN,hv⟩:=h
  refine ⟨ng,s,m,e,rfl,hy,t,d,hO.of_block fun k hk=>?_,hN,hv⟩
  obtain ⟨h1,h2⟩:=hO.ge hk
  refine g.block k h2 fun q=>?_
  have:=hr k q.symm
  omega
theorem bel_gr {w w1 w2:World} {row:Option Nat} (h:Below w.heap.size w w1) (g:w1.grownBy w2 row):w.grownBy w2 row :=
  ⟨g.os.trans h.os,g.tape.trans h.tape,g.output.trans h.output,Nat.le_trans h.size g.size,fun k hk q=>(g.block k (Nat.lt_of_lt_of_le hk h.size) q).trans (h.block k hk)⟩
theorem gr_blk {w w':World} {row:Option Nat} (g:w.grownBy w' row) {k:Nat} {o:Obj} (h:w.heap[k]?=some o) (hr:row ≠ some k):w'.heap[k]?=some o :=
  (g.block k (Array.getElem?_eq_some_iff.1 h).1 (fun q=>hr q.symm)).trans h
theorem gr_set {w w':World} {g:Nat} (h:w.grownBy w' (some g)) (o:Nat) (u:Value):w.grownBy (w'.setCell ⟨g,o,none⟩ u) (some g):=by
  have hw:Wr g w' (w'.setCell ⟨g,o,none⟩ u):=(Wr.refl g w').setCell o u
  exact ⟨h.os,h.tape,h.output,Nat.le_trans h.size (Nat.le_of_eq (by simp)),fun k hk q=>(hw.block k (Nat.lt_of_lt_of_le hk h.size) (fun c=>q (by rw [c]))).trans (h.block k hk q)⟩
theorem gr_bel {w w1 w2:World} {row:Option Nat} (g:w.grownBy w1 row) (h:Below w1.heap.size w1 w2):w.grownBy w2 row :=
  ⟨h.os.trans g.os,h.tape.trans g.tape,h.output.trans g.output,Nat.le_trans g.size h.size,fun k hk q=>(h.block k (Nat.lt_of_lt_of_le hk g.size)).trans (g.block k hk q)⟩
def rvL (d:Nat->Int) (n k i:Nat):Int:=if i < k∨n <= i + k then d (n - 1 - i) else d i
theorem rvL_step {d:Nat->Int} {n k j:Nat} (h:k + j + 1=n) (hk:k < j) (i:Nat) (hi:i < n):upd (upd (rvL d n k) k (rvL d n k j)) j (rvL d n k k) i=rvL d n (k + 1) i:=by
  have e1:rvL d n k j=d j:=by unfold rvL; rw [if_neg (by omega)]
  have e2:rvL d n k k=d k:=by unfold rvL; rw [if_neg (by omega)]
  rw [e1,e2]
  by_cases hj:i=j
  . subst hj
    rw [upd_same]
    unfold rvL
    rw [if_pos (by omega),show n - 1 - i=k by omega]
  . rw [upd_other _ _ hj]
    by_cases hik:i=k
    . subst hik
      rw [upd_same]
      unfold rvL
      rw [if_pos (by omega),show n - 1 - i=j by omega]
    . rw [upd_other _ _ hik]
      unfold rvL
      by_cases c:i < k∨n <= i + k
      . rw [if_pos c,if_pos (by omega)]
      . rw [if_neg c,if_neg (by omega)]
theorem rvL_end {d:Nat->Int} {n k j:Nat} (h:k + j=n) (hk:j <= k + 1) (i:Nat) (hi:i < n):rvL d n k i=d (n - 1 - i):=by
  unfold rvL
  by_cases c:i < k∨n <= i + k
  . rw [if_pos c]
  . rw [if_neg c]
    rw [show n - 1 - i=i by omega]
set_option maxRecDepth 100000 in
set_option maxHeartbeats 2000000 in
theorem srev_some {B g n cap:Nat} {d:Nat->Int} (w:World) (h:Out B w (.slice (some ⟨g,0,none⟩) n cap) n d) (hn:0 < n) (hm:n < 4611686018427387904) :
    Calls Tryz.prog 32 #[.slice (some ⟨g,0,none⟩) n cap] w fun r w'=>r=.returned (.tuple #[])∧Out B w' (.slice (some ⟨g,0,none⟩) n cap) n (fun i=>d (n - 1 - i))∧w.grownBy w' (some g):=by
  have HO:Hid (Out B w (.slice (some ⟨g,0,none⟩) n cap) n (rvL d n 0)):=h.congr fun i hi=>by
    unfold rvL
    rw [if_neg (by omega)]
  obtain ⟨m,rfl⟩:∃ m,n=m + 1:=⟨n - 1,by omega⟩
  have e0:((m + 1:Nat):Int) - 1=(m:Int):=by omega
  clear h
  go_enter Tryz.func32,Tryz.ntmps32
  go_wp2_with fail
  go_loopw [2,3] (fun iv jv wr=>∃ (k j:Nat),k + j + 1=m + 1∧k <= j + 1∧iv=.int .i64 k∧jv=.int .i64 j∧Hid (Out B wr (.slice (some ⟨g,0,none⟩) (m + 1) cap) (m + 1) (rvL d (m + 1) k))∧w.grownBy wr (some g)) (fun iv _ _=>m + 2 - (intOf iv).toNat)
  case atStart=>exact ⟨0,m,by omega,by omega,rfl,by first | rfl | (rw [e0]),HO,World.grownBy.refl _ _⟩
  case round=>
    obtain ⟨k,j,hkj,hle,rfl,rfl,HR,hg⟩:=hrel
    by_cases hlt:k < j
    . have c0:=HR.out.cell (i:=k) (by omega)
      have c1:=HR.out.cell (i:=j) (by omega)
      have f0:=HR.out.frozen k
      have f1:=HR.out.frozen j
      have i0:(0:Int) <= (k:Int):=by omega
      have i1:(k:Int) < ((m + 1:Nat):Int):=by omega
      have j0:(0:Int) <= (j:Int):=by omega
      have j1:(j:Int) < ((m + 1:Nat):Int):=by omega
      have l0:(k:Int) < (j:Int):=by omega
      have hO2:=HR.out.store (i:=k) (by omega) (rvL d (m + 1) k j)
      have c2:=hO2.cell (i:=j) (by omega)
      have f2:=hO2.frozen j
      rw [upd_other _ _ (by omega)] at c2
      have HO3:Hid (Out B ((wr.setCell ⟨g,k,none⟩ (.int .i64 (rvL d (m + 1) k j))).setCell ⟨g,j,none⟩ (.int .i64 (rvL d (m + 1) k k))) (.slice (some ⟨g,0,none⟩) (m + 1) cap) (m + 1) (rvL d (m + 1) (k + 1))):=(hO2.store (i:=j) (by omega) (rvL d (m + 1) k k)).congr fun i hi=>rvL_step hkj hlt i hi
      have HG:Hid (w.grownBy ((wr.setCell ⟨g,k,none⟩ (.int .i64 (rvL d (m + 1) k j))).setCell ⟨g,j,none⟩ (.int .i64 (rvL d (m + 1) k k))) (some g)):=gr_set (gr_set hg _ _) _ _
      have ej:(j:Int) - 1=((j - 1:Nat):Int):=by omega
      clear hO2
      generalize rvL d (m + 1) k k=X at *
      generalize rvL d (m + 1) k j=Y at *
      go_wp2_with fail
      go_region
      go_wp2
      go_roundw
      case rel=>exact ⟨k + 1,j - 1,by omega,by omega,by go_num,by first | (rw [ej]) | (simp [ej]) | go_num,HO3.out.stays (bel_refl _).drew,gr_bel HG.out (bel_refl _).drew⟩
      case measure=>simp [intOf]; omega
    . have l0:¬ (k:Int) < (j:Int):=by omega
      have HO4:Hid (Out B wr (.slice (some ⟨g,0,none⟩) (m + 1) cap) (m + 1) (fun i=>d (m + 1 - 1 - i))):=HR.out.congr fun i hi=>rvL_end (j:=j + 1) (by omega) (by omega) i hi
      clear HR
      go_wp2
      exact ⟨rfl,.tuple #[],(by simp [results,Tryz.results32,go_sem]),rfl,HO4.out,hg⟩
set_option maxRecDepth 100000 in
theorem srev_none {ao:Option Addr} {cap:Nat} (w:World) :
    Calls Tryz.prog 32 #[.slice ao 0 cap] w fun r w'=>r=.returned (.tuple #[])∧w'=w:=by
  go_enter Tryz.func32,Tryz.ntmps32
  go_wp2_with fail
  go_loopw [2,3] (fun iv jv wr=>iv=.int .i64 0∧jv=.int .i64 (-1)∧wr=w) (fun _ _ _=>0)
  case atStart=>exact ⟨rfl,rfl,rfl⟩
  case round=>
    obtain ⟨rfl,rfl,rfl⟩:=hrel
    go_wp2
    exact ⟨rfl,.tuple #[],(by simp [results,Tryz.results32,go_sem]),rfl,rfl⟩
theorem srev_any {B n cap:Nat} {ao:Option Addr} {d:Nat->Int} (w:World) (h:Out B w (.slice ao n cap) n d) (hm:n < 4611686018427387904) :
    Calls Tryz.prog 32 #[.slice ao n cap] w fun r w'=>r=.returned (.tuple #[])∧Out B w' (.slice ao n cap) n (fun i=>d (n - 1 - i))∧Below B w w':=by
  rcases Nat.eq_zero_or_pos n with rfl | hn
  . refine (srev_none w).mono ?_
    rintro _ _ ⟨rfl,rfl⟩
    exact ⟨rfl,h.congr fun i hi=>absurd hi (Nat.not_lt_zero _),⟨rfl,rfl,rfl,Nat.le_refl _,fun _ _=>rfl⟩⟩
  . obtain ⟨g,rfl,hB,hg⟩:=h.spot hn
    refine (srev_some w h hn hm).mono ?_
    rintro _ w' ⟨rfl,h1,h2⟩
    exact ⟨rfl,h1,⟨h2.os,h2.tape,h2.output,h2.size,fun k hk=>h2.block k (by omega) (fun q=>by cases q; omega)⟩⟩
end Go.Proofs.YtijiabajfgnaoaaGreatDoor
