/- Parts of the proof. -/
import Derived.Test.YtjjihmnbdeeedaaGreatDoorMa6
import Derived.Test.YtjjihmnbdeeedaaGreatDoorMa3
import Derived.Test.YtjjihmnbdeeedaaGreatDoorMa2
import Derived.ArgAppend
import Derived.Test.YtjjihmnbdeeedaaGreatDoorMa1
import Derived.Test.YtjjihmnbdeeedaaGreatDoorMa5
set_option maxRecDepth 100000
set_option maxHeartbeats 8000000
set_option linter.unusedVariables false
set_option linter.unusedSimpArgs false
namespace Go.Proofs.YtjjihmnbdeeedaaGreatDoor
open Go Go.Proofs.Tryz Go.RowKit Go.Proofs.YtjjihmnbdeeedaaGreatDoor.M
def dD:Ending:=.panicked [{ v:=.iface 29 (G6 14),recovered:=false }]
theorem nN {b:Int} (hb:ag b) (w:World) :
  Calls prog 266 #[G6 b] w fun e w'=>e=.returned (.bool (decide (rg b=0)))∧w'=w:=by
 have ho:=Ar hb
 generalize decide (rg b=0)=Z at *
 go_enter func266,ntmps266
 go_wp2_with (go_at_call 58;refine(bU _ _).mono ?_;rintro _ _ ⟨rfl,rfl⟩)
 go_ret
 exact⟨cX (by first|rfl|simp[ho]),rfl⟩
theorem iE (h l:Int) (w:World) :
  Calls prog 267 #[G6 h,G6 l,.bool true] w fun e w'=>e=.returned (.tuple #[G6 h,G6 l])∧w'=w:=by
 go_enter func267,ntmps267
 go_wp2
 refine bodyPost_ret (v:=.tuple #[G6 h,G6 l]) (by simp[results,results267,go_sem]) rfl ⟨rfl,rfl⟩
theorem mz (h l:Int) (w:World) :
  Calls prog 267 #[G6 h,G6 l,.bool false] w fun e w'=>e=dD∧w'=w:=by
 go_enter func267,ntmps267
 go_wp2
 exact⟨rfl,rfl,rfl⟩
theorem nB {w w1:World} {o:Obj} {k:Option Nat} (h:(w.alloc o).grownBy w1 k):w.grownBy w1 k:=by
 have ha:=af w o
 exact⟨h.os.trans ha.os,h.tape.trans ha.tape,h.output.trans ha.output,Nat.le_trans ha.size h.size,fun k hk hne=>(h.block k (Nat.lt_of_lt_of_le hk ha.size) hne).trans (ha.block k hk)⟩
theorem At {B:Nat} {v:Value} {s:Ls} {b:Int} (w:World) (h:bI B w v s.n s.d) (hb:ag b) (hn:s.n<=900000) (hB:B<=w.heap.size) :
    Calls prog 268 #[v,G6 b] w fun e w'=>∃ v',e=.returned v'∧bI B w' v' (s.add b).n (s.add b).d∧w.grownBy w' v.ownBlock:=by
  have hz:=fun W=>nN hb W
  by_cases h0:rg b=0
  · have e:s.add b=s:=by unfold Ls.add;rw[if_pos h0]
    rw[decide_eq_true h0] at hz
    rw[e]
    go_enter func268,ntmps268
    go_wp2_with (go_at_call 266;refine(hz _).mono ?_;rintro _ _ ⟨rfl,rfl⟩)
    go_ret
    exact⟨v,rfl,h,World.grownBy.refl _ _⟩
  · have e:s.add b=⟨s.n+1,cr s.d s.n b⟩:=by unfold Ls.add;rw[if_neg h0]
    rw[decide_eq_false h0] at hz
    rw[e]
    go_enter func268,ntmps268
    go_wp2_with (first
      | (go_at_call 266;refine(hz _).mono ?_;rintro _ _ ⟨rfl,rfl⟩)
      | (at_builtin; refine cL rfl _ _ rfl B _ s.n s.d rfl (h.stays (af _ _)) _ 1 1 (fun _=>b) rfl (iR _ _ rfl) (by omega) (by simp; omega) ?_; intro v' w1 hO1 hg1))
    go_ret
    refine⟨v',rfl,hO1.congr fun i hi=>?_,?_⟩
    · by_cases e:i<s.n
      · simp[kS,e,bg s.d _ (show i≠s.n by omega)]
      · obtain rfl:i=s.n:=by omega
        simp[kS,bG]
    · exact nB hg1
def oU (w:World) (g cap N:Nat) (s:Ls):Prop:=∃ cur,w.heap[g]?=some (.cells cur 3 (0,0))∧cur.size=cap∧∀ i,i<N->cur[i]?=some (G6 (s.d i))
theorem oU.keeps {w w':World} {g cap N:Nat} {s:Ls} (h:oU w g cap N s) (hb:Below w.heap.size w w'):oU w' g cap N s:=by
 obtain⟨cur,h1,h2⟩:=h
 exact⟨cur,(hb.block _ (aGe h1).1).trans h1,h2⟩
theorem oU.out {w:World} {B g cap N:Nat} {s:Ls} (h:oU w g cap N s) (hn:s.n<=N) (hN:N<=cap) (hB:B<=g) (hm:cap<=9223372036854775807):bI B w (.slice (some ⟨g,0,none⟩) s.n cap) s.n s.d:=by
 obtain⟨cur,h1,h2,h3⟩:=h
 refine⟨by rw[cN];omega,.inr ⟨g,cap,cur,rfl,hB,h1,by omega,by unfold maxLen;omega,by omega,?_⟩⟩
 apply mj (by simp;omega)
 intro i hi
 rw[List.getElem?_take,if_pos (by omega),Array.getElem?_toList]
 exact h3 i (by omega)
theorem bI.inB {B:Nat} {w:World} {g n cap:Nat} {d:Nat->Int} (h:bI B w (.slice (some ⟨g,0,none⟩) n cap) n d):oU w g cap n ⟨0,d⟩∧n<=cap∧cap<=9223372036854775807∧B<=g:=by
 rcases h.2 with⟨e,_⟩|⟨g',cap',cur,e,hb,hg,hn,hm,hs,ht⟩
 ·simp at e
 ·simp only[Value.slice.injEq,Option.some.injEq,Addr.mk.injEq,and_true,true_and] at e
  obtain⟨rfl,rfl⟩:=e
  refine⟨⟨cur,hg,by omega,fun i hi=>?_⟩,hn,by unfold maxLen at hm;exact hm,hb⟩
  have e:(cur.toList.take (n*1))[i]?=(gV d n)[i]?:=by rw[ht]
  rw[List.getElem?_take,if_pos (by omega),iI d hi,Array.getElem?_toList] at e
  exact e
theorem Au {w:World} {ops:Array Oper} {rest:List Oper} {o:Oper} {a:Act} {Q:Exit->Act->World->Prop} (hgd:o.guard=none) (s x:Operand)
    (ho:o.op=.call { callee:=.builtin .append,args:=#[s,x],argTypes:=#[38,38] }) (g m cap N:Nat) (r:Ls) (hs:a.eval s=.slice (some ⟨g,0,none⟩) m cap) (hI:oU w g cap N r) (hm:m<cap)
    (ad:Addr) (b:Int) (hx:a.eval x=.slice (some ad) 1 1) (hc:w.cell? ad=some (G6 b))
    (h:∀ w',oU w' g cap N ⟨m+1,cr r.d m b⟩->w.grownBy w' (some g)->wpList prog ops Q rest (a.put o.dst (.slice (some ⟨g,0,none⟩) (m+1) cap)) w'):wpList prog ops Q (o :: rest) a w:=by
  obtain⟨i0,hi,hz0,hz1,hz2⟩:=info_parts jX
  obtain⟨cur,hg,hs2,hr⟩:=hI
  refine wpList_plain hgd fun K hK'=>?_
  have hr2:=run_append_room (P:=prog) w 38 o.type 3 i0 underlying38 hi g m cap cur hg ad 1 1 [G6 b] (by rw [hz1]; rfl) (by
    intro j u hu
    match j,hu with
    | 0,hu=>
      simp at hu
      subst hu
      rw[show ad.add 0=ad by unfold Addr.add;split<;>simp_all]
      exact hc) (by simp [Value.oneCell']) (by omega) (by rw [hz1]; simp; omega)
  unfold Oper.wp
  simp[execOp,ho,resolve,invoke,builtin,hs,hx,hr2,Result.andThen]
  refine hK' _ _ (h _ ?_ ?_)
  · refine⟨_,setRow_heap w g cur _ _ _ hg,?_,fun i hi=>?_⟩
    · simp[hz1];omega
    · rw[hz1]
      show(cur.toList.take (m*1) ++ Value.int .i64 b :: cur.toList.drop (m*1+1)).toArray[i]?=some (G6 (cr r.d m b i))
      rw[Nat.mul_one]
      have hl:(cur.toList.take m).length=m:=by simp;omega
      rw[List.getElem?_toArray]
      by_cases e:i=m
      · subst e
        rw[bG,List.getElem?_append_right (by omega),hl]
        simp
      · rw[bg _ _ e,<- hr i hi]
        by_cases e2:i<m
        · rw[List.getElem?_append_left (by omega),List.getElem?_take,if_pos e2,Array.getElem?_toList]
        · rw[List.getElem?_append_right (by omega),hl]
          obtain⟨j,hj⟩:∃ j,i-m=j+1:=⟨i-m-1,by omega⟩
          rw[hj,List.getElem?_cons_succ,List.getElem?_drop,Array.getElem?_toList]
          rw[show m+1+j=i by omega]
  · exact⟨rfl,rfl,rfl,by simp,fun k _ hk=>setRow_other w g k _ (fun e=>hk (by simp[e]))⟩
theorem Ds {g cap N:Nat} {s:Ls} {b:Int} (w:World) (h:oU w g cap N s) (hb:ag b) (hn:s.n<cap) :
    Calls prog 268 #[.slice (some ⟨g,0,none⟩) s.n cap,G6 b] w fun e w'=>e=.returned (.slice (some ⟨g,0,none⟩) (s.add b).n cap)∧oU w' g cap N (s.add b)∧w.grownBy w' (some g):=by
  have hz:=fun W=>nN hb W
  by_cases h0:rg b=0
  · have e:s.add b=s:=by unfold Ls.add;rw[if_pos h0]
    rw[decide_eq_true h0] at hz
    rw[e]
    go_enter func268,ntmps268
    go_wp2_with (go_at_call 266;refine(hz _).mono ?_;rintro _ _ ⟨rfl,rfl⟩)
    go_ret
    exact⟨rfl,h,World.grownBy.refl _ _⟩
  · have e:s.add b=⟨s.n+1,cr s.d s.n b⟩:=by unfold Ls.add;rw[if_neg h0]
    rw[decide_eq_false h0] at hz
    rw[e]
    have hr:=fun W:World=>iR W b rfl
    go_enter func268,ntmps268
    go_wp2_with (first
      | (go_at_call 266;refine(hz _).mono ?_;rintro _ _ ⟨rfl,rfl⟩)
      | (at_builtin; refine Au rfl _ _ rfl g s.n cap N s rfl (h.keeps (af _ _)) hn _ b rfl (by obtain ⟨bb,off,e1,_,hc⟩:=(hr _).spot (by omega); simp only [Option.some.injEq] at e1; have:=hc 0 (by omega); rw [Nat.add_zero] at this; rw [<- e1] at this; exact this) ?_; intro w1 hI1 hg1))
    go_ret
    refine⟨rfl,hI1,?_⟩
    exact nB hg1
theorem wS {p q:Int} (hp:ag p) (hq:ag q) (pp:ak p=true) (pq:ak q=true) (w:World) :
  Calls prog 262 #[G6 p,G6 q] w fun e w'=>e=.returned (.tuple #[G6 (aF p q),G6 (sL p q),.bool (ak (sL p q))])∧Below w.heap.size w w':=by
 have:=vH hp hq w
 rw[nM pp hp,nM pq hq] at this
 exact this
theorem GL {B:Nat} {w w':World} {g:Nat} (h:w.grownBy w' (some g)) (hB:B<=g) (hw:B<=w.heap.size):Below B w w' :=
 (Below.refl B w).grown h hw (fun k hk=>by simp at hk;omega)
theorem nC {w w1 w2:World} {o:Option Nat} (h:w.grownBy w1 o) (k:Below w1.heap.size w1 w2):w.grownBy w2 o :=
 ⟨k.os.trans h.os,k.tape.trans h.tape,k.output.trans h.output,Nat.le_trans h.size k.size,fun j hj hne=>(k.block j (Nat.lt_of_lt_of_le hj h.size)).trans (h.block j hj hne)⟩
theorem sY {w w1 w2:World} {o:Option Nat} (h:w.grownBy w1 o) (k:w1.grownBy w2 o):w.grownBy w2 o :=
 ⟨k.os.trans h.os,k.tape.trans h.tape,k.output.trans h.output,Nat.le_trans h.size k.size,fun j hj hne=>(k.block j (Nat.lt_of_lt_of_le hj h.size) hne).trans (h.block j hj hne)⟩
theorem EK {B g n cap:Nat} {d:Nat->Int} {q:Int} (w:World) (h:bI B w (.slice (some ⟨g,0,none⟩) n cap) n d) (hd:∀ i,i<n->ag (d i)∧ak (d i)=true) (hq:ag q) (pq:ak q=true) (hn:n<=800000) (hB:B<=w.heap.size) :
  Calls prog 264 #[.slice (some ⟨g,0,none⟩) n cap,G6 q] w fun e w'=>(gx d q n=true∧∃ v',e=.returned v'∧bI B w' v' (iZ n d q).n (iZ n d q).d∧w.grownBy w' (some g))∨(gx d q n=false∧e=dD∧w.grownBy w' (some g)):=by
 obtain⟨hI,hnc,hcm,hBg⟩:=h.inB
 have HQ:Hid (∀ k,k<=n->gx d q k=true->ag (gq d q k)∧ak (gq d q k)=true):=kU hd hq pq
 have HDD:Hid (∀ i,i<n->ag (d i)∧ak (d i)=true):=hd
 have hgl:g<w.heap.size:=by obtain⟨cur,h1,_⟩:=hI;exact(aGe h1).1
 clear hd h hq pq
 go_enter func264,ntmps264
 go_wp2_with fail
 go_loopw [1,5,13] (fun qv gv iv wr=>∃ k:Nat,k<=n∧iv=G6 k∧qv=G6 (gq d q k)∧gv=.slice (some ⟨g,0,none⟩) (gs d q k).n cap∧Hid (gx d q k=true)∧Hid (oU wr g cap n (gs d q k))∧Hid (w.grownBy wr (some g))) (fun _ _ iv _=>n-(intOf iv).toNat)
 case atStart=>exact⟨0,Nat.zero_le _,rfl,rfl,rfl,rfl,hI,World.grownBy.refl _ _⟩
 case round=>
  obtain⟨k,hk,rfl,rfl,rfl,HX,HI,HG⟩:=hrel
  clear hI
  have hsn:=vJ d q k
  by_cases hlt:k<n
  ·obtain⟨r1,r2⟩:=HQ.out k hk HX.out
   obtain⟨d1,d2⟩:=HDD.out k hlt
   have c0:wr.cell? ⟨g,k,none⟩=some (G6 (d k)):=by
    obtain⟨cur,h1,h2,h3⟩:=HI.out
    rw[cell_of_row wr g k cur _ _ h1,h3 k hlt,tC d q k k (Nat.le_refl _)]
   have CT:Hid (∀ W,Calls prog 262 #[G6 (gq d q k),G6 (d k)] W fun e w'=>e=.returned (.tuple #[G6 (gq d q (k+1)),G6 (gl d q k),.bool (ak (gl d q k))])∧Below W.heap.size W w'):=fun W=>wS r1 d1 r2 d2 W
   have rl:ag (gl d q k):=kT r1 d1
   have i0:(0:Int)<=(k:Int):=by omega
   have i1:(k:Int)<(n:Int):=by omega
   have HS:Hid (gs d q (k+1)=(gs d q k).add (gl d q k)):=rfl
   have HXS:Hid (gx d q (k+1)=(gx d q k&&ak (gl d q k))):=rfl
   have HNO:Hid (ak (gl d q k)=false->gx d q n=false):=fun hno=>by
    cases hx:gx d q n
    ·rfl
    ·have:=wR (show k+1<=n by omega) hx
     rw[HXS.out,hno,Bool.and_false] at this
     cases this
   obtain⟨q',hq'⟩:∃ q',gq d q (k+1)=q':=⟨_,rfl⟩
   rw[hq'] at CT
   have HQ':Hid (gq d q (k+1)=q'):=hq'
   clear hq'
   generalize gl d q k=l at *
   generalize gq d q k=q0 at *
   generalize hd0:d k=dk at *
   have HD0:Hid (d k=dk):=hd0
   clear hd0 r1 r2 d1 d2
   have CA:=fun W h=>Ds (g:=g) (cap:=cap) (N:=n) (s:=gs d q k) (b:=l) W h rl (by omega)
   generalize hs0:gs d q k=s0 at *
   have HS0:Hid (gs d q k=s0):=hs0
   clear hs0
   cases hl:ak l
   ·rw[hl] at CT
    go_wp2_with fail
    refine(CT.out _).mono ?_
    rintro _ w1 ⟨rfl,hb1⟩
    go_wp2_with fail
    refine(mz _ _ _).mono ?_
    rintro _ _ ⟨rfl,rfl⟩
    unfold dD
    go_wp2
    exact⟨rfl,.inr ⟨HNO.out hl,rfl,nC HG.out hb1⟩⟩
   ·rw[hl] at CT
    go_wp2_with fail
    refine(CT.out _).mono ?_
    rintro _ w1 ⟨rfl,hb1⟩
    go_wp2_with fail
    refine(iE _ _ _).mono ?_
    rintro _ _ ⟨rfl,rfl⟩
    rename_i w1
    go_wp2_with fail
    refine(CA _ (HI.out.keeps hb1)).mono ?_
    rintro _ w2 ⟨rfl,hI2,hg2⟩
    go_wp2
    go_roundw
    case rel=>exact⟨k+1,by omega,by go_num,by rw[HQ'.out],by rw[HS.out],by show _=_;rw[HXS.out,HX.out,hl];rfl,by show oU _ _ _ _ _;rw[HS.out];exact hI2,sY (nC HG.out hb1) hg2⟩
    case measure=>simp[intOf];omega
  ·obtain rfl:k=n:=by omega
   have hO:=HI.out.out (B:=B) hsn hnc hBg hcm
   have hwr:B<=wr.heap.size:=Nat.le_trans hB HG.out.size
   have HQ2:Hid (ag (gq d q k)∧ak (gq d q k)=true):=HQ.out k hk HX.out
   have CA:Hid (∀ W,W=wr->Calls prog 268 #[.slice (some ⟨g,0,none⟩) (gs d q k).n cap,G6 (gq d q k)] W fun e w'=>∃ v',e=.returned v'∧bI B w' v' (iZ k d q).n (iZ k d q).d∧W.grownBy w' (some g)):=fun W hW=>by
    subst hW
    exact At W hO HQ2.out.1 (by omega) hwr
   generalize gq d q k=q0 at *
   generalize gs d q k=s0 at *
   clear hO
   go_wp2_with fail
   refine(CA.out _ rfl).mono ?_
   rintro _ w2 ⟨v',rfl,hO2,hg2⟩
   go_wp2
   go_ret
   exact .inl ⟨HX.out,v',rfl,hO2,sY HG.out hg2⟩
theorem GM {B n:Nat} {v:Value} {d:Nat->Int} {q:Int} (w:World) (h:bI B w v n d) (hd:∀ i,i<n->ag (d i)∧ak (d i)=true) (hq:ag q) (pq:ak q=true) (hn:n<=800000) (hB:B<=w.heap.size) :
  Calls prog 264 #[v,G6 q] w fun e w'=>(gx d q n=true∧∃ v',e=.returned v'∧bI B w' v' (iZ n d q).n (iZ n d q).d∧w.grownBy w' v.ownBlock)∨(gx d q n=false∧e=dD∧w.grownBy w' v.ownBlock):=by
 rcases id h.2 with⟨rfl,rfl⟩|⟨g,cap,cur,rfl,_⟩
 ·have CA:Hid (∀ W,W=w->Calls prog 268 #[.slice none 0 0,G6 q] W fun e w'=>∃ v',e=.returned v'∧bI B w' v' (iZ 0 d q).n (iZ 0 d q).d∧W.grownBy w' none):=fun W hW=>by
   subst hW
   exact At (s:=⟨0,d⟩) W h hq (Nat.zero_le _) hB
  clear h hd hq pq
  go_enter func264,ntmps264
  go_wp2_with fail
  go_loopw [1,5,13] (fun qv gv iv wr=>iv=G6 0∧qv=G6 q∧gv=.slice none 0 0∧wr=w) (fun _ _ iv _=>0)
  case atStart=>exact⟨rfl,rfl,rfl,rfl⟩
  case round=>
   obtain⟨rfl,rfl,rfl,rfl⟩:=hrel
   go_wp2_with fail
   refine(CA.out _ rfl).mono ?_
   rintro _ w2 ⟨v',rfl,hO2,hg2⟩
   go_wp2
   go_ret
   exact .inl ⟨rfl,v',rfl,hO2,hg2⟩
 ·exact EK w h hd hq pq hn hB
def jF (B:Nat) (w:World) (v:Value) (s:Ls):Prop:=bI B w v s.n s.d∨(s.n=0∧∃ ad,v=.slice (some ad) 0 0)
def yi (B:Nat) (w:World) (v:Value) (w':World):Prop:=w.grownBy w' none∨∃ k,v.ownBlock=some k∧B<=k∧w.grownBy w' (some k)
theorem yi.of_out {B:Nat} {w w':World} {v:Value} {n:Nat} {d:Nat->Int} (h:bI B w v n d) (g:w.grownBy w' v.ownBlock):yi B w v w':=by
 cases e:v.ownBlock with
 | none=>rw[e] at g;exact .inl g
 | some k=>rw[e] at g;exact .inr ⟨k,e,gy h k e,g⟩
theorem yi.below {B:Nat} {w w':World} {v:Value} (h:yi B w v w') (hB:B<=w.heap.size):Below B w w':=by
 rcases h with h|⟨k,_,hk,h⟩
 ·exact(Below.refl B w).grown h hB (fun k hk=>by cases hk)
 ·exact GL h hk hB
theorem OV {ad:Addr} {d:Nat->Int} {b:Int} (w:World) (hb:ag b) :
    Calls prog 268 #[.slice (some ad) 0 0,G6 b] w fun e w'=>∃ v',e=.returned v'∧jF w.heap.size w' v' ((⟨0,d⟩:Ls).add b)∧w.grownBy w' none:=by
  have hz:=fun W=>nN hb W
  by_cases h0:rg b=0
  · have e:(⟨0,d⟩:Ls).add b=⟨0,d⟩:=by unfold Ls.add;rw[if_pos h0]
    rw[decide_eq_true h0] at hz
    rw[e]
    go_enter func268,ntmps268
    go_wp2_with (go_at_call 266;refine(hz _).mono ?_;rintro _ _ ⟨rfl,rfl⟩)
    go_ret
    exact⟨_,rfl,.inr ⟨rfl,ad,rfl⟩,World.grownBy.refl _ _⟩
  · have e:(⟨0,d⟩:Ls).add b=⟨1,cr d 0 b⟩:=by unfold Ls.add;rw[if_neg h0]
    rw[decide_eq_false h0] at hz
    rw[e]
    obtain⟨i0,hi,hz0,hz1,hz2⟩:=info_parts jX
    have hr:=fun W:World=>iR W b rfl
    go_enter func268,ntmps268
    go_wp2_with (first
      | (go_at_call 266;refine(hz _).mono ?_;rintro _ _ ⟨rfl,rfl⟩)
      | (at_builtin; refine wpList_append_grows _ rfl _ _ 38 rfl 3 i0 (G6 0) 1 8 underlying38 hi hz0 hz1 hz2 rfl (by decide) (some ad) 0 0 [] rfl (fun q=>by cases q) rfl (fun _ _ j u hu=>by simp at hu) _ 1 1 [G6 b] rfl rfl (by intro j u hu; match j,hu with | 0,hu=>(simp at hu; subst hu; obtain ⟨bb,off,e1,_,hc⟩:=(hr _).spot (by omega); simp only [Option.some.injEq] at e1; have:=hc 0 (by omega); rw [Nat.add_zero] at this; rw [<- e1] at this; rw [qA]; exact this)) (by simp [Value.oneCell']) (by omega) (by unfold maxLen; omega) (by omega) ?_; intro v' w1 hO1 hg1))
    go_ret
    refine⟨v',rfl,.inl ?_,nB hg1⟩
    have hO2:=hO1
    rw [show ([] ++ [Value.int .i64 b]:List Value)=gV (cr d 0 b) (0+1) from (mj rfl fun i hi=>by
      match i,hi with
      | 0,_=>simp [bG])] at hO2
    have hO3:bI _ w1 v' (0+1) (cr d 0 b):=hO2
    exact hO3.lower (by simp)
theorem MW {ad:Addr} {d:Nat->Int} {q:Int} (w:World) (hq:ag q) :
  Calls prog 264 #[.slice (some ad) 0 0,G6 q] w fun e w'=>∃ v',e=.returned v'∧jF w.heap.size w' v' (iZ 0 d q)∧w.grownBy w' none:=by
 have CA:Hid (∀ W,W=w->Calls prog 268 #[.slice (some ad) 0 0,G6 q] W fun e w'=>∃ v',e=.returned v'∧jF W.heap.size w' v' (iZ 0 d q)∧W.grownBy w' none):=fun W hW=>by
  subst hW
  exact OV W hq
 clear hq
 go_enter func264,ntmps264
 go_wp2_with fail
 go_loopw [1,5,13] (fun qv gv iv wr=>iv=G6 0∧qv=G6 q∧gv=.slice (some ad) 0 0∧wr=w) (fun _ _ iv _=>0)
 case atStart=>exact⟨rfl,rfl,rfl,rfl⟩
 case round=>
  obtain⟨rfl,rfl,rfl,rfl⟩:=hrel
  go_wp2_with fail
  refine(CA.out _ rfl).mono ?_
  rintro _ w2 ⟨v',rfl,hO2,hg2⟩
  go_wp2
  go_ret
  exact⟨v',rfl,hO2,hg2⟩
theorem jF.lower {B B':Nat} {w:World} {v:Value} {s:Ls} (h:jF B w v s) (hB:B'<=B):jF B' w v s:=by
 rcases h with h|h
 ·exact .inl (h.lower hB)
 ·exact .inr h
theorem MX {B:Nat} {v:Value} {s:Ls} {q:Int} (w:World) (h:jF B w v s) (hd:∀ i,i<s.n->ag (s.d i)∧ak (s.d i)=true) (hq:ag q) (pq:ak q=true) (hn:s.n<=800000) (hB:B<=w.heap.size) :
  Calls prog 264 #[v,G6 q] w fun e w'=>(gx s.d q s.n=true∧∃ v',e=.returned v'∧jF B w' v' (iZ s.n s.d q)∧yi B w v w')∨(gx s.d q s.n=false∧e=dD∧yi B w v w'):=by
 rcases h with h|⟨h0,ad,rfl⟩
 ·refine(GM w h hd hq pq hn hB).mono ?_
  rintro e w' (⟨h1,v',h2,h3,h4⟩|⟨h1,h2,h3⟩)
  ·exact .inl ⟨h1,v',h2,.inl h3,yi.of_out h h4⟩
  ·exact .inr ⟨h1,h2,yi.of_out h h3⟩
 ·obtain⟨sn,sd⟩:=s
  simp only at h0
  subst h0
  refine(MW (d:=sd) w hq).mono ?_
  rintro e w' ⟨v',h1,h2,h3⟩
  exact .inl ⟨rfl,v',h1,h2.lower hB,.inl h3⟩
def Ls.fin (s:Ls):Prop:=∀ i,i<s.n->ag (s.d i)∧ak (s.d i)=true
theorem Ls.fin.add {s:Ls} (h:s.fin) {b:Int} (hb:ag b) (pb:ak b=true):(s.add b).fin:=by
 unfold Ls.add
 split
 ·exact h
 ·intro i hi
  show ag (cr s.d s.n b i)∧ak (cr s.d s.n b i)=true
  by_cases e:i=s.n
  ·subst e;rw[bG];exact⟨hb,pb⟩
  ·rw[bg _ _ e]
   exact h i (by have:i<s.n+1:=hi;omega)
theorem GN {d:Nat->Int} {q:Int} {n:Nat} (hd:∀ i,i<n->ag (d i)∧ak (d i)=true) (hq:ag q) (pq:ak q=true):∀ k,k<=n->gx d q k=true->(gs d q k).fin
 | 0,_,_=>fun i hi=>absurd hi (Nat.not_lt_zero _)
 | k+1,hk,hx=>by
  have hx':(gx d q k&&ak (gl d q k))=true:=hx
  rw[Bool.and_eq_true] at hx'
  obtain⟨r1,r2⟩:=kU hd hq pq k (by omega) hx'.1
  exact(GN hd hq pq k (by omega) hx'.1).add (kT r1 (hd k (by omega)).1) hx'.2
theorem MY {s:Ls} {q:Int} (hs:s.fin) (hq:ag q) (pq:ak q=true) (hx:gx s.d q s.n=true):(iZ s.n s.d q).fin:=by
 obtain⟨r1,r2⟩:=kU hs hq pq s.n (Nat.le_refl _) hx
 exact(GN hs hq pq s.n (Nat.le_refl _) hx).add r1 r2
theorem OW (n:Nat) (d:Nat->Int) (q:Int):(iZ n d q).n<=n+1:=by
 have h1:=vJ d q n
 have h2:=((gs d q n).add_le (gq d q n)).2
 show((gs d q n).add _).n<=n+1
 omega
def dw (s:Ls) (f:Nat->Int):Nat->Ls
 | 0=>s
 | k+1=>iZ (dw s f k).n (dw s f k).d (f k)
def fe (s:Ls) (f:Nat->Int):Nat->Bool
 | 0=>true
 | k+1=>fe s f k&&gx (dw s f k).d (f k) (dw s f k).n
theorem vL (s:Ls) (f:Nat->Int):∀ k,(dw s f k).n<=s.n+k
 | 0=>Nat.le_refl _
 | k+1=>by
  have h1:=vL s f k
  have h2:=OW (dw s f k).n (dw s f k).d (f k)
  show(iZ _ _ _).n<=s.n+(k+1)
  omega
theorem uJ {s:Ls} {f:Nat->Int}:∀ {k j},j<=k->fe s f k=true->fe s f j=true
 | 0,j,h,hx=>by
  obtain rfl:j=0:=by omega
  rfl
 | k+1,j,h,hx=>by
  by_cases e:j=k+1
  ·subst e;exact hx
  ·have:(fe s f k&&gx (dw s f k).d (f k) (dw s f k).n)=true:=hx
   rw[Bool.and_eq_true] at this
   exact uJ (by omega) this.1
theorem tD {s:Ls} {f:Nat->Int} {m:Nat} (hs:s.fin) (hf:∀ i,i<m->ag (f i)∧ak (f i)=true):∀ k,k<=m->fe s f k=true->(dw s f k).fin
 | 0,_,_=>hs
 | k+1,hk,hx=>by
  have hx':(fe s f k&&gx (dw s f k).d (f k) (dw s f k).n)=true:=hx
  rw[Bool.and_eq_true] at hx'
  obtain⟨r1,r2⟩:=hf k (by omega)
  exact MY (tD hs hf k (by omega) hx'.1) r1 r2 hx'.2
theorem GO {ad:Addr} {n cap:Nat} {d:Nat->Int} (w:World) (h:aU w (some ad) n cap d) (h0:0<n) (hn:n<=700000) :
  Calls prog 214 #[.slice (some ad) n cap] w fun e w'=>∃ v',e=.returned v'∧bI w.heap.size w' v' n d∧w.grownBy w' none:=by
 obtain⟨i0,hi,hz0,hz1,hz2⟩:=info_parts jX
 obtain⟨b,off,e0,hb,hc⟩:=h.spot h0
 have hle:=h.le
 have hmx:=h.max
 simp only[Option.some.injEq] at e0
 subst e0
 go_enter func214,ntmps214
 go_wp2_with (at_builtin;refine wpList_append_grows _ rfl _ _ 38 rfl 3 i0 (G6 0) 1 8 underlying38 hi hz0 hz1 hz2 rfl (by decide) _ 0 0 [] rfl (fun q=>⟨rfl,rfl⟩) rfl (fun _ _ j u hu=>by simp at hu) _ n cap (gV d n) rfl (by rw[cN];omega) (by intro j u hu;have hj:j<n:=(by have:=(List.getElem?_eq_some_iff.1 hu).1;rwa [cN] at this);rw[iI d hj] at hu;rw[qA,hc j hj];exact hu) (uq d n) (by omega) (by unfold maxLen;omega) (by omega) ?_;intro v' w1 hO1 hg1)
 go_ret
 refine⟨v',rfl,?_,hg1⟩
 rw[Nat.zero_add,List.nil_append] at hO1
 exact hO1
theorem GR (ad ad2:Addr) (c:Nat) (ty:TypeId) (w:World):(Builtin.append_ #[38,38] ty #[.slice (some ad) 0 0,.slice (some ad2) 0 c]).run prog w=.ok (.slice (some ad) 0 0) w:=by
 obtain⟨i0,hi,hz0,hz1,hz2⟩:=info_parts jX
 have hf:=run_firstCells_some (P:=prog) w i0.size 0 ad2 0 c [] (by simp) (by intro j u hu;simp at hu)
 simp[Builtin.append_,run_underlying underlying38,sizeOf,typeInfo,hi,Builtin.lenOf,hf,storeCells]
theorem JO (w:World):Calls prog 214 #[.slice none 0 0] w fun e w'=>e=.returned (.slice none 0 0)∧w'=w:=by
 obtain⟨i0,hi,hz0,hz1,hz2⟩:=info_parts jX
 go_enter func214,ntmps214
 go_wp2_with (at_builtin;refine wpList_append_own_none rfl _ _ 38 rfl w.heap.size 3 i0 1 underlying38 hi (.slice none 0 0) 0 [] rfl (World.ownsRow_nil _ _ _ _) rfl ?_)
 go_ret
 exact⟨rfl,rfl⟩
theorem GT (ad:Addr) (cap:Nat) (hm:cap<=9223372036854775807) (w:World):Calls prog 214 #[.slice (some ad) 0 cap] w fun e w'=>(∃ ad',e=.returned (.slice (some ad') 0 0))∧w'=w:=by
 have h0:=GR
 go_enter func214,ntmps214
 go_wp2
 all_goals go_ret
 all_goals exact⟨⟨_,rfl⟩,rfl⟩
theorem JP {ao:Option Addr} {n cap:Nat} {d:Nat->Int} (w:World) (h:aU w ao n cap d) (hn:n<=700000) :
  Calls prog 214 #[.slice ao n cap] w fun e w'=>∃ v',e=.returned v'∧jF w.heap.size w' v' ⟨n,d⟩∧w.grownBy w' none:=by
 cases ao with
 | none=>
  have hc:=h.nl rfl
  have hl:=h.le
  subst hc
  obtain rfl:n=0:=by omega
  refine(JO w).mono ?_
  rintro e w' ⟨rfl,rfl⟩
  exact⟨_,rfl,.inl (bI.nil _ _ _),World.grownBy.refl _ _⟩
 | some ad=>
  by_cases h0:n=0
  ·subst h0
   refine(GT ad cap h.max w).mono ?_
   rintro e w' ⟨⟨ad',rfl⟩,rfl⟩
   exact⟨_,rfl,.inr ⟨rfl,ad',rfl⟩,World.grownBy.refl _ _⟩
  ·refine(GO w h (by omega) hn).mono ?_
   rintro e w' ⟨v',rfl,h1,h2⟩
   exact⟨v',rfl,.inl h1,h2⟩
theorem oq (s:Ls) (f:Nat->Int) (k:Nat):dw s f (k+1)=iZ (dw s f k).n (dw s f k).d (f k):=rfl
theorem lk (s:Ls) (f:Nat->Int) (k:Nat):fe s f (k+1)=(fe s f k&&gx (dw s f k).d (f k) (dw s f k).n):=rfl
theorem jF.shape {B:Nat} {w:World} {v:Value} {s:Ls} (h:jF B w v s):∃ ao cap,v=.slice ao s.n cap:=by
 rcases h with h|⟨h0,ad,rfl⟩
 ·obtain⟨ao,cap,e,_⟩:=h.row
  exact⟨ao,cap,e⟩
 ·exact⟨some ad,0,by rw[h0]⟩
theorem BW {B:Nat} {v:Value} {s:Ls} {fo:Option Addr} {m fc:Nat} {f:Nat->Int} (w:World) (h:jF B w v s) (hs:s.fin) (hf:∀ W,Below B w W->aU W fo m fc f) (hff:∀ i,i<m->ag (f i)∧ak (f i)=true) (hn:s.n+m<=700000) (hB:B<=w.heap.size) :
  Calls prog 213 #[v,.slice fo m fc] w fun e w'=>(fe s f m=true∧∃ v',e=.returned v'∧jF B w' v' (dw s f m)∧Below B w w')∨(fe s f m=false∧e=dD∧Below B w w'):=by
 have hR:=hf w (Below.refl _ _)
 have hle:=hR.le
 have hmx:=hR.max
 have HF:Hid (∀ W,Below B w W->aU W fo m fc f):=hf
 have HFF:Hid (∀ i,i<m->ag (f i)∧ak (f i)=true):=hff
 have HFI:Hid (∀ k,k<=m->fe s f k=true->(dw s f k).fin):=tD hs hff
 have hL:=vL s f
 obtain⟨ao0,cap0,rfl⟩:=h.shape
 clear hf hff hR hs
 go_enter func213,ntmps213
 go_wp2_with fail
 go_loopw [0,9] (fun hv iv wr=>∃ (k:Nat) (v0:Value),k<=m∧iv=G6 k∧hv=v0∧Hid (fe s f k=true)∧Hid (jF B wr v0 (dw s f k))∧Hid (Below B w wr)) (fun _ iv _=>m-(intOf iv).toNat)
 case atStart=>exact⟨0,_,Nat.zero_le _,rfl,rfl,rfl,h,Below.refl _ _⟩
 case round=>
  obtain⟨k,hv,hk,rfl,hve,HX,HL,HBW⟩:=hrel
  replace hve:=hve.symm
  subst hve
  clear h
  have hLk:=hL k
  by_cases hlt:k<m
  ·obtain⟨b,off,rfl,hbb,hc⟩:=(HF.out _ HBW.out).spot (by omega)
   have c0:=hc k hlt
   clear hc
   obtain⟨d1,d2⟩:=HFF.out k hlt
   have hwr:B<=wr.heap.size:=Nat.le_trans hB HBW.out.size
   have CG:Hid (∀ W,W=wr->Calls prog 264 #[hv,G6 (f k)] W fun e w'=>(fe s f (k+1)=true∧∃ v',e=.returned v'∧jF B w' v' (dw s f (k+1))∧Below B W w')∨(fe s f m=false∧e=dD∧Below B W w')):=fun W hW=>by
    subst hW
    rw[oq,lk]
    refine(MX W HL.out (HFI.out k hk HX.out) d1 d2 (by omega) hwr).mono ?_
    rintro e w' (⟨h1,v',h2,h3,h4⟩|⟨h1,h2,h3⟩)
    ·exact .inl ⟨by rw[HX.out,h1];rfl,v',h2,h3,h4.below hwr⟩
    ·refine .inr ⟨?_,h2,h3.below hwr⟩
     cases hx:fe s f m
     ·rfl
     ·have:=uJ (show k+1<=m by omega) hx
      rw[lk,h1,Bool.and_false] at this
      cases this
   generalize f k=fk at *
   have i0:(0:Int)<=(k:Int):=by omega
   have i1:(k:Int)<(m:Int):=by omega
   go_wp2_with fail
   refine(CG.out _ rfl).mono ?_
   rintro _ w1 (⟨h1,v',rfl,h3,h4⟩|⟨h1,rfl,h3⟩)
   ·go_wp2
    go_roundw
    case rel=>exact⟨k+1,_,by omega,by go_num,rfl,h1,h3,HBW.out.trans h4⟩
    case measure=>simp[intOf];omega
   ·unfold dD
    go_wp2
    exact⟨rfl,.inr ⟨h1,rfl,HBW.out.trans h3⟩⟩
  ·obtain rfl:k=m:=by omega
   go_wp2
   go_ret
   exact .inl ⟨HX.out,_,rfl,HL.out,HBW.out⟩
def sq (d:Nat->Int) (b:Int):Nat->Int
 | 0=>aC (d 0) b
 | k+1=>aF (aC (d (k+1)) b) (aF (sq d b k) (cw (d (k+1)) b))
def ss (s:Ls) (d:Nat->Int) (b:Int):Nat->Ls
 | 0=>s.add (cw (d 0) b)
 | k+1=>((ss s d b k).add (sL (sq d b k) (cw (d (k+1)) b))).add (fL (aC (d (k+1)) b) (aF (sq d b k) (cw (d (k+1)) b)))
def sx (d:Nat->Int) (b:Int):Nat->Bool
 | 0=>pX (d 0) b
 | k+1=>sx d b k&&(pX (d (k+1)) b&&(ak (sL (sq d b k) (cw (d (k+1)) b))&&fX (aC (d (k+1)) b) (aF (sq d b k) (cw (d (k+1)) b))))
def yj (s:Ls) (d:Nat->Int) (b:Int) (n:Nat):Ls:=(ss s d b n).add (sq d b n)
theorem EM (s:Ls) (d:Nat->Int) (b:Int):∀ k,(ss s d b k).n<=s.n+2*k+1
 | 0=>(s.add_le _).2
 | k+1=>by
  have h1:=EM s d b k
  have h2:=((ss s d b k).add_le (sL (sq d b k) (cw (d (k+1)) b))).2
  have h3:=(((ss s d b k).add (sL (sq d b k) (cw (d (k+1)) b))).add_le (fL (aC (d (k+1)) b) (aF (sq d b k) (cw (d (k+1)) b)))).2
  show(((ss s d b k).add _).add _).n<=_
  omega
theorem nO (d:Nat->Int) (b:Int) (k:Nat):sx d b (k+1)=(sx d b k&&(pX (d (k+1)) b&&(ak (sL (sq d b k) (cw (d (k+1)) b))&&fX (aC (d (k+1)) b) (aF (sq d b k) (cw (d (k+1)) b))))):=rfl
theorem wT (d:Nat->Int) (b:Int) (k:Nat):sq d b (k+1)=aF (aC (d (k+1)) b) (aF (sq d b k) (cw (d (k+1)) b)):=rfl
theorem wV (s:Ls) (d:Nat->Int) (b:Int) (k:Nat):ss s d b (k+1)=((ss s d b k).add (sL (sq d b k) (cw (d (k+1)) b))).add (fL (aC (d (k+1)) b) (aF (sq d b k) (cw (d (k+1)) b))):=rfl
theorem wW {d:Nat->Int} {b:Int}:∀ {k j},j<=k->sx d b k=true->sx d b j=true
 | 0,j,h,hx=>by
  obtain rfl:j=0:=by omega
  exact hx
 | k+1,j,h,hx=>by
  by_cases e:j=k+1
  ·subst e;exact hx
  ·rw[nO,Bool.and_eq_true] at hx
   exact wW (by omega) hx.1
theorem Av {p q:Int} (hp:ag p) (hq:ag q) (h:pX p q=true):ak (aC p q)=true∧ak (cw p q)=true:=by
 unfold pX at h
 rw[Bool.and_eq_true] at h
 exact⟨(uI hp hq h.1).2.1,h.1⟩
theorem Aw {p q:Int} (hp:ag p) (hq:ag q) (h:fX p q=true):ak (aF p q)=true∧ak (fL p q)=true:=by
 unfold fX at h
 rw[Bool.and_eq_true] at h
 exact⟨(wP hp hq h.1).2,h.1⟩
theorem ot {d:Nat->Int} {b:Int} {n:Nat} (hd:∀ i,i<=n->ag (d i)∧ak (d i)=true) (hb:ag b):∀ k,k<=n->sx d b k=true->ag (sq d b k)∧ak (sq d b k)=true
 | 0,_,hx=>⟨bc (hd 0 (by omega)).1 hb,(Av (hd 0 (by omega)).1 hb hx).1⟩
 | k+1,hk,hx=>by
  rw[nO,Bool.and_eq_true,Bool.and_eq_true,Bool.and_eq_true] at hx
  obtain⟨h1,h2,h3,h4⟩:=hx
  obtain⟨r1,r2⟩:=ot hd hb k (by omega) h1
  obtain⟨d1,d2⟩:=hd (k+1) hk
  have rp:=iY d1 hb
  have rt:=bc d1 hb
  have rs:=aT r1 rp
  rw[wT]
  exact⟨aT rt rs,(Aw rt rs h4).1⟩
theorem Ax {p q:Int} (hp:ag p) (hq:ag q) (pp:ak p=true) (pq:ak q=true) (w:World) (H:aO w) :
  Calls prog 182 #[G6 p,G6 q] w fun e w'=>e=.returned (.tuple #[G6 (aC p q),G6 (cw p q),.bool (pX p q)])∧Below w.heap.size w w':=by
 have:=BV hp hq w H
 rw[nM pp hp,nM pq hq] at this
 exact this
theorem QF {p q:Int} (hp:ag p) (hq:ag q) (pp:ak p=true) (pq:ak q=true) (w:World) :
  Calls prog 269 #[G6 p,G6 q] w fun e w'=>e=.returned (.tuple #[G6 (aF p q),G6 (fL p q),.bool (fX p q)])∧Below w.heap.size w w':=by
 have:=wQ hp hq w
 rw[nM pp hp,nM pq hq] at this
 exact this
theorem Ay {v:Value} {eo:Option Addr} {ec:Nat} {b:Int} (w:World) :
  Calls prog 216 #[v,.slice eo 0 ec,G6 b] w fun e w'=>e=.returned v∧w'=w:=by
 go_enter func216,ntmps216
 go_wp2
 go_ret
 exact⟨rfl,rfl⟩
theorem yP {v:Value} {eo:Option Addr} {n ec:Nat} {b:Int} (w:World) (hb:ag b) (h0:rg b=0) (hn:n<=9223372036854775807) :
  Calls prog 216 #[v,.slice eo n ec,G6 b] w fun e w'=>e=.returned v∧w'=w:=by
 have hz:=fun W=>nN hb W
 rw[decide_eq_true h0] at hz
 go_enter func216,ntmps216
 go_wp2_with (go_at_call 266;refine(hz _).mono ?_;rintro _ _ ⟨rfl,rfl⟩)
 all_goals go_ret
 all_goals exact⟨rfl,rfl⟩
theorem MZ (w:World):(binOp .eql 20 Value.nilIface Value.nilIface).run prog w=.ok (.bool true) w:=by kernel_rfl
theorem Na (w:World):(binOp .eql 20 (.iface 29 (G6 14)) Value.nilIface).run prog w=.ok (.bool false) w:=by kernel_rfl
theorem OX (w:World):(binOp .eql 20 (.iface 29 (G6 14)) (.iface 29 (G6 14))).run prog w=.ok (.bool true) w:=by kernel_rfl
theorem uK (p:Addr) (x:Value) (older:List PanicEntry) (w:World) (hc:w.cell? p=some x) (hz:w.frozen? p=false) :
  CallsD prog 263 #[.pointer (some p)] (.panicking ({ v:=.iface 29 (G6 14),recovered:=false } :: older)) w fun e u' w'=>
   e=.returned (.tuple #[])∧u'=.panicking ({ v:=.iface 29 (G6 14),recovered:=true } :: older)∧w'=w.setCell p (G6 14):=by
 have h1:=Na
 have h2:=OX
 refine callsD_of_wpS func263 rfl fun c₀ cs hu=>?_
 apply wpS_seq
 apply wpS_region
 simp[wpOpsS,go_sem,recoverD,hu,ntmps263,Exit.thenS]
 refine wpS_of_wp ?_
 go_wp2
 simp[bodyPostS,results,results263]
theorem BX (p:Addr) (w:World) :
  CallsD prog 263 #[.pointer (some p)] .returning w fun e u' w'=>e=.returned (.tuple #[])∧u'=.returning∧w'=w:=by
 have h1:=MZ
 refine callsD_of_wpS func263 rfl fun c₀ cs hu=>?_
 apply wpS_seq
 apply wpS_region
 simp[wpOpsS,go_sem,recoverD,hu,ntmps263,Exit.thenS]
 refine wpS_of_wp ?_
 go_wp2
 cases c₀
 simp_all[bodyPostS,results,results263]
theorem JQ (F:Nat) (cap:Array Value) (w:World) (hE:∀ w,(callFunc F cap).run prog w=.ok (.enter F cap) w) (hF:∀ W,Below w.heap.size w W->Calls prog F cap W fun r W'=>r=dD∧Below W.heap.size W W') :
  Calls prog 211 #[.func (.func F) #[] cap] w fun r w'=>r=.returned (.tuple #[.slice none 0 0,G6 14])∧Below w.heap.size w w':=by
 have hmf:∀ (fn:Fn) (first cap:Array Value) (w:World),(Instr.makeFunc fn first cap).run prog w=.ok (.func fn first cap) w:=fun _ _ _ _=>rfl
 go_enter_defers func211,ntmps211
 go_wp2_with fail
 refine(hF _ (af _ _)).mono ?_
 rintro r W' ⟨rfl,hb⟩
 unfold dD
 have q1:=(hb.block w.heap.size (by rw[fu];omega)).trans (aD _ _)
 have f0:=ah q1 0
 have k0:=ae q1 0 rfl
 go_wp2_with fail
 refine leaves_cons (f:=263) (args:=#[.pointer (some ⟨w.heap.size,0,none⟩)]) (by simp) (by simp[go_sem]) ?_
 refine(uK ⟨w.heap.size,0,none⟩ _ [] _ k0 f0).mono ?_
 rintro e u' w'' ⟨rfl,rfl,rfl⟩
 simp[Leaves,settle,results,results211,go_sem,k0]
 exact(ac (af _ _) hb).setCell (Nat.le_refl _) _
theorem GU (F:Nat) (cap:Array Value) (w:World) (s:Ls) (hE:∀ w,(callFunc F cap).run prog w=.ok (.enter F cap) w) (hF:∀ W,Below w.heap.size w W->Calls prog F cap W fun r W'=>∃ v,r=.returned v∧jF W.heap.size W' v s∧Below W.heap.size W W') :
  Calls prog 211 #[.func (.func F) #[] cap] w fun r w'=>∃ v,r=.returned (.tuple #[v,G6 0])∧jF w.heap.size w' v s∧Below w.heap.size w w':=by
 have hmf:∀ (fn:Fn) (first cap:Array Value) (w:World),(Instr.makeFunc fn first cap).run prog w=.ok (.func fn first cap) w:=fun _ _ _ _=>rfl
 go_enter_defers func211,ntmps211
 go_wp2_with fail
 refine(hF _ (af _ _)).mono ?_
 rintro r W' ⟨v,rfl,hL,hb⟩
 have q1:=(hb.block w.heap.size (by rw[fu];omega)).trans (aD _ _)
 have f0:=ah q1 0
 have k0:=ae q1 0 rfl
 have hL2:jF w.heap.size (W'.setCell ⟨w.heap.size,0,none⟩ (G6 0)) v s:=by
  rcases hL with h|h
  ·exact .inl ((h.set_below (a:=⟨w.heap.size,0,none⟩) (by rw[fu];exact Nat.lt_succ_self _) _).lower (by rw[fu];omega))
  ·exact .inr h
 have hb2:Below w.heap.size w (W'.setCell ⟨w.heap.size,0,none⟩ (G6 0)):=(ac (af _ _) hb).setCell (p:=⟨w.heap.size,0,none⟩) (Nat.le_refl _) _
 obtain⟨ao,cc,rfl⟩:=hL.shape
 go_wp2_with fail
 refine leaves_cons (f:=263) (args:=#[.pointer (some ⟨w.heap.size,0,none⟩)]) (by simp) (by simp[go_sem]) ?_
 refine(BX ⟨w.heap.size,0,none⟩ _).mono ?_
 rintro e u' w'' ⟨rfl,rfl,rfl⟩
 simp[Leaves,settle,results,results211,go_sem,k0]
 first|exact hb2|exact⟨hL2,hb2⟩|exact⟨_,rfl,hL2,hb2⟩
def sZ (d:Nat->Int):Nat->Int
 | 0=>-9223372036854775808
 | k+1=>bh (d k)+aQ (aN (d k))
def Dt (d:Nat->Int) (k:Nat):Bool:=!decide (aN (d k)=0)&&!decide (bh (d k)+jz (aN (d k))<sZ d k)
def iK (d:Nat->Int):Nat->Bool
 | 0=>true
 | k+1=>iK d k&&Dt d k
theorem mS (d:Nat->Int) (k:Nat):iK d (k+1)=(iK d k&&Dt d k):=rfl
theorem yk {d:Nat->Int}:∀ {k j},j<=k->iK d k=true->iK d j=true
 | 0,j,h,hx=>by
  obtain rfl:j=0:=by omega
  rfl
 | k+1,j,h,hx=>by
  by_cases e:j=k+1
  ·subst e;exact hx
  ·rw[mS,Bool.and_eq_true] at hx
   exact yk (by omega) hx.1
theorem tE (b:Int):0<=aN b∧aN b<9007199254740992∧-2000<=bh b∧bh b<=2000:=by
 cases h:ak b
 ·have:bQ b=2047:=by simpa [ak] using h
  unfold aN bh
  rw[if_pos this,if_pos this]
  omega
 ·have:=eY h
  omega
theorem JR (b:Int):aN b≠0->jz (aN b)<=64:=fun hne=>by
 have hm:=tE b
 have h1:(aN b).toNat<2^64:=Nat.lt_of_lt_of_le (show(aN b).toNat<9007199254740992 by omega) (by decide)
 exact Nat.le_of_lt (Lib.lowest_bit 64 (aN b).toNat (by omega) h1).2
theorem qZ {eo:Option Addr} {n ec:Nat} {d:Nat->Int} (w:World) (h:aU w eo n ec d) (H:aO w) :
    Calls prog 185 #[.slice eo n ec] w fun e w'=>e=.returned (.bool (iK d n))∧Below w.heap.size w w':=by
  have hle:=h.le
  have hmx:=h.max
  have HR:Hid (aU w eo n ec d):=h
  have HH:Hid (aO w):=H
  clear h H
  go_enter func185,ntmps185
  go_wp2_with fail
  go_loopw [3,12] (fun av iv wr=>∃ k:Nat,k<=n∧iv=G6 k∧av=G6 (sZ d k)∧Hid (iK d k=true)∧Below w.heap.size w wr) (fun _ iv _=>n-(intOf iv).toNat)
  case atStart=>exact⟨0,Nat.zero_le _,rfl,rfl,rfl,ap _⟩
  case round=>
    obtain⟨k,hk,rfl,rfl,HX,hbw⟩:=hrel
    by_cases hlt:k<n
    · obtain⟨b,off,rfl,hbb,hc⟩:=(HR.out.keeps hbw).spot (by omega)
      have c0:=hc k hlt
      clear hc
      have H:=HH.out.keeps hbw
      have CP:=lQ (d k) wr H.lay
      have m1:=tE (d k)
      have HNO:Hid (Dt d k=false->iK d n=false):=fun hno=>by
        cases hx:iK d n
        · rfl
        · have:=yk (show k+1<=n by omega) hx
          rw[mS,hno,Bool.and_false] at this
          cases this
      have HO:Hid (Dt d k=(!decide (aN (d k)=0)&&!decide (bh (d k)+jz (aN (d k))<sZ d k))):=rfl
      have HA:Hid (sZ d (k+1)=bh (d k)+aQ (aN (d k))):=rfl
      have hab:-9223372036854775808<=sZ d k:=by
        cases k with
        | zero=>exact Int.le_refl _
        | succ j=>
          show _<=bh (d j)+((aQ (aN (d j)):Nat):Int)
          have:=tE (d j)
          omega
      have CT:Hid (∀ W,jS W->0<aN (d k)->Calls prog 244 #[.int .u64 (aN (d k))] W fun e w'=>e=.returned (G6 (jz (aN (d k))))∧w'=W):=fun W hT hp=>yd _ hp (by omega) W hT
      have CL:Hid (∀ W,Calls prog 245 #[.int .u64 (aN (d k))] W fun e w'=>e=.returned (G6 (aQ (aN (d k))))∧w'=W):=fun W=>Cw _ W (by omega) (by omega)
      have hj:=JR (d k)
      have hbl:aQ (aN (d k))<=63:=fO (show aN (d k)<9223372036854775808 by omega)
      have cv:IntKind.u64.wrap (aN (d k))=aN (d k):=by rw[IntKind.wrap_u64];omega
      generalize hmg:aN (d k)=mg at *
      generalize hex:bh (d k)=ex at *
      generalize dW (d k)=ng at *
      generalize ak (d k)=fn at *
      generalize hdk:d k=dk at *
      generalize hbn:aQ mg=bn at *
      clear hmg hex hdk hbn
      have i0:(0:Int)<=(k:Int):=by omega
      have i1:(k:Int)<(n:Int):=by omega
      by_cases hm:mg=0
      · subst hm
        have hno:Hid (false=iK d n):=(HNO.out (by rw[HO.out];simp)).symm
        go_wp2_with fail
        refine CP.mono ?_
        rintro _ w1 ⟨rfl,hb1⟩
        go_wp2
        all_goals go_ret
        all_goals exact⟨bz hno.out,by first|exact ac hbw hb1|exact(ac hbw hb1).drew⟩
      · have hm0:(mg == 0)=false:=by simpa using hm
        have hmp:0<mg:=by omega
        have hj':=hj hm
        generalize hjj:jz mg=jj at *
        clear hj hjj
        by_cases hl:ex+(jj:Int)<sZ d k
        · have hno:Hid (false=iK d n):=(HNO.out (by rw[HO.out];simp[hl])).symm
          generalize sZ d k=ab at *
          go_wp2_with fail
          refine CP.mono ?_
          rintro _ w1 ⟨rfl,hb1⟩
          have hbw1:=ac hbw hb1
          have HT:Hid (jS w1):=(HH.out.keeps hbw1).tab
          go_wp2_with (go_at_call 244;refine(CT.out _ HT.out hmp).mono ?_;rintro _ wz ⟨rfl,hw⟩;replace hw:=hw.symm;subst hw)
          all_goals go_ret
          all_goals exact⟨bz hno.out,by first|exact hbw1|exact hbw1.drew⟩
        · have hyes:iK d (k+1)=true:=by rw[mS,HX.out,HO.out];simp[hl,hm]
          have hl':¬ (ex+(jj:Int)<sZ d k):=hl
          clear hl
          generalize sZ d k=ab at *
          go_wp2_with fail
          refine CP.mono ?_
          rintro _ w1 ⟨rfl,hb1⟩
          have hbw1:=ac hbw hb1
          have HT:Hid (jS w1):=(HH.out.keeps hbw1).tab
          go_wp2_with (first
            | (go_at_call 244;refine(CT.out _ HT.out hmp).mono ?_;rintro _ wz ⟨rfl,hw⟩;replace hw:=hw.symm;subst hw)
            | (go_at_call 245; refine (CL.out _).mono ?_; rintro _ wz ⟨rfl,hw⟩; replace hw:=hw.symm; subst hw))
          go_roundw
          case rel=>exact⟨k+1,by omega,by go_num,by rw[HA.out],hyes,by first|exact hbw1|exact hbw1.drew⟩
          case measure=>simp[intOf];omega
    · obtain rfl:k=n:=by omega
      go_wp2
      go_ret
      exact⟨bz HX.out.symm,hbw⟩
def XR (w:World) (ok:Bool) (s:Ls) (r:Ending) (w':World):Prop:=((ok=true∧∃ v,r=.returned v∧jF w.heap.size w' v s)∨(ok=false∧r=dD))∧Below w.heap.size w w'
def XA (w:World) (ok:Bool) (s:Ls) (r:Ending) (w':World):Prop:=((ok=true∧∃ v,r=.returned (.tuple #[v,G6 0])∧jF w.heap.size w' v s)∨(ok=false∧r=.returned (.tuple #[.slice none 0 0,G6 14])))∧Below w.heap.size w w'
theorem GV (F:Nat) (cap:Array Value) (w:World) (ok:Bool) (s:Ls) (hE:∀ w,(callFunc F cap).run prog w=.ok (.enter F cap) w) (hF:∀ W,Below w.heap.size w W->Calls prog F cap W fun r W'=>XR W ok s r W') :
  Calls prog 211 #[.func (.func F) #[] cap] w fun r w'=>XA w ok s r w':=by
 cases ok
 ·refine(JQ F cap w hE fun W hW=>(hF W hW).mono ?_).mono ?_
  ·rintro r W' ⟨(⟨h,_⟩|⟨_,h⟩),hb⟩
   ·cases h
   ·exact⟨h,hb⟩
  ·rintro r w' ⟨h,hb⟩
   exact⟨.inr ⟨rfl,h⟩,hb⟩
 ·refine(GU F cap w s hE fun W hW=>(hF W hW).mono ?_).mono ?_
  ·rintro r W' ⟨(⟨_,v,h1,h2⟩|⟨h,_⟩),hb⟩
   ·exact⟨v,h1,h2,hb⟩
   ·cases h
  ·rintro r w' ⟨v,h1,h2,hb⟩
   exact⟨.inl ⟨rfl,v,h1,h2⟩,hb⟩
theorem RU (G:Nat) (eo fo:Option Addr) (n ec m fc:Nat) (p0 p1 p2:Addr) (w:World) (ok:Bool) (s:Ls) (hEG:∀ (cap:Array Value) (w:World),(callFunc G cap).run prog w=.ok (.enter G cap) w) (c0:w.cell? p0=some (.func (.func G) #[] #[])) (c1:w.cell? p1=some (.slice eo n ec)) (c2:w.cell? p2=some (.slice fo m fc))
  (hG:Calls prog G #[.slice eo n ec,.slice fo m fc] w fun r w'=>XR w ok s r w') :
  Calls prog 212 #[.pointer (some p0),.pointer (some p1),.pointer (some p2)] w fun r w'=>XR w ok s r w':=by
 go_enter func212,ntmps212
 go_wp2_with fail
 refine hG.mono ?_
 rintro r w' ⟨(⟨h1,v,rfl,h2⟩|⟨h1,rfl⟩),hb⟩
 ·obtain⟨ao,cc,rfl⟩:=h2.shape
  go_wp2
  go_ret
  exact⟨.inl ⟨h1,_,rfl,h2⟩,hb⟩
 ·unfold dD
  go_wp2
  exact⟨rfl,.inr ⟨h1,rfl⟩,hb⟩
theorem GW (G:Nat) {eo fo:Option Addr} {n ec m fc:Nat} {d f:Nat->Int} (w:World) (ok:Bool) (s:Ls) (hEG:∀ (cap:Array Value) (w:World),(callFunc G cap).run prog w=.ok (.enter G cap) w) (h:aU w eo n ec d) (hf:aU w fo m fc f) (hv:iK d n=true) (hu:iK f m=true) (H:aO w)
  (hG:∀ W,Below w.heap.size w W->Calls prog G #[.slice eo n ec,.slice fo m fc] W fun r w'=>XR W ok s r w') :
  Calls prog 157 #[.slice eo n ec,.slice fo m fc,.func (.func G) #[] #[]] w fun r w'=>XA w ok s r w':=by
 have hmf:∀ (fn:Fn) (first cap:Array Value) (w:World),(Instr.makeFunc fn first cap).run prog w=.ok (.func fn first cap) w:=fun _ _ _ _=>rfl
 have hst:∀ p F m w,(store p (.func (.func F) #[] #[]) m).run prog w=stored prog w p (.func (.func F) #[] #[]) m:=fun p F m w=>run_store _ w p _ m rfl
 have hE:∀ (cap:Array Value) (w:World),(callFunc 212 cap).run prog w=.ok (.enter 212 cap) w:=by
  intro cap w
  simp[go_sem]
 have k0:=pD w (.cells #[.slice eo n ec] 38) (.cells #[.slice fo m fc] 38) (.cells #[.func (.func G) #[] #[]] 185)
 have k1:=pE w (.cells #[.slice eo n ec] 38) (.cells #[.slice fo m fc] 38) (.cells #[.func (.func G) #[] #[]] 185)
 have k2:=lh w (.cells #[.slice eo n ec] 38) (.cells #[.slice fo m fc] 38) (.cells #[.func (.func G) #[] #[]] 185)
 have hb0:=df w (.cells #[.slice eo n ec] 38) (.cells #[.slice fo m fc] 38) (.cells #[.func (.func G) #[] #[]] 185)
 have CV:=fun W hW=>qZ W (h.keeps hW) (H.keeps hW)
 rw[hv] at CV
 have CP:=fun W hW=>qZ W (hf.keeps hW) (H.keeps hW)
 rw[hu] at CP
 go_enter func157,ntmps157
 go_wp2_with fail
 generalize ((w.alloc (.cells #[.slice eo n ec] 38)).alloc (.cells #[.slice fo m fc] 38)).alloc (.cells #[.func (.func G) #[] #[]] 185)=x0 at k0 k1 k2 hb0 ⊢
 refine(CV _ hb0).mono ?_
 rintro _ y1 ⟨rfl,hw1⟩
 have k0:=(hw1.block _ (aGe k0).1).trans k0
 have k1:=(hw1.block _ (aGe k1).1).trans k1
 have k2:=(hw1.block _ (aGe k2).1).trans k2
 have hbA:=ac hb0 hw1
 have c1:=ae k1 0 rfl
 go_wp2_with fail
 refine(CP _ hbA).mono ?_
 rintro _ y2 ⟨rfl,hw2⟩
 have k0:=(hw2.block _ (aGe k0).1).trans k0
 have k1:=(hw2.block _ (aGe k1).1).trans k1
 have k2:=(hw2.block _ (aGe k2).1).trans k2
 have hbB:=ac hbA hw2
 have c0:=ae k0 0 rfl
 have c1:=ae k1 0 rfl
 have c2:=ae k2 0 rfl
 go_wp2_with fail
 refine(GV 212 _ _ ok s (hE _) (fun W hW=>?_)).mono ?_
 ·have k0:=(hW.block _ (aGe k0).1).trans k0
  have k1:=(hW.block _ (aGe k1).1).trans k1
  have k2:=(hW.block _ (aGe k2).1).trans k2
  exact RU G eo fo n ec m fc _ _ _ W ok s hEG (ae k2 0 rfl) (ae k0 0 rfl) (ae k1 0 rfl) (hG W (ac hbB hW))
 rintro r w2 ⟨(⟨h1,v,rfl,h2⟩|⟨h1,rfl⟩),hb2⟩
 ·obtain⟨ao,cc,rfl⟩:=h2.shape
  go_wp2
  refine bodyPost_ret (v:=.tuple #[.slice ao s.n cc,G6 0]) (by simp[results,results157,go_sem]) rfl ⟨.inl ⟨h1,_,rfl,h2.lower hbB.size⟩,ac hbB hb2⟩
 ·go_wp2
  refine bodyPost_ret (v:=.tuple #[.slice none 0 0,G6 14]) (by simp[results,results157,go_sem]) rfl ⟨.inr ⟨h1,rfl⟩,ac hbB hb2⟩
theorem ou {d:Nat->Int}:∀ {n},iK d n=true->∀ i,i<n->ak (d i)=true
 | 0,_,i,hi=>absurd hi (Nat.not_lt_zero _)
 | n+1,h,i,hi=>by
  rw[mS,Bool.and_eq_true] at h
  by_cases e:i=n
  ·subst e
   have h2:=h.2
   unfold Dt at h2
   rw[Bool.and_eq_true] at h2
   cases hp:ak (d i)
   ·exfalso
    have hf:bQ (d i)=2047:=by simpa [ak] using hp
    have:aN (d i)=0:=by unfold aN;rw[if_pos hf]
    simp[this] at h2
   ·rfl
  ·exact ou h.1 i (by omega)
theorem XR.of_gr {w w1 w':World} {ok:Bool} {s:Ls} {r:Ending} (hb:w.grownBy w1 none) (h:(ok=true∧∃ v,r=.returned v∧jF w.heap.size w' v s∧Below w.heap.size w1 w')∨(ok=false∧r=dD∧Below w.heap.size w1 w')):XR w ok s r w':=by
 have hb0:Below w.heap.size w w1:=pA hb
 rcases h with⟨h1,v,h2,h3,h4⟩|⟨h1,h2,h3⟩
 ·exact⟨.inl ⟨h1,v,h2,h3⟩,hb0.trans h4⟩
 ·exact⟨.inr ⟨h1,h2⟩,hb0.trans h3⟩
theorem JS {eo fo:Option Addr} {n ec m fc:Nat} {d f:Nat->Int} (w:World) (h:aU w eo n ec d) (hf:aU w fo m fc f) (hd:∀ i,i<n->ag (d i)∧ak (d i)=true) (hff:∀ i,i<m->ag (f i)∧ak (f i)=true) (hn:n+m<=600000) :
  Calls prog 158 #[.slice eo n ec,.slice fo m fc] w fun r w'=>XR w (fe ⟨n,d⟩ f m) (dw ⟨n,d⟩ f m) r w':=by
 have CO:=JP w h (by omega)
 have CG:Hid (∀ W v,w.grownBy W none->jF w.heap.size W v ⟨n,d⟩->Calls prog 213 #[v,.slice fo m fc] W fun e w'=>(fe ⟨n,d⟩ f m=true∧∃ v',e=.returned v'∧jF w.heap.size w' v' (dw ⟨n,d⟩ f m)∧Below w.heap.size W w')∨(fe ⟨n,d⟩ f m=false∧e=dD∧Below w.heap.size W w')):=fun W v hW hL=>
  BW W hL hd (fun W' hW'=>hf.keeps ((pA hW).trans hW')) hff (show n+m<=700000 by omega) hW.size
 generalize fe ⟨n,d⟩ f m=X at *
 generalize dw ⟨n,d⟩ f m=S at *
 go_enter func158,ntmps158
 go_wp2_with fail
 refine CO.mono ?_
 rintro _ w1 ⟨v,rfl,hL,hg⟩
 obtain⟨ao,cc,rfl⟩:=hL.shape
 go_wp2_with fail
 refine(CG.out _ _ hg hL).mono ?_
 rintro _ w2 (⟨h1,v',rfl,h3,h4⟩|⟨h1,rfl,h3⟩)
 ·obtain⟨ao',cc',rfl⟩:=h3.shape
  go_wp2
  go_ret
  exact XR.of_gr hg (.inl ⟨h1,_,rfl,h3,h4⟩)
 ·unfold dD
  go_wp2
  exact⟨rfl,XR.of_gr hg (.inr ⟨h1,rfl,h3⟩)⟩
def eI (d:Nat->Int) (b:Int):Nat->Ls
 | 0=>⟨0,fun _=>0⟩
 | n+1=>if rg b=0 then ⟨0,fun _=>0⟩ else yj ⟨0,fun _=>0⟩ d b n
def ov (d:Nat->Int) (b:Int):Nat->Bool
 | 0=>true
 | n+1=>if rg b=0 then true else sx d b n
theorem RV {eo fo:Option Addr} {n ec m fc:Nat} {d f:Nat->Int} (w:World) (h:aU w eo n ec d) (hf:aU w fo m fc f) (hr:∀ i,i<n->ag (d i)) (hrf:∀ i,i<m->ag (f i)) (hv:iK d n=true) (hu:iK f m=true) (hn:n+m<=300000) (H:aO w) :
  Calls prog 91 #[.slice eo n ec,.slice fo m fc] w fun r w'=>XA w (fe ⟨n,d⟩ f m) (dw ⟨n,d⟩ f m) r w':=by
 have hEG:∀ (cap:Array Value) (w:World),(callFunc 158 cap).run prog w=.ok (.enter 158 cap) w:=by
  intro cap w
  simp[go_sem]
 have hd:∀ i,i<n->ag (d i)∧ak (d i)=true:=fun i hi=>⟨hr i hi,ou hv i hi⟩
 have hff:∀ i,i<m->ag (f i)∧ak (f i)=true:=fun i hi=>⟨hrf i hi,ou hu i hi⟩
 have CW:=GW 158 w (fe ⟨n,d⟩ f m) (dw ⟨n,d⟩ f m) hEG h hf hv hu H (fun W hW=>JS W (h.keeps hW) (hf.keeps hW) hd hff (by omega))
 generalize fe ⟨n,d⟩ f m=X at *
 generalize dw ⟨n,d⟩ f m=S at *
 go_enter func91,ntmps91
 go_wp2_with fail
 refine CW.mono ?_
 rintro _ w1 ⟨(⟨h1,v,rfl,h2⟩|⟨h1,rfl⟩),hb⟩
 ·obtain⟨ao,cc,rfl⟩:=h2.shape
  go_wp2
  refine bodyPost_ret (v:=.tuple #[.slice ao S.n cc,G6 0]) (by simp[results,results91,go_sem]) rfl ⟨.inl ⟨h1,_,rfl,h2⟩,hb⟩
 ·go_wp2
  refine bodyPost_ret (v:=.tuple #[.slice none 0 0,G6 14]) (by simp[results,results91,go_sem]) rfl ⟨.inr ⟨h1,rfl⟩,hb⟩
end Go.Proofs.YtjjihmnbdeeedaaGreatDoor
namespace Go.Proofs.YtjjihmnbdeeedaaGreatDoor
open Go Go.Proofs.Tryz Go.RowKit Go.Proofs.YtjjihmnbdeeedaaGreatDoor.M Ieee
end Go.Proofs.YtjjihmnbdeeedaaGreatDoor
namespace Go.Proofs.YtjjihmnbdeeedaaGreatDoor
open Go Go.Proofs.Tryz Go.RowKit Go.Proofs.YtjjihmnbdeeedaaGreatDoor.M
theorem jF.row {B:Nat} {w:World} {v:Value} {s:Ls} (h:jF B w v s):∃ ao cap,v=.slice ao s.n cap∧aU w ao s.n cap s.d:=by
 rcases h with h|⟨h0,ad,rfl⟩
 ·exact h.row
 ·rw[h0]
  exact⟨some ad,0,rfl,Nat.le_refl _,by decide,(fun q=>by cases q),fun q=>by omega⟩
theorem XA.yes {w w':World} {ok:Bool} {s:Ls} {r:Ending} (h:XA w ok s r w') (ho:ok=true):∃ ao cap,r=.returned (.tuple #[.slice ao s.n cap,G6 0])∧aU w' ao s.n cap s.d∧Below w.heap.size w w':=by
 obtain⟨(⟨_,v,h1,h2⟩|⟨h1,_⟩),hb⟩:=h
 ·obtain⟨ao,cap,rfl,hR⟩:=h2.row
  exact⟨ao,cap,h1,hR,hb⟩
 ·rw[ho] at h1;cases h1
end Go.Proofs.YtjjihmnbdeeedaaGreatDoor
namespace Go.Proofs.YtjjihmnbdeeedaaGreatDoor
open Go Go.Proofs.Tryz Go.RowKit Go.Proofs.YtjjihmnbdeeedaaGreatDoor.M Ieee
theorem QG {a c B M:Int} (h:(a.natAbs:Int)<=B) (hM:268435455*B<=M):((134217729*a).natAbs:Int)<=M:=by omega
theorem QH {a c B M:Int} (h:(a.natAbs:Int)<=B) (hM:268435455*B<=M) (r:1000*(c-134217729*a).natAbs<=(134217729*a).natAbs):((c-a).natAbs:Int)<=M∧((c-a).natAbs:Int)<=200000000*B:=by omega
theorem QI {a c d B M:Int} (h:(a.natAbs:Int)<=B) (hM:268435455*B<=M) (g:((c-a).natAbs:Int)<=200000000*B) (r:1000*(d-(c-a)).natAbs<=(c-a).natAbs):((c-d).natAbs:Int)<=M∧((c-d).natAbs:Int)<=300000*B:=by omega
theorem QJ {a c d x B M:Int} (h:(a.natAbs:Int)<=B) (hM:268435455*B<=M) (g:((c-d).natAbs:Int)<=300000*B) (r:1000*(x-(c-d)).natAbs<=(c-d).natAbs):((a-x).natAbs:Int)<=M:=by omega
theorem OY {p B:Int} (hp:M.ag p) (pp:ak p=true) (h:((iV p).natAbs:Int)<=B) (hM:268435455*B<=jO):ak (hH p)=true:=by
 have rc:M.ag (cC p):=bc nK hp
 have rd:=aT rc (bm hp)
 have rH:M.ag (iX p):=aT rc (bm rd)
 have S1:=xZ hp pp
 have pc:=S1.fin (QG (c:=0) h hM)
 have r1:=iC (S1.nr pc)
 obtain⟨g1,g2⟩:=QH h hM r1
 have S2:=cI rc hp pc pp
 have pd:=S2.fin g1
 have r2:=iC (S2.nr pd)
 obtain⟨g3,g4⟩:=QI h hM g2 r2
 have S3:=cI rc rd pc pd
 have pH:=S3.fin g3
 have r3:=iC (S3.nr pH)
 exact(cI hp rH pp pH).fin (QJ h hM g4 r3)
theorem RW {a b h M:Int} (h1:((a.natAbs:Int)+b.natAbs)<=M):((a+b).natAbs:Int)<=M:=by omega
theorem RY {a b h M:Int} (ha:2*(a.natAbs:Int)<=M) (hb:2*(b.natAbs:Int)<=M) (e1:(h-(a+b)).natAbs<=(a-(a+b)).natAbs):((h-a).natAbs:Int)<=M:=by omega
theorem RZ {a b h v M:Int} (ha:2*(a.natAbs:Int)<=M) (e2:(h-(a+b)).natAbs<=(b-(a+b)).natAbs) (e3:(v-(h-a)).natAbs<=(b-(h-a)).natAbs):((h-v).natAbs:Int)<=M:=by omega
theorem Sa {a b h v u M:Int} (ha:2*(a.natAbs:Int)<=M) (e2:(h-(a+b)).natAbs<=(b-(a+b)).natAbs) (e3:(v-(h-a)).natAbs<=(b-(h-a)).natAbs) (e4:(u-(h-v)).natAbs<=(a-(h-v)).natAbs):((a-u).natAbs:Int)<=M∧(a-u).natAbs<=2*(h-(a+b)).natAbs:=by omega
theorem Sb {a b h v M:Int} (hb:2*(b.natAbs:Int)<=M) (e1:(h-(a+b)).natAbs<=(a-(a+b)).natAbs) (e3:(v-(h-a)).natAbs<=(b-(h-a)).natAbs):((b-v).natAbs:Int)<=M∧(b-v).natAbs<=2*(h-(a+b)).natAbs:=by omega
theorem Sc {S h x y p q M:Int} (hM:(S.natAbs:Int)<=M) (r:1000*(h-S).natAbs<=S.natAbs) (g1:x.natAbs<=2*(h-S).natAbs) (g2:y.natAbs<=2*(h-S).natAbs) (n1:(p-x).natAbs<=(0-x).natAbs) (n2:(q-y).natAbs<=(0-y).natAbs):((p+q).natAbs:Int)<=M:=by omega
theorem tF {p q:Int} (hp:M.ag p) (hq:M.ag q) (pp:ak p=true) (pq:ak q=true) (h1:2*((iV p).natAbs:Int)<=jO) (h2:2*((iV q).natAbs:Int)<=jO):ak (aF p q)=true∧ak (sL p q)=true:=by
 have rh:=aT hp hq
 have rv:M.ag (sV p q):=aT rh (bm hp)
 have rU:=aT rh (bm rv)
 have rX:=aT hp (bm rU)
 have rY:=aT hq (bm rv)
 have Sh:=il hp hq pp pq
 have hM:=RW (h:=0) (a:=iV p) (b:=iV q) (M:=jO) (by omega)
 have ph:=Sh.fin hM
 have nh:=Sh.nr ph
 have e1:=nh.2 _ (fJ p)
 have e2:=nh.2 _ (fJ q)
 have Sv:=cI rh hp ph pp
 have pv:=Sv.fin (RY h1 h2 e1)
 have nv:=Sv.nr pv
 have e3:=nv.2 _ (fJ q)
 have SU:=cI rh rv ph pv
 have pU:=SU.fin (RZ h1 e2 e3)
 have e4:=(SU.nr pU).2 _ (fJ p)
 have SX:=cI hp rU pp pU
 obtain⟨g1,g2⟩:=Sa h1 e2 e3 e4
 have pX:=SX.fin g1
 have SY:=cI hq rv pq pv
 obtain⟨g3,g4⟩:=Sb h2 e1 e3
 have pY:=SY.fin g3
 exact⟨ph,(il rX rY pX pY).fin (Sc hM (iC nh) g2 g4 ((SX.nr pX).2 _ dA) ((SY.nr pY).2 _ dA))⟩
theorem ta {a h l:Int} (H:Dq a h l):67108864*(l.natAbs:Int)<=(a.natAbs:Int):=by
 by_cases h0:a=0
 ·have:=H.zero h0
  have:=H.sum
  omega
 ·obtain⟨x,j,s,g1,g2⟩:=H.spl h0
  have e:2^x*a-2^x*h=2^x*l:=by rw[<- Int.mul_sub];congr 1;have:=H.sum;omega
  have u4:=s.low
  rw[e,fd] at u4
  rw[fd] at g1
  have hx:=p2 x
  have hj:=p2 j
  have:(2:Int)^x*(67108864*(l.natAbs:Int))<=2^x*(a.natAbs:Int):=by
   rw[show(2:Int)^x*(67108864*(l.natAbs:Int))=67108864*(2^x*(l.natAbs:Int)) by ac_rfl]
   omega
  exact Int.le_of_mul_le_mul_left this hx
theorem uL {K T U a b x y c:Int} (hK:0<K) (hT:K*T=a*b) (hU:K*U=x*y) (h:c*((x*y).natAbs:Int)<=((a*b).natAbs:Int)):c*(U.natAbs:Int)<=(T.natAbs:Int):=by
 rw[<- hT,<- hU,Int.natAbs_mul,Int.natAbs_mul,Int.natCast_mul,Int.natCast_mul,show((K.natAbs:Nat):Int)=K by omega,show c*(K*(U.natAbs:Int))=K*(c*(U.natAbs:Int)) by ac_rfl] at h
 exact Int.le_of_mul_le_mul_left h hK
theorem EN {q r a b:Int} (hq:67108864*(q.natAbs:Int)<=(a.natAbs:Int)) (hr:(r.natAbs:Int)<=2*(b.natAbs:Int)):33554432*((q*r).natAbs:Int)<=((a*b).natAbs:Int):=by
 rw[Int.natAbs_mul,Int.natAbs_mul,Int.natCast_mul,Int.natCast_mul]
 have h1:=Int.mul_le_mul hq hr (by omega) (by omega)
 generalize (q.natAbs:Int)=Q at *
 generalize (r.natAbs:Int)=R at *
 generalize (a.natAbs:Int)=A at *
 generalize (b.natAbs:Int)=B at *
 rw[show 67108864*Q*R=67108864*(Q*R) by ac_rfl,show A*(2*B)=2*(A*B) by ac_rfl] at h1
 omega
end Go.Proofs.YtjjihmnbdeeedaaGreatDoor
namespace Go.Proofs.YtjjihmnbdeeedaaGreatDoor
open Go Go.Proofs.Tryz Go.RowKit Go.Proofs.YtjjihmnbdeeedaaGreatDoor.M
theorem vM {b:Int} (hb:ag b):aH b=0↔rg b=0:=by
 have h1:=oO hb
 rw[<- h1]
 constructor
 ·intro h
  have hr:=(jN hb).1
  have h0:0<=rg b:=(jN hb).2
  generalize rg b=r at *
  unfold ag at hr
  unfold aH bQ cA at h
  split at h
  ·split at h<;>omega
  ·split at h
   ·split at h
    ·omega
    ·omega
   ·omega
 ·intro h;rw[h];decide
theorem Ls.same.refl (s:Ls):s.same s:=⟨rfl,fun _ _=>rfl⟩
theorem wX {d f:Nat->Int} {q:Int} {n:Nat} (h:∀ i,i<n->d i=f i):∀ k,k<=n->gq d q k=gq f q k
 | 0,_=>rfl
 | k+1,hk=>by
  show aF (gq d q k) (d k)=aF (gq f q k) (f k)
  rw[wX h k (by omega),h k (by omega)]
theorem Du {d f:Nat->Int} {q:Int} {n:Nat} (h:∀ i,i<n->d i=f i) (k:Nat) (hk:k<n):gl d q k=gl f q k:=by
 unfold gl
 rw[wX h k (by omega),h k hk]
theorem Dv {d f:Nat->Int} {q:Int} {n:Nat} (h:∀ i,i<n->d i=f i):∀ k,k<=n->gx d q k=gx f q k
 | 0,_=>rfl
 | k+1,hk=>by
  show(gx d q k&&ak (gl d q k))=(gx f q k&&ak (gl f q k))
  rw[Dv h k (by omega),Du h k (by omega)]
theorem Dw {d f:Nat->Int} {q:Int} {n:Nat} (h:∀ i,i<n->d i=f i):∀ k,k<=n->(gs d q k).same (gs f q k)
 | 0,_=>⟨rfl,fun i hi=>absurd hi (Nat.not_lt_zero _)⟩
 | k+1,hk=>by
  show((gs d q k).add (gl d q k)).same ((gs f q k).add (gl f q k))
  rw[Du h k (by omega)]
  exact(Dw h k (by omega)).add _
theorem JT {d f:Nat->Int} {q:Int} {n:Nat} (h:∀ i,i<n->d i=f i):(iZ n d q).same (iZ n f q):=by
 unfold iZ
 rw[wX h n (Nat.le_refl _)]
 exact(Dw h n (Nat.le_refl _)).add _
theorem Dx {s t:Ls} (h:s.same t) (d:Nat->Int) (b:Int):∀ k,(ss s d b k).same (ss t d b k)
 | 0=>h.add _
 | k+1=>((Dx h d b k).add _).add _
theorem Az {s t:Ls} (h:s.same t) {f g:Nat->Int} {m:Nat} (hf:∀ i,i<m->f i=g i):∀ k,k<=m->(dw s f k).same (dw t g k)∧fe s f k=fe t g k
 | 0,_=>⟨h,rfl⟩
 | k+1,hk=>by
  obtain⟨h1,h2⟩:=Az h hf k (by omega)
  rw[oq,oq,lk,lk,h2,hf k (by omega),<- h1.1,Dv h1.2 _ (Nat.le_refl _)]
  exact⟨JT h1.2,rfl⟩
theorem wY (d:Nat->Int) (b:Int):∀ n,(eI d b n).n<=2*n
 | 0=>Nat.le_refl _
 | n+1=>by
  show(if rg b=0 then (⟨0,fun _=>0⟩:Ls) else yj ⟨0,fun _=>0⟩ d b n).n<=_
  split
  ·exact Nat.zero_le _
  ·have h1:=EM ⟨0,fun _=>0⟩ d b n
   have h2:=((ss ⟨0,fun _=>0⟩ d b n).add_le (sq d b n)).2
   have h1':(ss ⟨0,fun _=>0⟩ d b n).n<=0+2*n+1:=h1
   show((ss ⟨0,fun _=>0⟩ d b n).add (sq d b n)).n<=_
   omega
def Lo (x y:Int):Prop:=∃ s:Nat,(x.natAbs:Int)<2^s∧(2^s:Int) ∣ y
theorem jC {x y:Int} (h:x ∣ y) (h0:y≠0) (hx:0<x):x<=(y.natAbs:Int):=by
 have h1:x ∣ (y.natAbs:Int):=Int.dvd_natAbs.2 h
 exact Int.le_of_dvd (by omega) h1
theorem nP {S x:Int} (n:Nr S x) (hne:x≠S):∃ u:Nat,(2^u:Int) ∣ x∧((S-x).natAbs:Int)<2^u:=by
 obtain⟨k,h1,h2⟩:=vB (S.natAbs:Int) (by omega)
 rcases h2 with rfl|h2
 ·exfalso
  have:Fl S:=⟨0,⟨S,by simp⟩,by simpa using h1⟩
  exact hne (bt this n)
 ·have f:Fl (4503599627370496*2^k:Int):=by
   have:=vE k (m:=4503599627370496) (by decide)
   exact this
  have h3:=Rz n f h2
  have h4:=mP n (i:=k) (by omega)
  have p:=p2 k
  exact⟨k,ol n.1 h3,by omega⟩
theorem tG {a b x:Int} (ha:Fl a) (n:Nr (a+b) x):(a+b-x).natAbs<=b.natAbs:=by
 have:=n.2 a ha
 omega
theorem Lo.trans {x y z:Int} (h:Lo x y) (hy:y≠0) (k:Lo y z):Lo x z:=by
 obtain⟨s,h1,h2⟩:=h
 obtain⟨t,k1,k2⟩:=k
 have h3:=jC h2 hy (p2 s)
 have h4:s<t:=qV (Int.lt_of_le_of_lt h3 k1)
 exact⟨s,h1,Int.dvd_trans (dI (by omega)) k2⟩
theorem yl {b:Int} (hb:ag b) (h:rg b=0):iV b=0:=by
 have:=mR b
 rw[h] at this
 have h2:(V Ieee.double (0:Int).toNat:Int)=0:=by decide +kernel
 omega
theorem ja {b:Int} (hb:ag b) (pb:ak b=true) (h:rg b≠0):iV b≠0∧aN b≠0:=by
 have e:=kE hb pb
 have hm:aN b≠0:=by
  intro q
  have hc:aH b=0:=by
   have hf:bQ b≠2047:=by simpa [ak] using pb
   have:=lI b
   unfold aN at q
   rw[if_neg hf] at q
   unfold aH
   rw[if_neg hf]
   by_cases h0:bQ b=0
   ·rw[if_pos h0] at q ⊢
    rw[if_pos q]
   ·rw[if_neg h0] at q
    omega
  exact h ((vM hb).1 hc)
 refine⟨fun q=>?_,hm⟩
 obtain⟨i0,_⟩:=eY pb
 have p1:=aR (bh b+1074).toNat
 have:0<aN b*2^(bh b+1074).toNat:=Int.mul_pos (by omega) p1
 rw[q] at e
 omega
theorem Dz {s t:Nat} {m:Int} (h:(2^s:Int) ∣ 2^t*(2*m+1)):s<=t:=by
 apply Classical.byContradiction
 intro hn
 obtain⟨r,rfl⟩:∃ r,s=t+1+r:=⟨s-t-1,by omega⟩
 obtain⟨c,hc⟩:=h
 rw[Int.pow_add,Int.pow_add,Int.mul_assoc,Int.mul_assoc] at hc
 have:=Int.eq_of_mul_eq_mul_left (Int.ne_of_gt (aR t)) hc
 omega
theorem OZ {a b:Int} (ha:ag a) (hb:ag b) (pa:ak a=true) (pb:ak b=true) (ma:aN a≠0) (mb:aN b≠0):(bh a+aQ (aN a)<=bh b+jz (aN b))↔Lo (iV a) (iV b):=by
 obtain⟨i0,i1,i2,i3⟩:=eY pa
 obtain⟨j0,j1,j2,j3⟩:=eY pb
 obtain⟨m,hm,_,_⟩:=fF (show 0<aN b by omega) (by omega)
 have e1:=kE ha pa
 have e2:=kE hb pb
 have hl:=ls (aN a)
 obtain⟨_,hg⟩:=iJ (show 0<aN a by omega)
 have hb1:1<=aQ (aN a):=(iJ (show 0<aN a by omega)).1
 have p1:=aR (bh a+1074).toNat
 have p2':=aR (bh b+1074).toNat
 have s1:aN a*2^(bh a+1074).toNat<2^aQ (aN a)*2^(bh a+1074).toNat:=Int.mul_lt_mul_of_pos_right hl p1
 rw[<- Int.pow_add] at s1
 have s2:(2:Int)^(aQ (aN a)-1)*2^(bh a+1074).toNat<=aN a*2^(bh a+1074).toNat:=Int.mul_le_mul_of_nonneg_right hg (by omega)
 rw[<- Int.pow_add] at s2
 have e3:((iV b).natAbs:Int)=2^(jz (aN b)+(bh b+1074).toNat)*(2*(m:Int)+1):=by
  rw[e2,Int.pow_add]
  calc aN b*2^(bh b+1074).toNat=2^jz (aN b)*(2*(m:Int)+1)*2^(bh b+1074).toNat:=by rw[<- hm]
   _=_:=by rw[Int.mul_assoc,Int.mul_comm (2*(m:Int)+1),<- Int.mul_assoc]
 constructor
 ·intro h
  refine⟨aQ (aN a)+(bh a+1074).toNat,by rw[e1];exact s1,?_⟩
  apply Int.dvd_natAbs.1
  rw[e3]
  exact Int.dvd_trans (dI (by omega)) ⟨_,rfl⟩
 ·rintro⟨s,h1,h2⟩
  have h3:(2^s:Int) ∣ 2^(jz (aN b)+(bh b+1074).toNat)*(2*(m:Int)+1):=by
   rw[<- e3]
   exact Int.dvd_natAbs.2 h2
  have h4:=Dz h3
  rw[e1] at h1
  have h5:=qV (Int.lt_of_le_of_lt s2 h1)
  omega
structure XV (d:Nat->Int) (n:Nat):Prop where
 fin:∀ i,i<n->ag (d i)∧ak (d i)=true∧rg (d i)≠0
 lo:∀ i,i+1<n->Lo (iV (d i)) (iV (d (i+1)))
theorem XV.ne {d:Nat->Int} {n:Nat} (h:XV d n) {i:Nat} (hi:i<n):iV (d i)≠0:=(ja (h.fin i hi).1 (h.fin i hi).2.1 (h.fin i hi).2.2).1
theorem nQ {d:Nat->Int}:∀ {n},XV d n->iK d n=true
 | 0,_=>rfl
 | n+1,h=>by
  have ih:iK d n=true:=nQ ⟨fun i hi=>h.fin i (by omega),fun i hi=>h.lo i (by omega)⟩
  rw[mS,ih,Bool.true_and]
  obtain⟨r,p,z⟩:=h.fin n (by omega)
  have hm:=(ja r p z).2
  have hx:=tE (d n)
  unfold Dt
  have hz:decide (aN (d n)=0)=false:=decide_eq_false hm
  rw[hz]
  cases n with
  | zero=>
   have:sZ d 0=-9223372036854775808:=rfl
   rw[this]
   have:¬ (bh (d 0)+jz (aN (d 0)) < -9223372036854775808):=by omega
   simp[this]
  | succ j=>
   have e:sZ d (j+1)=bh (d j)+aQ (aN (d j)):=rfl
   obtain⟨r',p',z'⟩:=h.fin j (by omega)
   have:=(OZ r' r p' p (ja r' p' z').2 hm).2 (h.lo j (by omega))
   rw[e]
   have:¬ (bh (d (j+1))+jz (aN (d (j+1)))<bh (d j)+aQ (aN (d j))):=by omega
   simp[this]
theorem XV.far {d:Nat->Int} {n:Nat} (h:XV d n) {i:Nat}:∀ {j},i<j->j<n->Lo (iV (d i)) (iV (d j))
 | 0,hij,_=>absurd hij (Nat.not_lt_zero _)
 | j+1,hij,hj=>by
  by_cases e:i=j
  ·subst e;exact h.lo i hj
  ·exact(h.far (show i<j by omega) (by omega)).trans (h.ne (by omega)) (h.lo j hj)
structure GI (d:Nat->Int) (q:Int) (n k:Nat):Prop where
 xv:XV (gs d q k).d (gs d q k).n
 up:∀ i,i<(gs d q k).n->∃ s:Nat,((iV ((gs d q k).d i)).natAbs:Int)<2^s∧(2^s:Int) ∣ iV (gq d q k)∧∀ j,k<=j->j<n->(2^s:Int) ∣ iV (d j)
theorem XV.add {s:Ls} (h:XV s.d s.n) {b:Int} (hb:ag b) (pb:ak b=true) (hlo:∀ i,i<s.n->Lo (iV (s.d i)) (iV b)):XV (s.add b).d (s.add b).n:=by
 unfold Ls.add
 split
 ·exact h
 ·rename_i hz
  refine⟨fun i hi=>?_,fun i hi=>?_⟩
  ·show ag (cr s.d s.n b i)∧ak (cr s.d s.n b i)=true∧rg (cr s.d s.n b i)≠0
   by_cases e:i=s.n
   ·subst e;rw[bG];exact⟨hb,pb,hz⟩
   ·rw[bg _ _ e];exact h.fin i (by have:i<s.n+1:=hi;omega)
  ·have hi':i+1<s.n+1:=hi
   show Lo (iV (cr s.d s.n b i)) (iV (cr s.d s.n b (i+1)))
   rw[bg _ _ (show i≠s.n by omega)]
   by_cases e:i+1=s.n
   ·rw[e,bG];exact hlo i (by omega)
   ·rw[bg _ _ e];exact h.lo i (by omega)
theorem nR {p q:Int} (hp:ag p) (hq:ag q) (h:ak (sL p q)=true):Nr (iV p+iV q) (iV (aF p q)):=by
 obtain⟨⟨pp,pq⟩,ps,e⟩:=kj hp hq h
 exact(il hp hq pp pq).nr ps
theorem Nb {d:Nat->Int} {q:Int} {n k:Nat} (hd:XV d n) (hq:ag q) (pq:ak q=true) (hk:k<n) (hx:gx d q (k+1)=true) (h:GI d q n k):GI d q n (k+1):=by
 have hfin:∀ i,i<n->ag (d i)∧ak (d i)=true:=fun i hi=>⟨(hd.fin i hi).1,(hd.fin i hi).2.1⟩
 have hx':(gx d q k&&ak (gl d q k))=true:=hx
 rw[Bool.and_eq_true] at hx'
 obtain⟨r1,r2⟩:=kU hfin hq pq k (by omega) hx'.1
 obtain⟨d1,d2⟩:=hfin k hk
 have hl:ak (sL (gq d q k) (d k))=true:=hx'.2
 obtain⟨_,ps,e⟩:=kj r1 d1 hl
 have nr:=nR r1 d1 hl
 have rl:ag (gl d q k):=kT r1 d1
 have eq1:gq d q (k+1)=aF (gq d q k) (d k):=rfl
 have egl:gl d q k=sL (gq d q k) (d k):=rfl
 have es:gs d q (k+1)=(gs d q k).add (gl d q k):=rfl
 rw[<- egl,<- eq1] at e
 rw[<- eq1] at nr
 have herr:iV (gl d q k)=iV (gq d q k)+iV (d k)-iV (gq d q (k+1)):=by omega
 have hold:∀ i,i<(gs d q k).n->∃ s:Nat,((iV ((gs d q k).d i)).natAbs:Int)<2^s∧(2^s:Int) ∣ iV (gq d q (k+1))∧(2^s:Int) ∣ iV (gl d q k)∧∀ j,k+1<=j->j<n->(2^s:Int) ∣ iV (d j):=fun i hi=>by
  obtain⟨s,h1,h2,h3⟩:=h.up i hi
  have h4:(2^s:Int) ∣ iV (gq d q k)+iV (d k):=Int.dvd_add h2 (h3 k (Nat.le_refl _) hk)
  have h5:=iU nr h4
  exact⟨s,h1,h5,by rw[herr];exact Int.dvd_sub h4 h5,fun j hj hjn=>h3 j (by omega) hjn⟩
 have hnew:rg (gl d q k)≠0->∃ s:Nat,((iV (gl d q k)).natAbs:Int)<2^s∧(2^s:Int) ∣ iV (gq d q (k+1))∧∀ j,k+1<=j->j<n->(2^s:Int) ∣ iV (d j):=fun hz=>by
  have hne:=(ja rl hx'.2 hz).1
  obtain⟨u,h1,h2⟩:=nP nr (fun c=>hne (by rw[herr,c];omega))
  rw[<- herr] at h2
  by_cases hlast:k+1<n
  ·obtain⟨t,k1,k2⟩:=hd.lo k hlast
   have h3:=tG (fJ (gq d q k)) nr
   rw[<- herr] at h3
   have hup:∀ j,k+1<=j->j<n->(2^t:Int) ∣ iV (d j):=fun j hj hjn=>by
    by_cases e:j=k+1
    ·subst e;exact k2
    ·obtain⟨t2,m1,m2⟩:=hd.far (show k+1<j by omega) hjn
     have h4:=jC k2 (hd.ne hlast) (p2 t)
     have h5:t<t2:=qV (Int.lt_of_le_of_lt h4 m1)
     exact Int.dvd_trans (dI (by omega)) m2
   by_cases hut:u<=t
   ·exact⟨u,h2,h1,fun j hj hjn=>Int.dvd_trans (dI hut) (hup j hj hjn)⟩
   ·exact⟨t,by omega,Int.dvd_trans (dI (by omega)) h1,hup⟩
  ·exact⟨u,h2,h1,fun j hj hjn=>by omega⟩
 refine⟨?_,?_⟩
 ·rw[es]
  exact h.xv.add rl hx'.2 fun i hi=>by
   obtain⟨s,h1,_,h3,_⟩:=hold i hi
   exact⟨s,h1,h3⟩
 ·rw[es]
  intro i hi
  by_cases hz:rg (gl d q k)=0
  ·have ea:(gs d q k).add (gl d q k)=gs d q k:=by unfold Ls.add;rw[if_pos hz]
   rw[ea] at hi ⊢
   obtain⟨s,h1,h2,_,h4⟩:=hold i hi
   exact⟨s,h1,h2,h4⟩
  ·have ea:(gs d q k).add (gl d q k)=⟨(gs d q k).n+1,cr (gs d q k).d (gs d q k).n (gl d q k)⟩:=by unfold Ls.add;rw[if_neg hz]
   rw[ea] at hi ⊢
   have hi':i<(gs d q k).n+1:=hi
   show ∃ s:Nat,((iV (cr (gs d q k).d (gs d q k).n (gl d q k) i)).natAbs:Int)<2^s∧_
   by_cases e:i=(gs d q k).n
   ·subst e
    rw[bG]
    exact hnew hz
   ·rw[bg _ _ e]
    obtain⟨s,h1,h2,_,h4⟩:=hold i (by omega)
    exact⟨s,h1,h2,h4⟩
theorem AA {d:Nat->Int} {q:Int} {n:Nat} (hd:XV d n) (hq:ag q) (pq:ak q=true):∀ k,k<=n->gx d q k=true->GI d q n k
 | 0,_,_=>⟨⟨fun i hi=>absurd hi (Nat.not_lt_zero _),fun i hi=>absurd hi (Nat.not_lt_zero _)⟩,fun i hi=>absurd hi (Nat.not_lt_zero _)⟩
 | k+1,hk,hx=>by
  have hx':(gx d q k&&ak (gl d q k))=true:=hx
  rw[Bool.and_eq_true] at hx'
  exact Nb hd hq pq (by omega) hx (AA hd hq pq k (by omega) hx'.1)
theorem Pa {d:Nat->Int} {q:Int} {n:Nat} (hd:XV d n) (hq:ag q) (pq:ak q=true) (hx:gx d q n=true):XV (iZ n d q).d (iZ n d q).n:=by
 have hfin:∀ i,i<n->ag (d i)∧ak (d i)=true:=fun i hi=>⟨(hd.fin i hi).1,(hd.fin i hi).2.1⟩
 obtain⟨r1,r2⟩:=kU hfin hq pq n (Nat.le_refl _) hx
 have h:=AA hd hq pq n (Nat.le_refl _) hx
 exact h.xv.add r1 r2 fun i hi=>by
  obtain⟨s,h1,h2,_⟩:=h.up i hi
  exact⟨s,h1,h2⟩
def dM (d:Nat->Int):Nat->Int
 | 0=>0
 | k+1=>dM d k+iV (d k)
theorem iL (d:Nat->Int) (k:Nat):dM d (k+1)=dM d k+iV (d k):=rfl
theorem ym {d e:Nat->Int}:∀ {n},(∀ i,i<n->d i=e i)->dM d n=dM e n
 | 0,_=>rfl
 | n+1,h=>by rw[iL,iL,ym fun i hi=>h i (by omega),h n (by omega)]
theorem kF {s:Ls} {b:Int} (hb:ag b):dM (s.add b).d (s.add b).n=dM s.d s.n+iV b:=by
 unfold Ls.add
 split
 ·rename_i hz
  rw[yl hb hz,Int.add_zero]
 ·show dM (cr s.d s.n b) s.n+iV (cr s.d s.n b s.n)=_
  rw[bG,ym (e:=s.d) fun i hi=>bg _ _ (by omega)]
theorem AC {d:Nat->Int} {q:Int} {n:Nat} (hd:∀ i,i<n->ag (d i)∧ak (d i)=true) (hq:ag q) (pq:ak q=true):∀ k,k<=n->gx d q k=true->dM (gs d q k).d (gs d q k).n+iV (gq d q k)=iV q+dM d k
 | 0,_,_=>by show 0+iV q=iV q+0;omega
 | k+1,hk,hx=>by
  have hx':(gx d q k&&ak (gl d q k))=true:=hx
  rw[Bool.and_eq_true] at hx'
  have ih:=AC hd hq pq k (by omega) hx'.1
  obtain⟨r1,r2⟩:=kU hd hq pq k (by omega) hx'.1
  obtain⟨d1,d2⟩:=hd k (by omega)
  have rl:ag (gl d q k):=kT r1 d1
  obtain⟨_,ps,e⟩:=kj r1 d1 (show ak (sL (gq d q k) (d k))=true from hx'.2)
  have eq1:gq d q (k+1)=aF (gq d q k) (d k):=rfl
  have egl:gl d q k=sL (gq d q k) (d k):=rfl
  have es:gs d q (k+1)=(gs d q k).add (gl d q k):=rfl
  rw[<- egl,<- eq1] at e
  rw[es,kF rl,iL]
  omega
theorem Nc {d:Nat->Int} {q:Int} {n:Nat} (hd:∀ i,i<n->ag (d i)∧ak (d i)=true) (hq:ag q) (pq:ak q=true) (hx:gx d q n=true):dM (iZ n d q).d (iZ n d q).n=iV q+dM d n:=by
 have h:=AC hd hq pq n (Nat.le_refl _) hx
 obtain⟨r1,r2⟩:=kU hd hq pq n (Nat.le_refl _) hx
 show dM ((gs d q n).add (gq d q n)).d ((gs d q n).add (gq d q n)).n=_
 rw[kF r1]
 exact h
theorem wZ {x u t:Int} {s:Nat} (hs:(2^s:Int) ∣ x) (hu:(2^s:Int) ∣ t) (h:(x.natAbs:Int)<t):(x.natAbs:Int)+2^s<=t:=by
 obtain⟨a,ha⟩:=Int.dvd_natAbs.2 hs
 obtain⟨b,hb⟩:=hu
 have p:=p2 s
 rw[ha,hb] at h ⊢
 have:a<b:=Int.lt_of_mul_lt_mul_left h (Int.le_of_lt p)
 have h2:(2:Int)^s*(a+1)<=2^s*b:=Int.mul_le_mul_of_nonneg_left (by omega) (Int.le_of_lt p)
 rw[Int.mul_add,Int.mul_one] at h2
 exact h2
theorem ow {d:Nat->Int}:∀ {n},XV d (n+1)->∀ t:Nat,((iV (d n)).natAbs:Int)<2^t->((dM d (n+1)).natAbs:Int)<2^t
 | 0,h,t,ht=>by
  have:dM d 1=iV (d 0):=by rw[iL];show 0+_=_;omega
  rw[this];exact ht
 | n+1,h,t,ht=>by
  obtain⟨s,h1,h2⟩:=h.lo n (by omega)
  have ih:=ow (n:=n) ⟨fun i hi=>h.fin i (by omega),fun i hi=>h.lo i (by omega)⟩ s h1
  have hge:=jC h2 (h.ne (by omega)) (p2 s)
  have hst:s<t:=qV (Int.lt_of_le_of_lt hge ht)
  have h3:=wZ (u:=0) h2 (dI (show s<=t by omega)) ht
  rw[iL]
  omega
theorem mA:(2:Int)^2097<=jO:=by
 have h:(2:Int)^2097<=(V Ieee.double 9218868437227405311:Int):=by decide +kernel
 exact h
theorem oV {b c:Nat} {x:Int} (h:(x.natAbs:Int)<=2^b) (hbc:b<=c):(x.natAbs:Int)<=2^c:=Int.le_trans h (jB hbc)
def LB (s:Ls) (b:Nat):Prop:=∀ i,i<s.n->((iV (s.d i)).natAbs:Int)<=2^b
theorem LB.add {s:Ls} {b:Nat} (h:LB s b) {x:Int} (hx:((iV x).natAbs:Int)<=2^b):LB (s.add x) b:=by
 unfold Ls.add
 split
 ·exact h
 ·intro i hi
  show((iV (cr s.d s.n x i)).natAbs:Int)<=_
  by_cases e:i=s.n
  ·subst e;rw[bG];exact hx
  ·rw[bg _ _ e];exact h i (by have:i<s.n+1:=hi;omega)
theorem XV.fn {s:Ls} (h:XV s.d s.n):s.fin:=fun i hi=>⟨(h.fin i hi).1,(h.fin i hi).2.1⟩
def yp (d T:Nat->Int) (b:Int) (n:Nat):Prop:=∀ j,j<n->2^1074*T j=iV (d j)*iV b
def yq (T:Nat->Int):Nat->Int
 | 0=>0
 | k+1=>yq T k+T k
theorem rf (T:Nat->Int) (k:Nat):yq T (k+1)=yq T k+T k:=rfl
theorem oz {d T:Nat->Int} {b:Int} {n:Nat} (h:yp d T b n):∀ k,k<=n->2^1074*yq T k=dM d k*iV b
 | 0,_=>by show 2^1074*(0:Int)=0*iV b;rw[Int.mul_zero,Int.zero_mul]
 | k+1,hk=>by rw[rf,iL,Int.mul_add,Int.add_mul,oz h k (by omega),h k (by omega)]
theorem GY {t B:Nat} {x b T:Int} (hx:(2^t:Int) ∣ x) (hb:(2^B:Int) ∣ b) (hT:2^1074*T=x*b):(2^(t+B-1074):Int) ∣ T:=by
 by_cases h:t+B<=1074
 ·rw[Nat.sub_eq_zero_of_le h,Int.pow_zero];exact Int.one_dvd _
 ·obtain⟨a,ha⟩:=hx
  obtain⟨c,hc⟩:=hb
  refine⟨a*c,?_⟩
  have e:(2:Int)^1074*T=2^1074*(2^(t+B-1074)*(a*c)):=by
   rw[hT,ha,hc,<- Int.mul_assoc (2^1074),<- Int.pow_add,show 1074+(t+B-1074)=t+B by omega,Int.pow_add]
   generalize (2:Int)^t=X
   generalize (2:Int)^B=Y
   grind
  exact Int.eq_of_mul_eq_mul_left (Int.ne_of_gt (p2 1074)) e
theorem Pb {b:Int} {B:Nat} (h1:(2^B:Int) ∣ b) (h2:(b.natAbs:Int)<9007199254740992*2^B):(b.natAbs:Int)<=9007199254740991*2^B:=by
 have h3:=wZ (u:=0) h1 (⟨9007199254740992,by rw[Int.mul_comm]⟩:(2^B:Int) ∣ 9007199254740992*2^B) h2
 generalize (2:Int)^B=Y at *
 omega
theorem Nd {A C X Y M:Int} (hA:0<=A) (hC:0<=C) (h1:A<=X-1) (h2:C<=M*Y) (hM:0<M) (hY:0<Y):A*C<X*Y*M:=by
 have e1:A*C<=(X-1)*C:=Int.mul_le_mul_of_nonneg_right h1 hC
 have e2:(X-1)*C<=(X-1)*(M*Y):=Int.mul_le_mul_of_nonneg_left h2 (by omega)
 have e3:0<M*Y:=Int.mul_pos hM hY
 have e4:(X-1)*(M*Y)=X*Y*M-M*Y:=by grind
 omega
theorem qd {t B:Nat} {x b T:Int} (hx:(x.natAbs:Int)<2^t) (h1:(2^B:Int) ∣ b) (h2:(b.natAbs:Int)<9007199254740992*2^B) (hT:2^1074*T=x*b):(T.natAbs:Int)<9007199254740991*2^(t+B-1074):=by
 have h3:=Pb h1 h2
 have e1:((2^1074*T).natAbs:Int)=2^1074*(T.natAbs:Int):=fd 1074 T
 have e2:((x*b).natAbs:Int)=(x.natAbs:Int)*(b.natAbs:Int):=by rw[Int.natAbs_mul,Int.natCast_mul]
 have e3:=Nd (A:=(x.natAbs:Int)) (C:=(b.natAbs:Int)) (X:=2^t) (Y:=2^B) (M:=9007199254740991) (by omega) (by omega) (by omega) h3 (by decide) (p2 B)
 rw[<- e2,<- hT,e1,<- Int.pow_add] at e3
 have e4:(2:Int)^(t+B)<=2^(1074+(t+B-1074)):=jB (by omega)
 rw[Int.pow_add 2 1074] at e4
 have e5:(2:Int)^(t+B)*9007199254740991<=2^1074*2^(t+B-1074)*9007199254740991:=Int.mul_le_mul_of_nonneg_right e4 (by decide)
 have e6:(2:Int)^1074*(T.natAbs:Int)<2^1074*(9007199254740991*2^(t+B-1074)):=by
  refine Int.lt_of_lt_of_le e3 (Int.le_trans e5 ?_)
  rw[Int.mul_assoc,Int.mul_comm (2^(t+B-1074)) 9007199254740991]
  exact Int.le_refl _
 exact Int.lt_of_mul_lt_mul_left e6 (Int.le_of_lt (p2 1074))
theorem jI {L:Ls} {l:Int} (P:Int->Prop) (h:∀ i,i<L.n->P (L.d i)) (hl:rg l≠0->P l):∀ i,i<(L.add l).n->P ((L.add l).d i):=by
 intro i
 unfold Ls.add
 split
 ·exact h i
 ·rename_i hz
  intro hi
  have hi':i<L.n+1:=hi
  show P (cr L.d L.n l i)
  by_cases e:i=L.n
  ·subst e;rw[bG];exact hl hz
  ·rw[bg _ _ e];exact h i (by omega)
theorem tH {d:Nat->Int} {n t:Nat} (h:XV d n) (ht:∀ i,i<n->((iV (d i)).natAbs:Int)<2^t):((dM d n).natAbs:Int)<2^t:=by
 cases n with
 | zero=>have:=p2 t;show(((0:Int).natAbs:Nat):Int)<_;omega
 | succ n=>exact ow h t (ht n (by omega))
structure SI (d T:Nat->Int) (B N k:Nat) (L:Ls) (q:Int):Prop where
 xv:XV L.d L.n
 sum:dM L.d L.n+iV q=yq T (k+1)
 up:∀ i,i<L.n->∃ s:Nat,((iV (L.d i)).natAbs:Int)<2^s∧(2^s:Int) ∣ iV q∧∀ j,k<j->j<=N->(2^s:Int) ∣ T j
 small:∀ t:Nat,((iV (d k)).natAbs:Int)<2^t->∀ i,i<L.n->((iV (L.d i)).natAbs:Int)<2^(t+B-1074)
theorem xb {d T:Nat->Int} {b:Int} {B N k:Nat} (hd:XV d (N+1)) (hB1:(2^B:Int) ∣ iV b) (hT:yp d T b (N+1)) (hk:k<=N):∃ t:Nat,((iV (d k)).natAbs:Int)<2^t∧∀ j,k<j->j<=N->(2^(t+B-1074):Int) ∣ T j:=by
 by_cases h:k<N
 ·obtain⟨t,k1,k2⟩:=hd.lo k (by omega)
  refine⟨t,k1,fun j hj hjn=>GY ?_ hB1 (hT j (by omega))⟩
  by_cases e:j=k+1
  ·subst e;exact k2
  ·obtain⟨t2,m1,m2⟩:=hd.far (show k+1<j by omega) (by omega)
   have h4:=jC k2 (hd.ne (by omega)) (p2 t)
   have h5:t<t2:=qV (Int.lt_of_le_of_lt h4 m1)
   exact Int.dvd_trans (dI (by omega)) m2
 ·refine⟨(iV (d k)).natAbs,?_,fun j hj hjn=>by omega⟩
  have:(iV (d k)).natAbs<2^(iV (d k)).natAbs:=Nat.lt_two_pow_self
  have h2:(((iV (d k)).natAbs:Nat):Int)<((2^(iV (d k)).natAbs:Nat):Int):=by omega
  rwa [Lp] at h2
theorem tI {x:Int} {g:Nat} (h:2*(x.natAbs:Int)<=2^g):(x.natAbs:Int)<2^g:=by
 have:=p2 g
 omega
theorem nD {x b T:Int} (rx:ag x) (rb:ag b) (hx:pX x b=true) (hT:2^1074*T=iV x*iV b):ak (aC x b)=true∧ak (cw x b)=true∧iV (aC x b)+iV (cw x b)=T∧Nr T (iV (aC x b)):=by
 unfold pX at hx
 rw[Bool.and_eq_true] at hx
 obtain⟨⟨px,pb⟩,pf,e⟩:=GF rx rb hx.1 hT
 exact⟨pf,hx.1,e,(fw rx rb px pb hT).nr pf⟩
theorem Nf {d T:Nat->Int} {b:Int} {B N:Nat} (hd:XV d (N+1)) (rb:ag b) (hB1:(2^B:Int) ∣ iV b) (hB2:((iV b).natAbs:Int)<9007199254740992*2^B) (hT:yp d T b (N+1)) (hx:pX (d 0) b=true):SI d T B N 0 ((⟨0,fun _=>0⟩:Ls).add (cw (d 0) b)) (aC (d 0) b):=by
 obtain⟨r0,p0,z0⟩:=hd.fin 0 (by omega)
 obtain⟨pf,pl,e,nr⟩:=nD r0 rb hx (hT 0 (by omega))
 have rl:=iY r0 rb
 have small:∀ t:Nat,((iV (d 0)).natAbs:Int)<2^t->((iV (cw (d 0) b)).natAbs:Int)<2^(t+B-1074):=fun t ht=>by
  have h1:=qd ht hB1 hB2 (hT 0 (by omega))
  have h2:=mP nr (i:=t+B-1074) (by have:=p2 (t+B-1074);omega)
  have h3:iV (cw (d 0) b)=T 0-iV (aC (d 0) b):=by omega
  refine tI ?_
  rw[h3]
  omega
 refine⟨XV.add ⟨fun i hi=>absurd hi (Nat.not_lt_zero _),fun i hi=>absurd hi (Nat.not_lt_zero _)⟩ rl pl (fun i hi=>absurd hi (Nat.not_lt_zero _)),?_,?_,fun t ht=>jI (fun x=>((iV x).natAbs:Int)<2^(t+B-1074)) (fun i hi=>absurd hi (Nat.not_lt_zero _)) fun _=>small t ht⟩
 ·rw[kF rl,rf]
  show(0:Int)+_+_=0+_
  omega
 ·refine jI (fun x=>∃ s:Nat,((iV x).natAbs:Int)<2^s∧(2^s:Int) ∣ iV (aC (d 0) b)∧∀ j,0<j->j<=N->(2^s:Int) ∣ T j) (fun i hi=>absurd hi (Nat.not_lt_zero _)) fun hz=>?_
  have hne:=(ja rl pl hz).1
  obtain⟨u,h1,h2⟩:=nP nr (fun c=>hne (by omega))
  obtain⟨t,k1,k2⟩:=xb hd hB1 hT (k:=0) (by omega)
  have h3:=small t k1
  have h4:iV (cw (d 0) b)=T 0-iV (aC (d 0) b):=by omega
  rw[<- h4] at h2
  by_cases hut:u<=t+B-1074
  ·exact⟨u,h2,h1,fun j hj hjn=>Int.dvd_trans (dI hut) (k2 j hj hjn)⟩
  ·exact⟨t+B-1074,h3,Int.dvd_trans (dI (by omega)) h1,k2⟩
theorem Ng {d T:Nat->Int} {b:Int} {B N k:Nat} (hd:XV d (N+1)) (rb:ag b) (hB1:(2^B:Int) ∣ iV b) (hB2:((iV b).natAbs:Int)<9007199254740992*2^B) (hT:yp d T b (N+1)) (hk:k<N) {L:Ls} {q:Int} (rq:ag q) (pq:ak q=true) (h:SI d T B N k L q)
    (hx1:pX (d (k+1)) b=true) (hx2:ak (sL q (cw (d (k+1)) b))=true) (hx3:fX (aC (d (k+1)) b) (aF q (cw (d (k+1)) b))=true) :
    SI d T B N (k+1) ((L.add (sL q (cw (d (k+1)) b))).add (fL (aC (d (k+1)) b) (aF q (cw (d (k+1)) b)))) (aF (aC (d (k+1)) b) (aF q (cw (d (k+1)) b))):=by
  obtain⟨rx,px,zx⟩:=hd.fin (k+1) (by omega)
  have xne:=hd.ne (show k+1<N+1 by omega)
  have hTk:=hT (k+1) (by omega)
  obtain⟨pT,pu,eT,nT⟩:=nD rx rb hx1 hTk
  have ru:=iY rx rb
  have rT:=bc rx rb
  have n1:=nR rq ru hx2
  obtain⟨_,p1,e1⟩:=kj rq ru hx2
  have r1:=aT rq ru
  have rl1:ag (sL q (cw (d (k+1)) b)):=kT rq ru
  obtain⟨p2',pl2⟩:=Aw rT r1 hx3
  have e2:iV (aF (aC (d (k+1)) b) (aF q (cw (d (k+1)) b)))+iV (fL (aC (d (k+1)) b) (aF q (cw (d (k+1)) b)))=iV (aC (d (k+1)) b)+iV (aF q (cw (d (k+1)) b)):=by
    have:=GE rT r1 pl2
    rw[hx3] at this
    exact of_decide_eq_true this.symm
  have n2:=(il rT r1 pT p1).nr p2'
  have rl2:ag (fL (aC (d (k+1)) b) (aF q (cw (d (k+1)) b))):=Aq rT r1
  obtain⟨hxv,hsum,hup,hsmall⟩:=h
  have hl1:=tG (fJ q) n1
  generalize fL (aC (d (k+1)) b) (aF q (cw (d (k+1)) b))=l2 at *
  generalize aF (aC (d (k+1)) b) (aF q (cw (d (k+1)) b))=q2 at *
  generalize sL q (cw (d (k+1)) b)=l1 at *
  generalize aF q (cw (d (k+1)) b)=q1 at *
  generalize cw (d (k+1)) b=u at *
  generalize aC (d (k+1)) b=Tp at *
  have eu:iV u=T (k+1)-iV Tp:=by omega
  have el1:iV l1=iV q+iV u-iV q1:=by omega
  have el2:iV l2=iV Tp+iV q1-iV q2:=by omega
  rw[<- el1] at hl1
  have hold:∀ i,i<L.n->∃ s:Nat,((iV (L.d i)).natAbs:Int)<2^s∧(2^s:Int) ∣ iV l1∧(2^s:Int) ∣ iV l2∧(2^s:Int) ∣ iV q2∧∀ j,k+1<j->j<=N->(2^s:Int) ∣ T j:=fun i hi=>by
    obtain⟨s,h1,h2,h3⟩:=hup i hi
    have d1:=h3 (k+1) (by omega) (by omega)
    have d2:=iU nT d1
    have d3:(2^s:Int) ∣ iV u:=by rw[eu];exact Int.dvd_sub d1 d2
    have d4:(2^s:Int) ∣ iV q+iV u:=Int.dvd_add h2 d3
    have d5:=iU n1 d4
    have d6:(2^s:Int) ∣ iV Tp+iV q1:=Int.dvd_add d2 d5
    have d7:=iU n2 d6
    exact⟨s,h1,by rw[el1];exact Int.dvd_sub d4 d5,by rw[el2];exact Int.dvd_sub d6 d7,d7,fun j hj hjn=>h3 j (by omega) hjn⟩
  have hxv1:XV (L.add l1).d (L.add l1).n:=hxv.add rl1 hx2 fun i hi=>by
    obtain⟨s,h1,h2,_⟩:=hold i hi
    exact⟨s,h1,h2⟩
  have hu:∀ t:Nat,((iV (d (k+1))).natAbs:Int)<2^t->2*((iV u).natAbs:Int)<=2^(t+B-1074):=fun t ht=>by
    have h1:=qd ht hB1 hB2 hTk
    have h2:=mP nT (i:=t+B-1074) (by have:=p2 (t+B-1074);omega)
    rw[eu]
    omega
  have hs1:∀ t:Nat,((iV (d (k+1))).natAbs:Int)<2^t->∀ i,i<(L.add l1).n->((iV ((L.add l1).d i)).natAbs:Int)<2^(t+B-1074):=fun t ht=>by
    refine jI (fun x=>((iV x).natAbs:Int)<2^(t+B-1074)) (fun i hi=>?_) fun _=>?_
    · obtain⟨t0,k1,k2⟩:=hd.lo k (by omega)
      have h1:=hsmall t0 k1 i hi
      have h2:=jC k2 xne (p2 t0)
      have h3:t0<t:=qV (Int.lt_of_le_of_lt h2 ht)
      exact Int.lt_of_lt_of_le h1 (jB (by omega))
    · have:=tI (hu t ht)
      omega
  have hl2:∀ t:Nat,((iV (d (k+1))).natAbs:Int)<2^t->((iV l2).natAbs:Int)<2^(t+B-1074):=fun t ht=>by
    have h1:=tH hxv1 (hs1 t ht)
    rw[kF rl1] at h1
    have hxk:XV d (k+1+1):=⟨fun i hi=>hd.fin i (by omega),fun i hi=>hd.lo i (by omega)⟩
    have h2:=qd (ow hxk t ht) hB1 hB2 (oz hT (k+1+1) (by omega))
    rw[rf] at h2
    have h3:=mP n2 (i:=t+B-1074) (by
      generalize (2:Int)^(t+B-1074)=Y at *
      omega)
    refine tI ?_
    rw[el2]
    omega
  have hl1s:rg l1≠0->∃ s:Nat,((iV l1).natAbs:Int)<2^s∧(2^s:Int) ∣ iV l2∧(2^s:Int) ∣ iV q2∧∀ j,k+1<j->j<=N->(2^s:Int) ∣ T j:=fun hz=>by
    have hne:=(ja rl1 hx2 hz).1
    obtain⟨u1,a1,a2⟩:=nP n1 (fun c=>hne (by omega))
    rw[<- el1] at a2
    obtain⟨u2,b1,b2⟩:=nP nT (fun c=>hne (by omega))
    rw[<- eu] at b2
    obtain⟨t,k1,k2⟩:=xb hd hB1 hT (k:=k+1) (by omega)
    have c2:=tI (hu t k1)
    obtain⟨s,hs1,hs2,hs3,hs4⟩:∃ s:Nat,s<=u1∧s<=u2∧s<=t+B-1074∧((iV l1).natAbs:Int)<2^s:=by
      by_cases h1:u1<=u2∧u1<=t+B-1074
      · exact⟨u1,Nat.le_refl _,h1.1,h1.2,a2⟩
      · by_cases h2:u2<=t+B-1074∧u2<=u1
        · exact⟨u2,h2.2,Nat.le_refl _,h2.1,by omega⟩
        · exact⟨t+B-1074,by omega,by omega,Nat.le_refl _,by omega⟩
    have d6:(2^s:Int) ∣ iV Tp+iV q1:=Int.dvd_add (Int.dvd_trans (dI hs2) b1) (Int.dvd_trans (dI hs1) a1)
    have d7:=iU n2 d6
    exact⟨s,hs4,by rw[el2];exact Int.dvd_sub d6 d7,d7,fun j hj hjn=>Int.dvd_trans (dI hs3) (k2 j hj hjn)⟩
  have hl2s:rg l2≠0->∃ s:Nat,((iV l2).natAbs:Int)<2^s∧(2^s:Int) ∣ iV q2∧∀ j,k+1<j->j<=N->(2^s:Int) ∣ T j:=fun hz=>by
    have hne:=(ja rl2 pl2 hz).1
    obtain⟨u3,a1,a2⟩:=nP n2 (fun c=>hne (by omega))
    rw[<- el2] at a2
    obtain⟨t,k1,k2⟩:=xb hd hB1 hT (k:=k+1) (by omega)
    have c2:=hl2 t k1
    by_cases hut:u3<=t+B-1074
    · exact⟨u3,a2,a1,fun j hj hjn=>Int.dvd_trans (dI hut) (k2 j hj hjn)⟩
    · exact⟨t+B-1074,c2,Int.dvd_trans (dI (by omega)) a1,k2⟩
  refine⟨hxv1.add rl2 pl2 ?_,?_,?_,fun t ht=>jI (fun x=>((iV x).natAbs:Int)<2^(t+B-1074)) (hs1 t ht) fun _=>hl2 t ht⟩
  · refine jI (fun x=>Lo (iV x) (iV l2)) (fun i hi=>?_) fun hz=>?_
    · obtain⟨s,h1,_,h3,_⟩:=hold i hi
      exact⟨s,h1,h3⟩
    · obtain⟨s,h1,h2,_⟩:=hl1s hz
      exact⟨s,h1,h2⟩
  · rw[kF rl2,kF rl1,rf]
    omega
  · refine jI (fun x=>∃ s:Nat,((iV x).natAbs:Int)<2^s∧(2^s:Int) ∣ iV q2∧∀ j,k+1<j->j<=N->(2^s:Int) ∣ T j) ?_ hl2s
    refine jI (fun x=>∃ s:Nat,((iV x).natAbs:Int)<2^s∧(2^s:Int) ∣ iV q2∧∀ j,k+1<j->j<=N->(2^s:Int) ∣ T j) (fun i hi=>?_) fun hz=>?_
    · obtain⟨s,h1,_,_,h4,h5⟩:=hold i hi
      exact⟨s,h1,h4,h5⟩
    · obtain⟨s,h1,_,h3,h4⟩:=hl1s hz
      exact⟨s,h1,h3,h4⟩
end Go.Proofs.YtjjihmnbdeeedaaGreatDoor
