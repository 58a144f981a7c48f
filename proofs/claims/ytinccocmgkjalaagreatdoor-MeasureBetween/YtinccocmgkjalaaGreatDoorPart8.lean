/-
  Parts of the proof, one behind another.
-/
import Derived.Test.YtinccocmgkjalaaGreatDoorPart7
import Derived.Test.YtinccocmgkjalaaGreatDoorPart6
import Derived.Test.YtinccocmgkjalaaGreatDoorPart4
import Derived.Test.YtinccocmgkjalaaGreatDoorPart3
import Derived.Deep.AppendLies
import Derived.Deep.RegionHeld3
import Derived.Deep.RegionLaw
import Derived.Test.YtinccocmgkjalaaGreatDoorPart5
import Derived.Test.YtinccocmgkjalaaGreatDoorRows
import Derived.Test.YtinccocmgkjalaaGreatDoorPart2
import Derived.ProofKit
import Derived.OpenShut
import Derived.ChangeOld
import Derived.LaidMore
import Derived.Deep.Strs
import Derived.Lib.LaidTab
import Derived.MakeChecks
import Derived.Stop.LaidErr
set_option linter.unusedVariables false
set_option linter.unusedSimpArgs false
namespace Go.Proofs.YtinccocmgkjalaaGreatDoor
open Go Go.RowKit Go.Proofs.YtinccocmgkjalaaGreatDoor.M
theorem dy_lit (ng:Bool) {m e:Int} (h0:0 < m) (h1:m % 2=1) (he:-4194304 <= e):Dy (sg ng m * pw e) ng m e:=⟨rfl,he,.inr ⟨h0,h1⟩⟩
theorem dnum_lit {w:World} {g:Nat} (ng:Bool) {m e:Int} (h0:0 < m) (h1:m % 2=1) (h2:m < 1073741824) (he:-4194304 <= e) (hg:w.heap[g]?=some (.cells #[.int .i64 m] 3 (0,0))) :
  DNum w (.agg #[.bool ng,.slice (some ⟨g,0,none⟩) 1 1,.int .i64 e]) (sg ng m * pw e):=by
 refine ⟨ng,_,m,e,rfl,dy_lit ng h0 h1 he,_,1,1,fun _=>m,rfl,?_,⟨fun i _=>by show 0 <= m∧m < 1073741824; omega,.inr (by show m ≠ 0; omega)⟩,by show 0 + m * 1=m; omega⟩
 exact ⟨Nat.le_refl _,by omega,fun h=>by simp at h,fun _=>⟨g,0,rfl,(Array.getElem?_eq_some_iff.1 hg).1,fun i hi=>by
  obtain rfl:i=0:=by omega
  exact blkC hg 0 rfl⟩⟩
theorem pw_step {e k:Int} {l:Nat} (h:-4194304 <= e) (hk:k=e + l):pw k=pw e * 2 ^ l:=by rw [hk,pw_add h]
set_option maxHeartbeats 1000000 in
theorem rshl_qp (ao:Option Addr) (n ca q p:Nat) (a:Nat->Int) (w:World) (ha:Row w ao n ca a) (da:Dig a n) (hn:n <= 100000) (hq:q <= 100000) (hp:p < 30) (k:Int) (hk:k=30 * q + p) :
  Calls Tryz.prog 148 #[.slice ao n ca,.int .i64 k] w fun e w'=>∃ v,e=.returned v∧Ans w w' (P q * (2 ^ p * val a n)) v:=by
 have hla:=ha.le
 have hma:=ha.max
 have e1:k / 30=q:=by omega
 have e2:k % 30=p:=by omega
 have hk0:0 <= k:=by omega
 clear hk
 have hu:=two_pos p
 have hu2:(2:Int) ^ p <= 2 ^ 29:=two_le (by omega)
 by_cases hn0:n=0
 ·subst hn0
  have H0:Hid (P q * (2 ^ p * val a 0)=0):=by show _=_; simp [val]
  go_enter Tryz.func148,Tryz.ntmps148
  go_wp2
  go_ret
  exact ⟨_,rfl,by rw [H0.out]; exact Ans.nil (bel_refl _)⟩
 ·have en:((n:Int) == 0)=false:=by simp; omega
  go_enter Tryz.func148,Tryz.ntmps148
  go_wp2_with (at_make; refine wpList_mk rfl _ _ rfl _ _ q rfl rfl (by omega) (by omega) (by omega) ?_; intro w1 hB1 hb1)
  rw [e2]
  go_loopw [5,7,8] (fun l c i wr=>∃ (k:Nat) (c':Int) (r:Nat->Int),k <= n∧i=.int .i64 k∧c=.int .i64 c'∧0 <= c'∧c' < 2 ^ p∧Out w.heap.size wr l (q + k) r∧Dig r (q + k)∧Hid (∀ i,i < q->r i=0)∧Hid (val (fun i=>r (q + i)) k + c' * P k=2 ^ p * val a k)∧Below w.heap.size w wr) (fun _ _ i _=>n - (intOf i).toNat)
  case atStart=>exact ⟨0,0,fun _=>0,Nat.zero_le _,rfl,rfl,by omega,hu,hB1.out (Nat.le_refl _) (Nat.le_refl _) (by omega),zero_dig _,fun _ _=>rfl,by show _=_; show (0:Int) + 0 * 1=2 ^ p * 0; omega,hb1⟩
  case round=>
   obtain ⟨k,c,r,hk,rfl,rfl,hc0,hc1,hO,hD,HZ,HV,hbw⟩:=hrel
   by_cases hlt:k < n
   ·obtain ⟨ba,fa,rfl,hba,hca⟩:=ha.spot (by omega)
    have c1:=(hbw.cell (p:=⟨ba,fa + k,none⟩) hba).trans (hca k hlt)
    have dk:=da k hlt
    obtain ⟨s0,s1,s2⟩:=shl_dig dk (show p <= 30 by omega)
    have hc2:(a k * 2 ^ p + c) / 1073741824 < 2 ^ p:=by omega
    go_wp2_with (at_builtin; refine wpList_app rfl _ _ rfl w.heap.size _ (q + k) r rfl (hO.stays (bel_alloc _ _)) _ 1 1 (fun _=>(a k * 2 ^ p + c) % 1073741824) rfl (row1 _ _ rfl) (by omega) (by have:=hbw.size; simp; omega) ?_; intro v' w1 hO1 hg1)
    have hb1:Below w.heap.size w w1:=(hbw.alloc hbw.size _).grown hg1 (by have:=hbw.size; simp; omega) (own_ge hO)
    have hs:=sum_step (x:=a k * 2 ^ p) HV.out
    rw [Int.add_comm c] at hs
    go_roundw
    case rel=>exact ⟨k + 1,(a k * 2 ^ p + c) / 1073741824,upd r (q + k) ((a k * 2 ^ p + c) % 1073741824),by omega,by go_num,rfl,by omega,hc2,hO1.congr (cat_upd r (q + k) _),dig_upd2 hD (mod_dig _),fun i hi=>by rw [upd_other r _ (by omega)]; exact HZ.out i hi,by show _=_; rw [upd_shift,hs,val_succ]; grind,hb1⟩
    case measure=>simp [intOf]; omega
   ·obtain rfl:k=n:=by omega
    go_wp2_with (at_builtin; refine wpList_app rfl _ _ rfl w.heap.size _ (q + k) r rfl (hO.stays (bel_alloc _ _)) _ 1 1 (fun _=>c) rfl (row1 _ _ rfl) (by omega) (by have:=hbw.size; simp; omega) ?_; intro v' w1 hO1 hg1)
    have hb1:Below w.heap.size w w1:=(hbw.alloc hbw.size _).grown hg1 (by have:=hbw.size; simp; omega) (own_ge hO)
    have D2:Dig (upd r (q + k) c) (q + k + 1):=dig_upd2 hD ⟨hc0,by omega⟩
    refine (rtrim_ans (hO1.congr (cat_upd r (q + k) c)) D2 hb1).mono ?_
    rintro e w3 ⟨v',rfl,hA,rfl⟩
    go_wp2
    go_ret
    refine ⟨_,rfl,?_⟩
    rw [Nat.add_assoc,val_shift0 _ _ _ (fun i hi=>by rw [upd_other r _ (by omega)]; exact HZ.out i hi),upd_shift,val_succ,upd_same,val_upd_ge _ _ (Nat.le_refl _),HV.out] at hA
    exact hA
theorem rshl_any (ao:Option Addr) (n ca k:Nat) (a:Nat->Int) (w:World) (ha:Row w ao n ca a) (da:Dig a n) (hn:n <= 100000) (hk:k <= 2000000) :
  Calls Tryz.prog 148 #[.slice ao n ca,.int .i64 k] w fun e w'=>∃ v,e=.returned v∧Ans w w' (val a n * 2 ^ k) v:=by
 refine (rshl_qp ao n ca (k / 30) (k % 30) a w ha da hn (by omega) (by omega) k (by omega)).mono ?_
 rintro e w' ⟨v,he,h⟩
 refine ⟨v,he,?_⟩
 rw [two_split k]
 rwa [show val a n * (P (k / 30) * 2 ^ (k % 30))=P (k / 30) * (2 ^ (k % 30) * val a n) by grind]
set_option maxRecDepth 100000 in
set_option maxHeartbeats 1000000 in
theorem rshr_qp (ao:Option Addr) (n ca q p:Nat) (a:Nat->Int) (w:World) (ha:Row w ao n ca a) (da:Dig a n) (hn:n <= 100000) (hp:p < 30) (k:Int) (hk:k=30 * q + p) (hkm:k <= 4000000) :
  Calls Tryz.prog 147 #[.slice ao n ca,.int .i64 k] w fun e w'=>∃ v,e=.returned v∧Ans w w' (val a n / P q / 2 ^ p) v:=by
 have hla:=ha.le
 have hma:=ha.max
 have e1:k / 30=q:=by omega
 have e2:k % 30=p:=by omega
 have hk0:0 <= k:=by omega
 have hq1:q <= 200000:=by omega
 clear hk
 have hu:=two_pos p
 have hu2:(2:Int) ^ p <= 2 ^ 29:=two_le (by omega)
 have huv:(2:Int) ^ p * 2 ^ (30 - p)=1073741824:=by rw [<- Int.pow_add,show p + (30 - p)=30 by omega]; rfl
 have HU:Hid ((2:Int) ^ p * 2 ^ (30 - p)=1073741824):=huv
 have hdv:(1073741824:Int) / 2 ^ p=2 ^ (30 - p):=by rw [<- huv]; exact Int.mul_ediv_cancel_left _ (by omega)
 have hz:((2:Int) ^ p == 0)=false:=by simp; omega
 clear huv
 by_cases hqn:n <= q
 ·have H0:Hid (val a n / P q / 2 ^ p=0):=by
   show _=_
   rw [Int.ediv_eq_zero_of_lt (val_nonneg da) (by have:=val_lt da; have:=P_le hqn; omega)]; exact Int.zero_ediv _
  go_enter Tryz.func147,Tryz.ntmps147
  go_wp2
  go_ret
  exact ⟨_,rfl,by rw [H0.out]; exact Ans.nil (bel_refl _)⟩
 ·obtain ⟨ba,fa,rfl,hba,hca⟩:=ha.spot (by omega)
  obtain ⟨N,hN⟩:∃ N,n=q + N:=⟨n - q,by omega⟩
  have HN:Hid (n=q + N):=hN
  have hn1:q + N <= n:=by omega
  have hn2:n <= q + N:=by omega
  have hN0:0 < N:=by omega
  clear hN
  go_enter Tryz.func147,Tryz.ntmps147
  go_wp2
  rw [e1,e2]
  go_loopw [5,7] (fun l i wr=>∃ (k:Nat) (r:Nat->Int),k <= N∧i=.int .i64 ((q:Int) + k)∧Out w.heap.size wr l k r∧Hid (∀ i,i < k->r i=low (fun j=>ext a n (q + j)) (2 ^ p) (2 ^ (30 - p)) i)∧Below w.heap.size w wr) (fun _ i _=>n - (intOf i).toNat)
  case atStart=>exact ⟨0,fun _=>0,Nat.zero_le _,by simp,Out.nil _ _ _,fun i hi=>by omega,bel_refl _⟩
  case round=>
   obtain ⟨k,r,hk,rfl,hO,HV,hbw⟩:=hrel
   by_cases hlt:k < N
   ·have c1:=(hbw.cell (p:=⟨ba,fa + (q + k),none⟩) hba).trans (hca (q + k) (by omega))
    have dx:=da (q + k) (by omega)
    by_cases hl2:q + k + 1 < n
    ·have dy:=da (q + k + 1) (by omega)
     obtain ⟨s0,s1,s2,s3,s4⟩:=shr_part dx dy hp
     have s5:0 <= a (q + k + 1) % 2 ^ p * 2 ^ (30 - p):=Int.mul_nonneg s3 (Int.le_of_lt (two_pos _))
     have s6:(2:Int) ^ (30 - p) <= 2 ^ 30:=two_le (by omega)
     have c2:=(hbw.cell (p:=⟨ba,fa + (q + k + 1),none⟩) hba).trans (hca (q + k + 1) (by omega))
     clear s2
     go_wp2
     go_quiet (fail)
     go_wp2_with (at_builtin; refine wpList_app rfl _ _ rfl w.heap.size _ k r rfl ((hO.stays (bDrewN (bel_refl _) _)).stays (bel_alloc _ _)) _ 1 1 (fun _=>(a (q + k) / 2 ^ p + a (q + k + 1) % 2 ^ p * 2 ^ (30 - p))) rfl (row1 _ _ rfl) (by omega) (by have:=hbw.size; simp [World.drewN]; omega) ?_; intro v' w1 hO1 hg1)
     have hb1:Below w.heap.size w w1:=((bDrewN hbw _).alloc hbw.size _).grown hg1 (by have:=hbw.size; simp [World.drewN]; omega) (own_ge hO)
     go_roundw
     case rel=>exact ⟨k + 1,upd r k (a (q + k) / 2 ^ p + a (q + k + 1) % 2 ^ p * 2 ^ (30 - p)),by omega,by go_num,hO1.congr (cat_upd r k _),fun i hi=>by
       by_cases e:i=k
       ·rw [e,upd_same]
        show _=ext a n (q + k) / 2 ^ p + ext a n (q + (k + 1)) % 2 ^ p * 2 ^ (30 - p)
        rw [ext_lt a (by omega),ext_lt a (by omega),Nat.add_assoc]
       ·rw [upd_other _ _ e]; exact HV.out i (by omega),hb1⟩
     case measure=>simp [intOf]; omega
    ·obtain ⟨s0,s1,_,_,_⟩:=shr_part dx dx hp
     have s6:(2:Int) ^ (30 - p) <= 2 ^ 30:=two_le (by omega)
     go_wp2_with (at_builtin; refine wpList_app rfl _ _ rfl w.heap.size _ k r rfl (hO.stays (bel_alloc _ _)) _ 1 1 (fun _=>(a (q + k) / 2 ^ p)) rfl (row1 _ _ rfl) (by omega) (by have:=hbw.size; simp; omega) ?_; intro v' w1 hO1 hg1)
     have hb1:Below w.heap.size w w1:=(hbw.alloc hbw.size _).grown hg1 (by have:=hbw.size; simp; omega) (own_ge hO)
     go_roundw
     case rel=>exact ⟨k + 1,upd r k (a (q + k) / 2 ^ p),by omega,by go_num,hO1.congr (cat_upd r k _),fun i hi=>by
       by_cases e:i=k
       ·rw [e,upd_same,low_last (s:=fun j=>ext a n (q + j)) (ext_ge a (by omega)),ext_lt a (by omega)]
       ·rw [upd_other r _ e]; exact HV.out i (by omega),hb1⟩
     case measure=>simp [intOf]; omega
   ·obtain rfl:k=N:=by omega
    have DS:Dig (fun j=>ext a n (q + j)) (k + 1):=fun i hi=>ext_dig da (q + k + 1) (q + i) (by omega)
    have D2:Dig r k:=(low_dig hu HU.out DS).congr fun i hi=>(HV.out i hi).symm
    have HD2:Hid (Dig r k):=D2
    clear D2 DS
    go_wp2_with fail
    refine (rtrim_ans hO HD2.out hbw).mono ?_
    rintro e w3 ⟨v',rfl,hA,rfl⟩
    go_wp2
    go_ret
    refine ⟨_,rfl,?_⟩
    rw [val_congr HV.out,low_eq (s:=fun j=>ext a n (q + j)) hu HU.out (ext_ge a (by omega))] at hA
    have e3:=val_drop a (show q <= n by omega) da
    rw [<- e3,show n - q=k by omega]
    rw [show val (fun j=>ext a n (q + j)) k=val (fun i=>a (q + i)) k from val_congr fun i hi=>ext_lt a (by omega)] at hA
    exact hA
theorem rshr_any (ao:Option Addr) (n ca k:Nat) (a:Nat->Int) (w:World) (ha:Row w ao n ca a) (da:Dig a n) (hn:n <= 100000) (hk:k <= 4000000) :
  Calls Tryz.prog 147 #[.slice ao n ca,.int .i64 k] w fun e w'=>∃ v,e=.returned v∧Ans w w' (val a n / 2 ^ k) v:=by
 refine (rshr_qp ao n ca (k / 30) (k % 30) a w ha da hn (by omega) k (by omega) (by omega)).mono ?_
 rintro e w' ⟨v,he,h⟩
 refine ⟨v,he,?_⟩
 rw [two_split k,<- Int.ediv_ediv_of_nonneg (Int.le_of_lt (P_pos _))]
 exact h
def updV {α:Type} (v:Nat->α) (i:Nat) (x:α):Nat->α:=fun j=>if j=i then x else v j
theorem updV_same {α:Type} (v:Nat->α) (i:Nat) (x:α):updV v i x i=x:=by simp [updV]
theorem updV_other {α:Type} (v:Nat->α) {i j:Nat} (x:α) (h:j ≠ i):updV v i x j=v j:=by simp [updV,h]
def valsV (v:Nat->Value) (m:Nat):List Value:=(List.range m).map v
def OutV (B:Nat) (w:World) (x:Value) (m:Nat) (v:Nat->Value):Prop:=w.ownsRow B 32 1 x m (valsV v m)
theorem OutV.shape {B:Nat} {w:World} {x:Value} {m:Nat} {v:Nat->Value} (h:OutV B w x m v):∃ xo xc,x=.slice xo m xc∧m <= xc∧xc <= 9223372036854775807∧(0 < m->∃ g,xo=some ⟨g,0,none⟩):=by
 rcases h.2 with ⟨rfl,rfl⟩ | ⟨g,cap,cur,rfl,hb,hg,hn,hm,_⟩
 ·exact ⟨none,0,rfl,Nat.le_refl _,by decide,fun h=>by omega⟩
 ·exact ⟨_,cap,rfl,hn,by unfold maxLen at hm; exact hm,fun _=>⟨g,rfl⟩⟩
theorem OutV.of_block {B:Nat} {w w':World} {x:Value} {m:Nat} {v:Nat->Value} (h:OutV B w x m v) (hb:∀ g,x.ownBlock=some g->w'.heap[g]?=w.heap[g]?):OutV B w' x m v:=by
 refine ⟨h.1,?_⟩
 rcases h.2 with hn | ⟨g,cap,cur,rfl,hbb,hg,rest⟩
 ·exact .inl hn
 ·exact .inr ⟨g,cap,cur,rfl,hbb,(hb g rfl).trans hg,rest⟩
theorem Out.of_block {B:Nat} {w w':World} {x:Value} {n:Nat} {d:Nat->Int} (h:Out B w x n d) (hb:∀ g,x.ownBlock=some g->w'.heap[g]?=w.heap[g]?):Out B w' x n d:=by
 refine ⟨h.1,?_⟩
 rcases h.2 with hn | ⟨g,cap,cur,rfl,hbb,hg,rest⟩
 ·exact .inl hn
 ·exact .inr ⟨g,cap,cur,rfl,hbb,(hb g rfl).trans hg,rest⟩
theorem Out.typed {B:Nat} {w:World} {x:Value} {n:Nat} {d:Nat->Int} (h:Out B w x n d) {g:Nat} (hg:x.ownBlock=some g):∃ cur z,w.heap[g]?=some (.cells cur 3 z):=by
 rcases h.2 with ⟨rfl,_⟩ | ⟨g',cap,cur,rfl,hbb,hg',rest⟩
 ·simp [Value.ownBlock] at hg
 ·simp only [Value.ownBlock,Option.some.injEq] at hg; subst hg; exact ⟨cur,_,hg'⟩
theorem OutV.typed {B:Nat} {w:World} {x:Value} {n:Nat} {v:Nat->Value} (h:OutV B w x n v) {g:Nat} (hg:x.ownBlock=some g):∃ cur z,w.heap[g]?=some (.cells cur 32 z):=by
 rcases h.2 with ⟨rfl,_⟩ | ⟨g',cap,cur,rfl,hbb,hg',rest⟩
 ·simp [Value.ownBlock] at hg
 ·simp only [Value.ownBlock,Option.some.injEq] at hg; subst hg; exact ⟨cur,_,hg'⟩
theorem OutV.ge {B:Nat} {w:World} {x:Value} {n:Nat} {v:Nat->Value} (h:OutV B w x n v) {g:Nat} (hg:x.ownBlock=some g):B <= g∧g < w.heap.size:=by
 rcases h.2 with ⟨rfl,_⟩ | ⟨g',cap,cur,rfl,hbb,hg',rest⟩
 ·simp [Value.ownBlock] at hg
 ·simp only [Value.ownBlock,Option.some.injEq] at hg; subst hg; exact ⟨hbb,(Array.getElem?_eq_some_iff.1 hg').1⟩
theorem Out.ge {B:Nat} {w:World} {x:Value} {n:Nat} {v:Nat->Int} (h:Out B w x n v) {g:Nat} (hg:x.ownBlock=some g):B <= g∧g < w.heap.size:=by
 rcases h.2 with ⟨rfl,_⟩ | ⟨g',cap,cur,rfl,hbb,hg',rest⟩
 ·simp [Value.ownBlock] at hg
 ·simp only [Value.ownBlock,Option.some.injEq] at hg; subst hg; exact ⟨hbb,(Array.getElem?_eq_some_iff.1 hg').1⟩
theorem OutV.alloc {B:Nat} {w:World} {x:Value} {m:Nat} {v:Nat->Value} (h:OutV B w x m v) (o:Obj):OutV B (w.alloc o) x m v:=h.of_block fun g hg=>Below.heap_alloc _ _ _ (h.ge hg).2
theorem run_app {w:World} (ty:TypeId) (B:Nat) (v:Value) (n:Nat) (d:Nat->Int) (hO:Out B w v n d) (bo:Option Addr) (m cb:Nat) (e:Nat->Int) (hR:Row w bo m cb e) (hlen:n + m <= 1000000) (hB:B <= w.heap.size) :
  ∃ v' w',(Builtin.append_ #[32,32] ty #[v,.slice bo m cb]).run Tryz.prog w=.ok v' w'∧Out B w' v' (n + m) (cat d n e)∧w.grownBy w' v.ownBlock∧(v'.ownBlock=v.ownBlock∨v'.ownBlock=some w.heap.size):=by
 obtain ⟨i0,hi,hz0,hz1,hz2⟩:=info_parts info_int
 cases bo with
 | none=>
  have hc:=hR.nl rfl
  have hl:=hR.le
  subst hc
  obtain rfl:m=0:=by omega
  have hr:=run_append_owned_none (P:=Tryz.prog) w B 32 ty 3 i0 1 Tryz.underlying32 hi v n (vals d n) hO
  exact ⟨v,w,hr,hO.congr fun i hi=>by simp [cat]; omega,⟨rfl,rfl,rfl,Nat.le_refl _,fun _ _ _=>rfl⟩,.inl rfl⟩
 | some ad=>
  obtain ⟨v',w',hr,h2,h3,_,h5⟩:=run_append_own_at (P:=Tryz.prog) w B 32 ty 3 i0 (.int .i64 0) 1 8 Tryz.underlying32 hi hz0 hz1 hz2 rfl (by decide) v n (vals d n) hO ad m cb (vals e m) (by rw [vals_length]; omega)
   (fun j u hu=>by
    have hj:j < m:=by have:=(List.getElem?_eq_some_iff.1 hu).1; rwa [vals_length] at this
    obtain ⟨b,off,hb,_,hc⟩:=hR.spot (by omega)
    obtain rfl:=Option.some.inj hb
    rw [vals_get e hj] at hu
    rw [add_none,hc j hj]; exact hu) (vals_one e m) (by unfold maxLen; omega) (by omega) hB
  rw [vals_cat] at h2
  exact ⟨v',w',hr,h2,h3,h5⟩
def An (B:Nat) (w:World) (v:Value) (V:Int):Prop:=∃ t d,Out B w v t d∧Nrm d t∧val d t=V
theorem An.keeps {B:Nat} {w w':World} {v:Value} {V:Int} (h:An B w v V) (k:Below w.heap.size w w'):An B w' v V:=by
 obtain ⟨t,d,h1,h2⟩:=h
 exact ⟨t,d,h1.stays k,h2⟩
theorem An.lower {B B':Nat} {w:World} {v:Value} {V:Int} (h:An B w v V) (hB:B' <= B):An B' w v V:=by
 obtain ⟨t,d,h1,h2⟩:=h
 exact ⟨t,d,h1.lower hB,h2⟩
theorem An.nil (B:Nat) (w:World):An B w (.slice none 0 0) 0:=⟨0,fun _=>0,Out.nil _ _ _,⟨fun i hi=>by omega,.inl rfl⟩,rfl⟩
theorem Ans.an {w w':World} {V:Int} {v:Value} (h:Ans w w' V v):An w.heap.size w' v V:=by
 obtain ⟨t,d,h1,h2,h3,h4⟩:=h
 exact ⟨t,d,h1,h2,h3⟩
theorem An.shape {B:Nat} {w:World} {v:Value} {V:Int} (h:An B w v V):∃ ao n cap,v=.slice ao n cap:=by
 obtain ⟨t,d,h1,h2⟩:=h
 obtain ⟨ao,cap,e,_⟩:=h1.row
 exact ⟨ao,t,cap,e⟩
theorem An.num {B:Nat} {w:World} {v:Value} {V:Int} (h:An B w v V):Num w v V:=by
 obtain ⟨t,d,h1,h2,h3⟩:=h
 obtain ⟨ao,cap,rfl,hR⟩:=h1.row
 exact ⟨ao,t,cap,d,rfl,hR,h2,h3⟩
theorem An.ge {B:Nat} {w:World} {v:Value} {V:Int} (h:An B w v V) {g:Nat} (hg:v.ownBlock=some g):B <= g∧g < w.heap.size:=by
 obtain ⟨t,d,h1,h2,h3⟩:=h
 exact h1.ge hg
def S2 (S:Nat->Prop) (l:Value) (s:Nat):Nat->Prop:=fun g=>S g∨l.ownBlock=some g∨s <= g
def FitA (B:Nat) (w:World) (V:Int) (v:Value) (er:Int):Prop:=(V < P 2000∧er=0∧An B w v V)∨(P 2000 <= V∧er=2∧v=.slice none 0 0)
theorem FitA.keeps {B:Nat} {w w':World} {v:Value} {V er:Int} (h:FitA B w V v er) (k:Below w.heap.size w w'):FitA B w' V v er:=by
 rcases h with ⟨h1,h2,h3⟩ | h
 ·exact .inl ⟨h1,h2,h3.keeps k⟩
 ·exact .inr h
theorem FitA.lower {B B':Nat} {w:World} {v:Value} {V er:Int} (h:FitA B w V v er) (hB:B' <= B):FitA B' w V v er:=by
 rcases h with ⟨h1,h2,h3⟩ | h
 ·exact .inl ⟨h1,h2,h3.lower hB⟩
 ·exact .inr h
theorem FitA.ge {B:Nat} {w:World} {v:Value} {V er:Int} (h:FitA B w V v er) {g:Nat} (hg:v.ownBlock=some g):B <= g∧g < w.heap.size:=by
 rcases h with ⟨h1,h2,h3⟩ | ⟨_,_,rfl⟩
 ·exact h3.ge hg
 ·simp [Value.ownBlock] at hg
theorem FitA.shape {B:Nat} {w:World} {v:Value} {V er:Int} (h:FitA B w V v er):∃ ao n cap,v=.slice ao n cap:=by
 rcases h with ⟨h1,h2,h3⟩ | ⟨_,_,rfl⟩
 ·exact h3.shape
 ·exact ⟨_,_,_,rfl⟩
def lentD (a:Nat->Int) (n:Nat):Nat->Int:=cat a n (fun i=>-71 - (i:Int))
def LentA (w w':World) (v:Value) (n:Nat) (a:Nat->Int):Prop:=∃ g cap,v=.slice (some ⟨g,0,none⟩) (n + 3) cap∧Out w.heap.size w' v (n + 3) (lentD a n)∧Below w.heap.size w w'
theorem LentA.below {w w':World} {v:Value} {n:Nat} {a:Nat->Int} (h:LentA w w' v n a):Below w.heap.size w w':=by
 obtain ⟨g,cap,_,_,hb⟩:=h
 exact hb
theorem LentA.parts {w w':World} {v:Value} {n:Nat} {a:Nat->Int} (h:LentA w w' v n a):∃ g cap,v=.slice (some ⟨g,0,none⟩) (n + 3) cap∧Out w.heap.size w' (.slice (some ⟨g,0,none⟩) (n + 3) cap) (n + 3) (lentD a n):=by
 obtain ⟨g,cap,rfl,h,_⟩:=h
 exact ⟨g,cap,rfl,h⟩
set_option maxHeartbeats 400000 in
theorem rlow_any (ao:Option Addr) (n cap:Nat) (d:Nat->Int) (w:World) (h:Row w ao n cap d) (hd:Dig d n) (hn:n <= 100000) :
  Calls Tryz.prog 146 #[.slice ao n cap] w fun e w'=>∃ l,e=.returned (.int .i64 l)∧LowA (val d n) l∧w'=w:=by
 have hl:=h.le
 have hm:=h.max
 go_enter Tryz.func146,Tryz.ntmps146
 go_wp2
 go_loop [3] (fun i=>∃ k:Nat,k <= n∧i=.int .i64 k∧Hid (∀ j,j < k->d j=0)) (fun i=>n - (intOf i).toNat)
 case atStart=>exact ⟨0,Nat.zero_le _,rfl,fun j hj=>by omega⟩
 case round=>
  obtain ⟨k,hk,rfl,HZ⟩:=hrel
  by_cases hlt:k < n
  ·obtain ⟨b,off,rfl,hb,hc⟩:=h.spot (by omega)
   have c:=hc k hlt
   have dk:=hd k hlt
   by_cases h0:d k=0
   ·have e0:(d k != 0)=false:=by simp [h0]
    go_wp2
    go_round
    case rel=>exact ⟨k + 1,by omega,by go_num,fun j hj=>by by_cases e:j=k; (· rw [e]; exact h0); (· exact HZ.out j (by omega))⟩
    case measure=>simp [intOf]; omega
   ·have e0:(d k != 0)=true:=by simp [h0]
    have hpos:0 < d k:=by omega
    go_wp2
    go_loop [4,5] (fun s v=>∃ (x:Int) (t:Nat),s=.int .i64 ((30 * k + t:Nat):Int)∧v=.int .i64 x∧0 < x∧x < 1073741824∧t <= 30∧Hid (x * 2 ^ t=d k)) (fun _ v=>(intOf v).toNat)
    case atStart=>exact ⟨d k,0,by go_num,rfl,hpos,dk.2,by omega,by show _=_; simp⟩
    case round=>
     obtain ⟨x,t,rfl,rfl,hx0,hx1,ht,HT⟩:=hrel
     by_cases he:x % 2=0
     ·have ee:(x % 2 == 0)=true:=by simp [he]
      have HT2:Hid (x / 2 * 2 ^ (t + 1)=d k):=by
       show _=_
       rw [Int.pow_succ,Int.mul_comm (2 ^ t) 2,<- Int.mul_assoc,show x / 2 * 2=x by omega]; exact HT.out
      have ht2:t + 1 <= 30:=by
       have h1:1 * 2 ^ (t + 1) <= x / 2 * 2 ^ (t + 1):=Int.mul_le_mul_of_nonneg_right (by omega) (Int.le_of_lt (two_pos _))
       rw [HT2.out] at h1
       have h2:(2:Int) ^ (t + 1) < 2 ^ 30:=by have:(2:Int) ^ 30=1073741824:=rfl; omega
       have:=two_lt_iff h2
       omega
      go_wp2
      go_round
      case rel=>exact ⟨x / 2,t + 1,by go_num,rfl,by omega,by omega,ht2,HT2.out⟩
      case measure=>simp [intOf]; omega
     ·have ee:(x % 2 == 0)=false:=by simp [he]
      have HL:Hid (IsLow (d k) t):=⟨x / 2,by rw [show 2 * (x / 2) + 1=x by omega]; exact HT.out.symm⟩
      go_wp2
      go_ret
      exact ⟨_,rfl,.inr ⟨30 * k + t,rfl,isLow_val hlt HZ.out HL.out (low_lt hpos dk.2 HL.out)⟩,rfl⟩
  ·obtain rfl:k=n:=by omega
   go_wp2
   go_ret
   exact ⟨_,rfl,.inl ⟨by rw [val_zeros (Nat.zero_le _) (fun i _ hi=>HZ.out i hi)]; rfl,rfl⟩,rfl⟩
set_option maxRecDepth 100000 in
set_option maxHeartbeats 1000000 in
theorem rnorm_any (ng:Bool) (ao:Option Addr) (n cap:Nat) (d:Nat->Int) (e:Int) (w:World) (h:Row w ao n cap d) (hd:Dig d n) (hn:n <= 40000) (he0:-4194304 <= e) (he1:e <= 4194304) :
  Calls Tryz.prog 106 #[.bool ng,.slice ao n cap,.int .i64 e] w fun r w'=>∃ v,r=.returned v∧DAns w w' (sg ng (val d n) * pw e) v:=by
 by_cases h0:val d n=0
 ·rw [h0,sg_zero,Int.zero_mul]
  go_enter Tryz.func106,Tryz.ntmps106
  go_wp2_with fail
  refine (rlow_any _ _ _ _ _ (h.keeps (bel_alloc _ _)) hd (by omega)).mono ?_
  rintro r w1 ⟨l,rfl,hl,rfl⟩
  have hl1:l=-1:=by
   rcases hl with ⟨_,h1⟩ | ⟨k,_,m,hm⟩
   ·exact h1
   ·exfalso
    rw [h0] at hm
    rcases Int.mul_eq_zero.1 hm.symm with x | x
    ·omega
    ·have:=two_pos k; omega
  subst hl1
  go_wp2
  refine bodyPost_ret (v:=zeroV) (by simp [results,Tryz.results106,go_sem,zeroV]) rfl ⟨_,rfl,?_⟩
  exact DAns.zero (bel_alloc _ _)
 ·have hp:0 < val d n:=by have:=val_nonneg hd; omega
  go_enter Tryz.func106,Tryz.ntmps106
  go_wp2_with fail
  refine (rlow_any _ _ _ _ _ (h.keeps (bel_alloc _ _)) hd (by omega)).mono ?_
  rintro r w1 ⟨l,rfl,hl,rfl⟩
  have hl2:∃ k:Nat,l=k∧IsLow (val d n) k:=by
   rcases hl with ⟨h1,_⟩ | h1
   ·omega
   ·exact h1
  obtain ⟨k,rfl,hk⟩:=hl2
  have hkn:k < 30 * n:=by
   have h1:=val_lt hd
   rw [P_two] at h1
   obtain ⟨a,b,c⟩:=isLow_odd hk hp
   have h2:(1:Int) * 2 ^ k <= val d n / 2 ^ k * 2 ^ k:=Int.mul_le_mul_of_nonneg_right (by omega) (Int.le_of_lt (two_pos k))
   exact two_lt_iff (by omega)
  have hy:=Dy.of ng hk hp he0
  have HY:Hid (Dy (sg ng (val d n) * pw e) ng (val d n / 2 ^ k) (e + k)):=hy
  clear hy hl hk
  go_wp2_with fail
  refine (rshr_any _ _ _ k d _ (h.keeps (bel_alloc _ _)) hd (by omega) (by omega)).mono ?_
  rintro r w2 ⟨v,rfl,hA⟩
  obtain ⟨so,sn,sc,rfl⟩:=hA.num.shape
  have q0:=(hA.below.block w.heap.size (by rw [size1]; omega)).trans (heap_a1 _ _)
  have x0:=blkC q0 0 rfl
  have x1:=blkC q0 1 rfl
  have x2:=blkC q0 2 rfl
  have z0:=blkF q0 0
  have z1:=blkF q0 1
  have z2:=blkF q0 2
  go_wp2
  refine bodyPost_ret (v:=.agg #[.bool ng,.slice so sn sc,.int .i64 (e + k)]) (by simp [results,Tryz.results106,go_sem,x0,x1,x2]) rfl ⟨_,rfl,?_⟩
  exact ⟨_,_,_,_,rfl,HY.out,ans_res (g:=w.heap.size) hA (bel_alloc _ _) (Nat.le_refl _) (by rw [size1]; omega) _ _ _⟩
def Bd (B:Nat) (V:Int):Prop:=∃ m:Int,V=m * pw (-(B:Int))∧-(2 ^ (2 * B)) < m∧m < 2 ^ (2 * B)
theorem Bd.ok {B:Nat} {V:Int} (h:Bd B V) (hB:B <= 29000):Dok V:=by
 obtain ⟨m,rfl,h1,h2⟩:=h
 by_cases h0:m=0
 ·rw [h0,Int.zero_mul]; exact dok_zero
 ·have key:∀ (ng:Bool) (M:Int),0 < M->M < 2 ^ (2 * B)->Dok (sg ng M * pw (-(B:Int))):=fun ng M hM hlt=>by
   obtain ⟨l,hl⟩:=isLow_ex hM
   have hy:=Dy.of ng hl hM (show -4194304 <= -(B:Int) by omega)
   obtain ⟨c1,c2,c3⟩:=isLow_odd hl hM
   have hl2:l < 2 * B:=by
    have h3:(1:Int) * 2 ^ l <= M / 2 ^ l * 2 ^ l:=Int.mul_le_mul_of_nonneg_right (by omega) (Int.le_of_lt (two_pos l))
    rw [c3] at h3
    exact two_lt_iff (by omega)
   refine hy.ok.2 ⟨?_,by omega,by omega⟩
   have h4:M / 2 ^ l <= M:=Int.ediv_le_self _ (by omega)
   have h5:(2:Int) ^ (2 * B) <= 2 ^ (30 * 2000):=two_le (by omega)
   rw [P_two]
   omega
  by_cases hp:0 < m
  ·exact key false m hp h2
  ·have:=key true (-m) (by omega) (by omega)
   rwa [show sg true (-m)=m by simp [sg]] at this
theorem Bd.up {B C:Nat} {V:Int} (h:Bd B V) (hBC:B <= C) (hC:C <= 4194304):Bd C V:=by
 obtain ⟨m,rfl,h1,h2⟩:=h
 have hp:=two_pos (C - B)
 have e:pw (-(B:Int))=pw (-(C:Int)) * 2 ^ (C - B):=by
  rw [<- pw_add (by omega)]; congr 1; omega
 have hle:(2:Int) ^ (2 * B) * 2 ^ (C - B) <= 2 ^ (2 * C):=by rw [<- Int.pow_add]; exact two_le (by omega)
 refine ⟨m * 2 ^ (C - B),by rw [e]; grind,?_,?_⟩
 ·have:-(2 ^ (2 * B)) * 2 ^ (C - B) < m * 2 ^ (C - B):=Int.mul_lt_mul_of_pos_right h1 hp
  rw [Int.neg_mul] at this
  omega
 ·have:=Int.mul_lt_mul_of_pos_right h2 hp
  omega
theorem Bd.add {B:Nat} {V W:Int} (h:Bd B V) (k:Bd B W) (hB:B < 4194304):Bd (B + 1) (V + W):=by
 obtain ⟨m,rfl,h1,h2⟩:=h
 obtain ⟨n,rfl,k1,k2⟩:=k
 have e:pw (-(B:Int))=pw (-((B + 1:Nat):Int)) * 2:=by
  have:=pw_add (e:=-((B + 1:Nat):Int)) (by omega) 1
  rw [Int.pow_succ,Int.pow_zero,Int.one_mul] at this
  rw [<- this]; congr 1; omega
 have e2:(2:Int) ^ (2 * (B + 1))=2 ^ (2 * B) * 4:=by rw [show 2 * (B + 1)=2 * B + 2 by omega,Int.pow_add]; rfl
 refine ⟨2 * (m + n),by rw [e]; grind,?_,?_⟩ <;> rw [e2] <;> omega
theorem Bd.neg {B:Nat} {V:Int} (h:Bd B V):Bd B (-V):=by
 obtain ⟨m,rfl,h1,h2⟩:=h
 exact ⟨-m,by rw [Int.neg_mul],by omega,by omega⟩
theorem Bd.mul {B:Nat} {V W U:Int} (h:Bd B V) (k:Bd B W) (hU:U * 2 ^ 4194304=V * W) (hB:B <= 1000000):Bd (2 * B) U:=by
 obtain ⟨m,rfl,h1,h2⟩:=h
 obtain ⟨n,rfl,k1,k2⟩:=k
 have e:U=m * n * pw (-((2 * B:Nat):Int)):=by
  refine scale_inj ?_
  rw [hU,Int.mul_assoc (m * n),show -((2 * B:Nat):Int)=-(B:Int) + -(B:Int) by omega,<- pw_mul (by omega) (by omega)]; grind
 refine ⟨m * n,e,?_,?_⟩
 all_goals
  have hab:(m * n).natAbs < ((2:Int) ^ (2 * (2 * B))).natAbs:=by
   rw [Int.natAbs_mul,show 2 * (2 * B)=2 * B + 2 * B by omega,Int.pow_add,Int.natAbs_mul]
   exact Nat.mul_lt_mul'' (by have:=two_pos (2 * B); omega) (by have:=two_pos (2 * B); omega)
  have:=two_pos (2 * (2 * B))
  omega
theorem bd_num {ng:Bool} {M e:Int} (h0:0 <= M) (h1:M < P 30) (e0:-3000 < e) (e1:e < 3000):Bd 4000 (sg ng M * pw e):=by
 have hs:pw e=pw (-((4000:Nat):Int)) * 2 ^ (e + 4000).toNat:=by
  rw [<- pw_add (by omega)]; congr 1; omega
 have hp:=two_pos (e + 4000).toNat
 have hlt:M * 2 ^ (e + 4000).toNat < 2 ^ (2 * 4000):=by
  have a:M * 2 ^ (e + 4000).toNat < P 30 * 2 ^ (e + 4000).toNat:=Int.mul_lt_mul_of_pos_right h1 hp
  rw [P_two,<- Int.pow_add] at a
  have b:(2:Int) ^ (30 * 30 + (e + 4000).toNat) <= 2 ^ (2 * 4000):=two_le (by omega)
  omega
 have hn:0 <= M * 2 ^ (e + 4000).toNat:=Int.mul_nonneg h0 (Int.le_of_lt hp)
 refine ⟨sg ng (M * 2 ^ (e + 4000).toNat),by rw [hs,sg_sgn,sg_sgn]; grind,?_,?_⟩
 all_goals
  generalize M * 2 ^ (e + 4000).toNat=X at *
  generalize (2:Int) ^ (2 * 4000)=T at *
  cases ng <;> simp only [sg] <;> simp <;> omega
end Go.Proofs.YtinccocmgkjalaaGreatDoor
namespace Go.Proofs.YtinccocmgkjalaaGreatDoor
open Go Go.ChangeShapes Go.WideShapes Go.ChangeAt Go.RowKit Go.Proofs.YtinccocmgkjalaaGreatDoor.M
theorem rng_of {x:Int} (h:(Lit.int .i64 x).wf=true):rng x:=by
 simp [Lit.wf,IntKind.min,IntKind.max,IntKind.signed,IntKind.bits] at h
 unfold rng; omega
end Go.Proofs.YtinccocmgkjalaaGreatDoor
namespace Go.Proofs.YtinccocmgkjalaaGreatDoor
open Go Go.RowKit Go.ChangeShapes Go.Proofs.YtinccocmgkjalaaGreatDoor.M
theorem gTab : Tryz.prog.globalNamed "math/bits.deBruijn64tab" = some 3 := by kernel_rfl
theorem gTabType:(Tryz.prog.globals[(3:Nat)]?).map (·.type)=some 195:=by kernel_rfl
theorem cellsTab:Tryz.prog.cellsOf 195=64:=by kernel_rfl
theorem cellsByte:Tryz.prog.cellsOf 5=1:=by kernel_rfl
def tabInts:List Int:=Lib.deBruijn64tab.map Int.ofNat
theorem tab_get:∀ j,j < 64->tabInts.getD j 0=((Lib.deBruijn64tab.getD j 0:Nat):Int):=by decide +kernel
theorem cellsInt:Tryz.prog.cellsOf 3=1:=by kernel_rfl
theorem cellsLayout:Tryz.prog.cellsOf 158=3:=by kernel_rfl
theorem g64 : Tryz.prog.globalNamed "plumb/bits.binary64" = some 1 := by kernel_rfl
theorem g64Type:(Tryz.prog.globals[(1:Nat)]?).map (·.type)=some 158:=by kernel_rfl
set_option maxRecDepth 100000 in
theorem three {W:World} {name:String} {g:Nat} {a b c:Int} {rest:List (String × DataW Unit)} (hg:Tryz.prog.globalNamed name=some g) (hty:(Tryz.prog.globals[g]?).map (·.type)=some 158)
  (h:laidMet Tryz.prog ((name,.agg [.lit (.int .i64 a),.lit (.int .i64 b),.lit (.int .i64 c)]) :: rest) W) :
  W.cell? ⟨g,0,none⟩=some (.int .i64 a)∧W.cell? ⟨g,1,none⟩=some (.int .i64 b)∧W.cell? ⟨g,2,none⟩=some (.int .i64 c):=by
 obtain ⟨ps,⟨g',t',cs,fuel,p,q,hg',ht',hvar,hd,_,_⟩,_⟩:=h
 obtain rfl:=Option.some.inj (hg.symm.trans hg')
 obtain rfl:=Option.some.inj (hty.symm.trans ht')
 obtain ⟨y0,y1,y2,n,hx,hl,h0,h1,h2⟩:=Go.Deep.trod_struct3 Tryz.underlying158 hd
 obtain ⟨k0,e0,f0,_⟩:=DataW.trod_int Tryz.underlying3 h0
 obtain ⟨k1,e1,f1,_⟩:=DataW.trod_int Tryz.underlying3 h1
 obtain ⟨k2,e2,f2,_⟩:=DataW.trod_int Tryz.underlying3 h2
 rw [f0,f1,f2] at hx
 simp only [Prod.mk.injEq,DataW.agg.injEq,List.cons.injEq,DataW.lit.injEq,Lit.int.injEq,true_and,and_true] at hx
 obtain ⟨⟨rfl,rfl,rfl⟩,_⟩:=hx
 rw [cellsLayout] at hl
 rw [cellsInt] at e0 e1 e2
 have v:=fun i=>World.var?_cell hg hvar i
 obtain ⟨l⟩:=cs
 simp only at hl e0 e1 e2
 match l,hl with
 | [c0,c1,c2],_=>
  simp at e0 e1 e2
  subst e0 e1 e2
  exact ⟨by simpa using v 0,by simpa using v 1,by simpa using v 2⟩
end Go.Proofs.YtinccocmgkjalaaGreatDoor
namespace Go.Proofs.YtinccocmgkjalaaGreatDoor
open Go Go.ChangeShapes Go.WideShapes Go.ChangeAt Go.RowKit Go.Proofs.YtinccocmgkjalaaGreatDoor.M
structure Hold (w:World):Prop where
 lay:Lay64 w
 tab:Tab w
theorem Hold.keeps {w w':World} (h:Hold w) (hb:Below w.heap.size w w'):Hold w':=⟨h.lay.keeps hb,h.tab.keeps hb⟩
theorem hold_of {W : World} (h : laidMetH Tryz.prog [("math/bits.deBruijn32tab", Rows.laid_math_bits_deBruijn32tab), ("math/bits.deBruijn64tab", Rows.laid_math_bits_deBruijn64tab), ("plumb/bits.binary64", Rows.laid_plumb_bits_binary64)] W) : Hold W := by
 rw [MakeChecks.laidMetH_plain _ _ _ (by kernel_rfl)] at h
 have h' : laidMet Tryz.prog (("math/bits.deBruijn64tab", Lib.tabData .u8 tabInts) :: [("plumb/bits.binary64", Rows.laid_plumb_bits_binary64)]) W := h.tail
 have t:=Lib.tabIs_of_head gTab gTabType Tryz.underlying195 Tryz.underlying5 cellsByte cellsTab h'
 obtain ⟨a0,a1,a2⟩:=three g64 g64Type h'.tail
 refine ⟨⟨a0,a1,a2⟩,fun j hj=>?_⟩
 rw [<- tab_get j hj]
 exact t.cell gTab j (by exact hj)
end Go.Proofs.YtinccocmgkjalaaGreatDoor
namespace Go.Proofs.YtinccocmgkjalaaGreatDoor
open Go Go.RowKit Go.Proofs.YtinccocmgkjalaaGreatDoor.M
theorem dans_shape {w w':World} {V:Int} {v:Value} (h:DAns w w' V v):∃ ng so sn sc e,v=.agg #[.bool ng,.slice so sn sc,.int .i64 e]:=by
 obtain ⟨ng,s,m,e,h1,_,hA⟩:=h
 obtain ⟨so,sn,sc,rfl⟩:=hA.num.shape
 exact ⟨_,_,_,_,_,h1⟩
theorem add_B {w:World} {x y:Value} {A B:Int} {k:Nat} (hx:DNum w x A) (hy:DNum w y B) (bA:Bd k A) (bB:Bd k B) (hk:k <= 28000) (hT:Tab w) :
  Calls Tryz.prog 52 #[x,y] w fun r w'=>∃ v,r=.returned (.tuple #[v,.int .i64 0])∧DAns w w' (A + B) v:=by
 refine (add_D hx hy (bA.ok (by omega)) (bB.ok (by omega)) hT).mono ?_
 rintro r w' ⟨v,er,rfl,hF⟩
 obtain ⟨rfl,hD⟩:=hF.yes ((bA.add bB (by omega)).ok (by omega))
 exact ⟨v,rfl,hD⟩
theorem sub_B {w:World} {x y:Value} {A B:Int} {k:Nat} (hx:DNum w x A) (hy:DNum w y B) (bA:Bd k A) (bB:Bd k B) (hk:k <= 28000) (hT:Tab w) :
  Calls Tryz.prog 53 #[x,y] w fun r w'=>∃ v,r=.returned (.tuple #[v,.int .i64 0])∧DAns w w' (A - B) v:=by
 refine (sub_D hx hy (bA.ok (by omega)) (bB.ok (by omega)) hT).mono ?_
 rintro r w' ⟨v,er,rfl,hF⟩
 have hb:=bA.add bB.neg (by omega)
 rw [<- Int.sub_eq_add_neg] at hb
 obtain ⟨rfl,hD⟩:=hF.yes (hb.ok (by omega))
 exact ⟨v,rfl,hD⟩
theorem mul_B {w:World} {x y:Value} {A B:Int} {k:Nat} (hx:DNum w x A) (hy:DNum w y B) (bA:Bd k A) (bB:Bd k B) (hk:k <= 14000) (hT:Tab w) :
  Calls Tryz.prog 54 #[x,y] w fun r w'=>∃ v C,r=.returned (.tuple #[v,.int .i64 0])∧DAns w w' C v∧C * 2 ^ 4194304=A * B∧Bd (2 * k) C:=by
 refine (mul_D hx hy (bA.ok (by omega)) (bB.ok (by omega)) hT).mono ?_
 rintro r w' ⟨v,er,C,rfl,hC,hF⟩
 have hb:=bA.mul bB hC (by omega)
 obtain ⟨rfl,hD⟩:=hF.yes (hb.ok (by omega))
 exact ⟨v,C,rfl,hD,hC,hb⟩
def patV (b:Int):Int:=sg (pneg b) (pmag b) * pw (pexp b)
def ordP (A b:Int):Int:=if pok b=true then ord A (patV b) else if b < 0 then 1 else -1
theorem patV_dok {b:Int} (h:pok b=true):Dok (patV b):=by
 obtain ⟨i0,i1,i2,i3⟩:=pmag_in h
 exact dok_small i0 (by omega) i2 i3
end Go.Proofs.YtinccocmgkjalaaGreatDoor
namespace Go.Proofs.YtinccocmgkjalaaGreatDoor
open Go Go.Proofs.YtinccocmgkjalaaGreatDoor.M
def vS (r:Nat):Int:=(V Ieee.double r:Int) * pw (-1074)
theorem vS_lt {r s:Nat} (h:r < s):vS r < vS s:=Int.mul_lt_mul_of_pos_right (by have:=V_lt Ieee.double h; omega) (pw_pos _)
structure Rung (A:Int) (r0:Nat) (left:Int):Prop where
 lo:vS r0 <= A
 hi:A < vS (r0 + 1)
 l0:left=0 ↔ A=vS r0
 l1:left=1 ↔ vS r0 < A∧2 * A < vS r0 + vS (r0 + 1)
 l2:left=2 ↔ 2 * A=vS r0 + vS (r0 + 1)
 l3:left=3 ↔ vS r0 + vS (r0 + 1) < 2 * A
def rTo (way:Int) (ng:Bool) (r0:Nat) (left:Int):Int:=if (r0:Int) < 9218868437227405312 then (r0:Int) + (if rUp way ng (decide (r0 % 2=1)) left then 1 else 0) else bRung way ng
theorem rUp_left {way:Int} {ng odd:Bool} (h:rUp way ng odd 0=true):False:=by
 unfold rUp at h
 split at h
 ·simp at h
 ·split at h
  ·simp at h
  ·split at h <;> simp at h
theorem rUp_more {way:Int} {ng odd:Bool} {left:Int} (h:rUp way ng odd left=true):rUp way ng true 3=true:=by
 unfold rUp at *
 split at h
 ·rename_i h1; rw [if_pos h1]; rfl
 ·rename_i h1
  rw [if_neg h1]
  split at h
  ·rename_i h2; rw [if_pos h2]; simp at h; simp [h.2]
  ·rename_i h2
   rw [if_neg h2]
   split at h
   ·rename_i h3; rw [if_pos h3]; simp at h; simp [h.2]
   ·cases h
theorem left_rung {A:Int} {u a r0:Nat} {left:Int} (h:M.Left A u (2 ^ a * pw (-1074)) left) (h1:V Ieee.double r0=u * 2 ^ a) (h2:V Ieee.double (r0 + 1)=(u + 1) * 2 ^ a):Rung A r0 left:=by
 obtain ⟨lo,hi,l0,l1,l2,l3⟩:=h
 have e1:vS r0=(u:Int) * (2 ^ a * pw (-1074)):=by
  unfold vS
  rw [h1]
  push_cast
  rw [Int.mul_assoc]
 have e2:vS (r0 + 1)=(u:Int) * (2 ^ a * pw (-1074)) + 2 ^ a * pw (-1074):=by
  unfold vS
  rw [h2]
  push_cast
  rw [Int.add_mul,Int.add_mul,Int.one_mul,Int.mul_assoc]
 generalize (2:Int) ^ a * pw (-1074)=q at *
 generalize (u:Int) * q=U at *
 exact ⟨by omega,by omega,by rw [e1]; exact l0,by rw [e1,e2,l1]; constructor <;> intro h <;> omega,by rw [e1,e2,l2]; constructor <;> intro h <;> omega,by rw [e1,e2,l3]; constructor <;> intro h <;> omega⟩
theorem r64_spec {way:Int} {ng sd:Bool} {A:Int} {mag:Nat} {exp:Int} {cut:Bool} (hA:Held A mag exp cut) (hm:mag < 2 ^ 64) (h0:mag ≠ 0) (he:-4194304 <= exp) (hc:cut=true->2 ^ 60 <= mag) :
  ∃ (r0:Nat) (left:Int),Rung A r0 left∧r64 way ng sd mag exp cut=(patS (ng && (decide (0 < rTo way ng r0 left) || sd)) (rTo way ng r0 left),decide (left ≠ 0) || decide (9218868437227405312 <= (r0:Int))):=by
 have e64:(2:Nat) ^ 64=18446744073709551616:=by decide
 obtain ⟨b1,b2,b3,b4⟩:=M.bitLen_spec mag hm h0
 have hbits:=rU_bits (size:=53) (low:=-1074) (exp:=exp) (by decide) hm h0
 have hE1:-1074 <= rE 53 (-1074) mag exp:=by unfold rE; omega
 have hcs:cut=true->0 < rE 53 (-1074) mag exp - exp:=fun h=>by
  have h1:=hc h
  have h2:60 < Lib.bitLen mag:=by
   have:=(Nat.pow_lt_pow_iff_right (by decide:1 < 2)).1 (Nat.lt_of_le_of_lt h1 b2)
   exact this
  unfold rE
  omega
 have hL:=left_of hA hcs (by omega) he
 obtain ⟨E,hE⟩:∃ E,rE 53 (-1074) mag exp=E:=⟨_,rfl⟩
 have HR:r64 way ng sd mag exp cut=(let E:=rE 53 (-1074) mag exp
  let u:=rU mag (E - exp)
  let left:=rL mag cut (E - exp)
  let U:=u + (if rUp way ng (decide (u % 2=1)) left then 1 else 0)
  let neg:=ng && (decide (0 < U) || sd)
  if jk 52 2047 (-1074) U E then (jp neg U E,decide (left ≠ 0)) else (patS neg (bRung way neg),true)):=rfl
 simp only at HR
 rw [hE] at hbits hE1 hL HR
 obtain ⟨u,hu⟩:∃ u,rU mag (E - exp)=u:=⟨_,rfl⟩
 obtain ⟨left,hl⟩:∃ l,rL mag cut (E - exp)=l:=⟨_,rfl⟩
 rw [hu] at hbits hL HR
 rw [hl] at hL HR
 obtain ⟨a,ha⟩:∃ a,(E - -1074).toNat=a:=⟨_,rfl⟩
 have e53:(2:Nat) ^ (53:Int).toNat=9007199254740992:=by decide
 have e52:(2:Nat) ^ ((53:Int).toNat - 1)=4503599627370496:=by decide
 rw [e53,e52] at hbits
 have eB:Ieee.double.binade=4503599627370496:=by decide
 have hV:=V_rung Ieee.double a u (by rw [eB]; omega) (fun h=>by rw [eB]; exact hbits.2 (by omega))
 rw [eB] at hV
 have hpw:pw E=2 ^ a * pw (-1074):=by rw [pw_sub (e:=E) (low:=-1074) (by decide) hE1,ha]
 rw [hpw] at hL
 refine ⟨a * 4503599627370496 + u,left,left_rung hL hV.1 hV.2,?_⟩
 rw [HR]
 have hodd:decide ((a * 4503599627370496 + u) % 2=1)=decide (u % 2=1):=by congr 1; apply propext; omega
 unfold rTo
 rw [hodd]
 obtain ⟨R,hR⟩:∃ R,rUp way ng (decide (u % 2=1)) left=R:=⟨_,rfl⟩
 rw [hR]
 obtain ⟨U,hU⟩:∃ U,u + (if R=true then 1 else 0)=U:=⟨_,rfl⟩
 rw [hU]
 have hR1:R=true->left ≠ 0:=fun h hz=>by rw [hz,h] at hR; exact rUp_left hR
 have hR2:R=true->rUp way ng true 3=true:=fun h=>rUp_more (hR.trans h)
 have hUle:U <= 9007199254740992:=by rw [<- hU]; split <;> omega
 have hcast:((a * 4503599627370496 + u:Nat):Int) + (if R=true then 1 else 0)=((a * 4503599627370496 + U:Nat):Int):=by
  rw [<- hU]
  cases R <;> simp only [if_true,if_false,Bool.false_eq_true] <;> omega
 rw [hcast]
 by_cases hU0:U=0
 ·have hu0:u=0:=by rw [<- hU] at hU0; omega
  have ha0:a=0:=by
   rcases Nat.eq_zero_or_pos a with h | h
   ·exact h
   ·have:=hbits.2 (by omega); omega
  subst hU0 hu0 ha0
  have hj:jk 52 2047 (-1074) ((0:Nat):Int) E=true:=rfl
  rw [hj]
  rw [if_pos rfl,if_pos (by decide)]
  have hd:decide (9218868437227405312 <= ((0 * 4503599627370496 + 0:Nat):Int))=false:=by decide
  rw [hd,Bool.or_false]
  cases ng <;> cases sd <;> rfl
 ·have hjr:=join_rung Ieee.double 52 (by decide) dB 2047 (-1074) (by decide) U E (by omega) (by rw [show (2:Nat) ^ (52 + 1)=9007199254740992 by decide]; exact hUle) hE1 (fun h=>by rw [show (2:Nat) ^ 52=4503599627370496 by decide]; have:=hbits.2 h; rw [<- hU]; omega)
  simp only at hjr
  rw [ha,show (2:Nat) ^ 52=4503599627370496 by decide,show (2047:Int) * 2 ^ 52=9218868437227405312 by decide] at hjr
  obtain ⟨j1,j2⟩:=hjr
  have hpos:decide (0 < U)=true:=decide_eq_true (by omega)
  rw [show jk ((52:Nat):Int) 2047 (-1074) (U:Int) E=jk 52 2047 (-1074) (U:Int) E from rfl] at j1
  rw [j1,hpos,Bool.true_or,Bool.and_true]
  by_cases hf:((a * 4503599627370496 + U:Nat):Int) < 9218868437227405312
  ·have huU:u <= U:=by rw [<- hU]; omega
   have hf0:((a * 4503599627370496 + u:Nat):Int) < 9218868437227405312:=by omega
   rw [decide_eq_true hf,if_pos rfl,if_pos hf0,decide_eq_false (p:=9218868437227405312 <= ((a * 4503599627370496 + u:Nat):Int)) (by omega),Bool.or_false]
   have hd:decide (0 < ((a * 4503599627370496 + U:Nat):Int))=true:=decide_eq_true (by omega)
   rw [hd,Bool.true_or,Bool.and_true]
   congr 1
   have hjk:jk 52 2047 (-1074) (U:Int) E=true:=by rw [j1]; exact decide_eq_true hf
   have hjv:=j2 hf
   rw [show jv ((52:Nat):Int) 2047 (-1074) (U:Int) E=jv 52 2047 (-1074) (U:Int) E from rfl] at hjv
   unfold jp patS
   rw [hjk,hjv,Bool.true_and]
  ·rw [decide_eq_false hf,if_neg (by simp)]
   by_cases hf0:((a * 4503599627370496 + u:Nat):Int) < 9218868437227405312
   ·have hRt:R=true:=by
     cases R
     ·exfalso; simp at hU; omega
     ·rfl
    have hUe:((a * 4503599627370496 + U:Nat):Int)=9218868437227405312:=by rw [hRt] at hU; simp at hU; omega
    rw [if_pos hf0,hUe,decide_eq_true (hR1 hRt),Bool.true_or]
    congr 1
    have:bRung way ng=9218868437227405312:=by unfold bRung; rw [hR2 hRt,if_pos rfl]
    rw [this]
    simp
   ·rw [if_neg hf0,decide_eq_true (p:=9218868437227405312 <= ((a * 4503599627370496 + u:Nat):Int)) (by omega),Bool.or_true]
    congr 1
    have hd:decide (0 < bRung way ng)=true:=by unfold bRung; split <;> decide
    rw [hd,Bool.true_or,Bool.and_true]
end Go.Proofs.YtinccocmgkjalaaGreatDoor
namespace Go.Proofs.YtinccocmgkjalaaGreatDoor
open Go Go.RowKit Go.Proofs.YtinccocmgkjalaaGreatDoor.M
theorem held_cut {M e:Int} (h:0 <= M) (he:-4194304 <= e) (k:Nat):Held (M * pw e) (M / 2 ^ k).toNat (e + k) (decide (M % 2 ^ k ≠ 0)):=by
 have hp:=two_pos k
 have hq:=pw_pos e
 have h0:0 <= M / 2 ^ k:=Int.ediv_nonneg h (by omega)
 have hm0:=Int.emod_nonneg M (show (2:Int) ^ k ≠ 0 by omega)
 have hm1:=Int.emod_lt_of_pos M hp
 have hd:=Int.mul_ediv_add_emod M (2 ^ k)
 unfold Held
 rw [Int.toNat_of_nonneg h0,pw_add he]
 generalize M / 2 ^ k=Q at *
 generalize M % 2 ^ k=T at *
 generalize pw e=q at *
 generalize (2:Int) ^ k=D at *
 have e1:Q * (q * D)=(D * Q) * q:=by rw [Int.mul_comm q D,<- Int.mul_assoc,Int.mul_comm Q D]
 have e2:(Q + 1) * (q * D)=(D * Q) * q + D * q:=by rw [Int.add_mul,e1,Int.one_mul,Int.mul_comm q D]
 have e3:M * q=(D * Q) * q + T * q:=by rw [<- hd,Int.add_mul]
 rw [e2,e1,e3]
 have t0:0 <= T * q:=Int.mul_nonneg hm0 (by omega)
 have t1:T * q < D * q:=Int.mul_lt_mul_of_pos_right hm1 hq
 refine ⟨by omega,by omega,?_⟩
 rw [decide_eq_false_iff_not]
 constructor
 ·intro h
  have:T=0:=by omega
  rw [this]; simp
 ·intro h hT
  have:0 < T * q:=Int.mul_pos (by omega) hq
  omega
theorem to_rung {way:Int} {x:NumR} (ok:okR x=true) (h0:0 < x.n) :
  ∃ (r0:Nat) (left:Int),Rung (val x.d x.n * pw x.e) r0 left∧r64 way x.ng false (val x.d x.n / 2 ^ vK (val x.d x.n)).toNat (x.e + vK (val x.d x.n)) (decide (val x.d x.n % 2 ^ vK (val x.d x.n) ≠ 0))=(patS (x.ng && (decide (0 < rTo way x.ng r0 left) || false)) (rTo way x.ng r0 left),decide (left ≠ 0) || decide (9218868437227405312 <= (r0:Int))):=by
 obtain ⟨na,hn,he0,he1⟩:=okR_sane ok
 have hv:=val_pos na h0
 have hsm:=vK_small (Int.le_of_lt hv)
 have hb:=blen_pos hv
 have hp:=two_pos (vK (val x.d x.n))
 have hge:2 ^ (blen (val x.d x.n) - 1 - vK (val x.d x.n)) <= val x.d x.n / 2 ^ vK (val x.d x.n):=by
  rw [Int.le_ediv_iff_mul_le hp,<- Int.pow_add]
  by_cases hk:vK (val x.d x.n) <= blen (val x.d x.n) - 1
  ·rw [show blen (val x.d x.n) - 1 - vK (val x.d x.n) + vK (val x.d x.n)=blen (val x.d x.n) - 1 by omega]
   exact hb.2
  ·exfalso; unfold vK at hk; omega
 have hpos:=two_pos (blen (val x.d x.n) - 1 - vK (val x.d x.n))
 have e64:(2:Nat) ^ 64=18446744073709551616:=by decide
 have e60:(2:Nat) ^ 60=1152921504606846976:=by decide
 refine r64_spec (held_cut (Int.le_of_lt hv) (by omega) _) (by omega) (by omega) (by omega) (fun hc=>?_)
 have hk0:0 < vK (val x.d x.n):=by
  rcases Nat.eq_zero_or_pos (vK (val x.d x.n)) with h | h
  ·rw [h,Int.pow_zero,Int.emod_one] at hc; simp at hc
  ·exact h
 have h61:blen (val x.d x.n) - 1 - vK (val x.d x.n)=61:=by unfold vK at hk0 ⊢; omega
 rw [h61] at hge
 have e61:(2:Int) ^ 61=2305843009213693952:=by decide
 rw [e61] at hge
 omega
theorem patS_facts {ng:Bool} {r:Int} (h0:0 <= r) (h1:r <= 9218868437227405312) (h:ng=true->0 < r):rng (patS ng r)∧rg (patS ng r)=r∧(patS ng r < 0 ↔ ng=true):=by
 unfold patS rg rng
 cases ng
 ·simp only [Bool.false_eq_true,if_false]
  exact ⟨by omega,by rw [if_neg (by omega)],by omega,fun h=>by cases h⟩
 ·simp only [if_true]
  exact ⟨by have:=h rfl; omega,by have:=h rfl; rw [if_pos (by omega)]; omega,fun _=>trivial,fun _=>by omega⟩
theorem patS_pok {ng:Bool} {r:Int} (h0:0 <= r) (h1:r <= 9218868437227405312) (h:ng=true->0 < r):pok (patS ng r)=decide (r < 9218868437227405312):=by
 obtain ⟨a,b,c⟩:=patS_facts h0 h1 h
 have hp:=rg_parts a
 rw [b] at hp
 have hf:0 <= frc (patS ng r)∧frc (patS ng r) < 4503599627370496:=by unfold frc; omega
 unfold pok
 by_cases hr:r < 9218868437227405312
 ·rw [decide_eq_true hr]
  simp
  omega
 ·rw [decide_eq_false hr]
  simp
  omega
theorem patV_patS {ng:Bool} {r:Nat} (h1:(r:Int) < 9218868437227405312) (h:ng=true->0 < r):patV (patS ng r)=sg ng (vS r):=by
 have hh:ng=true->(0:Int) < r:=fun q=>by have:=h q; omega
 obtain ⟨a,b,c⟩:=patS_facts (ng:=ng) (r:=(r:Int)) (by omega) (by omega) hh
 have hp:pok (patS ng r)=true:=by rw [patS_pok (by omega) (by omega) hh]; exact decide_eq_true h1
 have hV:=V_rg a hp
 rw [b,Int.toNat_natCast] at hV
 obtain ⟨i0,i1,i2,i3⟩:=pmag_in hp
 have hn:pneg (patS ng r)=ng:=by
  unfold pneg
  rw [hp,Bool.true_and]
  cases ng
  ·exact decide_eq_false (fun q=>by have:=c.1 q; cases this)
  ·exact decide_eq_true (c.2 rfl)
 unfold patV vS
 rw [hV,hn]
 have e:pw (pexp (patS ng r))=2 ^ (pexp (patS ng r) + 1074).toNat * pw (-1074):=by
  rw [pw_sub (e:=pexp (patS ng r)) (low:=-1074) (by decide) i2]
  congr 2
 have e2:(((pmag (patS ng r)).toNat * 2 ^ (pexp (patS ng r) + 1074).toNat:Nat):Int) * pw (-1074)=pmag (patS ng r) * pw (pexp (patS ng r)):=by
  push_cast
  rw [Int.toNat_of_nonneg i0,e,Int.mul_assoc]
 rw [e2]
 cases ng
 ·rfl
 ·show -pmag _ * _=-(pmag _ * _)
  rw [Int.neg_mul]
end Go.Proofs.YtinccocmgkjalaaGreatDoor
