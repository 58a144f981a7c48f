/- Parts of the proof. -/
import Derived.Test.YtmmnoneehiibiaaGreatDoorPart3
import Derived.Deep.LoopGhost
import Derived.Laws.Externs
import Derived.Laws.Cover2
import Derived.Deep.AppendLies
import Derived.Deep.RegionLaw
import Derived.Test.YtmmnoneehiibiaaGreatDoorRows
import Derived.ProofKit
import Derived.OpenShut
import Derived.ChangeOld
import Derived.LaidMore
import Derived.Deep.Strs
import Derived.Lib.LaidTab
import Derived.MakeChecks
import Derived.Stop.LaidErr
set_option linter.unusedVariables false
set_option linter.unusedSimpArgs false
namespace Go.Proofs.YtmmnoneehiibiaaGreatDoor
open Go Go.RowKit Go.Proofs.YtmmnoneehiibiaaGreatDoor.M
theorem Num.parts {w:World} {v:Value} {V:Int} (h:Num w v V) {k:Nat} (hV:V<P k):∃ ao n cap d,v=.slice ao n cap∧Row w ao n cap d∧Nrm d n∧val d n=V∧n<=k:=by
  obtain ⟨ao,n,cap,rfl⟩:=h.shape
  have hl:=h.len hV
  obtain ⟨ao',n',cap',d,e,hR,h2,h3⟩:=h
  simp only [Value.slice.injEq] at e
  obtain ⟨rfl,rfl,rfl⟩:=e
  exact ⟨ao,n,cap,d,rfl,hR,h2,h3,hl⟩
theorem low_mod {V l:Int} (h:LowA V l) (h0:0<V) (k:Nat):decide (l<(k:Int))=decide (V % 2^k≠0):=by
  obtain ⟨j,rfl,q,hq⟩:=lowA_pos h h0
  by_cases hjk:j<k
  . rw [decide_eq_true (by omega)]
    refine (decide_eq_true ?_).symm
    intro hz
    obtain ⟨d,hd⟩:∃ d,k=j+1+d:=⟨k-j-1,by omega⟩
    have h1:(2:Int)^k ∣ V:=Int.dvd_of_emod_eq_zero hz
    obtain ⟨c,hc⟩:=h1
    rw [hq,hd,Int.pow_add,Int.pow_succ] at hc
    have hp:=two_pos j
    have e:(2:Int)^j*(2*q+1)=2^j*(2*(2^d*c)):=by
      rw [Int.mul_comm,hc]
      simp only [Int.mul_assoc]
    have:=Int.eq_of_mul_eq_mul_left (by omega) e
    omega
  . rw [decide_eq_false (by omega)]
    refine (decide_eq_false ?_).symm
    intro hz
    apply hz
    obtain ⟨d,hd⟩:∃ d,j=k+d:=⟨j-k,by omega⟩
    rw [hq,hd,Int.pow_add,Int.mul_comm,Int.mul_assoc]
    exact Int.mul_emod_right _ _
set_option maxRecDepth 100000 in
set_option maxHeartbeats 1000000 in
theorem scaled_low (ao:Option Addr) (n ca:Nat) (a:Nat->Int) (k:Nat) (w:World) (ha:Row w ao n ca a) (na:Nrm a n) (hn:n<=5000) (hk0:0<k) (hk:k<=1000000) (h0:0<val a n) (hT:Tab w) :
    Calls Tryz.prog 206 #[.slice ao n ca,.int .i64 (-(k:Int))] w fun e w'=>∃ v,e=.returned (.tuple #[v,.bool (decide (val a n % 2^k≠0))])∧Ans w w' (val a n/2^k) v:=by
  have CL:Hid (∀ W,Below w.heap.size w W->_):=fun W hb=>lower_any ao n ca k a W (ha.keeps hb) na.1 (by omega) (by omega)
  have CW:Hid (∀ W,Below w.heap.size w W->_):=fun W hb=>lowest_any ao n ca a W (ha.keeps hb) na.1 (by omega) (hT.keeps hb)
  have HM:Hid (∀ l,LowA (val a n) l->decide (l<(k:Int))=decide (val a n % 2^k≠0)):=fun l h=>low_mod h h0 k
  generalize decide (val a n % 2^k≠0)=R at HM ⊢
  generalize val a n/2^k=Q at CL ⊢
  have w1:IntKind.i64.wrap (k:Int)=(k:Int):=by rw [wrap_i64_eq]; omega
  go_enter Tryz.func206,Tryz.ntmps206
  go_wp2_with fail
  refine (CL.out _ (bel_refl _)).mono ?_
  rintro _ w2 ⟨v,rfl,hA⟩
  have hb2:=hA.below
  have HA:Hid (Ans w w2 Q v):=hA
  obtain ⟨so,sn,sc,rfl⟩:=hA.num.shape
  clear hA CL
  go_wp2_with fail
  refine (CW.out _ hb2).mono ?_
  rintro _ w3 ⟨l,rfl,hl,rfl⟩
  have hr:=HM.out l hl
  go_wp2
  all_goals refine bodyPost_ret (v:=.tuple #[.slice so sn sc,.bool R]) (by simp [results,Tryz.results206,go_sem]) rfl ⟨_,rfl,HA.out⟩
set_option maxRecDepth 100000 in
set_option maxHeartbeats 1000000 in
theorem scaled_zero (ao:Option Addr) (n ca:Nat) (a:Nat->Int) (w:World) (ha:Row w ao n ca a) (na:Nrm a n) (hn:n<=5000) :
    Calls Tryz.prog 206 #[.slice ao n ca,.int .i64 0] w fun e w'=>∃ v,e=.returned (.tuple #[v,.bool false])∧Ans w w' (val a n) v:=by
  have CR:Hid (Calls Tryz.prog 211 #[.slice ao n ca,.int .i64 0] w fun e w'=>∃ v,e=.returned v∧Ans w w' (val a n) v):=by
    have h:=raise_any ao n ca 0 a w ha na.1 (by omega) (by omega)
    rw [Int.pow_zero,Int.mul_one] at h
    exact h
  go_enter Tryz.func206,Tryz.ntmps206
  go_wp2_with fail
  refine CR.out.mono ?_
  rintro _ w2 ⟨v,rfl,hA⟩
  have HA:Hid (Ans w w2 (val a n) v):=hA
  obtain ⟨so,sn,sc,rfl⟩:=hA.num.shape
  clear hA CR
  go_wp2
  all_goals refine bodyPost_ret (v:=.tuple #[.slice so sn sc,.bool false]) (by simp [results,Tryz.results206,go_sem]) rfl ⟨_,rfl,HA.out⟩
theorem wr5 (W:World) (g:Nat) (a b c d e:Value):Wr g W (((((W.setCell ⟨g,0,none⟩ a).setCell ⟨g,1,none⟩ b).setCell ⟨g,2,none⟩ c).setCell ⟨g,3,none⟩ d).setCell ⟨g,4,none⟩ e):=(((((Wr.refl g W).setCell 0 a).setCell 1 b).setCell 2 c).setCell 3 d).setCell 4 e
def vK (M:Int):Nat:=blen M-62
theorem vK_small {M:Int} (h:0<=M):0<=M/2^vK M∧M/2^vK M<4611686018427387904:=by
  have hp:=two_pos (vK M)
  refine ⟨Int.ediv_nonneg h (by omega),?_⟩
  have h1:=blen_lt M
  have h2:(2:Int)^blen M<=2^(62+vK M):=two_le (by unfold vK; omega)
  have e:(2:Int)^(62+vK M)=4611686018427387904*2^vK M:=by rw [Int.pow_add]; rfl
  exact Int.ediv_lt_of_lt_mul hp (by omega)
theorem blen_nrm {a:Nat->Int} {n:Nat} (na:Nrm a n):blen (val a n)<=30*n:=by
  cases n with
  | zero=>show blen 0<=_; rw [blen_zero]; omega
  | succ m=>
    rw [blen_val na]
    have h:blen (a m)<=30:=blen_le (by show a m<1073741824; exact (na.1 m (by omega)).2)
    omega
set_option maxRecDepth 100000 in
set_option maxHeartbeats 2000000 in
theorem valueOf_any (ng:Bool) (ao:Option Addr) (n ca:Nat) (a:Nat->Int) (e:Int) (w:World) (ha:Row w ao n ca a) (na:Nrm a n) (hn:n<=5000) (he:-1100000<=e∧e<=1100000) (hT:Tab w) :
    Calls Tryz.prog 191 #[.agg #[.bool ng,.slice ao n ca,.int .i64 e]] w fun r w'=>r=.returned (valV ng (val a n/2^vK (val a n)).toNat (e+vK (val a n)) (decide (val a n % 2^vK (val a n)≠0)) false)∧Below w.heap.size w w':=by
  have hv0:=val_nonneg na.1
  have hbl:blen (val a n)<=150000:=by have:=blen_nrm na; omega
  have CB:Hid (∀ W,Below w.heap.size w W->_):=fun W hb=>bitLength_any ao n ca a W (ha.keeps hb) na (by omega)
  obtain ⟨k,hk⟩:∃ k,vK (val a n)=k:=⟨_,rfl⟩
  have hsm:=vK_small hv0
  rw [hk] at hsm ⊢
  have CS:Hid (∀ W,Below w.heap.size w W->Calls Tryz.prog 206 #[.slice ao n ca,.int .i64 (-(k:Int))] W fun e w'=>∃ v,e=.returned (.tuple #[v,.bool (decide (val a n % 2^k≠0))])∧Ans W w' (val a n/2^k) v):=fun W hb=>by
    by_cases h0:k=0
    . subst h0
      have h:=scaled_zero ao n ca a W (ha.keeps hb) na hn
      simpa using h
    . have hp:0<val a n:=by
        rcases Int.lt_or_eq_of_le hv0 with h | h
        . exact h
        . exfalso; rw [<- h] at hk; apply h0; rw [<- hk]; decide
      exact scaled_low ao n ca a k W (ha.keeps hb) na hn (by omega) (by unfold vK at hk; omega) hp (hT.keeps hb)
  have hbk:min (62-(blen (val a n):Int)) 0=-(k:Int):=by unfold vK at hk; omega
  obtain ⟨B,hB⟩:∃ B:Int,(blen (val a n):Int)=B:=⟨_,rfl⟩
  have hB0:0<=B∧B<=150000:=by omega
  rw [hB] at CB hbk
  have hk2:k<=150000:=by unfold vK at hk; omega
  generalize decide (val a n % 2^k≠0)=R at CS ⊢
  obtain ⟨Q,hQ⟩:∃ Q:Nat,val a n/2^k=(Q:Int):=Int.eq_ofNat_of_zero_le hsm.1
  rw [hQ] at CS hsm ⊢
  rw [Int.toNat_natCast]
  have CM:Hid (∀ (W':World) so sn sc,Num W' (.slice so sn sc) (Q:Int)->Calls Tryz.prog 207 #[.slice so sn sc] W' fun e w'=>e=.returned (.int .i64 (Q:Int))∧w'=W'):=fun W' so sn sc hA=>by
    obtain ⟨ao',n',ca',d',hs,hR,hN,hV,hl⟩:=hA.parts (k:=3) (by rw [show P 3=1237940039285380274899124224 by decide]; omega)
    simp only [Value.slice.injEq] at hs
    obtain ⟨rfl,rfl,rfl⟩:=hs
    rw [<- hV]
    exact small_any _ _ _ _ _ hR hN.1 hl (by omega)
  have w1:IntKind.i64.wrap (62-B)=62-B:=by rw [wrap_i64_eq]; omega
  have w2:IntKind.i64.wrap (e+k)=e+k:=by rw [wrap_i64_eq]; omega
  have w3:IntKind.u64.wrap (Q:Int)=(Q:Int):=by rw [IntKind.wrap_u64]; omega
  have hmin:∀ (ts:Array TypeId) (t:TypeId) (x y:Int) (w:World),(Builtin.min_ ts t #[.int .i64 x,.int .i64 y]).run Tryz.prog w=.ok (.int .i64 (min x y)) w:=fun ts t x y w=>by rw [run_min_int2]; congr 2; omega
  have q0:=heap_a2 w (.cells #[.bool ng,.slice ao n ca,.int .i64 e] 34) (.cells #[.bool false,.int .u64 0,.int .i64 0,.bool false,.bool false] 172)
  have q1:=heap_b2 w (.cells #[.bool ng,.slice ao n ca,.int .i64 e] 34) (.cells #[.bool false,.int .u64 0,.int .i64 0,.bool false,.bool false] 172)
  have hb1:=bel_alloc2 w (.cells #[.bool ng,.slice ao n ca,.int .i64 e] 34) (.cells #[.bool false,.int .u64 0,.int .i64 0,.bool false,.bool false] 172)
  clear hQ hk hB hbl hv0 hsm hT
  unfold valV
  go_enter Tryz.func191,Tryz.ntmps191
  go_wp2_with fail
  generalize (w.alloc (.cells #[.bool ng,.slice ao n ca,.int .i64 e] 34)).alloc (.cells #[.bool false,.int .u64 0,.int .i64 0,.bool false,.bool false] 172)=wx at q0 q1 hb1 ⊢
  refine (CB.out _ hb1).mono ?_
  rintro _ _ ⟨rfl,rfl⟩
  have k1:=blkC q0 1 rfl
  go_wp2_with fail
  refine (CS.out _ hb1).mono ?_
  rintro _ w4 ⟨v,rfl,hA⟩
  have hb4:=hA.below
  obtain ⟨so,sn,sc,rfl⟩:=hA.num.shape
  have CM1:Hid (Calls Tryz.prog 207 #[.slice so sn sc] w4.drew fun e w'=>e=.returned (.int .i64 (Q:Int))∧w'=w4.drew):=CM.out w4.drew so sn sc (hA.num.keeps (bel_refl w4).drew)
  have hbw:=bel_trans hb1 hb4
  have p0:=(hb4.block _ (Array.getElem?_eq_some_iff.1 q0).1).trans q0
  have p1:=(hb4.block _ (Array.getElem?_eq_some_iff.1 q1).1).trans q1
  clear CB CS k1 hA CM
  have c0:=blkC p0 0 rfl
  have c2:=blkC p0 2 rfl
  have x0:=blkC p1 0 rfl
  have x1:=blkC p1 1 rfl
  have x2:=blkC p1 2 rfl
  have x3:=blkC p1 3 rfl
  have x4:=blkC p1 4 rfl
  have z0:=blkF p1 0
  have z1:=blkF p1 1
  have z2:=blkF p1 2
  have z3:=blkF p1 3
  have z4:=blkF p1 4
  go_wp2_with fail
  have c1:=blkC p0 1 rfl
  go_region_with (go_at_call 207; refine CM1.out.mono ?_; rintro _ _ ⟨rfl,rfl⟩)
  all_goals go_wp2
  all_goals refine bodyPost_ret (v:=.agg #[.bool ng,.int .u64 Q,.int .i64 (e+k),.bool R,.bool false]) (by simp [results,Tryz.results191,go_sem,x0,x1,x2,x3,x4]) rfl ⟨rfl,?_⟩
  all_goals exact ((wr5 w4 (w.heap.size+1) _ _ _ _ _).below hbw hbw.size (Nat.le_succ _)).drew
set_option maxRecDepth 100000 in
set_option maxHeartbeats 1000000 in
theorem itself_any (p:Nat) (off cap len:Nat) (ng:Bool) (ao:Option Addr) (n ca:Nat) (a:Nat->Int) (e:Int) (w:World) (c0:w.cell? ⟨p,off,none⟩=some (.bool ng)) (c1:w.cell? ⟨p,off+1,none⟩=some (.slice ao n ca)) (c2:w.cell? ⟨p,off+2,none⟩=some (.int .i64 e)) (hl:0<len) (ha:Row w ao n ca a) (na:Nrm a n) (hn:n<=5000) (he:-1100000<=e∧e<=1100000) (hT:Tab w) :
    Calls Tryz.prog 165 #[.slice (some ⟨p,off,none⟩) len cap] w fun r w'=>r=.returned (.tuple #[valV ng (val a n/2^vK (val a n)).toNat (e+vK (val a n)) (decide (val a n % 2^vK (val a n)≠0)) false,.int .i64 0])∧Below w.heap.size w w':=by
  have CV:Hid (∀ W,Below w.heap.size w W->_):=fun W hb=>valueOf_any ng ao n ca a e W (ha.keeps hb) na hn he (hT.keeps hb)
  unfold valV at *
  generalize (val a n/2^vK (val a n)).toNat=Q at CV ⊢
  generalize e+vK (val a n)=E at CV ⊢
  generalize decide (val a n % 2^vK (val a n)≠0)=R at CV ⊢
  have q0:=heap_alloc_new w (.cells #[.bool false,.int .u64 0,.int .i64 0,.bool false,.bool false] 172)
  have hb1:=bel_alloc w (.cells #[.bool false,.int .u64 0,.int .i64 0,.bool false,.bool false] 172)
  have d0:=cell_keeps c0 hb1
  have d1:=cell_keeps c1 hb1
  have d2:=cell_keeps c2 hb1
  go_enter Tryz.func165,Tryz.ntmps165
  go_wp2_with fail
  refine (CV.out _ hb1).mono ?_
  rintro _ w2 ⟨rfl,hb2⟩
  have p1:=(hb2.block _ (Array.getElem?_eq_some_iff.1 q0).1).trans q0
  have hbw:=bel_trans hb1 hb2
  clear d0 d1 d2 c0 c1 c2 CV
  have x0:=blkC p1 0 rfl
  have x1:=blkC p1 1 rfl
  have x2:=blkC p1 2 rfl
  have x3:=blkC p1 3 rfl
  have x4:=blkC p1 4 rfl
  have z0:=blkF p1 0
  have z1:=blkF p1 1
  have z2:=blkF p1 2
  have z3:=blkF p1 3
  have z4:=blkF p1 4
  go_wp2
  all_goals refine bodyPost_ret (v:=.tuple #[.agg #[.bool ng,.int .u64 Q,.int .i64 E,.bool R,.bool false],.int .i64 0]) (by simp [results,Tryz.results165,go_sem,x0,x1,x2,x3,x4]) rfl ⟨rfl,?_⟩
  all_goals exact (wr5 w2 w.heap.size _ _ _ _ _).below hbw hbw.size (Nat.le_refl _)
set_option maxRecDepth 100000 in
set_option maxHeartbeats 1000000 in
theorem rounded_ok (way:Int) (hw:0<=way∧way<=3) (F G:Nat) (lo:Option Addr) (ln lc:Nat) (r:Nat->NumR) (w:World) (hl:Nums w lo ln lc r) (ok:∀ i,i<ln->okR (r i)=true) (ng:Bool) (mag:Nat) (exp:Int) (cut sd:Bool) (b:Int) (o:Bool)
    (hEF:∀ (cap:Array Value) (w:World),(callFunc F cap).run Tryz.prog w=.ok (.enter F cap) w) (hEG:∀ (cap:Array Value) (w:World),(callFunc G cap).run Tryz.prog w=.ok (.enter G cap) w)
    (hG:∀ W,Below w.heap.size w W->Calls Tryz.prog G #[.slice lo ln lc] W fun e w'=>e=.returned (.tuple #[valV ng mag exp cut sd,.int .i64 0])∧Below W.heap.size W w')
    (hF:∀ W,Below w.heap.size w W->Calls Tryz.prog F #[valV ng mag exp cut sd,wayV way] W fun e w'=>e=.returned (.tuple #[.int .i64 b,.bool o])∧Below W.heap.size W w') :
    Calls Tryz.prog 163 #[.int .i64 way,.func (.func F) #[] #[],.func (.func G) #[] #[],.slice lo ln lc] w fun e w'=>e=.returned (.tuple #[.int .i64 b,.bool o,.int .i64 0])∧Below w.heap.size w w':=by
  have hst:∀ (p:Addr) (F:Nat) (m:Mode) (w:World),(store p (.func (.func F) #[] #[]) m).run Tryz.prog w=stored Tryz.prog w p (.func (.func F) #[] #[]) m:=fun p F m w=>run_store _ w p _ m rfl
  have hle:=hl.le
  have hma:=hl.max
  unfold valV wayV at *
  have CW:=wayOf_any way w
  rw [if_pos hw,decide_eq_true hw] at CW
  unfold wayV at CW
  generalize wayF way=K at *
  go_enter Tryz.func163,Tryz.ntmps163
  go_wp2_with fail
  refine CW.mono ?_
  rintro _ w1 ⟨rfl,hb1⟩
  have q1:=heap_alloc_new w1 (.cells #[.nilFunc] 185)
  have y0:=blkC q1 0 rfl
  have y1:=blkF q1 0
  go_wp2_with fail
  have q2:=heap_alloc_new w1 (.cells #[.func (.func K) #[] #[]] 185)
  have hb2:=bel_trans hb1 (bel_alloc w1 (.cells #[.func (.func K) #[] #[]] 185))
  generalize w1.alloc (.cells #[.func (.func K) #[] #[]] 185)=w2 at q2 hb2 ⊢
  clear q1 y0 y1 CW
  go_loopw [28] (fun iv wr=>∃ k:Nat,iv=.int .i64 k∧k<=ln∧Hid (wr.heap[w1.heap.size]?=some (.cells #[.func (.func K) #[] #[]] 185 (0,0)))∧Below w.heap.size w wr) (fun iv _=>ln-(intOf iv).toNat)
  case atStart=>exact ⟨0,rfl,Nat.zero_le _,q2,hb2⟩
  case round=>
    clear q2 hb2
    obtain ⟨k,rfl,hk,HQ,hbw⟩:=hrel
    by_cases hlt:k<ln
    . obtain ⟨ba,oa,rfl,hba,hca⟩:=hl.spot (by omega)
      obtain ⟨c0,c1,c2,hR⟩:=(hca k hlt).keeps hbw hba
      have hok:=ok k hlt
      have CV:=fun W (hb:Below wr.heap.size wr W)=>dvalid_any (r k).ng (r k).ao (r k).n (r k).cap (r k).d (r k).e W (hR.keeps hb)
      unfold okR at hok
      rw [hok] at CV
      clear hok hR hca
      generalize r k=x at c0 c1 c2 CV
      obtain ⟨x_g,x_o,x_n,x_c,x_d,x_e⟩:=x
      simp only at c0 c1 c2 CV
      have hb3:=bel_alloc wr (.cells #[.bool x_g,.slice x_o x_n x_c,.int .i64 x_e] 34)
      have HQ3:Hid ((wr.alloc (.cells #[.bool x_g,.slice x_o x_n x_c,.int .i64 x_e] 34)).heap[w1.heap.size]?=some (.cells #[.func (.func K) #[] #[]] 185 (0,0))):=(hb3.block _ (Array.getElem?_eq_some_iff.1 HQ.out).1).trans HQ.out
      go_wp2_with fail
      refine (CV _ hb3).mono ?_
      rintro _ w4 ⟨rfl,hb4⟩
      have HQ4:Hid (w4.heap[w1.heap.size]?=some (.cells #[.func (.func K) #[] #[]] 185 (0,0))):=(hb4.block _ (Array.getElem?_eq_some_iff.1 HQ3.out).1).trans HQ3.out
      have hbw4:=hbw.trans ((bel_trans hb3 hb4).mono hbw.size)
      clear CV HQ3 hb3 hb4 c0 c1 c2
      go_wp2
      go_roundw
      case rel=>exact ⟨k+1,by go_num,by omega,HQ4.out,hbw4⟩
      case measure=>simp [intOf]; omega
    . obtain rfl:k=ln:=by omega
      go_wp2_with fail
      refine (hG _ hbw).mono ?_
      rintro _ w4 ⟨rfl,hb4⟩
      have p4:=(hb4.block _ (Array.getElem?_eq_some_iff.1 HQ.out).1).trans HQ.out
      have hbw4:=hbw.trans (hb4.mono hbw.size)
      have hb5:=bel_alloc w4 (.cells #[.bool ng,.int .u64 mag,.int .i64 exp,.bool cut,.bool sd] 172)
      have kw:=cell_keeps (blkC p4 0 rfl) hb5
      have hbw5:=hbw4.trans (hb5.mono hbw4.size)
      clear hG hb4
      go_wp2_with fail
      refine (hF _ hbw5).mono ?_
      rintro _ w6 ⟨rfl,hb6⟩
      go_wp2
      all_goals refine bodyPost_ret (v:=.tuple #[.int .i64 b,.bool o,.int .i64 0]) (by simp [results,Tryz.results163,go_sem]) rfl ⟨rfl,hbw5.trans (hb6.mono hbw5.size)⟩
set_option maxRecDepth 100000 in
set_option maxHeartbeats 1000000 in
theorem to_ok (way:Int) (hw:0<=way∧way<=3) (x:NumR) (w:World) (hx:Row w x.ao x.n x.cap x.d) (ok:okR x=true) (Ev:Env w) (hT:Tab w) :
    Calls Tryz.prog 128 #[x.v,.int .i64 way] w fun e w'=>e=.returned (.tuple #[.int .i64 (r64 way x.ng false (val x.d x.n/2^vK (val x.d x.n)).toNat (x.e+vK (val x.d x.n)) (decide (val x.d x.n % 2^vK (val x.d x.n)≠0))).1,.bool (r64 way x.ng false (val x.d x.n/2^vK (val x.d x.n)).toNat (x.e+vK (val x.d x.n)) (decide (val x.d x.n % 2^vK (val x.d x.n)≠0))).2,.int .i64 0])∧Below w.heap.size w w':=by
  have hS:=okR_sane ok
  obtain ⟨na,hn,he0,he1⟩:=hS
  have hv0:=val_nonneg na.1
  have hbl:vK (val x.d x.n)<=150000:=by have:=blen_nrm na; unfold vK; omega
  have hsm:=vK_small hv0
  have hEF:∀ (cap:Array Value) (w:World),(callFunc 164 cap).run Tryz.prog w=.ok (.enter 164 cap) w:=by
    intro cap w
    simp [go_sem]
  have hEG:∀ (cap:Array Value) (w:World),(callFunc 165 cap).run Tryz.prog w=.ok (.enter 165 cap) w:=by
    intro cap w
    simp [go_sem]
  have hmf:∀ (fn:Fn) (first cap:Array Value) (w:World),(Instr.makeFunc fn first cap).run Tryz.prog w=.ok (.func fn first cap) w:=fun _ _ _ _=>rfl
  have CR:=fun W (hb:Below w.heap.size w W) (g:Nat) (hg:W.heap[g]?=some (.cells #[.bool x.ng,.slice x.ao x.n x.cap,.int .i64 x.e] 34 (0,0)))=>rounded_ok way hw 164 165 (some ⟨g,0,none⟩) 1 1 (fun _=>x) W
    ⟨Nat.le_refl _,by decide,fun _=>⟨g,0,rfl,(Array.getElem?_eq_some_iff.1 hg).1,fun i hi=>by
      obtain rfl:i=0:=by omega
      exact ⟨blkC hg 0 rfl,blkC hg 1 rfl,blkC hg 2 rfl,hx.keeps hb⟩⟩⟩ (fun _ _=>ok) x.ng (val x.d x.n/2^vK (val x.d x.n)).toNat (x.e+vK (val x.d x.n)) (decide (val x.d x.n % 2^vK (val x.d x.n)≠0)) false _ _ hEF hEG
    (fun W2 hb2=>itself_any g 0 1 1 x.ng x.ao x.n x.cap x.d x.e W2 (cell_keeps (blkC hg 0 rfl) hb2) (cell_keeps (blkC hg 1 rfl) hb2) (cell_keeps (blkC hg 2 rfl) hb2) (by decide) ((hx.keeps hb).keeps hb2) na hn ⟨he0,he1⟩ ((hT.keeps hb).keeps hb2))
    (fun W2 hb2=>binary64_any way hw x.ng false _ _ _ W2 ((Ev.keeps hb).keeps hb2) (by omega) (by omega))
  generalize r64 way x.ng false (val x.d x.n/2^vK (val x.d x.n)).toNat (x.e+vK (val x.d x.n)) (decide (val x.d x.n % 2^vK (val x.d x.n)≠0))=R at CR ⊢
  have HCR:Hid _:=CR
  unfold NumR.v
  clear ok hsm hbl hv0 he0 he1 hn na hx
  obtain ⟨x_g,x_o,x_n,x_c,x_d,x_e⟩:=x
  simp only at *
  clear HCR
  have hb2:=bel_alloc2 w (.cells #[.bool x_g,.slice x_o x_n x_c,.int .i64 x_e] 34) (.cells #[.bool x_g,.slice x_o x_n x_c,.int .i64 x_e] 34)
  have q1:=heap_b2 w (.cells #[.bool x_g,.slice x_o x_n x_c,.int .i64 x_e] 34) (.cells #[.bool x_g,.slice x_o x_n x_c,.int .i64 x_e] 34)
  go_enter Tryz.func128,Tryz.ntmps128
  go_wp2_with fail
  refine (CR _ hb2 _ q1).mono ?_
  rintro _ w2 ⟨rfl,hb3⟩
  go_wp2
  all_goals refine bodyPost_ret (v:=.tuple #[.int .i64 R.1,.bool R.2,.int .i64 0]) (by simp [results,Tryz.results128,go_sem]) rfl ⟨rfl,bel_trans hb2 hb3⟩
def scV (A k:Int):Int:=if 0<=k then A*2^k.toNat else A/2^(-k).toNat
def scC (A k:Int):Bool:=if 0<=k then false else decide (A % 2^(-k).toNat≠0)
def qK (A B:Int):Int:=62+(blen B:Int)-(blen A:Int)
def qR64 (way:Int) (a b:NumR):Int × Bool:=r64 way (a.ng != b.ng) false (scV (val a.d a.n) (qK (val a.d a.n) (val b.d b.n))/val b.d b.n).toNat (a.e-b.e-qK (val a.d a.n) (val b.d b.n)) (scC (val a.d a.n) (qK (val a.d a.n) (val b.d b.n)) || decide (scV (val a.d a.n) (qK (val a.d a.n) (val b.d b.n)) % val b.d b.n≠0))
set_option maxRecDepth 100000 in
set_option maxHeartbeats 1000000 in
theorem operate_near (F G:Value) (hF:∃ f,F=.func f #[] #[]) (hG:∃ f,G=.func f #[] #[]) (near:Int) (R:Value) (o:Option Addr) (n c:Nat) (w:World) :
    Calls Tryz.prog 195 #[.agg #[F,G],.int .i64 near,.int .i64 0,R,.slice o n c] w fun e w'=>e=.returned (.tuple #[.int .i64 near,.int .i64 0])∧Below w.heap.size w w':=by
  obtain ⟨f,rfl⟩:=hF
  obtain ⟨g,rfl⟩:=hG
  have CW:=fun W=>wayOf_any 0 W
  unfold wayV wayF at CW
  simp only [if_true] at CW
  have hst:∀ (p:Addr) (F:Nat) (m:Mode) (w:World),(store p (.func (.func F) #[] #[]) m).run Tryz.prog w=stored Tryz.prog w p (.func (.func F) #[] #[]) m:=fun p F m w=>run_store _ w p _ m rfl
  go_enter Tryz.func195,Tryz.ntmps195
  go_wp2_with fail
  refine (CW _).mono ?_
  rintro _ w2 ⟨rfl,hb2⟩
  have hb1:=bel_alloc w (.cells #[.func f #[] #[],.func g #[] #[]] 197)
  have hbw:=bel_trans hb1 hb2
  have q1:=heap_alloc_new w2 (.cells #[.nilFunc] 185)
  have y0:=blkC q1 0 rfl
  have y1:=blkF q1 0
  clear CW
  go_wp2
  all_goals refine bodyPost_ret (v:=.tuple #[.int .i64 near,.int .i64 0]) (by simp [results,Tryz.results195,go_sem]) rfl ⟨rfl,?_⟩
  all_goals exact bel_trans hbw (bel_alloc _ _)
set_option maxRecDepth 100000 in
theorem double_any (w:World):Calls Tryz.prog 194 #[] w fun e w'=>e=.returned (.agg #[.func (.func 79) #[] #[],.func (.func 164) #[] #[]])∧Below w.heap.size w w':=by
  have hmf:∀ (fn:Fn) (first cap:Array Value) (w:World),(Instr.makeFunc fn first cap).run Tryz.prog w=.ok (.func fn first cap) w:=fun _ _ _ _=>rfl
  have hst:∀ (p:Addr) (F:Nat) (m:Mode) (w:World),(store p (.func (.func F) #[] #[]) m).run Tryz.prog w=stored Tryz.prog w p (.func (.func F) #[] #[]) m:=fun p F m w=>run_store _ w p _ m rfl
  have q1:=heap_alloc_new w (.cells #[.nilFunc,.nilFunc] 197)
  have x0:=blkC q1 0 rfl
  have x1:=blkC q1 1 rfl
  have z0:=blkF q1 0
  have z1:=blkF q1 1
  go_enter Tryz.func194,Tryz.ntmps194
  go_wp2
  all_goals refine bodyPost_ret (v:=.agg #[.func (.func 79) #[] #[],.func (.func 164) #[] #[]]) (by simp [results,Tryz.results194,go_sem]) rfl ⟨rfl,?_⟩
  all_goals exact bel_alloc _ _
theorem run_from64 (n:Int) (w:World):(callFunc 57 #[.int .u64 n]).run Tryz.prog w=.ok (.value (.float .f64 n.toNat)) w:=by
  rw [run_callFunc_extern Tryz.func57 (by kernel_rfl) (by kernel_rfl) (by kernel_rfl) (e:=Extern.MathFloatBits.float64frombits) (by kernel_rfl)]
  rfl
theorem ret_float {k:FloatKind} {a b:Nat} (h:a=b):Ending.returned (.float k a)=.returned (.float k b):=by rw [h]
theorem bitsFloat (b:Int) (w:World) :
    Calls Tryz.prog 32 #[.int .i64 b] w fun e w'=>e=.returned (.float .f64 (wd b))∧w'=w:=by
  have hd:=run_from64
  go_enter Tryz.func32,Tryz.ntmps32
  go_wp2
  go_ret
  exact ⟨ret_float (by rw [IntKind.wrap_u64]; rfl),rfl⟩
theorem hideIt {p:Prop} (h:p):Hid p:=h
theorem refCut (b:Int) (w:World) (hb:rng b) :
    Calls Tryz.prog 144 #[.int .i64 b] w fun e w'=>e=.returned (.tuple #[.bool (decide (b<0)),.int .i64 (fld b),.int .i64 (frc b)])∧w'=w:=by
  unfold rng at hb
  by_cases h:b<0
  all_goals
    go_enter Tryz.func144,Tryz.ntmps144
    go_wp2
    go_ret3
    exact ⟨ret_bii (by simp; try omega) (by unfold fld; omega) (by unfold frc; omega),rfl⟩
theorem refcls (f t most:Int) (w:World) (hf:0<=f) (ht:0<=t) :
    Calls Tryz.prog 181 #[.int .i64 f,.int .i64 t,.int .i64 most] w fun e w'=>e=.returned (.int .i64 (rcls f t most))∧w'=w:=by
  by_cases h1:f=most
  . subst h1
    by_cases h2:t=0
    all_goals
      go_enter Tryz.func181,Tryz.ntmps181
      go_wp2
      go_ret
      exact ⟨b_ret_int (by simp [rcls,h2]),rfl⟩
  . by_cases h2:0<f <;> by_cases h3:0<t
    all_goals
      go_enter Tryz.func181,Tryz.ntmps181
      go_wp2
      go_ret
      exact ⟨b_ret_int (by simp [rcls,h1]; omega),rfl⟩
theorem refClass (b:Int) (w:World) (hb:rng b) :
    Calls Tryz.prog 145 #[.int .i64 b] w fun e w'=>e=.returned (.int .i64 (cls b))∧w'=w:=by
  have hf:=fld_le b
  have ht:=frc_le b
  go_enter Tryz.func145,Tryz.ntmps145
  go_wp2_with (first
    | (go_at_call 144; refine (refCut _ _ hb).mono ?_; rintro e w1 ⟨rfl,rfl⟩)
    | (go_at_call 181; refine (refcls _ _ _ _ hf.1 ht.1).mono ?_; rintro e w1 ⟨rfl,rfl⟩))
  go_ret
  exact ⟨b_ret_int (rcls_cls b),rfl⟩
theorem refParts (b:Int) (w:World) (hb:rng b) :
    Calls Tryz.prog 105 #[.int .i64 b] w fun e w'=>e=.returned (.tuple #[.bool (pneg b),.int .i64 (pmag b),.int .i64 (pexp b),.bool (pok b)])∧w'=w:=by
  have hf:=fld_le b
  have ht:=frc_le b
  by_cases h0:cls b=0
  . have k:=hideIt (parts_sub (.inl h0))
    go_enter Tryz.func105,Tryz.ntmps105
    go_wp2_with (first
      | (go_at_call 144; refine (refCut _ _ hb).mono ?_; rintro e w1 ⟨rfl,rfl⟩)
      | (go_at_call 145; refine (refClass _ _ hb).mono ?_; rintro e w1 ⟨rfl,rfl⟩))
    refine bodyPost_ret (v:=.tuple #[.bool (decide (b<0)),.int .i64 (frc b),.int .i64 (-1074),.bool true]) (by simp [results,Tryz.results105,go_sem]) rfl ⟨ret_ttt4 k.out.1 k.out.2.1 k.out.2.2.1 k.out.2.2.2,rfl⟩
  . by_cases h1:cls b=1
    . have k:=hideIt (parts_sub (.inr h1))
      go_enter Tryz.func105,Tryz.ntmps105
      go_wp2_with (first
        | (go_at_call 144; refine (refCut _ _ hb).mono ?_; rintro e w1 ⟨rfl,rfl⟩)
        | (go_at_call 145; refine (refClass _ _ hb).mono ?_; rintro e w1 ⟨rfl,rfl⟩))
      refine bodyPost_ret (v:=.tuple #[.bool (decide (b<0)),.int .i64 (frc b),.int .i64 (-1074),.bool true]) (by simp [results,Tryz.results105,go_sem]) rfl ⟨ret_ttt4 k.out.1 k.out.2.1 k.out.2.2.1 k.out.2.2.2,rfl⟩
    . by_cases h2:cls b=2
      . have k:=hideIt (parts_norm h2)
        go_enter Tryz.func105,Tryz.ntmps105
        go_wp2_with (first
          | (go_at_call 144; refine (refCut _ _ hb).mono ?_; rintro e w1 ⟨rfl,rfl⟩)
          | (go_at_call 145; refine (refClass _ _ hb).mono ?_; rintro e w1 ⟨rfl,rfl⟩))
        refine bodyPost_ret (v:=.tuple #[.bool (decide (b<0)),.int .i64 (4503599627370496+frc b),.int .i64 (fld b-1075),.bool true]) (by simp [results,Tryz.results105,go_sem]) rfl ⟨ret_ttt4 k.out.1 k.out.2.1 k.out.2.2.1 k.out.2.2.2,rfl⟩
      . have k:=hideIt (parts_not h0 h1 h2)
        go_enter Tryz.func105,Tryz.ntmps105
        go_wp2_with (first
          | (go_at_call 144; refine (refCut _ _ hb).mono ?_; rintro e w1 ⟨rfl,rfl⟩)
          | (go_at_call 145; refine (refClass _ _ hb).mono ?_; rintro e w1 ⟨rfl,rfl⟩))
        refine bodyPost_ret (v:=.tuple #[.bool false,.int .i64 0,.int .i64 0,.bool false]) (by simp [results,Tryz.results105,go_sem]) rfl ⟨ret_ttt4 k.out.1 k.out.2.1 k.out.2.2.1 k.out.2.2.2,rfl⟩
def told (b:Int):Int:=if cls b=4 then 9221120237041090561 else b
theorem no64 {b:Int} (hb:rng b):(FloatKind.f64.format.order (wd b) (wd b) != some .eq)=decide (cls b=4):=by
  have:=same_order hb hb
  unfold bne
  rw [this]; unfold same
  by_cases h:cls b=4 <;> simp [h]
theorem run_bits64 (n:Nat) (w:World):(callFunc 58 #[.float .f64 n]).run Tryz.prog w=.ok (.value (.int .u64 n)) w:=by
  rw [run_callFunc_extern Tryz.func58 (by kernel_rfl) (by kernel_rfl) (by kernel_rfl) (e:=Extern.MathFloatBits.float64bits) (by kernel_rfl)]
  rfl
theorem bitsOf (b:Int) (w:World) (hb:rng b) :
    Calls Tryz.prog 62 #[.float .f64 (wd b)] w fun e w'=>e=.returned (.int .i64 (told b))∧w'=w:=by
  have hd:=run_bits64
  have hn:=no64 hb
  have hw:Hid (wrap64 (wd b:Int)=b):=by unfold Hid wrap64 wd; unfold rng at hb; omega
  by_cases h:cls b=4
  . have hn':(FloatKind.f64.format.order (wd b) (wd b) != some .eq)=true:=by rw [hn]; simp [h]
    clear hn
    go_enter Tryz.func62,Tryz.ntmps62
    go_wp2
    go_ret
    exact ⟨b_ret_int (by simp [told,h]),rfl⟩
  . have hn':(FloatKind.f64.format.order (wd b) (wd b) != some .eq)=false:=by rw [hn]; simp [h]
    clear hn
    go_enter Tryz.func62,Tryz.ntmps62
    go_wp2
    go_ret
    exact ⟨b_ret_int (by rw [hw.out]; simp [told,h]),rfl⟩
def litR (g:Nat) (x:Int):NumR:=⟨false,some ⟨g,0,none⟩,1,1,fun _=>x,0⟩
theorem third (g k:Nat):qR64 0 (litR g 1) (litR k 3)=(4599676419421066581,true):=by
  have e:qR64 0 (litR g 1) (litR k 3)=qR64 0 (litR 0 1) (litR 0 3):=rfl
  rw [e]
  decide +kernel
def NumR.neg (r:NumR):NumR:=⟨!r.ng,r.ao,r.n,r.cap,r.d,r.e⟩
theorem NumR.neg_V (r:NumR):r.neg.V=-r.V:=by
  show sg (!r.ng) _*_=_
  rw [sg_not,Int.neg_mul]; rfl
theorem NumR.neg_sane {r:NumR} (h:Sane r):Sane r.neg:=h
set_option maxRecDepth 100000 in
set_option maxHeartbeats 1000000 in
theorem sub1_any (x y:NumR) (g h:Nat) (w:World) (cg:w.heap[g]?=some (.cells #[.bool x.ng,.slice x.ao x.n x.cap,.int .i64 x.e] 34 (0,0))) (ch:w.heap[h]?=some (.cells #[.bool y.ng,.slice y.ao y.n y.cap,.int .i64 y.e] 34 (0,0)))
    (hx:Row w x.ao x.n x.cap x.d) (hy:Row w y.ao y.n y.cap y.d) (sx:Sane x) (sy:Sane y) (hT:Tab w) :
    Calls Tryz.prog 84 #[.pointer (some ⟨g,0,none⟩),.pointer (some ⟨h,0,none⟩)] w (DOut w (x.V+y.V)):=by
  obtain ⟨an,ao,n,ca,a,e⟩:=x
  obtain ⟨bn,bo,m,cb,b,f⟩:=y
  simp only at cg ch hx hy
  have hb:=bel_alloc w (.cells #[.bool false,.slice none 0 0,.int .i64 0] 34)
  have g0:=heap_past (.cells #[.bool false,.slice none 0 0,.int .i64 0] 34) cg
  have g1:=heap_past (.cells #[.bool false,.slice none 0 0,.int .i64 0] 34) ch
  have k0:=blkC g0 0 rfl
  have k1:=blkC g0 1 rfl
  have k2:=blkC g0 2 rfl
  have j0:=blkC g1 0 rfl
  have j1:=blkC g1 1 rfl
  have j2:=blkC g1 2 rfl
  have hN:=fun q=>nums2 (w:=(w.alloc (.cells #[.bool false,.slice none 0 0,.int .i64 0] 34)).alloc (.cells #[.bool an,.slice ao n ca,.int .i64 e,.bool bn,.slice bo m cb,.int .i64 f] 34)) (g:=w.heap.size+1) (x:=⟨an,ao,n,ca,a,e⟩) (y:=⟨bn,bo,m,cb,b,f⟩) (t:=34) q (hx.keeps (bel_alloc2 _ _ _)) (hy.keeps (bel_alloc2 _ _ _))
  go_enter Tryz.func84,Tryz.ntmps84
  go_wp2_with fail
  refine (total_any _ _ _ _ _ (hN (heap_b2 _ _ _)) (fun i hi=>?_) (by omega) (hT.keeps (bel_alloc2 _ _ _))).mono ?_
  . match i,hi with
    | 0,_=>exact sx
    | 1,_=>exact sy
  rw [sumV2]
  rintro r w7 (⟨hok,v,rfl,hD⟩ | ⟨hno,rfl,hb7⟩)
  . have hb7:=hD.below
    obtain ⟨ng',s',m',e',rfl,hyy,hA⟩:=id hD
    obtain ⟨so,sn,sc,rfl⟩:=hA.num.shape
    have q0:=(hb7.block w.heap.size (by rw [size2]; omega)).trans (heap_a2 _ _ _)
    have x0:=blkC q0 0 rfl
    have x1:=blkC q0 1 rfl
    have x2:=blkC q0 2 rfl
    have z0:=blkF q0 0
    have z1:=blkF q0 1
    have z2:=blkF q0 2
    go_wp2
    refine bodyPost_ret (v:=.agg #[.bool ng',.slice so sn sc,.int .i64 e']) (by simp [results,Tryz.results84,go_sem,x0,x1,x2]) rfl ?_
    exact .inl ⟨hok,_,rfl,dans_res3 (g:=w.heap.size) hD (bel_alloc2 _ _ _) (Nat.le_refl _) (by rw [size2]; omega) _ _ _⟩
  . exact ⟨rfl,.inr ⟨hno,rfl,bel_trans (bel_alloc2 _ _ _) hb7⟩⟩
set_option maxRecDepth 100000 in
set_option maxHeartbeats 1000000 in
theorem dsub_ok (x y:NumR) (w:World) (hx:Row w x.ao x.n x.cap x.d) (hy:Row w y.ao y.n y.cap y.d) (ox:okR x=true) (oy:okR y=true) (hT:Tab w) :
    Calls Tryz.prog 53 #[x.v,y.v] w fun r w'=>∃ v er,r=.returned (.tuple #[v,.int .i64 er])∧DFit w w' (x.V-y.V) v er:=by
  have hmf:∀ (fn:Fn) (first cap:Array Value) (w:World),(Instr.makeFunc fn first cap).run Tryz.prog w=.ok (.func fn first cap) w:=fun _ _ _ _=>rfl
  have hE:∀ (cap:Array Value) (w:World),(callFunc 84 cap).run Tryz.prog w=.ok (.enter 84 cap) w:=by
    intro cap w
    simp [go_sem]
  have hA:=allOk2 x y
  rw [ox,oy] at hA
  have hN:=fun W q hb=>nums2 (w:=W) (g:=w.heap.size+3) (x:=x) (y:=y) (t:=34) q (hx.keeps hb) (hy.keeps hb)
  have hC:=fun W hb cg ch=>sub1_any x y.neg w.heap.size (w.heap.size+1) W cg ch (hx.keeps hb) (hy.keeps hb) (okR_sane ox) (NumR.neg_sane (okR_sane oy)) (hT.keeps hb)
  generalize pair2 x y=pr at hA hN
  rw [show x.V-y.V=x.V+y.neg.V by rw [NumR.neg_V]; omega]
  generalize x.V+y.neg.V=V at hC ⊢
  clear ox oy
  obtain ⟨an,ao,n,ca,a,e⟩:=x
  obtain ⟨bn,bo,m,cb,b,f⟩:=y
  unfold NumR.v
  unfold NumR.neg at hC
  simp only at hx hy hN hC ⊢
  go_enter Tryz.func53,Tryz.ntmps53
  go_wp2_with fail
  refine (dvalids_any _ _ _ _ _ (hN _ (h4_3 _ _ _ _ _) (bel_a4 _ _ _ _ _))).mono ?_
  rw [hA]
  rintro r w1 ⟨rfl,hb1⟩
  have hbw:=bel_trans (bel_a4 w _ _ _ _) hb1
  have g0:=(hb1.block w.heap.size (by rw [size4]; omega)).trans (h4_0 _ _ _ _ _)
  have g1:=(hb1.block (w.heap.size+1) (by rw [size4]; omega)).trans (h4_1 _ _ _ _ _)
  have g2:=(hb1.block (w.heap.size+2) (by rw [size4]; omega)).trans (h4_2 _ _ _ _ _)
  have hs4:w.heap.size+4<=w1.heap.size:=by have:=hb1.size; rw [size4] at this; exact this
  have y0:=blkC g1 0 rfl
  have y1:=blkF g1 0
  go_wp2_with fail
  have hbw':Below w.heap.size w (w1.setCell ⟨w.heap.size+1,0,none⟩ (.bool (!bn))):=hbw.setCell (p:=⟨w.heap.size+1,0,none⟩) (Nat.le_succ _) _
  have u0:=(Below.heap_setCell w1 ⟨w.heap.size+1,0,none⟩ (.bool (!bn)) w.heap.size (by show w.heap.size≠w.heap.size+1; omega)).trans g0
  have u2:=(Below.heap_setCell w1 ⟨w.heap.size+1,0,none⟩ (.bool (!bn)) (w.heap.size+2) (by show w.heap.size+2≠w.heap.size+1; omega)).trans g2
  have u1:=heap_set g1 0 (.bool (!bn))
  have us:(w1.setCell ⟨w.heap.size+1,0,none⟩ (.bool (!bn))).heap.size=w1.heap.size:=by simp [World.setCell]
  generalize w1.setCell ⟨w.heap.size+1,0,none⟩ (.bool (!bn))=w9 at hbw' u0 u1 u2 us ⊢
  clear hbw g0 g1 g2 hb1 y0 y1
  have hbw:=hbw'
  have g0:=u0
  have g1:w9.heap[w.heap.size+1]?=some (.cells #[.bool (!bn),.slice bo m cb,.int .i64 f] 34 (0,0)):=u1
  have g2:=u2
  refine (told_any (V:=V) (hE _) (fun W hW=>hC W (bel_trans hbw hW) ((hW.block _ (by omega)).trans g0) ((hW.block _ (by omega)).trans g1))).mono ?_
  rintro r w2 ⟨v,er,rfl,hF⟩
  obtain ⟨ng',so,sn,sc,e',rfl⟩:=hF.shape
  have q0:=(hF.1.block (w.heap.size+2) (by omega)).trans g2
  have x0:=blkC q0 0 rfl
  have x1:=blkC q0 1 rfl
  have x2:=blkC q0 2 rfl
  have z0:=blkF q0 0
  have z1:=blkF q0 1
  have z2:=blkF q0 2
  go_wp2
  refine bodyPost_ret (v:=.tuple #[.agg #[.bool ng',.slice so sn sc,.int .i64 e'],.int .i64 er]) (by simp [results,Tryz.results53,go_sem,x0,x1,x2]) rfl ⟨_,_,rfl,?_⟩
  exact dfit_res (g:=w.heap.size+2) hF hbw (by omega) (by omega) _ _ _
def mulV (x y:NumR):Int:=sg (x.ng != y.ng) (val x.d x.n*val y.d y.n)*pw (x.e+y.e)
theorem mulV_eq {x y:NumR} (hx:-2097152<=x.e) (hy:-2097152<=y.e):mulV x y*2^4194304=x.V*y.V:=by
  unfold mulV NumR.V
  rw [Int.mul_assoc,<- pw_mul hx hy,<- sg_mul]; grind
set_option maxRecDepth 100000 in
set_option maxHeartbeats 2000000 in
theorem dproduct_any (x y:NumR) (w:World) (hx:Row w x.ao x.n x.cap x.d) (hy:Row w y.ao y.n y.cap y.d) (sx:Sane x) (sy:Sane y) :
    Calls Tryz.prog 87 #[x.v,y.v] w fun r w'=>∃ s,r=.returned (.agg #[.bool (x.ng != y.ng),s,.int .i64 (x.e+y.e)])∧Ans w w' (val x.d x.n*val y.d y.n) s:=by
  obtain ⟨an,ao,n,ca,a,e⟩:=x
  obtain ⟨bn,bo,m,cb,b,f⟩:=y
  obtain ⟨s1,s2,s3,s4⟩:=sx
  obtain ⟨t1,t2,t3,t4⟩:=sy
  unfold NumR.v
  simp only at *
  have hw:IntKind.i64.wrap (e+f)=e+f:=by rw [wrap_i64_eq]; omega
  have hb3:=bel_a3 w (.cells #[.bool an,.slice ao n ca,.int .i64 e] 34) (.cells #[.bool bn,.slice bo m cb,.int .i64 f] 34) (.cells #[.bool false,.slice none 0 0,.int .i64 0] 34)
  have g0:=h3_0 w (.cells #[.bool an,.slice ao n ca,.int .i64 e] 34) (.cells #[.bool bn,.slice bo m cb,.int .i64 f] 34) (.cells #[.bool false,.slice none 0 0,.int .i64 0] 34)
  have g1:=h3_1 w (.cells #[.bool an,.slice ao n ca,.int .i64 e] 34) (.cells #[.bool bn,.slice bo m cb,.int .i64 f] 34) (.cells #[.bool false,.slice none 0 0,.int .i64 0] 34)
  have g2:=h3_2 w (.cells #[.bool an,.slice ao n ca,.int .i64 e] 34) (.cells #[.bool bn,.slice bo m cb,.int .i64 f] 34) (.cells #[.bool false,.slice none 0 0,.int .i64 0] 34)
  have hs3:=size3 w (.cells #[.bool an,.slice ao n ca,.int .i64 e] 34) (.cells #[.bool bn,.slice bo m cb,.int .i64 f] 34) (.cells #[.bool false,.slice none 0 0,.int .i64 0] 34)
  go_enter Tryz.func87,Tryz.ntmps87
  go_wp2_with fail
  have HX:=hx.keeps hb3
  have HY:=hy.keeps hb3
  generalize ((w.alloc (.cells #[.bool an,.slice ao n ca,.int .i64 e] 34)).alloc (.cells #[.bool bn,.slice bo m cb,.int .i64 f] 34)).alloc (.cells #[.bool false,.slice none 0 0,.int .i64 0] 34)=wx at hb3 g0 g1 g2 hs3 HX HY ⊢
  have k0:=blkC g0 0 rfl
  have k1:=blkC g0 1 rfl
  have k2:=blkC g0 2 rfl
  have j0:=blkC g1 0 rfl
  have j1:=blkC g1 1 rfl
  have j2:=blkC g1 2 rfl
  have hb1:=bel_refl wx
  have C1:∀ W,Below wx.heap.size wx W->Calls Tryz.prog 120 #[.slice ao n ca,.slice bo m cb] W fun r w'=>∃ so sn sc,r=.returned (.slice so sn sc)∧Ans W w' (val a n*val b m) (.slice so sn sc)∧Below W.heap.size W w':=fun W h=>by
    refine (product_any ao bo n m ca cb a b W (HX.keeps h) (HY.keeps h) s1.1 t1.1 (by omega) (by omega)).mono ?_
    rintro r w' ⟨v,rfl,hA⟩
    obtain ⟨so,sn,sc,rfl⟩:=hA.num.shape
    exact ⟨so,sn,sc,rfl,hA,hA.below⟩
  go_region_held3 (fun W=>(W.cell? ⟨w.heap.size,0,none⟩=some (.bool an)∧W.cell? ⟨w.heap.size,1,none⟩=some (.slice ao n ca)∧W.cell? ⟨w.heap.size,2,none⟩=some (.int .i64 e))∧W.cell? ⟨w.heap.size+1,0,none⟩=some (.bool bn)∧W.cell? ⟨w.heap.size+1,1,none⟩=some (.slice bo m cb)∧W.cell? ⟨w.heap.size+1,2,none⟩=some (.int .i64 f))
    (first | assumption | exact ⟨⟨k0,k1,k2⟩,j0,j1,j2⟩ | exact ⟨keepB (W:=wx.drew) ⟨k0,k1,k2⟩ hbv1,keepB (W:=wx.drew) ⟨j0,j1,j2⟩ hbv1⟩ | exact ⟨keepS (keepB (W:=wx.drew) ⟨k0,k1,k2⟩ hbv1) (by omega) _ _ _,keepS (keepB (W:=wx.drew) ⟨j0,j1,j2⟩ hbv1) (by omega) _ _ _⟩)
    (first | (go_at_call 120; refine (C1 _ hb1.drew).mono ?_; rintro y w3 ⟨so,sn,sc,rfl,hv,hbv1⟩; have q0:=(hbv1.block (w.heap.size+2) (by show _<wx.heap.size; omega)).trans g2; have x0:=blkC q0 0 rfl; have x1:=blkC q0 1 rfl; have x2:=blkC q0 2 rfl; have z0:=blkF q0 0; have z1:=blkF q0 1; have z2:=blkF q0 2) | fail)
  all_goals go_wp2
  all_goals
    refine bodyPost_ret (v:=.agg #[.bool (!(an == bn)),.slice so sn sc,.int .i64 (e+f)]) (by simp [results,Tryz.results87,go_sem,x0,x1,x2]) rfl ⟨_,rfl,?_⟩
    exact ans_res (g:=w.heap.size+2) (hv.from hb1.drew) hb3 (by omega) (by omega) _ _ _
set_option maxRecDepth 100000 in
set_option maxHeartbeats 1000000 in
theorem mul1_any (x y:NumR) (g h:Nat) (w:World) (cg:w.heap[g]?=some (.cells #[.bool x.ng,.slice x.ao x.n x.cap,.int .i64 x.e] 34 (0,0))) (ch:w.heap[h]?=some (.cells #[.bool y.ng,.slice y.ao y.n y.cap,.int .i64 y.e] 34 (0,0)))
    (hx:Row w x.ao x.n x.cap x.d) (hy:Row w y.ao y.n y.cap y.d) (sx:Sane x) (sy:Sane y) (hT:Tab w) :
    Calls Tryz.prog 85 #[.pointer (some ⟨g,0,none⟩),.pointer (some ⟨h,0,none⟩)] w (DOut w (mulV x y)):=by
  have hP:=fun W hb=>dproduct_any x y W (hx.keeps hb) (hy.keeps hb) sx sy
  have hV:mulV x y=sg (x.ng != y.ng) (val x.d x.n*val y.d y.n)*pw (x.e+y.e):=rfl
  have he:-4194304<=x.e+y.e:=by have:=sx.2.2.1; have:=sy.2.2.1; omega
  have hlen:val x.d x.n*val y.d y.n<P 10000:=by
    have a1:=val_lt sx.1.1
    have a2:=val_lt sy.1.1
    have b1:=val_nonneg sx.1.1
    have b2:=val_nonneg sy.1.1
    have c1:val x.d x.n*val y.d y.n<=P x.n*val y.d y.n:=Int.mul_le_mul_of_nonneg_right (by omega) b2
    have c2:P x.n*val y.d y.n<P x.n*P y.n:=Int.mul_lt_mul_of_pos_left a2 (P_pos _)
    rw [<- P_add] at c2
    have:=P_le (show x.n+y.n<=10000 by have:=sx.2.1; have:=sy.2.1; omega)
    omega
  generalize mulV x y=V at hV ⊢
  unfold NumR.v at hP
  obtain ⟨an,ao,n,ca,a,e⟩:=x
  obtain ⟨bn,bo,m,cb,b,f⟩:=y
  simp only at cg ch hx hy hP hV he hlen
  have hb:=bel_alloc w (.cells #[.bool false,.slice none 0 0,.int .i64 0] 34)
  have g0:=heap_past (.cells #[.bool false,.slice none 0 0,.int .i64 0] 34) cg
  have g1:=heap_past (.cells #[.bool false,.slice none 0 0,.int .i64 0] 34) ch
  have k0:=blkC g0 0 rfl
  have k1:=blkC g0 1 rfl
  have k2:=blkC g0 2 rfl
  have j0:=blkC g1 0 rfl
  have j1:=blkC g1 1 rfl
  have j2:=blkC g1 2 rfl
  clear sx sy
  have HV:Hid (V=sg (an != bn) (val a n*val b m)*pw (e+f)):=hV
  clear hV
  go_enter Tryz.func85,Tryz.ntmps85
  go_wp2_with fail
  refine (hP _ hb).mono ?_
  rintro r w3 ⟨s,rfl,hA⟩
  obtain ⟨so,sn,sc,d,rfl,hR,hN,hv⟩:=hA.num
  have hsn:sn<=10000:=hA.num.len hlen
  have hb3:=bel_trans hb hA.below
  go_wp2_with fail
  refine (settle_any (V:=V) hR hN.1 (by omega) (hT.keeps hb3) he (by rw [hv]; exact HV.out)).mono ?_
  rintro r w7 (⟨hok,v,rfl,hD⟩ | ⟨hno,rfl,hb7⟩)
  . have hb7:=hD.below
    obtain ⟨ng',s',m',e',rfl,hyy,hA2⟩:=id hD
    obtain ⟨so',sn',sc',rfl⟩:=hA2.num.shape
    have q0:=((bel_trans hA.below hb7).block w.heap.size (by rw [size1]; omega)).trans (heap_a1 _ _)
    have x0:=blkC q0 0 rfl
    have x1:=blkC q0 1 rfl
    have x2:=blkC q0 2 rfl
    have z0:=blkF q0 0
    have z1:=blkF q0 1
    have z2:=blkF q0 2
    go_wp2
    refine bodyPost_ret (v:=.agg #[.bool ng',.slice so' sn' sc',.int .i64 e']) (by simp [results,Tryz.results85,go_sem,x0,x1,x2]) rfl ?_
    exact .inl ⟨hok,_,rfl,dans_res3 (g:=w.heap.size) hD hb3 (Nat.le_refl _) (Nat.lt_of_lt_of_le (by rw [size1]; omega) hA.below.size) _ _ _⟩
  . exact ⟨rfl,.inr ⟨hno,rfl,bel_trans hb3 hb7⟩⟩
set_option maxRecDepth 100000 in
set_option maxHeartbeats 1000000 in
theorem dmul_ok (x y:NumR) (w:World) (hx:Row w x.ao x.n x.cap x.d) (hy:Row w y.ao y.n y.cap y.d) (ox:okR x=true) (oy:okR y=true) (hT:Tab w) :
    Calls Tryz.prog 54 #[x.v,y.v] w fun r w'=>∃ v er,r=.returned (.tuple #[v,.int .i64 er])∧DFit w w' (mulV x y) v er:=by
  have hmf:∀ (fn:Fn) (first cap:Array Value) (w:World),(Instr.makeFunc fn first cap).run Tryz.prog w=.ok (.func fn first cap) w:=fun _ _ _ _=>rfl
  have hE:∀ (cap:Array Value) (w:World),(callFunc 85 cap).run Tryz.prog w=.ok (.enter 85 cap) w:=by
    intro cap w
    simp [go_sem]
  have hA:=allOk2 x y
  rw [ox,oy] at hA
  have hN:=fun W q hb=>nums2 (w:=W) (g:=w.heap.size+3) (x:=x) (y:=y) (t:=34) q (hx.keeps hb) (hy.keeps hb)
  have hC:=fun W hb cg ch=>mul1_any x y w.heap.size (w.heap.size+1) W cg ch (hx.keeps hb) (hy.keeps hb) (okR_sane ox) (okR_sane oy) (hT.keeps hb)
  generalize pair2 x y=pr at hA hN
  generalize mulV x y=V at hC ⊢
  clear ox oy
  obtain ⟨an,ao,n,ca,a,e⟩:=x
  obtain ⟨bn,bo,m,cb,b,f⟩:=y
  unfold NumR.v
  simp only at hx hy hN hC ⊢
  go_enter Tryz.func54,Tryz.ntmps54
  go_wp2_with fail
  refine (dvalids_any _ _ _ _ _ (hN _ (h4_3 _ _ _ _ _) (bel_a4 _ _ _ _ _))).mono ?_
  rw [hA]
  rintro r w1 ⟨rfl,hb1⟩
  have hbw:=bel_trans (bel_a4 w _ _ _ _) hb1
  have g0:=(hb1.block w.heap.size (by rw [size4]; omega)).trans (h4_0 _ _ _ _ _)
  have g1:=(hb1.block (w.heap.size+1) (by rw [size4]; omega)).trans (h4_1 _ _ _ _ _)
  have g2:=(hb1.block (w.heap.size+2) (by rw [size4]; omega)).trans (h4_2 _ _ _ _ _)
  have hs4:w.heap.size+4<=w1.heap.size:=by have:=hb1.size; rw [size4] at this; exact this
  go_wp2_with fail
  refine (told_any (V:=V) (hE _) (fun W hW=>hC W (bel_trans hbw hW) ((hW.block _ (by omega)).trans g0) ((hW.block _ (by omega)).trans g1))).mono ?_
  rintro r w2 ⟨v,er,rfl,hF⟩
  obtain ⟨ng',so,sn,sc,e',rfl⟩:=hF.shape
  have q0:=(hF.1.block (w.heap.size+2) (by omega)).trans g2
  have x0:=blkC q0 0 rfl
  have x1:=blkC q0 1 rfl
  have x2:=blkC q0 2 rfl
  have z0:=blkF q0 0
  have z1:=blkF q0 1
  have z2:=blkF q0 2
  go_wp2
  refine bodyPost_ret (v:=.tuple #[.agg #[.bool ng',.slice so sn sc,.int .i64 e'],.int .i64 er]) (by simp [results,Tryz.results54,go_sem,x0,x1,x2]) rfl ⟨_,_,rfl,?_⟩
  exact dfit_res (g:=w.heap.size+2) hF hbw (by omega) (by omega) _ _ _
set_option maxRecDepth 100000 in
set_option maxHeartbeats 1000000 in
theorem dsignF_any (x:NumR) (w:World) (hx:Row w x.ao x.n x.cap x.d) :
    Calls Tryz.prog 45 #[x.v] w fun r w'=>r=.returned (.tuple #[.int .i64 (if okR x then sgn x.ng x.n else 0),.int .i64 (if okR x then 0 else 11)])∧Below w.heap.size w w':=by
  have hV:=fun W hb=>dvalid_any x.ng x.ao x.n x.cap x.d x.e W (hx.keeps hb)
  have hS:=fun W=>dsign_any x.ng x.ao x.n x.cap x.e W (by have:=hx.le; have:=hx.max; omega)
  have hk:okN x.ng x.d x.n x.e=okR x:=rfl
  rw [hk] at hV
  unfold NumR.v
  generalize okR x=ok at *
  obtain ⟨an,ao,n,ca,a,e⟩:=x
  simp only at *
  cases ok
  . go_enter Tryz.func45,Tryz.ntmps45
    go_wp2_with fail
    refine (hV _ (bel_alloc _ _)).mono ?_
    rintro r w1 ⟨rfl,hb1⟩
    go_wp2
    go_ret2
    exact ⟨rfl,bel_trans (bel_alloc _ _) hb1⟩
  . go_enter Tryz.func45,Tryz.ntmps45
    go_wp2_with fail
    refine (hV _ (bel_alloc _ _)).mono ?_
    rintro r w1 ⟨rfl,hb1⟩
    have g0:=(hb1.block w.heap.size (by rw [size1]; omega)).trans (heap_a1 _ _)
    have k0:=blkC g0 0 rfl
    have k1:=blkC g0 1 rfl
    have k2:=blkC g0 2 rfl
    go_wp2_with fail
    refine (hS _).mono ?_
    rintro r w2 ⟨rfl,hb2⟩
    go_wp2
    go_ret2
    exact ⟨rfl,bel_trans (bel_trans (bel_alloc _ _) hb1) hb2⟩
theorem keep66 {W w':World} {g h:Nat} {a b c d e f:Value} (hb:Below W.heap.size W w') (hS:(W.cell? ⟨g,0,none⟩=some a∧W.cell? ⟨g,1,none⟩=some b∧W.cell? ⟨g,2,none⟩=some c)∧W.cell? ⟨h,0,none⟩=some d∧W.cell? ⟨h,1,none⟩=some e∧W.cell? ⟨h,2,none⟩=some f) :
    (w'.cell? ⟨g,0,none⟩=some a∧w'.cell? ⟨g,1,none⟩=some b∧w'.cell? ⟨g,2,none⟩=some c)∧w'.cell? ⟨h,0,none⟩=some d∧w'.cell? ⟨h,1,none⟩=some e∧w'.cell? ⟨h,2,none⟩=some f :=
  ⟨keepB hS.1 hb,keepB hS.2 hb⟩
theorem sgn_V {x:NumR} (sx:Sane x):(sgn x.ng x.n=0∧x.V=0∧x.n=0)∨(sgn x.ng x.n=1∧0<x.V∧0<x.n∧x.ng=false)∨(sgn x.ng x.n=-1∧x.V<0∧0<x.n∧x.ng=true):=by
  by_cases h0:x.n=0
  . left
    refine ⟨by simp [sgn,h0],?_,h0⟩
    show sg x.ng (val x.d x.n)*_=0
    rw [h0]
    show sg x.ng 0*_=0
    rw [sg_zero,Int.zero_mul]
  . right
    have hp:=Int.mul_pos (val_pos sx.1 (show 0<x.n by omega)) (pw_pos x.e)
    have hV:x.V=sg x.ng (val x.d x.n)*pw x.e:=rfl
    cases hg:x.ng
    . left
      rw [hg] at hV
      exact ⟨by simp [sgn,h0],by rw [hV]; exact hp,by omega,rfl⟩
    . right
      rw [hg] at hV
      refine ⟨by simp [sgn,h0],?_,by omega,rfl⟩
      rw [hV]
      show -val x.d x.n*pw x.e<0
      rw [Int.neg_mul]; omega
theorem DNum.open {w:World} {v:Value} {V:Int} (h:DNum w v V) (ok:Dok V):∃ x:NumR,v=x.v∧Row w x.ao x.n x.cap x.d∧okR x=true∧x.V=V:=by
  obtain ⟨ng,s,m,e,rfl,hy,ao,n,cap,d,rfl,hR,hN,rfl⟩:=h
  refine ⟨⟨ng,ao,n,cap,d,e⟩,rfl,hR,?_,hy.val.symm⟩
  obtain ⟨o1,o2,o3⟩:=hy.ok.1 ok
  refine decide_eq_true ?_
  by_cases h0:n=0
  . left
    have hz:val d n=0:=by rw [h0]; rfl
    rcases hy.form with ⟨_,f2,f3⟩ | ⟨f1,_⟩
    . exact ⟨h0,f2,f3⟩
    . omega
  . right
    have hp:=val_pos hN (show 0<n by omega)
    rcases hy.form with ⟨f1,_⟩ | ⟨_,f2⟩
    . omega
    . refine ⟨by show 0<n; omega,⟨?_,hN⟩,?_,o2,o3⟩
      . exact Num.len (w:=w) (ao:=ao) (cap:=cap) ⟨_,_,_,_,rfl,hR,hN,rfl⟩ o1
      . obtain ⟨k,hk⟩:∃ k,n=1+k:=⟨n-1,by omega⟩
        have:=val_split d 1 k
        rw [<- hk] at this
        rw [this,show val d 1=d 0 by show 0+d 0*1=_; omega,show P 1=1073741824 from rfl] at f2
        show d 0 % 2=1
        omega
theorem DFit.yes {w w':World} {V er:Int} {v:Value} (h:DFit w w' V v er) (ok:Dok V):er=0∧DAns w w' V v:=by
  rcases h.2 with ⟨_,h1,h2⟩ | ⟨hn,_⟩
  . exact ⟨h1,h2⟩
  . exact absurd ok hn
theorem add_D {w:World} {x y:Value} {A B:Int} (hx:DNum w x A) (hy:DNum w y B) (oA:Dok A) (oB:Dok B) (hT:Tab w) :
    Calls Tryz.prog 52 #[x,y] w fun r w'=>∃ v er,r=.returned (.tuple #[v,.int .i64 er])∧DFit w w' (A+B) v er:=by
  obtain ⟨x,rfl,hR,ok,rfl⟩:=hx.open oA
  obtain ⟨y,rfl,hR',ok',rfl⟩:=hy.open oB
  exact dadd_ok x y w hR hR' ok ok' hT
theorem sub_D {w:World} {x y:Value} {A B:Int} (hx:DNum w x A) (hy:DNum w y B) (oA:Dok A) (oB:Dok B) (hT:Tab w) :
    Calls Tryz.prog 53 #[x,y] w fun r w'=>∃ v er,r=.returned (.tuple #[v,.int .i64 er])∧DFit w w' (A-B) v er:=by
  obtain ⟨x,rfl,hR,ok,rfl⟩:=hx.open oA
  obtain ⟨y,rfl,hR',ok',rfl⟩:=hy.open oB
  exact dsub_ok x y w hR hR' ok ok' hT
theorem mul_D {w:World} {x y:Value} {A B:Int} (hx:DNum w x A) (hy:DNum w y B) (oA:Dok A) (oB:Dok B) (hT:Tab w) :
    Calls Tryz.prog 54 #[x,y] w fun r w'=>∃ v er C,r=.returned (.tuple #[v,.int .i64 er])∧C*2^4194304=A*B∧DFit w w' C v er:=by
  obtain ⟨x,rfl,hR,ok,rfl⟩:=hx.open oA
  obtain ⟨y,rfl,hR',ok',rfl⟩:=hy.open oB
  refine (dmul_ok x y w hR hR' ok ok' hT).mono ?_
  rintro r w' ⟨v,er,rfl,hF⟩
  exact ⟨v,er,_,rfl,mulV_eq (by have:=(okR_sane ok).2.2.1; omega) (by have:=(okR_sane ok').2.2.1; omega),hF⟩
theorem sign_D {w:World} {x:Value} {A:Int} (hx:DNum w x A) (oA:Dok A) :
    Calls Tryz.prog 45 #[x] w fun r w'=>r=.returned (.tuple #[.int .i64 (ord A 0),.int .i64 0])∧Below w.heap.size w w':=by
  obtain ⟨x,rfl,hR,ok,rfl⟩:=hx.open oA
  have:=dsignF_any x w hR
  rw [ok] at this
  have e:sgn x.ng x.n=ord x.V 0:=by
    rcases sgn_V (okR_sane ok) with ⟨a,b,_⟩ | ⟨a,b,_⟩ | ⟨a,b,_⟩
    . rw [a,b,ord_eq rfl]
    . rw [a,ord_gt b]
    . rw [a,ord_lt b]
  rw [<- e]
  exact this
theorem dy_lit (ng:Bool) {m e:Int} (h0:0<m) (h1:m % 2=1) (he:-4194304<=e):Dy (sg ng m*pw e) ng m e:=⟨rfl,he,.inr ⟨h0,h1⟩⟩
theorem dnum_lit {w:World} {g:Nat} (ng:Bool) {m e:Int} (h0:0<m) (h1:m % 2=1) (h2:m<1073741824) (he:-4194304<=e) (hg:w.heap[g]?=some (.cells #[.int .i64 m] 3 (0,0))) :
    DNum w (.agg #[.bool ng,.slice (some ⟨g,0,none⟩) 1 1,.int .i64 e]) (sg ng m*pw e):=by
  refine ⟨ng,_,m,e,rfl,dy_lit ng h0 h1 he,_,1,1,fun _=>m,rfl,?_,⟨fun i _=>by show 0<=m∧m<1073741824; omega,.inr (by show m≠0; omega)⟩,by show 0+m*1=m; omega⟩
  exact ⟨Nat.le_refl _,by omega,fun h=>by simp at h,fun _=>⟨g,0,rfl,(Array.getElem?_eq_some_iff.1 hg).1,fun i hi=>by
    obtain rfl:i=0:=by omega
    exact blkC hg 0 rfl⟩⟩
theorem pw_step {e k:Int} {l:Nat} (h:-4194304<=e) (hk:k=e+l):pw k=pw e*2^l:=by rw [hk,pw_add h]
set_option maxHeartbeats 1000000 in
theorem rshl_qp (ao:Option Addr) (n ca q p:Nat) (a:Nat->Int) (w:World) (ha:Row w ao n ca a) (da:Dig a n) (hn:n<=100000) (hq:q<=100000) (hp:p<30) (k:Int) (hk:k=30*q+p) :
    Calls Tryz.prog 148 #[.slice ao n ca,.int .i64 k] w fun e w'=>∃ v,e=.returned v∧Ans w w' (P q*(2^p*val a n)) v:=by
  have hla:=ha.le
  have hma:=ha.max
  have e1:k/30=q:=by omega
  have e2:k % 30=p:=by omega
  have hk0:0<=k:=by omega
  clear hk
  have hu:=two_pos p
  have hu2:(2:Int)^p<=2^29:=two_le (by omega)
  by_cases hn0:n=0
  . subst hn0
    have H0:Hid (P q*(2^p*val a 0)=0):=by show _=_; simp [val]
    go_enter Tryz.func148,Tryz.ntmps148
    go_wp2
    go_ret
    exact ⟨_,rfl,by rw [H0.out]; exact Ans.nil (bel_refl _)⟩
  . have en:((n:Int) == 0)=false:=by simp; omega
    go_enter Tryz.func148,Tryz.ntmps148
    go_wp2_with (at_make; refine wpList_mk rfl _ _ rfl _ _ q rfl rfl (by omega) (by omega) (by omega) ?_; intro w1 hB1 hb1)
    rw [e2]
    go_loopw [5,7,8] (fun l c i wr=>∃ (k:Nat) (c':Int) (r:Nat->Int),k<=n∧i=.int .i64 k∧c=.int .i64 c'∧0<=c'∧c'<2^p∧Out w.heap.size wr l (q+k) r∧Dig r (q+k)∧Hid (∀ i,i<q->r i=0)∧Hid (val (fun i=>r (q+i)) k+c'*P k=2^p*val a k)∧Below w.heap.size w wr) (fun _ _ i _=>n-(intOf i).toNat)
    case atStart=>exact ⟨0,0,fun _=>0,Nat.zero_le _,rfl,rfl,by omega,hu,hB1.out (Nat.le_refl _) (Nat.le_refl _) (by omega),zero_dig _,fun _ _=>rfl,by show _=_; show (0:Int)+0*1=2^p*0; omega,hb1⟩
    case round=>
      obtain ⟨k,c,r,hk,rfl,rfl,hc0,hc1,hO,hD,HZ,HV,hbw⟩:=hrel
      by_cases hlt:k<n
      . obtain ⟨ba,fa,rfl,hba,hca⟩:=ha.spot (by omega)
        have c1:=(hbw.cell (p:=⟨ba,fa+k,none⟩) hba).trans (hca k hlt)
        have dk:=da k hlt
        obtain ⟨s0,s1,s2⟩:=shl_dig dk (show p<=30 by omega)
        have hc2:(a k*2^p+c)/1073741824<2^p:=by omega
        go_wp2_with (at_builtin; refine wpList_app rfl _ _ rfl w.heap.size _ (q+k) r rfl (hO.stays (bel_alloc _ _)) _ 1 1 (fun _=>(a k*2^p+c) % 1073741824) rfl (row1 _ _ rfl) (by omega) (by have:=hbw.size; simp; omega) ?_; intro v' w1 hO1 hg1)
        have hb1:Below w.heap.size w w1:=(hbw.alloc hbw.size _).grown hg1 (by have:=hbw.size; simp; omega) (own_ge hO)
        have hs:=sum_step (x:=a k*2^p) HV.out
        rw [Int.add_comm c] at hs
        go_roundw
        case rel=>exact ⟨k+1,(a k*2^p+c)/1073741824,upd r (q+k) ((a k*2^p+c) % 1073741824),by omega,by go_num,rfl,by omega,hc2,hO1.congr (cat_upd r (q+k) _),dig_upd2 hD (mod_dig _),fun i hi=>by rw [upd_other r _ (by omega)]; exact HZ.out i hi,by show _=_; rw [upd_shift,hs,val_succ]; grind,hb1⟩
        case measure=>simp [intOf]; omega
      . obtain rfl:k=n:=by omega
        go_wp2_with (at_builtin; refine wpList_app rfl _ _ rfl w.heap.size _ (q+k) r rfl (hO.stays (bel_alloc _ _)) _ 1 1 (fun _=>c) rfl (row1 _ _ rfl) (by omega) (by have:=hbw.size; simp; omega) ?_; intro v' w1 hO1 hg1)
        have hb1:Below w.heap.size w w1:=(hbw.alloc hbw.size _).grown hg1 (by have:=hbw.size; simp; omega) (own_ge hO)
        have D2:Dig (upd r (q+k) c) (q+k+1):=dig_upd2 hD ⟨hc0,by omega⟩
        refine (rtrim_ans (hO1.congr (cat_upd r (q+k) c)) D2 hb1).mono ?_
        rintro e w3 ⟨v',rfl,hA,rfl⟩
        go_wp2
        go_ret
        refine ⟨_,rfl,?_⟩
        rw [Nat.add_assoc,val_shift0 _ _ _ (fun i hi=>by rw [upd_other r _ (by omega)]; exact HZ.out i hi),upd_shift,val_succ,upd_same,val_upd_ge _ _ (Nat.le_refl _),HV.out] at hA
        exact hA
theorem rshl_any (ao:Option Addr) (n ca k:Nat) (a:Nat->Int) (w:World) (ha:Row w ao n ca a) (da:Dig a n) (hn:n<=100000) (hk:k<=2000000) :
    Calls Tryz.prog 148 #[.slice ao n ca,.int .i64 k] w fun e w'=>∃ v,e=.returned v∧Ans w w' (val a n*2^k) v:=by
  refine (rshl_qp ao n ca (k/30) (k % 30) a w ha da hn (by omega) (by omega) k (by omega)).mono ?_
  rintro e w' ⟨v,he,h⟩
  refine ⟨v,he,?_⟩
  rw [two_split k]
  rwa [show val a n*(P (k/30)*2^(k % 30))=P (k/30)*(2^(k % 30)*val a n) by grind]
set_option maxRecDepth 100000 in
set_option maxHeartbeats 1000000 in
theorem rshr_qp (ao:Option Addr) (n ca q p:Nat) (a:Nat->Int) (w:World) (ha:Row w ao n ca a) (da:Dig a n) (hn:n<=100000) (hp:p<30) (k:Int) (hk:k=30*q+p) (hkm:k<=4000000) :
    Calls Tryz.prog 147 #[.slice ao n ca,.int .i64 k] w fun e w'=>∃ v,e=.returned v∧Ans w w' (val a n/P q/2^p) v:=by
  have hla:=ha.le
  have hma:=ha.max
  have e1:k/30=q:=by omega
  have e2:k % 30=p:=by omega
  have hk0:0<=k:=by omega
  have hq1:q<=200000:=by omega
  clear hk
  have hu:=two_pos p
  have hu2:(2:Int)^p<=2^29:=two_le (by omega)
  have huv:(2:Int)^p*2^(30-p)=1073741824:=by rw [<- Int.pow_add,show p+(30-p)=30 by omega]; rfl
  have HU:Hid ((2:Int)^p*2^(30-p)=1073741824):=huv
  have hdv:(1073741824:Int)/2^p=2^(30-p):=by rw [<- huv]; exact Int.mul_ediv_cancel_left _ (by omega)
  have hz:((2:Int)^p == 0)=false:=by simp; omega
  clear huv
  by_cases hqn:n<=q
  . have H0:Hid (val a n/P q/2^p=0):=by
      show _=_
      rw [Int.ediv_eq_zero_of_lt (val_nonneg da) (by have:=val_lt da; have:=P_le hqn; omega)]; exact Int.zero_ediv _
    go_enter Tryz.func147,Tryz.ntmps147
    go_wp2
    go_ret
    exact ⟨_,rfl,by rw [H0.out]; exact Ans.nil (bel_refl _)⟩
  . obtain ⟨ba,fa,rfl,hba,hca⟩:=ha.spot (by omega)
    obtain ⟨N,hN⟩:∃ N,n=q+N:=⟨n-q,by omega⟩
    have HN:Hid (n=q+N):=hN
    have hn1:q+N<=n:=by omega
    have hn2:n<=q+N:=by omega
    have hN0:0<N:=by omega
    clear hN
    go_enter Tryz.func147,Tryz.ntmps147
    go_wp2
    rw [e1,e2]
    go_loopw [5,7] (fun l i wr=>∃ (k:Nat) (r:Nat->Int),k<=N∧i=.int .i64 ((q:Int)+k)∧Out w.heap.size wr l k r∧Hid (∀ i,i<k->r i=low (fun j=>ext a n (q+j)) (2^p) (2^(30-p)) i)∧Below w.heap.size w wr) (fun _ i _=>n-(intOf i).toNat)
    case atStart=>exact ⟨0,fun _=>0,Nat.zero_le _,by simp,Out.nil _ _ _,fun i hi=>by omega,bel_refl _⟩
    case round=>
      obtain ⟨k,r,hk,rfl,hO,HV,hbw⟩:=hrel
      by_cases hlt:k<N
      . have c1:=(hbw.cell (p:=⟨ba,fa+(q+k),none⟩) hba).trans (hca (q+k) (by omega))
        have dx:=da (q+k) (by omega)
        by_cases hl2:q+k+1<n
        . have dy:=da (q+k+1) (by omega)
          obtain ⟨s0,s1,s2,s3,s4⟩:=shr_part dx dy hp
          have s5:0<=a (q+k+1) % 2^p*2^(30-p):=Int.mul_nonneg s3 (Int.le_of_lt (two_pos _))
          have s6:(2:Int)^(30-p)<=2^30:=two_le (by omega)
          have c2:=(hbw.cell (p:=⟨ba,fa+(q+k+1),none⟩) hba).trans (hca (q+k+1) (by omega))
          clear s2
          go_wp2
          go_quiet (fail)
          go_wp2_with (at_builtin; refine wpList_app rfl _ _ rfl w.heap.size _ k r rfl ((hO.stays (bDrewN (bel_refl _) _)).stays (bel_alloc _ _)) _ 1 1 (fun _=>(a (q+k)/2^p+a (q+k+1) % 2^p*2^(30-p))) rfl (row1 _ _ rfl) (by omega) (by have:=hbw.size; simp [World.drewN]; omega) ?_; intro v' w1 hO1 hg1)
          have hb1:Below w.heap.size w w1:=((bDrewN hbw _).alloc hbw.size _).grown hg1 (by have:=hbw.size; simp [World.drewN]; omega) (own_ge hO)
          go_roundw
          case rel=>exact ⟨k+1,upd r k (a (q+k)/2^p+a (q+k+1) % 2^p*2^(30-p)),by omega,by go_num,hO1.congr (cat_upd r k _),fun i hi=>by
              by_cases e:i=k
              . rw [e,upd_same]
                show _=ext a n (q+k)/2^p+ext a n (q+(k+1)) % 2^p*2^(30-p)
                rw [ext_lt a (by omega),ext_lt a (by omega),Nat.add_assoc]
              . rw [upd_other _ _ e]; exact HV.out i (by omega),hb1⟩
          case measure=>simp [intOf]; omega
        . obtain ⟨s0,s1,_,_,_⟩:=shr_part dx dx hp
          have s6:(2:Int)^(30-p)<=2^30:=two_le (by omega)
          go_wp2_with (at_builtin; refine wpList_app rfl _ _ rfl w.heap.size _ k r rfl (hO.stays (bel_alloc _ _)) _ 1 1 (fun _=>(a (q+k)/2^p)) rfl (row1 _ _ rfl) (by omega) (by have:=hbw.size; simp; omega) ?_; intro v' w1 hO1 hg1)
          have hb1:Below w.heap.size w w1:=(hbw.alloc hbw.size _).grown hg1 (by have:=hbw.size; simp; omega) (own_ge hO)
          go_roundw
          case rel=>exact ⟨k+1,upd r k (a (q+k)/2^p),by omega,by go_num,hO1.congr (cat_upd r k _),fun i hi=>by
              by_cases e:i=k
              . rw [e,upd_same,low_last (s:=fun j=>ext a n (q+j)) (ext_ge a (by omega)),ext_lt a (by omega)]
              . rw [upd_other r _ e]; exact HV.out i (by omega),hb1⟩
          case measure=>simp [intOf]; omega
      . obtain rfl:k=N:=by omega
        have DS:Dig (fun j=>ext a n (q+j)) (k+1):=fun i hi=>ext_dig da (q+k+1) (q+i) (by omega)
        have D2:Dig r k:=(low_dig hu HU.out DS).congr fun i hi=>(HV.out i hi).symm
        have HD2:Hid (Dig r k):=D2
        clear D2 DS
        go_wp2_with fail
        refine (rtrim_ans hO HD2.out hbw).mono ?_
        rintro e w3 ⟨v',rfl,hA,rfl⟩
        go_wp2
        go_ret
        refine ⟨_,rfl,?_⟩
        rw [val_congr HV.out,low_eq (s:=fun j=>ext a n (q+j)) hu HU.out (ext_ge a (by omega))] at hA
        have e3:=val_drop a (show q<=n by omega) da
        rw [<- e3,show n-q=k by omega]
        rw [show val (fun j=>ext a n (q+j)) k=val (fun i=>a (q+i)) k from val_congr fun i hi=>ext_lt a (by omega)] at hA
        exact hA
theorem rshr_any (ao:Option Addr) (n ca k:Nat) (a:Nat->Int) (w:World) (ha:Row w ao n ca a) (da:Dig a n) (hn:n<=100000) (hk:k<=4000000) :
    Calls Tryz.prog 147 #[.slice ao n ca,.int .i64 k] w fun e w'=>∃ v,e=.returned v∧Ans w w' (val a n/2^k) v:=by
  refine (rshr_qp ao n ca (k/30) (k % 30) a w ha da hn (by omega) k (by omega) (by omega)).mono ?_
  rintro e w' ⟨v,he,h⟩
  refine ⟨v,he,?_⟩
  rw [two_split k,<- Int.ediv_ediv_of_nonneg (Int.le_of_lt (P_pos _))]
  exact h
theorem Out.of_block {B:Nat} {w w':World} {x:Value} {n:Nat} {d:Nat->Int} (h:Out B w x n d) (hb:∀ g,x.ownBlock=some g->w'.heap[g]?=w.heap[g]?):Out B w' x n d:=by
  refine ⟨h.1,?_⟩
  rcases h.2 with hn | ⟨g,cap,cur,rfl,hbb,hg,rest⟩
  . exact .inl hn
  . exact .inr ⟨g,cap,cur,rfl,hbb,(hb g rfl).trans hg,rest⟩
theorem Out.typed {B:Nat} {w:World} {x:Value} {n:Nat} {d:Nat->Int} (h:Out B w x n d) {g:Nat} (hg:x.ownBlock=some g):∃ cur z,w.heap[g]?=some (.cells cur 3 z):=by
  rcases h.2 with ⟨rfl,_⟩ | ⟨g',cap,cur,rfl,hbb,hg',rest⟩
  . simp [Value.ownBlock] at hg
  . simp only [Value.ownBlock,Option.some.injEq] at hg; subst hg; exact ⟨cur,_,hg'⟩
theorem Out.ge {B:Nat} {w:World} {x:Value} {n:Nat} {v:Nat->Int} (h:Out B w x n v) {g:Nat} (hg:x.ownBlock=some g):B<=g∧g<w.heap.size:=by
  rcases h.2 with ⟨rfl,_⟩ | ⟨g',cap,cur,rfl,hbb,hg',rest⟩
  . simp [Value.ownBlock] at hg
  . simp only [Value.ownBlock,Option.some.injEq] at hg; subst hg; exact ⟨hbb,(Array.getElem?_eq_some_iff.1 hg').1⟩
theorem run_app {w:World} (ty:TypeId) (B:Nat) (v:Value) (n:Nat) (d:Nat->Int) (hO:Out B w v n d) (bo:Option Addr) (m cb:Nat) (e:Nat->Int) (hR:Row w bo m cb e) (hlen:n+m<=1000000) (hB:B<=w.heap.size) :
    ∃ v' w',(Builtin.append_ #[32,32] ty #[v,.slice bo m cb]).run Tryz.prog w=.ok v' w'∧Out B w' v' (n+m) (cat d n e)∧w.grownBy w' v.ownBlock∧(v'.ownBlock=v.ownBlock∨v'.ownBlock=some w.heap.size):=by
  obtain ⟨i0,hi,hz0,hz1,hz2⟩:=info_parts info_int
  cases bo with
  | none=>
    have hc:=hR.nl rfl
    have hl:=hR.le
    subst hc
    obtain rfl:m=0:=by omega
    have hr:=run_append_owned_none (P:=Tryz.prog) w B 32 ty 3 i0 1 Tryz.underlying32 hi v n (vals d n) hO
    exact ⟨v,w,hr,hO.congr fun i hi=>by simp [cat]; omega,⟨rfl,rfl,rfl,Nat.le_refl _,fun _ _ _=>rfl⟩,.inl rfl⟩
  | some ad=>
    obtain ⟨v',w',hr,h2,h3,_,h5⟩:=run_append_own_at (P:=Tryz.prog) w B 32 ty 3 i0 (.int .i64 0) 1 8 Tryz.underlying32 hi hz0 hz1 hz2 rfl (by decide) v n (vals d n) hO ad m cb (vals e m) (by rw [vals_length]; omega)
      (fun j u hu=>by
        have hj:j<m:=by have:=(List.getElem?_eq_some_iff.1 hu).1; rwa [vals_length] at this
        obtain ⟨b,off,hb,_,hc⟩:=hR.spot (by omega)
        obtain rfl:=Option.some.inj hb
        rw [vals_get e hj] at hu
        rw [add_none,hc j hj]; exact hu) (vals_one e m) (by unfold maxLen; omega) (by omega) hB
    rw [vals_cat] at h2
    exact ⟨v',w',hr,h2,h3,h5⟩
def An (B:Nat) (w:World) (v:Value) (V:Int):Prop:=∃ t d,Out B w v t d∧Nrm d t∧val d t=V
theorem An.keeps {B:Nat} {w w':World} {v:Value} {V:Int} (h:An B w v V) (k:Below w.heap.size w w'):An B w' v V:=by
  obtain ⟨t,d,h1,h2⟩:=h
  exact ⟨t,d,h1.stays k,h2⟩
theorem An.lower {B B':Nat} {w:World} {v:Value} {V:Int} (h:An B w v V) (hB:B'<=B):An B' w v V:=by
  obtain ⟨t,d,h1,h2⟩:=h
  exact ⟨t,d,h1.lower hB,h2⟩
theorem Ans.an {w w':World} {V:Int} {v:Value} (h:Ans w w' V v):An w.heap.size w' v V:=by
  obtain ⟨t,d,h1,h2,h3,h4⟩:=h
  exact ⟨t,d,h1,h2,h3⟩
theorem An.shape {B:Nat} {w:World} {v:Value} {V:Int} (h:An B w v V):∃ ao n cap,v=.slice ao n cap:=by
  obtain ⟨t,d,h1,h2⟩:=h
  obtain ⟨ao,cap,e,_⟩:=h1.row
  exact ⟨ao,t,cap,e⟩
theorem An.num {B:Nat} {w:World} {v:Value} {V:Int} (h:An B w v V):Num w v V:=by
  obtain ⟨t,d,h1,h2,h3⟩:=h
  obtain ⟨ao,cap,rfl,hR⟩:=h1.row
  exact ⟨ao,t,cap,d,rfl,hR,h2,h3⟩
set_option maxHeartbeats 400000 in
theorem rlow_any (ao:Option Addr) (n cap:Nat) (d:Nat->Int) (w:World) (h:Row w ao n cap d) (hd:Dig d n) (hn:n<=100000) :
    Calls Tryz.prog 146 #[.slice ao n cap] w fun e w'=>∃ l,e=.returned (.int .i64 l)∧LowA (val d n) l∧w'=w:=by
  have hl:=h.le
  have hm:=h.max
  go_enter Tryz.func146,Tryz.ntmps146
  go_wp2
  go_loop [3] (fun i=>∃ k:Nat,k<=n∧i=.int .i64 k∧Hid (∀ j,j<k->d j=0)) (fun i=>n-(intOf i).toNat)
  case atStart=>exact ⟨0,Nat.zero_le _,rfl,fun j hj=>by omega⟩
  case round=>
    obtain ⟨k,hk,rfl,HZ⟩:=hrel
    by_cases hlt:k<n
    . obtain ⟨b,off,rfl,hb,hc⟩:=h.spot (by omega)
      have c:=hc k hlt
      have dk:=hd k hlt
      by_cases h0:d k=0
      . have e0:(d k != 0)=false:=by simp [h0]
        go_wp2
        go_round
        case rel=>exact ⟨k+1,by omega,by go_num,fun j hj=>by by_cases e:j=k; (· rw [e]; exact h0); (· exact HZ.out j (by omega))⟩
        case measure=>simp [intOf]; omega
      . have e0:(d k != 0)=true:=by simp [h0]
        have hpos:0<d k:=by omega
        go_wp2
        go_loop [4,5] (fun s v=>∃ (x:Int) (t:Nat),s=.int .i64 ((30*k+t:Nat):Int)∧v=.int .i64 x∧0<x∧x<1073741824∧t<=30∧Hid (x*2^t=d k)) (fun _ v=>(intOf v).toNat)
        case atStart=>exact ⟨d k,0,by go_num,rfl,hpos,dk.2,by omega,by show _=_; simp⟩
        case round=>
          obtain ⟨x,t,rfl,rfl,hx0,hx1,ht,HT⟩:=hrel
          by_cases he:x % 2=0
          . have ee:(x % 2 == 0)=true:=by simp [he]
            have HT2:Hid (x/2*2^(t+1)=d k):=by
              show _=_
              rw [Int.pow_succ,Int.mul_comm (2^t) 2,<- Int.mul_assoc,show x/2*2=x by omega]; exact HT.out
            have ht2:t+1<=30:=by
              have h1:1*2^(t+1)<=x/2*2^(t+1):=Int.mul_le_mul_of_nonneg_right (by omega) (Int.le_of_lt (two_pos _))
              rw [HT2.out] at h1
              have h2:(2:Int)^(t+1)<2^30:=by have:(2:Int)^30=1073741824:=rfl; omega
              have:=two_lt_iff h2
              omega
            go_wp2
            go_round
            case rel=>exact ⟨x/2,t+1,by go_num,rfl,by omega,by omega,ht2,HT2.out⟩
            case measure=>simp [intOf]; omega
          . have ee:(x % 2 == 0)=false:=by simp [he]
            have HL:Hid (IsLow (d k) t):=⟨x/2,by rw [show 2*(x/2)+1=x by omega]; exact HT.out.symm⟩
            go_wp2
            go_ret
            exact ⟨_,rfl,.inr ⟨30*k+t,rfl,isLow_val hlt HZ.out HL.out (low_lt hpos dk.2 HL.out)⟩,rfl⟩
    . obtain rfl:k=n:=by omega
      go_wp2
      go_ret
      exact ⟨_,rfl,.inl ⟨by rw [val_zeros (Nat.zero_le _) (fun i _ hi=>HZ.out i hi)]; rfl,rfl⟩,rfl⟩
set_option maxRecDepth 100000 in
set_option maxHeartbeats 1000000 in
theorem rnorm_any (ng:Bool) (ao:Option Addr) (n cap:Nat) (d:Nat->Int) (e:Int) (w:World) (h:Row w ao n cap d) (hd:Dig d n) (hn:n<=40000) (he0:-4194304<=e) (he1:e<=4194304) :
    Calls Tryz.prog 106 #[.bool ng,.slice ao n cap,.int .i64 e] w fun r w'=>∃ v,r=.returned v∧DAns w w' (sg ng (val d n)*pw e) v:=by
  by_cases h0:val d n=0
  . rw [h0,sg_zero,Int.zero_mul]
    go_enter Tryz.func106,Tryz.ntmps106
    go_wp2_with fail
    refine (rlow_any _ _ _ _ _ (h.keeps (bel_alloc _ _)) hd (by omega)).mono ?_
    rintro r w1 ⟨l,rfl,hl,rfl⟩
    have hl1:l=-1:=by
      rcases hl with ⟨_,h1⟩ | ⟨k,_,m,hm⟩
      . exact h1
      . exfalso
        rw [h0] at hm
        rcases Int.mul_eq_zero.1 hm.symm with x | x
        . omega
        . have:=two_pos k; omega
    subst hl1
    go_wp2
    refine bodyPost_ret (v:=zeroV) (by simp [results,Tryz.results106,go_sem,zeroV]) rfl ⟨_,rfl,?_⟩
    exact DAns.zero (bel_alloc _ _)
  . have hp:0<val d n:=by have:=val_nonneg hd; omega
    go_enter Tryz.func106,Tryz.ntmps106
    go_wp2_with fail
    refine (rlow_any _ _ _ _ _ (h.keeps (bel_alloc _ _)) hd (by omega)).mono ?_
    rintro r w1 ⟨l,rfl,hl,rfl⟩
    have hl2:∃ k:Nat,l=k∧IsLow (val d n) k:=by
      rcases hl with ⟨h1,_⟩ | h1
      . omega
      . exact h1
    obtain ⟨k,rfl,hk⟩:=hl2
    have hkn:k<30*n:=by
      have h1:=val_lt hd
      rw [P_two] at h1
      obtain ⟨a,b,c⟩:=isLow_odd hk hp
      have h2:(1:Int)*2^k<=val d n/2^k*2^k:=Int.mul_le_mul_of_nonneg_right (by omega) (Int.le_of_lt (two_pos k))
      exact two_lt_iff (by omega)
    have hy:=Dy.of ng hk hp he0
    have HY:Hid (Dy (sg ng (val d n)*pw e) ng (val d n/2^k) (e+k)):=hy
    clear hy hl hk
    go_wp2_with fail
    refine (rshr_any _ _ _ k d _ (h.keeps (bel_alloc _ _)) hd (by omega) (by omega)).mono ?_
    rintro r w2 ⟨v,rfl,hA⟩
    obtain ⟨so,sn,sc,rfl⟩:=hA.num.shape
    have q0:=(hA.below.block w.heap.size (by rw [size1]; omega)).trans (heap_a1 _ _)
    have x0:=blkC q0 0 rfl
    have x1:=blkC q0 1 rfl
    have x2:=blkC q0 2 rfl
    have z0:=blkF q0 0
    have z1:=blkF q0 1
    have z2:=blkF q0 2
    go_wp2
    refine bodyPost_ret (v:=.agg #[.bool ng,.slice so sn sc,.int .i64 (e+k)]) (by simp [results,Tryz.results106,go_sem,x0,x1,x2]) rfl ⟨_,rfl,?_⟩
    exact ⟨_,_,_,_,rfl,HY.out,ans_res (g:=w.heap.size) hA (bel_alloc _ _) (Nat.le_refl _) (by rw [size1]; omega) _ _ _⟩
def Bd (B:Nat) (V:Int):Prop:=∃ m:Int,V=m*pw (-(B:Int))∧-(2^(2*B))<m∧m<2^(2*B)
theorem Bd.ok {B:Nat} {V:Int} (h:Bd B V) (hB:B<=29000):Dok V:=by
  obtain ⟨m,rfl,h1,h2⟩:=h
  by_cases h0:m=0
  . rw [h0,Int.zero_mul]; exact dok_zero
  . have key:∀ (ng:Bool) (M:Int),0<M->M<2^(2*B)->Dok (sg ng M*pw (-(B:Int))):=fun ng M hM hlt=>by
      obtain ⟨l,hl⟩:=isLow_ex hM
      have hy:=Dy.of ng hl hM (show -4194304 <= -(B:Int) by omega)
      obtain ⟨c1,c2,c3⟩:=isLow_odd hl hM
      have hl2:l<2*B:=by
        have h3:(1:Int)*2^l<=M/2^l*2^l:=Int.mul_le_mul_of_nonneg_right (by omega) (Int.le_of_lt (two_pos l))
        rw [c3] at h3
        exact two_lt_iff (by omega)
      refine hy.ok.2 ⟨?_,by omega,by omega⟩
      have h4:M/2^l<=M:=Int.ediv_le_self _ (by omega)
      have h5:(2:Int)^(2*B)<=2^(30*2000):=two_le (by omega)
      rw [P_two]
      omega
    by_cases hp:0<m
    . exact key false m hp h2
    . have:=key true (-m) (by omega) (by omega)
      rwa [show sg true (-m)=m by simp [sg]] at this
theorem Bd.up {B C:Nat} {V:Int} (h:Bd B V) (hBC:B<=C) (hC:C<=4194304):Bd C V:=by
  obtain ⟨m,rfl,h1,h2⟩:=h
  have hp:=two_pos (C-B)
  have e:pw (-(B:Int))=pw (-(C:Int))*2^(C-B):=by
    rw [<- pw_add (by omega)]; congr 1; omega
  have hle:(2:Int)^(2*B)*2^(C-B)<=2^(2*C):=by rw [<- Int.pow_add]; exact two_le (by omega)
  refine ⟨m*2^(C-B),by rw [e]; grind,?_,?_⟩
  . have:-(2^(2*B))*2^(C-B)<m*2^(C-B):=Int.mul_lt_mul_of_pos_right h1 hp
    rw [Int.neg_mul] at this
    omega
  . have:=Int.mul_lt_mul_of_pos_right h2 hp
    omega
theorem Bd.add {B:Nat} {V W:Int} (h:Bd B V) (k:Bd B W) (hB:B<4194304):Bd (B+1) (V+W):=by
  obtain ⟨m,rfl,h1,h2⟩:=h
  obtain ⟨n,rfl,k1,k2⟩:=k
  have e:pw (-(B:Int))=pw (-((B+1:Nat):Int))*2:=by
    have:=pw_add (e:=-((B+1:Nat):Int)) (by omega) 1
    rw [Int.pow_succ,Int.pow_zero,Int.one_mul] at this
    rw [<- this]; congr 1; omega
  have e2:(2:Int)^(2*(B+1))=2^(2*B)*4:=by rw [show 2*(B+1)=2*B+2 by omega,Int.pow_add]; rfl
  refine ⟨2*(m+n),by rw [e]; grind,?_,?_⟩ <;> rw [e2] <;> omega
theorem Bd.neg {B:Nat} {V:Int} (h:Bd B V):Bd B (-V):=by
  obtain ⟨m,rfl,h1,h2⟩:=h
  exact ⟨-m,by rw [Int.neg_mul],by omega,by omega⟩
theorem Bd.mul {B:Nat} {V W U:Int} (h:Bd B V) (k:Bd B W) (hU:U*2^4194304=V*W) (hB:B<=1000000):Bd (2*B) U:=by
  obtain ⟨m,rfl,h1,h2⟩:=h
  obtain ⟨n,rfl,k1,k2⟩:=k
  have e:U=m*n*pw (-((2*B:Nat):Int)):=by
    refine scale_inj ?_
    rw [hU,Int.mul_assoc (m*n),show -((2*B:Nat):Int)=-(B:Int) + -(B:Int) by omega,<- pw_mul (by omega) (by omega)]; grind
  refine ⟨m*n,e,?_,?_⟩
  all_goals
    have hab:(m*n).natAbs<((2:Int)^(2*(2*B))).natAbs:=by
      rw [Int.natAbs_mul,show 2*(2*B)=2*B+2*B by omega,Int.pow_add,Int.natAbs_mul]
      exact Nat.mul_lt_mul'' (by have:=two_pos (2*B); omega) (by have:=two_pos (2*B); omega)
    have:=two_pos (2*(2*B))
    omega
theorem bd_num {ng:Bool} {M e:Int} (h0:0<=M) (h1:M<P 30) (e0:-3000<e) (e1:e<3000):Bd 4000 (sg ng M*pw e):=by
  have hs:pw e=pw (-((4000:Nat):Int))*2^(e+4000).toNat:=by
    rw [<- pw_add (by omega)]; congr 1; omega
  have hp:=two_pos (e+4000).toNat
  have hlt:M*2^(e+4000).toNat<2^(2*4000):=by
    have a:M*2^(e+4000).toNat<P 30*2^(e+4000).toNat:=Int.mul_lt_mul_of_pos_right h1 hp
    rw [P_two,<- Int.pow_add] at a
    have b:(2:Int)^(30*30+(e+4000).toNat)<=2^(2*4000):=two_le (by omega)
    omega
  have hn:0<=M*2^(e+4000).toNat:=Int.mul_nonneg h0 (Int.le_of_lt hp)
  refine ⟨sg ng (M*2^(e+4000).toNat),by rw [hs,sg_sgn,sg_sgn]; grind,?_,?_⟩
  all_goals
    generalize M*2^(e+4000).toNat=X at *
    generalize (2:Int)^(2*4000)=T at *
    cases ng <;> simp only [sg] <;> simp <;> omega
end Go.Proofs.YtmmnoneehiibiaaGreatDoor
namespace Go.Proofs.YtmmnoneehiibiaaGreatDoor
open Go Go.ChangeShapes Go.WideShapes Go.ChangeAt Go.RowKit Go.Proofs.YtmmnoneehiibiaaGreatDoor.M
theorem rng_of {x:Int} (h:(Lit.int .i64 x).wf=true):rng x:=by
  simp [Lit.wf,IntKind.min,IntKind.max,IntKind.signed,IntKind.bits] at h
  unfold rng; omega
end Go.Proofs.YtmmnoneehiibiaaGreatDoor
namespace Go.Proofs.YtmmnoneehiibiaaGreatDoor
open Go Go.RowKit Go.ChangeShapes Go.Proofs.YtmmnoneehiibiaaGreatDoor.M
theorem gTab : Tryz.prog.globalNamed "math/bits.deBruijn64tab" = some 3 := by kernel_rfl
theorem gTabType:(Tryz.prog.globals[(3:Nat)]?).map (·.type)=some 195:=by kernel_rfl
theorem cellsTab:Tryz.prog.cellsOf 195=64:=by kernel_rfl
theorem cellsByte:Tryz.prog.cellsOf 5=1:=by kernel_rfl
def tabInts:List Int:=Lib.deBruijn64tab.map Int.ofNat
theorem tab_get:∀ j,j<64->tabInts.getD j 0=((Lib.deBruijn64tab.getD j 0:Nat):Int):=by decide +kernel
theorem cellsInt:Tryz.prog.cellsOf 3=1:=by kernel_rfl
theorem cellsLayout:Tryz.prog.cellsOf 158=3:=by kernel_rfl
theorem g64 : Tryz.prog.globalNamed "plumb/bits.binary64" = some 1 := by kernel_rfl
theorem g64Type:(Tryz.prog.globals[(1:Nat)]?).map (·.type)=some 158:=by kernel_rfl
set_option maxRecDepth 100000 in
theorem three {W:World} {name:String} {g:Nat} {a b c:Int} {rest:List (String × DataW Unit)} (hg:Tryz.prog.globalNamed name=some g) (hty:(Tryz.prog.globals[g]?).map (·.type)=some 158)
    (h:laidMet Tryz.prog ((name,.agg [.lit (.int .i64 a),.lit (.int .i64 b),.lit (.int .i64 c)]) :: rest) W) :
    W.cell? ⟨g,0,none⟩=some (.int .i64 a)∧W.cell? ⟨g,1,none⟩=some (.int .i64 b)∧W.cell? ⟨g,2,none⟩=some (.int .i64 c):=by
  obtain ⟨ps,⟨g',t',cs,fuel,p,q,hg',ht',hvar,hd,_,_⟩,_⟩:=h
  obtain rfl:=Option.some.inj (hg.symm.trans hg')
  obtain rfl:=Option.some.inj (hty.symm.trans ht')
  obtain ⟨y0,y1,y2,n,hx,hl,h0,h1,h2⟩:=Go.Deep.trod_struct3 Tryz.underlying158 hd
  obtain ⟨k0,e0,f0,_⟩:=DataW.trod_int Tryz.underlying3 h0
  obtain ⟨k1,e1,f1,_⟩:=DataW.trod_int Tryz.underlying3 h1
  obtain ⟨k2,e2,f2,_⟩:=DataW.trod_int Tryz.underlying3 h2
  rw [f0,f1,f2] at hx
  simp only [Prod.mk.injEq,DataW.agg.injEq,List.cons.injEq,DataW.lit.injEq,Lit.int.injEq,true_and,and_true] at hx
  obtain ⟨⟨rfl,rfl,rfl⟩,_⟩:=hx
  rw [cellsLayout] at hl
  rw [cellsInt] at e0 e1 e2
  have v:=fun i=>World.var?_cell hg hvar i
  obtain ⟨l⟩:=cs
  simp only at hl e0 e1 e2
  match l,hl with
  | [c0,c1,c2],_=>
    simp at e0 e1 e2
    subst e0 e1 e2
    exact ⟨by simpa using v 0,by simpa using v 1,by simpa using v 2⟩
end Go.Proofs.YtmmnoneehiibiaaGreatDoor
namespace Go.Proofs.YtmmnoneehiibiaaGreatDoor
open Go Go.ChangeShapes Go.WideShapes Go.ChangeAt Go.RowKit Go.Proofs.YtmmnoneehiibiaaGreatDoor.M
structure Hold (w:World):Prop where
  lay:Lay64 w
  tab:Tab w
theorem hold_of {W : World} (h : laidMetH Tryz.prog [("math/bits.deBruijn32tab", Rows.laid_math_bits_deBruijn32tab), ("math/bits.deBruijn64tab", Rows.laid_math_bits_deBruijn64tab), ("plumb/bits.binary64", Rows.laid_plumb_bits_binary64)] W) : Hold W := by
  rw [MakeChecks.laidMetH_plain _ _ _ (by kernel_rfl)] at h
  have h' : laidMet Tryz.prog (("math/bits.deBruijn64tab", Lib.tabData .u8 tabInts) :: [("plumb/bits.binary64", Rows.laid_plumb_bits_binary64)]) W := h.tail
  have t:=Lib.tabIs_of_head gTab gTabType Tryz.underlying195 Tryz.underlying5 cellsByte cellsTab h'
  obtain ⟨a0,a1,a2⟩:=three g64 g64Type h'.tail
  refine ⟨⟨a0,a1,a2⟩,fun j hj=>?_⟩
  rw [<- tab_get j hj]
  exact t.cell gTab j (by exact hj)
end Go.Proofs.YtmmnoneehiibiaaGreatDoor
namespace Go.Proofs.YtmmnoneehiibiaaGreatDoor
open Go Go.RowKit Go.Proofs.YtmmnoneehiibiaaGreatDoor.M
theorem dans_shape {w w':World} {V:Int} {v:Value} (h:DAns w w' V v):∃ ng so sn sc e,v=.agg #[.bool ng,.slice so sn sc,.int .i64 e]:=by
  obtain ⟨ng,s,m,e,h1,_,hA⟩:=h
  obtain ⟨so,sn,sc,rfl⟩:=hA.num.shape
  exact ⟨_,_,_,_,_,h1⟩
theorem add_B {w:World} {x y:Value} {A B:Int} {k:Nat} (hx:DNum w x A) (hy:DNum w y B) (bA:Bd k A) (bB:Bd k B) (hk:k<=28000) (hT:Tab w) :
    Calls Tryz.prog 52 #[x,y] w fun r w'=>∃ v,r=.returned (.tuple #[v,.int .i64 0])∧DAns w w' (A+B) v:=by
  refine (add_D hx hy (bA.ok (by omega)) (bB.ok (by omega)) hT).mono ?_
  rintro r w' ⟨v,er,rfl,hF⟩
  obtain ⟨rfl,hD⟩:=hF.yes ((bA.add bB (by omega)).ok (by omega))
  exact ⟨v,rfl,hD⟩
theorem sub_B {w:World} {x y:Value} {A B:Int} {k:Nat} (hx:DNum w x A) (hy:DNum w y B) (bA:Bd k A) (bB:Bd k B) (hk:k<=28000) (hT:Tab w) :
    Calls Tryz.prog 53 #[x,y] w fun r w'=>∃ v,r=.returned (.tuple #[v,.int .i64 0])∧DAns w w' (A-B) v:=by
  refine (sub_D hx hy (bA.ok (by omega)) (bB.ok (by omega)) hT).mono ?_
  rintro r w' ⟨v,er,rfl,hF⟩
  have hb:=bA.add bB.neg (by omega)
  rw [<- Int.sub_eq_add_neg] at hb
  obtain ⟨rfl,hD⟩:=hF.yes (hb.ok (by omega))
  exact ⟨v,rfl,hD⟩
theorem mul_B {w:World} {x y:Value} {A B:Int} {k:Nat} (hx:DNum w x A) (hy:DNum w y B) (bA:Bd k A) (bB:Bd k B) (hk:k<=14000) (hT:Tab w) :
    Calls Tryz.prog 54 #[x,y] w fun r w'=>∃ v C,r=.returned (.tuple #[v,.int .i64 0])∧DAns w w' C v∧C*2^4194304=A*B∧Bd (2*k) C:=by
  refine (mul_D hx hy (bA.ok (by omega)) (bB.ok (by omega)) hT).mono ?_
  rintro r w' ⟨v,er,C,rfl,hC,hF⟩
  have hb:=bA.mul bB hC (by omega)
  obtain ⟨rfl,hD⟩:=hF.yes (hb.ok (by omega))
  exact ⟨v,C,rfl,hD,hC,hb⟩
def patV (b:Int):Int:=sg (pneg b) (pmag b)*pw (pexp b)
def ordP (A b:Int):Int:=if pok b=true then ord A (patV b) else if b<0 then 1 else -1
theorem patV_dok {b:Int} (h:pok b=true):Dok (patV b):=by
  obtain ⟨i0,i1,i2,i3⟩:=pmag_in h
  exact dok_small i0 (by omega) i2 i3
end Go.Proofs.YtmmnoneehiibiaaGreatDoor
namespace Go.Proofs.YtmmnoneehiibiaaGreatDoor
open Go Go.Proofs.YtmmnoneehiibiaaGreatDoor.M
def vS (r:Nat):Int:=(V Ieee.double r:Int)*pw (-1074)
theorem vS_lt {r s:Nat} (h:r<s):vS r<vS s:=Int.mul_lt_mul_of_pos_right (by have:=V_lt Ieee.double h; omega) (pw_pos _)
structure Rung (A:Int) (r0:Nat) (left:Int):Prop where
  lo:vS r0<=A
  hi:A<vS (r0+1)
  l0:left=0 ↔ A=vS r0
  l1:left=1 ↔ vS r0<A∧2*A<vS r0+vS (r0+1)
  l2:left=2 ↔ 2*A=vS r0+vS (r0+1)
  l3:left=3 ↔ vS r0+vS (r0+1)<2*A
def rTo (way:Int) (ng:Bool) (r0:Nat) (left:Int):Int:=if (r0:Int)<9218868437227405312 then (r0:Int)+(if rUp way ng (decide (r0 % 2=1)) left then 1 else 0) else bRung way ng
theorem rUp_left {way:Int} {ng odd:Bool} (h:rUp way ng odd 0=true):False:=by
  unfold rUp at h
  split at h
  . simp at h
  . split at h
    . simp at h
    . split at h <;> simp at h
theorem rUp_more {way:Int} {ng odd:Bool} {left:Int} (h:rUp way ng odd left=true):rUp way ng true 3=true:=by
  unfold rUp at *
  split at h
  . rename_i h1; rw [if_pos h1]; rfl
  . rename_i h1
    rw [if_neg h1]
    split at h
    . rename_i h2; rw [if_pos h2]; simp at h; simp [h.2]
    . rename_i h2
      rw [if_neg h2]
      split at h
      . rename_i h3; rw [if_pos h3]; simp at h; simp [h.2]
      . cases h
theorem left_rung {A:Int} {u a r0:Nat} {left:Int} (h:M.Left A u (2^a*pw (-1074)) left) (h1:V Ieee.double r0=u*2^a) (h2:V Ieee.double (r0+1)=(u+1)*2^a):Rung A r0 left:=by
  obtain ⟨lo,hi,l0,l1,l2,l3⟩:=h
  have e1:vS r0=(u:Int)*(2^a*pw (-1074)):=by
    unfold vS
    rw [h1]
    push_cast
    rw [Int.mul_assoc]
  have e2:vS (r0+1)=(u:Int)*(2^a*pw (-1074))+2^a*pw (-1074):=by
    unfold vS
    rw [h2]
    push_cast
    rw [Int.add_mul,Int.add_mul,Int.one_mul,Int.mul_assoc]
  generalize (2:Int)^a*pw (-1074)=q at *
  generalize (u:Int)*q=U at *
  exact ⟨by omega,by omega,by rw [e1]; exact l0,by rw [e1,e2,l1]; constructor <;> intro h <;> omega,by rw [e1,e2,l2]; constructor <;> intro h <;> omega,by rw [e1,e2,l3]; constructor <;> intro h <;> omega⟩
theorem r64_spec {way:Int} {ng sd:Bool} {A:Int} {mag:Nat} {exp:Int} {cut:Bool} (hA:Held A mag exp cut) (hm:mag<2^64) (h0:mag≠0) (he:-4194304<=exp) (hc:cut=true->2^60<=mag) :
    ∃ (r0:Nat) (left:Int),Rung A r0 left∧r64 way ng sd mag exp cut=(patS (ng && (decide (0<rTo way ng r0 left) || sd)) (rTo way ng r0 left),decide (left≠0) || decide (9218868437227405312<=(r0:Int))):=by
  have e64:(2:Nat)^64=18446744073709551616:=by decide
  obtain ⟨b1,b2,b3,b4⟩:=M.bitLen_spec mag hm h0
  have hbits:=rU_bits (size:=53) (low:=-1074) (exp:=exp) (by decide) hm h0
  have hE1:-1074<=rE 53 (-1074) mag exp:=by unfold rE; omega
  have hcs:cut=true->0<rE 53 (-1074) mag exp-exp:=fun h=>by
    have h1:=hc h
    have h2:60<Lib.bitLen mag:=by
      have:=(Nat.pow_lt_pow_iff_right (by decide:1<2)).1 (Nat.lt_of_le_of_lt h1 b2)
      exact this
    unfold rE
    omega
  have hL:=left_of hA hcs (by omega) he
  obtain ⟨E,hE⟩:∃ E,rE 53 (-1074) mag exp=E:=⟨_,rfl⟩
  have HR:r64 way ng sd mag exp cut=(let E:=rE 53 (-1074) mag exp
    let u:=rU mag (E-exp)
    let left:=rL mag cut (E-exp)
    let U:=u+(if rUp way ng (decide (u % 2=1)) left then 1 else 0)
    let neg:=ng && (decide (0<U) || sd)
    if jk 52 2047 (-1074) U E then (jp neg U E,decide (left≠0)) else (patS neg (bRung way neg),true)):=rfl
  simp only at HR
  rw [hE] at hbits hE1 hL HR
  obtain ⟨u,hu⟩:∃ u,rU mag (E-exp)=u:=⟨_,rfl⟩
  obtain ⟨left,hl⟩:∃ l,rL mag cut (E-exp)=l:=⟨_,rfl⟩
  rw [hu] at hbits hL HR
  rw [hl] at hL HR
  obtain ⟨a,ha⟩:∃ a,(E - -1074).toNat=a:=⟨_,rfl⟩
  have e53:(2:Nat)^(53:Int).toNat=9007199254740992:=by decide
  have e52:(2:Nat)^((53:Int).toNat-1)=4503599627370496:=by decide
  rw [e53,e52] at hbits
  have eB:Ieee.double.binade=4503599627370496:=by decide
  have hV:=V_rung Ieee.double a u (by rw [eB]; omega) (fun h=>by rw [eB]; exact hbits.2 (by omega))
  rw [eB] at hV
  have hpw:pw E=2^a*pw (-1074):=by rw [pw_sub (e:=E) (low:=-1074) (by decide) hE1,ha]
  rw [hpw] at hL
  refine ⟨a*4503599627370496+u,left,left_rung hL hV.1 hV.2,?_⟩
  rw [HR]
  have hodd:decide ((a*4503599627370496+u) % 2=1)=decide (u % 2=1):=by congr 1; apply propext; omega
  unfold rTo
  rw [hodd]
  obtain ⟨R,hR⟩:∃ R,rUp way ng (decide (u % 2=1)) left=R:=⟨_,rfl⟩
  rw [hR]
  obtain ⟨U,hU⟩:∃ U,u+(if R=true then 1 else 0)=U:=⟨_,rfl⟩
  rw [hU]
  have hR1:R=true->left≠0:=fun h hz=>by rw [hz,h] at hR; exact rUp_left hR
  have hR2:R=true->rUp way ng true 3=true:=fun h=>rUp_more (hR.trans h)
  have hUle:U<=9007199254740992:=by rw [<- hU]; split <;> omega
  have hcast:((a*4503599627370496+u:Nat):Int)+(if R=true then 1 else 0)=((a*4503599627370496+U:Nat):Int):=by
    rw [<- hU]
    cases R <;> simp only [if_true,if_false,Bool.false_eq_true] <;> omega
  rw [hcast]
  by_cases hU0:U=0
  . have hu0:u=0:=by rw [<- hU] at hU0; omega
    have ha0:a=0:=by
      rcases Nat.eq_zero_or_pos a with h | h
      . exact h
      . have:=hbits.2 (by omega); omega
    subst hU0 hu0 ha0
    have hj:jk 52 2047 (-1074) ((0:Nat):Int) E=true:=rfl
    rw [hj]
    rw [if_pos rfl,if_pos (by decide)]
    have hd:decide (9218868437227405312<=((0*4503599627370496+0:Nat):Int))=false:=by decide
    rw [hd,Bool.or_false]
    cases ng <;> cases sd <;> rfl
  . have hjr:=join_rung Ieee.double 52 (by decide) dB 2047 (-1074) (by decide) U E (by omega) (by rw [show (2:Nat)^(52+1)=9007199254740992 by decide]; exact hUle) hE1 (fun h=>by rw [show (2:Nat)^52=4503599627370496 by decide]; have:=hbits.2 h; rw [<- hU]; omega)
    simp only at hjr
    rw [ha,show (2:Nat)^52=4503599627370496 by decide,show (2047:Int)*2^52=9218868437227405312 by decide] at hjr
    obtain ⟨j1,j2⟩:=hjr
    have hpos:decide (0<U)=true:=decide_eq_true (by omega)
    rw [show jk ((52:Nat):Int) 2047 (-1074) (U:Int) E=jk 52 2047 (-1074) (U:Int) E from rfl] at j1
    rw [j1,hpos,Bool.true_or,Bool.and_true]
    by_cases hf:((a*4503599627370496+U:Nat):Int)<9218868437227405312
    . have huU:u<=U:=by rw [<- hU]; omega
      have hf0:((a*4503599627370496+u:Nat):Int)<9218868437227405312:=by omega
      rw [decide_eq_true hf,if_pos rfl,if_pos hf0,decide_eq_false (p:=9218868437227405312<=((a*4503599627370496+u:Nat):Int)) (by omega),Bool.or_false]
      have hd:decide (0<((a*4503599627370496+U:Nat):Int))=true:=decide_eq_true (by omega)
      rw [hd,Bool.true_or,Bool.and_true]
      congr 1
      have hjk:jk 52 2047 (-1074) (U:Int) E=true:=by rw [j1]; exact decide_eq_true hf
      have hjv:=j2 hf
      rw [show jv ((52:Nat):Int) 2047 (-1074) (U:Int) E=jv 52 2047 (-1074) (U:Int) E from rfl] at hjv
      unfold jp patS
      rw [hjk,hjv,Bool.true_and]
    . rw [decide_eq_false hf,if_neg (by simp)]
      by_cases hf0:((a*4503599627370496+u:Nat):Int)<9218868437227405312
      . have hRt:R=true:=by
          cases R
          . exfalso; simp at hU; omega
          . rfl
        have hUe:((a*4503599627370496+U:Nat):Int)=9218868437227405312:=by rw [hRt] at hU; simp at hU; omega
        rw [if_pos hf0,hUe,decide_eq_true (hR1 hRt),Bool.true_or]
        congr 1
        have:bRung way ng=9218868437227405312:=by unfold bRung; rw [hR2 hRt,if_pos rfl]
        rw [this]
        simp
      . rw [if_neg hf0,decide_eq_true (p:=9218868437227405312<=((a*4503599627370496+u:Nat):Int)) (by omega),Bool.or_true]
        congr 1
        have hd:decide (0<bRung way ng)=true:=by unfold bRung; split <;> decide
        rw [hd,Bool.true_or,Bool.and_true]
end Go.Proofs.YtmmnoneehiibiaaGreatDoor
