/-
  Parts of the proof, one behind another.
-/
import Derived.Test.YtinccocmgkjalaaGreatDoorPart4
import Derived.Deep.LoopGhost
import Derived.Test.YtinccocmgkjalaaGreatDoorPart6
import Derived.Test.YtinccocmgkjalaaGreatDoorPart5
import Derived.Deep.RegionWith
import Derived.Laws.Externs
import Derived.Laws.Cover2
import Derived.Test.YtinccocmgkjalaaGreatDoorPart3
import Derived.Test.YtinccocmgkjalaaGreatDoorPart1
import Derived.Deep.RegionHeld3
set_option linter.unusedVariables false
set_option linter.unusedSimpArgs false
namespace Go.Proofs.YtinccocmgkjalaaGreatDoor
open Go Go.RowKit Go.Proofs.YtinccocmgkjalaaGreatDoor.M
theorem Num.parts {w:World} {v:Value} {V:Int} (h:Num w v V) {k:Nat} (hV:V < P k):∃ ao n cap d,v=.slice ao n cap∧Row w ao n cap d∧Nrm d n∧val d n=V∧n <= k:=by
 obtain ⟨ao,n,cap,rfl⟩:=h.shape
 have hl:=h.len hV
 obtain ⟨ao',n',cap',d,e,hR,h2,h3⟩:=h
 simp only [Value.slice.injEq] at e
 obtain ⟨rfl,rfl,rfl⟩:=e
 exact ⟨ao,n,cap,d,rfl,hR,h2,h3,hl⟩
theorem low_mod {V l:Int} (h:LowA V l) (h0:0 < V) (k:Nat):decide (l < (k:Int))=decide (V % 2 ^ k ≠ 0):=by
 obtain ⟨j,rfl,q,hq⟩:=lowA_pos h h0
 by_cases hjk:j < k
 ·rw [decide_eq_true (by omega)]
  refine (decide_eq_true ?_).symm
  intro hz
  obtain ⟨d,hd⟩:∃ d,k=j + 1 + d:=⟨k - j - 1,by omega⟩
  have h1:(2:Int) ^ k ∣ V:=Int.dvd_of_emod_eq_zero hz
  obtain ⟨c,hc⟩:=h1
  rw [hq,hd,Int.pow_add,Int.pow_succ] at hc
  have hp:=two_pos j
  have e:(2:Int) ^ j * (2 * q + 1)=2 ^ j * (2 * (2 ^ d * c)):=by
   rw [Int.mul_comm,hc]
   simp only [Int.mul_assoc]
  have:=Int.eq_of_mul_eq_mul_left (by omega) e
  omega
 ·rw [decide_eq_false (by omega)]
  refine (decide_eq_false ?_).symm
  intro hz
  apply hz
  obtain ⟨d,hd⟩:∃ d,j=k + d:=⟨j - k,by omega⟩
  rw [hq,hd,Int.pow_add,Int.mul_comm,Int.mul_assoc]
  exact Int.mul_emod_right _ _
set_option maxRecDepth 100000 in
set_option maxHeartbeats 1000000 in
theorem scaled_low (ao:Option Addr) (n ca:Nat) (a:Nat->Int) (k:Nat) (w:World) (ha:Row w ao n ca a) (na:Nrm a n) (hn:n <= 5000) (hk0:0 < k) (hk:k <= 1000000) (h0:0 < val a n) (hT:Tab w) :
  Calls Tryz.prog 206 #[.slice ao n ca,.int .i64 (-(k:Int))] w fun e w'=>∃ v,e=.returned (.tuple #[v,.bool (decide (val a n % 2 ^ k ≠ 0))])∧Ans w w' (val a n / 2 ^ k) v:=by
 have CL:Hid (∀ W,Below w.heap.size w W->_):=fun W hb=>lower_any ao n ca k a W (ha.keeps hb) na.1 (by omega) (by omega)
 have CW:Hid (∀ W,Below w.heap.size w W->_):=fun W hb=>lowest_any ao n ca a W (ha.keeps hb) na.1 (by omega) (hT.keeps hb)
 have HM:Hid (∀ l,LowA (val a n) l->decide (l < (k:Int))=decide (val a n % 2 ^ k ≠ 0)):=fun l h=>low_mod h h0 k
 generalize decide (val a n % 2 ^ k ≠ 0)=R at HM ⊢
 generalize val a n / 2 ^ k=Q at CL ⊢
 have w1:IntKind.i64.wrap (k:Int)=(k:Int):=by rw [wrap_i64_eq]; omega
 go_enter Tryz.func206,Tryz.ntmps206
 go_wp2_with fail
 refine (CL.out _ (bel_refl _)).mono ?_
 rintro _ w2 ⟨v,rfl,hA⟩
 have hb2:=hA.below
 have HA:Hid (Ans w w2 Q v):=hA
 obtain ⟨so,sn,sc,rfl⟩:=hA.num.shape
 clear hA CL
 go_wp2_with fail
 refine (CW.out _ hb2).mono ?_
 rintro _ w3 ⟨l,rfl,hl,rfl⟩
 have hr:=HM.out l hl
 go_wp2
 all_goals refine bodyPost_ret (v:=.tuple #[.slice so sn sc,.bool R]) (by simp [results,Tryz.results206,go_sem]) rfl ⟨_,rfl,HA.out⟩
set_option maxRecDepth 100000 in
set_option maxHeartbeats 1000000 in
theorem scaled_zero (ao:Option Addr) (n ca:Nat) (a:Nat->Int) (w:World) (ha:Row w ao n ca a) (na:Nrm a n) (hn:n <= 5000) :
  Calls Tryz.prog 206 #[.slice ao n ca,.int .i64 0] w fun e w'=>∃ v,e=.returned (.tuple #[v,.bool false])∧Ans w w' (val a n) v:=by
 have CR:Hid (Calls Tryz.prog 211 #[.slice ao n ca,.int .i64 0] w fun e w'=>∃ v,e=.returned v∧Ans w w' (val a n) v):=by
  have h:=raise_any ao n ca 0 a w ha na.1 (by omega) (by omega)
  rw [Int.pow_zero,Int.mul_one] at h
  exact h
 go_enter Tryz.func206,Tryz.ntmps206
 go_wp2_with fail
 refine CR.out.mono ?_
 rintro _ w2 ⟨v,rfl,hA⟩
 have HA:Hid (Ans w w2 (val a n) v):=hA
 obtain ⟨so,sn,sc,rfl⟩:=hA.num.shape
 clear hA CR
 go_wp2
 all_goals refine bodyPost_ret (v:=.tuple #[.slice so sn sc,.bool false]) (by simp [results,Tryz.results206,go_sem]) rfl ⟨_,rfl,HA.out⟩
theorem wr5 (W:World) (g:Nat) (a b c d e:Value):Wr g W (((((W.setCell ⟨g,0,none⟩ a).setCell ⟨g,1,none⟩ b).setCell ⟨g,2,none⟩ c).setCell ⟨g,3,none⟩ d).setCell ⟨g,4,none⟩ e):=(((((Wr.refl g W).setCell 0 a).setCell 1 b).setCell 2 c).setCell 3 d).setCell 4 e
def vK (M:Int):Nat:=blen M - 62
theorem vK_small {M:Int} (h:0 <= M):0 <= M / 2 ^ vK M∧M / 2 ^ vK M < 4611686018427387904:=by
 have hp:=two_pos (vK M)
 refine ⟨Int.ediv_nonneg h (by omega),?_⟩
 have h1:=blen_lt M
 have h2:(2:Int) ^ blen M <= 2 ^ (62 + vK M):=two_le (by unfold vK; omega)
 have e:(2:Int) ^ (62 + vK M)=4611686018427387904 * 2 ^ vK M:=by rw [Int.pow_add]; rfl
 exact Int.ediv_lt_of_lt_mul hp (by omega)
theorem blen_nrm {a:Nat->Int} {n:Nat} (na:Nrm a n):blen (val a n) <= 30 * n:=by
 cases n with
 | zero=>show blen 0 <= _; rw [blen_zero]; omega
 | succ m=>
  rw [blen_val na]
  have h:blen (a m) <= 30:=blen_le (by show a m < 1073741824; exact (na.1 m (by omega)).2)
  omega
set_option maxRecDepth 100000 in
set_option maxHeartbeats 2000000 in
theorem valueOf_any (ng:Bool) (ao:Option Addr) (n ca:Nat) (a:Nat->Int) (e:Int) (w:World) (ha:Row w ao n ca a) (na:Nrm a n) (hn:n <= 5000) (he:-1100000 <= e∧e <= 1100000) (hT:Tab w) :
  Calls Tryz.prog 191 #[.agg #[.bool ng,.slice ao n ca,.int .i64 e]] w fun r w'=>r=.returned (valV ng (val a n / 2 ^ vK (val a n)).toNat (e + vK (val a n)) (decide (val a n % 2 ^ vK (val a n) ≠ 0)) false)∧Below w.heap.size w w':=by
 have hv0:=val_nonneg na.1
 have hbl:blen (val a n) <= 150000:=by have:=blen_nrm na; omega
 have CB:Hid (∀ W,Below w.heap.size w W->_):=fun W hb=>bitLength_any ao n ca a W (ha.keeps hb) na (by omega)
 obtain ⟨k,hk⟩:∃ k,vK (val a n)=k:=⟨_,rfl⟩
 have hsm:=vK_small hv0
 rw [hk] at hsm ⊢
 have CS:Hid (∀ W,Below w.heap.size w W->Calls Tryz.prog 206 #[.slice ao n ca,.int .i64 (-(k:Int))] W fun e w'=>∃ v,e=.returned (.tuple #[v,.bool (decide (val a n % 2 ^ k ≠ 0))])∧Ans W w' (val a n / 2 ^ k) v):=fun W hb=>by
  by_cases h0:k=0
  ·subst h0
   have h:=scaled_zero ao n ca a W (ha.keeps hb) na hn
   simpa using h
  ·have hp:0 < val a n:=by
    rcases Int.lt_or_eq_of_le hv0 with h | h
    ·exact h
    ·exfalso; rw [<- h] at hk; apply h0; rw [<- hk]; decide
   exact scaled_low ao n ca a k W (ha.keeps hb) na hn (by omega) (by unfold vK at hk; omega) hp (hT.keeps hb)
 have hbk:min (62 - (blen (val a n):Int)) 0=-(k:Int):=by unfold vK at hk; omega
 obtain ⟨B,hB⟩:∃ B:Int,(blen (val a n):Int)=B:=⟨_,rfl⟩
 have hB0:0 <= B∧B <= 150000:=by omega
 rw [hB] at CB hbk
 have hk2:k <= 150000:=by unfold vK at hk; omega
 generalize decide (val a n % 2 ^ k ≠ 0)=R at CS ⊢
 obtain ⟨Q,hQ⟩:∃ Q:Nat,val a n / 2 ^ k=(Q:Int):=Int.eq_ofNat_of_zero_le hsm.1
 rw [hQ] at CS hsm ⊢
 rw [Int.toNat_natCast]
 have CM:Hid (∀ (W':World) so sn sc,Num W' (.slice so sn sc) (Q:Int)->Calls Tryz.prog 207 #[.slice so sn sc] W' fun e w'=>e=.returned (.int .i64 (Q:Int))∧w'=W'):=fun W' so sn sc hA=>by
  obtain ⟨ao',n',ca',d',hs,hR,hN,hV,hl⟩:=hA.parts (k:=3) (by rw [show P 3=1237940039285380274899124224 by decide]; omega)
  simp only [Value.slice.injEq] at hs
  obtain ⟨rfl,rfl,rfl⟩:=hs
  rw [<- hV]
  exact small_any _ _ _ _ _ hR hN.1 hl (by omega)
 have w1:IntKind.i64.wrap (62 - B)=62 - B:=by rw [wrap_i64_eq]; omega
 have w2:IntKind.i64.wrap (e + k)=e + k:=by rw [wrap_i64_eq]; omega
 have w3:IntKind.u64.wrap (Q:Int)=(Q:Int):=by rw [IntKind.wrap_u64]; omega
 have hmin:∀ (ts:Array TypeId) (t:TypeId) (x y:Int) (w:World),(Builtin.min_ ts t #[.int .i64 x,.int .i64 y]).run Tryz.prog w=.ok (.int .i64 (min x y)) w:=fun ts t x y w=>by rw [run_min_int2]; congr 2; omega
 have q0:=heap_a2 w (.cells #[.bool ng,.slice ao n ca,.int .i64 e] 34) (.cells #[.bool false,.int .u64 0,.int .i64 0,.bool false,.bool false] 172)
 have q1:=heap_b2 w (.cells #[.bool ng,.slice ao n ca,.int .i64 e] 34) (.cells #[.bool false,.int .u64 0,.int .i64 0,.bool false,.bool false] 172)
 have hb1:=bel_alloc2 w (.cells #[.bool ng,.slice ao n ca,.int .i64 e] 34) (.cells #[.bool false,.int .u64 0,.int .i64 0,.bool false,.bool false] 172)
 clear hQ hk hB hbl hv0 hsm hT
 unfold valV
 go_enter Tryz.func191,Tryz.ntmps191
 go_wp2_with fail
 generalize (w.alloc (.cells #[.bool ng,.slice ao n ca,.int .i64 e] 34)).alloc (.cells #[.bool false,.int .u64 0,.int .i64 0,.bool false,.bool false] 172)=wx at q0 q1 hb1 ⊢
 refine (CB.out _ hb1).mono ?_
 rintro _ _ ⟨rfl,rfl⟩
 have k1:=blkC q0 1 rfl
 go_wp2_with fail
 refine (CS.out _ hb1).mono ?_
 rintro _ w4 ⟨v,rfl,hA⟩
 have hb4:=hA.below
 obtain ⟨so,sn,sc,rfl⟩:=hA.num.shape
 have CM1:Hid (Calls Tryz.prog 207 #[.slice so sn sc] w4.drew fun e w'=>e=.returned (.int .i64 (Q:Int))∧w'=w4.drew):=CM.out w4.drew so sn sc (hA.num.keeps (bel_refl w4).drew)
 have hbw:=bel_trans hb1 hb4
 have p0:=(hb4.block _ (Array.getElem?_eq_some_iff.1 q0).1).trans q0
 have p1:=(hb4.block _ (Array.getElem?_eq_some_iff.1 q1).1).trans q1
 clear CB CS k1 hA CM
 have c0:=blkC p0 0 rfl
 have c2:=blkC p0 2 rfl
 have x0:=blkC p1 0 rfl
 have x1:=blkC p1 1 rfl
 have x2:=blkC p1 2 rfl
 have x3:=blkC p1 3 rfl
 have x4:=blkC p1 4 rfl
 have z0:=blkF p1 0
 have z1:=blkF p1 1
 have z2:=blkF p1 2
 have z3:=blkF p1 3
 have z4:=blkF p1 4
 go_wp2_with fail
 have c1:=blkC p0 1 rfl
 go_region_with (go_at_call 207; refine CM1.out.mono ?_; rintro _ _ ⟨rfl,rfl⟩)
 all_goals go_wp2
 all_goals refine bodyPost_ret (v:=.agg #[.bool ng,.int .u64 Q,.int .i64 (e + k),.bool R,.bool false]) (by simp [results,Tryz.results191,go_sem,x0,x1,x2,x3,x4]) rfl ⟨rfl,?_⟩
 all_goals exact ((wr5 w4 (w.heap.size + 1) _ _ _ _ _).below hbw hbw.size (Nat.le_succ _)).drew
set_option maxRecDepth 100000 in
set_option maxHeartbeats 1000000 in
theorem itself_any (p:Nat) (off cap len:Nat) (ng:Bool) (ao:Option Addr) (n ca:Nat) (a:Nat->Int) (e:Int) (w:World) (c0:w.cell? ⟨p,off,none⟩=some (.bool ng)) (c1:w.cell? ⟨p,off + 1,none⟩=some (.slice ao n ca)) (c2:w.cell? ⟨p,off + 2,none⟩=some (.int .i64 e)) (hl:0 < len) (ha:Row w ao n ca a) (na:Nrm a n) (hn:n <= 5000) (he:-1100000 <= e∧e <= 1100000) (hT:Tab w) :
  Calls Tryz.prog 165 #[.slice (some ⟨p,off,none⟩) len cap] w fun r w'=>r=.returned (.tuple #[valV ng (val a n / 2 ^ vK (val a n)).toNat (e + vK (val a n)) (decide (val a n % 2 ^ vK (val a n) ≠ 0)) false,.int .i64 0])∧Below w.heap.size w w':=by
 have CV:Hid (∀ W,Below w.heap.size w W->_):=fun W hb=>valueOf_any ng ao n ca a e W (ha.keeps hb) na hn he (hT.keeps hb)
 unfold valV at *
 generalize (val a n / 2 ^ vK (val a n)).toNat=Q at CV ⊢
 generalize e + vK (val a n)=E at CV ⊢
 generalize decide (val a n % 2 ^ vK (val a n) ≠ 0)=R at CV ⊢
 have q0:=heap_alloc_new w (.cells #[.bool false,.int .u64 0,.int .i64 0,.bool false,.bool false] 172)
 have hb1:=bel_alloc w (.cells #[.bool false,.int .u64 0,.int .i64 0,.bool false,.bool false] 172)
 have d0:=cell_keeps c0 hb1
 have d1:=cell_keeps c1 hb1
 have d2:=cell_keeps c2 hb1
 go_enter Tryz.func165,Tryz.ntmps165
 go_wp2_with fail
 refine (CV.out _ hb1).mono ?_
 rintro _ w2 ⟨rfl,hb2⟩
 have p1:=(hb2.block _ (Array.getElem?_eq_some_iff.1 q0).1).trans q0
 have hbw:=bel_trans hb1 hb2
 clear d0 d1 d2 c0 c1 c2 CV
 have x0:=blkC p1 0 rfl
 have x1:=blkC p1 1 rfl
 have x2:=blkC p1 2 rfl
 have x3:=blkC p1 3 rfl
 have x4:=blkC p1 4 rfl
 have z0:=blkF p1 0
 have z1:=blkF p1 1
 have z2:=blkF p1 2
 have z3:=blkF p1 3
 have z4:=blkF p1 4
 go_wp2
 all_goals refine bodyPost_ret (v:=.tuple #[.agg #[.bool ng,.int .u64 Q,.int .i64 E,.bool R,.bool false],.int .i64 0]) (by simp [results,Tryz.results165,go_sem,x0,x1,x2,x3,x4]) rfl ⟨rfl,?_⟩
 all_goals exact (wr5 w2 w.heap.size _ _ _ _ _).below hbw hbw.size (Nat.le_refl _)
set_option maxRecDepth 100000 in
set_option maxHeartbeats 1000000 in
theorem rounded_ok (way:Int) (hw:0 <= way∧way <= 3) (F G:Nat) (lo:Option Addr) (ln lc:Nat) (r:Nat->NumR) (w:World) (hl:Nums w lo ln lc r) (ok:∀ i,i < ln->okR (r i)=true) (ng:Bool) (mag:Nat) (exp:Int) (cut sd:Bool) (b:Int) (o:Bool)
  (hEF:∀ (cap:Array Value) (w:World),(callFunc F cap).run Tryz.prog w=.ok (.enter F cap) w) (hEG:∀ (cap:Array Value) (w:World),(callFunc G cap).run Tryz.prog w=.ok (.enter G cap) w)
  (hG:∀ W,Below w.heap.size w W->Calls Tryz.prog G #[.slice lo ln lc] W fun e w'=>e=.returned (.tuple #[valV ng mag exp cut sd,.int .i64 0])∧Below W.heap.size W w')
  (hF:∀ W,Below w.heap.size w W->Calls Tryz.prog F #[valV ng mag exp cut sd,wayV way] W fun e w'=>e=.returned (.tuple #[.int .i64 b,.bool o])∧Below W.heap.size W w') :
  Calls Tryz.prog 163 #[.int .i64 way,.func (.func F) #[] #[],.func (.func G) #[] #[],.slice lo ln lc] w fun e w'=>e=.returned (.tuple #[.int .i64 b,.bool o,.int .i64 0])∧Below w.heap.size w w':=by
 have hst:∀ (p:Addr) (F:Nat) (m:Mode) (w:World),(store p (.func (.func F) #[] #[]) m).run Tryz.prog w=stored Tryz.prog w p (.func (.func F) #[] #[]) m:=fun p F m w=>run_store _ w p _ m rfl
 have hle:=hl.le
 have hma:=hl.max
 unfold valV wayV at *
 have CW:=wayOf_any way w
 rw [if_pos hw,decide_eq_true hw] at CW
 unfold wayV at CW
 generalize wayF way=K at *
 go_enter Tryz.func163,Tryz.ntmps163
 go_wp2_with fail
 refine CW.mono ?_
 rintro _ w1 ⟨rfl,hb1⟩
 have q1:=heap_alloc_new w1 (.cells #[.nilFunc] 185)
 have y0:=blkC q1 0 rfl
 have y1:=blkF q1 0
 go_wp2_with fail
 have q2:=heap_alloc_new w1 (.cells #[.func (.func K) #[] #[]] 185)
 have hb2:=bel_trans hb1 (bel_alloc w1 (.cells #[.func (.func K) #[] #[]] 185))
 generalize w1.alloc (.cells #[.func (.func K) #[] #[]] 185)=w2 at q2 hb2 ⊢
 clear q1 y0 y1 CW
 go_loopw [28] (fun iv wr=>∃ k:Nat,iv=.int .i64 k∧k <= ln∧Hid (wr.heap[w1.heap.size]?=some (.cells #[.func (.func K) #[] #[]] 185 (0,0)))∧Below w.heap.size w wr) (fun iv _=>ln - (intOf iv).toNat)
 case atStart=>exact ⟨0,rfl,Nat.zero_le _,q2,hb2⟩
 case round=>
  clear q2 hb2
  obtain ⟨k,rfl,hk,HQ,hbw⟩:=hrel
  by_cases hlt:k < ln
  ·obtain ⟨ba,oa,rfl,hba,hca⟩:=hl.spot (by omega)
   obtain ⟨c0,c1,c2,hR⟩:=(hca k hlt).keeps hbw hba
   have hok:=ok k hlt
   have CV:=fun W (hb:Below wr.heap.size wr W)=>dvalid_any (r k).ng (r k).ao (r k).n (r k).cap (r k).d (r k).e W (hR.keeps hb)
   unfold okR at hok
   rw [hok] at CV
   clear hok hR hca
   generalize r k=x at c0 c1 c2 CV
   obtain ⟨x_g,x_o,x_n,x_c,x_d,x_e⟩:=x
   simp only at c0 c1 c2 CV
   have hb3:=bel_alloc wr (.cells #[.bool x_g,.slice x_o x_n x_c,.int .i64 x_e] 34)
   have HQ3:Hid ((wr.alloc (.cells #[.bool x_g,.slice x_o x_n x_c,.int .i64 x_e] 34)).heap[w1.heap.size]?=some (.cells #[.func (.func K) #[] #[]] 185 (0,0))):=(hb3.block _ (Array.getElem?_eq_some_iff.1 HQ.out).1).trans HQ.out
   go_wp2_with fail
   refine (CV _ hb3).mono ?_
   rintro _ w4 ⟨rfl,hb4⟩
   have HQ4:Hid (w4.heap[w1.heap.size]?=some (.cells #[.func (.func K) #[] #[]] 185 (0,0))):=(hb4.block _ (Array.getElem?_eq_some_iff.1 HQ3.out).1).trans HQ3.out
   have hbw4:=hbw.trans ((bel_trans hb3 hb4).mono hbw.size)
   clear CV HQ3 hb3 hb4 c0 c1 c2
   go_wp2
   go_roundw
   case rel=>exact ⟨k + 1,by go_num,by omega,HQ4.out,hbw4⟩
   case measure=>simp [intOf]; omega
  ·obtain rfl:k=ln:=by omega
   go_wp2_with fail
   refine (hG _ hbw).mono ?_
   rintro _ w4 ⟨rfl,hb4⟩
   have p4:=(hb4.block _ (Array.getElem?_eq_some_iff.1 HQ.out).1).trans HQ.out
   have hbw4:=hbw.trans (hb4.mono hbw.size)
   have hb5:=bel_alloc w4 (.cells #[.bool ng,.int .u64 mag,.int .i64 exp,.bool cut,.bool sd] 172)
   have kw:=cell_keeps (blkC p4 0 rfl) hb5
   have hbw5:=hbw4.trans (hb5.mono hbw4.size)
   clear hG hb4
   go_wp2_with fail
   refine (hF _ hbw5).mono ?_
   rintro _ w6 ⟨rfl,hb6⟩
   go_wp2
   all_goals refine bodyPost_ret (v:=.tuple #[.int .i64 b,.bool o,.int .i64 0]) (by simp [results,Tryz.results163,go_sem]) rfl ⟨rfl,hbw5.trans (hb6.mono hbw5.size)⟩
set_option maxRecDepth 100000 in
set_option maxHeartbeats 1000000 in
theorem to_ok (way:Int) (hw:0 <= way∧way <= 3) (x:NumR) (w:World) (hx:Row w x.ao x.n x.cap x.d) (ok:okR x=true) (Ev:Env w) (hT:Tab w) :
  Calls Tryz.prog 128 #[x.v,.int .i64 way] w fun e w'=>e=.returned (.tuple #[.int .i64 (r64 way x.ng false (val x.d x.n / 2 ^ vK (val x.d x.n)).toNat (x.e + vK (val x.d x.n)) (decide (val x.d x.n % 2 ^ vK (val x.d x.n) ≠ 0))).1,.bool (r64 way x.ng false (val x.d x.n / 2 ^ vK (val x.d x.n)).toNat (x.e + vK (val x.d x.n)) (decide (val x.d x.n % 2 ^ vK (val x.d x.n) ≠ 0))).2,.int .i64 0])∧Below w.heap.size w w':=by
 have hS:=okR_sane ok
 obtain ⟨na,hn,he0,he1⟩:=hS
 have hv0:=val_nonneg na.1
 have hbl:vK (val x.d x.n) <= 150000:=by have:=blen_nrm na; unfold vK; omega
 have hsm:=vK_small hv0
 have hEF:∀ (cap:Array Value) (w:World),(callFunc 164 cap).run Tryz.prog w=.ok (.enter 164 cap) w:=by
  intro cap w
  simp [go_sem]
 have hEG:∀ (cap:Array Value) (w:World),(callFunc 165 cap).run Tryz.prog w=.ok (.enter 165 cap) w:=by
  intro cap w
  simp [go_sem]
 have hmf:∀ (fn:Fn) (first cap:Array Value) (w:World),(Instr.makeFunc fn first cap).run Tryz.prog w=.ok (.func fn first cap) w:=fun _ _ _ _=>rfl
 have CR:=fun W (hb:Below w.heap.size w W) (g:Nat) (hg:W.heap[g]?=some (.cells #[.bool x.ng,.slice x.ao x.n x.cap,.int .i64 x.e] 34 (0,0)))=>rounded_ok way hw 164 165 (some ⟨g,0,none⟩) 1 1 (fun _=>x) W
  ⟨Nat.le_refl _,by decide,fun _=>⟨g,0,rfl,(Array.getElem?_eq_some_iff.1 hg).1,fun i hi=>by
   obtain rfl:i=0:=by omega
   exact ⟨blkC hg 0 rfl,blkC hg 1 rfl,blkC hg 2 rfl,hx.keeps hb⟩⟩⟩ (fun _ _=>ok) x.ng (val x.d x.n / 2 ^ vK (val x.d x.n)).toNat (x.e + vK (val x.d x.n)) (decide (val x.d x.n % 2 ^ vK (val x.d x.n) ≠ 0)) false _ _ hEF hEG
  (fun W2 hb2=>itself_any g 0 1 1 x.ng x.ao x.n x.cap x.d x.e W2 (cell_keeps (blkC hg 0 rfl) hb2) (cell_keeps (blkC hg 1 rfl) hb2) (cell_keeps (blkC hg 2 rfl) hb2) (by decide) ((hx.keeps hb).keeps hb2) na hn ⟨he0,he1⟩ ((hT.keeps hb).keeps hb2))
  (fun W2 hb2=>binary64_any way hw x.ng false _ _ _ W2 ((Ev.keeps hb).keeps hb2) (by omega) (by omega))
 generalize r64 way x.ng false (val x.d x.n / 2 ^ vK (val x.d x.n)).toNat (x.e + vK (val x.d x.n)) (decide (val x.d x.n % 2 ^ vK (val x.d x.n) ≠ 0))=R at CR ⊢
 have HCR:Hid _:=CR
 unfold NumR.v
 clear ok hsm hbl hv0 he0 he1 hn na hx
 obtain ⟨x_g,x_o,x_n,x_c,x_d,x_e⟩:=x
 simp only at *
 clear HCR
 have hb2:=bel_alloc2 w (.cells #[.bool x_g,.slice x_o x_n x_c,.int .i64 x_e] 34) (.cells #[.bool x_g,.slice x_o x_n x_c,.int .i64 x_e] 34)
 have q1:=heap_b2 w (.cells #[.bool x_g,.slice x_o x_n x_c,.int .i64 x_e] 34) (.cells #[.bool x_g,.slice x_o x_n x_c,.int .i64 x_e] 34)
 go_enter Tryz.func128,Tryz.ntmps128
 go_wp2_with fail
 refine (CR _ hb2 _ q1).mono ?_
 rintro _ w2 ⟨rfl,hb3⟩
 go_wp2
 all_goals refine bodyPost_ret (v:=.tuple #[.int .i64 R.1,.bool R.2,.int .i64 0]) (by simp [results,Tryz.results128,go_sem]) rfl ⟨rfl,bel_trans hb2 hb3⟩
def scV (A k:Int):Int:=if 0 <= k then A * 2 ^ k.toNat else A / 2 ^ (-k).toNat
def scC (A k:Int):Bool:=if 0 <= k then false else decide (A % 2 ^ (-k).toNat ≠ 0)
def qK (A B:Int):Int:=62 + (blen B:Int) - (blen A:Int)
def qR64 (way:Int) (a b:NumR):Int × Bool:=r64 way (a.ng != b.ng) false (scV (val a.d a.n) (qK (val a.d a.n) (val b.d b.n)) / val b.d b.n).toNat (a.e - b.e - qK (val a.d a.n) (val b.d b.n)) (scC (val a.d a.n) (qK (val a.d a.n) (val b.d b.n)) || decide (scV (val a.d a.n) (qK (val a.d a.n) (val b.d b.n)) % val b.d b.n ≠ 0))
set_option maxRecDepth 100000 in
set_option maxHeartbeats 1000000 in
theorem operate_near (F G:Value) (hF:∃ f,F=.func f #[] #[]) (hG:∃ f,G=.func f #[] #[]) (near:Int) (R:Value) (o:Option Addr) (n c:Nat) (w:World) :
  Calls Tryz.prog 195 #[.agg #[F,G],.int .i64 near,.int .i64 0,R,.slice o n c] w fun e w'=>e=.returned (.tuple #[.int .i64 near,.int .i64 0])∧Below w.heap.size w w':=by
 obtain ⟨f,rfl⟩:=hF
 obtain ⟨g,rfl⟩:=hG
 have CW:=fun W=>wayOf_any 0 W
 unfold wayV wayF at CW
 simp only [if_true] at CW
 have hst:∀ (p:Addr) (F:Nat) (m:Mode) (w:World),(store p (.func (.func F) #[] #[]) m).run Tryz.prog w=stored Tryz.prog w p (.func (.func F) #[] #[]) m:=fun p F m w=>run_store _ w p _ m rfl
 go_enter Tryz.func195,Tryz.ntmps195
 go_wp2_with fail
 refine (CW _).mono ?_
 rintro _ w2 ⟨rfl,hb2⟩
 have hb1:=bel_alloc w (.cells #[.func f #[] #[],.func g #[] #[]] 197)
 have hbw:=bel_trans hb1 hb2
 have q1:=heap_alloc_new w2 (.cells #[.nilFunc] 185)
 have y0:=blkC q1 0 rfl
 have y1:=blkF q1 0
 clear CW
 go_wp2
 all_goals refine bodyPost_ret (v:=.tuple #[.int .i64 near,.int .i64 0]) (by simp [results,Tryz.results195,go_sem]) rfl ⟨rfl,?_⟩
 all_goals exact bel_trans hbw (bel_alloc _ _)
set_option maxRecDepth 100000 in
theorem double_any (w:World):Calls Tryz.prog 194 #[] w fun e w'=>e=.returned (.agg #[.func (.func 79) #[] #[],.func (.func 164) #[] #[]])∧Below w.heap.size w w':=by
 have hmf:∀ (fn:Fn) (first cap:Array Value) (w:World),(Instr.makeFunc fn first cap).run Tryz.prog w=.ok (.func fn first cap) w:=fun _ _ _ _=>rfl
 have hst:∀ (p:Addr) (F:Nat) (m:Mode) (w:World),(store p (.func (.func F) #[] #[]) m).run Tryz.prog w=stored Tryz.prog w p (.func (.func F) #[] #[]) m:=fun p F m w=>run_store _ w p _ m rfl
 have q1:=heap_alloc_new w (.cells #[.nilFunc,.nilFunc] 197)
 have x0:=blkC q1 0 rfl
 have x1:=blkC q1 1 rfl
 have z0:=blkF q1 0
 have z1:=blkF q1 1
 go_enter Tryz.func194,Tryz.ntmps194
 go_wp2
 all_goals refine bodyPost_ret (v:=.agg #[.func (.func 79) #[] #[],.func (.func 164) #[] #[]]) (by simp [results,Tryz.results194,go_sem]) rfl ⟨rfl,?_⟩
 all_goals exact bel_alloc _ _
theorem run_from64 (n:Int) (w:World):(callFunc 57 #[.int .u64 n]).run Tryz.prog w=.ok (.value (.float .f64 n.toNat)) w:=by
 rw [run_callFunc_extern Tryz.func57 (by kernel_rfl) (by kernel_rfl) (by kernel_rfl) (e:=Extern.MathFloatBits.float64frombits) (by kernel_rfl)]
 rfl
theorem ret_float {k:FloatKind} {a b:Nat} (h:a=b):Ending.returned (.float k a)=.returned (.float k b):=by rw [h]
theorem bitsFloat (b:Int) (w:World) :
  Calls Tryz.prog 32 #[.int .i64 b] w fun e w'=>e=.returned (.float .f64 (wd b))∧w'=w:=by
 have hd:=run_from64
 go_enter Tryz.func32,Tryz.ntmps32
 go_wp2
 go_ret
 exact ⟨ret_float (by rw [IntKind.wrap_u64]; rfl),rfl⟩
theorem hideIt {p:Prop} (h:p):Hid p:=h
theorem refCut (b:Int) (w:World) (hb:rng b) :
  Calls Tryz.prog 144 #[.int .i64 b] w fun e w'=>e=.returned (.tuple #[.bool (decide (b < 0)),.int .i64 (fld b),.int .i64 (frc b)])∧w'=w:=by
 unfold rng at hb
 by_cases h:b < 0
 all_goals
  go_enter Tryz.func144,Tryz.ntmps144
  go_wp2
  go_ret3
  exact ⟨ret_bii (by simp; try omega) (by unfold fld; omega) (by unfold frc; omega),rfl⟩
theorem refcls (f t most:Int) (w:World) (hf:0 <= f) (ht:0 <= t) :
  Calls Tryz.prog 181 #[.int .i64 f,.int .i64 t,.int .i64 most] w fun e w'=>e=.returned (.int .i64 (rcls f t most))∧w'=w:=by
 by_cases h1:f=most
 ·subst h1
  by_cases h2:t=0
  all_goals
   go_enter Tryz.func181,Tryz.ntmps181
   go_wp2
   go_ret
   exact ⟨b_ret_int (by simp [rcls,h2]),rfl⟩
 ·by_cases h2:0 < f <;> by_cases h3:0 < t
  all_goals
   go_enter Tryz.func181,Tryz.ntmps181
   go_wp2
   go_ret
   exact ⟨b_ret_int (by simp [rcls,h1]; omega),rfl⟩
theorem refClass (b:Int) (w:World) (hb:rng b) :
  Calls Tryz.prog 145 #[.int .i64 b] w fun e w'=>e=.returned (.int .i64 (cls b))∧w'=w:=by
 have hf:=fld_le b
 have ht:=frc_le b
 go_enter Tryz.func145,Tryz.ntmps145
 go_wp2_with (first
  | (go_at_call 144; refine (refCut _ _ hb).mono ?_; rintro e w1 ⟨rfl,rfl⟩)
  | (go_at_call 181; refine (refcls _ _ _ _ hf.1 ht.1).mono ?_; rintro e w1 ⟨rfl,rfl⟩))
 go_ret
 exact ⟨b_ret_int (rcls_cls b),rfl⟩
theorem refParts (b:Int) (w:World) (hb:rng b) :
  Calls Tryz.prog 105 #[.int .i64 b] w fun e w'=>e=.returned (.tuple #[.bool (pneg b),.int .i64 (pmag b),.int .i64 (pexp b),.bool (pok b)])∧w'=w:=by
 have hf:=fld_le b
 have ht:=frc_le b
 by_cases h0:cls b=0
 ·have k:=hideIt (parts_sub (.inl h0))
  go_enter Tryz.func105,Tryz.ntmps105
  go_wp2_with (first
   | (go_at_call 144; refine (refCut _ _ hb).mono ?_; rintro e w1 ⟨rfl,rfl⟩)
   | (go_at_call 145; refine (refClass _ _ hb).mono ?_; rintro e w1 ⟨rfl,rfl⟩))
  refine bodyPost_ret (v:=.tuple #[.bool (decide (b < 0)),.int .i64 (frc b),.int .i64 (-1074),.bool true]) (by simp [results,Tryz.results105,go_sem]) rfl ⟨ret_ttt4 k.out.1 k.out.2.1 k.out.2.2.1 k.out.2.2.2,rfl⟩
 ·by_cases h1:cls b=1
  ·have k:=hideIt (parts_sub (.inr h1))
   go_enter Tryz.func105,Tryz.ntmps105
   go_wp2_with (first
    | (go_at_call 144; refine (refCut _ _ hb).mono ?_; rintro e w1 ⟨rfl,rfl⟩)
    | (go_at_call 145; refine (refClass _ _ hb).mono ?_; rintro e w1 ⟨rfl,rfl⟩))
   refine bodyPost_ret (v:=.tuple #[.bool (decide (b < 0)),.int .i64 (frc b),.int .i64 (-1074),.bool true]) (by simp [results,Tryz.results105,go_sem]) rfl ⟨ret_ttt4 k.out.1 k.out.2.1 k.out.2.2.1 k.out.2.2.2,rfl⟩
  ·by_cases h2:cls b=2
   ·have k:=hideIt (parts_norm h2)
    go_enter Tryz.func105,Tryz.ntmps105
    go_wp2_with (first
     | (go_at_call 144; refine (refCut _ _ hb).mono ?_; rintro e w1 ⟨rfl,rfl⟩)
     | (go_at_call 145; refine (refClass _ _ hb).mono ?_; rintro e w1 ⟨rfl,rfl⟩))
    refine bodyPost_ret (v:=.tuple #[.bool (decide (b < 0)),.int .i64 (4503599627370496 + frc b),.int .i64 (fld b - 1075),.bool true]) (by simp [results,Tryz.results105,go_sem]) rfl ⟨ret_ttt4 k.out.1 k.out.2.1 k.out.2.2.1 k.out.2.2.2,rfl⟩
   ·have k:=hideIt (parts_not h0 h1 h2)
    go_enter Tryz.func105,Tryz.ntmps105
    go_wp2_with (first
     | (go_at_call 144; refine (refCut _ _ hb).mono ?_; rintro e w1 ⟨rfl,rfl⟩)
     | (go_at_call 145; refine (refClass _ _ hb).mono ?_; rintro e w1 ⟨rfl,rfl⟩))
    refine bodyPost_ret (v:=.tuple #[.bool false,.int .i64 0,.int .i64 0,.bool false]) (by simp [results,Tryz.results105,go_sem]) rfl ⟨ret_ttt4 k.out.1 k.out.2.1 k.out.2.2.1 k.out.2.2.2,rfl⟩
def told (b:Int):Int:=if cls b=4 then 9221120237041090561 else b
theorem no64 {b:Int} (hb:rng b):(FloatKind.f64.format.order (wd b) (wd b) != some .eq)=decide (cls b=4):=by
 have:=same_order hb hb
 unfold bne
 rw [this]; unfold same
 by_cases h:cls b=4 <;> simp [h]
theorem run_bits64 (n:Nat) (w:World):(callFunc 58 #[.float .f64 n]).run Tryz.prog w=.ok (.value (.int .u64 n)) w:=by
 rw [run_callFunc_extern Tryz.func58 (by kernel_rfl) (by kernel_rfl) (by kernel_rfl) (e:=Extern.MathFloatBits.float64bits) (by kernel_rfl)]
 rfl
theorem bitsOf (b:Int) (w:World) (hb:rng b) :
  Calls Tryz.prog 62 #[.float .f64 (wd b)] w fun e w'=>e=.returned (.int .i64 (told b))∧w'=w:=by
 have hd:=run_bits64
 have hn:=no64 hb
 have hw:Hid (wrap64 (wd b:Int)=b):=by unfold Hid wrap64 wd; unfold rng at hb; omega
 by_cases h:cls b=4
 ·have hn':(FloatKind.f64.format.order (wd b) (wd b) != some .eq)=true:=by rw [hn]; simp [h]
  clear hn
  go_enter Tryz.func62,Tryz.ntmps62
  go_wp2
  go_ret
  exact ⟨b_ret_int (by simp [told,h]),rfl⟩
 ·have hn':(FloatKind.f64.format.order (wd b) (wd b) != some .eq)=false:=by rw [hn]; simp [h]
  clear hn
  go_enter Tryz.func62,Tryz.ntmps62
  go_wp2
  go_ret
  exact ⟨b_ret_int (by rw [hw.out]; simp [told,h]),rfl⟩
def litR (g:Nat) (x:Int):NumR:=⟨false,some ⟨g,0,none⟩,1,1,fun _=>x,0⟩
theorem third (g k:Nat):qR64 0 (litR g 1) (litR k 3)=(4599676419421066581,true):=by
 have e:qR64 0 (litR g 1) (litR k 3)=qR64 0 (litR 0 1) (litR 0 3):=rfl
 rw [e]
 decide +kernel
def NumR.neg (r:NumR):NumR:=⟨!r.ng,r.ao,r.n,r.cap,r.d,r.e⟩
theorem NumR.neg_V (r:NumR):r.neg.V=-r.V:=by
 show sg (!r.ng) _ * _=_
 rw [sg_not,Int.neg_mul]; rfl
theorem NumR.neg_sane {r:NumR} (h:Sane r):Sane r.neg:=h
set_option maxRecDepth 100000 in
set_option maxHeartbeats 1000000 in
theorem sub1_any (x y:NumR) (g h:Nat) (w:World) (cg:w.heap[g]?=some (.cells #[.bool x.ng,.slice x.ao x.n x.cap,.int .i64 x.e] 34 (0,0))) (ch:w.heap[h]?=some (.cells #[.bool y.ng,.slice y.ao y.n y.cap,.int .i64 y.e] 34 (0,0)))
  (hx:Row w x.ao x.n x.cap x.d) (hy:Row w y.ao y.n y.cap y.d) (sx:Sane x) (sy:Sane y) (hT:Tab w) :
  Calls Tryz.prog 84 #[.pointer (some ⟨g,0,none⟩),.pointer (some ⟨h,0,none⟩)] w (DOut w (x.V + y.V)):=by
 obtain ⟨an,ao,n,ca,a,e⟩:=x
 obtain ⟨bn,bo,m,cb,b,f⟩:=y
 simp only at cg ch hx hy
 have hb:=bel_alloc w (.cells #[.bool false,.slice none 0 0,.int .i64 0] 34)
 have g0:=heap_past (.cells #[.bool false,.slice none 0 0,.int .i64 0] 34) cg
 have g1:=heap_past (.cells #[.bool false,.slice none 0 0,.int .i64 0] 34) ch
 have k0:=blkC g0 0 rfl
 have k1:=blkC g0 1 rfl
 have k2:=blkC g0 2 rfl
 have j0:=blkC g1 0 rfl
 have j1:=blkC g1 1 rfl
 have j2:=blkC g1 2 rfl
 have hN:=fun q=>nums2 (w:=(w.alloc (.cells #[.bool false,.slice none 0 0,.int .i64 0] 34)).alloc (.cells #[.bool an,.slice ao n ca,.int .i64 e,.bool bn,.slice bo m cb,.int .i64 f] 34)) (g:=w.heap.size + 1) (x:=⟨an,ao,n,ca,a,e⟩) (y:=⟨bn,bo,m,cb,b,f⟩) (t:=34) q (hx.keeps (bel_alloc2 _ _ _)) (hy.keeps (bel_alloc2 _ _ _))
 go_enter Tryz.func84,Tryz.ntmps84
 go_wp2_with fail
 refine (total_any _ _ _ _ _ (hN (heap_b2 _ _ _)) (fun i hi=>?_) (by omega) (hT.keeps (bel_alloc2 _ _ _))).mono ?_
 ·match i,hi with
  | 0,_=>exact sx
  | 1,_=>exact sy
 rw [sumV2]
 rintro r w7 (⟨hok,v,rfl,hD⟩ | ⟨hno,rfl,hb7⟩)
 ·have hb7:=hD.below
  obtain ⟨ng',s',m',e',rfl,hyy,hA⟩:=id hD
  obtain ⟨so,sn,sc,rfl⟩:=hA.num.shape
  have q0:=(hb7.block w.heap.size (by rw [size2]; omega)).trans (heap_a2 _ _ _)
  have x0:=blkC q0 0 rfl
  have x1:=blkC q0 1 rfl
  have x2:=blkC q0 2 rfl
  have z0:=blkF q0 0
  have z1:=blkF q0 1
  have z2:=blkF q0 2
  go_wp2
  refine bodyPost_ret (v:=.agg #[.bool ng',.slice so sn sc,.int .i64 e']) (by simp [results,Tryz.results84,go_sem,x0,x1,x2]) rfl ?_
  exact .inl ⟨hok,_,rfl,dans_res3 (g:=w.heap.size) hD (bel_alloc2 _ _ _) (Nat.le_refl _) (by rw [size2]; omega) _ _ _⟩
 ·exact ⟨rfl,.inr ⟨hno,rfl,bel_trans (bel_alloc2 _ _ _) hb7⟩⟩
set_option maxRecDepth 100000 in
set_option maxHeartbeats 1000000 in
theorem dsub_ok (x y:NumR) (w:World) (hx:Row w x.ao x.n x.cap x.d) (hy:Row w y.ao y.n y.cap y.d) (ox:okR x=true) (oy:okR y=true) (hT:Tab w) :
  Calls Tryz.prog 53 #[x.v,y.v] w fun r w'=>∃ v er,r=.returned (.tuple #[v,.int .i64 er])∧DFit w w' (x.V - y.V) v er:=by
 have hmf:∀ (fn:Fn) (first cap:Array Value) (w:World),(Instr.makeFunc fn first cap).run Tryz.prog w=.ok (.func fn first cap) w:=fun _ _ _ _=>rfl
 have hE:∀ (cap:Array Value) (w:World),(callFunc 84 cap).run Tryz.prog w=.ok (.enter 84 cap) w:=by
  intro cap w
  simp [go_sem]
 have hA:=allOk2 x y
 rw [ox,oy] at hA
 have hN:=fun W q hb=>nums2 (w:=W) (g:=w.heap.size + 3) (x:=x) (y:=y) (t:=34) q (hx.keeps hb) (hy.keeps hb)
 have hC:=fun W hb cg ch=>sub1_any x y.neg w.heap.size (w.heap.size + 1) W cg ch (hx.keeps hb) (hy.keeps hb) (okR_sane ox) (NumR.neg_sane (okR_sane oy)) (hT.keeps hb)
 generalize pair2 x y=pr at hA hN
 rw [show x.V - y.V=x.V + y.neg.V by rw [NumR.neg_V]; omega]
 generalize x.V + y.neg.V=V at hC ⊢
 clear ox oy
 obtain ⟨an,ao,n,ca,a,e⟩:=x
 obtain ⟨bn,bo,m,cb,b,f⟩:=y
 unfold NumR.v
 unfold NumR.neg at hC
 simp only at hx hy hN hC ⊢
 go_enter Tryz.func53,Tryz.ntmps53
 go_wp2_with fail
 refine (dvalids_any _ _ _ _ _ (hN _ (h4_3 _ _ _ _ _) (bel_a4 _ _ _ _ _))).mono ?_
 rw [hA]
 rintro r w1 ⟨rfl,hb1⟩
 have hbw:=bel_trans (bel_a4 w _ _ _ _) hb1
 have g0:=(hb1.block w.heap.size (by rw [size4]; omega)).trans (h4_0 _ _ _ _ _)
 have g1:=(hb1.block (w.heap.size + 1) (by rw [size4]; omega)).trans (h4_1 _ _ _ _ _)
 have g2:=(hb1.block (w.heap.size + 2) (by rw [size4]; omega)).trans (h4_2 _ _ _ _ _)
 have hs4:w.heap.size + 4 <= w1.heap.size:=by have:=hb1.size; rw [size4] at this; exact this
 have y0:=blkC g1 0 rfl
 have y1:=blkF g1 0
 go_wp2_with fail
 have hbw':Below w.heap.size w (w1.setCell ⟨w.heap.size + 1,0,none⟩ (.bool (!bn))):=hbw.setCell (p:=⟨w.heap.size + 1,0,none⟩) (Nat.le_succ _) _
 have u0:=(Below.heap_setCell w1 ⟨w.heap.size + 1,0,none⟩ (.bool (!bn)) w.heap.size (by show w.heap.size ≠ w.heap.size + 1; omega)).trans g0
 have u2:=(Below.heap_setCell w1 ⟨w.heap.size + 1,0,none⟩ (.bool (!bn)) (w.heap.size + 2) (by show w.heap.size + 2 ≠ w.heap.size + 1; omega)).trans g2
 have u1:=heap_set g1 0 (.bool (!bn))
 have us:(w1.setCell ⟨w.heap.size + 1,0,none⟩ (.bool (!bn))).heap.size=w1.heap.size:=by simp [World.setCell]
 generalize w1.setCell ⟨w.heap.size + 1,0,none⟩ (.bool (!bn))=w9 at hbw' u0 u1 u2 us ⊢
 clear hbw g0 g1 g2 hb1 y0 y1
 have hbw:=hbw'
 have g0:=u0
 have g1:w9.heap[w.heap.size + 1]?=some (.cells #[.bool (!bn),.slice bo m cb,.int .i64 f] 34 (0,0)):=u1
 have g2:=u2
 refine (told_any (V:=V) (hE _) (fun W hW=>hC W (bel_trans hbw hW) ((hW.block _ (by omega)).trans g0) ((hW.block _ (by omega)).trans g1))).mono ?_
 rintro r w2 ⟨v,er,rfl,hF⟩
 obtain ⟨ng',so,sn,sc,e',rfl⟩:=hF.shape
 have q0:=(hF.1.block (w.heap.size + 2) (by omega)).trans g2
 have x0:=blkC q0 0 rfl
 have x1:=blkC q0 1 rfl
 have x2:=blkC q0 2 rfl
 have z0:=blkF q0 0
 have z1:=blkF q0 1
 have z2:=blkF q0 2
 go_wp2
 refine bodyPost_ret (v:=.tuple #[.agg #[.bool ng',.slice so sn sc,.int .i64 e'],.int .i64 er]) (by simp [results,Tryz.results53,go_sem,x0,x1,x2]) rfl ⟨_,_,rfl,?_⟩
 exact dfit_res (g:=w.heap.size + 2) hF hbw (by omega) (by omega) _ _ _
def mulV (x y:NumR):Int:=sg (x.ng != y.ng) (val x.d x.n * val y.d y.n) * pw (x.e + y.e)
theorem mulV_eq {x y:NumR} (hx:-2097152 <= x.e) (hy:-2097152 <= y.e):mulV x y * 2 ^ 4194304=x.V * y.V:=by
 unfold mulV NumR.V
 rw [Int.mul_assoc,<- pw_mul hx hy,<- sg_mul]; grind
set_option maxRecDepth 100000 in
set_option maxHeartbeats 2000000 in
theorem dproduct_any (x y:NumR) (w:World) (hx:Row w x.ao x.n x.cap x.d) (hy:Row w y.ao y.n y.cap y.d) (sx:Sane x) (sy:Sane y) :
  Calls Tryz.prog 87 #[x.v,y.v] w fun r w'=>∃ s,r=.returned (.agg #[.bool (x.ng != y.ng),s,.int .i64 (x.e + y.e)])∧Ans w w' (val x.d x.n * val y.d y.n) s:=by
 obtain ⟨an,ao,n,ca,a,e⟩:=x
 obtain ⟨bn,bo,m,cb,b,f⟩:=y
 obtain ⟨s1,s2,s3,s4⟩:=sx
 obtain ⟨t1,t2,t3,t4⟩:=sy
 unfold NumR.v
 simp only at *
 have hw:IntKind.i64.wrap (e + f)=e + f:=by rw [wrap_i64_eq]; omega
 have hb3:=bel_a3 w (.cells #[.bool an,.slice ao n ca,.int .i64 e] 34) (.cells #[.bool bn,.slice bo m cb,.int .i64 f] 34) (.cells #[.bool false,.slice none 0 0,.int .i64 0] 34)
 have g0:=h3_0 w (.cells #[.bool an,.slice ao n ca,.int .i64 e] 34) (.cells #[.bool bn,.slice bo m cb,.int .i64 f] 34) (.cells #[.bool false,.slice none 0 0,.int .i64 0] 34)
 have g1:=h3_1 w (.cells #[.bool an,.slice ao n ca,.int .i64 e] 34) (.cells #[.bool bn,.slice bo m cb,.int .i64 f] 34) (.cells #[.bool false,.slice none 0 0,.int .i64 0] 34)
 have g2:=h3_2 w (.cells #[.bool an,.slice ao n ca,.int .i64 e] 34) (.cells #[.bool bn,.slice bo m cb,.int .i64 f] 34) (.cells #[.bool false,.slice none 0 0,.int .i64 0] 34)
 have hs3:=size3 w (.cells #[.bool an,.slice ao n ca,.int .i64 e] 34) (.cells #[.bool bn,.slice bo m cb,.int .i64 f] 34) (.cells #[.bool false,.slice none 0 0,.int .i64 0] 34)
 go_enter Tryz.func87,Tryz.ntmps87
 go_wp2_with fail
 have HX:=hx.keeps hb3
 have HY:=hy.keeps hb3
 generalize ((w.alloc (.cells #[.bool an,.slice ao n ca,.int .i64 e] 34)).alloc (.cells #[.bool bn,.slice bo m cb,.int .i64 f] 34)).alloc (.cells #[.bool false,.slice none 0 0,.int .i64 0] 34)=wx at hb3 g0 g1 g2 hs3 HX HY ⊢
 have k0:=blkC g0 0 rfl
 have k1:=blkC g0 1 rfl
 have k2:=blkC g0 2 rfl
 have j0:=blkC g1 0 rfl
 have j1:=blkC g1 1 rfl
 have j2:=blkC g1 2 rfl
 have hb1:=bel_refl wx
 have C1:∀ W,Below wx.heap.size wx W->Calls Tryz.prog 120 #[.slice ao n ca,.slice bo m cb] W fun r w'=>∃ so sn sc,r=.returned (.slice so sn sc)∧Ans W w' (val a n * val b m) (.slice so sn sc)∧Below W.heap.size W w':=fun W h=>by
  refine (product_any ao bo n m ca cb a b W (HX.keeps h) (HY.keeps h) s1.1 t1.1 (by omega) (by omega)).mono ?_
  rintro r w' ⟨v,rfl,hA⟩
  obtain ⟨so,sn,sc,rfl⟩:=hA.num.shape
  exact ⟨so,sn,sc,rfl,hA,hA.below⟩
 go_region_held3 (fun W=>(W.cell? ⟨w.heap.size,0,none⟩=some (.bool an)∧W.cell? ⟨w.heap.size,1,none⟩=some (.slice ao n ca)∧W.cell? ⟨w.heap.size,2,none⟩=some (.int .i64 e))∧W.cell? ⟨w.heap.size + 1,0,none⟩=some (.bool bn)∧W.cell? ⟨w.heap.size + 1,1,none⟩=some (.slice bo m cb)∧W.cell? ⟨w.heap.size + 1,2,none⟩=some (.int .i64 f))
  (first | assumption | exact ⟨⟨k0,k1,k2⟩,j0,j1,j2⟩ | exact ⟨keepB (W:=wx.drew) ⟨k0,k1,k2⟩ hbv1,keepB (W:=wx.drew) ⟨j0,j1,j2⟩ hbv1⟩ | exact ⟨keepS (keepB (W:=wx.drew) ⟨k0,k1,k2⟩ hbv1) (by omega) _ _ _,keepS (keepB (W:=wx.drew) ⟨j0,j1,j2⟩ hbv1) (by omega) _ _ _⟩)
  (first | (go_at_call 120; refine (C1 _ hb1.drew).mono ?_; rintro y w3 ⟨so,sn,sc,rfl,hv,hbv1⟩; have q0:=(hbv1.block (w.heap.size + 2) (by show _ < wx.heap.size; omega)).trans g2; have x0:=blkC q0 0 rfl; have x1:=blkC q0 1 rfl; have x2:=blkC q0 2 rfl; have z0:=blkF q0 0; have z1:=blkF q0 1; have z2:=blkF q0 2) | fail)
 all_goals go_wp2
 all_goals
  refine bodyPost_ret (v:=.agg #[.bool (!(an == bn)),.slice so sn sc,.int .i64 (e + f)]) (by simp [results,Tryz.results87,go_sem,x0,x1,x2]) rfl ⟨_,rfl,?_⟩
  exact ans_res (g:=w.heap.size + 2) (hv.from hb1.drew) hb3 (by omega) (by omega) _ _ _
set_option maxRecDepth 100000 in
set_option maxHeartbeats 1000000 in
theorem mul1_any (x y:NumR) (g h:Nat) (w:World) (cg:w.heap[g]?=some (.cells #[.bool x.ng,.slice x.ao x.n x.cap,.int .i64 x.e] 34 (0,0))) (ch:w.heap[h]?=some (.cells #[.bool y.ng,.slice y.ao y.n y.cap,.int .i64 y.e] 34 (0,0)))
  (hx:Row w x.ao x.n x.cap x.d) (hy:Row w y.ao y.n y.cap y.d) (sx:Sane x) (sy:Sane y) (hT:Tab w) :
  Calls Tryz.prog 85 #[.pointer (some ⟨g,0,none⟩),.pointer (some ⟨h,0,none⟩)] w (DOut w (mulV x y)):=by
 have hP:=fun W hb=>dproduct_any x y W (hx.keeps hb) (hy.keeps hb) sx sy
 have hV:mulV x y=sg (x.ng != y.ng) (val x.d x.n * val y.d y.n) * pw (x.e + y.e):=rfl
 have he:-4194304 <= x.e + y.e:=by have:=sx.2.2.1; have:=sy.2.2.1; omega
 have hlen:val x.d x.n * val y.d y.n < P 10000:=by
  have a1:=val_lt sx.1.1
  have a2:=val_lt sy.1.1
  have b1:=val_nonneg sx.1.1
  have b2:=val_nonneg sy.1.1
  have c1:val x.d x.n * val y.d y.n <= P x.n * val y.d y.n:=Int.mul_le_mul_of_nonneg_right (by omega) b2
  have c2:P x.n * val y.d y.n < P x.n * P y.n:=Int.mul_lt_mul_of_pos_left a2 (P_pos _)
  rw [<- P_add] at c2
  have:=P_le (show x.n + y.n <= 10000 by have:=sx.2.1; have:=sy.2.1; omega)
  omega
 generalize mulV x y=V at hV ⊢
 unfold NumR.v at hP
 obtain ⟨an,ao,n,ca,a,e⟩:=x
 obtain ⟨bn,bo,m,cb,b,f⟩:=y
 simp only at cg ch hx hy hP hV he hlen
 have hb:=bel_alloc w (.cells #[.bool false,.slice none 0 0,.int .i64 0] 34)
 have g0:=heap_past (.cells #[.bool false,.slice none 0 0,.int .i64 0] 34) cg
 have g1:=heap_past (.cells #[.bool false,.slice none 0 0,.int .i64 0] 34) ch
 have k0:=blkC g0 0 rfl
 have k1:=blkC g0 1 rfl
 have k2:=blkC g0 2 rfl
 have j0:=blkC g1 0 rfl
 have j1:=blkC g1 1 rfl
 have j2:=blkC g1 2 rfl
 clear sx sy
 have HV:Hid (V=sg (an != bn) (val a n * val b m) * pw (e + f)):=hV
 clear hV
 go_enter Tryz.func85,Tryz.ntmps85
 go_wp2_with fail
 refine (hP _ hb).mono ?_
 rintro r w3 ⟨s,rfl,hA⟩
 obtain ⟨so,sn,sc,d,rfl,hR,hN,hv⟩:=hA.num
 have hsn:sn <= 10000:=hA.num.len hlen
 have hb3:=bel_trans hb hA.below
 go_wp2_with fail
 refine (settle_any (V:=V) hR hN.1 (by omega) (hT.keeps hb3) he (by rw [hv]; exact HV.out)).mono ?_
 rintro r w7 (⟨hok,v,rfl,hD⟩ | ⟨hno,rfl,hb7⟩)
 ·have hb7:=hD.below
  obtain ⟨ng',s',m',e',rfl,hyy,hA2⟩:=id hD
  obtain ⟨so',sn',sc',rfl⟩:=hA2.num.shape
  have q0:=((bel_trans hA.below hb7).block w.heap.size (by rw [size1]; omega)).trans (heap_a1 _ _)
  have x0:=blkC q0 0 rfl
  have x1:=blkC q0 1 rfl
  have x2:=blkC q0 2 rfl
  have z0:=blkF q0 0
  have z1:=blkF q0 1
  have z2:=blkF q0 2
  go_wp2
  refine bodyPost_ret (v:=.agg #[.bool ng',.slice so' sn' sc',.int .i64 e']) (by simp [results,Tryz.results85,go_sem,x0,x1,x2]) rfl ?_
  exact .inl ⟨hok,_,rfl,dans_res3 (g:=w.heap.size) hD hb3 (Nat.le_refl _) (Nat.lt_of_lt_of_le (by rw [size1]; omega) hA.below.size) _ _ _⟩
 ·exact ⟨rfl,.inr ⟨hno,rfl,bel_trans hb3 hb7⟩⟩
set_option maxRecDepth 100000 in
set_option maxHeartbeats 1000000 in
theorem dmul_ok (x y:NumR) (w:World) (hx:Row w x.ao x.n x.cap x.d) (hy:Row w y.ao y.n y.cap y.d) (ox:okR x=true) (oy:okR y=true) (hT:Tab w) :
  Calls Tryz.prog 54 #[x.v,y.v] w fun r w'=>∃ v er,r=.returned (.tuple #[v,.int .i64 er])∧DFit w w' (mulV x y) v er:=by
 have hmf:∀ (fn:Fn) (first cap:Array Value) (w:World),(Instr.makeFunc fn first cap).run Tryz.prog w=.ok (.func fn first cap) w:=fun _ _ _ _=>rfl
 have hE:∀ (cap:Array Value) (w:World),(callFunc 85 cap).run Tryz.prog w=.ok (.enter 85 cap) w:=by
  intro cap w
  simp [go_sem]
 have hA:=allOk2 x y
 rw [ox,oy] at hA
 have hN:=fun W q hb=>nums2 (w:=W) (g:=w.heap.size + 3) (x:=x) (y:=y) (t:=34) q (hx.keeps hb) (hy.keeps hb)
 have hC:=fun W hb cg ch=>mul1_any x y w.heap.size (w.heap.size + 1) W cg ch (hx.keeps hb) (hy.keeps hb) (okR_sane ox) (okR_sane oy) (hT.keeps hb)
 generalize pair2 x y=pr at hA hN
 generalize mulV x y=V at hC ⊢
 clear ox oy
 obtain ⟨an,ao,n,ca,a,e⟩:=x
 obtain ⟨bn,bo,m,cb,b,f⟩:=y
 unfold NumR.v
 simp only at hx hy hN hC ⊢
 go_enter Tryz.func54,Tryz.ntmps54
 go_wp2_with fail
 refine (dvalids_any _ _ _ _ _ (hN _ (h4_3 _ _ _ _ _) (bel_a4 _ _ _ _ _))).mono ?_
 rw [hA]
 rintro r w1 ⟨rfl,hb1⟩
 have hbw:=bel_trans (bel_a4 w _ _ _ _) hb1
 have g0:=(hb1.block w.heap.size (by rw [size4]; omega)).trans (h4_0 _ _ _ _ _)
 have g1:=(hb1.block (w.heap.size + 1) (by rw [size4]; omega)).trans (h4_1 _ _ _ _ _)
 have g2:=(hb1.block (w.heap.size + 2) (by rw [size4]; omega)).trans (h4_2 _ _ _ _ _)
 have hs4:w.heap.size + 4 <= w1.heap.size:=by have:=hb1.size; rw [size4] at this; exact this
 go_wp2_with fail
 refine (told_any (V:=V) (hE _) (fun W hW=>hC W (bel_trans hbw hW) ((hW.block _ (by omega)).trans g0) ((hW.block _ (by omega)).trans g1))).mono ?_
 rintro r w2 ⟨v,er,rfl,hF⟩
 obtain ⟨ng',so,sn,sc,e',rfl⟩:=hF.shape
 have q0:=(hF.1.block (w.heap.size + 2) (by omega)).trans g2
 have x0:=blkC q0 0 rfl
 have x1:=blkC q0 1 rfl
 have x2:=blkC q0 2 rfl
 have z0:=blkF q0 0
 have z1:=blkF q0 1
 have z2:=blkF q0 2
 go_wp2
 refine bodyPost_ret (v:=.tuple #[.agg #[.bool ng',.slice so sn sc,.int .i64 e'],.int .i64 er]) (by simp [results,Tryz.results54,go_sem,x0,x1,x2]) rfl ⟨_,_,rfl,?_⟩
 exact dfit_res (g:=w.heap.size + 2) hF hbw (by omega) (by omega) _ _ _
set_option maxRecDepth 100000 in
set_option maxHeartbeats 1000000 in
theorem dsignF_any (x:NumR) (w:World) (hx:Row w x.ao x.n x.cap x.d) :
  Calls Tryz.prog 45 #[x.v] w fun r w'=>r=.returned (.tuple #[.int .i64 (if okR x then sgn x.ng x.n else 0),.int .i64 (if okR x then 0 else 11)])∧Below w.heap.size w w':=by
 have hV:=fun W hb=>dvalid_any x.ng x.ao x.n x.cap x.d x.e W (hx.keeps hb)
 have hS:=fun W=>dsign_any x.ng x.ao x.n x.cap x.e W (by have:=hx.le; have:=hx.max; omega)
 have hk:okN x.ng x.d x.n x.e=okR x:=rfl
 rw [hk] at hV
 unfold NumR.v
 generalize okR x=ok at *
 obtain ⟨an,ao,n,ca,a,e⟩:=x
 simp only at *
 cases ok
 ·go_enter Tryz.func45,Tryz.ntmps45
  go_wp2_with fail
  refine (hV _ (bel_alloc _ _)).mono ?_
  rintro r w1 ⟨rfl,hb1⟩
  go_wp2
  go_ret2
  exact ⟨rfl,bel_trans (bel_alloc _ _) hb1⟩
 ·go_enter Tryz.func45,Tryz.ntmps45
  go_wp2_with fail
  refine (hV _ (bel_alloc _ _)).mono ?_
  rintro r w1 ⟨rfl,hb1⟩
  have g0:=(hb1.block w.heap.size (by rw [size1]; omega)).trans (heap_a1 _ _)
  have k0:=blkC g0 0 rfl
  have k1:=blkC g0 1 rfl
  have k2:=blkC g0 2 rfl
  go_wp2_with fail
  refine (hS _).mono ?_
  rintro r w2 ⟨rfl,hb2⟩
  go_wp2
  go_ret2
  exact ⟨rfl,bel_trans (bel_trans (bel_alloc _ _) hb1) hb2⟩
theorem keep66 {W w':World} {g h:Nat} {a b c d e f:Value} (hb:Below W.heap.size W w') (hS:(W.cell? ⟨g,0,none⟩=some a∧W.cell? ⟨g,1,none⟩=some b∧W.cell? ⟨g,2,none⟩=some c)∧W.cell? ⟨h,0,none⟩=some d∧W.cell? ⟨h,1,none⟩=some e∧W.cell? ⟨h,2,none⟩=some f) :
  (w'.cell? ⟨g,0,none⟩=some a∧w'.cell? ⟨g,1,none⟩=some b∧w'.cell? ⟨g,2,none⟩=some c)∧w'.cell? ⟨h,0,none⟩=some d∧w'.cell? ⟨h,1,none⟩=some e∧w'.cell? ⟨h,2,none⟩=some f :=
 ⟨keepB hS.1 hb,keepB hS.2 hb⟩
theorem sgn_V {x:NumR} (sx:Sane x):(sgn x.ng x.n=0∧x.V=0∧x.n=0)∨(sgn x.ng x.n=1∧0 < x.V∧0 < x.n∧x.ng=false)∨(sgn x.ng x.n=-1∧x.V < 0∧0 < x.n∧x.ng=true):=by
 by_cases h0:x.n=0
 ·left
  refine ⟨by simp [sgn,h0],?_,h0⟩
  show sg x.ng (val x.d x.n) * _=0
  rw [h0]
  show sg x.ng 0 * _=0
  rw [sg_zero,Int.zero_mul]
 ·right
  have hp:=Int.mul_pos (val_pos sx.1 (show 0 < x.n by omega)) (pw_pos x.e)
  have hV:x.V=sg x.ng (val x.d x.n) * pw x.e:=rfl
  cases hg:x.ng
  ·left
   rw [hg] at hV
   exact ⟨by simp [sgn,h0],by rw [hV]; exact hp,by omega,rfl⟩
  ·right
   rw [hg] at hV
   refine ⟨by simp [sgn,h0],?_,by omega,rfl⟩
   rw [hV]
   show -val x.d x.n * pw x.e < 0
   rw [Int.neg_mul]; omega
theorem DNum.open {w:World} {v:Value} {V:Int} (h:DNum w v V) (ok:Dok V):∃ x:NumR,v=x.v∧Row w x.ao x.n x.cap x.d∧okR x=true∧x.V=V:=by
 obtain ⟨ng,s,m,e,rfl,hy,ao,n,cap,d,rfl,hR,hN,rfl⟩:=h
 refine ⟨⟨ng,ao,n,cap,d,e⟩,rfl,hR,?_,hy.val.symm⟩
 obtain ⟨o1,o2,o3⟩:=hy.ok.1 ok
 refine decide_eq_true ?_
 by_cases h0:n=0
 ·left
  have hz:val d n=0:=by rw [h0]; rfl
  rcases hy.form with ⟨_,f2,f3⟩ | ⟨f1,_⟩
  ·exact ⟨h0,f2,f3⟩
  ·omega
 ·right
  have hp:=val_pos hN (show 0 < n by omega)
  rcases hy.form with ⟨f1,_⟩ | ⟨_,f2⟩
  ·omega
  ·refine ⟨by show 0 < n; omega,⟨?_,hN⟩,?_,o2,o3⟩
   ·exact Num.len (w:=w) (ao:=ao) (cap:=cap) ⟨_,_,_,_,rfl,hR,hN,rfl⟩ o1
   ·obtain ⟨k,hk⟩:∃ k,n=1 + k:=⟨n - 1,by omega⟩
    have:=val_split d 1 k
    rw [<- hk] at this
    rw [this,show val d 1=d 0 by show 0 + d 0 * 1=_; omega,show P 1=1073741824 from rfl] at f2
    show d 0 % 2=1
    omega
theorem DFit.yes {w w':World} {V er:Int} {v:Value} (h:DFit w w' V v er) (ok:Dok V):er=0∧DAns w w' V v:=by
 rcases h.2 with ⟨_,h1,h2⟩ | ⟨hn,_⟩
 ·exact ⟨h1,h2⟩
 ·exact absurd ok hn
theorem add_D {w:World} {x y:Value} {A B:Int} (hx:DNum w x A) (hy:DNum w y B) (oA:Dok A) (oB:Dok B) (hT:Tab w) :
  Calls Tryz.prog 52 #[x,y] w fun r w'=>∃ v er,r=.returned (.tuple #[v,.int .i64 er])∧DFit w w' (A + B) v er:=by
 obtain ⟨x,rfl,hR,ok,rfl⟩:=hx.open oA
 obtain ⟨y,rfl,hR',ok',rfl⟩:=hy.open oB
 exact dadd_ok x y w hR hR' ok ok' hT
theorem sub_D {w:World} {x y:Value} {A B:Int} (hx:DNum w x A) (hy:DNum w y B) (oA:Dok A) (oB:Dok B) (hT:Tab w) :
  Calls Tryz.prog 53 #[x,y] w fun r w'=>∃ v er,r=.returned (.tuple #[v,.int .i64 er])∧DFit w w' (A - B) v er:=by
 obtain ⟨x,rfl,hR,ok,rfl⟩:=hx.open oA
 obtain ⟨y,rfl,hR',ok',rfl⟩:=hy.open oB
 exact dsub_ok x y w hR hR' ok ok' hT
theorem mul_D {w:World} {x y:Value} {A B:Int} (hx:DNum w x A) (hy:DNum w y B) (oA:Dok A) (oB:Dok B) (hT:Tab w) :
  Calls Tryz.prog 54 #[x,y] w fun r w'=>∃ v er C,r=.returned (.tuple #[v,.int .i64 er])∧C * 2 ^ 4194304=A * B∧DFit w w' C v er:=by
 obtain ⟨x,rfl,hR,ok,rfl⟩:=hx.open oA
 obtain ⟨y,rfl,hR',ok',rfl⟩:=hy.open oB
 refine (dmul_ok x y w hR hR' ok ok' hT).mono ?_
 rintro r w' ⟨v,er,rfl,hF⟩
 exact ⟨v,er,_,rfl,mulV_eq (by have:=(okR_sane ok).2.2.1; omega) (by have:=(okR_sane ok').2.2.1; omega),hF⟩
theorem sign_D {w:World} {x:Value} {A:Int} (hx:DNum w x A) (oA:Dok A) :
  Calls Tryz.prog 45 #[x] w fun r w'=>r=.returned (.tuple #[.int .i64 (ord A 0),.int .i64 0])∧Below w.heap.size w w':=by
 obtain ⟨x,rfl,hR,ok,rfl⟩:=hx.open oA
 have:=dsignF_any x w hR
 rw [ok] at this
 have e:sgn x.ng x.n=ord x.V 0:=by
  rcases sgn_V (okR_sane ok) with ⟨a,b,_⟩ | ⟨a,b,_⟩ | ⟨a,b,_⟩
  ·rw [a,b,ord_eq rfl]
  ·rw [a,ord_gt b]
  ·rw [a,ord_lt b]
 rw [<- e]
 exact this
end Go.Proofs.YtinccocmgkjalaaGreatDoor
