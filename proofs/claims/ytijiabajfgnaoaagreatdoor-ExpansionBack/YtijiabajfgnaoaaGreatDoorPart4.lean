/- Parts of the proof. -/
import Derived.Test.YtijiabajfgnaoaaGreatDoorPart3
import Derived.Deep.LoopGhost
import Derived.Laws.Externs
import Derived.Laws.Cover2
import Derived.Deep.AppendLies
import Derived.Deep.RegionLaw
import Derived.Test.YtijiabajfgnaoaaGreatDoorRows
import Derived.ProofKit
import Derived.OpenShut
import Derived.ChangeOld
import Derived.LaidMore
import Derived.Deep.Strs
import Derived.Lib.LaidTab
import Derived.MakeChecks
import Derived.Stop.LaidErr
set_option linter.unusedVariables false
set_option linter.unusedSimpArgs false
namespace Go.Proofs.YtijiabajfgnaoaaGreatDoor
open Go Go.RowKit Go.Proofs.YtijiabajfgnaoaaGreatDoor.M
def bRung (way:Int) (ng:Bool):Int:=if rUp way ng true 3 then 9218868437227405312 else 9218868437227405311
def patS (ng:Bool) (r:Int):Int:=if ng then r - 9223372036854775808 else r
theorem or_inf:bits BinOp.or IntKind.i64 9218868437227405312 (-9223372036854775808)=-4503599627370496:=by decide +kernel
theorem or_most:bits BinOp.or IntKind.i64 9218868437227405311 (-9223372036854775808)=-4503599627370497:=by decide +kernel
theorem Env.keeps {w w':World} (h:Env w) (hb:Below w.heap.size w w'):Env w' :=
  ⟨⟨cell_keeps h.lays.a0 hb,cell_keeps h.lays.a1 hb,cell_keeps h.lays.a2 hb,trivial,trivial,trivial⟩,fun j hj=>cell_keeps (h.tab j hj) hb⟩
set_option maxRecDepth 100000 in
set_option maxHeartbeats 1000000 in
theorem beyond_any (way:Int) (hw:0 <= way∧way <= 3) (ng:Bool) (w:World) :
    Calls Tryz.prog 71 #[wayV way,.bool ng,.int .i64 9218868437227405312,.int .i64 (-9223372036854775808)] w fun e w'=>e=.returned (.int .i64 (patS ng (bRung way ng)))∧Below w.heap.size w w':=by
  have hF:=wraise_any way hw
  have hE:=wraise_enter way
  unfold wayV bRung
  generalize wayF way=F at hF hE ⊢
  have q0:=heap_alloc_new w (.cells #[.func (.func F) #[] #[]] 98)
  have k0:=blkC q0 0 rfl
  have o1:=or_inf
  have o2:=or_most
  obtain ⟨R,hR⟩:∃ R,rUp way ng true 3=R:=⟨_,rfl⟩
  have hFF:=hF ng true 3
  rw [hR] at hFF ⊢
  clear hR hF
  cases ng <;> cases R
  all_goals
    unfold patS
    go_enter Tryz.func71,Tryz.ntmps71
    go_wp2_with (first | (refine (hFF _).mono ?_; rintro _ _ ⟨rfl,rfl⟩))
    all_goals go_ret
    all_goals exact ⟨by simp,bel_alloc _ _⟩
def r64 (way:Int) (ng sd:Bool) (mag:Nat) (exp:Int) (cut:Bool):Int × Bool :=
  let E:=rE 53 (-1074) mag exp
  let u:=rU mag (E - exp)
  let left:=rL mag cut (E - exp)
  let U:=u + (if rUp way ng (decide (u % 2=1)) left then 1 else 0)
  let neg:=ng && (decide (0 < U) || sd)
  if jk 52 2047 (-1074) U E then (jp neg U E,decide (left ≠ 0)) else (patS neg (bRung way neg),true)
set_option maxRecDepth 100000 in
set_option maxHeartbeats 1000000 in
theorem binary64_any (way:Int) (hw:0 <= way∧way <= 3) (ng sd:Bool) (mag:Nat) (exp:Int) (cut:Bool) (w:World) (Ev:Env w) (hm:mag < 18446744073709551616) (he:-4500000 <= exp∧exp <= 4500000) :
    Calls Tryz.prog 49 #[valV ng mag exp cut sd,wayV way] w fun e w'=>e=.returned (.tuple #[.int .i64 (r64 way ng sd mag exp cut).1,.bool (r64 way ng sd mag exp cut).2])∧Below w.heap.size w w':=by
  have e64:(2:Nat) ^ 64=18446744073709551616:=by decide
  have e53:(2:Nat) ^ (53:Int).toNat=9007199254740992:=by decide
  have hE:-5000000 <= rE 53 (-1074) mag exp∧rE 53 (-1074) mag exp <= 5000000:=by
    have hbl:Lib.bitLen mag <= 64:=by
      by_cases h0:mag=0
      . rw [h0]; decide
      . exact (M.bitLen_spec mag (by omega) h0).2.2.2
    unfold rE
    omega
  have hu:rU mag (rE 53 (-1074) mag exp - exp) <= 9007199254740991:=by
    by_cases h0:mag=0
    . rw [h0]; unfold rU; split <;> simp
    . have:=(rU_bits (size:=53) (low:=-1074) (exp:=exp) (by decide) (by omega) h0).1
      rw [e53] at this
      omega
  have hUn:=fun W=>units_any way hw ng mag exp (rE 53 (-1074) mag exp) cut sd W hm hE (by omega) (by omega)
  have HR:r64 way ng sd mag exp cut=(let E:=rE 53 (-1074) mag exp
    let u:=rU mag (E - exp)
    let left:=rL mag cut (E - exp)
    let U:=u + (if rUp way ng (decide (u % 2=1)) left then 1 else 0)
    let neg:=ng && (decide (0 < U) || sd)
    if jk 52 2047 (-1074) U E then (jp neg U E,decide (left ≠ 0)) else (patS neg (bRung way neg),true)):=rfl
  simp only at HR
  have hEE:rE 53 (-1074) mag exp=rE 53 (-1074) mag exp:=rfl
  obtain ⟨E,hEq⟩:∃ E,rE 53 (-1074) mag exp=E:=⟨_,rfl⟩
  rw [hEq] at hE hu hUn HR
  obtain ⟨left,hleft⟩:∃ l,rL mag cut (E - exp)=l:=⟨_,rfl⟩
  rw [hleft] at hUn HR
  obtain ⟨U,hU⟩:∃ U,rU mag (E - exp) + (if rUp way ng (decide (rU mag (E - exp) % 2=1)) left then 1 else 0)=U:=⟨_,rfl⟩
  rw [hU] at hUn HR
  have hU2:U <= 9007199254740992:=by rw [<- hU]; split <;> omega
  obtain ⟨neg,hneg⟩:∃ n,(ng && (decide (0 < U) || sd))=n:=⟨_,rfl⟩
  have hFl:=fun W=>float_F (wayF way) ng mag exp 53 (-1074) cut sd U E (decide (left ≠ 0)) W hm he (by omega) (by omega) hEq (by omega) hUn
  rw [hneg] at hFl HR
  have hJ:=fun W (EW:Env W)=>bitsJoin neg (U:Int) E W EW (by unfold rng; omega) (by unfold rng; omega)
  have hB:=fun W=>beyond_any way hw neg W
  obtain ⟨other,hoth⟩:∃ o,decide (left ≠ 0)=o:=⟨_,rfl⟩
  rw [hoth] at hFl HR
  obtain ⟨fin,hfin⟩:∃ f,jk 52 2047 (-1074) (U:Int) E=f:=⟨_,rfl⟩
  obtain ⟨pt,hpt⟩:∃ p,jp neg (U:Int) E=p:=⟨_,rfl⟩
  rw [hpt] at hJ HR
  rw [hfin] at hJ HR
  obtain ⟨by1,hby⟩:∃ b,patS neg (bRung way neg)=b:=⟨_,rfl⟩
  rw [hby] at hB HR
  rw [HR]
  have hUi:((U:Nat):Int)=((U:Nat):Int):=rfl
  have hb2:=bel_alloc2 w (.cells #[.bool ng,.int .u64 mag,.int .i64 exp,.bool cut,.bool sd] 79) (.cells #[.func (.func (wayF way)) #[] #[]] 98)
  have q1:=heap_b2 w (.cells #[.bool ng,.int .u64 mag,.int .i64 exp,.bool cut,.bool sd] 79) (.cells #[.func (.func (wayF way)) #[] #[]] 98)
  have k1:=blkC q1 0 rfl
  have HEV:Hid (Env w):=Ev
  clear Ev HR hUn hEq hleft hU hneg hoth hfin hpt hby hU2 hu hE hEE hUi e64 e53
  unfold wayV valV at *
  generalize wayF way=F at *
  go_enter Tryz.func49,Tryz.ntmps49
  go_wp2_with fail
  refine (hFl _).mono ?_
  rintro _ w1 ⟨rfl,hb1⟩
  have hbw:=bel_trans hb2 hb1
  have p1:=(hb1.block _ (Array.getElem?_eq_some_iff.1 q1).1).trans q1
  have k2:=blkC p1 0 rfl
  clear hFl hb2 hb1 q1 k1
  go_wp2_with fail
  refine (hJ _ (HEV.out.keeps hbw)).mono ?_
  rintro _ w2 ⟨rfl,hg⟩
  have hb2:=hg.be
  have hbw2:=bel_trans hbw hb2
  have p2:=(hb2.block _ (Array.getElem?_eq_some_iff.1 p1).1).trans p1
  have k3:=blkC p2 0 rfl
  clear hJ hg p1 p2 k2 hb2 hbw
  cases fin
  . go_wp2_with fail
    refine (hB _).mono ?_
    rintro _ w3 ⟨rfl,hb3⟩
    go_wp2
    all_goals go_ret2
    all_goals exact ⟨by simp,bel_trans hbw2 hb3⟩
  . go_wp2
    all_goals go_ret2
    all_goals exact ⟨by simp,hbw2⟩
theorem Num.parts {w:World} {v:Value} {V:Int} (h:Num w v V) {k:Nat} (hV:V < P k):∃ ao n cap d,v=.slice ao n cap∧Row w ao n cap d∧Nrm d n∧val d n=V∧n <= k:=by
  obtain ⟨ao,n,cap,rfl⟩:=h.shape
  have hl:=h.len hV
  obtain ⟨ao',n',cap',d,e,hR,h2,h3⟩:=h
  simp only [Value.slice.injEq] at e
  obtain ⟨rfl,rfl,rfl⟩:=e
  exact ⟨ao,n,cap,d,rfl,hR,h2,h3,hl⟩
theorem low_mod {V l:Int} (h:LowA V l) (h0:0 < V) (k:Nat):decide (l < (k:Int))=decide (V % 2 ^ k ≠ 0):=by
  obtain ⟨j,rfl,q,hq⟩:=lowA_pos h h0
  by_cases hjk:j < k
  . rw [decide_eq_true (by omega)]
    refine (decide_eq_true ?_).symm
    intro hz
    obtain ⟨d,hd⟩:∃ d,k=j + 1 + d:=⟨k - j - 1,by omega⟩
    have h1:(2:Int) ^ k ∣ V:=Int.dvd_of_emod_eq_zero hz
    obtain ⟨c,hc⟩:=h1
    rw [hq,hd,Int.pow_add,Int.pow_succ] at hc
    have hp:=two_pos j
    have e:(2:Int) ^ j * (2 * q + 1)=2 ^ j * (2 * (2 ^ d * c)):=by
      rw [Int.mul_comm,hc]
      simp only [Int.mul_assoc]
    have:=Int.eq_of_mul_eq_mul_left (by omega) e
    omega
  . rw [decide_eq_false (by omega)]
    refine (decide_eq_false ?_).symm
    intro hz
    apply hz
    obtain ⟨d,hd⟩:∃ d,j=k + d:=⟨j - k,by omega⟩
    rw [hq,hd,Int.pow_add,Int.mul_comm,Int.mul_assoc]
    exact Int.mul_emod_right _ _
set_option maxRecDepth 100000 in
set_option maxHeartbeats 1000000 in
theorem scaled_low (ao:Option Addr) (n ca:Nat) (a:Nat->Int) (k:Nat) (w:World) (ha:Row w ao n ca a) (na:Nrm a n) (hn:n <= 5000) (hk0:0 < k) (hk:k <= 1000000) (h0:0 < val a n) (hT:Tab w) :
    Calls Tryz.prog 96 #[.slice ao n ca,.int .i64 (-(k:Int))] w fun e w'=>∃ v,e=.returned (.tuple #[v,.bool (decide (val a n % 2 ^ k ≠ 0))])∧Ans w w' (val a n / 2 ^ k) v:=by
  have CL:Hid (∀ W,Below w.heap.size w W->_):=fun W hb=>lower_any ao n ca k a W (ha.keeps hb) na.1 (by omega) (by omega)
  have CW:Hid (∀ W,Below w.heap.size w W->_):=fun W hb=>lowest_any ao n ca a W (ha.keeps hb) na.1 (by omega) (hT.keeps hb)
  have HM:Hid (∀ l,LowA (val a n) l->decide (l < (k:Int))=decide (val a n % 2 ^ k ≠ 0)):=fun l h=>low_mod h h0 k
  generalize decide (val a n % 2 ^ k ≠ 0)=R at HM ⊢
  generalize val a n / 2 ^ k=Q at CL ⊢
  have w1:IntKind.i64.wrap (k:Int)=(k:Int):=by rw [wrap_i64_eq]; omega
  go_enter Tryz.func96,Tryz.ntmps96
  go_wp2_with fail
  refine (CL.out _ (bel_refl _)).mono ?_
  rintro _ w2 ⟨v,rfl,hA⟩
  have hb2:=hA.below
  have HA:Hid (Ans w w2 Q v):=hA
  obtain ⟨so,sn,sc,rfl⟩:=hA.num.shape
  clear hA CL
  go_wp2_with fail
  refine (CW.out _ hb2).mono ?_
  rintro _ w3 ⟨l,rfl,hl,rfl⟩
  have hr:=HM.out l hl
  go_wp2
  all_goals refine bodyPost_ret (v:=.tuple #[.slice so sn sc,.bool R]) (by simp [results,Tryz.results96,go_sem]) rfl ⟨_,rfl,HA.out⟩
set_option maxRecDepth 100000 in
set_option maxHeartbeats 1000000 in
theorem scaled_zero (ao:Option Addr) (n ca:Nat) (a:Nat->Int) (w:World) (ha:Row w ao n ca a) (na:Nrm a n) (hn:n <= 5000) :
    Calls Tryz.prog 96 #[.slice ao n ca,.int .i64 0] w fun e w'=>∃ v,e=.returned (.tuple #[v,.bool false])∧Ans w w' (val a n) v:=by
  have CR:Hid (Calls Tryz.prog 77 #[.slice ao n ca,.int .i64 0] w fun e w'=>∃ v,e=.returned v∧Ans w w' (val a n) v):=by
    have h:=raise_any ao n ca 0 a w ha na.1 (by omega) (by omega)
    rw [Int.pow_zero,Int.mul_one] at h
    exact h
  go_enter Tryz.func96,Tryz.ntmps96
  go_wp2_with fail
  refine CR.out.mono ?_
  rintro _ w2 ⟨v,rfl,hA⟩
  have HA:Hid (Ans w w2 (val a n) v):=hA
  obtain ⟨so,sn,sc,rfl⟩:=hA.num.shape
  clear hA CR
  go_wp2
  all_goals refine bodyPost_ret (v:=.tuple #[.slice so sn sc,.bool false]) (by simp [results,Tryz.results96,go_sem]) rfl ⟨_,rfl,HA.out⟩
theorem wr5 (W:World) (g:Nat) (a b c d e:Value):Wr g W (((((W.setCell ⟨g,0,none⟩ a).setCell ⟨g,1,none⟩ b).setCell ⟨g,2,none⟩ c).setCell ⟨g,3,none⟩ d).setCell ⟨g,4,none⟩ e):=(((((Wr.refl g W).setCell 0 a).setCell 1 b).setCell 2 c).setCell 3 d).setCell 4 e
def vK (M:Int):Nat:=blen M - 62
theorem vK_small {M:Int} (h:0 <= M):0 <= M / 2 ^ vK M∧M / 2 ^ vK M < 4611686018427387904:=by
  have hp:=two_pos (vK M)
  refine ⟨Int.ediv_nonneg h (by omega),?_⟩
  have h1:=blen_lt M
  have h2:(2:Int) ^ blen M <= 2 ^ (62 + vK M):=two_le (by unfold vK; omega)
  have e:(2:Int) ^ (62 + vK M)=4611686018427387904 * 2 ^ vK M:=by rw [Int.pow_add]; rfl
  exact Int.ediv_lt_of_lt_mul hp (by omega)
theorem blen_nrm {a:Nat->Int} {n:Nat} (na:Nrm a n):blen (val a n) <= 30 * n:=by
  cases n with
  | zero=>show blen 0 <= _; rw [blen_zero]; omega
  | succ m=>
    rw [blen_val na]
    have h:blen (a m) <= 30:=blen_le (by show a m < 1073741824; exact (na.1 m (by omega)).2)
    omega
set_option maxRecDepth 100000 in
set_option maxHeartbeats 2000000 in
theorem valueOf_any (ng:Bool) (ao:Option Addr) (n ca:Nat) (a:Nat->Int) (e:Int) (w:World) (ha:Row w ao n ca a) (na:Nrm a n) (hn:n <= 5000) (he:-1100000 <= e∧e <= 1100000) (hT:Tab w) :
    Calls Tryz.prog 72 #[.agg #[.bool ng,.slice ao n ca,.int .i64 e]] w fun r w'=>r=.returned (valV ng (val a n / 2 ^ vK (val a n)).toNat (e + vK (val a n)) (decide (val a n % 2 ^ vK (val a n) ≠ 0)) false)∧Below w.heap.size w w':=by
  have hv0:=val_nonneg na.1
  have hbl:blen (val a n) <= 150000:=by have:=blen_nrm na; omega
  have CB:Hid (∀ W,Below w.heap.size w W->_):=fun W hb=>bitLength_any ao n ca a W (ha.keeps hb) na (by omega)
  obtain ⟨k,hk⟩:∃ k,vK (val a n)=k:=⟨_,rfl⟩
  have hsm:=vK_small hv0
  rw [hk] at hsm ⊢
  have CS:Hid (∀ W,Below w.heap.size w W->Calls Tryz.prog 96 #[.slice ao n ca,.int .i64 (-(k:Int))] W fun e w'=>∃ v,e=.returned (.tuple #[v,.bool (decide (val a n % 2 ^ k ≠ 0))])∧Ans W w' (val a n / 2 ^ k) v):=fun W hb=>by
    by_cases h0:k=0
    . subst h0
      have h:=scaled_zero ao n ca a W (ha.keeps hb) na hn
      simpa using h
    . have hp:0 < val a n:=by
        rcases Int.lt_or_eq_of_le hv0 with h | h
        . exact h
        . exfalso; rw [<- h] at hk; apply h0; rw [<- hk]; decide
      exact scaled_low ao n ca a k W (ha.keeps hb) na hn (by omega) (by unfold vK at hk; omega) hp (hT.keeps hb)
  have hbk:min (62 - (blen (val a n):Int)) 0=-(k:Int):=by unfold vK at hk; omega
  obtain ⟨B,hB⟩:∃ B:Int,(blen (val a n):Int)=B:=⟨_,rfl⟩
  have hB0:0 <= B∧B <= 150000:=by omega
  rw [hB] at CB hbk
  have hk2:k <= 150000:=by unfold vK at hk; omega
  generalize decide (val a n % 2 ^ k ≠ 0)=R at CS ⊢
  obtain ⟨Q,hQ⟩:∃ Q:Nat,val a n / 2 ^ k=(Q:Int):=Int.eq_ofNat_of_zero_le hsm.1
  rw [hQ] at CS hsm ⊢
  rw [Int.toNat_natCast]
  have CM:Hid (∀ (W':World) so sn sc,Num W' (.slice so sn sc) (Q:Int)->Calls Tryz.prog 97 #[.slice so sn sc] W' fun e w'=>e=.returned (.int .i64 (Q:Int))∧w'=W'):=fun W' so sn sc hA=>by
    obtain ⟨ao',n',ca',d',hs,hR,hN,hV,hl⟩:=hA.parts (k:=3) (by rw [show P 3=1237940039285380274899124224 by decide]; omega)
    simp only [Value.slice.injEq] at hs
    obtain ⟨rfl,rfl,rfl⟩:=hs
    rw [<- hV]
    exact small_any _ _ _ _ _ hR hN.1 hl (by omega)
  have w1:IntKind.i64.wrap (62 - B)=62 - B:=by rw [wrap_i64_eq]; omega
  have w2:IntKind.i64.wrap (e + k)=e + k:=by rw [wrap_i64_eq]; omega
  have w3:IntKind.u64.wrap (Q:Int)=(Q:Int):=by rw [IntKind.wrap_u64]; omega
  have hmin:∀ (ts:Array TypeId) (t:TypeId) (x y:Int) (w:World),(Builtin.min_ ts t #[.int .i64 x,.int .i64 y]).run Tryz.prog w=.ok (.int .i64 (min x y)) w:=fun ts t x y w=>by rw [run_min_int2]; congr 2; omega
  have q0:=heap_a2 w (.cells #[.bool ng,.slice ao n ca,.int .i64 e] 27) (.cells #[.bool false,.int .u64 0,.int .i64 0,.bool false,.bool false] 79)
  have q1:=heap_b2 w (.cells #[.bool ng,.slice ao n ca,.int .i64 e] 27) (.cells #[.bool false,.int .u64 0,.int .i64 0,.bool false,.bool false] 79)
  have hb1:=bel_alloc2 w (.cells #[.bool ng,.slice ao n ca,.int .i64 e] 27) (.cells #[.bool false,.int .u64 0,.int .i64 0,.bool false,.bool false] 79)
  clear hQ hk hB hbl hv0 hsm hT
  unfold valV
  go_enter Tryz.func72,Tryz.ntmps72
  go_wp2_with fail
  generalize (w.alloc (.cells #[.bool ng,.slice ao n ca,.int .i64 e] 27)).alloc (.cells #[.bool false,.int .u64 0,.int .i64 0,.bool false,.bool false] 79)=wx at q0 q1 hb1 ⊢
  refine (CB.out _ hb1).mono ?_
  rintro _ _ ⟨rfl,rfl⟩
  have k1:=blkC q0 1 rfl
  go_wp2_with fail
  refine (CS.out _ hb1).mono ?_
  rintro _ w4 ⟨v,rfl,hA⟩
  have hb4:=hA.below
  obtain ⟨so,sn,sc,rfl⟩:=hA.num.shape
  have CM1:Hid (Calls Tryz.prog 97 #[.slice so sn sc] w4.drew fun e w'=>e=.returned (.int .i64 (Q:Int))∧w'=w4.drew):=CM.out w4.drew so sn sc (hA.num.keeps (bel_refl w4).drew)
  have hbw:=bel_trans hb1 hb4
  have p0:=(hb4.block _ (Array.getElem?_eq_some_iff.1 q0).1).trans q0
  have p1:=(hb4.block _ (Array.getElem?_eq_some_iff.1 q1).1).trans q1
  clear CB CS k1 hA CM
  have c0:=blkC p0 0 rfl
  have c2:=blkC p0 2 rfl
  have x0:=blkC p1 0 rfl
  have x1:=blkC p1 1 rfl
  have x2:=blkC p1 2 rfl
  have x3:=blkC p1 3 rfl
  have x4:=blkC p1 4 rfl
  have z0:=blkF p1 0
  have z1:=blkF p1 1
  have z2:=blkF p1 2
  have z3:=blkF p1 3
  have z4:=blkF p1 4
  go_wp2_with fail
  have c1:=blkC p0 1 rfl
  go_region_with (go_at_call 97; refine CM1.out.mono ?_; rintro _ _ ⟨rfl,rfl⟩)
  all_goals go_wp2
  all_goals refine bodyPost_ret (v:=.agg #[.bool ng,.int .u64 Q,.int .i64 (e + k),.bool R,.bool false]) (by simp [results,Tryz.results72,go_sem,x0,x1,x2,x3,x4]) rfl ⟨rfl,?_⟩
  all_goals exact ((wr5 w4 (w.heap.size + 1) _ _ _ _ _).below hbw hbw.size (Nat.le_succ _)).drew
set_option maxRecDepth 100000 in
set_option maxHeartbeats 1000000 in
theorem itself_any (p:Nat) (off cap len:Nat) (ng:Bool) (ao:Option Addr) (n ca:Nat) (a:Nat->Int) (e:Int) (w:World) (c0:w.cell? ⟨p,off,none⟩=some (.bool ng)) (c1:w.cell? ⟨p,off + 1,none⟩=some (.slice ao n ca)) (c2:w.cell? ⟨p,off + 2,none⟩=some (.int .i64 e)) (hl:0 < len) (ha:Row w ao n ca a) (na:Nrm a n) (hn:n <= 5000) (he:-1100000 <= e∧e <= 1100000) (hT:Tab w) :
    Calls Tryz.prog 50 #[.slice (some ⟨p,off,none⟩) len cap] w fun r w'=>r=.returned (.tuple #[valV ng (val a n / 2 ^ vK (val a n)).toNat (e + vK (val a n)) (decide (val a n % 2 ^ vK (val a n) ≠ 0)) false,.int .i64 0])∧Below w.heap.size w w':=by
  have CV:Hid (∀ W,Below w.heap.size w W->_):=fun W hb=>valueOf_any ng ao n ca a e W (ha.keeps hb) na hn he (hT.keeps hb)
  unfold valV at *
  generalize (val a n / 2 ^ vK (val a n)).toNat=Q at CV ⊢
  generalize e + vK (val a n)=E at CV ⊢
  generalize decide (val a n % 2 ^ vK (val a n) ≠ 0)=R at CV ⊢
  have q0:=heap_alloc_new w (.cells #[.bool false,.int .u64 0,.int .i64 0,.bool false,.bool false] 79)
  have hb1:=bel_alloc w (.cells #[.bool false,.int .u64 0,.int .i64 0,.bool false,.bool false] 79)
  have d0:=cell_keeps c0 hb1
  have d1:=cell_keeps c1 hb1
  have d2:=cell_keeps c2 hb1
  go_enter Tryz.func50,Tryz.ntmps50
  go_wp2_with fail
  refine (CV.out _ hb1).mono ?_
  rintro _ w2 ⟨rfl,hb2⟩
  have p1:=(hb2.block _ (Array.getElem?_eq_some_iff.1 q0).1).trans q0
  have hbw:=bel_trans hb1 hb2
  clear d0 d1 d2 c0 c1 c2 CV
  have x0:=blkC p1 0 rfl
  have x1:=blkC p1 1 rfl
  have x2:=blkC p1 2 rfl
  have x3:=blkC p1 3 rfl
  have x4:=blkC p1 4 rfl
  have z0:=blkF p1 0
  have z1:=blkF p1 1
  have z2:=blkF p1 2
  have z3:=blkF p1 3
  have z4:=blkF p1 4
  go_wp2
  all_goals refine bodyPost_ret (v:=.tuple #[.agg #[.bool ng,.int .u64 Q,.int .i64 E,.bool R,.bool false],.int .i64 0]) (by simp [results,Tryz.results50,go_sem,x0,x1,x2,x3,x4]) rfl ⟨rfl,?_⟩
  all_goals exact (wr5 w2 w.heap.size _ _ _ _ _).below hbw hbw.size (Nat.le_refl _)
set_option maxRecDepth 100000 in
set_option maxHeartbeats 1000000 in
theorem rounded_ok (way:Int) (hw:0 <= way∧way <= 3) (F G:Nat) (lo:Option Addr) (ln lc:Nat) (r:Nat->NumR) (w:World) (hl:Nums w lo ln lc r) (ok:∀ i,i < ln->okR (r i)=true) (ng:Bool) (mag:Nat) (exp:Int) (cut sd:Bool) (b:Int) (o:Bool)
    (hEF:∀ (cap:Array Value) (w:World),(callFunc F cap).run Tryz.prog w=.ok (.enter F cap) w) (hEG:∀ (cap:Array Value) (w:World),(callFunc G cap).run Tryz.prog w=.ok (.enter G cap) w)
    (hG:∀ W,Below w.heap.size w W->Calls Tryz.prog G #[.slice lo ln lc] W fun e w'=>e=.returned (.tuple #[valV ng mag exp cut sd,.int .i64 0])∧Below W.heap.size W w')
    (hF:∀ W,Below w.heap.size w W->Calls Tryz.prog F #[valV ng mag exp cut sd,wayV way] W fun e w'=>e=.returned (.tuple #[.int .i64 b,.bool o])∧Below W.heap.size W w') :
    Calls Tryz.prog 48 #[.int .i64 way,.func (.func F) #[] #[],.func (.func G) #[] #[],.slice lo ln lc] w fun e w'=>e=.returned (.tuple #[.int .i64 b,.bool o,.int .i64 0])∧Below w.heap.size w w':=by
  have hst:∀ (p:Addr) (F:Nat) (m:Mode) (w:World),(store p (.func (.func F) #[] #[]) m).run Tryz.prog w=stored Tryz.prog w p (.func (.func F) #[] #[]) m:=fun p F m w=>run_store _ w p _ m rfl
  have hle:=hl.le
  have hma:=hl.max
  unfold valV wayV at *
  have CW:=wayOf_any way w
  rw [if_pos hw,decide_eq_true hw] at CW
  unfold wayV at CW
  generalize wayF way=K at *
  go_enter Tryz.func48,Tryz.ntmps48
  go_wp2_with fail
  refine CW.mono ?_
  rintro _ w1 ⟨rfl,hb1⟩
  have q1:=heap_alloc_new w1 (.cells #[.nilFunc] 98)
  have y0:=blkC q1 0 rfl
  have y1:=blkF q1 0
  go_wp2_with fail
  have q2:=heap_alloc_new w1 (.cells #[.func (.func K) #[] #[]] 98)
  have hb2:=bel_trans hb1 (bel_alloc w1 (.cells #[.func (.func K) #[] #[]] 98))
  generalize w1.alloc (.cells #[.func (.func K) #[] #[]] 98)=w2 at q2 hb2 ⊢
  clear q1 y0 y1 CW
  go_loopw [28] (fun iv wr=>∃ k:Nat,iv=.int .i64 k∧k <= ln∧Hid (wr.heap[w1.heap.size]?=some (.cells #[.func (.func K) #[] #[]] 98 (0,0)))∧Below w.heap.size w wr) (fun iv _=>ln - (intOf iv).toNat)
  case atStart=>exact ⟨0,rfl,Nat.zero_le _,q2,hb2⟩
  case round=>
    clear q2 hb2
    obtain ⟨k,rfl,hk,HQ,hbw⟩:=hrel
    by_cases hlt:k < ln
    . obtain ⟨ba,oa,rfl,hba,hca⟩:=hl.spot (by omega)
      obtain ⟨c0,c1,c2,hR⟩:=(hca k hlt).keeps hbw hba
      have hok:=ok k hlt
      have CV:=fun W (hb:Below wr.heap.size wr W)=>dvalid_any (r k).ng (r k).ao (r k).n (r k).cap (r k).d (r k).e W (hR.keeps hb)
      unfold okR at hok
      rw [hok] at CV
      clear hok hR hca
      generalize r k=x at c0 c1 c2 CV
      obtain ⟨x_g,x_o,x_n,x_c,x_d,x_e⟩:=x
      simp only at c0 c1 c2 CV
      have hb3:=bel_alloc wr (.cells #[.bool x_g,.slice x_o x_n x_c,.int .i64 x_e] 27)
      have HQ3:Hid ((wr.alloc (.cells #[.bool x_g,.slice x_o x_n x_c,.int .i64 x_e] 27)).heap[w1.heap.size]?=some (.cells #[.func (.func K) #[] #[]] 98 (0,0))):=(hb3.block _ (Array.getElem?_eq_some_iff.1 HQ.out).1).trans HQ.out
      go_wp2_with fail
      refine (CV _ hb3).mono ?_
      rintro _ w4 ⟨rfl,hb4⟩
      have HQ4:Hid (w4.heap[w1.heap.size]?=some (.cells #[.func (.func K) #[] #[]] 98 (0,0))):=(hb4.block _ (Array.getElem?_eq_some_iff.1 HQ3.out).1).trans HQ3.out
      have hbw4:=hbw.trans ((bel_trans hb3 hb4).mono hbw.size)
      clear CV HQ3 hb3 hb4 c0 c1 c2
      go_wp2
      go_roundw
      case rel=>exact ⟨k + 1,by go_num,by omega,HQ4.out,hbw4⟩
      case measure=>simp [intOf]; omega
    . obtain rfl:k=ln:=by omega
      go_wp2_with fail
      refine (hG _ hbw).mono ?_
      rintro _ w4 ⟨rfl,hb4⟩
      have p4:=(hb4.block _ (Array.getElem?_eq_some_iff.1 HQ.out).1).trans HQ.out
      have hbw4:=hbw.trans (hb4.mono hbw.size)
      have hb5:=bel_alloc w4 (.cells #[.bool ng,.int .u64 mag,.int .i64 exp,.bool cut,.bool sd] 79)
      have kw:=cell_keeps (blkC p4 0 rfl) hb5
      have hbw5:=hbw4.trans (hb5.mono hbw4.size)
      clear hG hb4
      go_wp2_with fail
      refine (hF _ hbw5).mono ?_
      rintro _ w6 ⟨rfl,hb6⟩
      go_wp2
      all_goals refine bodyPost_ret (v:=.tuple #[.int .i64 b,.bool o,.int .i64 0]) (by simp [results,Tryz.results48,go_sem]) rfl ⟨rfl,hbw5.trans (hb6.mono hbw5.size)⟩
set_option maxRecDepth 100000 in
set_option maxHeartbeats 1000000 in
theorem to_ok (way:Int) (hw:0 <= way∧way <= 3) (x:NumR) (w:World) (hx:Row w x.ao x.n x.cap x.d) (ok:okR x=true) (Ev:Env w) (hT:Tab w) :
    Calls Tryz.prog 29 #[x.v,.int .i64 way] w fun e w'=>e=.returned (.tuple #[.int .i64 (r64 way x.ng false (val x.d x.n / 2 ^ vK (val x.d x.n)).toNat (x.e + vK (val x.d x.n)) (decide (val x.d x.n % 2 ^ vK (val x.d x.n) ≠ 0))).1,.bool (r64 way x.ng false (val x.d x.n / 2 ^ vK (val x.d x.n)).toNat (x.e + vK (val x.d x.n)) (decide (val x.d x.n % 2 ^ vK (val x.d x.n) ≠ 0))).2,.int .i64 0])∧Below w.heap.size w w':=by
  have hS:=okR_sane ok
  obtain ⟨na,hn,he0,he1⟩:=hS
  have hv0:=val_nonneg na.1
  have hbl:vK (val x.d x.n) <= 150000:=by have:=blen_nrm na; unfold vK; omega
  have hsm:=vK_small hv0
  have hEF:∀ (cap:Array Value) (w:World),(callFunc 49 cap).run Tryz.prog w=.ok (.enter 49 cap) w:=by
    intro cap w
    simp [go_sem]
  have hEG:∀ (cap:Array Value) (w:World),(callFunc 50 cap).run Tryz.prog w=.ok (.enter 50 cap) w:=by
    intro cap w
    simp [go_sem]
  have hmf:∀ (fn:Fn) (first cap:Array Value) (w:World),(Instr.makeFunc fn first cap).run Tryz.prog w=.ok (.func fn first cap) w:=fun _ _ _ _=>rfl
  have CR:=fun W (hb:Below w.heap.size w W) (g:Nat) (hg:W.heap[g]?=some (.cells #[.bool x.ng,.slice x.ao x.n x.cap,.int .i64 x.e] 27 (0,0)))=>rounded_ok way hw 49 50 (some ⟨g,0,none⟩) 1 1 (fun _=>x) W
    ⟨Nat.le_refl _,by decide,fun _=>⟨g,0,rfl,(Array.getElem?_eq_some_iff.1 hg).1,fun i hi=>by
      obtain rfl:i=0:=by omega
      exact ⟨blkC hg 0 rfl,blkC hg 1 rfl,blkC hg 2 rfl,hx.keeps hb⟩⟩⟩ (fun _ _=>ok) x.ng (val x.d x.n / 2 ^ vK (val x.d x.n)).toNat (x.e + vK (val x.d x.n)) (decide (val x.d x.n % 2 ^ vK (val x.d x.n) ≠ 0)) false _ _ hEF hEG
    (fun W2 hb2=>itself_any g 0 1 1 x.ng x.ao x.n x.cap x.d x.e W2 (cell_keeps (blkC hg 0 rfl) hb2) (cell_keeps (blkC hg 1 rfl) hb2) (cell_keeps (blkC hg 2 rfl) hb2) (by decide) ((hx.keeps hb).keeps hb2) na hn ⟨he0,he1⟩ ((hT.keeps hb).keeps hb2))
    (fun W2 hb2=>binary64_any way hw x.ng false _ _ _ W2 ((Ev.keeps hb).keeps hb2) (by omega) (by omega))
  generalize r64 way x.ng false (val x.d x.n / 2 ^ vK (val x.d x.n)).toNat (x.e + vK (val x.d x.n)) (decide (val x.d x.n % 2 ^ vK (val x.d x.n) ≠ 0))=R at CR ⊢
  have HCR:Hid _:=CR
  unfold NumR.v
  clear ok hsm hbl hv0 he0 he1 hn na hx
  obtain ⟨x_g,x_o,x_n,x_c,x_d,x_e⟩:=x
  simp only at *
  clear HCR
  have hb2:=bel_alloc2 w (.cells #[.bool x_g,.slice x_o x_n x_c,.int .i64 x_e] 27) (.cells #[.bool x_g,.slice x_o x_n x_c,.int .i64 x_e] 27)
  have q1:=heap_b2 w (.cells #[.bool x_g,.slice x_o x_n x_c,.int .i64 x_e] 27) (.cells #[.bool x_g,.slice x_o x_n x_c,.int .i64 x_e] 27)
  go_enter Tryz.func29,Tryz.ntmps29
  go_wp2_with fail
  refine (CR _ hb2 _ q1).mono ?_
  rintro _ w2 ⟨rfl,hb3⟩
  go_wp2
  all_goals refine bodyPost_ret (v:=.tuple #[.int .i64 R.1,.bool R.2,.int .i64 0]) (by simp [results,Tryz.results29,go_sem]) rfl ⟨rfl,bel_trans hb2 hb3⟩
theorem run_from64 (n:Int) (w:World):(callFunc 73 #[.int .u64 n]).run Tryz.prog w=.ok (.value (.float .f64 n.toNat)) w:=by
  rw [run_callFunc_extern Tryz.func73 (by kernel_rfl) (by kernel_rfl) (by kernel_rfl) (e:=Extern.MathFloatBits.float64frombits) (by kernel_rfl)]
  rfl
theorem ret_float {k:FloatKind} {a b:Nat} (h:a=b):Ending.returned (.float k a)=.returned (.float k b):=by rw [h]
theorem bitsFloat (b:Int) (w:World) :
    Calls Tryz.prog 51 #[.int .i64 b] w fun e w'=>e=.returned (.float .f64 (wd b))∧w'=w:=by
  have hd:=run_from64
  go_enter Tryz.func51,Tryz.ntmps51
  go_wp2
  go_ret
  exact ⟨ret_float (by rw [IntKind.wrap_u64]; rfl),rfl⟩
theorem hideIt {p:Prop} (h:p):Hid p:=h
def told (b:Int):Int:=if cls b=4 then 9221120237041090561 else b
theorem no64 {b:Int} (hb:rng b):(FloatKind.f64.format.order (wd b) (wd b) != some .eq)=decide (cls b=4):=by
  have:=same_order hb hb
  unfold bne
  rw [this]; unfold same
  by_cases h:cls b=4 <;> simp [h]
theorem run_bits64 (n:Nat) (w:World):(callFunc 101 #[.float .f64 n]).run Tryz.prog w=.ok (.value (.int .u64 n)) w:=by
  rw [run_callFunc_extern Tryz.func101 (by kernel_rfl) (by kernel_rfl) (by kernel_rfl) (e:=Extern.MathFloatBits.float64bits) (by kernel_rfl)]
  rfl
theorem bitsOf (b:Int) (w:World) (hb:rng b) :
    Calls Tryz.prog 98 #[.float .f64 (wd b)] w fun e w'=>e=.returned (.int .i64 (told b))∧w'=w:=by
  have hd:=run_bits64
  have hn:=no64 hb
  have hw:Hid (wrap64 (wd b:Int)=b):=by unfold Hid wrap64 wd; unfold rng at hb; omega
  by_cases h:cls b=4
  . have hn':(FloatKind.f64.format.order (wd b) (wd b) != some .eq)=true:=by rw [hn]; simp [h]
    clear hn
    go_enter Tryz.func98,Tryz.ntmps98
    go_wp2
    go_ret
    exact ⟨b_ret_int (by simp [told,h]),rfl⟩
  . have hn':(FloatKind.f64.format.order (wd b) (wd b) != some .eq)=false:=by rw [hn]; simp [h]
    clear hn
    go_enter Tryz.func98,Tryz.ntmps98
    go_wp2
    go_ret
    exact ⟨b_ret_int (by rw [hw.out]; simp [told,h]),rfl⟩
def NumR.neg (r:NumR):NumR:=⟨!r.ng,r.ao,r.n,r.cap,r.d,r.e⟩
theorem NumR.neg_V (r:NumR):r.neg.V=-r.V:=by
  show sg (!r.ng) _ * _=_
  rw [sg_not,Int.neg_mul]; rfl
theorem NumR.neg_sane {r:NumR} (h:Sane r):Sane r.neg:=h
set_option maxRecDepth 100000 in
set_option maxHeartbeats 1000000 in
theorem sub1_any (x y:NumR) (g h:Nat) (w:World) (cg:w.heap[g]?=some (.cells #[.bool x.ng,.slice x.ao x.n x.cap,.int .i64 x.e] 27 (0,0))) (ch:w.heap[h]?=some (.cells #[.bool y.ng,.slice y.ao y.n y.cap,.int .i64 y.e] 27 (0,0)))
    (hx:Row w x.ao x.n x.cap x.d) (hy:Row w y.ao y.n y.cap y.d) (sx:Sane x) (sy:Sane y) (hT:Tab w) :
    Calls Tryz.prog 52 #[.pointer (some ⟨g,0,none⟩),.pointer (some ⟨h,0,none⟩)] w (DOut w (x.V + y.V)):=by
  obtain ⟨an,ao,n,ca,a,e⟩:=x
  obtain ⟨bn,bo,m,cb,b,f⟩:=y
  simp only at cg ch hx hy
  have hb:=bel_alloc w (.cells #[.bool false,.slice none 0 0,.int .i64 0] 27)
  have g0:=heap_past (.cells #[.bool false,.slice none 0 0,.int .i64 0] 27) cg
  have g1:=heap_past (.cells #[.bool false,.slice none 0 0,.int .i64 0] 27) ch
  have k0:=blkC g0 0 rfl
  have k1:=blkC g0 1 rfl
  have k2:=blkC g0 2 rfl
  have j0:=blkC g1 0 rfl
  have j1:=blkC g1 1 rfl
  have j2:=blkC g1 2 rfl
  have hN:=fun q=>nums2 (w:=(w.alloc (.cells #[.bool false,.slice none 0 0,.int .i64 0] 27)).alloc (.cells #[.bool an,.slice ao n ca,.int .i64 e,.bool bn,.slice bo m cb,.int .i64 f] 27)) (g:=w.heap.size + 1) (x:=⟨an,ao,n,ca,a,e⟩) (y:=⟨bn,bo,m,cb,b,f⟩) (t:=27) q (hx.keeps (bel_alloc2 _ _ _)) (hy.keeps (bel_alloc2 _ _ _))
  go_enter Tryz.func52,Tryz.ntmps52
  go_wp2_with fail
  refine (total_any _ _ _ _ _ (hN (heap_b2 _ _ _)) (fun i hi=>?_) (by omega) (hT.keeps (bel_alloc2 _ _ _))).mono ?_
  . match i,hi with
    | 0,_=>exact sx
    | 1,_=>exact sy
  rw [sumV2]
  rintro r w7 (⟨hok,v,rfl,hD⟩ | ⟨hno,rfl,hb7⟩)
  . have hb7:=hD.below
    obtain ⟨ng',s',m',e',rfl,hyy,hA⟩:=id hD
    obtain ⟨so,sn,sc,rfl⟩:=hA.num.shape
    have q0:=(hb7.block w.heap.size (by rw [size2]; omega)).trans (heap_a2 _ _ _)
    have x0:=blkC q0 0 rfl
    have x1:=blkC q0 1 rfl
    have x2:=blkC q0 2 rfl
    have z0:=blkF q0 0
    have z1:=blkF q0 1
    have z2:=blkF q0 2
    go_wp2
    refine bodyPost_ret (v:=.agg #[.bool ng',.slice so sn sc,.int .i64 e']) (by simp [results,Tryz.results52,go_sem,x0,x1,x2]) rfl ?_
    exact .inl ⟨hok,_,rfl,dans_res3 (g:=w.heap.size) hD (bel_alloc2 _ _ _) (Nat.le_refl _) (by rw [size2]; omega) _ _ _⟩
  . exact ⟨rfl,.inr ⟨hno,rfl,bel_trans (bel_alloc2 _ _ _) hb7⟩⟩
set_option maxRecDepth 100000 in
set_option maxHeartbeats 1000000 in
theorem dsub_ok (x y:NumR) (w:World) (hx:Row w x.ao x.n x.cap x.d) (hy:Row w y.ao y.n y.cap y.d) (ox:okR x=true) (oy:okR y=true) (hT:Tab w) :
    Calls Tryz.prog 31 #[x.v,y.v] w fun r w'=>∃ v er,r=.returned (.tuple #[v,.int .i64 er])∧DFit w w' (x.V - y.V) v er:=by
  have hmf:∀ (fn:Fn) (first cap:Array Value) (w:World),(Instr.makeFunc fn first cap).run Tryz.prog w=.ok (.func fn first cap) w:=fun _ _ _ _=>rfl
  have hE:∀ (cap:Array Value) (w:World),(callFunc 52 cap).run Tryz.prog w=.ok (.enter 52 cap) w:=by
    intro cap w
    simp [go_sem]
  have hA:=allOk2 x y
  rw [ox,oy] at hA
  have hN:=fun W q hb=>nums2 (w:=W) (g:=w.heap.size + 3) (x:=x) (y:=y) (t:=27) q (hx.keeps hb) (hy.keeps hb)
  have hC:=fun W hb cg ch=>sub1_any x y.neg w.heap.size (w.heap.size + 1) W cg ch (hx.keeps hb) (hy.keeps hb) (okR_sane ox) (NumR.neg_sane (okR_sane oy)) (hT.keeps hb)
  generalize pair2 x y=pr at hA hN
  rw [show x.V - y.V=x.V + y.neg.V by rw [NumR.neg_V]; omega]
  generalize x.V + y.neg.V=V at hC ⊢
  clear ox oy
  obtain ⟨an,ao,n,ca,a,e⟩:=x
  obtain ⟨bn,bo,m,cb,b,f⟩:=y
  unfold NumR.v
  unfold NumR.neg at hC
  simp only at hx hy hN hC ⊢
  go_enter Tryz.func31,Tryz.ntmps31
  go_wp2_with fail
  refine (dvalids_any _ _ _ _ _ (hN _ (h4_3 _ _ _ _ _) (bel_a4 _ _ _ _ _))).mono ?_
  rw [hA]
  rintro r w1 ⟨rfl,hb1⟩
  have hbw:=bel_trans (bel_a4 w _ _ _ _) hb1
  have g0:=(hb1.block w.heap.size (by rw [size4]; omega)).trans (h4_0 _ _ _ _ _)
  have g1:=(hb1.block (w.heap.size + 1) (by rw [size4]; omega)).trans (h4_1 _ _ _ _ _)
  have g2:=(hb1.block (w.heap.size + 2) (by rw [size4]; omega)).trans (h4_2 _ _ _ _ _)
  have hs4:w.heap.size + 4 <= w1.heap.size:=by have:=hb1.size; rw [size4] at this; exact this
  have y0:=blkC g1 0 rfl
  have y1:=blkF g1 0
  go_wp2_with fail
  have hbw':Below w.heap.size w (w1.setCell ⟨w.heap.size + 1,0,none⟩ (.bool (!bn))):=hbw.setCell (p:=⟨w.heap.size + 1,0,none⟩) (Nat.le_succ _) _
  have u0:=(Below.heap_setCell w1 ⟨w.heap.size + 1,0,none⟩ (.bool (!bn)) w.heap.size (by show w.heap.size ≠ w.heap.size + 1; omega)).trans g0
  have u2:=(Below.heap_setCell w1 ⟨w.heap.size + 1,0,none⟩ (.bool (!bn)) (w.heap.size + 2) (by show w.heap.size + 2 ≠ w.heap.size + 1; omega)).trans g2
  have u1:=heap_set g1 0 (.bool (!bn))
  have us:(w1.setCell ⟨w.heap.size + 1,0,none⟩ (.bool (!bn))).heap.size=w1.heap.size:=by simp [World.setCell]
  generalize w1.setCell ⟨w.heap.size + 1,0,none⟩ (.bool (!bn))=w9 at hbw' u0 u1 u2 us ⊢
  clear hbw g0 g1 g2 hb1 y0 y1
  have hbw:=hbw'
  have g0:=u0
  have g1:w9.heap[w.heap.size + 1]?=some (.cells #[.bool (!bn),.slice bo m cb,.int .i64 f] 27 (0,0)):=u1
  have g2:=u2
  refine (told_any (V:=V) (hE _) (fun W hW=>hC W (bel_trans hbw hW) ((hW.block _ (by omega)).trans g0) ((hW.block _ (by omega)).trans g1))).mono ?_
  rintro r w2 ⟨v,er,rfl,hF⟩
  obtain ⟨ng',so,sn,sc,e',rfl⟩:=hF.shape
  have q0:=(hF.1.block (w.heap.size + 2) (by omega)).trans g2
  have x0:=blkC q0 0 rfl
  have x1:=blkC q0 1 rfl
  have x2:=blkC q0 2 rfl
  have z0:=blkF q0 0
  have z1:=blkF q0 1
  have z2:=blkF q0 2
  go_wp2
  refine bodyPost_ret (v:=.tuple #[.agg #[.bool ng',.slice so sn sc,.int .i64 e'],.int .i64 er]) (by simp [results,Tryz.results31,go_sem,x0,x1,x2]) rfl ⟨_,_,rfl,?_⟩
  exact dfit_res (g:=w.heap.size + 2) hF hbw (by omega) (by omega) _ _ _
theorem ord_scale {a b p:Int} (hp:0 < p):ord (a * p) (b * p)=ord a b:=by
  rcases Int.lt_trichotomy a b with h | h | h
  . rw [ord_lt h,ord_lt (Int.mul_lt_mul_of_pos_right h hp)]
  . rw [ord_eq h,ord_eq (by rw [h])]
  . rw [ord_gt h,ord_gt (Int.mul_lt_mul_of_pos_right h hp)]
theorem dcompare_num {w:World} {x y:Value} {A B:Int} (hx:Num w x A) (hy:Num w y B) :
    Calls Tryz.prog 76 #[x,y] w fun e w'=>e=.returned (.int .i64 (ord A B))∧Below w.heap.size w w':=by
  obtain ⟨ao,n,ca,a,rfl,hR,hN,rfl⟩:=hx
  obtain ⟨bo,m,cb,b,rfl,hR',hN',rfl⟩:=hy
  exact compare_any _ _ _ _ _ _ _ _ _ hR hR' hN hN'
theorem top_lt {a b e f:Int} (ha:0 < a) (hb:0 < b) (he:-4194304 <= e) (hf:-4194304 <= f) (h:e + blen a < f + blen b):a * pw e < b * pw f:=by
  have h1:=blen_lt a
  have h2:=(blen_pos hb)
  have hpe:=pw_pos e
  have hpf:=pw_pos f
  have c1:a * pw e < 2 ^ blen a * pw e:=Int.mul_lt_mul_of_pos_right h1 hpe
  have c2:2 ^ (blen b - 1) * pw f <= b * pw f:=Int.mul_le_mul_of_nonneg_right h2.2 (Int.le_of_lt hpf)
  have c3:2 ^ blen a * pw e <= 2 ^ (blen b - 1) * pw f:=by
    unfold pw
    rw [<- Int.pow_add,<- Int.pow_add]
    exact two_le (by have:=h2.1; omega)
  omega
theorem ord_tops {a b e f:Int} (ha:0 < a) (hb:0 < b) (he:-4194304 <= e) (hf:-4194304 <= f) (h:e + blen a ≠ f + blen b):ord (e + blen a) (f + blen b)=ord (a * pw e) (b * pw f):=by
  rcases Int.lt_or_gt_of_ne h with h1 | h1
  . rw [ord_lt h1,ord_lt (top_lt ha hb he hf h1)]
  . rw [ord_gt h1,ord_gt (top_lt hb ha hf he h1)]
theorem ord_low {a b e f low:Int} (hl:-4194304 <= low) (he:low <= e) (hf:low <= f):ord (a * 2 ^ (e - low).toNat) (b * 2 ^ (f - low).toNat)=ord (a * pw e) (b * pw f):=by
  rw [pw_sub hl he,pw_sub hl hf,<- Int.mul_assoc,<- Int.mul_assoc,ord_scale (pw_pos _)]
theorem keep66 {W w':World} {g h:Nat} {a b c d e f:Value} (hb:Below W.heap.size W w') (hS:(W.cell? ⟨g,0,none⟩=some a∧W.cell? ⟨g,1,none⟩=some b∧W.cell? ⟨g,2,none⟩=some c)∧W.cell? ⟨h,0,none⟩=some d∧W.cell? ⟨h,1,none⟩=some e∧W.cell? ⟨h,2,none⟩=some f) :
    (w'.cell? ⟨g,0,none⟩=some a∧w'.cell? ⟨g,1,none⟩=some b∧w'.cell? ⟨g,2,none⟩=some c)∧w'.cell? ⟨h,0,none⟩=some d∧w'.cell? ⟨h,1,none⟩=some e∧w'.cell? ⟨h,2,none⟩=some f :=
  ⟨keepB hS.1 hb,keepB hS.2 hb⟩
set_option maxRecDepth 100000 in
set_option maxHeartbeats 2000000 in
theorem dsizes_any (x y:NumR) (w:World) (hx:Row w x.ao x.n x.cap x.d) (hy:Row w y.ao y.n y.cap y.d) (sx:Sane x) (sy:Sane y) (hz:(0 < x.n∧0 < y.n)∨(x.n=0∧y.n=0∧x.e=y.e)) :
    Calls Tryz.prog 55 #[x.v,y.v] w fun r w'=>r=.returned (.int .i64 (ord (val x.d x.n * pw x.e) (val y.d y.n * pw y.e)))∧Below w.heap.size w w':=by
  have hX:=fun W hb=>dtop_any x.ng x.ao x.n x.cap x.d x.e W (hx.keeps hb) sx.1 (by have:=sx.2.1; omega) (by have:=sx.2.2.1; omega) (by have:=sx.2.2.2; omega)
  have hY:=fun W hb=>dtop_any y.ng y.ao y.n y.cap y.d y.e W (hy.keeps hb) sy.1 (by have:=sy.2.1; omega) (by have:=sy.2.2.1; omega) (by have:=sy.2.2.2; omega)
  have lx:=sx.len
  have ly:=sy.len
  have hpp:x.e + blen (val x.d x.n) ≠ y.e + blen (val y.d y.n)->0 < val x.d x.n∧0 < val y.d y.n:=fun hne=>by
    rcases hz with ⟨h0,h1⟩ | ⟨h0,h1,h2⟩
    . exact ⟨val_pos sx.1 h0,val_pos sy.1 h1⟩
    . exact absurd (by rw [h0,h1,h2]; rfl) hne
  clear hz
  obtain ⟨an,ao,n,ca,a,e⟩:=x
  obtain ⟨bn,bo,m,cb,b,f⟩:=y
  obtain ⟨s1,s2,s3,s4⟩:=sx
  obtain ⟨t1,t2,t3,t4⟩:=sy
  unfold NumR.v
  simp only at *
  have hmin:∀ (ts:Array TypeId) (t:TypeId) (x y:Int) (w:World),(Builtin.min_ ts t #[.int .i64 x,.int .i64 y]).run Tryz.prog w=.ok (.int .i64 (min x y)) w:=fun ts t x y w=>by rw [run_min_int2]; congr 2; omega
  have hb3:=bel_alloc2 w (.cells #[.bool an,.slice ao n ca,.int .i64 e] 27) (.cells #[.bool bn,.slice bo m cb,.int .i64 f] 27)
  have g0:=heap_a2 w (.cells #[.bool an,.slice ao n ca,.int .i64 e] 27) (.cells #[.bool bn,.slice bo m cb,.int .i64 f] 27)
  have g1:=heap_b2 w (.cells #[.bool an,.slice ao n ca,.int .i64 e] 27) (.cells #[.bool bn,.slice bo m cb,.int .i64 f] 27)
  go_enter Tryz.func55,Tryz.ntmps55
  go_wp2_with fail
  generalize (w.alloc (.cells #[.bool an,.slice ao n ca,.int .i64 e] 27)).alloc (.cells #[.bool bn,.slice bo m cb,.int .i64 f] 27)=wx at hb3 g0 g1 ⊢
  have k0:=blkC g0 0 rfl
  have k1:=blkC g0 1 rfl
  have k2:=blkC g0 2 rfl
  have j0:=blkC g1 0 rfl
  have j1:=blkC g1 1 rfl
  have j2:=blkC g1 2 rfl
  have hb1:=bel_refl wx
  have CA:∀ W,Below wx.heap.size wx W->Calls Tryz.prog 75 #[.agg #[.bool an,.slice ao n ca,.int .i64 e]] W fun r w'=>r=.returned (.int .i64 (e + blen (val a n)))∧Below W.heap.size W w':=fun W h=>hX W (bel_trans hb3 h)
  have CB:∀ W,Below wx.heap.size wx W->Calls Tryz.prog 75 #[.agg #[.bool bn,.slice bo m cb,.int .i64 f]] W fun r w'=>r=.returned (.int .i64 (f + blen (val b m)))∧Below W.heap.size W w':=fun W h=>hY W (bel_trans hb3 h)
  clear hX hY
  go_region_held3 (fun W=>(W.cell? ⟨w.heap.size,0,none⟩=some (.bool an)∧W.cell? ⟨w.heap.size,1,none⟩=some (.slice ao n ca)∧W.cell? ⟨w.heap.size,2,none⟩=some (.int .i64 e))∧W.cell? ⟨w.heap.size + 1,0,none⟩=some (.bool bn)∧W.cell? ⟨w.heap.size + 1,1,none⟩=some (.slice bo m cb)∧W.cell? ⟨w.heap.size + 1,2,none⟩=some (.int .i64 f))
    (first | assumption | exact ⟨⟨k0,k1,k2⟩,j0,j1,j2⟩ | exact keep66 hbv2 (keep66 (W:=wx.drew) hbv1 ⟨⟨k0,k1,k2⟩,j0,j1,j2⟩) | exact keep66 (W:=wx.drew) hbv1 ⟨⟨k0,k1,k2⟩,j0,j1,j2⟩)
    (first | (go_at_call 75; have _t:=hbv1; refine (CB _ (bel_trans hb1.drew hbv1)).mono ?_; rintro r w4 ⟨rfl,hbv2⟩) | (go_at_call 75; refine (CA _ hb1.drew).mono ?_; rintro r w3 ⟨rfl,hbv1⟩))
  have hS4:=keep66 hbv2 (keep66 (W:=wx.drew) hbv1 ⟨⟨k0,k1,k2⟩,j0,j1,j2⟩)
  have hx4:Below wx.heap.size wx w4:=bel_trans (bel_trans hb1.drew hbv1) hbv2
  clear k0 k1 k2 j0 j1 j2 g0 g1
  obtain ⟨⟨k0,k1,k2⟩,j0,j1,j2⟩:=hS4
  by_cases heq:e + blen (val a n)=f + blen (val b m)
  . have hne:(e + (blen (val a n):Int) != f + blen (val b m))=false:=by simp [heq]
    have HEQ:Hid (e + blen (val a n)=f + blen (val b m)):=heq
    clear heq
    go_wp2_with fail
    have l1:min e f <= e:=Int.min_le_left _ _
    have l2:min e f <= f:=Int.min_le_right _ _
    have l3:e - min e f <= 150000∧f - min e f <= 150000∧-1100000 <= min e f:=by have:=HEQ.out; omega
    generalize min e f=low at l1 l2 l3 ⊢
    have HO0:=ord_low (a:=val a n) (b:=val b m) (by omega) l1 l2
    obtain ⟨ka,hka⟩:∃ ka:Nat,e - low=ka:=⟨(e - low).toNat,by omega⟩
    obtain ⟨kb,hkb⟩:∃ kb:Nat,f - low=kb:=⟨(f - low).toNat,by omega⟩
    have hwa:IntKind.i64.wrap (e - low)=(ka:Int):=by rw [wrap_i64_eq]; omega
    have hwb:IntKind.i64.wrap (f - low)=(kb:Int):=by rw [wrap_i64_eq]; omega
    rw [show (e - low).toNat=ka by omega,show (f - low).toNat=kb by omega] at HO0
    have hka0:ka <= 1000000:=by omega
    have hkb0:kb <= 1000000:=by omega
    clear hka hkb
    have hb4:=bel_refl w4
    have RA:∀ W,Below w4.heap.size w4 W->Calls Tryz.prog 77 #[.slice ao n ca,.int .i64 (ka:Int)] W fun r w'=>∃ so sn sc,r=.returned (.slice so sn sc)∧Ans W w' (val a n * 2 ^ ka) (.slice so sn sc)∧Below W.heap.size W w':=fun W h=>by
      refine (raise_any ao n ca ka a W (hx.keeps (bel_trans hb3 (bel_trans hx4 h))) s1.1 (by omega) (by omega)).mono ?_
      rintro r w' ⟨v,rfl,hA⟩
      obtain ⟨so,sn,sc,rfl⟩:=hA.num.shape
      exact ⟨so,sn,sc,rfl,hA,hA.below⟩
    have RB:∀ W,Below w4.heap.size w4 W->Calls Tryz.prog 77 #[.slice bo m cb,.int .i64 (kb:Int)] W fun r w'=>∃ so sn sc,r=.returned (.slice so sn sc)∧Ans W w' (val b m * 2 ^ kb) (.slice so sn sc)∧Below W.heap.size W w':=fun W h=>by
      refine (raise_any bo m cb kb b W (hy.keeps (bel_trans hb3 (bel_trans hx4 h))) t1.1 (by omega) (by omega)).mono ?_
      rintro r w' ⟨v,rfl,hA⟩
      obtain ⟨so,sn,sc,rfl⟩:=hA.num.shape
      exact ⟨so,sn,sc,rfl,hA,hA.below⟩
    have HO:Hid (ord (val a n * 2 ^ ka) (val b m * 2 ^ kb)=ord (val a n * pw e) (val b m * pw f)):=HO0
    have HF:Hid (Below w.heap.size w w4):=bel_trans hb3 hx4
    clear CA CB hbv1 hbv2 hx4 hb1 hb3 hx hy hpp lx ly l1 l2 l3 HEQ HO0
    go_region_held3 (fun W=>(W.cell? ⟨w.heap.size,0,none⟩=some (.bool an)∧W.cell? ⟨w.heap.size,1,none⟩=some (.slice ao n ca)∧W.cell? ⟨w.heap.size,2,none⟩=some (.int .i64 e))∧W.cell? ⟨w.heap.size + 1,0,none⟩=some (.bool bn)∧W.cell? ⟨w.heap.size + 1,1,none⟩=some (.slice bo m cb)∧W.cell? ⟨w.heap.size + 1,2,none⟩=some (.int .i64 f))
      (first | assumption | exact ⟨⟨k0,k1,k2⟩,j0,j1,j2⟩ | exact keep66 hbv5 (keep66 hbv4 (keep66 (W:=w4.drew) hbv3 ⟨⟨k0,k1,k2⟩,j0,j1,j2⟩)) | exact keep66 hbv4 (keep66 (W:=w4.drew) hbv3 ⟨⟨k0,k1,k2⟩,j0,j1,j2⟩) | exact keep66 (W:=w4.drew) hbv3 ⟨⟨k0,k1,k2⟩,j0,j1,j2⟩)
      (first | (go_at_call 76; refine (dcompare_num (hv3.num.keeps hbv4) hv4.num).mono ?_; rintro r w7 ⟨rfl,hbv5⟩) | (go_at_call 77; have _t:=hbv3; refine (RB _ (bel_trans hb4.drew hbv3)).mono ?_; rintro r w6 ⟨so4,sn4,sc4,rfl,hv4,hbv4⟩) | (go_at_call 77; refine (RA _ hb4.drew).mono ?_; rintro r w5 ⟨so3,sn3,sc3,rfl,hv3,hbv3⟩))
    go_wp2
    go_ret
    exact ⟨ret_int HO.out,bel_trans (bel_trans (bel_trans HF.out (bel_trans hb4.drew hbv3)) hbv4) hbv5⟩
  . have hne:(e + (blen (val a n):Int) != f + blen (val b m))=true:=by simp [heq]
    have HO:Hid (ord (e + blen (val a n)) (f + blen (val b m))=ord (val a n * pw e) (val b m * pw f)):=ord_tops (hpp heq).1 (hpp heq).2 (by omega) (by omega) heq
    have HF:Hid (Below w.heap.size w w4):=bel_trans hb3 hx4
    have CA4:∀ W,Below w4.heap.size w4 W->_:=fun W h=>CA W (bel_trans hx4 h)
    have CB4:∀ W,Below w4.heap.size w4 W->_:=fun W h=>CB W (bel_trans hx4 h)
    have hb4:=bel_refl w4
    clear CA CB hbv1 hbv2 hx4 hb1 hb3 hx hy hpp lx ly heq
    go_wp2_with fail
    go_region_held3 (fun W=>(W.cell? ⟨w.heap.size,0,none⟩=some (.bool an)∧W.cell? ⟨w.heap.size,1,none⟩=some (.slice ao n ca)∧W.cell? ⟨w.heap.size,2,none⟩=some (.int .i64 e))∧W.cell? ⟨w.heap.size + 1,0,none⟩=some (.bool bn)∧W.cell? ⟨w.heap.size + 1,1,none⟩=some (.slice bo m cb)∧W.cell? ⟨w.heap.size + 1,2,none⟩=some (.int .i64 f))
      (first | assumption | exact ⟨⟨k0,k1,k2⟩,j0,j1,j2⟩ | exact keep66 hbv4 (keep66 (W:=w4.drew) hbv3 ⟨⟨k0,k1,k2⟩,j0,j1,j2⟩) | exact keep66 (W:=w4.drew) hbv3 ⟨⟨k0,k1,k2⟩,j0,j1,j2⟩)
      (first | (go_at_call 54; refine (cmpInt_any _ _ _).mono ?_; rintro r w7 ⟨rfl,rfl⟩) | (go_at_call 75; have _t:=hbv3; refine (CB4 _ (bel_trans hb4.drew hbv3)).mono ?_; rintro r w6 ⟨rfl,hbv4⟩) | (go_at_call 75; refine (CA4 _ hb4.drew).mono ?_; rintro r w5 ⟨rfl,hbv3⟩))
    go_wp2
    go_ret
    exact ⟨ret_int HO.out,bel_trans (bel_trans HF.out (bel_trans hb4.drew hbv3)) hbv4⟩
theorem ord_three (a b:Int):ord a b=1∨ord a b=0∨ord a b=-1:=by
  rcases Int.lt_trichotomy a b with h | h | h
  . exact .inr (.inr (ord_lt h))
  . exact .inr (.inl (ord_eq h))
  . exact .inl (ord_gt h)
theorem sgn_V {x:NumR} (sx:Sane x):(sgn x.ng x.n=0∧x.V=0∧x.n=0)∨(sgn x.ng x.n=1∧0 < x.V∧0 < x.n∧x.ng=false)∨(sgn x.ng x.n=-1∧x.V < 0∧0 < x.n∧x.ng=true):=by
  by_cases h0:x.n=0
  . left
    refine ⟨by simp [sgn,h0],?_,h0⟩
    show sg x.ng (val x.d x.n) * _=0
    rw [h0]
    show sg x.ng 0 * _=0
    rw [sg_zero,Int.zero_mul]
  . right
    have hp:=Int.mul_pos (val_pos sx.1 (show 0 < x.n by omega)) (pw_pos x.e)
    have hV:x.V=sg x.ng (val x.d x.n) * pw x.e:=rfl
    cases hg:x.ng
    . left
      rw [hg] at hV
      exact ⟨by simp [sgn,h0],by rw [hV]; exact hp,by omega,rfl⟩
    . right
      rw [hg] at hV
      refine ⟨by simp [sgn,h0],?_,by omega,rfl⟩
      rw [hV]
      show -val x.d x.n * pw x.e < 0
      rw [Int.neg_mul]; omega
theorem ord_signs {x y:NumR} (sx:Sane x) (sy:Sane y) (h:sgn x.ng x.n ≠ sgn y.ng y.n):ord (sgn x.ng x.n) (sgn y.ng y.n)=ord x.V y.V:=by
  rcases sgn_V sx with ⟨a,b,_⟩ | ⟨a,b,_⟩ | ⟨a,b,_⟩ <;> rcases sgn_V sy with ⟨c,d,_⟩ | ⟨c,d,_⟩ | ⟨c,d,_⟩ <;> rw [a,c] at h ⊢ <;>
    first
      | exact absurd rfl h
      | (rw [ord_lt (by decide),ord_lt (by omega)])
      | (rw [ord_gt (by decide),ord_gt (by omega)])
theorem ord_neg (a b:Int):ord (-a) (-b)=-ord a b:=by
  rcases Int.lt_trichotomy a b with h | h | h
  . rw [ord_lt h,ord_gt (by omega)]; rfl
  . rw [ord_eq h,ord_eq (by omega)]; rfl
  . rw [ord_gt h,ord_lt (by omega)]
theorem ord_same {x y:NumR} (ox:okR x=true) (oy:okR y=true) (h:sgn x.ng x.n=sgn y.ng y.n):((0 < x.n∧0 < y.n)∨(x.n=0∧y.n=0∧x.e=y.e))∧sgn x.ng x.n * ord (val x.d x.n * pw x.e) (val y.d y.n * pw y.e)=ord x.V y.V:=by
  have hV:x.V=sg x.ng (val x.d x.n) * pw x.e:=rfl
  have hW:y.V=sg y.ng (val y.d y.n) * pw y.e:=rfl
  rcases sgn_V (okR_sane ox) with ⟨a,b,c⟩ | ⟨a,b,c,d⟩ | ⟨a,b,c,d⟩ <;> rcases sgn_V (okR_sane oy) with ⟨a',b',c'⟩ | ⟨a',b',c',d'⟩ | ⟨a',b',c',d'⟩ <;> rw [a,a'] at h <;> first | (exfalso; omega) | skip
  . refine ⟨.inr ⟨c,c',?_⟩,?_⟩
    . rcases of_decide_eq_true ox with ⟨_,_,e1⟩ | ⟨e1,_⟩
      . rcases of_decide_eq_true oy with ⟨_,_,e2⟩ | ⟨e2,_⟩
        . omega
        . omega
      . omega
    . rw [a,b,b',Int.zero_mul,ord_eq rfl]
  . refine ⟨.inl ⟨c,c'⟩,?_⟩
    rw [a,hV,hW,d,d',Int.one_mul]; rfl
  . refine ⟨.inl ⟨c,c'⟩,?_⟩
    rw [a,hV,hW,d,d']
    show -1 * _=ord (-val x.d x.n * _) (-val y.d y.n * _)
    rw [Int.neg_mul (val x.d x.n),Int.neg_mul (val y.d y.n),ord_neg]; omega
set_option maxRecDepth 100000 in
set_option maxHeartbeats 2000000 in
theorem dcompare_any (x y:NumR) (w:World) (hx:Row w x.ao x.n x.cap x.d) (hy:Row w y.ao y.n y.cap y.d) (ox:okR x=true) (oy:okR y=true) :
    Calls Tryz.prog 34 #[x.v,y.v] w fun r w'=>r=.returned (.int .i64 (ord x.V y.V))∧Below w.heap.size w w':=by
  have sx:=okR_sane ox
  have sy:=okR_sane oy
  have hso:sgn x.ng x.n ≠ sgn y.ng y.n->ord (sgn x.ng x.n) (sgn y.ng y.n)=ord x.V y.V:=ord_signs sx sy
  have hse:sgn x.ng x.n=sgn y.ng y.n->((0 < x.n∧0 < y.n)∨(x.n=0∧y.n=0∧x.e=y.e))∧sgn x.ng x.n * ord (val x.d x.n * pw x.e) (val y.d y.n * pw y.e)=ord x.V y.V:=ord_same ox oy
  have hZ:=fun W hb hz=>dsizes_any x y W (hx.keeps hb) (hy.keeps hb) sx sy hz
  have hX:=fun W=>dsign_any x.ng x.ao x.n x.cap x.e W (by have:=hx.le; have:=hx.max; omega)
  have hY:=fun W=>dsign_any y.ng y.ao y.n y.cap y.e W (by have:=hy.le; have:=hy.max; omega)
  generalize hU:ord x.V y.V=U at hso hse ⊢
  clear hU ox oy sx sy
  unfold NumR.v at hZ ⊢
  obtain ⟨an,ao,n,ca,a,e⟩:=x
  obtain ⟨bn,bo,m,cb,b,f⟩:=y
  simp only at *
  have hb3:=bel_alloc2 w (.cells #[.bool an,.slice ao n ca,.int .i64 e] 27) (.cells #[.bool bn,.slice bo m cb,.int .i64 f] 27)
  have g0:=heap_a2 w (.cells #[.bool an,.slice ao n ca,.int .i64 e] 27) (.cells #[.bool bn,.slice bo m cb,.int .i64 f] 27)
  have g1:=heap_b2 w (.cells #[.bool an,.slice ao n ca,.int .i64 e] 27) (.cells #[.bool bn,.slice bo m cb,.int .i64 f] 27)
  go_enter Tryz.func34,Tryz.ntmps34
  go_wp2_with fail
  generalize (w.alloc (.cells #[.bool an,.slice ao n ca,.int .i64 e] 27)).alloc (.cells #[.bool bn,.slice bo m cb,.int .i64 f] 27)=wx at hb3 g0 g1 ⊢
  have k0:=blkC g0 0 rfl
  have k1:=blkC g0 1 rfl
  have k2:=blkC g0 2 rfl
  have j0:=blkC g1 0 rfl
  have j1:=blkC g1 1 rfl
  have j2:=blkC g1 2 rfl
  have hb1:=bel_refl wx
  go_region_held3 (fun W=>(W.cell? ⟨w.heap.size,0,none⟩=some (.bool an)∧W.cell? ⟨w.heap.size,1,none⟩=some (.slice ao n ca)∧W.cell? ⟨w.heap.size,2,none⟩=some (.int .i64 e))∧W.cell? ⟨w.heap.size + 1,0,none⟩=some (.bool bn)∧W.cell? ⟨w.heap.size + 1,1,none⟩=some (.slice bo m cb)∧W.cell? ⟨w.heap.size + 1,2,none⟩=some (.int .i64 f))
    (first | assumption | exact ⟨⟨k0,k1,k2⟩,j0,j1,j2⟩ | exact keep66 hbv2 (keep66 (W:=wx.drew) hbv1 ⟨⟨k0,k1,k2⟩,j0,j1,j2⟩) | exact keep66 (W:=wx.drew) hbv1 ⟨⟨k0,k1,k2⟩,j0,j1,j2⟩)
    (first | (go_at_call 53; have _t:=hbv1; refine (hY _).mono ?_; rintro r w4 ⟨rfl,hbv2⟩) | (go_at_call 53; refine (hX _).mono ?_; rintro r w3 ⟨rfl,hbv1⟩))
  have hS4:=keep66 hbv2 (keep66 (W:=wx.drew) hbv1 ⟨⟨k0,k1,k2⟩,j0,j1,j2⟩)
  have hf4:=bel_trans hb3 (bel_trans (bel_trans hb1.drew hbv1) hbv2)
  clear k0 k1 k2 j0 j1 j2 g0 g1 hbv1 hbv2 hb1 hb3
  obtain ⟨⟨k0,k1,k2⟩,j0,j1,j2⟩:=hS4
  have hb4:=bel_refl w4
  have hsv:sgn an n=1∨sgn an n=0∨sgn an n=-1:=by unfold sgn; split; (· exact .inr (.inl rfl)); (· cases an <;> simp)
  by_cases heq:sgn an n=sgn bn m
  . have hne:(sgn an n != sgn bn m)=false:=by simp [heq]
    obtain ⟨z1,z2⟩:=hse heq
    have HZ:Hid (sgn an n * ord (val a n * pw e) (val b m * pw f)=U):=z2
    have hZ4:∀ W,Below w4.heap.size w4 W->_:=fun W h=>hZ W (bel_trans hf4 h) z1
    have hO:∀ o:Int,(o=1∨o=0∨o=-1)->IntKind.i64.wrap (sgn an n * o)=sgn an n * o:=fun o ho=>by
      rw [wrap_i64_eq]
      rcases hsv with h | h | h <;> rcases ho with q | q | q <;> rw [h,q] <;> decide
    have hw:=hO _ (ord_three (val a n * pw e) (val b m * pw f))
    clear hso hse heq z2 hO hZ hsv
    go_wp2_with fail
    generalize ord (val a n * pw e) (val b m * pw f)=O at hZ4 hw HZ
    go_region_held3 (fun W=>(W.cell? ⟨w.heap.size,0,none⟩=some (.bool an)∧W.cell? ⟨w.heap.size,1,none⟩=some (.slice ao n ca)∧W.cell? ⟨w.heap.size,2,none⟩=some (.int .i64 e))∧W.cell? ⟨w.heap.size + 1,0,none⟩=some (.bool bn)∧W.cell? ⟨w.heap.size + 1,1,none⟩=some (.slice bo m cb)∧W.cell? ⟨w.heap.size + 1,2,none⟩=some (.int .i64 f))
      (first | assumption | exact ⟨⟨k0,k1,k2⟩,j0,j1,j2⟩ | exact keep66 hbv4 (keep66 (W:=w4.drew) hbv3 ⟨⟨k0,k1,k2⟩,j0,j1,j2⟩) | exact keep66 (W:=w4.drew) hbv3 ⟨⟨k0,k1,k2⟩,j0,j1,j2⟩)
      (first | (go_at_call 55; refine (hZ4 _ (bel_trans hb4.drew hbv3)).mono ?_; rintro r w6 ⟨rfl,hbv4⟩) | (go_at_call 53; refine (hX _).mono ?_; rintro r w5 ⟨rfl,hbv3⟩))
    go_wp2
    go_ret
    exact ⟨ret_int HZ.out,bel_trans (bel_trans hf4 (bel_trans hb4.drew hbv3)) hbv4⟩
  . have hne:(sgn an n != sgn bn m)=true:=by simp [heq]
    have HO:Hid (ord (sgn an n) (sgn bn m)=U):=hso heq
    clear hso hse heq hZ hsv
    go_wp2_with fail
    go_region_held3 (fun W=>(W.cell? ⟨w.heap.size,0,none⟩=some (.bool an)∧W.cell? ⟨w.heap.size,1,none⟩=some (.slice ao n ca)∧W.cell? ⟨w.heap.size,2,none⟩=some (.int .i64 e))∧W.cell? ⟨w.heap.size + 1,0,none⟩=some (.bool bn)∧W.cell? ⟨w.heap.size + 1,1,none⟩=some (.slice bo m cb)∧W.cell? ⟨w.heap.size + 1,2,none⟩=some (.int .i64 f))
      (first | assumption | exact ⟨⟨k0,k1,k2⟩,j0,j1,j2⟩ | exact keep66 hbv4 (keep66 (W:=w4.drew) hbv3 ⟨⟨k0,k1,k2⟩,j0,j1,j2⟩) | exact keep66 (W:=w4.drew) hbv3 ⟨⟨k0,k1,k2⟩,j0,j1,j2⟩)
      (first | (go_at_call 54; refine (cmpInt_any _ _ _).mono ?_; rintro r w7 ⟨rfl,rfl⟩) | (go_at_call 53; have _t:=hbv3; refine (hY _).mono ?_; rintro r w6 ⟨rfl,hbv4⟩) | (go_at_call 53; refine (hX _).mono ?_; rintro r w5 ⟨rfl,hbv3⟩))
    go_wp2
    go_ret
    exact ⟨ret_int HO.out,bel_trans (bel_trans hf4 (bel_trans hb4.drew hbv3)) hbv4⟩
set_option maxRecDepth 100000 in
set_option maxHeartbeats 1000000 in
theorem dcmp_any (x y:NumR) (w:World) (hx:Row w x.ao x.n x.cap x.d) (hy:Row w y.ao y.n y.cap y.d) :
    Calls Tryz.prog 18 #[x.v,y.v] w fun r w'=>r=.returned (.tuple #[.int .i64 (if okR x && okR y then ord x.V y.V else 0),.int .i64 (if okR x && okR y then 0 else 11)])∧Below w.heap.size w w':=by
  have hA:=allOk2 x y
  have hN:=fun W q hb=>nums2 (w:=W) (g:=w.heap.size + 2) (x:=x) (y:=y) (t:=27) q (hx.keeps hb) (hy.keeps hb)
  have hC:=fun (hk:(okR x && okR y)=true) W hb=>dcompare_any x y W (hx.keeps hb) (hy.keeps hb) (by simp at hk; exact hk.1) (by simp at hk; exact hk.2)
  generalize ord x.V y.V=O at hC ⊢
  generalize pair2 x y=pr at hA hN
  generalize (okR x && okR y)=ok at hA hC ⊢
  unfold NumR.v at hC ⊢
  obtain ⟨an,ao,n,ca,a,e⟩:=x
  obtain ⟨bn,bo,m,cb,b,f⟩:=y
  simp only at *
  cases ok
  . go_enter Tryz.func18,Tryz.ntmps18
    go_wp2_with fail
    refine (dvalids_any _ _ _ _ _ (hN _ (h3_2 _ _ _ _) (bel_a3 _ _ _ _))).mono ?_
    rw [hA]
    rintro r w1 ⟨rfl,hb1⟩
    go_wp2
    go_ret2
    exact ⟨rfl,bel_trans (bel_a3 _ _ _ _) hb1⟩
  . go_enter Tryz.func18,Tryz.ntmps18
    go_wp2_with fail
    refine (dvalids_any _ _ _ _ _ (hN _ (h3_2 _ _ _ _) (bel_a3 _ _ _ _))).mono ?_
    rw [hA]
    rintro r w1 ⟨rfl,hb1⟩
    have hbw:=bel_trans (bel_a3 w _ _ _) hb1
    have g0:=(hb1.block w.heap.size (by rw [size3]; omega)).trans (h3_0 _ _ _ _)
    have g1:=(hb1.block (w.heap.size + 1) (by rw [size3]; omega)).trans (h3_1 _ _ _ _)
    have k0:=blkC g0 0 rfl
    have k1:=blkC g0 1 rfl
    have k2:=blkC g0 2 rfl
    have j0:=blkC g1 0 rfl
    have j1:=blkC g1 1 rfl
    have j2:=blkC g1 2 rfl
    go_wp2_with fail
    refine (hC (by trivial) _ hbw).mono ?_
    rintro r w2 ⟨rfl,hb2⟩
    go_wp2
    go_ret2
    exact ⟨rfl,bel_trans hbw hb2⟩
theorem DNum.open {w:World} {v:Value} {V:Int} (h:DNum w v V) (ok:Dok V):∃ x:NumR,v=x.v∧Row w x.ao x.n x.cap x.d∧okR x=true∧x.V=V:=by
  obtain ⟨ng,s,m,e,rfl,hy,ao,n,cap,d,rfl,hR,hN,rfl⟩:=h
  refine ⟨⟨ng,ao,n,cap,d,e⟩,rfl,hR,?_,hy.val.symm⟩
  obtain ⟨o1,o2,o3⟩:=hy.ok.1 ok
  refine decide_eq_true ?_
  by_cases h0:n=0
  . left
    have hz:val d n=0:=by rw [h0]; rfl
    rcases hy.form with ⟨_,f2,f3⟩ | ⟨f1,_⟩
    . exact ⟨h0,f2,f3⟩
    . omega
  . right
    have hp:=val_pos hN (show 0 < n by omega)
    rcases hy.form with ⟨f1,_⟩ | ⟨_,f2⟩
    . omega
    . refine ⟨by show 0 < n; omega,⟨?_,hN⟩,?_,o2,o3⟩
      . exact Num.len (w:=w) (ao:=ao) (cap:=cap) ⟨_,_,_,_,rfl,hR,hN,rfl⟩ o1
      . obtain ⟨k,hk⟩:∃ k,n=1 + k:=⟨n - 1,by omega⟩
        have:=val_split d 1 k
        rw [<- hk] at this
        rw [this,show val d 1=d 0 by show 0 + d 0 * 1=_; omega,show P 1=1073741824 from rfl] at f2
        show d 0 % 2=1
        omega
theorem DFit.yes {w w':World} {V er:Int} {v:Value} (h:DFit w w' V v er) (ok:Dok V):er=0∧DAns w w' V v:=by
  rcases h.2 with ⟨_,h1,h2⟩ | ⟨hn,_⟩
  . exact ⟨h1,h2⟩
  . exact absurd ok hn
theorem sub_D {w:World} {x y:Value} {A B:Int} (hx:DNum w x A) (hy:DNum w y B) (oA:Dok A) (oB:Dok B) (hT:Tab w) :
    Calls Tryz.prog 31 #[x,y] w fun r w'=>∃ v er,r=.returned (.tuple #[v,.int .i64 er])∧DFit w w' (A - B) v er:=by
  obtain ⟨x,rfl,hR,ok,rfl⟩:=hx.open oA
  obtain ⟨y,rfl,hR',ok',rfl⟩:=hy.open oB
  exact dsub_ok x y w hR hR' ok ok' hT
theorem cmp_D {w:World} {x y:Value} {A B:Int} (hx:DNum w x A) (hy:DNum w y B) (oA:Dok A) (oB:Dok B) :
    Calls Tryz.prog 18 #[x,y] w fun r w'=>r=.returned (.tuple #[.int .i64 (ord A B),.int .i64 0])∧Below w.heap.size w w':=by
  obtain ⟨x,rfl,hR,ok,rfl⟩:=hx.open oA
  obtain ⟨y,rfl,hR',ok',rfl⟩:=hy.open oB
  have:=dcmp_any x y w hR hR'
  rwa [ok,ok'] at this
def valsV (v:Nat->Value) (m:Nat):List Value:=(List.range m).map v
def OutV (B:Nat) (w:World) (x:Value) (m:Nat) (v:Nat->Value):Prop:=w.ownsRow B 22 1 x m (valsV v m)
theorem OutV.shape {B:Nat} {w:World} {x:Value} {m:Nat} {v:Nat->Value} (h:OutV B w x m v):∃ xo xc,x=.slice xo m xc∧m <= xc∧xc <= 9223372036854775807∧(0 < m->∃ g,xo=some ⟨g,0,none⟩):=by
  rcases h.2 with ⟨rfl,rfl⟩ | ⟨g,cap,cur,rfl,hb,hg,hn,hm,_⟩
  . exact ⟨none,0,rfl,Nat.le_refl _,by decide,fun h=>by omega⟩
  . exact ⟨_,cap,rfl,hn,by unfold maxLen at hm; exact hm,fun _=>⟨g,rfl⟩⟩
theorem OutV.of_block {B:Nat} {w w':World} {x:Value} {m:Nat} {v:Nat->Value} (h:OutV B w x m v) (hb:∀ g,x.ownBlock=some g->w'.heap[g]?=w.heap[g]?):OutV B w' x m v:=by
  refine ⟨h.1,?_⟩
  rcases h.2 with hn | ⟨g,cap,cur,rfl,hbb,hg,rest⟩
  . exact .inl hn
  . exact .inr ⟨g,cap,cur,rfl,hbb,(hb g rfl).trans hg,rest⟩
theorem Out.of_block {B:Nat} {w w':World} {x:Value} {n:Nat} {d:Nat->Int} (h:Out B w x n d) (hb:∀ g,x.ownBlock=some g->w'.heap[g]?=w.heap[g]?):Out B w' x n d:=by
  refine ⟨h.1,?_⟩
  rcases h.2 with hn | ⟨g,cap,cur,rfl,hbb,hg,rest⟩
  . exact .inl hn
  . exact .inr ⟨g,cap,cur,rfl,hbb,(hb g rfl).trans hg,rest⟩
theorem Out.typed {B:Nat} {w:World} {x:Value} {n:Nat} {d:Nat->Int} (h:Out B w x n d) {g:Nat} (hg:x.ownBlock=some g):∃ cur z,w.heap[g]?=some (.cells cur 3 z):=by
  rcases h.2 with ⟨rfl,_⟩ | ⟨g',cap,cur,rfl,hbb,hg',rest⟩
  . simp [Value.ownBlock] at hg
  . simp only [Value.ownBlock,Option.some.injEq] at hg; subst hg; exact ⟨cur,_,hg'⟩
theorem OutV.typed {B:Nat} {w:World} {x:Value} {n:Nat} {v:Nat->Value} (h:OutV B w x n v) {g:Nat} (hg:x.ownBlock=some g):∃ cur z,w.heap[g]?=some (.cells cur 22 z):=by
  rcases h.2 with ⟨rfl,_⟩ | ⟨g',cap,cur,rfl,hbb,hg',rest⟩
  . simp [Value.ownBlock] at hg
  . simp only [Value.ownBlock,Option.some.injEq] at hg; subst hg; exact ⟨cur,_,hg'⟩
theorem OutV.ge {B:Nat} {w:World} {x:Value} {n:Nat} {v:Nat->Value} (h:OutV B w x n v) {g:Nat} (hg:x.ownBlock=some g):B <= g∧g < w.heap.size:=by
  rcases h.2 with ⟨rfl,_⟩ | ⟨g',cap,cur,rfl,hbb,hg',rest⟩
  . simp [Value.ownBlock] at hg
  . simp only [Value.ownBlock,Option.some.injEq] at hg; subst hg; exact ⟨hbb,(Array.getElem?_eq_some_iff.1 hg').1⟩
theorem Out.ge {B:Nat} {w:World} {x:Value} {n:Nat} {v:Nat->Int} (h:Out B w x n v) {g:Nat} (hg:x.ownBlock=some g):B <= g∧g < w.heap.size:=by
  rcases h.2 with ⟨rfl,_⟩ | ⟨g',cap,cur,rfl,hbb,hg',rest⟩
  . simp [Value.ownBlock] at hg
  . simp only [Value.ownBlock,Option.some.injEq] at hg; subst hg; exact ⟨hbb,(Array.getElem?_eq_some_iff.1 hg').1⟩
theorem OutV.alloc {B:Nat} {w:World} {x:Value} {m:Nat} {v:Nat->Value} (h:OutV B w x m v) (o:Obj):OutV B (w.alloc o) x m v:=h.of_block fun g hg=>Below.heap_alloc _ _ _ (h.ge hg).2
def An (B:Nat) (w:World) (v:Value) (V:Int):Prop:=∃ t d,Out B w v t d∧Nrm d t∧val d t=V
theorem An.keeps {B:Nat} {w w':World} {v:Value} {V:Int} (h:An B w v V) (k:Below w.heap.size w w'):An B w' v V:=by
  obtain ⟨t,d,h1,h2⟩:=h
  exact ⟨t,d,h1.stays k,h2⟩
theorem An.lower {B B':Nat} {w:World} {v:Value} {V:Int} (h:An B w v V) (hB:B' <= B):An B' w v V:=by
  obtain ⟨t,d,h1,h2⟩:=h
  exact ⟨t,d,h1.lower hB,h2⟩
theorem An.nil (B:Nat) (w:World):An B w (.slice none 0 0) 0:=⟨0,fun _=>0,Out.nil _ _ _,⟨fun i hi=>by omega,.inl rfl⟩,rfl⟩
theorem Ans.an {w w':World} {V:Int} {v:Value} (h:Ans w w' V v):An w.heap.size w' v V:=by
  obtain ⟨t,d,h1,h2,h3,h4⟩:=h
  exact ⟨t,d,h1,h2,h3⟩
theorem An.shape {B:Nat} {w:World} {v:Value} {V:Int} (h:An B w v V):∃ ao n cap,v=.slice ao n cap:=by
  obtain ⟨t,d,h1,h2⟩:=h
  obtain ⟨ao,cap,e,_⟩:=h1.row
  exact ⟨ao,t,cap,e⟩
theorem An.num {B:Nat} {w:World} {v:Value} {V:Int} (h:An B w v V):Num w v V:=by
  obtain ⟨t,d,h1,h2,h3⟩:=h
  obtain ⟨ao,cap,rfl,hR⟩:=h1.row
  exact ⟨ao,t,cap,d,rfl,hR,h2,h3⟩
theorem An.ge {B:Nat} {w:World} {v:Value} {V:Int} (h:An B w v V) {g:Nat} (hg:v.ownBlock=some g):B <= g∧g < w.heap.size:=by
  obtain ⟨t,d,h1,h2,h3⟩:=h
  exact h1.ge hg
def FitA (B:Nat) (w:World) (V:Int) (v:Value) (er:Int):Prop:=(V < P 2000∧er=0∧An B w v V)∨(P 2000 <= V∧er=2∧v=.slice none 0 0)
theorem FitA.keeps {B:Nat} {w w':World} {v:Value} {V er:Int} (h:FitA B w V v er) (k:Below w.heap.size w w'):FitA B w' V v er:=by
  rcases h with ⟨h1,h2,h3⟩ | h
  . exact .inl ⟨h1,h2,h3.keeps k⟩
  . exact .inr h
theorem FitA.lower {B B':Nat} {w:World} {v:Value} {V er:Int} (h:FitA B w V v er) (hB:B' <= B):FitA B' w V v er:=by
  rcases h with ⟨h1,h2,h3⟩ | h
  . exact .inl ⟨h1,h2,h3.lower hB⟩
  . exact .inr h
theorem FitA.ge {B:Nat} {w:World} {v:Value} {V er:Int} (h:FitA B w V v er) {g:Nat} (hg:v.ownBlock=some g):B <= g∧g < w.heap.size:=by
  rcases h with ⟨h1,h2,h3⟩ | ⟨_,_,rfl⟩
  . exact h3.ge hg
  . simp [Value.ownBlock] at hg
theorem FitA.shape {B:Nat} {w:World} {v:Value} {V er:Int} (h:FitA B w V v er):∃ ao n cap,v=.slice ao n cap:=by
  rcases h with ⟨h1,h2,h3⟩ | ⟨_,_,rfl⟩
  . exact h3.shape
  . exact ⟨_,_,_,rfl⟩
def lentD (a:Nat->Int) (n:Nat):Nat->Int:=cat a n (fun i=>-71 - (i:Int))
def LentA (w w':World) (v:Value) (n:Nat) (a:Nat->Int):Prop:=∃ g cap,v=.slice (some ⟨g,0,none⟩) (n + 3) cap∧Out w.heap.size w' v (n + 3) (lentD a n)∧Below w.heap.size w w'
theorem LentA.below {w w':World} {v:Value} {n:Nat} {a:Nat->Int} (h:LentA w w' v n a):Below w.heap.size w w':=by
  obtain ⟨g,cap,_,_,hb⟩:=h
  exact hb
theorem LentA.parts {w w':World} {v:Value} {n:Nat} {a:Nat->Int} (h:LentA w w' v n a):∃ g cap,v=.slice (some ⟨g,0,none⟩) (n + 3) cap∧Out w.heap.size w' (.slice (some ⟨g,0,none⟩) (n + 3) cap) (n + 3) (lentD a n):=by
  obtain ⟨g,cap,rfl,h,_⟩:=h
  exact ⟨g,cap,rfl,h⟩
def Bd (B:Nat) (V:Int):Prop:=∃ m:Int,V=m * pw (-(B:Int))∧-(2 ^ (2 * B)) < m∧m < 2 ^ (2 * B)
theorem Bd.ok {B:Nat} {V:Int} (h:Bd B V) (hB:B <= 29000):Dok V:=by
  obtain ⟨m,rfl,h1,h2⟩:=h
  by_cases h0:m=0
  . rw [h0,Int.zero_mul]; exact dok_zero
  . have key:∀ (ng:Bool) (M:Int),0 < M->M < 2 ^ (2 * B)->Dok (sg ng M * pw (-(B:Int))):=fun ng M hM hlt=>by
      obtain ⟨l,hl⟩:=isLow_ex hM
      have hy:=Dy.of ng hl hM (show -4194304 <= -(B:Int) by omega)
      obtain ⟨c1,c2,c3⟩:=isLow_odd hl hM
      have hl2:l < 2 * B:=by
        have h3:(1:Int) * 2 ^ l <= M / 2 ^ l * 2 ^ l:=Int.mul_le_mul_of_nonneg_right (by omega) (Int.le_of_lt (two_pos l))
        rw [c3] at h3
        exact two_lt_iff (by omega)
      refine hy.ok.2 ⟨?_,by omega,by omega⟩
      have h4:M / 2 ^ l <= M:=Int.ediv_le_self _ (by omega)
      have h5:(2:Int) ^ (2 * B) <= 2 ^ (30 * 2000):=two_le (by omega)
      rw [P_two]
      omega
    by_cases hp:0 < m
    . exact key false m hp h2
    . have:=key true (-m) (by omega) (by omega)
      rwa [show sg true (-m)=m by simp [sg]] at this
theorem Bd.up {B C:Nat} {V:Int} (h:Bd B V) (hBC:B <= C) (hC:C <= 4194304):Bd C V:=by
  obtain ⟨m,rfl,h1,h2⟩:=h
  have hp:=two_pos (C - B)
  have e:pw (-(B:Int))=pw (-(C:Int)) * 2 ^ (C - B):=by
    rw [<- pw_add (by omega)]; congr 1; omega
  have hle:(2:Int) ^ (2 * B) * 2 ^ (C - B) <= 2 ^ (2 * C):=by rw [<- Int.pow_add]; exact two_le (by omega)
  refine ⟨m * 2 ^ (C - B),by rw [e]; grind,?_,?_⟩
  . have:-(2 ^ (2 * B)) * 2 ^ (C - B) < m * 2 ^ (C - B):=Int.mul_lt_mul_of_pos_right h1 hp
    rw [Int.neg_mul] at this
    omega
  . have:=Int.mul_lt_mul_of_pos_right h2 hp
    omega
theorem Bd.add {B:Nat} {V W:Int} (h:Bd B V) (k:Bd B W) (hB:B < 4194304):Bd (B + 1) (V + W):=by
  obtain ⟨m,rfl,h1,h2⟩:=h
  obtain ⟨n,rfl,k1,k2⟩:=k
  have e:pw (-(B:Int))=pw (-((B + 1:Nat):Int)) * 2:=by
    have:=pw_add (e:=-((B + 1:Nat):Int)) (by omega) 1
    rw [Int.pow_succ,Int.pow_zero,Int.one_mul] at this
    rw [<- this]; congr 1; omega
  have e2:(2:Int) ^ (2 * (B + 1))=2 ^ (2 * B) * 4:=by rw [show 2 * (B + 1)=2 * B + 2 by omega,Int.pow_add]; rfl
  refine ⟨2 * (m + n),by rw [e]; grind,?_,?_⟩ <;> rw [e2] <;> omega
theorem Bd.neg {B:Nat} {V:Int} (h:Bd B V):Bd B (-V):=by
  obtain ⟨m,rfl,h1,h2⟩:=h
  exact ⟨-m,by rw [Int.neg_mul],by omega,by omega⟩
theorem Bd.mul {B:Nat} {V W U:Int} (h:Bd B V) (k:Bd B W) (hU:U * 2 ^ 4194304=V * W) (hB:B <= 1000000):Bd (2 * B) U:=by
  obtain ⟨m,rfl,h1,h2⟩:=h
  obtain ⟨n,rfl,k1,k2⟩:=k
  have e:U=m * n * pw (-((2 * B:Nat):Int)):=by
    refine scale_inj ?_
    rw [hU,Int.mul_assoc (m * n),show -((2 * B:Nat):Int)=-(B:Int) + -(B:Int) by omega,<- pw_mul (by omega) (by omega)]; grind
  refine ⟨m * n,e,?_,?_⟩
  all_goals
    have hab:(m * n).natAbs < ((2:Int) ^ (2 * (2 * B))).natAbs:=by
      rw [Int.natAbs_mul,show 2 * (2 * B)=2 * B + 2 * B by omega,Int.pow_add,Int.natAbs_mul]
      exact Nat.mul_lt_mul'' (by have:=two_pos (2 * B); omega) (by have:=two_pos (2 * B); omega)
    have:=two_pos (2 * (2 * B))
    omega
theorem bd_num {ng:Bool} {M e:Int} (h0:0 <= M) (h1:M < P 30) (e0:-3000 < e) (e1:e < 3000):Bd 4000 (sg ng M * pw e):=by
  have hs:pw e=pw (-((4000:Nat):Int)) * 2 ^ (e + 4000).toNat:=by
    rw [<- pw_add (by omega)]; congr 1; omega
  have hp:=two_pos (e + 4000).toNat
  have hlt:M * 2 ^ (e + 4000).toNat < 2 ^ (2 * 4000):=by
    have a:M * 2 ^ (e + 4000).toNat < P 30 * 2 ^ (e + 4000).toNat:=Int.mul_lt_mul_of_pos_right h1 hp
    rw [P_two,<- Int.pow_add] at a
    have b:(2:Int) ^ (30 * 30 + (e + 4000).toNat) <= 2 ^ (2 * 4000):=two_le (by omega)
    omega
  have hn:0 <= M * 2 ^ (e + 4000).toNat:=Int.mul_nonneg h0 (Int.le_of_lt hp)
  refine ⟨sg ng (M * 2 ^ (e + 4000).toNat),by rw [hs,sg_sgn,sg_sgn]; grind,?_,?_⟩
  all_goals
    generalize M * 2 ^ (e + 4000).toNat=X at *
    generalize (2:Int) ^ (2 * 4000)=T at *
    cases ng <;> simp only [sg] <;> simp <;> omega
end Go.Proofs.YtijiabajfgnaoaaGreatDoor
namespace Go.Proofs.YtijiabajfgnaoaaGreatDoor
open Go Go.ChangeShapes Go.WideShapes Go.ChangeAt Go.RowKit Go.Proofs.YtijiabajfgnaoaaGreatDoor.M
theorem rng_of {x:Int} (h:(Lit.int .i64 x).wf=true):rng x:=by
  simp [Lit.wf,IntKind.min,IntKind.max,IntKind.signed,IntKind.bits] at h
  unfold rng; omega
theorem row_of {H:Type} {enc:TypeId × Value->H} {W:World} {a:Option Addr} {len cap:Nat} {d:DataW H} {p:List MemPlace}
    (h0:DataW.Trod enc Tryz.prog W 0 (fun _=>true) true 22 (.slice a len cap) d p):∃ z:Nat->Int,Row W a len cap z∧∀ i,i < len->rng (z i):=by
  obtain ⟨fuel,hf⟩:=h0
  rcases open_ints Tryz.underlying22 Tryz.underlying3 (by kernel_rfl) hf with ⟨hcs,_⟩ | ⟨x,l,c,zs,hcs,_,hl,hm,hz,_,hcell,hwz⟩
  . simp [Value.cells] at hcs
    obtain ⟨rfl,rfl,rfl⟩:=hcs
    exact ⟨fun _=>0,Row.nil _ _,fun i hi=>by omega⟩
  . simp [Value.cells] at hcs
    obtain ⟨rfl,rfl,rfl⟩:=hcs
    have hz':zs.length=cap:=by simpa using hz
    refine ⟨fun i=>zs.getD i 0,⟨hl,by unfold maxLen at hm; exact hm,(fun e=>by cases e),fun hn=>?_⟩,fun i hi=>?_⟩
    . obtain ⟨b,off,spot⟩:=x
      have hc:=hcell 0 (by omega)
      have hspot:spot=none:=by simpa [Addr.add] using World.cell?_spot hc
      subst hspot
      refine ⟨b,off,rfl,World.block_lt_of_cell? W _ (by simpa [Addr.add] using hc),fun i hi=>?_⟩
      rw [<- add_none]; exact hcell i (by omega)
    . refine rng_of (hwz _ ?_)
      simp [List.getD,show i < zs.length by omega]
end Go.Proofs.YtijiabajfgnaoaaGreatDoor
namespace Go.Proofs.YtijiabajfgnaoaaGreatDoor
open Go Go.RowKit Go.ChangeShapes Go.Proofs.YtijiabajfgnaoaaGreatDoor.M
theorem gTab : Tryz.prog.globalNamed "math/bits.deBruijn64tab" = some 2 := by kernel_rfl
theorem gTabType:(Tryz.prog.globals[(2:Nat)]?).map (·.type)=some 90:=by kernel_rfl
theorem cellsTab:Tryz.prog.cellsOf 90=64:=by kernel_rfl
theorem cellsByte:Tryz.prog.cellsOf 5=1:=by kernel_rfl
def tabInts:List Int:=Lib.deBruijn64tab.map Int.ofNat
theorem tab_get:∀ j,j < 64->tabInts.getD j 0=((Lib.deBruijn64tab.getD j 0:Nat):Int):=by decide +kernel
theorem cellsInt:Tryz.prog.cellsOf 3=1:=by kernel_rfl
theorem cellsLayout:Tryz.prog.cellsOf 65=3:=by kernel_rfl
theorem g64 : Tryz.prog.globalNamed "plumb/bits.binary64" = some 0 := by kernel_rfl
theorem g64Type:(Tryz.prog.globals[(0:Nat)]?).map (·.type)=some 65:=by kernel_rfl
set_option maxRecDepth 100000 in
theorem three {W:World} {name:String} {g:Nat} {a b c:Int} {rest:List (String × DataW Unit)} (hg:Tryz.prog.globalNamed name=some g) (hty:(Tryz.prog.globals[g]?).map (·.type)=some 65)
    (h:laidMet Tryz.prog ((name,.agg [.lit (.int .i64 a),.lit (.int .i64 b),.lit (.int .i64 c)]) :: rest) W) :
    W.cell? ⟨g,0,none⟩=some (.int .i64 a)∧W.cell? ⟨g,1,none⟩=some (.int .i64 b)∧W.cell? ⟨g,2,none⟩=some (.int .i64 c):=by
  obtain ⟨ps,⟨g',t',cs,fuel,p,q,hg',ht',hvar,hd,_,_⟩,_⟩:=h
  obtain rfl:=Option.some.inj (hg.symm.trans hg')
  obtain rfl:=Option.some.inj (hty.symm.trans ht')
  obtain ⟨y0,y1,y2,n,hx,hl,h0,h1,h2⟩:=Go.Deep.trod_struct3 Tryz.underlying65 hd
  obtain ⟨k0,e0,f0,_⟩:=DataW.trod_int Tryz.underlying3 h0
  obtain ⟨k1,e1,f1,_⟩:=DataW.trod_int Tryz.underlying3 h1
  obtain ⟨k2,e2,f2,_⟩:=DataW.trod_int Tryz.underlying3 h2
  rw [f0,f1,f2] at hx
  simp only [Prod.mk.injEq,DataW.agg.injEq,List.cons.injEq,DataW.lit.injEq,Lit.int.injEq,true_and,and_true] at hx
  obtain ⟨⟨rfl,rfl,rfl⟩,_⟩:=hx
  rw [cellsLayout] at hl
  rw [cellsInt] at e0 e1 e2
  have v:=fun i=>World.var?_cell hg hvar i
  obtain ⟨l⟩:=cs
  simp only at hl e0 e1 e2
  match l,hl with
  | [c0,c1,c2],_=>
    simp at e0 e1 e2
    subst e0 e1 e2
    exact ⟨by simpa using v 0,by simpa using v 1,by simpa using v 2⟩
end Go.Proofs.YtijiabajfgnaoaaGreatDoor
namespace Go.Proofs.YtijiabajfgnaoaaGreatDoor
open Go Go.ChangeShapes Go.WideShapes Go.ChangeAt Go.RowKit Go.Proofs.YtijiabajfgnaoaaGreatDoor.M
structure Hold (w:World):Prop where
  lay:Lay64 w
  tab:Tab w
theorem Hold.keeps {w w':World} (h:Hold w) (hb:Below w.heap.size w w'):Hold w':=⟨h.lay.keeps hb,h.tab.keeps hb⟩
theorem hold_of {W : World} (h : laidMetH Tryz.prog [("math/bits.deBruijn32tab", Rows.laid_math_bits_deBruijn32tab), ("math/bits.deBruijn64tab", Rows.laid_math_bits_deBruijn64tab), ("plumb/bits.binary64", Rows.laid_plumb_bits_binary64)] W) : Hold W := by
  rw [MakeChecks.laidMetH_plain _ _ _ (by kernel_rfl)] at h
  have h' : laidMet Tryz.prog (("math/bits.deBruijn64tab", Lib.tabData .u8 tabInts) :: [("plumb/bits.binary64", Rows.laid_plumb_bits_binary64)]) W := h.tail
  have t:=Lib.tabIs_of_head gTab gTabType Tryz.underlying90 Tryz.underlying5 cellsByte cellsTab h'
  obtain ⟨a0,a1,a2⟩:=three g64 g64Type h'.tail
  refine ⟨⟨a0,a1,a2⟩,fun j hj=>?_⟩
  rw [<- tab_get j hj]
  exact t.cell gTab j (by exact hj)
end Go.Proofs.YtijiabajfgnaoaaGreatDoor
namespace Go.Proofs.YtijiabajfgnaoaaGreatDoor
open Go Go.RowKit Go.Proofs.YtijiabajfgnaoaaGreatDoor.M
theorem dans_shape {w w':World} {V:Int} {v:Value} (h:DAns w w' V v):∃ ng so sn sc e,v=.agg #[.bool ng,.slice so sn sc,.int .i64 e]:=by
  obtain ⟨ng,s,m,e,h1,_,hA⟩:=h
  obtain ⟨so,sn,sc,rfl⟩:=hA.num.shape
  exact ⟨_,_,_,_,_,h1⟩
theorem sub_B {w:World} {x y:Value} {A B:Int} {k:Nat} (hx:DNum w x A) (hy:DNum w y B) (bA:Bd k A) (bB:Bd k B) (hk:k <= 28000) (hT:Tab w) :
    Calls Tryz.prog 31 #[x,y] w fun r w'=>∃ v,r=.returned (.tuple #[v,.int .i64 0])∧DAns w w' (A - B) v:=by
  refine (sub_D hx hy (bA.ok (by omega)) (bB.ok (by omega)) hT).mono ?_
  rintro r w' ⟨v,er,rfl,hF⟩
  have hb:=bA.add bB.neg (by omega)
  rw [<- Int.sub_eq_add_neg] at hb
  obtain ⟨rfl,hD⟩:=hF.yes (hb.ok (by omega))
  exact ⟨v,rfl,hD⟩
def patV (b:Int):Int:=sg (pneg b) (pmag b) * pw (pexp b)
def ordP (A b:Int):Int:=if pok b=true then ord A (patV b) else if b < 0 then 1 else -1
end Go.Proofs.YtijiabajfgnaoaaGreatDoor
