/- Parts of the proof. -/
import Derived.Test.YtkajoieoggajiaaDoorPart4
import Derived.WalkSmall
import Derived.Laws.Externs
import Derived.Laws.Cover2
set_option linter.unusedVariables false
set_option linter.unusedSimpArgs false
namespace Go.Proofs.YtkajoieoggajiaaDoor
open Go Go.RowKit Go.Proofs.YtkajoieoggajiaaDoor.M
theorem wraise_any (way:Int) (hw:0 <= way∧way <= 3) (ng odd:Bool) (left:Int) (w:World):Calls Tryd.prog (wayF way) #[.bool ng,.bool odd,.int .i64 left] w fun e w'=>e=.returned (.bool (rUp way ng odd left))∧w'=w:=by
  have hc:way=0∨way=1∨way=2∨way=3:=by omega
  rcases hc with rfl | rfl | rfl | rfl
  . exact raise1 ng odd left w
  . exact raise2 ng odd left w
  . exact raise3 ng odd left w
  . exact raise4 ng odd left w
theorem wraise_enter (way:Int) (cap:Array Value) (w:World):(callFunc (wayF way) cap).run Tryd.prog w=.ok (.enter (wayF way) cap) w:=by
  unfold wayF
  by_cases h0:way=0
  . rw [if_pos h0]; simp [go_sem]
  . rw [if_neg h0]
    by_cases h1:way=1
    . rw [if_pos h1]; simp [go_sem]
    . rw [if_neg h1]
      by_cases h2:way=2
      . rw [if_pos h2]; simp [go_sem]
      . rw [if_neg h2]; simp [go_sem]
set_option maxRecDepth 100000 in
set_option maxHeartbeats 1000000 in
theorem units_F (F:Nat) (R:Bool->Bool->Int->Bool) (ng:Bool) (mag:Nat) (exp unit:Int) (cut sd:Bool) (u:Nat) (left:Int) (w:World) (hE:∀ (cap:Array Value) (w:World),(callFunc F cap).run Tryd.prog w=.ok (.enter F cap) w)
    (hF:∀ ng odd left W,Calls Tryd.prog F #[.bool ng,.bool odd,.int .i64 left] W fun e w'=>e=.returned (.bool (R ng odd left))∧w'=W) (hu:u < 18446744073709551615)
    (hS:∀ W,Calls Tryd.prog 79 #[valV ng mag exp cut sd,.int .i64 unit] W fun e w'=>e=.returned (.tuple #[.int .u64 (u:Nat),.int .i64 left])∧Below W.heap.size W w') :
    Calls Tryd.prog 58 #[valV ng mag exp cut sd,.int .i64 unit,.agg #[.func (.func F) #[] #[]]] w fun e w'=>e=.returned (.tuple #[.int .u64 (u + (if R ng (decide (u % 2=1)) left then 1 else 0):Nat),.bool (decide (left ≠ 0))])∧Below w.heap.size w w':=by
  unfold valV at *
  have hb2:=bel_alloc2 w (.cells #[.bool ng,.int .u64 mag,.int .i64 exp,.bool cut,.bool sd] 52) (.cells #[.func (.func F) #[] #[]] 72)
  have q0:=heap_a2 w (.cells #[.bool ng,.int .u64 mag,.int .i64 exp,.bool cut,.bool sd] 52) (.cells #[.func (.func F) #[] #[]] 72)
  have q1:=heap_b2 w (.cells #[.bool ng,.int .u64 mag,.int .i64 exp,.bool cut,.bool sd] 52) (.cells #[.func (.func F) #[] #[]] 72)
  obtain ⟨odd,ho⟩:∃ odd,decide (u % 2=1)=odd:=⟨_,rfl⟩
  have hodd:(bits BinOp.and IntKind.u64 (u:Int) 1 == 1)=odd:=by
    rw [and_one_u64 _ (by omega) (by omega),<- ho]
    by_cases h:u % 2=1
    . rw [decide_eq_true h]; simp; omega
    . rw [decide_eq_false h]; simp; omega
  rw [ho]
  clear ho
  have hw1:IntKind.u64.wrap ((u:Int) + 1)=((u + 1:Nat):Int):=by rw [IntKind.wrap_u64]; omega
  go_enter Tryd.func58,Tryd.ntmps58
  go_wp2_with fail
  refine (hS _).mono ?_
  rintro _ w1 ⟨rfl,hb1⟩
  have hbw:=bel_trans hb2 hb1
  have p0:=(hb1.block _ (Array.getElem?_eq_some_iff.1 q0).1).trans q0
  have p1:=(hb1.block _ (Array.getElem?_eq_some_iff.1 q1).1).trans q1
  have k0:=blkC p0 0 rfl
  have k1:=blkC p1 0 rfl
  clear hS q0 q1 hb1 hb2
  go_wp2_with fail
  refine (hF ng odd left _).mono ?_
  rintro _ _ ⟨rfl,rfl⟩
  cases hR:R ng odd left
  . have HR:Hid (R ng odd left=false):=hR
    by_cases hl:left=0
    . go_wp2
      all_goals go_ret2
      all_goals exact ⟨by simp_all,hbw⟩
    . go_wp2
      all_goals go_ret2
      all_goals exact ⟨by simp_all,hbw⟩
  . have HR:Hid (R ng odd left=true):=hR
    by_cases hl:left=0
    . go_wp2
      all_goals go_ret2
      all_goals exact ⟨by simp_all,hbw⟩
    . go_wp2
      all_goals go_ret2
      all_goals exact ⟨by simp_all,hbw⟩
theorem units_any (way:Int) (hw:0 <= way∧way <= 3) (ng:Bool) (mag:Nat) (exp unit:Int) (cut sd:Bool) (w:World) (hm:mag < 18446744073709551616) (hu:-5000000 <= unit∧unit <= 5000000) (he:-5000000 <= exp∧exp <= 5000000) (hs:rU mag (unit - exp) < 18446744073709551615) :
    Calls Tryd.prog 58 #[valV ng mag exp cut sd,.int .i64 unit,wayV way] w fun e w'=>e=.returned (.tuple #[.int .u64 (rU mag (unit - exp) + (if rUp way ng (decide (rU mag (unit - exp) % 2=1)) (rL mag cut (unit - exp)) then 1 else 0):Nat),.bool (decide (rL mag cut (unit - exp) ≠ 0))])∧Below w.heap.size w w' :=
  units_F (wayF way) (rUp way) ng mag exp unit cut sd _ _ w (wraise_enter way) (wraise_any way hw) hs (fun W=>split_any ng mag exp unit cut sd W hm hu he (fun _=>by omega))
set_option maxRecDepth 100000 in
theorem b_len (x:Int) (w:World) (h0:0 <= x) (h1:x <= 18446744073709551615):Calls Tryd.prog 57 #[.int .u64 x] w fun e w'=>e=.returned (.int .i64 (Lib.bitLen x.toNat))∧w'=w:=by
  go_enter Tryd.func57,Tryd.ntmps57
  go_wp2_with (go_at_call 78; refine (b_len64 x _ h0 h1).mono ?_; rintro _ _ ⟨rfl,rfl⟩)
  go_ret
  exact ⟨rfl,rfl⟩
set_option maxRecDepth 100000 in
set_option maxHeartbeats 1000000 in
theorem float_F (F:Nat) (ng:Bool) (mag:Nat) (exp size least:Int) (cut sd:Bool) (U:Nat) (E:Int) (other:Bool) (w:World) (hm:mag < 18446744073709551616) (he:-4500000 <= exp∧exp <= 4500000) (hs:0 <= size∧size <= 64) (hl:-2000 <= least∧least <= 0) (hE:rE size least mag exp=E) (hU:U < 9223372036854775808)
    (hC:∀ W,Calls Tryd.prog 58 #[valV ng mag exp cut sd,.int .i64 E,.agg #[.func (.func F) #[] #[]]] W fun e w'=>e=.returned (.tuple #[.int .u64 (U:Nat),.bool other])∧Below W.heap.size W w') :
    Calls Tryd.prog 34 #[valV ng mag exp cut sd,.int .i64 size,.int .i64 least,.agg #[.func (.func F) #[] #[]]] w fun e w'=>e=.returned (.tuple #[.bool (ng && (decide (0 < U) || sd)),.int .i64 (U:Nat),.int .i64 E,.bool other])∧Below w.heap.size w w':=by
  unfold valV at *
  have hb2:=bel_alloc2 w (.cells #[.bool ng,.int .u64 mag,.int .i64 exp,.bool cut,.bool sd] 52) (.cells #[.func (.func F) #[] #[]] 72)
  have q0:=heap_a2 w (.cells #[.bool ng,.int .u64 mag,.int .i64 exp,.bool cut,.bool sd] 52) (.cells #[.func (.func F) #[] #[]] 72)
  have q1:=heap_b2 w (.cells #[.bool ng,.int .u64 mag,.int .i64 exp,.bool cut,.bool sd] 52) (.cells #[.func (.func F) #[] #[]] 72)
  have k0:=blkC q0 0 rfl
  have k1:=blkC q0 1 rfl
  have k2:=blkC q0 2 rfl
  have k3:=blkC q0 3 rfl
  have k4:=blkC q0 4 rfl
  have kw:=blkC q1 0 rfl
  have hbl:Lib.bitLen mag <= 64:=by
    by_cases h0:mag=0
    . rw [h0]; decide
    . have e64:(2:Nat) ^ 64=18446744073709551616:=by decide
      exact (M.bitLen_spec mag (by omega) h0).2.2.2
  have HE:Hid (rE size least mag exp=E):=hE
  obtain ⟨L,hL⟩:∃ L:Int,(Lib.bitLen mag:Int)=L:=⟨_,rfl⟩
  have hEL:max (exp + L - size) least=E:=by rw [<- hL]; exact hE
  have hL2:(Lib.bitLen ((mag:Int)).toNat:Int)=L:=by rw [Int.toNat_natCast]; exact hL
  have hL0:0 <= L∧L <= 64:=by omega
  have w1:IntKind.i64.wrap (exp + L)=exp + L:=by rw [wrap_i64_eq]; omega
  have w2:IntKind.i64.wrap (exp + L - size)=exp + L - size:=by rw [wrap_i64_eq]; omega
  have wU:IntKind.i64.wrap (U:Int)=(U:Int):=by rw [wrap_i64_eq]; omega
  clear hE
  have hmax:∀ (ts:Array TypeId) (t:TypeId) (x y:Int) (w:World),(Builtin.max_ ts t #[.int .i64 x,.int .i64 y]).run Tryd.prog w=.ok (.int .i64 (max x y)) w:=fun ts t x y w=>by rw [run_max_int2]; congr 2; omega
  go_enter Tryd.func34,Tryd.ntmps34
  go_wp2_with fail
  generalize (w.alloc (.cells #[.bool ng,.int .u64 mag,.int .i64 exp,.bool cut,.bool sd] 52)).alloc (.cells #[.func (.func F) #[] #[]] 72)=wx at hb2 q0 q1 k0 k1 k2 k3 k4 kw ⊢
  go_region_held3 (fun W=>W.cell? ⟨w.heap.size,2,none⟩=some (.int .i64 exp)∧W.cell? ⟨w.heap.size,1,none⟩=some (.int .u64 mag))
    (first | assumption | exact ⟨k2,k1⟩)
    (first | (go_at_call 57; refine (b_len _ _ (by omega) (by omega)).mono ?_; rintro _ _ ⟨rfl,rfl⟩))
  all_goals
    go_wp2_with fail
    refine (hC _).mono ?_
    rintro _ w3 ⟨rfl,hb3⟩
    have hdr:Below wx.heap.size wx wx.drew:=(bel_refl wx).drew
    have hb3':=bel_trans hdr hb3
    have hbw:=bel_trans hb2 hb3'
    have p0:=(hb3'.block _ (Array.getElem?_eq_some_iff.1 q0).1).trans q0
    have j0:=blkC p0 0 rfl
    have j4:=blkC p0 4 rfl
    clear hC hb3 hb3' hdr q0 q1 k0 k1 k2 k3 k4 kw
    cases ng
    . go_wp2
      all_goals refine bodyPost_ret (v:=.tuple #[.bool false,.int .i64 (U:Nat),.int .i64 E,.bool other]) (by simp [results,Tryd.results34,go_sem]) rfl ⟨by simp,hbw⟩
    . by_cases hu0:U=0
      . have hu1:¬ (0:Int) < (U:Int):=by omega
        have hd:decide (0 < U)=false:=decide_eq_false (by omega)
        go_wp2
        all_goals refine bodyPost_ret (v:=.tuple #[.bool sd,.int .i64 (U:Nat),.int .i64 E,.bool other]) (by simp [results,Tryd.results34,go_sem,hu0]) rfl ⟨by simp [hd],hbw⟩
      . have hu1:(0:Int) < (U:Int):=by omega
        have hd:decide (0 < U)=true:=decide_eq_true (by omega)
        go_wp2
        all_goals refine bodyPost_ret (v:=.tuple #[.bool true,.int .i64 (U:Nat),.int .i64 E,.bool other]) (by simp [results,Tryd.results34,go_sem]) rfl ⟨by simp [hd],hbw⟩
def bRung (way:Int) (ng:Bool):Int:=if rUp way ng true 3 then 9218868437227405312 else 9218868437227405311
def patS (ng:Bool) (r:Int):Int:=if ng then r - 9223372036854775808 else r
theorem or_inf:bits BinOp.or IntKind.i64 9218868437227405312 (-9223372036854775808)=-4503599627370496:=by decide +kernel
theorem or_most:bits BinOp.or IntKind.i64 9218868437227405311 (-9223372036854775808)=-4503599627370497:=by decide +kernel
theorem Env.keeps {w w':World} (h:Env w) (hb:Below w.heap.size w w'):Env w' :=
  ⟨⟨cell_keeps h.lays.a0 hb,cell_keeps h.lays.a1 hb,cell_keeps h.lays.a2 hb,cell_keeps h.lays.b0 hb,cell_keeps h.lays.b1 hb,cell_keeps h.lays.b2 hb⟩,fun j hj=>cell_keeps (h.tab j hj) hb⟩
set_option maxRecDepth 100000 in
set_option maxHeartbeats 1000000 in
theorem beyond_any (way:Int) (hw:0 <= way∧way <= 3) (ng:Bool) (w:World) :
    Calls Tryd.prog 36 #[wayV way,.bool ng,.int .i64 9218868437227405312,.int .i64 (-9223372036854775808)] w fun e w'=>e=.returned (.int .i64 (patS ng (bRung way ng)))∧Below w.heap.size w w':=by
  have hF:=wraise_any way hw
  have hE:=wraise_enter way
  unfold wayV bRung
  generalize wayF way=F at hF hE ⊢
  have q0:=heap_alloc_new w (.cells #[.func (.func F) #[] #[]] 72)
  have k0:=blkC q0 0 rfl
  have o1:=or_inf
  have o2:=or_most
  obtain ⟨R,hR⟩:∃ R,rUp way ng true 3=R:=⟨_,rfl⟩
  have hFF:=hF ng true 3
  rw [hR] at hFF ⊢
  clear hR hF
  cases ng <;> cases R
  all_goals
    unfold patS
    go_enter Tryd.func36,Tryd.ntmps36
    go_wp2_with (first | (refine (hFF _).mono ?_; rintro _ _ ⟨rfl,rfl⟩))
    all_goals go_ret
    all_goals exact ⟨by simp,bel_alloc _ _⟩
def r64 (way:Int) (ng sd:Bool) (mag:Nat) (exp:Int) (cut:Bool):Int × Bool :=
  let E:=rE 53 (-1074) mag exp
  let u:=rU mag (E - exp)
  let left:=rL mag cut (E - exp)
  let U:=u + (if rUp way ng (decide (u % 2=1)) left then 1 else 0)
  let neg:=ng && (decide (0 < U) || sd)
  if jk 52 2047 (-1074) U E then (jp neg U E,decide (left ≠ 0)) else (patS neg (bRung way neg),true)
set_option maxRecDepth 100000 in
set_option maxHeartbeats 1000000 in
theorem binary64_any (way:Int) (hw:0 <= way∧way <= 3) (ng sd:Bool) (mag:Nat) (exp:Int) (cut:Bool) (w:World) (Ev:Env w) (hm:mag < 18446744073709551616) (he:-4500000 <= exp∧exp <= 4500000) :
    Calls Tryd.prog 74 #[valV ng mag exp cut sd,wayV way] w fun e w'=>e=.returned (.tuple #[.int .i64 (r64 way ng sd mag exp cut).1,.bool (r64 way ng sd mag exp cut).2])∧Below w.heap.size w w':=by
  have e64:(2:Nat) ^ 64=18446744073709551616:=by decide
  have e53:(2:Nat) ^ (53:Int).toNat=9007199254740992:=by decide
  have hE:-5000000 <= rE 53 (-1074) mag exp∧rE 53 (-1074) mag exp <= 5000000:=by
    have hbl:Lib.bitLen mag <= 64:=by
      by_cases h0:mag=0
      . rw [h0]; decide
      . exact (M.bitLen_spec mag (by omega) h0).2.2.2
    unfold rE
    omega
  have hu:rU mag (rE 53 (-1074) mag exp - exp) <= 9007199254740991:=by
    by_cases h0:mag=0
    . rw [h0]; unfold rU; split <;> simp
    . have:=(rU_bits (size:=53) (low:=-1074) (exp:=exp) (by decide) (by omega) h0).1
      rw [e53] at this
      omega
  have hUn:=fun W=>units_any way hw ng mag exp (rE 53 (-1074) mag exp) cut sd W hm hE (by omega) (by omega)
  have HR:r64 way ng sd mag exp cut=(let E:=rE 53 (-1074) mag exp
    let u:=rU mag (E - exp)
    let left:=rL mag cut (E - exp)
    let U:=u + (if rUp way ng (decide (u % 2=1)) left then 1 else 0)
    let neg:=ng && (decide (0 < U) || sd)
    if jk 52 2047 (-1074) U E then (jp neg U E,decide (left ≠ 0)) else (patS neg (bRung way neg),true)):=rfl
  simp only at HR
  have hEE:rE 53 (-1074) mag exp=rE 53 (-1074) mag exp:=rfl
  obtain ⟨E,hEq⟩:∃ E,rE 53 (-1074) mag exp=E:=⟨_,rfl⟩
  rw [hEq] at hE hu hUn HR
  obtain ⟨left,hleft⟩:∃ l,rL mag cut (E - exp)=l:=⟨_,rfl⟩
  rw [hleft] at hUn HR
  obtain ⟨U,hU⟩:∃ U,rU mag (E - exp) + (if rUp way ng (decide (rU mag (E - exp) % 2=1)) left then 1 else 0)=U:=⟨_,rfl⟩
  rw [hU] at hUn HR
  have hU2:U <= 9007199254740992:=by rw [<- hU]; split <;> omega
  obtain ⟨neg,hneg⟩:∃ n,(ng && (decide (0 < U) || sd))=n:=⟨_,rfl⟩
  have hFl:=fun W=>float_F (wayF way) ng mag exp 53 (-1074) cut sd U E (decide (left ≠ 0)) W hm he (by omega) (by omega) hEq (by omega) hUn
  rw [hneg] at hFl HR
  have hJ:=fun W (EW:Env W)=>bitsJoin neg (U:Int) E W EW (by unfold rng; omega) (by unfold rng; omega)
  have hB:=fun W=>beyond_any way hw neg W
  obtain ⟨other,hoth⟩:∃ o,decide (left ≠ 0)=o:=⟨_,rfl⟩
  rw [hoth] at hFl HR
  obtain ⟨fin,hfin⟩:∃ f,jk 52 2047 (-1074) (U:Int) E=f:=⟨_,rfl⟩
  obtain ⟨pt,hpt⟩:∃ p,jp neg (U:Int) E=p:=⟨_,rfl⟩
  rw [hpt] at hJ HR
  rw [hfin] at hJ HR
  obtain ⟨by1,hby⟩:∃ b,patS neg (bRung way neg)=b:=⟨_,rfl⟩
  rw [hby] at hB HR
  rw [HR]
  have hUi:((U:Nat):Int)=((U:Nat):Int):=rfl
  have hb2:=bel_alloc2 w (.cells #[.bool ng,.int .u64 mag,.int .i64 exp,.bool cut,.bool sd] 52) (.cells #[.func (.func (wayF way)) #[] #[]] 72)
  have q1:=heap_b2 w (.cells #[.bool ng,.int .u64 mag,.int .i64 exp,.bool cut,.bool sd] 52) (.cells #[.func (.func (wayF way)) #[] #[]] 72)
  have k1:=blkC q1 0 rfl
  have HEV:Hid (Env w):=Ev
  clear Ev HR hUn hEq hleft hU hneg hoth hfin hpt hby hU2 hu hE hEE hUi e64 e53
  unfold wayV valV at *
  generalize wayF way=F at *
  go_enter Tryd.func74,Tryd.ntmps74
  go_wp2_with fail
  refine (hFl _).mono ?_
  rintro _ w1 ⟨rfl,hb1⟩
  have hbw:=bel_trans hb2 hb1
  have p1:=(hb1.block _ (Array.getElem?_eq_some_iff.1 q1).1).trans q1
  have k2:=blkC p1 0 rfl
  clear hFl hb2 hb1 q1 k1
  go_wp2_with fail
  refine (hJ _ (HEV.out.keeps hbw)).mono ?_
  rintro _ w2 ⟨rfl,hg⟩
  have hb2:=hg.be
  have hbw2:=bel_trans hbw hb2
  have p2:=(hb2.block _ (Array.getElem?_eq_some_iff.1 p1).1).trans p1
  have k3:=blkC p2 0 rfl
  clear hJ hg p1 p2 k2 hb2 hbw
  cases fin
  . go_wp2_with fail
    refine (hB _).mono ?_
    rintro _ w3 ⟨rfl,hb3⟩
    go_wp2
    all_goals go_ret2
    all_goals exact ⟨by simp,bel_trans hbw2 hb3⟩
  . go_wp2
    all_goals go_ret2
    all_goals exact ⟨by simp,hbw2⟩
theorem low_mod {V l:Int} (h:LowA V l) (h0:0 < V) (k:Nat):decide (l < (k:Int))=decide (V % 2 ^ k ≠ 0):=by
  obtain ⟨j,rfl,q,hq⟩:=lowA_pos h h0
  by_cases hjk:j < k
  . rw [decide_eq_true (by omega)]
    refine (decide_eq_true ?_).symm
    intro hz
    obtain ⟨d,hd⟩:∃ d,k=j + 1 + d:=⟨k - j - 1,by omega⟩
    have h1:(2:Int) ^ k ∣ V:=Int.dvd_of_emod_eq_zero hz
    obtain ⟨c,hc⟩:=h1
    rw [hq,hd,Int.pow_add,Int.pow_succ] at hc
    have hp:=two_pos j
    have e:(2:Int) ^ j * (2 * q + 1)=2 ^ j * (2 * (2 ^ d * c)):=by
      rw [Int.mul_comm,hc]
      simp only [Int.mul_assoc]
    have:=Int.eq_of_mul_eq_mul_left (by omega) e
    omega
  . rw [decide_eq_false (by omega)]
    refine (decide_eq_false ?_).symm
    intro hz
    apply hz
    obtain ⟨d,hd⟩:∃ d,j=k + d:=⟨j - k,by omega⟩
    rw [hq,hd,Int.pow_add,Int.mul_comm,Int.mul_assoc]
    exact Int.mul_emod_right _ _
set_option maxRecDepth 100000 in
set_option maxHeartbeats 1000000 in
theorem scaled_low (ao:Option Addr) (n ca:Nat) (a:Nat->Int) (k:Nat) (w:World) (ha:Row w ao n ca a) (na:Nrm a n) (hn:n <= 5000) (hk0:0 < k) (hk:k <= 1000000) (h0:0 < val a n) (hT:Tab w) :
    Calls Tryd.prog 61 #[.slice ao n ca,.int .i64 (-(k:Int))] w fun e w'=>∃ v,e=.returned (.tuple #[v,.bool (decide (val a n % 2 ^ k ≠ 0))])∧Ans w w' (val a n / 2 ^ k) v:=by
  have CL:Hid (∀ W,Below w.heap.size w W->_):=fun W hb=>lower_any ao n ca k a W (ha.keeps hb) na.1 (by omega) (by omega)
  have CW:Hid (∀ W,Below w.heap.size w W->_):=fun W hb=>lowest_any ao n ca a W (ha.keeps hb) na.1 (by omega) (hT.keeps hb)
  have HM:Hid (∀ l,LowA (val a n) l->decide (l < (k:Int))=decide (val a n % 2 ^ k ≠ 0)):=fun l h=>low_mod h h0 k
  generalize decide (val a n % 2 ^ k ≠ 0)=R at HM ⊢
  generalize val a n / 2 ^ k=Q at CL ⊢
  have w1:IntKind.i64.wrap (k:Int)=(k:Int):=by rw [wrap_i64_eq]; omega
  go_enter Tryd.func61,Tryd.ntmps61
  go_wp2_with fail
  refine (CL.out _ (bel_refl _)).mono ?_
  rintro _ w2 ⟨v,rfl,hA⟩
  have hb2:=hA.below
  have HA:Hid (Ans w w2 Q v):=hA
  obtain ⟨so,sn,sc,rfl⟩:=hA.num.shape
  clear hA CL
  go_wp2_with fail
  refine (CW.out _ hb2).mono ?_
  rintro _ w3 ⟨l,rfl,hl,rfl⟩
  have hr:=HM.out l hl
  go_wp2
  all_goals refine bodyPost_ret (v:=.tuple #[.slice so sn sc,.bool R]) (by simp [results,Tryd.results61,go_sem]) rfl ⟨_,rfl,HA.out⟩
set_option maxRecDepth 100000 in
set_option maxHeartbeats 1000000 in
theorem scaled_zero (ao:Option Addr) (n ca:Nat) (a:Nat->Int) (w:World) (ha:Row w ao n ca a) (na:Nrm a n) (hn:n <= 5000) :
    Calls Tryd.prog 61 #[.slice ao n ca,.int .i64 0] w fun e w'=>∃ v,e=.returned (.tuple #[v,.bool false])∧Ans w w' (val a n) v:=by
  have CR:Hid (Calls Tryd.prog 83 #[.slice ao n ca,.int .i64 0] w fun e w'=>∃ v,e=.returned v∧Ans w w' (val a n) v):=by
    have h:=raise_any ao n ca 0 a w ha na.1 (by omega) (by omega)
    rw [Int.pow_zero,Int.mul_one] at h
    exact h
  go_enter Tryd.func61,Tryd.ntmps61
  go_wp2_with fail
  refine CR.out.mono ?_
  rintro _ w2 ⟨v,rfl,hA⟩
  have HA:Hid (Ans w w2 (val a n) v):=hA
  obtain ⟨so,sn,sc,rfl⟩:=hA.num.shape
  clear hA CR
  go_wp2
  all_goals refine bodyPost_ret (v:=.tuple #[.slice so sn sc,.bool false]) (by simp [results,Tryd.results61,go_sem]) rfl ⟨_,rfl,HA.out⟩
theorem wr5 (W:World) (g:Nat) (a b c d e:Value):Wr g W (((((W.setCell ⟨g,0,none⟩ a).setCell ⟨g,1,none⟩ b).setCell ⟨g,2,none⟩ c).setCell ⟨g,3,none⟩ d).setCell ⟨g,4,none⟩ e):=(((((Wr.refl g W).setCell 0 a).setCell 1 b).setCell 2 c).setCell 3 d).setCell 4 e
def vK (M:Int):Nat:=blen M - 62
theorem vK_small {M:Int} (h:0 <= M):0 <= M / 2 ^ vK M∧M / 2 ^ vK M < 4611686018427387904:=by
  have hp:=two_pos (vK M)
  refine ⟨Int.ediv_nonneg h (by omega),?_⟩
  have h1:=blen_lt M
  have h2:(2:Int) ^ blen M <= 2 ^ (62 + vK M):=two_le (by unfold vK; omega)
  have e:(2:Int) ^ (62 + vK M)=4611686018427387904 * 2 ^ vK M:=by rw [Int.pow_add]; rfl
  exact Int.ediv_lt_of_lt_mul hp (by omega)
theorem blen_nrm {a:Nat->Int} {n:Nat} (na:Nrm a n):blen (val a n) <= 30 * n:=by
  cases n with
  | zero=>show blen 0 <= _; rw [blen_zero]; omega
  | succ m=>
    rw [blen_val na]
    have h:blen (a m) <= 30:=blen_le (by show a m < 1073741824; exact (na.1 m (by omega)).2)
    omega
set_option maxRecDepth 100000 in
set_option maxHeartbeats 2000000 in
theorem valueOf_any (ng:Bool) (ao:Option Addr) (n ca:Nat) (a:Nat->Int) (e:Int) (w:World) (ha:Row w ao n ca a) (na:Nrm a n) (hn:n <= 5000) (he:-1100000 <= e∧e <= 1100000) (hT:Tab w) :
    Calls Tryd.prog 37 #[.agg #[.bool ng,.slice ao n ca,.int .i64 e]] w fun r w'=>r=.returned (valV ng (val a n / 2 ^ vK (val a n)).toNat (e + vK (val a n)) (decide (val a n % 2 ^ vK (val a n) ≠ 0)) false)∧Below w.heap.size w w':=by
  have hv0:=val_nonneg na.1
  have hbl:blen (val a n) <= 150000:=by have:=blen_nrm na; omega
  have CB:Hid (∀ W,Below w.heap.size w W->_):=fun W hb=>bitLength_any ao n ca a W (ha.keeps hb) na (by omega)
  obtain ⟨k,hk⟩:∃ k,vK (val a n)=k:=⟨_,rfl⟩
  have hsm:=vK_small hv0
  rw [hk] at hsm ⊢
  have CS:Hid (∀ W,Below w.heap.size w W->Calls Tryd.prog 61 #[.slice ao n ca,.int .i64 (-(k:Int))] W fun e w'=>∃ v,e=.returned (.tuple #[v,.bool (decide (val a n % 2 ^ k ≠ 0))])∧Ans W w' (val a n / 2 ^ k) v):=fun W hb=>by
    by_cases h0:k=0
    . subst h0
      have h:=scaled_zero ao n ca a W (ha.keeps hb) na hn
      simpa using h
    . have hp:0 < val a n:=by
        rcases Int.lt_or_eq_of_le hv0 with h | h
        . exact h
        . exfalso; rw [<- h] at hk; apply h0; rw [<- hk]; decide
      exact scaled_low ao n ca a k W (ha.keeps hb) na hn (by omega) (by unfold vK at hk; omega) hp (hT.keeps hb)
  have hbk:min (62 - (blen (val a n):Int)) 0=-(k:Int):=by unfold vK at hk; omega
  obtain ⟨B,hB⟩:∃ B:Int,(blen (val a n):Int)=B:=⟨_,rfl⟩
  have hB0:0 <= B∧B <= 150000:=by omega
  rw [hB] at CB hbk
  have hk2:k <= 150000:=by unfold vK at hk; omega
  generalize decide (val a n % 2 ^ k ≠ 0)=R at CS ⊢
  obtain ⟨Q,hQ⟩:∃ Q:Nat,val a n / 2 ^ k=(Q:Int):=Int.eq_ofNat_of_zero_le hsm.1
  rw [hQ] at CS hsm ⊢
  rw [Int.toNat_natCast]
  have CM:Hid (∀ (W':World) so sn sc,Num W' (.slice so sn sc) (Q:Int)->Calls Tryd.prog 62 #[.slice so sn sc] W' fun e w'=>e=.returned (.int .i64 (Q:Int))∧w'=W'):=fun W' so sn sc hA=>by
    obtain ⟨ao',n',ca',d',hs,hR,hN,hV,hl⟩:=hA.parts (k:=3) (by rw [show P 3=1237940039285380274899124224 by decide]; omega)
    simp only [Value.slice.injEq] at hs
    obtain ⟨rfl,rfl,rfl⟩:=hs
    rw [<- hV]
    exact small_any _ _ _ _ _ hR hN.1 hl (by omega)
  have w1:IntKind.i64.wrap (62 - B)=62 - B:=by rw [wrap_i64_eq]; omega
  have w2:IntKind.i64.wrap (e + k)=e + k:=by rw [wrap_i64_eq]; omega
  have w3:IntKind.u64.wrap (Q:Int)=(Q:Int):=by rw [IntKind.wrap_u64]; omega
  have hmin:∀ (ts:Array TypeId) (t:TypeId) (x y:Int) (w:World),(Builtin.min_ ts t #[.int .i64 x,.int .i64 y]).run Tryd.prog w=.ok (.int .i64 (min x y)) w:=fun ts t x y w=>by rw [run_min_int2]; congr 2; omega
  have q0:=heap_a2 w (.cells #[.bool ng,.slice ao n ca,.int .i64 e] 30) (.cells #[.bool false,.int .u64 0,.int .i64 0,.bool false,.bool false] 52)
  have q1:=heap_b2 w (.cells #[.bool ng,.slice ao n ca,.int .i64 e] 30) (.cells #[.bool false,.int .u64 0,.int .i64 0,.bool false,.bool false] 52)
  have hb1:=bel_alloc2 w (.cells #[.bool ng,.slice ao n ca,.int .i64 e] 30) (.cells #[.bool false,.int .u64 0,.int .i64 0,.bool false,.bool false] 52)
  clear hQ hk hB hbl hv0 hsm hT
  unfold valV
  go_enter Tryd.func37,Tryd.ntmps37
  go_wp2_with fail
  generalize (w.alloc (.cells #[.bool ng,.slice ao n ca,.int .i64 e] 30)).alloc (.cells #[.bool false,.int .u64 0,.int .i64 0,.bool false,.bool false] 52)=wx at q0 q1 hb1 ⊢
  refine (CB.out _ hb1).mono ?_
  rintro _ _ ⟨rfl,rfl⟩
  have k1:=blkC q0 1 rfl
  go_wp2_with fail
  refine (CS.out _ hb1).mono ?_
  rintro _ w4 ⟨v,rfl,hA⟩
  have hb4:=hA.below
  obtain ⟨so,sn,sc,rfl⟩:=hA.num.shape
  have CM1:Hid (Calls Tryd.prog 62 #[.slice so sn sc] w4.drew fun e w'=>e=.returned (.int .i64 (Q:Int))∧w'=w4.drew):=CM.out w4.drew so sn sc (hA.num.keeps (bel_refl w4).drew)
  have hbw:=bel_trans hb1 hb4
  have p0:=(hb4.block _ (Array.getElem?_eq_some_iff.1 q0).1).trans q0
  have p1:=(hb4.block _ (Array.getElem?_eq_some_iff.1 q1).1).trans q1
  clear CB CS k1 hA CM
  have c0:=blkC p0 0 rfl
  have c2:=blkC p0 2 rfl
  have x0:=blkC p1 0 rfl
  have x1:=blkC p1 1 rfl
  have x2:=blkC p1 2 rfl
  have x3:=blkC p1 3 rfl
  have x4:=blkC p1 4 rfl
  have z0:=blkF p1 0
  have z1:=blkF p1 1
  have z2:=blkF p1 2
  have z3:=blkF p1 3
  have z4:=blkF p1 4
  go_wp2_with fail
  have c1:=blkC p0 1 rfl
  go_region_with (go_at_call 62; refine CM1.out.mono ?_; rintro _ _ ⟨rfl,rfl⟩)
  all_goals go_wp2
  all_goals refine bodyPost_ret (v:=.agg #[.bool ng,.int .u64 Q,.int .i64 (e + k),.bool R,.bool false]) (by simp [results,Tryd.results37,go_sem,x0,x1,x2,x3,x4]) rfl ⟨rfl,?_⟩
  all_goals exact ((wr5 w4 (w.heap.size + 1) _ _ _ _ _).below hbw hbw.size (Nat.le_succ _)).drew
set_option maxRecDepth 100000 in
set_option maxHeartbeats 1000000 in
theorem itself_any (p:Nat) (off cap len:Nat) (ng:Bool) (ao:Option Addr) (n ca:Nat) (a:Nat->Int) (e:Int) (w:World) (c0:w.cell? ⟨p,off,none⟩=some (.bool ng)) (c1:w.cell? ⟨p,off + 1,none⟩=some (.slice ao n ca)) (c2:w.cell? ⟨p,off + 2,none⟩=some (.int .i64 e)) (hl:0 < len) (ha:Row w ao n ca a) (na:Nrm a n) (hn:n <= 5000) (he:-1100000 <= e∧e <= 1100000) (hT:Tab w) :
    Calls Tryd.prog 18 #[.slice (some ⟨p,off,none⟩) len cap] w fun r w'=>r=.returned (.tuple #[valV ng (val a n / 2 ^ vK (val a n)).toNat (e + vK (val a n)) (decide (val a n % 2 ^ vK (val a n) ≠ 0)) false,.int .i64 0])∧Below w.heap.size w w':=by
  have CV:Hid (∀ W,Below w.heap.size w W->_):=fun W hb=>valueOf_any ng ao n ca a e W (ha.keeps hb) na hn he (hT.keeps hb)
  unfold valV at *
  generalize (val a n / 2 ^ vK (val a n)).toNat=Q at CV ⊢
  generalize e + vK (val a n)=E at CV ⊢
  generalize decide (val a n % 2 ^ vK (val a n) ≠ 0)=R at CV ⊢
  have q0:=heap_alloc_new w (.cells #[.bool false,.int .u64 0,.int .i64 0,.bool false,.bool false] 52)
  have hb1:=bel_alloc w (.cells #[.bool false,.int .u64 0,.int .i64 0,.bool false,.bool false] 52)
  have d0:=cell_keeps c0 hb1
  have d1:=cell_keeps c1 hb1
  have d2:=cell_keeps c2 hb1
  go_enter Tryd.func18,Tryd.ntmps18
  go_wp2_with fail
  refine (CV.out _ hb1).mono ?_
  rintro _ w2 ⟨rfl,hb2⟩
  have p1:=(hb2.block _ (Array.getElem?_eq_some_iff.1 q0).1).trans q0
  have hbw:=bel_trans hb1 hb2
  clear d0 d1 d2 c0 c1 c2 CV
  have x0:=blkC p1 0 rfl
  have x1:=blkC p1 1 rfl
  have x2:=blkC p1 2 rfl
  have x3:=blkC p1 3 rfl
  have x4:=blkC p1 4 rfl
  have z0:=blkF p1 0
  have z1:=blkF p1 1
  have z2:=blkF p1 2
  have z3:=blkF p1 3
  have z4:=blkF p1 4
  go_wp2
  all_goals refine bodyPost_ret (v:=.tuple #[.agg #[.bool ng,.int .u64 Q,.int .i64 E,.bool R,.bool false],.int .i64 0]) (by simp [results,Tryd.results18,go_sem,x0,x1,x2,x3,x4]) rfl ⟨rfl,?_⟩
  all_goals exact (wr5 w2 w.heap.size _ _ _ _ _).below hbw hbw.size (Nat.le_refl _)
set_option maxRecDepth 100000 in
set_option maxHeartbeats 1000000 in
theorem rounded_ok (way:Int) (hw:0 <= way∧way <= 3) (F G:Nat) (lo:Option Addr) (ln lc:Nat) (r:Nat->NumR) (w:World) (hl:Nums w lo ln lc r) (ok:∀ i,i < ln->okR (r i)=true) (ng:Bool) (mag:Nat) (exp:Int) (cut sd:Bool) (b:Int) (o:Bool)
    (hEF:∀ (cap:Array Value) (w:World),(callFunc F cap).run Tryd.prog w=.ok (.enter F cap) w) (hEG:∀ (cap:Array Value) (w:World),(callFunc G cap).run Tryd.prog w=.ok (.enter G cap) w)
    (hG:∀ W,Below w.heap.size w W->Calls Tryd.prog G #[.slice lo ln lc] W fun e w'=>e=.returned (.tuple #[valV ng mag exp cut sd,.int .i64 0])∧Below W.heap.size W w')
    (hF:∀ W,Below w.heap.size w W->Calls Tryd.prog F #[valV ng mag exp cut sd,wayV way] W fun e w'=>e=.returned (.tuple #[.int .i64 b,.bool o])∧Below W.heap.size W w') :
    Calls Tryd.prog 16 #[.int .i64 way,.func (.func F) #[] #[],.func (.func G) #[] #[],.slice lo ln lc] w fun e w'=>e=.returned (.tuple #[.int .i64 b,.bool o,.int .i64 0])∧Below w.heap.size w w':=by
  have hst:∀ (p:Addr) (F:Nat) (m:Mode) (w:World),(store p (.func (.func F) #[] #[]) m).run Tryd.prog w=stored Tryd.prog w p (.func (.func F) #[] #[]) m:=fun p F m w=>run_store _ w p _ m rfl
  have hle:=hl.le
  have hma:=hl.max
  unfold valV wayV at *
  have CW:=wayOf_any way w
  rw [if_pos hw,decide_eq_true hw] at CW
  unfold wayV at CW
  generalize wayF way=K at *
  go_enter Tryd.func16,Tryd.ntmps16
  go_wp2_with fail
  refine CW.mono ?_
  rintro _ w1 ⟨rfl,hb1⟩
  have q1:=heap_alloc_new w1 (.cells #[.nilFunc] 72)
  have y0:=blkC q1 0 rfl
  have y1:=blkF q1 0
  go_wp2_with fail
  have q2:=heap_alloc_new w1 (.cells #[.func (.func K) #[] #[]] 72)
  have hb2:=bel_trans hb1 (bel_alloc w1 (.cells #[.func (.func K) #[] #[]] 72))
  generalize w1.alloc (.cells #[.func (.func K) #[] #[]] 72)=w2 at q2 hb2 ⊢
  clear q1 y0 y1 CW
  go_loopw [28] (fun iv wr=>∃ k:Nat,iv=.int .i64 k∧k <= ln∧Hid (wr.heap[w1.heap.size]?=some (.cells #[.func (.func K) #[] #[]] 72 (0,0)))∧Below w.heap.size w wr) (fun iv _=>ln - (intOf iv).toNat)
  case atStart=>exact ⟨0,rfl,Nat.zero_le _,q2,hb2⟩
  case round=>
    clear q2 hb2
    obtain ⟨k,rfl,hk,HQ,hbw⟩:=hrel
    by_cases hlt:k < ln
    . obtain ⟨ba,oa,rfl,hba,hca⟩:=hl.spot (by omega)
      obtain ⟨c0,c1,c2,hR⟩:=(hca k hlt).keeps hbw hba
      have hok:=ok k hlt
      have CV:=fun W (hb:Below wr.heap.size wr W)=>dvalid_any (r k).ng (r k).ao (r k).n (r k).cap (r k).d (r k).e W (hR.keeps hb)
      unfold okR at hok
      rw [hok] at CV
      clear hok hR hca
      generalize r k=x at c0 c1 c2 CV
      obtain ⟨x_g,x_o,x_n,x_c,x_d,x_e⟩:=x
      simp only at c0 c1 c2 CV
      have hb3:=bel_alloc wr (.cells #[.bool x_g,.slice x_o x_n x_c,.int .i64 x_e] 30)
      have HQ3:Hid ((wr.alloc (.cells #[.bool x_g,.slice x_o x_n x_c,.int .i64 x_e] 30)).heap[w1.heap.size]?=some (.cells #[.func (.func K) #[] #[]] 72 (0,0))):=(hb3.block _ (Array.getElem?_eq_some_iff.1 HQ.out).1).trans HQ.out
      go_wp2_with fail
      refine (CV _ hb3).mono ?_
      rintro _ w4 ⟨rfl,hb4⟩
      have HQ4:Hid (w4.heap[w1.heap.size]?=some (.cells #[.func (.func K) #[] #[]] 72 (0,0))):=(hb4.block _ (Array.getElem?_eq_some_iff.1 HQ3.out).1).trans HQ3.out
      have hbw4:=hbw.trans ((bel_trans hb3 hb4).mono hbw.size)
      clear CV HQ3 hb3 hb4 c0 c1 c2
      go_wp2
      go_roundw
      case rel=>exact ⟨k + 1,by go_num,by omega,HQ4.out,hbw4⟩
      case measure=>simp [intOf]; omega
    . obtain rfl:k=ln:=by omega
      go_wp2_with fail
      refine (hG _ hbw).mono ?_
      rintro _ w4 ⟨rfl,hb4⟩
      have p4:=(hb4.block _ (Array.getElem?_eq_some_iff.1 HQ.out).1).trans HQ.out
      have hbw4:=hbw.trans (hb4.mono hbw.size)
      have hb5:=bel_alloc w4 (.cells #[.bool ng,.int .u64 mag,.int .i64 exp,.bool cut,.bool sd] 52)
      have kw:=cell_keeps (blkC p4 0 rfl) hb5
      have hbw5:=hbw4.trans (hb5.mono hbw4.size)
      clear hG hb4
      go_wp2_with fail
      refine (hF _ hbw5).mono ?_
      rintro _ w6 ⟨rfl,hb6⟩
      go_wp2
      all_goals refine bodyPost_ret (v:=.tuple #[.int .i64 b,.bool o,.int .i64 0]) (by simp [results,Tryd.results16,go_sem]) rfl ⟨rfl,hbw5.trans (hb6.mono hbw5.size)⟩
set_option maxRecDepth 100000 in
set_option maxHeartbeats 1000000 in
theorem to_ok (way:Int) (hw:0 <= way∧way <= 3) (x:NumR) (w:World) (hx:Row w x.ao x.n x.cap x.d) (ok:okR x=true) (Ev:Env w) (hT:Tab w) :
    Calls Tryd.prog 47 #[x.v,.int .i64 way] w fun e w'=>e=.returned (.tuple #[.int .i64 (r64 way x.ng false (val x.d x.n / 2 ^ vK (val x.d x.n)).toNat (x.e + vK (val x.d x.n)) (decide (val x.d x.n % 2 ^ vK (val x.d x.n) ≠ 0))).1,.bool (r64 way x.ng false (val x.d x.n / 2 ^ vK (val x.d x.n)).toNat (x.e + vK (val x.d x.n)) (decide (val x.d x.n % 2 ^ vK (val x.d x.n) ≠ 0))).2,.int .i64 0])∧Below w.heap.size w w':=by
  have hS:=okR_sane ok
  obtain ⟨na,hn,he0,he1⟩:=hS
  have hv0:=val_nonneg na.1
  have hbl:vK (val x.d x.n) <= 150000:=by have:=blen_nrm na; unfold vK; omega
  have hsm:=vK_small hv0
  have hEF:∀ (cap:Array Value) (w:World),(callFunc 74 cap).run Tryd.prog w=.ok (.enter 74 cap) w:=by
    intro cap w
    simp [go_sem]
  have hEG:∀ (cap:Array Value) (w:World),(callFunc 18 cap).run Tryd.prog w=.ok (.enter 18 cap) w:=by
    intro cap w
    simp [go_sem]
  have hmf:∀ (fn:Fn) (first cap:Array Value) (w:World),(Instr.makeFunc fn first cap).run Tryd.prog w=.ok (.func fn first cap) w:=fun _ _ _ _=>rfl
  have CR:=fun W (hb:Below w.heap.size w W) (g:Nat) (hg:W.heap[g]?=some (.cells #[.bool x.ng,.slice x.ao x.n x.cap,.int .i64 x.e] 30 (0,0)))=>rounded_ok way hw 74 18 (some ⟨g,0,none⟩) 1 1 (fun _=>x) W
    ⟨Nat.le_refl _,by decide,fun _=>⟨g,0,rfl,(Array.getElem?_eq_some_iff.1 hg).1,fun i hi=>by
      obtain rfl:i=0:=by omega
      exact ⟨blkC hg 0 rfl,blkC hg 1 rfl,blkC hg 2 rfl,hx.keeps hb⟩⟩⟩ (fun _ _=>ok) x.ng (val x.d x.n / 2 ^ vK (val x.d x.n)).toNat (x.e + vK (val x.d x.n)) (decide (val x.d x.n % 2 ^ vK (val x.d x.n) ≠ 0)) false _ _ hEF hEG
    (fun W2 hb2=>itself_any g 0 1 1 x.ng x.ao x.n x.cap x.d x.e W2 (cell_keeps (blkC hg 0 rfl) hb2) (cell_keeps (blkC hg 1 rfl) hb2) (cell_keeps (blkC hg 2 rfl) hb2) (by decide) ((hx.keeps hb).keeps hb2) na hn ⟨he0,he1⟩ ((hT.keeps hb).keeps hb2))
    (fun W2 hb2=>binary64_any way hw x.ng false _ _ _ W2 ((Ev.keeps hb).keeps hb2) (by omega) (by omega))
  generalize r64 way x.ng false (val x.d x.n / 2 ^ vK (val x.d x.n)).toNat (x.e + vK (val x.d x.n)) (decide (val x.d x.n % 2 ^ vK (val x.d x.n) ≠ 0))=R at CR ⊢
  have HCR:Hid _:=CR
  unfold NumR.v
  clear ok hsm hbl hv0 he0 he1 hn na hx
  obtain ⟨x_g,x_o,x_n,x_c,x_d,x_e⟩:=x
  simp only at *
  clear HCR
  have hb2:=bel_alloc2 w (.cells #[.bool x_g,.slice x_o x_n x_c,.int .i64 x_e] 30) (.cells #[.bool x_g,.slice x_o x_n x_c,.int .i64 x_e] 30)
  have q1:=heap_b2 w (.cells #[.bool x_g,.slice x_o x_n x_c,.int .i64 x_e] 30) (.cells #[.bool x_g,.slice x_o x_n x_c,.int .i64 x_e] 30)
  go_enter Tryd.func47,Tryd.ntmps47
  go_wp2_with fail
  refine (CR _ hb2 _ q1).mono ?_
  rintro _ w2 ⟨rfl,hb3⟩
  go_wp2
  all_goals refine bodyPost_ret (v:=.tuple #[.int .i64 R.1,.bool R.2,.int .i64 0]) (by simp [results,Tryd.results47,go_sem]) rfl ⟨rfl,bel_trans hb2 hb3⟩
theorem run_from64 (n:Int) (w:World):(callFunc 91 #[.int .u64 n]).run Tryd.prog w=.ok (.value (.float .f64 n.toNat)) w:=by
  rw [run_callFunc_extern Tryd.func91 (by kernel_rfl) (by kernel_rfl) (by kernel_rfl) (e:=Extern.MathFloatBits.float64frombits) (by kernel_rfl)]
  rfl
theorem run_from32 (n:Int) (w:World):(callFunc 26 #[.int .u32 n]).run Tryd.prog w=.ok (.value (.float .f32 n.toNat)) w:=by
  rw [run_callFunc_extern Tryd.func26 (by kernel_rfl) (by kernel_rfl) (by kernel_rfl) (e:=Extern.MathFloatBits.float32frombits) (by kernel_rfl)]
  rfl
theorem ret_float {k:FloatKind} {a b:Nat} (h:a=b):Ending.returned (.float k a)=.returned (.float k b):=by rw [h]
theorem bitsFloat (b:Int) (w:World) :
    Calls Tryd.prog 73 #[.int .i64 b] w fun e w'=>e=.returned (.float .f64 (wd b))∧w'=w:=by
  have hd:=run_from64
  go_enter Tryd.func73,Tryd.ntmps73
  go_wp2
  go_ret
  exact ⟨ret_float (by rw [IntKind.wrap_u64]; rfl),rfl⟩
theorem hideIt {p:Prop} (h:p):Hid p:=h
def told (b:Int):Int:=if cls b=4 then 9221120237041090561 else b
def wd32 (b:Int):Nat:=if in32 b then b.toNat else 2143289345
theorem no64 {b:Int} (hb:rng b):(FloatKind.f64.format.order (wd b) (wd b) != some .eq)=decide (cls b=4):=by
  have:=same_order hb hb
  unfold bne
  rw [this]; unfold same
  by_cases h:cls b=4 <;> simp [h]
theorem run_bits64 (n:Nat) (w:World):(callFunc 25 #[.float .f64 n]).run Tryd.prog w=.ok (.value (.int .u64 n)) w:=by
  rw [run_callFunc_extern Tryd.func25 (by kernel_rfl) (by kernel_rfl) (by kernel_rfl) (e:=Extern.MathFloatBits.float64bits) (by kernel_rfl)]
  rfl
theorem bitsFloat32' (b:Int) (w:World) :
    Calls Tryd.prog 13 #[.int .i64 b] w fun e w'=>e=.returned (.float .f32 (wd32 b))∧w'=w:=by
  have hd:=run_from32
  by_cases h:in32 b=true
  . have hb:=of_decide_eq_true h
    have e:Hid (wd32 b=b.toNat):=by unfold Hid wd32; rw [if_pos h]
    go_enter Tryd.func13,Tryd.ntmps13
    go_wp2_with (go_at_call 10; refine (bitsFits32 _ _).mono ?_; rintro e w1 ⟨rfl,rfl⟩)
    go_ret
    exact ⟨ret_float e.out.symm,rfl⟩
  . have h':in32 b=false:=by simpa using h
    have e:Hid (wd32 b=2143289345):=by unfold Hid wd32; rw [if_neg h]
    go_enter Tryd.func13,Tryd.ntmps13
    go_wp2_with (go_at_call 10; refine (bitsFits32 _ _).mono ?_; rintro e w1 ⟨rfl,rfl⟩)
    go_ret
    exact ⟨ret_float e.out.symm,rfl⟩
theorem bitsOf (b:Int) (w:World) (hb:rng b) :
    Calls Tryd.prog 12 #[.float .f64 (wd b)] w fun e w'=>e=.returned (.int .i64 (told b))∧w'=w:=by
  have hd:=run_bits64
  have hn:=no64 hb
  have hw:Hid (wrap64 (wd b:Int)=b):=by unfold Hid wrap64 wd; unfold rng at hb; omega
  by_cases h:cls b=4
  . have hn':(FloatKind.f64.format.order (wd b) (wd b) != some .eq)=true:=by rw [hn]; simp [h]
    clear hn
    go_enter Tryd.func12,Tryd.ntmps12
    go_wp2
    go_ret
    exact ⟨b_ret_int (by simp [told,h]),rfl⟩
  . have hn':(FloatKind.f64.format.order (wd b) (wd b) != some .eq)=false:=by rw [hn]; simp [h]
    clear hn
    go_enter Tryd.func12,Tryd.ntmps12
    go_wp2
    go_ret
    exact ⟨b_ret_int (by rw [hw.out]; simp [told,h]),rfl⟩
def patV (b:Int):Int:=sg (pneg b) (pmag b) * pw (pexp b)
def ordP (A b:Int):Int:=if pok b=true then ord A (patV b) else if b < 0 then 1 else -1
end Go.Proofs.YtkajoieoggajiaaDoor
namespace Go.Proofs.YtkajoieoggajiaaDoor
open Go Go.Proofs.YtkajoieoggajiaaDoor.M
def vS (r:Nat):Int:=(V Ieee.double r:Int) * pw (-1074)
theorem vS_lt {r s:Nat} (h:r < s):vS r < vS s:=Int.mul_lt_mul_of_pos_right (by have:=V_lt Ieee.double h; omega) (pw_pos _)
structure Rung (A:Int) (r0:Nat) (left:Int):Prop where
  lo:vS r0 <= A
  hi:A < vS (r0 + 1)
  l0:left=0 ↔ A=vS r0
  l1:left=1 ↔ vS r0 < A∧2 * A < vS r0 + vS (r0 + 1)
  l2:left=2 ↔ 2 * A=vS r0 + vS (r0 + 1)
  l3:left=3 ↔ vS r0 + vS (r0 + 1) < 2 * A
def rTo (way:Int) (ng:Bool) (r0:Nat) (left:Int):Int:=if (r0:Int) < 9218868437227405312 then (r0:Int) + (if rUp way ng (decide (r0 % 2=1)) left then 1 else 0) else bRung way ng
theorem rUp_left {way:Int} {ng odd:Bool} (h:rUp way ng odd 0=true):False:=by
  unfold rUp at h
  split at h
  . simp at h
  . split at h
    . simp at h
    . split at h <;> simp at h
theorem rUp_more {way:Int} {ng odd:Bool} {left:Int} (h:rUp way ng odd left=true):rUp way ng true 3=true:=by
  unfold rUp at *
  split at h
  . rename_i h1; rw [if_pos h1]; rfl
  . rename_i h1
    rw [if_neg h1]
    split at h
    . rename_i h2; rw [if_pos h2]; simp at h; simp [h.2]
    . rename_i h2
      rw [if_neg h2]
      split at h
      . rename_i h3; rw [if_pos h3]; simp at h; simp [h.2]
      . cases h
theorem left_rung {A:Int} {u a r0:Nat} {left:Int} (h:M.Left A u (2 ^ a * pw (-1074)) left) (h1:V Ieee.double r0=u * 2 ^ a) (h2:V Ieee.double (r0 + 1)=(u + 1) * 2 ^ a):Rung A r0 left:=by
  obtain ⟨lo,hi,l0,l1,l2,l3⟩:=h
  have e1:vS r0=(u:Int) * (2 ^ a * pw (-1074)):=by
    unfold vS
    rw [h1]
    push_cast
    rw [Int.mul_assoc]
  have e2:vS (r0 + 1)=(u:Int) * (2 ^ a * pw (-1074)) + 2 ^ a * pw (-1074):=by
    unfold vS
    rw [h2]
    push_cast
    rw [Int.add_mul,Int.add_mul,Int.one_mul,Int.mul_assoc]
  generalize (2:Int) ^ a * pw (-1074)=q at *
  generalize (u:Int) * q=U at *
  exact ⟨by omega,by omega,by rw [e1]; exact l0,by rw [e1,e2,l1]; constructor <;> intro h <;> omega,by rw [e1,e2,l2]; constructor <;> intro h <;> omega,by rw [e1,e2,l3]; constructor <;> intro h <;> omega⟩
theorem r64_spec {way:Int} {ng sd:Bool} {A:Int} {mag:Nat} {exp:Int} {cut:Bool} (hA:Held A mag exp cut) (hm:mag < 2 ^ 64) (h0:mag ≠ 0) (he:-4194304 <= exp) (hc:cut=true->2 ^ 60 <= mag) :
    ∃ (r0:Nat) (left:Int),Rung A r0 left∧r64 way ng sd mag exp cut=(patS (ng && (decide (0 < rTo way ng r0 left) || sd)) (rTo way ng r0 left),decide (left ≠ 0) || decide (9218868437227405312 <= (r0:Int))):=by
  have e64:(2:Nat) ^ 64=18446744073709551616:=by decide
  obtain ⟨b1,b2,b3,b4⟩:=M.bitLen_spec mag hm h0
  have hbits:=rU_bits (size:=53) (low:=-1074) (exp:=exp) (by decide) hm h0
  have hE1:-1074 <= rE 53 (-1074) mag exp:=by unfold rE; omega
  have hcs:cut=true->0 < rE 53 (-1074) mag exp - exp:=fun h=>by
    have h1:=hc h
    have h2:60 < Lib.bitLen mag:=by
      have:=(Nat.pow_lt_pow_iff_right (by decide:1 < 2)).1 (Nat.lt_of_le_of_lt h1 b2)
      exact this
    unfold rE
    omega
  have hL:=left_of hA hcs (by omega) he
  obtain ⟨E,hE⟩:∃ E,rE 53 (-1074) mag exp=E:=⟨_,rfl⟩
  have HR:r64 way ng sd mag exp cut=(let E:=rE 53 (-1074) mag exp
    let u:=rU mag (E - exp)
    let left:=rL mag cut (E - exp)
    let U:=u + (if rUp way ng (decide (u % 2=1)) left then 1 else 0)
    let neg:=ng && (decide (0 < U) || sd)
    if jk 52 2047 (-1074) U E then (jp neg U E,decide (left ≠ 0)) else (patS neg (bRung way neg),true)):=rfl
  simp only at HR
  rw [hE] at hbits hE1 hL HR
  obtain ⟨u,hu⟩:∃ u,rU mag (E - exp)=u:=⟨_,rfl⟩
  obtain ⟨left,hl⟩:∃ l,rL mag cut (E - exp)=l:=⟨_,rfl⟩
  rw [hu] at hbits hL HR
  rw [hl] at hL HR
  obtain ⟨a,ha⟩:∃ a,(E - -1074).toNat=a:=⟨_,rfl⟩
  have e53:(2:Nat) ^ (53:Int).toNat=9007199254740992:=by decide
  have e52:(2:Nat) ^ ((53:Int).toNat - 1)=4503599627370496:=by decide
  rw [e53,e52] at hbits
  have eB:Ieee.double.binade=4503599627370496:=by decide
  have hV:=V_rung Ieee.double a u (by rw [eB]; omega) (fun h=>by rw [eB]; exact hbits.2 (by omega))
  rw [eB] at hV
  have hpw:pw E=2 ^ a * pw (-1074):=by rw [pw_sub (e:=E) (low:=-1074) (by decide) hE1,ha]
  rw [hpw] at hL
  refine ⟨a * 4503599627370496 + u,left,left_rung hL hV.1 hV.2,?_⟩
  rw [HR]
  have hodd:decide ((a * 4503599627370496 + u) % 2=1)=decide (u % 2=1):=by congr 1; apply propext; omega
  unfold rTo
  rw [hodd]
  obtain ⟨R,hR⟩:∃ R,rUp way ng (decide (u % 2=1)) left=R:=⟨_,rfl⟩
  rw [hR]
  obtain ⟨U,hU⟩:∃ U,u + (if R=true then 1 else 0)=U:=⟨_,rfl⟩
  rw [hU]
  have hR1:R=true->left ≠ 0:=fun h hz=>by rw [hz,h] at hR; exact rUp_left hR
  have hR2:R=true->rUp way ng true 3=true:=fun h=>rUp_more (hR.trans h)
  have hUle:U <= 9007199254740992:=by rw [<- hU]; split <;> omega
  have hcast:((a * 4503599627370496 + u:Nat):Int) + (if R=true then 1 else 0)=((a * 4503599627370496 + U:Nat):Int):=by
    rw [<- hU]
    cases R <;> simp only [if_true,if_false,Bool.false_eq_true] <;> omega
  rw [hcast]
  by_cases hU0:U=0
  . have hu0:u=0:=by rw [<- hU] at hU0; omega
    have ha0:a=0:=by
      rcases Nat.eq_zero_or_pos a with h | h
      . exact h
      . have:=hbits.2 (by omega); omega
    subst hU0 hu0 ha0
    have hj:jk 52 2047 (-1074) ((0:Nat):Int) E=true:=rfl
    rw [hj]
    rw [if_pos rfl,if_pos (by decide)]
    have hd:decide (9218868437227405312 <= ((0 * 4503599627370496 + 0:Nat):Int))=false:=by decide
    rw [hd,Bool.or_false]
    cases ng <;> cases sd <;> rfl
  . have hjr:=join_rung Ieee.double 52 (by decide) dB 2047 (-1074) (by decide) U E (by omega) (by rw [show (2:Nat) ^ (52 + 1)=9007199254740992 by decide]; exact hUle) hE1 (fun h=>by rw [show (2:Nat) ^ 52=4503599627370496 by decide]; have:=hbits.2 h; rw [<- hU]; omega)
    simp only at hjr
    rw [ha,show (2:Nat) ^ 52=4503599627370496 by decide,show (2047:Int) * 2 ^ 52=9218868437227405312 by decide] at hjr
    obtain ⟨j1,j2⟩:=hjr
    have hpos:decide (0 < U)=true:=decide_eq_true (by omega)
    rw [show jk ((52:Nat):Int) 2047 (-1074) (U:Int) E=jk 52 2047 (-1074) (U:Int) E from rfl] at j1
    rw [j1,hpos,Bool.true_or,Bool.and_true]
    by_cases hf:((a * 4503599627370496 + U:Nat):Int) < 9218868437227405312
    . have huU:u <= U:=by rw [<- hU]; omega
      have hf0:((a * 4503599627370496 + u:Nat):Int) < 9218868437227405312:=by omega
      rw [decide_eq_true hf,if_pos rfl,if_pos hf0,decide_eq_false (p:=9218868437227405312 <= ((a * 4503599627370496 + u:Nat):Int)) (by omega),Bool.or_false]
      have hd:decide (0 < ((a * 4503599627370496 + U:Nat):Int))=true:=decide_eq_true (by omega)
      rw [hd,Bool.true_or,Bool.and_true]
      congr 1
      have hjk:jk 52 2047 (-1074) (U:Int) E=true:=by rw [j1]; exact decide_eq_true hf
      have hjv:=j2 hf
      rw [show jv ((52:Nat):Int) 2047 (-1074) (U:Int) E=jv 52 2047 (-1074) (U:Int) E from rfl] at hjv
      unfold jp patS
      rw [hjk,hjv,Bool.true_and]
    . rw [decide_eq_false hf,if_neg (by simp)]
      by_cases hf0:((a * 4503599627370496 + u:Nat):Int) < 9218868437227405312
      . have hRt:R=true:=by
          cases R
          . exfalso; simp at hU; omega
          . rfl
        have hUe:((a * 4503599627370496 + U:Nat):Int)=9218868437227405312:=by rw [hRt] at hU; simp at hU; omega
        rw [if_pos hf0,hUe,decide_eq_true (hR1 hRt),Bool.true_or]
        congr 1
        have:bRung way ng=9218868437227405312:=by unfold bRung; rw [hR2 hRt,if_pos rfl]
        rw [this]
        simp
      . rw [if_neg hf0,decide_eq_true (p:=9218868437227405312 <= ((a * 4503599627370496 + u:Nat):Int)) (by omega),Bool.or_true]
        congr 1
        have hd:decide (0 < bRung way ng)=true:=by unfold bRung; split <;> decide
        rw [hd,Bool.true_or,Bool.and_true]
end Go.Proofs.YtkajoieoggajiaaDoor
namespace Go.Proofs.YtkajoieoggajiaaDoor
open Go Go.RowKit Go.Proofs.YtkajoieoggajiaaDoor.M
theorem held_cut {M e:Int} (h:0 <= M) (he:-4194304 <= e) (k:Nat):Held (M * pw e) (M / 2 ^ k).toNat (e + k) (decide (M % 2 ^ k ≠ 0)):=by
  have hp:=two_pos k
  have hq:=pw_pos e
  have h0:0 <= M / 2 ^ k:=Int.ediv_nonneg h (by omega)
  have hm0:=Int.emod_nonneg M (show (2:Int) ^ k ≠ 0 by omega)
  have hm1:=Int.emod_lt_of_pos M hp
  have hd:=Int.mul_ediv_add_emod M (2 ^ k)
  unfold Held
  rw [Int.toNat_of_nonneg h0,pw_add he]
  generalize M / 2 ^ k=Q at *
  generalize M % 2 ^ k=T at *
  generalize pw e=q at *
  generalize (2:Int) ^ k=D at *
  have e1:Q * (q * D)=(D * Q) * q:=by rw [Int.mul_comm q D,<- Int.mul_assoc,Int.mul_comm Q D]
  have e2:(Q + 1) * (q * D)=(D * Q) * q + D * q:=by rw [Int.add_mul,e1,Int.one_mul,Int.mul_comm q D]
  have e3:M * q=(D * Q) * q + T * q:=by rw [<- hd,Int.add_mul]
  rw [e2,e1,e3]
  have t0:0 <= T * q:=Int.mul_nonneg hm0 (by omega)
  have t1:T * q < D * q:=Int.mul_lt_mul_of_pos_right hm1 hq
  refine ⟨by omega,by omega,?_⟩
  rw [decide_eq_false_iff_not]
  constructor
  . intro h
    have:T=0:=by omega
    rw [this]; simp
  . intro h hT
    have:0 < T * q:=Int.mul_pos (by omega) hq
    omega
theorem to_rung {way:Int} {x:NumR} (ok:okR x=true) (h0:0 < x.n) :
    ∃ (r0:Nat) (left:Int),Rung (val x.d x.n * pw x.e) r0 left∧r64 way x.ng false (val x.d x.n / 2 ^ vK (val x.d x.n)).toNat (x.e + vK (val x.d x.n)) (decide (val x.d x.n % 2 ^ vK (val x.d x.n) ≠ 0))=(patS (x.ng && (decide (0 < rTo way x.ng r0 left) || false)) (rTo way x.ng r0 left),decide (left ≠ 0) || decide (9218868437227405312 <= (r0:Int))):=by
  obtain ⟨na,hn,he0,he1⟩:=okR_sane ok
  have hv:=val_pos na h0
  have hsm:=vK_small (Int.le_of_lt hv)
  have hb:=blen_pos hv
  have hp:=two_pos (vK (val x.d x.n))
  have hge:2 ^ (blen (val x.d x.n) - 1 - vK (val x.d x.n)) <= val x.d x.n / 2 ^ vK (val x.d x.n):=by
    rw [Int.le_ediv_iff_mul_le hp,<- Int.pow_add]
    by_cases hk:vK (val x.d x.n) <= blen (val x.d x.n) - 1
    . rw [show blen (val x.d x.n) - 1 - vK (val x.d x.n) + vK (val x.d x.n)=blen (val x.d x.n) - 1 by omega]
      exact hb.2
    . exfalso; unfold vK at hk; omega
  have hpos:=two_pos (blen (val x.d x.n) - 1 - vK (val x.d x.n))
  have e64:(2:Nat) ^ 64=18446744073709551616:=by decide
  have e60:(2:Nat) ^ 60=1152921504606846976:=by decide
  refine r64_spec (held_cut (Int.le_of_lt hv) (by omega) _) (by omega) (by omega) (by omega) (fun hc=>?_)
  have hk0:0 < vK (val x.d x.n):=by
    rcases Nat.eq_zero_or_pos (vK (val x.d x.n)) with h | h
    . rw [h,Int.pow_zero,Int.emod_one] at hc; simp at hc
    . exact h
  have h61:blen (val x.d x.n) - 1 - vK (val x.d x.n)=61:=by unfold vK at hk0 ⊢; omega
  rw [h61] at hge
  have e61:(2:Int) ^ 61=2305843009213693952:=by decide
  rw [e61] at hge
  omega
theorem patS_facts {ng:Bool} {r:Int} (h0:0 <= r) (h1:r <= 9218868437227405312) (h:ng=true->0 < r):rng (patS ng r)∧rg (patS ng r)=r∧(patS ng r < 0 ↔ ng=true):=by
  unfold patS rg rng
  cases ng
  . simp only [Bool.false_eq_true,if_false]
    exact ⟨by omega,by rw [if_neg (by omega)],by omega,fun h=>by cases h⟩
  . simp only [if_true]
    exact ⟨by have:=h rfl; omega,by have:=h rfl; rw [if_pos (by omega)]; omega,fun _=>trivial,fun _=>by omega⟩
theorem patS_pok {ng:Bool} {r:Int} (h0:0 <= r) (h1:r <= 9218868437227405312) (h:ng=true->0 < r):pok (patS ng r)=decide (r < 9218868437227405312):=by
  obtain ⟨a,b,c⟩:=patS_facts h0 h1 h
  have hp:=rg_parts a
  rw [b] at hp
  have hf:0 <= frc (patS ng r)∧frc (patS ng r) < 4503599627370496:=by unfold frc; omega
  unfold pok
  by_cases hr:r < 9218868437227405312
  . rw [decide_eq_true hr]
    simp
    omega
  . rw [decide_eq_false hr]
    simp
    omega
theorem patV_patS {ng:Bool} {r:Nat} (h1:(r:Int) < 9218868437227405312) (h:ng=true->0 < r):patV (patS ng r)=sg ng (vS r):=by
  have hh:ng=true->(0:Int) < r:=fun q=>by have:=h q; omega
  obtain ⟨a,b,c⟩:=patS_facts (ng:=ng) (r:=(r:Int)) (by omega) (by omega) hh
  have hp:pok (patS ng r)=true:=by rw [patS_pok (by omega) (by omega) hh]; exact decide_eq_true h1
  have hV:=V_rg a hp
  rw [b,Int.toNat_natCast] at hV
  obtain ⟨i0,i1,i2,i3⟩:=pmag_in hp
  have hn:pneg (patS ng r)=ng:=by
    unfold pneg
    rw [hp,Bool.true_and]
    cases ng
    . exact decide_eq_false (fun q=>by have:=c.1 q; cases this)
    . exact decide_eq_true (c.2 rfl)
  unfold patV vS
  rw [hV,hn]
  have e:pw (pexp (patS ng r))=2 ^ (pexp (patS ng r) + 1074).toNat * pw (-1074):=by
    rw [pw_sub (e:=pexp (patS ng r)) (low:=-1074) (by decide) i2]
    congr 2
  have e2:(((pmag (patS ng r)).toNat * 2 ^ (pexp (patS ng r) + 1074).toNat:Nat):Int) * pw (-1074)=pmag (patS ng r) * pw (pexp (patS ng r)):=by
    push_cast
    rw [Int.toNat_of_nonneg i0,e,Int.mul_assoc]
  rw [e2]
  cases ng
  . rfl
  . show -pmag _ * _=-(pmag _ * _)
    rw [Int.neg_mul]
theorem Rung.unique {A:Int} {r s:Nat} {l k:Int} (h:Rung A r l) (g:Rung A s k):r=s∧l=k:=by
  have e:r=s:=by
    rcases Nat.lt_trichotomy r s with q | q | q
    . exfalso
      have h1:=h.hi
      have h2:=g.lo
      rcases Nat.lt_or_eq_of_le (show r + 1 <= s from q) with q2 | q2
      . have:=vS_lt q2; omega
      . rw [q2] at h1; omega
    . exact q
    . exfalso
      have h1:=g.hi
      have h2:=h.lo
      rcases Nat.lt_or_eq_of_le (show s + 1 <= r from q) with q2 | q2
      . have:=vS_lt q2; omega
      . rw [q2] at h1; omega
  subst e
  refine ⟨rfl,?_⟩
  have a0:=h.lo
  by_cases c0:A=vS r
  . rw [h.l0.2 c0,g.l0.2 c0]
  . by_cases c1:2 * A < vS r + vS (r + 1)
    . rw [h.l1.2 ⟨by omega,c1⟩,g.l1.2 ⟨by omega,c1⟩]
    . by_cases c2:2 * A=vS r + vS (r + 1)
      . rw [h.l2.2 c2,g.l2.2 c2]
      . rw [h.l3.2 (by omega),g.l3.2 (by omega)]
def toR (way:Int) (x:NumR):Int × Bool:=r64 way x.ng false (val x.d x.n / 2 ^ vK (val x.d x.n)).toNat (x.e + vK (val x.d x.n)) (decide (val x.d x.n % 2 ^ vK (val x.d x.n) ≠ 0))
theorem to_all {x:NumR} (ok:okR x=true) (h0:0 < x.n):∃ (r0:Nat) (left:Int),Rung (val x.d x.n * pw x.e) r0 left∧∀ way,toR way x=(patS (x.ng && decide (0 < rTo way x.ng r0 left)) (rTo way x.ng r0 left),decide (left ≠ 0) || decide (9218868437227405312 <= (r0:Int))):=by
  obtain ⟨r0,left,hR,_⟩:=to_rung (way:=0) ok h0
  refine ⟨r0,left,hR,fun way=>?_⟩
  obtain ⟨r1,l1,hR1,e1⟩:=to_rung (way:=way) ok h0
  obtain ⟨rfl,rfl⟩:=hR.unique hR1
  unfold toR
  rw [e1,Bool.or_false]
theorem to_zero {x:NumR} (ok:okR x=true) (h0:x.n=0) (way:Int):toR way x=(0,false):=by
  have hz:x.ng=false∧x.e=0:=by
    have:=of_decide_eq_true ok
    rcases this with ⟨_,a,b⟩ | ⟨a,_⟩
    . exact ⟨a,b⟩
    . omega
  have hv:val x.d x.n=0:=by rw [h0]; rfl
  unfold toR
  rw [hv,hz.1,hz.2]
  have e:r64 way false false ((0:Int) / 2 ^ vK 0).toNat (0 + (vK 0:Int)) (decide ((0:Int) % 2 ^ vK 0 ≠ 0))=r64 way false false 0 0 false:=by
    rw [show vK 0=0 by decide]
    rfl
  rw [e]
  have HR:r64 way false false 0 0 false=(let E:=rE 53 (-1074) 0 0
    let u:=rU 0 (E - 0)
    let left:=rL 0 false (E - 0)
    let U:=u + (if rUp way false (decide (u % 2=1)) left then 1 else 0)
    let neg:=false && (decide (0 < U) || false)
    if jk 52 2047 (-1074) U E then (jp neg U E,decide (left ≠ 0)) else (patS neg (bRung way neg),true)):=rfl
  rw [HR]
  have hE:rE 53 (-1074) 0 0=-53:=by decide
  simp only [hE]
  have hu:rU 0 (-53 - 0)=0:=by decide
  have hl:rL 0 false (-53 - 0)=0:=by decide
  simp only [hu,hl]
  have hr:rUp way false (decide (0 % 2=1)) 0=false:=by
    cases h:rUp way false (decide (0 % 2=1)) 0
    . rfl
    . exact absurd h (fun q=>rUp_left q)
  rw [hr]
  rfl
theorem vS_zero:vS 0=0:=by unfold vS; rw [V_zero]; simp
theorem ordP_pat {A:Int} {ng:Bool} {r:Nat} (h:(r:Int) < 9218868437227405312):ordP A (patS (ng && decide ((0:Int) < r)) r)=ord A (sg ng (vS r)):=by
  by_cases h0:r=0
  . subst h0
    have e:(ng && decide ((0:Int) < ((0:Nat):Int)))=false:=by simp
    rw [e,vS_zero]
    have hp:pok (patS false ((0:Nat):Int))=true:=by decide
    have hv:patV (patS false ((0:Nat):Int))=0:=by rw [patV_patS (by decide) (fun q=>by cases q),vS_zero]; rfl
    unfold ordP
    rw [if_pos hp,hv]
    cases ng <;> rfl
  . have e:(ng && decide ((0:Int) < (r:Int)))=ng:=by rw [decide_eq_true (by omega),Bool.and_true]
    rw [e]
    have hp:pok (patS ng r)=true:=by rw [patS_pok (by omega) (by omega) (fun _=>by omega)]; exact decide_eq_true h
    unfold ordP
    rw [if_pos hp,patV_patS h (fun _=>by omega)]
theorem ordP_inf {A:Int} {ng:Bool}:ordP A (patS (ng && decide ((0:Int) < 9218868437227405312)) 9218868437227405312)=if ng then 1 else -1:=by
  cases ng <;> rfl
theorem rUp_down (ng odd:Bool) (left:Int):rUp 1 ng odd left=(decide (left ≠ 0) && ng):=rfl
theorem rUp_up (ng odd:Bool) (left:Int):rUp 2 ng odd left=(decide (left ≠ 0) && !ng):=rfl
theorem rUp_zero (ng odd:Bool) (left:Int):rUp 3 ng odd left=false:=rfl
theorem rTo_fin {ng:Bool} {r0:Nat} {left:Int} (h:(r0:Int) < 9218868437227405312) :
    rTo 1 ng r0 left=(if left ≠ 0∧ng=true then ((r0 + 1:Nat):Int) else (r0:Int))∧rTo 2 ng r0 left=(if left ≠ 0∧ng=false then ((r0 + 1:Nat):Int) else (r0:Int))∧rTo 3 ng r0 left=(r0:Int)∧(rTo 0 ng r0 left=(r0:Int)∨(left ≠ 0∧rTo 0 ng r0 left=((r0 + 1:Nat):Int))):=by
  unfold rTo
  simp only [if_pos h]
  refine ⟨?_,?_,?_,?_⟩
  . rw [rUp_down]
    by_cases h0:left=0
    . subst h0; simp
    . cases ng <;> simp [h0]
  . rw [rUp_up]
    by_cases h0:left=0
    . subst h0; simp
    . cases ng <;> simp [h0]
  . rw [rUp_zero]
    simp
  . cases hu:rUp 0 ng (decide (r0 % 2=1)) left
    . left; simp
    . right
      refine ⟨fun hz=>?_,by simp⟩
      rw [hz] at hu
      exact rUp_left hu
theorem rTo_inf {ng:Bool} {r0:Nat} {left:Int} (h:¬ (r0:Int) < 9218868437227405312) :
    rTo 1 ng r0 left=(if ng=true then 9218868437227405312 else 9218868437227405311)∧rTo 2 ng r0 left=(if ng=true then 9218868437227405311 else 9218868437227405312)∧rTo 3 ng r0 left=9218868437227405311∧rTo 0 ng r0 left=9218868437227405312:=by
  unfold rTo
  simp only [if_neg h]
  cases ng <;> decide
theorem cls_rg {b:Int} (hb:rng b):(cls b=4 ↔ 9218868437227405312 < rg b)∧(cls b=0 ↔ rg b=0):=by
  obtain ⟨h0,h1⟩:=rg_parts hb
  have hf:0 <= frc b∧frc b < 4503599627370496:=by unfold frc; omega
  have hg:0 <= fld b∧fld b < 2048:=by unfold fld; omega
  generalize rg b=r at *
  unfold cls
  generalize fld b=f at *
  generalize frc b=c at *
  constructor
  . split
    . split <;> constructor <;> intro h <;> omega
    . split
      . split <;> constructor <;> intro h <;> omega
      . constructor <;> intro h <;> omega
  . split
    . split <;> constructor <;> intro h <;> omega
    . split
      . split <;> constructor <;> intro h <;> omega
      . constructor <;> intro h <;> omega
theorem up_pos {r:Int} (h0:0 <= r) (h1:r < 9218868437227405312):canon (next (patS false r))=r + 1:=by
  have e:patS false r=r:=rfl
  rw [e]
  have a1:rng r:=by unfold rng; omega
  have a2:rng (r + 1):=by unfold rng; omega
  have g1:rg r=r:=by unfold rg; rw [if_neg (by omega)]
  have g2:rg (r + 1)=r + 1:=by unfold rg; rw [if_neg (by omega)]
  have c1:=cls_rg a1
  have c2:=cls_rg a2
  rw [g1] at c1
  rw [g2] at c2
  have n:next r=r + 1:=by
    unfold next
    rw [if_neg (by rw [c1.1]; omega),if_neg (by omega),if_neg (by omega),if_neg (by omega)]
  rw [n]
  unfold canon
  rw [if_neg (by rw [c2.1]; omega),if_neg (by rw [c2.2]; omega)]
theorem up_neg {r:Int} (h0:0 < r) (h1:r <= 9218868437227405312):canon (next (patS true r))=patS (decide (0 < r - 1)) (r - 1):=by
  have e:patS true r=r - 9223372036854775808:=rfl
  rw [e]
  have a1:rng (r - 9223372036854775808):=by unfold rng; omega
  have a2:rng (r - 9223372036854775808 - 1):=by unfold rng; omega
  have g1:rg (r - 9223372036854775808)=r:=by unfold rg; rw [if_pos (by omega)]; omega
  have g2:rg (r - 9223372036854775808 - 1)=r - 1:=by unfold rg; rw [if_pos (by omega)]; omega
  have c1:=cls_rg a1
  have c2:=cls_rg a2
  rw [g1] at c1
  rw [g2] at c2
  have n:next (r - 9223372036854775808)=r - 9223372036854775808 - 1:=by
    unfold next
    rw [if_neg (by rw [c1.1]; omega),if_neg (by omega),if_neg (by omega),if_pos (by omega)]
  rw [n]
  unfold canon
  rw [if_neg (by rw [c2.1]; omega)]
  by_cases h:r - 1=0
  . rw [if_pos (c2.2.2 h),h]
    rfl
  . rw [if_neg (by rw [c2.2]; exact h),decide_eq_true (by omega)]
    unfold patS
    rw [if_pos rfl]
    omega
structure Btw (V:Int) (ng:Bool) (f:Int->Int × Bool):Prop where
  o2:(f 2).2=(f 1).2
  o3:(f 3).2=(f 1).2
  o0:(f 0).2=(f 1).2
  lo:¬ ordP V (f 1).1 < 0
  hi:¬ 0 < ordP V (f 2).1
  ex:(f 1).2=false->ordP V (f 1).1=0∧(f 2).1=(f 1).1∧(f 3).1=(f 1).1∧(f 0).1=(f 1).1
  up:(f 1).2=true->ordP V (f 1).1 ≠ 0∧canon (next (f 1).1)=(f 2).1∧((f 0).1=(f 1).1∨(f 0).1=(f 2).1)∧(ng=false->(f 3).1=(f 1).1)∧(ng=true->(f 3).1=(f 2).1)
theorem ord_self (a:Int):ord a a=0:=by unfold ord; rw [if_neg (by omega),if_neg (by omega)]
theorem Btw.of {V:Int} {ng:Bool} {f:Int->Int × Bool} {o:Bool} {d u z n:Int} (f1:f 1=(patS (ng && decide (0 < d)) d,o)) (f2:f 2=(patS (ng && decide (0 < u)) u,o)) (f3:f 3=(patS (ng && decide (0 < z)) z,o)) (f0:f 0=(patS (ng && decide (0 < n)) n,o))
    (lo:¬ ordP V (patS (ng && decide (0 < d)) d) < 0) (hi:¬ 0 < ordP V (patS (ng && decide (0 < u)) u)) (ex:o=false->ordP V (patS (ng && decide (0 < d)) d)=0∧u=d∧z=d∧n=d)
    (up:o=true->ordP V (patS (ng && decide (0 < d)) d) ≠ 0∧canon (next (patS (ng && decide (0 < d)) d))=patS (ng && decide (0 < u)) u∧(n=d∨n=u)∧(ng=false->z=d)∧(ng=true->z=u)):Btw V ng f:=by
  refine ⟨by rw [f1,f2],by rw [f1,f3],by rw [f1,f0],by rw [f1]; exact lo,by rw [f2]; exact hi,fun h=>?_,fun h=>?_⟩
  . rw [f1] at h
    obtain ⟨a,b,c,e⟩:=ex h
    rw [f1,f2,f3,f0,b,c,e]
    exact ⟨a,rfl,rfl,rfl⟩
  . rw [f1] at h
    obtain ⟨a,b,c,e,g⟩:=up h
    rw [f1,f2,f3,f0]
    refine ⟨a,b,?_,fun q=>by rw [e q],fun q=>by rw [g q]⟩
    rcases c with c | c
    . left; rw [c]
    . right; rw [c]
theorem k_top {r:Nat} (h:(r:Int) < 9218868437227405312) (g:¬ ((r + 1:Nat):Int) < 9218868437227405312):((r + 1:Nat):Int)=9218868437227405312:=by omega
theorem k_pos (r:Nat):(0:Int) < ((r + 1:Nat):Int):=by omega
theorem k_le {r:Nat} (h:(r:Int) < 9218868437227405312):((r + 1:Nat):Int) <= 9218868437227405312:=by omega
theorem k_sub (r:Nat):((r + 1:Nat):Int) - 1=(r:Int):=by omega
theorem k_one (r:Nat):((r + 1:Nat):Int)=(r:Int) + 1:=by omega
theorem k_lt {r k:Nat} (hk:(9218868437227405311:Int)=(k:Int)) (h:¬ (r:Int) < 9218868437227405312):k < r:=by omega
theorem k_ex:∃ k:Nat,(9218868437227405311:Int)=(k:Int):=⟨9218868437227405311,rfl⟩
theorem k_fin {k:Nat} (hk:(9218868437227405311:Int)=(k:Int)):(k:Int) < 9218868437227405312∧(k:Int) + 1=9218868437227405312∧(9218868437227405312:Int) - 1=(k:Int):=by omega
theorem ord_sg_lt {ng:Bool} {A B:Int} (h:A < B):ord (sg ng A) (sg ng B)=if ng then 1 else -1:=by
  cases ng
  . exact ord_lt h
  . exact ord_gt (Int.neg_lt_neg h)
theorem ord_sg_gt {ng:Bool} {A B:Int} (h:B < A):ord (sg ng A) (sg ng B)=if ng then -1 else 1:=by
  cases ng
  . exact ord_gt h
  . exact ord_lt (Int.neg_lt_neg h)
theorem sg_prod (ng:Bool) (a b:Int):sg ng a * b=sg ng (a * b):=by
  unfold sg
  cases ng
  . rfl
  . exact Int.neg_mul a b
theorem between {x:NumR} (ok:okR x=true):Btw x.V x.ng (fun way=>toR way x):=by
  by_cases h0:x.n=0
  . have hz:x.ng=false:=by
      have:=of_decide_eq_true ok
      rcases this with ⟨_,a,b⟩ | ⟨a,_⟩
      . exact a
      . omega
    have hv:x.V=0:=by
      have hv:val x.d x.n=0:=by rw [h0]; rfl
      unfold NumR.V
      rw [hv,sg_zero,Int.zero_mul]
    have hp:ordP x.V (patS (x.ng && decide ((0:Int) < 0)) 0)=0:=by
      have:=ordP_pat (A:=x.V) (ng:=x.ng) (r:=0) (by decide)
      rw [vS_zero,hv,hz] at this
      rw [hv,hz]
      exact this
    have hz0:∀ way,toR way x=(patS (x.ng && decide ((0:Int) < 0)) 0,false):=fun way=>by
      rw [to_zero ok h0,hz]
      rfl
    exact Btw.of (f:=fun way=>toR way x) (hz0 1) (hz0 2) (hz0 3) (hz0 0) (by rw [hp]; decide) (by rw [hp]; decide) (fun _=>⟨hp,rfl,rfl,rfl⟩) (fun h=>by cases h)
  . obtain ⟨r0,left,hR,hf⟩:=to_all ok (by omega)
    obtain ⟨A,hA⟩:∃ A,val x.d x.n * pw x.e=A:=⟨_,rfl⟩
    rw [hA] at hR
    have hV:x.V=sg x.ng A:=by
      unfold NumR.V
      rw [<- hA]
      exact sg_prod _ _ _
    clear hA
    have lo:=hR.lo
    have hi:=hR.hi
    have l0:=hR.l0
    rw [hV]
    by_cases hr:(r0:Int) < 9218868437227405312
    . obtain ⟨t1,t2,t3,t0⟩:=rTo_fin (ng:=x.ng) (left:=left) hr
      have ho:(decide (left ≠ 0) || decide (9218868437227405312 <= (r0:Int)))=decide (left ≠ 0):=by rw [decide_eq_false (p:=9218868437227405312 <= (r0:Int)) (Int.not_le.2 hr),Bool.or_false]
      rw [ho] at hf
      have P0:=ordP_pat (A:=sg x.ng A) (ng:=x.ng) hr
      by_cases hl:left=0
      . have hAe:=l0.1 hl
        have e1:rTo 1 x.ng r0 left=(r0:Int):=by rw [t1,if_neg (fun h=>h.1 hl)]
        have e2:rTo 2 x.ng r0 left=(r0:Int):=by rw [t2,if_neg (fun h=>h.1 hl)]
        have e0:rTo 0 x.ng r0 left=(r0:Int):=by rcases t0 with h | h; exact h; exact absurd hl h.1
        rw [hAe,ord_self] at P0
        refine Btw.of (f:=fun way=>toR way x) (hf 1) (hf 2) (hf 3) (hf 0) ?_ ?_ ?_ ?_
        . rw [e1,hAe,P0]; decide
        . rw [e2,hAe,P0]; decide
        . intro _; rw [e1,e2,t3,e0,hAe]; exact ⟨P0,rfl,rfl,rfl⟩
        . intro h; exact absurd hl (of_decide_eq_true h)
      . have hAl:vS r0 < A:=by
          rcases Int.lt_or_eq_of_le lo with h | h
          . exact h
          . exact absurd (l0.2 h.symm) hl
        have P1:ordP (sg x.ng A) (patS (x.ng && decide ((0:Int) < ((r0 + 1:Nat):Int))) ((r0 + 1:Nat):Int))=if x.ng then 1 else -1:=by
          by_cases h1:((r0 + 1:Nat):Int) < 9218868437227405312
          . rw [ordP_pat h1]
            exact ord_sg_lt hi
          . have e:=k_top hr h1
            rw [e]
            exact ordP_inf
        have P0':ordP (sg x.ng A) (patS (x.ng && decide ((0:Int) < (r0:Int))) (r0:Int))=if x.ng then -1 else 1:=by
          rw [P0]
          exact ord_sg_gt hAl
        clear hV
        generalize x.ng=ng at *
        cases ng
        . have e1:rTo 1 false r0 left=(r0:Int):=by rw [t1,if_neg (fun h=>by cases h.2)]
          have e2:rTo 2 false r0 left=((r0 + 1:Nat):Int):=by rw [t2,if_pos ⟨hl,rfl⟩]
          refine Btw.of (f:=fun way=>toR way x) (hf 1) (hf 2) (hf 3) (hf 0) ?_ ?_ ?_ ?_
          . rw [e1,P0']; decide
          . rw [e2,P1]; decide
          . intro h; exact absurd hl (by simpa using h)
          . intro _
            rw [e1,e2,t3,P0']
            refine ⟨by decide,?_,?_,(fun _=>rfl),(fun h=>by cases h)⟩
            . rw [Bool.false_and,Bool.false_and,up_pos (Int.natCast_nonneg _) hr]; exact (k_one r0).symm
            . rcases t0 with h | h
              . exact .inl h
              . exact .inr h.2
        . have e1:rTo 1 true r0 left=((r0 + 1:Nat):Int):=by rw [t1,if_pos ⟨hl,rfl⟩]
          have e2:rTo 2 true r0 left=(r0:Int):=by rw [t2,if_neg (fun h=>by cases h.2)]
          refine Btw.of (f:=fun way=>toR way x) (hf 1) (hf 2) (hf 3) (hf 0) ?_ ?_ ?_ ?_
          . rw [e1,P1]; decide
          . rw [e2,P0']; decide
          . intro h; exact absurd hl (by simpa using h)
          . intro _
            rw [e1,e2,t3,P1]
            refine ⟨by decide,?_,?_,(fun h=>by cases h),fun _=>rfl⟩
            . rw [Bool.true_and,Bool.true_and,decide_eq_true (p:=(0:Int) < ((r0 + 1:Nat):Int)) (k_pos r0),up_neg (k_pos r0) (k_le hr),k_sub]
            . rcases t0 with h | h
              . exact .inr h
              . exact .inl h.2
    . obtain ⟨t1,t2,t3,t0⟩:=rTo_inf (ng:=x.ng) (left:=left) hr
      have ho:(decide (left ≠ 0) || decide (9218868437227405312 <= (r0:Int)))=true:=by rw [decide_eq_true (p:=9218868437227405312 <= (r0:Int)) (Int.not_lt.1 hr),Bool.or_true]
      rw [ho] at hf
      obtain ⟨k,hk⟩:=k_ex
      obtain ⟨hk1,hk2,hk3⟩:=k_fin hk
      have hAl:vS k < A:=Int.lt_of_lt_of_le (vS_lt (k_lt hk hr)) lo
      have P0:ordP (sg x.ng A) (patS (x.ng && decide ((0:Int) < (k:Int))) (k:Int))=if x.ng then -1 else 1:=by
        refine (ordP_pat (A:=sg x.ng A) (ng:=x.ng) hk1).trans ?_
        exact ord_sg_gt hAl
      rw [hk] at t1 t2 t3
      have P1:ordP (sg x.ng A) (patS (x.ng && decide ((0:Int) < 9218868437227405312)) 9218868437227405312)=if x.ng then 1 else -1:=ordP_inf
      clear hV hR lo hi l0
      generalize x.ng=ng at *
      cases ng
      . rw [if_neg (by decide)] at t1 t2
        refine Btw.of (f:=fun way=>toR way x) (hf 1) (hf 2) (hf 3) (hf 0) ?_ ?_ ?_ ?_
        . rw [t1,P0]; decide
        . rw [t2,P1]; decide
        . intro h; cases h
        . intro _
          rw [t1,t2,t3,t0,P0]
          refine ⟨by decide,?_,.inr rfl,(fun _=>rfl),(fun h=>by cases h)⟩
          rw [Bool.false_and,Bool.false_and]
          rw [up_pos (Int.natCast_nonneg _) hk1,hk2]
          rfl
      . rw [if_pos rfl] at t1 t2
        refine Btw.of (f:=fun way=>toR way x) (hf 1) (hf 2) (hf 3) (hf 0) ?_ ?_ ?_ ?_
        . rw [t1,P1]; decide
        . rw [t2,P0]; decide
        . intro h; cases h
        . intro _
          rw [t1,t2,t3,t0,P1]
          refine ⟨by decide,?_,.inl rfl,(fun h=>by cases h),fun _=>rfl⟩
          rw [Bool.true_and,Bool.true_and]
          rw [decide_eq_true (p:=(0:Int) < 9218868437227405312) (by decide),up_neg (by decide) (Int.le_refl _),hk3]
end Go.Proofs.YtkajoieoggajiaaDoor
namespace Go.Proofs.YtkajoieoggajiaaDoor
open Go Go.ChangeShapes Go.WideShapes Go.ChangeAt Go.RowKit Go.Proofs.YtkajoieoggajiaaDoor.M
structure Hold2 (w:World):Prop where
  lay:Lay64 w
  tab:Tab w
  lay32:Lay32 w
theorem Hold2.keeps {w w':World} (h:Hold2 w) (hb:Below w.heap.size w w'):Hold2 w':=⟨h.lay.keeps hb,h.tab.keeps hb,h.lay32.keeps hb⟩
theorem hold2_of {W : World} (h : laidMetH Tryd.prog [("math/bits.deBruijn32tab", Rows.laid_math_bits_deBruijn32tab), ("math/bits.deBruijn64tab", Rows.laid_math_bits_deBruijn64tab), ("plumb/bits.binary64", Rows.laid_plumb_bits_binary64), ("plumb/bits.binary32", Rows.laid_plumb_bits_binary32)] W) : Hold2 W := by
  rw [MakeChecks.laidMetH_plain _ _ _ (by kernel_rfl)] at h
  have h' : laidMet Tryd.prog (("math/bits.deBruijn64tab", Lib.tabData .u8 tabInts) :: [("plumb/bits.binary64", Rows.laid_plumb_bits_binary64), ("plumb/bits.binary32", Rows.laid_plumb_bits_binary32)]) W := h.tail
  have t:=Lib.tabIs_of_head gTab gTabType Tryd.underlying127 Tryd.underlying5 cellsByte cellsTab h'
  obtain ⟨a0,a1,a2⟩:=three g64 g64Type h'.tail
  obtain ⟨b0,b1,b2⟩:=three g32 g32Type h'.tail.tail
  refine ⟨⟨a0,a1,a2⟩,fun j hj=>?_,⟨b0,b1,b2⟩⟩
  rw [<- tab_get j hj]
  exact t.cell gTab j (by exact hj)
end Go.Proofs.YtkajoieoggajiaaDoor
namespace Go.Proofs.YtkajoieoggajiaaDoor
open Go Go.RowKit Go.Proofs.YtkajoieoggajiaaDoor.M
theorem DFit.no {w w':World} {V er:Int} {v:Value} (h:DFit w w' V v er) (no:¬ Dok V):er=2∧v=zeroV∧Below w.heap.size w w':=by
  rcases h.2 with ⟨ok,_⟩ | ⟨_,h1,h2⟩
  . exact absurd ok no
  . exact ⟨h1,h2,h.1⟩
end Go.Proofs.YtkajoieoggajiaaDoor
namespace Go.Proofs.YtkajoieoggajiaaDoor
open Go Go.ChangeShapes Go.WideShapes Go.ChangeAt Go.RowKit Go.Proofs.YtkajoieoggajiaaDoor.M
structure Hold4 (w:World):Prop where
  lay:Lay64 w
  tab:Tab w
  env:Env w
theorem Hold4.keeps {w w':World} (h:Hold4 w) (hb:Below w.heap.size w w'):Hold4 w':=⟨h.lay.keeps hb,h.tab.keeps hb,h.env.keeps hb⟩
theorem hold4_of {W : World} (h : laidMetH Tryd.prog [("math/bits.deBruijn32tab", Rows.laid_math_bits_deBruijn32tab), ("math/bits.deBruijn64tab", Rows.laid_math_bits_deBruijn64tab), ("plumb/bits.binary64", Rows.laid_plumb_bits_binary64), ("plumb/bits.binary32", Rows.laid_plumb_bits_binary32)] W) : Hold4 W := by
  have k:=hold2_of h
  exact ⟨k.lay,k.tab,⟨⟨k.lay.a0,k.lay.a1,k.lay.a2,k.lay32.b0,k.lay32.b1,k.lay32.b2⟩,k.tab⟩⟩
def To4 (w:World) (x:Value) (f:Int->Int × Bool):Prop:=∀ (way:Int) (W:World),0 <= way∧way <= 3->Below w.heap.size w W->Calls Tryd.prog 47 #[x,.int .i64 way] W fun e w'=>e=.returned (.tuple #[.int .i64 (f way).1,.bool (f way).2,.int .i64 0])∧Below W.heap.size W w'
theorem To4.keeps {w w':World} {x:Value} {f:Int->Int × Bool} (h:To4 w x f) (hb:Below w.heap.size w w'):To4 w' x f:=fun way W hw hB=>h way W hw (bel_trans hb hB)
theorem To4.at {w:World} {x:Value} {f:Int->Int × Bool} (h:To4 w x f) (way:Int) (hw:0 <= way∧way <= 3):Calls Tryd.prog 47 #[x,.int .i64 way] w fun e w'=>e=.returned (.tuple #[.int .i64 (f way).1,.bool (f way).2,.int .i64 0])∧Below w.heap.size w w':=h way w hw (bel_refl w)
theorem rTo_range (way:Int) (ng:Bool) (r0:Nat) (left:Int):0 <= rTo way ng r0 left∧rTo way ng r0 left <= 9218868437227405312:=by
  unfold rTo
  split
  . split <;> omega
  . unfold bRung
    repeat' split
    all_goals decide
end Go.Proofs.YtkajoieoggajiaaDoor
namespace Go.Proofs.YtkajoieoggajiaaDoor
open Go Go.RowKit Go.Proofs.YtkajoieoggajiaaDoor.M
def RdOf (V:Int) (ng:Bool) (f:Int->Int × Bool):Prop:=∃ (A:Int) (r0:Nat) (left:Int),V=sg ng A∧(ng=true->0 < A)∧Rung A r0 left∧∀ way,f way=(patS (ng && decide (0 < rTo way ng r0 left)) (rTo way ng r0 left),decide (left ≠ 0) || decide (9218868437227405312 <= (r0:Int)))
theorem ord_neg_iff {a b:Int}:ord a b < 0 ↔ a < b:=by
  rcases Int.lt_trichotomy a b with h | h | h
  . rw [ord_lt h]; exact ⟨fun _=>h,fun _=>by decide⟩
  . rw [ord_eq h]; exact ⟨fun q=>absurd q (by decide),fun q=>by omega⟩
  . rw [ord_gt h]; exact ⟨fun q=>absurd q (by decide),fun q=>by omega⟩
theorem ord_pos_iff {a b:Int}:0 < ord a b ↔ b < a:=by
  rcases Int.lt_trichotomy a b with h | h | h
  . rw [ord_lt h]; exact ⟨fun q=>absurd q (by decide),fun q=>by omega⟩
  . rw [ord_eq h]; exact ⟨fun q=>absurd q (by decide),fun q=>by omega⟩
  . rw [ord_gt h]; exact ⟨fun _=>h,fun _=>by decide⟩
theorem ord_zero_iff {a b:Int}:ord a b=0 ↔ a=b:=by
  rcases Int.lt_trichotomy a b with h | h | h
  . rw [ord_lt h]; exact ⟨fun q=>absurd q (by decide),fun q=>by omega⟩
  . rw [ord_eq h]; exact ⟨fun _=>h,fun _=>rfl⟩
  . rw [ord_gt h]; exact ⟨fun q=>absurd q (by decide),fun q=>by omega⟩
theorem near_pos {A a b left:Int} (l1:left=1 ↔ a < A∧2 * A < a + b) (l2:left=2 ↔ 2 * A=a + b) (l3:left=3 ↔ a + b < 2 * A) (lo:a < A) :
    (ord (A - a) (b - A) < 0->left=1)∧(0 < ord (A - a) (b - A)->left=3)∧(ord (A - a) (b - A)=0->left=2) :=
  ⟨fun h=>l1.2 ⟨lo,by have:=ord_neg_iff.1 h; omega⟩,fun h=>l3.2 (by have:=ord_pos_iff.1 h; omega),fun h=>l2.2 (by have:=ord_zero_iff.1 h; omega)⟩
theorem near_neg {A a b left:Int} (l1:left=1 ↔ a < A∧2 * A < a + b) (l2:left=2 ↔ 2 * A=a + b) (l3:left=3 ↔ a + b < 2 * A) (lo:a < A) :
    (ord (-A - -b) (-a - -A) < 0->left=3)∧(0 < ord (-A - -b) (-a - -A)->left=1)∧(ord (-A - -b) (-a - -A)=0->left=2) :=
  ⟨fun h=>l3.2 (by have:=ord_neg_iff.1 h; omega),fun h=>l1.2 ⟨lo,by have:=ord_pos_iff.1 h; omega⟩,fun h=>l2.2 (by have:=ord_zero_iff.1 h; omega)⟩
theorem near_posS {A a b left:Int} (l1:left=1 ↔ a < A∧2 * A < a + b) (l2:left=2 ↔ 2 * A=a + b) (l3:left=3 ↔ a + b < 2 * A) (lo:a < A) :
    (ord (sg false A - sg false a) (sg false b - sg false A) < 0->left=1)∧(0 < ord (sg false A - sg false a) (sg false b - sg false A)->left=3)∧(ord (sg false A - sg false a) (sg false b - sg false A)=0->left=2):=near_pos l1 l2 l3 lo
theorem near_negS {A a b left:Int} (l1:left=1 ↔ a < A∧2 * A < a + b) (l2:left=2 ↔ 2 * A=a + b) (l3:left=3 ↔ a + b < 2 * A) (lo:a < A) :
    (ord (sg true A - sg true b) (sg true a - sg true A) < 0->left=3)∧(0 < ord (sg true A - sg true b) (sg true a - sg true A)->left=1)∧(ord (sg true A - sg true b) (sg true a - sg true A)=0->left=2):=near_neg l1 l2 l3 lo
theorem rTo0_1 {ng:Bool} {r0:Nat} (h:(r0:Int) < 9218868437227405312):rTo 0 ng r0 1=(r0:Int):=by
  unfold rTo
  rw [if_pos h]
  simp [rUp]
theorem rTo0_3 {ng:Bool} {r0:Nat} (h:(r0:Int) < 9218868437227405312):rTo 0 ng r0 3=((r0 + 1:Nat):Int):=by
  unfold rTo
  rw [if_pos h]
  simp [rUp]
theorem rTo0_2 {ng:Bool} {r0:Nat} (h:(r0:Int) < 9218868437227405312):rTo 0 ng r0 2 % 2=0:=by
  unfold rTo
  rw [if_pos h]
  by_cases hp:r0 % 2=1
  . simp [rUp,hp]; omega
  . simp [rUp,hp]; omega
theorem patS_even {b:Bool} {r:Int} (h:r % 2=0):patS b r % 2=0:=by
  unfold patS
  cases b
  . exact h
  . show (r - 9223372036854775808) % 2=0; omega
theorem and_pos {ng:Bool} {r:Int} (h:(ng && decide (0 < r))=true):0 < r:=by
  cases ng
  . cases h
  . rw [Bool.true_and] at h; exact of_decide_eq_true h
theorem pat_fin {ng:Bool} {r:Int} (h0:0 <= r) (h1:r <= 9218868437227405312) (h:pok (patS (ng && decide (0 < r)) r)=true):r < 9218868437227405312:=by
  rw [patS_pok h0 h1 and_pos] at h
  exact of_decide_eq_true h
theorem patV_rung {ng:Bool} {r:Nat} (h:(r:Int) < 9218868437227405312):patV (patS (ng && decide ((0:Int) < (r:Int))) (r:Int))=sg ng (vS r):=by
  rw [patV_patS h (fun q=>by have:=and_pos q; omega)]
  by_cases h0:r=0
  . subst h0
    rw [vS_zero]
    simp [sg]
  . have e:(ng && decide ((0:Int) < (r:Int)))=ng:=by rw [decide_eq_true (by omega),Bool.and_true]
    rw [e]
structure Nea (V:Int) (f:Int->Int × Bool):Prop where
  lo:ord (V - patV (f 1).1) (patV (f 2).1 - V) < 0->(f 0).1=(f 1).1
  hi:0 < ord (V - patV (f 1).1) (patV (f 2).1 - V)->(f 0).1=(f 2).1
  ev:ord (V - patV (f 1).1) (patV (f 2).1 - V)=0->(f 0).1 % 2=0
theorem Nea.of {V:Int} {f:Int->Int × Bool} {d u n p q:Int} {o:Bool} (f1:f 1=(d,o)) (f2:f 2=(u,o)) (f0:f 0=(n,o)) (hd:patV d=p) (hu:patV u=q)
    (lo:ord (V - p) (q - V) < 0->n=d) (hi:0 < ord (V - p) (q - V)->n=u) (ev:ord (V - p) (q - V)=0->n % 2=0):Nea V f:=by
  subst hd hu
  exact ⟨by rw [f1,f2,f0]; exact lo,by rw [f1,f2,f0]; exact hi,by rw [f1,f2,f0]; exact ev⟩
theorem nearest {V:Int} {ng:Bool} {f:Int->Int × Bool} (h:RdOf V ng f) (o:(f 0).2=true) (pd:pok (f 1).1=true) (pu:pok (f 2).1=true):Nea V f:=by
  obtain ⟨A,r0,left,hV,hA,hR,hf⟩:=h
  have f1:=hf 1
  have f2:=hf 2
  have f0:=hf 0
  rw [f1] at pd
  rw [f2] at pu
  rw [f0] at o
  have g1:=rTo_range 1 ng r0 left
  have g2:=rTo_range 2 ng r0 left
  have q1:=pat_fin g1.1 g1.2 pd
  have q2:=pat_fin g2.1 g2.2 pu
  clear pd pu hf g1 g2
  by_cases hr:(r0:Int) < 9218868437227405312
  . obtain ⟨t1,t2,t3,t0⟩:=rTo_fin (ng:=ng) (left:=left) hr
    have hl:left ≠ 0:=by
      have o':(decide (left ≠ 0) || decide (9218868437227405312 <= (r0:Int)))=true:=o
      rw [decide_eq_false (p:=9218868437227405312 <= (r0:Int)) (Int.not_le.2 hr),Bool.or_false] at o'
      exact of_decide_eq_true o'
    have hAl:vS r0 < A:=by
      rcases Int.lt_or_eq_of_le hR.lo with h | h
      . exact h
      . exact absurd (hR.l0.2 h.symm) hl
    have l1:=hR.l1
    have l2:=hR.l2
    have l3:=hR.l3
    clear hR t3 t0 hA
    have V0:=patV_rung (ng:=ng) hr
    cases ng
    . have e1:rTo 1 false r0 left=(r0:Int):=by rw [t1,if_neg (fun h=>by cases h.2)]
      have e2:rTo 2 false r0 left=((r0 + 1:Nat):Int):=by rw [t2,if_pos ⟨hl,rfl⟩]
      rw [e1] at f1
      rw [e2] at f2 q2
      have V1:=patV_rung (ng:=false) q2
      obtain ⟨n1,n2,n3⟩:=near_posS l1 l2 l3 hAl
      refine Nea.of f1 f2 f0 V0 V1 ?_ ?_ ?_
      . intro h
        rw [hV] at h
        have:=n1 h
        subst this
        rw [rTo0_1 hr]
      . intro h
        rw [hV] at h
        have:=n2 h
        subst this
        rw [rTo0_3 hr]
      . intro h
        rw [hV] at h
        have:=n3 h
        subst this
        exact patS_even (rTo0_2 hr)
    . have e1:rTo 1 true r0 left=((r0 + 1:Nat):Int):=by rw [t1,if_pos ⟨hl,rfl⟩]
      have e2:rTo 2 true r0 left=(r0:Int):=by rw [t2,if_neg (fun h=>by cases h.2)]
      rw [e1] at f1 q1
      rw [e2] at f2
      have V1:=patV_rung (ng:=true) q1
      obtain ⟨n1,n2,n3⟩:=near_negS l1 l2 l3 hAl
      refine Nea.of f1 f2 f0 V1 V0 ?_ ?_ ?_
      . intro h
        rw [hV] at h
        have:=n1 h
        subst this
        rw [rTo0_3 hr]
      . intro h
        rw [hV] at h
        have:=n2 h
        subst this
        rw [rTo0_1 hr]
      . intro h
        rw [hV] at h
        have:=n3 h
        subst this
        exact patS_even (rTo0_2 hr)
  . exfalso
    obtain ⟨t1,t2,t3,t0⟩:=rTo_inf (ng:=ng) (left:=left) hr
    rw [t1] at q1
    rw [t2] at q2
    clear f1 f2 f0 o hV hA hR
    cases ng
    . rw [if_neg (by decide)] at q2; omega
    . rw [if_pos rfl] at q1; omega
theorem patV_bd {b:Int} (h:pok b=true):Bd 4000 (patV b):=by
  obtain ⟨i0,i1,i2,i3⟩:=pmag_in h
  have h30:(9007199254740992:Int) <= P 30:=by unfold P; decide
  exact bd_num i0 (Int.lt_of_lt_of_le (by omega) h30) (by omega) (by omega)
theorem Bd.sub {B:Nat} {V W:Int} (h:Bd B V) (k:Bd B W) (hB:B < 4194304):Bd (B + 1) (V - W):=by
  rw [Int.sub_eq_add_neg]
  exact h.add k.neg hB
theorem of_ok {b:Int} {w:World} (h:pok b=true) (H:Hold4 w):Calls Tryd.prog 19 #[.int .i64 b] w fun r w'=>∃ v,r=.returned (.tuple #[v,.int .i64 0])∧DAns w w' (patV b) v:=by
  refine (dof_any b w H.lay H.tab).mono ?_
  rintro _ w' ⟨v,er,rfl,hb,(⟨_,rfl,hD⟩ | ⟨h',_⟩)⟩
  . exact ⟨v,rfl,hD⟩
  . rw [h] at h'; cases h'
end Go.Proofs.YtkajoieoggajiaaDoor
namespace Go.Proofs.YtkajoieoggajiaaDoor.M
open Go
/-! the order of all -/
end Go.Proofs.YtkajoieoggajiaaDoor.M
