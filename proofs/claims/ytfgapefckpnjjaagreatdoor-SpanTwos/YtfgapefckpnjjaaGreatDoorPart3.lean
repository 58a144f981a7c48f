/- Parts of the proof. -/
import Derived.Test.YtfgapefckpnjjaaGreatDoorPart2
import Derived.Deep.RegionHeld3
import Derived.WalkSmall
import Derived.Test.YtfgapefckpnjjaaGreatDoorPart1
import Derived.Test.YtfgapefckpnjjaaGreatDoorProg
import Derived.WalkKit
import Derived.RowKit3
import Derived.Below
import Derived.Deep.QuietTactic
import Derived.BigQuiet
import Derived.Lib.Strings
import Derived.Lib.Slices
import Derived.Lib.Small
import Derived.Lib.Walk
import Derived.Lib.BitFns
import Derived.Lib.TrailingZeros
import Derived.Laws.Bits64b
import Derived.Lib.ItoaNum
set_option linter.unusedVariables false
set_option linter.unusedSimpArgs false
namespace Go.Proofs.YtfgapefckpnjjaaGreatDoor
open Go Go.RowKit Go.Proofs.YtfgapefckpnjjaaGreatDoor.M
def valV (ng:Bool) (mag:Nat) (exp:Int) (cut sd:Bool):Value:=.agg #[.bool ng,.int .u64 mag,.int .i64 exp,.bool cut,.bool sd]
set_option maxRecDepth 100000 in
set_option maxHeartbeats 1000000 in
theorem split_low (ng:Bool) (mag:Nat) (exp unit:Int) (cut sd:Bool) (w:World) (k:Nat) (hk:unit - exp=-(k:Int)) (hk2:k < 20000000) (hm:mag * 2 ^ k < 18446744073709551616) :
    Calls Tryz.prog 130 #[valV ng mag exp cut sd,.int .i64 unit] w fun e w'=>e=.returned (.tuple #[.int .u64 (mag * 2 ^ k:Nat),.int .i64 0])∧Below w.heap.size w w':=by
  have h0:IntKind.i64.wrap (unit - exp)=-(k:Int):=by rw [wrap_i64_eq]; omega
  unfold valV
  go_enter Tryz.func130,Tryz.ntmps130
  have hw:IntKind.u64.wrap ((mag:Int) * 2 ^ min k 64)=((mag * 2 ^ k:Nat):Int):=by
    rw [IntKind.wrap_u64]
    by_cases h:k <= 64
    . rw [show min k 64=k by omega]
      have e:(mag:Int) * 2 ^ k=((mag * 2 ^ k:Nat):Int):=by push_cast; rfl
      rw [e]
      omega
    . have hz:mag=0:=by
        rcases Nat.eq_zero_or_pos mag with h0 | h0
        . exact h0
        . have h1:2 ^ 64 <= 2 ^ k:=Nat.pow_le_pow_right (by decide) (by omega)
          have h2:1 * 2 ^ k <= mag * 2 ^ k:=Nat.mul_le_mul_right _ h0
          have h3:(2:Nat) ^ 64=18446744073709551616:=by decide
          omega
      subst hz
      simp
  generalize ((mag * 2 ^ k:Nat):Int)=R at hw ⊢
  go_wp2
  refine bodyPost_ret (v:=.tuple #[.int .u64 R,.int .i64 0]) (by simp [results,Tryz.results130,go_sem]) rfl ⟨rfl,bel_alloc _ _⟩
theorem ret_ui {a b c d:Int} (h1:a=c) (h2:b=d):Ending.returned (.tuple #[.int .u64 a,.int .i64 b])=Ending.returned (.tuple #[.int .u64 c,.int .i64 d]):=by rw [h1,h2]
theorem rL_eq {mag k t m:Nat} {cut:Bool} (hk0:0 < k) (hm:mag < 18446744073709551616) (ht:mag % 2 ^ k=t) (hmid:(if k <= 64 then 2 ^ (k - 1) else 0)=m):rL mag cut (k:Int)=if t=0∧cut=false then 0 else if t < m∨64 < k then 1 else if t=m∧cut=false then 2 else 3:=by
  unfold rL
  rw [if_neg (by omega),Int.toNat_natCast,ht]
  obtain ⟨p,hp,hp0⟩:=two_half k hk0
  have hp2:2 ^ (k - 1)=p:=by
    have:2 ^ k=2 * 2 ^ (k - 1):=by rw [<- Nat.pow_succ',Nat.succ_eq_add_one,Nat.sub_add_cancel hk0]
    omega
  rw [hp]
  by_cases hk:k <= 64
  . rw [if_pos hk,hp2] at hmid
    subst hmid
    have e1:(2 * t < 2 * p)=(t < p∨64 < k):=propext ⟨fun h=>.inl (by omega),fun h=>by omega⟩
    have e2:(2 * t=2 * p∧cut=false)=(t=p∧cut=false):=propext ⟨fun h=>⟨by omega,h.2⟩,fun h=>⟨by omega,h.2⟩⟩
    simp only [e1,e2]
  . have hlt:2 * t < 2 * p:=by
      have h1:2 ^ 65 <= 2 ^ k:=Nat.pow_le_pow_right (by decide) (by omega)
      have h2:(2:Nat) ^ 65=36893488147419103232:=by decide
      have h3:=Nat.mod_le mag (2 ^ k)
      omega
    rw [if_pos hlt,if_pos (show t < m∨64 < k from .inr (by omega))]
set_option maxRecDepth 100000 in
set_option maxHeartbeats 1000000 in
theorem split_high (ng:Bool) (mag:Nat) (exp unit:Int) (cut sd:Bool) (w:World) (k:Nat) (hk:unit - exp=(k:Int)) (hk0:0 < k) (hk2:k < 20000000) (hm:mag < 18446744073709551616) :
    Calls Tryz.prog 130 #[valV ng mag exp cut sd,.int .i64 unit] w fun e w'=>e=.returned (.tuple #[.int .u64 (mag / 2 ^ k:Nat),.int .i64 (rL mag cut (k:Int))])∧Below w.heap.size w w':=by
  have h0:IntKind.i64.wrap (unit - exp)=(k:Int):=by rw [wrap_i64_eq]; omega
  unfold valV
  obtain ⟨u,hu⟩:∃ u,mag / 2 ^ k=u:=⟨_,rfl⟩
  obtain ⟨t,ht⟩:∃ t,mag % 2 ^ k=t:=⟨_,rfl⟩
  obtain ⟨m,hmid⟩:∃ m:Nat,(if k <= 64 then 2 ^ (k - 1) else 0)=m:=⟨_,rfl⟩
  have hd:=Nat.div_add_mod mag (2 ^ k)
  rw [hu,ht] at hd
  have hpc:∀ n:Nat,(2:Int) ^ n=((2 ^ n:Nat):Int):=fun n=>by simp
  have hbig:64 < k->u=0∧mag / 2 ^ 64=0:=fun h=>by
    have h1:2 ^ 64 <= 2 ^ k:=Nat.pow_le_pow_right (by decide) (by omega)
    have h2:(2:Nat) ^ 64=18446744073709551616:=by decide
    exact ⟨by rw [<- hu]; exact Nat.div_eq_of_lt (by omega),Nat.div_eq_of_lt (by omega)⟩
  have r1:(mag:Int) / 2 ^ min k 64=(u:Int):=by
    rw [hpc,<- Int.natCast_ediv]
    by_cases h:k <= 64
    . rw [show min k 64=k by omega,hu]
    . obtain ⟨h1,h2⟩:=hbig (by omega)
      rw [show min k 64=64 by omega,h1,h2]
  have r2:IntKind.u64.wrap ((u:Int) * 2 ^ min k 64)=(u:Int) * 2 ^ k:=by
    rw [IntKind.wrap_u64]
    by_cases h:k <= 64
    . rw [show min k 64=k by omega,hpc,<- Int.natCast_mul]
      have:u * 2 ^ k <= mag:=by rw [Nat.mul_comm]; omega
      omega
    . obtain ⟨h1,_⟩:=hbig (by omega)
      rw [h1]
      simp
  have r3:IntKind.u64.wrap ((mag:Int) - (u:Int) * 2 ^ k)=(t:Int):=by
    rw [IntKind.wrap_u64,hpc,<- Int.natCast_mul,Nat.mul_comm]
    have:t <= mag:=by omega
    omega
  have r4:IntKind.i64.wrap ((k:Int) - 1)=((k - 1:Nat):Int):=by rw [wrap_i64_eq]; omega
  have r5:IntKind.u64.wrap ((2:Int) ^ min (k - 1) 64)=(m:Int):=by
    rw [IntKind.wrap_u64,<- hmid]
    by_cases h:k <= 64
    . rw [if_pos h,show min (k - 1) 64=k - 1 by omega,hpc]
      have h1:2 ^ (k - 1) <= 2 ^ 63:=Nat.pow_le_pow_right (by decide) (by omega)
      have h2:(2:Nat) ^ 63=9223372036854775808:=by decide
      rw [h2] at h1
      generalize 2 ^ (k - 1)=p at h1 ⊢
      omega
    . rw [if_neg h,show min (k - 1) 64=64 by omega]
      decide
  have HRL:Hid (rL mag cut (k:Int)=if t=0∧cut=false then 0 else if t < m∨64 < k then 1 else if t=m∧cut=false then 2 else 3):=rL_eq hk0 hm ht hmid
  rw [hu]
  clear hd hpc hbig hmid ht hu
  have HW:Hid (IntKind.i64.wrap (unit - exp)=(k:Int)):=h0
  have g0:=heap_alloc_new w (.cells #[.bool ng,.int .u64 mag,.int .i64 exp,.bool cut,.bool sd] 104)
  have k1:=blkC g0 1 rfl
  go_enter Tryz.func130,Tryz.ntmps130
  go_wp2
  go_region_held3 (fun W=>W.cell? ⟨w.heap.size,1,none⟩=some (.int .u64 mag))
    (first | assumption | exact k1)
    (fail)
  all_goals go_wp2
  all_goals go_ret2
  all_goals exact ⟨ret_ui rfl (by rw [HRL.out]; clear HRL; cases cut <;> simp at * <;> (repeat' split) <;> omega),by first | exact (bel_alloc _ _).drew | exact bel_alloc _ _⟩
theorem split_any (ng:Bool) (mag:Nat) (exp unit:Int) (cut sd:Bool) (w:World) (hm:mag < 18446744073709551616) (hu:-5000000 <= unit∧unit <= 5000000) (he:-5000000 <= exp∧exp <= 5000000) (hs:unit - exp <= 0->rU mag (unit - exp) < 18446744073709551616) :
    Calls Tryz.prog 130 #[valV ng mag exp cut sd,.int .i64 unit] w fun e w'=>e=.returned (.tuple #[.int .u64 (rU mag (unit - exp):Nat),.int .i64 (rL mag cut (unit - exp))])∧Below w.heap.size w w':=by
  by_cases h:unit - exp <= 0
  . have:=hs h
    unfold rU rL at *
    rw [if_pos h] at *
    rw [if_pos h]
    exact split_low ng mag exp unit cut sd w (-(unit - exp)).toNat (by omega) (by omega) this
  . have e:unit - exp=((unit - exp).toNat:Int):=by omega
    have e1:rU mag (unit - exp)=mag / 2 ^ (unit - exp).toNat:=by unfold rU; rw [if_neg h]
    rw [e1,e]
    exact split_high ng mag exp unit cut sd w (unit - exp).toNat e (by omega) (by omega) hm
theorem wraise_any (way:Int) (hw:0 <= way∧way <= 3) (ng odd:Bool) (left:Int) (w:World):Calls Tryz.prog (wayF way) #[.bool ng,.bool odd,.int .i64 left] w fun e w'=>e=.returned (.bool (rUp way ng odd left))∧w'=w:=by
  have hc:way=0∨way=1∨way=2∨way=3:=by omega
  rcases hc with rfl | rfl | rfl | rfl
  . exact raise1 ng odd left w
  . exact raise2 ng odd left w
  . exact raise3 ng odd left w
  . exact raise4 ng odd left w
theorem wraise_enter (way:Int) (cap:Array Value) (w:World):(callFunc (wayF way) cap).run Tryz.prog w=.ok (.enter (wayF way) cap) w:=by
  unfold wayF
  by_cases h0:way=0
  . rw [if_pos h0]; simp [go_sem]
  . rw [if_neg h0]
    by_cases h1:way=1
    . rw [if_pos h1]; simp [go_sem]
    . rw [if_neg h1]
      by_cases h2:way=2
      . rw [if_pos h2]; simp [go_sem]
      . rw [if_neg h2]; simp [go_sem]
set_option maxRecDepth 100000 in
set_option maxHeartbeats 1000000 in
theorem units_F (F:Nat) (R:Bool->Bool->Int->Bool) (ng:Bool) (mag:Nat) (exp unit:Int) (cut sd:Bool) (u:Nat) (left:Int) (w:World) (hE:∀ (cap:Array Value) (w:World),(callFunc F cap).run Tryz.prog w=.ok (.enter F cap) w)
    (hF:∀ ng odd left W,Calls Tryz.prog F #[.bool ng,.bool odd,.int .i64 left] W fun e w'=>e=.returned (.bool (R ng odd left))∧w'=W) (hu:u < 18446744073709551615)
    (hS:∀ W,Calls Tryz.prog 130 #[valV ng mag exp cut sd,.int .i64 unit] W fun e w'=>e=.returned (.tuple #[.int .u64 (u:Nat),.int .i64 left])∧Below W.heap.size W w') :
    Calls Tryz.prog 114 #[valV ng mag exp cut sd,.int .i64 unit,.agg #[.func (.func F) #[] #[]]] w fun e w'=>e=.returned (.tuple #[.int .u64 (u + (if R ng (decide (u % 2=1)) left then 1 else 0):Nat),.bool (decide (left ≠ 0))])∧Below w.heap.size w w':=by
  unfold valV at *
  have hb2:=bel_alloc2 w (.cells #[.bool ng,.int .u64 mag,.int .i64 exp,.bool cut,.bool sd] 104) (.cells #[.func (.func F) #[] #[]] 124)
  have q0:=heap_a2 w (.cells #[.bool ng,.int .u64 mag,.int .i64 exp,.bool cut,.bool sd] 104) (.cells #[.func (.func F) #[] #[]] 124)
  have q1:=heap_b2 w (.cells #[.bool ng,.int .u64 mag,.int .i64 exp,.bool cut,.bool sd] 104) (.cells #[.func (.func F) #[] #[]] 124)
  obtain ⟨odd,ho⟩:∃ odd,decide (u % 2=1)=odd:=⟨_,rfl⟩
  have hodd:(bits BinOp.and IntKind.u64 (u:Int) 1 == 1)=odd:=by
    rw [and_one_u64 _ (by omega) (by omega),<- ho]
    by_cases h:u % 2=1
    . rw [decide_eq_true h]; simp; omega
    . rw [decide_eq_false h]; simp; omega
  rw [ho]
  clear ho
  have hw1:IntKind.u64.wrap ((u:Int) + 1)=((u + 1:Nat):Int):=by rw [IntKind.wrap_u64]; omega
  go_enter Tryz.func114,Tryz.ntmps114
  go_wp2_with fail
  refine (hS _).mono ?_
  rintro _ w1 ⟨rfl,hb1⟩
  have hbw:=bel_trans hb2 hb1
  have p0:=(hb1.block _ (Array.getElem?_eq_some_iff.1 q0).1).trans q0
  have p1:=(hb1.block _ (Array.getElem?_eq_some_iff.1 q1).1).trans q1
  have k0:=blkC p0 0 rfl
  have k1:=blkC p1 0 rfl
  clear hS q0 q1 hb1 hb2
  go_wp2_with fail
  refine (hF ng odd left _).mono ?_
  rintro _ _ ⟨rfl,rfl⟩
  cases hR:R ng odd left
  . have HR:Hid (R ng odd left=false):=hR
    by_cases hl:left=0
    . go_wp2
      all_goals go_ret2
      all_goals exact ⟨by simp_all,hbw⟩
    . go_wp2
      all_goals go_ret2
      all_goals exact ⟨by simp_all,hbw⟩
  . have HR:Hid (R ng odd left=true):=hR
    by_cases hl:left=0
    . go_wp2
      all_goals go_ret2
      all_goals exact ⟨by simp_all,hbw⟩
    . go_wp2
      all_goals go_ret2
      all_goals exact ⟨by simp_all,hbw⟩
theorem units_any (way:Int) (hw:0 <= way∧way <= 3) (ng:Bool) (mag:Nat) (exp unit:Int) (cut sd:Bool) (w:World) (hm:mag < 18446744073709551616) (hu:-5000000 <= unit∧unit <= 5000000) (he:-5000000 <= exp∧exp <= 5000000) (hs:rU mag (unit - exp) < 18446744073709551615) :
    Calls Tryz.prog 114 #[valV ng mag exp cut sd,.int .i64 unit,wayV way] w fun e w'=>e=.returned (.tuple #[.int .u64 (rU mag (unit - exp) + (if rUp way ng (decide (rU mag (unit - exp) % 2=1)) (rL mag cut (unit - exp)) then 1 else 0):Nat),.bool (decide (rL mag cut (unit - exp) ≠ 0))])∧Below w.heap.size w w' :=
  units_F (wayF way) (rUp way) ng mag exp unit cut sd _ _ w (wraise_enter way) (wraise_any way hw) hs (fun W=>split_any ng mag exp unit cut sd W hm hu he (fun _=>by omega))
structure Lays (w:World):Prop where
  a0:w.cell? ⟨0,0,none⟩=some (.int .i64 52)
  a1:w.cell? ⟨0,1,none⟩=some (.int .i64 2047)
  a2:w.cell? ⟨0,2,none⟩=some (.int .i64 (-1074))
  b0:True
  b1:True
  b2:True
structure Gr (W w':World):Prop where
  gr:Grown W w'
  be:Below W.heap.size W w'
theorem Gr.refl (W:World):Gr W W:=⟨Grown.refl _,Below.refl _ _⟩
theorem Gr.alloc {W w':World} (h:Gr W w') (c:Array Value) (t:TypeId):Gr W (w'.alloc (.cells c t)):=⟨h.gr.alloc c t,h.be.alloc h.be.size _⟩
theorem Gr.drew {W w':World} (h:Gr W w'):Gr W w'.drew:=⟨h.gr.drew,⟨h.be.os,h.be.tape,h.be.output,h.be.size,h.be.block⟩⟩
theorem gDrewN {W w':World} (h:Gr W w') (n:Nat):Gr W (w'.drewN n):=⟨h.gr,⟨h.be.os,h.be.tape,h.be.output,h.be.size,h.be.block⟩⟩
theorem gCell {a b:World} (h:Gr a b) {p:Addr} {v:Value} (hc:a.cell? p=some v):b.cell? p=some v:=by
  unfold World.cell? at hc ⊢
  have hlt:p.block < a.heap.size:=by
    by_cases hp:p.block < a.heap.size
    . exact hp
    . rw [Array.getElem?_eq_none (by omega)] at hc; simp at hc
  have k:=h.gr.1.2.2 p.block hlt
  cases ha:a.heap[p.block]? with
  | none=>rw [ha] at hc; simp at hc
  | some oa=>
    rw [ha] at hc k
    cases oa with
    | cells c t fr=>
      cases hb:b.heap[p.block]? with
      | none=>rw [hb] at k; simp at k
      | some ob=>
        rw [hb] at k
        cases ob with
        | cells c' t' fr'=>
          simp only at hc k ⊢
          obtain ⟨_,_,_,kc⟩:=k
          rw [kc p.off (fun f=>f)]
          exact hc
        | _=>simp at k
    | _=>simp at hc
theorem Lays.grown {w w':World} (h:Lays w) (g:Gr w w'):Lays w' :=
  ⟨gCell g h.a0,gCell g h.a1,gCell g h.a2,trivial,trivial,trivial⟩
theorem b_ret_int {k:IntKind} {a b:Int} (h:a=b):Ending.returned (.int k a)=.returned (.int k b):=by rw [h]
theorem ret_bii {a a':Bool} {b b' c c':Int} (h:a=a') (k:b=b') (l:c=c'):Ending.returned (.tuple #[.bool a,.int .i64 b,.int .i64 c])=.returned (.tuple #[.bool a',.int .i64 b',.int .i64 c']):=by rw [h,k,l]
theorem ret_ttt {a a' b b':Int} {c c':Bool} (h:a=a') (k:b=b') (l:c=c'):Ending.returned (.tuple #[.int .i64 a,.int .i64 b,.bool c])=.returned (.tuple #[.int .i64 a',.int .i64 b',.bool c']):=by rw [h,k,l]
theorem ret_ttt4 {n n':Bool} {a a' b b':Int} {c c':Bool} (g:n=n') (h:a=a') (k:b=b') (l:c=c'):Ending.returned (.tuple #[.bool n,.int .i64 a,.int .i64 b,.bool c])=.returned (.tuple #[.bool n',.int .i64 a',.int .i64 b',.bool c']):=by rw [g,h,k,l]
theorem split64 (b:Int) (w:World) :
    Calls Tryz.prog 88 #[.agg #[.int .i64 52,.int .i64 2047,.int .i64 (-1074)],.int .i64 b] w fun e w'=>e=.returned (.tuple #[.int .i64 (fld b),.int .i64 (frc b)])∧∃ n,w'=(w.alloc (.cells #[.int .i64 52,.int .i64 2047,.int .i64 (-1074)] 95)).drewN n:=by
  have h1:bits .and .i64 (b / 4503599627370496) 2047=fld b:=and_i64_2047 _
  have h2:bits .and .i64 b 4503599627370495=frc b:=and_i64_m52 _
  go_enter Tryz.func88,Tryz.ntmps88
  go_wp2
  go_quiet (fail)
  go_wp2
  go_ret2
  exact ⟨rfl,_,rfl⟩
theorem class64 (b:Int) (w:World) :
    Calls Tryz.prog 106 #[.agg #[.int .i64 52,.int .i64 2047,.int .i64 (-1074)],.int .i64 b] w fun e w'=>e=.returned (.int .i64 (cls b))∧Gr w w':=by
  by_cases h1:fld b=2047 <;> by_cases h2:frc b=0 <;> by_cases h3:fld b=0
  all_goals first
    | (exfalso; omega)
    | (go_enter Tryz.func106,Tryz.ntmps106
       go_wp2_with (go_at_call 88; refine (split64 _ _).mono ?_; rintro e w1 ⟨rfl,n,rfl⟩)
       go_ret
       exact ⟨b_ret_int (by simp [cls,h1,h2,h3]),gDrewN (((Gr.refl _).alloc _ _).alloc _ _) _⟩)
theorem parts64 (b:Int) (w:World) :
    Calls Tryz.prog 68 #[.agg #[.int .i64 52,.int .i64 2047,.int .i64 (-1074)],.int .i64 b] w fun e w'=>e=.returned (.tuple #[.int .i64 (pmag b),.int .i64 (pexp b),.bool (pok b)])∧Gr w w':=by
  have hf:=fld_le b
  have hr:=frc_le b
  by_cases h1:fld b=2047
  . go_enter Tryz.func68,Tryz.ntmps68
    go_wp2_with (go_at_call 88; refine (split64 _ _).mono ?_; rintro e w1 ⟨rfl,n,rfl⟩)
    go_ret3
    exact ⟨ret_ttt (by simp [pmag,h1]) (by simp [pexp,h1]) (by simp [pok,h1]),gDrewN (((Gr.refl _).alloc _ _).alloc _ _) _⟩
  . by_cases h2:fld b=0
    . go_enter Tryz.func68,Tryz.ntmps68
      go_wp2_with (go_at_call 88; refine (split64 _ _).mono ?_; rintro e w1 ⟨rfl,n,rfl⟩)
      go_quiet (fail)
      go_wp2
      go_ret3
      exact ⟨ret_ttt (by simp [pmag,h1,h2]) (by simp [pexp,h1,h2]) (by simp [pok,h1]),gDrewN (gDrewN (((Gr.refl _).alloc _ _).alloc _ _) _) _⟩
    . go_enter Tryz.func68,Tryz.ntmps68
      go_wp2_with (go_at_call 88; refine (split64 _ _).mono ?_; rintro e w1 ⟨rfl,n,rfl⟩)
      go_quiet (fail)
      go_wp2
      go_ret3
      exact ⟨ret_ttt (by simp [pmag,h1,h2]) (by simp [pexp,h1,h2]; omega) (by simp [pok,h1]),gDrewN (gDrewN (((Gr.refl _).alloc _ _).alloc _ _) _) _⟩
theorem ret_ib {a a':Int} {c c':Bool} (h:a=a') (l:c=c'):Ending.returned (.tuple #[.int .i64 a,.bool c])=.returned (.tuple #[.int .i64 a',.bool c']):=by rw [h,l]
def b_Tab (w:World):Prop:=∀ j,j < 64->w.cell? ⟨2,j,none⟩=some (.int .u8 ((Lib.deBruijn64tab.getD j 0:Nat):Int))
theorem b_Tab.grown {w w':World} (h:b_Tab w) (g:Gr w w'):b_Tab w':=fun j hj=>gCell g (h j hj)
theorem b_tz_key (x a:Nat) (hx:x < 18446744073709551616) (hx0:x ≠ 0) (hlow:x &&& (18446744073709551616 - x)=a) :
    IntKind.u64.wrap (bits .and .u64 (x:Int) (IntKind.u64.wrap (-(x:Int))) * 285870213051353865) / 288230376151711744=((a * 285870213051353865 % 18446744073709551616 / 288230376151711744:Nat):Int):=by
  have e1:IntKind.u64.wrap (-(x:Int))=((18446744073709551616 - x:Nat):Int):=by rw [IntKind.wrap_u64]; omega
  rw [e1,bits_and_u64_nat x _ hx (by omega),hlow,IntKind.wrap_u64]
  omega
set_option maxHeartbeats 1000000 in
theorem b_tz_core (x k idx:Nat) (w:World) (hx0:((x:Int) == 0)=false)
    (key:IntKind.u64.wrap (bits .and .u64 (x:Int) (IntKind.u64.wrap (-(x:Int))) * 285870213051353865) / 288230376151711744=(idx:Int))
    (hi:idx < 64) (hk:k < 64) (hcell:w.cell? ⟨2,idx,none⟩=some (.int .u8 k)) :
    Calls Tryz.prog 132 #[.int .u64 x] w fun e w'=>e=.returned (.int .i64 k)∧w'=w:=by
  go_enter Tryz.func132,Tryz.ntmps132
  go_wp2_with (simp only [key])
  go_ret
  exact ⟨rfl,rfl⟩
theorem b_trailing (x:Nat) (hx:x < 18446744073709551616) (h0:x ≠ 0) (w:World) (hT:b_Tab w) :
    Calls Tryz.prog 132 #[.int .u64 x] w fun e w'=>e=.returned (.int .i64 (Lib.ctz 64 x))∧w'=w:=by
  obtain ⟨hlow,hk⟩:=Lib.lowest_bit 64 x h0 hx
  obtain ⟨hi,htab⟩:=Lib.deBruijn64_at _ hk
  have hcell:=hT _ hi
  rw [htab] at hcell
  exact b_tz_core x _ _ w (by simp; omega) (b_tz_key x _ hx h0 hlow) hi hk hcell
theorem b_len_close (x q:Int) (s:Nat) (h:q.toNat < Lib.len8tab.size) (hq0:0 <= q) (hq:q <= 255) (hs:s <= 56) (hb:Lib.bitLen x.toNat=s + Lib.bitLen q.toNat) :
    wrap64 ((s:Int) + wrap64 ((Lib.len8tab[q.toNat]'h).toNat:Int))=(Lib.bitLen x.toNat:Int):=by
  have e:=Lib.len8_of q hq0 hq
  have l:=Lib.bitLen_le8' q hq0 hq
  unfold Lib.len8 at e
  rw [getElem?_pos Lib.len8tab q.toNat h] at e
  simp only [Option.getD_some] at e
  rw [e,hb]
  unfold wrap64
  omega
theorem b_len_close0 (x:Int) (h:x.toNat < Lib.len8tab.size) (hq0:0 <= x) (hq:x <= 255) :
    wrap64 (wrap64 ((Lib.len8tab[x.toNat]'h).toNat:Int))=(Lib.bitLen x.toNat:Int):=by
  have:=b_len_close x x 0 h hq0 hq (by omega) (by omega)
  simpa using this
theorem b_len_q (x q:Int) (s:Nat) (h0:0 <= x) (h1:x <= 18446744073709551615) (hx:((2 ^ s:Nat):Int) <= x) (e:q=x / ((2 ^ s:Nat):Int)):Lib.bitLen x.toNat=s + Lib.bitLen q.toNat:=by
  rw [Lib.bitLen_shift s x.toNat (by omega) (by omega),e]
  congr 2
  obtain ⟨n,rfl⟩:=Int.eq_ofNat_of_zero_le h0
  rw [<- Int.natCast_ediv,Int.toNat_natCast,Int.toNat_natCast]
set_option maxHeartbeats 4000000 in
set_option maxRecDepth 100000 in
theorem b_len64 (x:Int) (w:World) (h0:0 <= x) (h1:x <= 18446744073709551615) :
    Calls Tryz.prog 129 #[.int .u64 x] w fun e w'=>e=.returned (.int .i64 (Lib.bitLen x.toNat))∧w'=w:=by
  have hs:Lib.len8tab.size=256:=by decide +kernel
  go_enter Tryz.func129,Tryz.ntmps129
  go_wp2
  all_goals go_ret
  . exact ⟨b_ret_int (b_len_close x _ 56 _ (by omega) (by omega) (by omega) (b_len_q x _ 56 h0 h1 (by omega) (by omega))),rfl⟩
  . exact ⟨b_ret_int (b_len_close x _ 48 _ (by omega) (by omega) (by omega) (b_len_q x _ 48 h0 h1 (by omega) (by omega))),rfl⟩
  . exact ⟨b_ret_int (b_len_close x _ 40 _ (by omega) (by omega) (by omega) (b_len_q x _ 40 h0 h1 (by omega) (by omega))),rfl⟩
  . exact ⟨b_ret_int (b_len_close x _ 32 _ (by omega) (by omega) (by omega) (b_len_q x _ 32 h0 h1 (by omega) (by omega))),rfl⟩
  . exact ⟨b_ret_int (b_len_close x _ 24 _ (by omega) (by omega) (by omega) (b_len_q x _ 24 h0 h1 (by omega) (by omega))),rfl⟩
  . exact ⟨b_ret_int (b_len_close x _ 16 _ (by omega) (by omega) (by omega) (b_len_q x _ 16 h0 h1 (by omega) (by omega))),rfl⟩
  . exact ⟨b_ret_int (b_len_close x _ 8 _ (by omega) (by omega) (by omega) (b_len_q x _ 8 h0 h1 (by omega) (by omega))),rfl⟩
  . exact ⟨b_ret_int (b_len_close0 x _ (by omega) (by omega)),rfl⟩
set_option maxRecDepth 100000 in
theorem b_len (x:Int) (w:World) (h0:0 <= x) (h1:x <= 18446744073709551615):Calls Tryz.prog 113 #[.int .u64 x] w fun e w'=>e=.returned (.int .i64 (Lib.bitLen x.toNat))∧w'=w:=by
  go_enter Tryz.func113,Tryz.ntmps113
  go_wp2_with (go_at_call 129; refine (b_len64 x _ h0 h1).mono ?_; rintro _ _ ⟨rfl,rfl⟩)
  go_ret
  exact ⟨rfl,rfl⟩
set_option maxRecDepth 100000 in
set_option maxHeartbeats 1000000 in
theorem float_F (F:Nat) (ng:Bool) (mag:Nat) (exp size least:Int) (cut sd:Bool) (U:Nat) (E:Int) (other:Bool) (w:World) (hm:mag < 18446744073709551616) (he:-4500000 <= exp∧exp <= 4500000) (hs:0 <= size∧size <= 64) (hl:-2000 <= least∧least <= 0) (hE:rE size least mag exp=E) (hU:U < 9223372036854775808)
    (hC:∀ W,Calls Tryz.prog 114 #[valV ng mag exp cut sd,.int .i64 E,.agg #[.func (.func F) #[] #[]]] W fun e w'=>e=.returned (.tuple #[.int .u64 (U:Nat),.bool other])∧Below W.heap.size W w') :
    Calls Tryz.prog 91 #[valV ng mag exp cut sd,.int .i64 size,.int .i64 least,.agg #[.func (.func F) #[] #[]]] w fun e w'=>e=.returned (.tuple #[.bool (ng && (decide (0 < U) || sd)),.int .i64 (U:Nat),.int .i64 E,.bool other])∧Below w.heap.size w w':=by
  unfold valV at *
  have hb2:=bel_alloc2 w (.cells #[.bool ng,.int .u64 mag,.int .i64 exp,.bool cut,.bool sd] 104) (.cells #[.func (.func F) #[] #[]] 124)
  have q0:=heap_a2 w (.cells #[.bool ng,.int .u64 mag,.int .i64 exp,.bool cut,.bool sd] 104) (.cells #[.func (.func F) #[] #[]] 124)
  have q1:=heap_b2 w (.cells #[.bool ng,.int .u64 mag,.int .i64 exp,.bool cut,.bool sd] 104) (.cells #[.func (.func F) #[] #[]] 124)
  have k0:=blkC q0 0 rfl
  have k1:=blkC q0 1 rfl
  have k2:=blkC q0 2 rfl
  have k3:=blkC q0 3 rfl
  have k4:=blkC q0 4 rfl
  have kw:=blkC q1 0 rfl
  have hbl:Lib.bitLen mag <= 64:=by
    by_cases h0:mag=0
    . rw [h0]; decide
    . have e64:(2:Nat) ^ 64=18446744073709551616:=by decide
      exact (M.bitLen_spec mag (by omega) h0).2.2.2
  have HE:Hid (rE size least mag exp=E):=hE
  obtain ⟨L,hL⟩:∃ L:Int,(Lib.bitLen mag:Int)=L:=⟨_,rfl⟩
  have hEL:max (exp + L - size) least=E:=by rw [<- hL]; exact hE
  have hL2:(Lib.bitLen ((mag:Int)).toNat:Int)=L:=by rw [Int.toNat_natCast]; exact hL
  have hL0:0 <= L∧L <= 64:=by omega
  have w1:IntKind.i64.wrap (exp + L)=exp + L:=by rw [wrap_i64_eq]; omega
  have w2:IntKind.i64.wrap (exp + L - size)=exp + L - size:=by rw [wrap_i64_eq]; omega
  have wU:IntKind.i64.wrap (U:Int)=(U:Int):=by rw [wrap_i64_eq]; omega
  clear hE
  have hmax:∀ (ts:Array TypeId) (t:TypeId) (x y:Int) (w:World),(Builtin.max_ ts t #[.int .i64 x,.int .i64 y]).run Tryz.prog w=.ok (.int .i64 (max x y)) w:=fun ts t x y w=>by rw [run_max_int2]; congr 2; omega
  go_enter Tryz.func91,Tryz.ntmps91
  go_wp2_with fail
  generalize (w.alloc (.cells #[.bool ng,.int .u64 mag,.int .i64 exp,.bool cut,.bool sd] 104)).alloc (.cells #[.func (.func F) #[] #[]] 124)=wx at hb2 q0 q1 k0 k1 k2 k3 k4 kw ⊢
  go_region_held3 (fun W=>W.cell? ⟨w.heap.size,2,none⟩=some (.int .i64 exp)∧W.cell? ⟨w.heap.size,1,none⟩=some (.int .u64 mag))
    (first | assumption | exact ⟨k2,k1⟩)
    (first | (go_at_call 113; refine (b_len _ _ (by omega) (by omega)).mono ?_; rintro _ _ ⟨rfl,rfl⟩))
  all_goals
    go_wp2_with fail
    refine (hC _).mono ?_
    rintro _ w3 ⟨rfl,hb3⟩
    have hdr:Below wx.heap.size wx wx.drew:=(bel_refl wx).drew
    have hb3':=bel_trans hdr hb3
    have hbw:=bel_trans hb2 hb3'
    have p0:=(hb3'.block _ (Array.getElem?_eq_some_iff.1 q0).1).trans q0
    have j0:=blkC p0 0 rfl
    have j4:=blkC p0 4 rfl
    clear hC hb3 hb3' hdr q0 q1 k0 k1 k2 k3 k4 kw
    cases ng
    . go_wp2
      all_goals refine bodyPost_ret (v:=.tuple #[.bool false,.int .i64 (U:Nat),.int .i64 E,.bool other]) (by simp [results,Tryz.results91,go_sem]) rfl ⟨by simp,hbw⟩
    . by_cases hu0:U=0
      . have hu1:¬ (0:Int) < (U:Int):=by omega
        have hd:decide (0 < U)=false:=decide_eq_false (by omega)
        go_wp2
        all_goals refine bodyPost_ret (v:=.tuple #[.bool sd,.int .i64 (U:Nat),.int .i64 E,.bool other]) (by simp [results,Tryz.results91,go_sem,hu0]) rfl ⟨by simp [hd],hbw⟩
      . have hu1:(0:Int) < (U:Int):=by omega
        have hd:decide (0 < U)=true:=decide_eq_true (by omega)
        go_wp2
        all_goals refine bodyPost_ret (v:=.tuple #[.bool true,.int .i64 (U:Nat),.int .i64 E,.bool other]) (by simp [results,Tryz.results91,go_sem]) rfl ⟨by simp [hd],hbw⟩
theorem keepIt {p:Prop} (h:p):Hid p:=h
theorem trailingI (mag:Int) (h0:0 < mag) (h:mag < 9223372036854775808) (w:World) (hT:b_Tab w) :
    Calls Tryz.prog 132 #[.int .u64 mag] w fun e w'=>e=.returned (.int .i64 (jz mag))∧w'=w:=by
  obtain ⟨n,rfl⟩:=Int.eq_ofNat_of_zero_le (Int.le_of_lt h0)
  exact b_trailing n (by omega) (by omega) w hT
theorem len64J (mag:Int) (w:World) (h0:1 <= jo mag) (h1:jo mag <= mag) (h:mag < 9223372036854775808) :
    Calls Tryz.prog 129 #[.int .u64 (jo mag)] w fun e w'=>e=.returned (.int .i64 (jl mag))∧w'=w :=
  b_len64 (jo mag) w (by omega) (by omega)
theorem far64 (exp:Int) (w:World) (h:rng exp) :
    Calls Tryz.prog 131 #[.agg #[.int .i64 52,.int .i64 2047,.int .i64 (-1074)],.int .i64 exp] w fun e w'=>e=.returned (.bool (decide (1025 < exp)))∧w'=w.alloc (.cells #[.int .i64 52,.int .i64 2047,.int .i64 (-1074)] 95):=by
  unfold rng at h
  go_enter Tryz.func131,Tryz.ntmps131
  go_wp2
  go_ret
  exact ⟨rfl,rfl⟩
set_option maxHeartbeats 1000000 in
theorem join64 (mag exp:Int) (w:World) (hT:b_Tab w) (hm:rng mag) (he:rng exp) :
    Calls Tryz.prog 115 #[.agg #[.int .i64 52,.int .i64 2047,.int .i64 (-1074)],.int .i64 mag,.int .i64 exp] w fun e w'=>e=.returned (.tuple #[.int .i64 (jv 52 2047 (-1074) mag exp),.bool (jk 52 2047 (-1074) mag exp)])∧Gr w w':=by
  have he0:=he
  unfold rng at hm he
  rcases Int.lt_trichotomy mag 0 with h | h | h
  . have hn:(mag == 0)=false:=by simp; omega
    go_enter Tryz.func115,Tryz.ntmps115
    go_wp2
    go_ret2
    exact ⟨ret_ib (by simp [jv]; omega) (by simp [jk]; omega),(Gr.refl _).alloc _ _⟩
  . subst h
    go_enter Tryz.func115,Tryz.ntmps115
    go_wp2
    go_ret2
    exact ⟨ret_ib (by simp [jv]) (by simp [jk]),(Gr.refl _).alloc _ _⟩
  . have hn:(mag == 0)=false:=by simp; omega
    have hz:=jz_spec h hm.2
    by_cases hf:1025 < exp
    . have hk:=keepIt (jgood_far h hm.2 hf)
      go_enter Tryz.func115,Tryz.ntmps115
      go_wp2_with (go_at_call 131; refine (far64 _ _ he0).mono ?_; rintro e w1 ⟨rfl,rfl⟩)
      go_ret2
      exact ⟨ret_ib (by simp [jv,hk.out]) (by simp [jk,hk.out]; omega),((Gr.refl _).alloc _ _).alloc _ _⟩
    . obtain ⟨m,-,hz63,-⟩:=hz
      have hj:=jo_le h hm.2
      have hL:=jl_le h hm.2
      have eo:mag / 2 ^ jz mag=jo mag:=rfl
      by_cases s1:53 - jl mag < 0
      . have hk:Hid (jgood 52 2047 (-1074) mag exp=false):=by unfold Hid jgood jsp; simp; omega
        go_enter Tryz.func115,Tryz.ntmps115
        go_wp2_with (go_at_call 131; refine (far64 _ _ he0).mono ?_; rintro e w1 ⟨rfl,rfl⟩)
        refine (trailingI mag h hm.2 _ (hT.grown (((Gr.refl _).alloc _ _).alloc _ _))).mono ?_
        rintro e w1 ⟨rfl,rfl⟩
        go_wp2
        go_quiet ((go_at_call 129; exact Calls.quiet_of_same (len64J _ _ hj.1 hj.2 hm.2)))
        go_wp2
        go_ret2
        exact ⟨ret_ib (by simp [jv,hk.out]) (by simp [jk,hk.out]; omega),gDrewN (((Gr.refl _).alloc _ _).alloc _ _) _⟩
      . by_cases s2:exp + jz mag < -1074
        . have hk:Hid (jgood 52 2047 (-1074) mag exp=false):=by unfold Hid jgood jsp; simp; omega
          go_enter Tryz.func115,Tryz.ntmps115
          go_wp2_with (go_at_call 131; refine (far64 _ _ he0).mono ?_; rintro e w1 ⟨rfl,rfl⟩)
          refine (trailingI mag h hm.2 _ (hT.grown (((Gr.refl _).alloc _ _).alloc _ _))).mono ?_
          rintro e w1 ⟨rfl,rfl⟩
          go_wp2
          go_quiet ((go_at_call 129; exact Calls.quiet_of_same (len64J _ _ hj.1 hj.2 hm.2)))
          go_wp2
          go_ret2
          exact ⟨ret_ib (by simp [jv,hk.out]) (by simp [jk,hk.out]; omega),gDrewN (((Gr.refl _).alloc _ _).alloc _ _) _⟩
        . obtain ⟨s,hs⟩:∃ s:Nat,min (53 - jl mag) (exp + ↑(jz mag) + 1074)=(s:Int):=⟨(min (53 - jl mag) (exp + ↑(jz mag) + 1074)).toNat,by omega⟩
          have hsl:(s:Int) <= 52:=by omega
          have hsj:Hid (jsh 52 (-1074) mag exp=s):=by unfold Hid jsh jsp; omega
          by_cases s3:2045 < exp + ↑(jz mag) - ↑s + 1074
          . have hk:Hid (jgood 52 2047 (-1074) mag exp=false):=by unfold Hid jgood jab; rw [hsj.out]; simp; omega
            go_enter Tryz.func115,Tryz.ntmps115
            go_wp2_with (go_at_call 131; refine (far64 _ _ he0).mono ?_; rintro e w1 ⟨rfl,rfl⟩)
            refine (trailingI mag h hm.2 _ (hT.grown (((Gr.refl _).alloc _ _).alloc _ _))).mono ?_
            rintro e w1 ⟨rfl,rfl⟩
            go_wp2
            go_quiet ((go_at_call 129; exact Calls.quiet_of_same (len64J _ _ hj.1 hj.2 hm.2)))
            go_wp2
            go_ret2
            exact ⟨ret_ib (by simp [jv,hk.out]) (by simp [jk,hk.out]; omega),gDrewN (((Gr.refl _).alloc _ _).alloc _ _) _⟩
          . have hk:Hid (jgood 52 2047 (-1074) mag exp=true):=by unfold Hid jgood jab jsp; rw [hsj.out]; simp; omega
            have hb:=jshift_lt (fr:=52) h hm.2 (by omega) s (by unfold jsp; omega)
            have hb2:jo mag * 2 ^ s < 9007199254740992:=hb.2
            have hb1:=hb.1
            clear hb
            go_enter Tryz.func115,Tryz.ntmps115
            go_wp2_with (go_at_call 131; refine (far64 _ _ he0).mono ?_; rintro e w1 ⟨rfl,rfl⟩)
            refine (trailingI mag h hm.2 _ (hT.grown (((Gr.refl _).alloc _ _).alloc _ _))).mono ?_
            rintro e w1 ⟨rfl,rfl⟩
            go_wp2
            go_quiet ((go_at_call 129; exact Calls.quiet_of_same (len64J _ _ hj.1 hj.2 hm.2)))
            go_wp2
            go_quiet (fail)
            go_wp2
            go_ret2
            refine ⟨ret_ib ?_ (by simp [jk,hk.out]; omega),gDrewN (gDrewN (((Gr.refl _).alloc _ _).alloc _ _) _) _⟩
            unfold jv jab
            rw [if_neg (by omega),if_pos hk.out,hsj.out]
            rfl
structure Env (w:World):Prop where
  lays:Lays w
  tab:b_Tab w
theorem Env.grown {w w':World} (h:Env w) (g:Gr w w'):Env w':=⟨h.lays.grown g,h.tab.grown g⟩
theorem bitsJoin (neg:Bool) (mag exp:Int) (w:World) (E:Env w) (hm:rng mag) (he:rng exp) :
    Calls Tryz.prog 92 #[.bool neg,.int .i64 mag,.int .i64 exp] w fun e w'=>e=.returned (.tuple #[.int .i64 (jp neg mag exp),.bool (jk 52 2047 (-1074) mag exp)])∧Gr w w':=by
  have hT:=E.tab
  obtain ⟨a0,a1,a2,b0,b1,b2⟩:=E.lays
  have hb:=jv_le (mag:=mag) (exp:=exp) hm
  have ho:=or_i64_sign (jv 52 2047 (-1074) mag exp) (by omega) (by omega)
  have Ho:=keepIt ho
  clear ho
  cases hk:jk 52 2047 (-1074) mag exp
  all_goals
    have HK:=keepIt hk
    cases neg
    all_goals
      go_enter Tryz.func92,Tryz.ntmps92
      go_wp2_with (go_at_call 115; refine (join64 _ _ _ hT hm he).mono ?_; rintro e w1 ⟨rfl,hg⟩)
      go_ret2
      exact ⟨ret_ib (by simp [jp,HK.out,Ho.out]) (by simp [HK.out]),hg⟩
end Go.Proofs.YtfgapefckpnjjaaGreatDoor
namespace Go.Proofs.YtfgapefckpnjjaaGreatDoor.M
open Go
theorem dig_mul {x y:Int} (hx:0 <= x∧x < 1073741824) (hy:0 <= y∧y < 1073741824):0 <= x * y∧x * y <= 1152921502459363329:=by
  refine ⟨Int.mul_nonneg hx.1 hy.1,?_⟩
  have h1:x * y <= 1073741823 * y:=Int.mul_le_mul_of_nonneg_right (by omega) hy.1
  omega
theorem zero_dig (n:Nat):Dig (fun _=>0) n:=fun i _=>⟨Int.le_refl 0,show (0:Int) < 1073741824 by decide⟩
theorem mod_dig (x:Int):0 <= x % 1073741824∧x % 1073741824 < 1073741824:=by omega
theorem sum_step {r:Nat->Int} {k:Nat} {c x V:Int} (h:val r k + c * P k=V):val (upd r k ((c + x) % 1073741824)) (k + 1) + (c + x) / 1073741824 * P (k + 1)=V + x * P k:=by
  rw [val_succ,val_upd_ge r _ (Nat.le_refl k),upd_same,P_succ,carry_step,h]
theorem mul_step {r r0 b:Nat->Int} {i j:Nat} {c ai:Int} (h:val r (i + j) + c * P (i + j)=val r0 (i + j) + ai * val b j * P i) (hr:r (i + j)=r0 (i + j)) :
    val (upd r (i + j) ((c + (ai * b j + r (i + j))) % 1073741824)) (i + (j + 1)) + (c + (ai * b j + r (i + j))) / 1073741824 * P (i + (j + 1))=val r0 (i + (j + 1)) + ai * val b (j + 1) * P i:=by
  have e:=sum_step (x:=ai * b j + r (i + j)) h
  rw [<- Nat.add_assoc,e,val_succ,val_succ,P_add,hr]
  grind
theorem mul_row {r r0 b:Nat->Int} {i m:Nat} {c ai A:Int} (h:val r (i + m) + c * P (i + m)=val r0 (i + m) + ai * val b m * P i) (h0:val r0 (i + m)=A * val b m) :
    val (upd r (i + m) c) (i + 1 + m)=(A + ai * P i) * val b m:=by
  rw [show i + 1 + m=i + m + 1 by omega,val_succ,upd_same,val_upd_ge r _ (Nat.le_refl _),h,h0]
  grind
theorem nrm_of_top {d:Nat->Int} {n t:Nat} (hd:Dig d n) (ht:t <= n) (htop:Top d t) (hz:∀ i,t <= i->i < n->d i=0):Nrm d t∧val d t=val d n :=
  ⟨⟨hd.le ht,htop⟩,(val_zeros ht hz).symm⟩
theorem cmp_top {d e:Nat->Int} {n k:Nat} (hd:Dig d n) (he:Dig e n) (hk:k < n) (hs:∀ i,k < i->i < n->d i=e i) (hlt:d k < e k):val d n < val e n:=by
  have s1:=val_split d (k + 1) (n - (k + 1))
  have s2:=val_split e (k + 1) (n - (k + 1))
  rw [show k + 1 + (n - (k + 1))=n by omega] at s1 s2
  have e1:val (fun i=>d (k + 1 + i)) (n - (k + 1))=val (fun i=>e (k + 1 + i)) (n - (k + 1)):=val_congr fun i hi=>hs _ (by omega) (by omega)
  rw [s1,s2,e1,val_succ,val_succ]
  have a:=val_lt (hd.le (show k <= n by omega))
  have b:=val_nonneg (he.le (show k <= n by omega))
  have c:(d k + 1) * P k <= e k * P k:=Int.mul_le_mul_of_nonneg_right (by omega) (Int.le_of_lt (P_pos k))
  rw [Int.add_mul] at c
  omega
def ord (a b:Int):Int:=if a < b then -1 else if b < a then 1 else 0
theorem ord_lt {a b:Int} (h:a < b):ord a b=-1:=by simp [ord,h]
theorem ord_gt {a b:Int} (h:b < a):ord a b=1:=by simp [ord,h]; omega
theorem ord_eq {a b:Int} (h:a=b):ord a b=0:=by simp [ord,h]
end Go.Proofs.YtfgapefckpnjjaaGreatDoor.M
namespace Go.Proofs.YtfgapefckpnjjaaGreatDoor
open Go Go.RowKit Go.Proofs.YtfgapefckpnjjaaGreatDoor.M
instance (d:Nat->Int) (n:Nat):Decidable (Dig d n):=by unfold Dig; infer_instance
instance (d:Nat->Int) (n:Nat):Decidable (Top d n):=by unfold Top; infer_instance
instance (d:Nat->Int) (n:Nat):Decidable (Nrm d n):=by unfold Nrm; infer_instance
def okB (d:Nat->Int) (n:Nat):Bool:=decide (n <= 2000∧Nrm d n)
theorem okB_yes {d:Nat->Int} {n:Nat} (h:n <= 2000) (k:Nrm d n):okB d n=true:=by simp [okB,h,k]
theorem okB_no {d:Nat->Int} {n:Nat} (h:¬ (n <= 2000∧Nrm d n)):okB d n=false:=by simp only [okB,h,decide_false]
theorem ret_bool {a b:Bool} (h:a=b):Ending.returned (.bool a)=.returned (.bool b):=by rw [h]
theorem ret_int {k:IntKind} {a b:Int} (h:a=b):Ending.returned (.int k a)=.returned (.int k b):=by rw [h]
theorem dig_snoc {d:Nat->Int} {k:Nat} (h:Dig d k) (h0:0 <= d k) (h1:d k < 1073741824):Dig d (k + 1):=fun i hi=>by
  by_cases e:i=k
  . rw [e]; exact ⟨h0,h1⟩
  . exact h i (by omega)
set_option maxHeartbeats 400000 in
theorem valid_any (ao:Option Addr) (n cap:Nat) (d:Nat->Int) (w:World) (h:Row w ao n cap d) :
    Calls Tryz.prog 112 #[.slice ao n cap] w fun e w'=>e=.returned (.bool (okB d n))∧w'=w:=by
  have hl:=h.le
  have hm:=h.max
  by_cases h2k:n <= 2000
  . go_enter Tryz.func112,Tryz.ntmps112
    go_wp2
    go_loop [9] (fun i=>∃ k:Nat,k <= n∧i=.int .i64 k∧Dig d k) (fun i=>n - (intOf i).toNat)
    case atStart=>exact ⟨0,Nat.zero_le _,rfl,fun i hi=>absurd hi (by omega)⟩
    case round=>
      obtain ⟨k,hk,rfl,hd⟩:=hrel
      by_cases hlt:k < n
      . obtain ⟨b,off,rfl,hb,hc⟩:=h.spot (by omega)
        have c:=hc k hlt
        by_cases h0:d k < 0
        . go_wp2
          go_ret
          exact ⟨ret_bool (okB_no (fun ⟨_,q⟩=>by have:=(q.1 k hlt).1; omega)).symm,rfl⟩
        . by_cases h1:1073741823 < d k
          . go_wp2
            go_ret
            exact ⟨ret_bool (okB_no (fun ⟨_,q⟩=>by have:=(q.1 k hlt).2; omega)).symm,rfl⟩
          . go_wp2
            go_round
            case rel=>exact ⟨k + 1,by omega,by go_num,dig_snoc hd (by omega) (by omega)⟩
            case measure=>simp [intOf]; omega
      . obtain rfl:k=n:=by omega
        by_cases h0:k=0
        . subst h0
          go_wp2
          go_ret
          exact ⟨ret_bool (okB_yes h2k ⟨hd,.inl rfl⟩).symm,rfl⟩
        . obtain ⟨b,off,rfl,hb,hc⟩:=h.spot (by omega)
          have c:=hc (k - 1) (by omega)
          by_cases h1:d (k - 1)=0
          . go_wp2
            go_ret
            exact ⟨ret_bool ((show _=false by simp; omega).trans (okB_no (fun ⟨_,q⟩=>by rcases q.2 with e | e <;> omega)).symm),rfl⟩
          . go_wp2
            go_ret
            exact ⟨ret_bool ((show _=true by simp; omega).trans (okB_yes h2k ⟨hd,.inr h1⟩).symm),rfl⟩
  . go_enter Tryz.func112,Tryz.ntmps112
    go_wp2
    go_ret
    exact ⟨ret_bool (okB_no (fun ⟨q,_⟩=>h2k q)).symm,rfl⟩
set_option maxHeartbeats 400000 in
theorem trim_any (ao:Option Addr) (n cap:Nat) (d:Nat->Int) (w:World) (h:Row w ao n cap d) :
    Calls Tryz.prog 145 #[.slice ao n cap] w fun e w'=>∃ t:Nat,t <= n∧Top d t∧(∀ i,t <= i->i < n->d i=0)∧e=.returned (cutV ao t cap)∧w'=w:=by
  have hl:=h.le
  have hm:=h.max
  go_enter Tryz.func145,Tryz.ntmps145
  go_wp2
  go_loop [3] (fun i=>∃ k:Nat,k <= n∧i=.int .i64 k∧∀ i,k <= i->i < n->d i=0) (fun i=>(intOf i).toNat)
  case atStart=>exact ⟨n,Nat.le_refl _,rfl,fun i a b=>by omega⟩
  case round=>
    obtain ⟨k,hk,rfl,hz⟩:=hrel
    have HZ:Hid (∀ i,k <= i->i < n->d i=0):=hz
    clear hz
    by_cases h0:k=0
    . subst h0
      go_wp2
      go_ret
      exact ⟨0,by omega,.inl rfl,HZ.out,rfl,rfl⟩
    . obtain ⟨b,off,rfl,hb,hc⟩:=h.spot (by omega)
      have c:=hc (k - 1) (by omega)
      by_cases h1:d (k - 1)=0
      . go_wp2
        go_round
        case rel=>exact ⟨k - 1,by omega,by go_num,fun i a b=>by by_cases e:i=k - 1; (· rw [e]; exact h1); (· exact HZ.out i (by omega) b)⟩
        case measure=>simp [intOf]; omega
      . go_wp2
        go_ret
        exact ⟨k,hk,.inr h1,HZ.out,by unfold cutV; rw [if_neg h0]; simp,rfl⟩
end Go.Proofs.YtfgapefckpnjjaaGreatDoor
namespace Go.Proofs.YtfgapefckpnjjaaGreatDoor.M
open Go
def blen (V:Int):Nat:=if V <= 0 then 0 else Nat.log2 V.toNat + 1
theorem blen_zero:blen 0=0:=by decide
theorem blen_lt (V:Int):V < 2 ^ blen V:=by
  unfold blen
  split
  . show V < 1; omega
  . have h:=@Nat.lt_log2_self V.toNat
    have e:((V.toNat:Nat):Int) < ((2 ^ (Nat.log2 V.toNat + 1):Nat):Int):=Int.ofNat_lt.2 h
    rw [Int.toNat_of_nonneg (by omega)] at e
    simpa using e
theorem blen_pos {V:Int} (h:0 < V):1 <= blen V∧2 ^ (blen V - 1) <= V:=by
  unfold blen
  rw [if_neg (by omega)]
  refine ⟨by omega,?_⟩
  have h1:=Nat.log2_self_le (n:=V.toNat) (by omega)
  have e:((2 ^ Nat.log2 V.toNat:Nat):Int) <= ((V.toNat:Nat):Int):=Int.ofNat_le.2 h1
  rw [Int.toNat_of_nonneg (by omega)] at e
  simpa using e
theorem two_lt_iff {j k:Nat} (h:(2:Int) ^ j < 2 ^ k):j < k:=by
  rcases Nat.lt_or_ge j k with h1 | h1
  . exact h1
  . have:=two_le h1; omega
theorem blen_le {V:Int} {k:Nat} (h:V < 2 ^ k):blen V <= k:=by
  by_cases h0:0 < V
  . obtain ⟨h1,h2⟩:=blen_pos h0
    have:=two_lt_iff (show (2:Int) ^ (blen V - 1) < 2 ^ k by omega)
    omega
  . unfold blen; rw [if_pos (by omega)]; omega
theorem blen_ge {V:Int} {k:Nat} (h:2 ^ k <= V):k < blen V:=by
  have h1:=blen_lt V
  exact two_lt_iff (by omega)
theorem blen_of {V:Int} {k:Nat} (h1:2 ^ k <= V) (h2:V < 2 ^ (k + 1)):blen V=k + 1:=by
  have a:=blen_ge h1
  have b:=blen_le h2
  omega
theorem bitLen_eq {x:Int} (h0:0 <= x) (h1:x < 18446744073709551616):(Lib.bitLen x.toNat:Int)=blen x:=by
  by_cases hx:x=0
  . subst hx; decide
  . obtain ⟨a,b,c⟩:=Lib.bitLenAux_bounds 64 x.toNat (by omega) (by omega)
    have e:blen x=Lib.bitLen x.toNat:=by
      have hb:Lib.bitLen x.toNat=Lib.bitLenAux 64 x.toNat:=rfl
      rw [<- hb] at a b c
      obtain ⟨k,hk⟩:∃ k,Lib.bitLen x.toNat=k + 1:=⟨Lib.bitLen x.toNat - 1,by omega⟩
      rw [hk] at b c ⊢
      have b':((2 ^ k:Nat):Int) <= ((x.toNat:Nat):Int):=Int.ofNat_le.2 (by simpa using b)
      have c':((x.toNat:Nat):Int) < ((2 ^ (k + 1):Nat):Int):=Int.ofNat_lt.2 c
      rw [Int.toNat_of_nonneg h0] at b' c'
      exact blen_of (by simpa using b') (by simpa using c')
    rw [e]
theorem blen_val {d:Nat->Int} {n:Nat} (h:Nrm d (n + 1)):blen (val d (n + 1))=30 * n + blen (d n):=by
  have hd:=h.1 n (by omega)
  have ht:d n ≠ 0:=by rcases h.2 with e | e; (· omega); (· simpa using e)
  have hp:0 < d n:=by omega
  obtain ⟨a,b⟩:=blen_pos hp
  have c:=blen_lt (d n)
  have v0:=val_nonneg (h.1.le (Nat.le_succ n))
  have v1:=val_lt (h.1.le (Nat.le_succ n))
  have pp:=P_pos n
  obtain ⟨k,hk⟩:∃ k,blen (d n)=k + 1:=⟨blen (d n) - 1,by omega⟩
  rw [hk] at b c ⊢
  rw [show 30 * n + (k + 1)=(30 * n + k) + 1 by omega]
  have e1:(2:Int) ^ (30 * n + k)=2 ^ k * P n:=by rw [Int.pow_add,P_two,Int.mul_comm]
  have e2:(2:Int) ^ (30 * n + k + 1)=2 ^ (k + 1) * P n:=by rw [show 30 * n + k + 1=30 * n + (k + 1) by omega,Int.pow_add,P_two,Int.mul_comm]
  have f1:(2:Int) ^ k * P n <= d n * P n:=Int.mul_le_mul_of_nonneg_right (by simpa using b) (by omega)
  have f2:(d n + 1) * P n <= 2 ^ (k + 1) * P n:=Int.mul_le_mul_of_nonneg_right (by omega) (by omega)
  rw [Int.add_mul] at f2
  apply blen_of
  . rw [e1,val_succ]; omega
  . rw [e2,val_succ]; omega
end Go.Proofs.YtfgapefckpnjjaaGreatDoor.M
namespace Go.Proofs.YtfgapefckpnjjaaGreatDoor
open Go Go.RowKit Go.Proofs.YtfgapefckpnjjaaGreatDoor.M
theorem len_close (x q:Int) (s:Nat) (h:q.toNat < Lib.len8tab.size) (hq0:0 <= q) (hq:q <= 255) (hs:s <= 56) (hb:Lib.bitLen x.toNat=s + Lib.bitLen q.toNat) :
    wrap64 ((s:Int) + wrap64 ((Lib.len8tab[q.toNat]'h).toNat:Int))=(Lib.bitLen x.toNat:Int):=by
  have e:=Lib.len8_of q hq0 hq
  have l:=Lib.bitLen_le8' q hq0 hq
  unfold Lib.len8 at e
  rw [getElem?_pos Lib.len8tab q.toNat h] at e
  simp only [Option.getD_some] at e
  rw [e,hb]
  unfold wrap64
  omega
theorem len_close0 (x:Int) (h:x.toNat < Lib.len8tab.size) (hq0:0 <= x) (hq:x <= 255) :
    wrap64 (wrap64 ((Lib.len8tab[x.toNat]'h).toNat:Int))=(Lib.bitLen x.toNat:Int):=by
  have:=len_close x x 0 h hq0 hq (by omega) (by omega)
  simpa using this
theorem len_q (x q:Int) (s:Nat) (h0:0 <= x) (h1:x <= 18446744073709551615) (hx:((2 ^ s:Nat):Int) <= x) (e:q=x / ((2 ^ s:Nat):Int)):Lib.bitLen x.toNat=s + Lib.bitLen q.toNat:=by
  rw [Lib.bitLen_shift s x.toNat (by omega) (by omega),e]
  congr 2
  obtain ⟨n,rfl⟩:=Int.eq_ofNat_of_zero_le h0
  rw [<- Int.natCast_ediv,Int.toNat_natCast,Int.toNat_natCast]
set_option maxHeartbeats 4000000 in
set_option maxRecDepth 100000 in
theorem len64 (x:Int) (w:World) (h0:0 <= x) (h1:x <= 18446744073709551615) :
    Calls Tryz.prog 129 #[.int .u64 x] w fun e w'=>e=.returned (.int .i64 (Lib.bitLen x.toNat))∧w'=w:=by
  have hs:Lib.len8tab.size=256:=by decide +kernel
  go_enter Tryz.func129,Tryz.ntmps129
  go_wp2
  all_goals go_ret
  . exact ⟨ret_int (len_close x _ 56 _ (by omega) (by omega) (by omega) (len_q x _ 56 h0 h1 (by omega) (by omega))),rfl⟩
  . exact ⟨ret_int (len_close x _ 48 _ (by omega) (by omega) (by omega) (len_q x _ 48 h0 h1 (by omega) (by omega))),rfl⟩
  . exact ⟨ret_int (len_close x _ 40 _ (by omega) (by omega) (by omega) (len_q x _ 40 h0 h1 (by omega) (by omega))),rfl⟩
  . exact ⟨ret_int (len_close x _ 32 _ (by omega) (by omega) (by omega) (len_q x _ 32 h0 h1 (by omega) (by omega))),rfl⟩
  . exact ⟨ret_int (len_close x _ 24 _ (by omega) (by omega) (by omega) (len_q x _ 24 h0 h1 (by omega) (by omega))),rfl⟩
  . exact ⟨ret_int (len_close x _ 16 _ (by omega) (by omega) (by omega) (len_q x _ 16 h0 h1 (by omega) (by omega))),rfl⟩
  . exact ⟨ret_int (len_close x _ 8 _ (by omega) (by omega) (by omega) (len_q x _ 8 h0 h1 (by omega) (by omega))),rfl⟩
  . exact ⟨ret_int (len_close0 x _ (by omega) (by omega)),rfl⟩
theorem len_any (x:Int) (w:World) (h0:0 <= x) (h1:x <= 18446744073709551615) :
    Calls Tryz.prog 113 #[.int .u64 x] w fun e w'=>e=.returned (.int .i64 (blen x))∧w'=w:=by
  go_enter Tryz.func113,Tryz.ntmps113
  go_wp2_with (go_at_call 129; refine (len64 _ _ (by omega) (by omega)).mono ?_; rintro e w' ⟨rfl,rfl⟩)
  go_ret
  exact ⟨ret_int (bitLen_eq h0 (by omega)),rfl⟩
theorem width_any (x:Int) (w:World) (h0:0 <= x) (h1:x < 9223372036854775808) :
    Calls Tryz.prog 133 #[.int .i64 x] w fun e w'=>e=.returned (.int .i64 (blen x))∧w'=w:=by
  go_enter Tryz.func133,Tryz.ntmps133
  go_wp2_with (go_at_call 113; refine (len_any _ _ (by omega) (by omega)).mono ?_; rintro e w' ⟨rfl,rfl⟩)
  go_ret
  exact ⟨rfl,rfl⟩
theorem bitLength_any (ao:Option Addr) (n cap:Nat) (d:Nat->Int) (w:World) (h:Row w ao n cap d) (hd:Nrm d n) (hn:n <= 1000000) :
    Calls Tryz.prog 116 #[.slice ao n cap] w fun e w'=>e=.returned (.int .i64 (blen (val d n)))∧w'=w:=by
  have hl:=h.le
  have hm:=h.max
  by_cases h0:n=0
  . subst h0
    go_enter Tryz.func116,Tryz.ntmps116
    go_wp2
    go_ret
    exact ⟨rfl,rfl⟩
  . obtain ⟨k,rfl⟩:∃ k,n=k + 1:=⟨n - 1,by omega⟩
    obtain ⟨b,off,rfl,hb,hc⟩:=h.spot (by omega)
    have c:=hc k (by omega)
    have dk:=hd.1 k (by omega)
    have hbl:blen (d k) <= 30:=blen_le (by show d k < 1073741824; exact dk.2)
    go_enter Tryz.func116,Tryz.ntmps116
    go_wp2_with (go_at_call 133; refine (width_any _ _ (by omega) (by omega)).mono ?_; rintro e w' ⟨rfl,rfl⟩)
    go_ret
    exact ⟨ret_int (by rw [blen_val hd]; omega),rfl⟩
end Go.Proofs.YtfgapefckpnjjaaGreatDoor
namespace Go.Proofs.YtfgapefckpnjjaaGreatDoor.M
open Go
theorem mul_le_r {a b c:Int} (h:a <= b) (hc:0 <= c):a * c <= b * c:=Int.mul_le_mul_of_nonneg_right h hc
theorem mul_le_l {a b c:Int} (h:a <= b) (hc:0 <= c):c * a <= c * b:=Int.mul_le_mul_of_nonneg_left h hc
theorem knuth_long {U V p v1 v2 vl head u2 ul times left:Int} (hV:V=(v1 * 1073741824 + v2) * p + vl) (hvl:vl < p) (hv2:v2 < 1073741824) (hU:U=(head * 1073741824 + u2) * p + ul) (hul:0 <= ul) (hu2:0 <= u2)
    (hp:0 < p) (hh:head=times * v1 + left) (ht:0 <= times) (ht2:times < 1073741824) (h:1073741824 <= left):times * V <= U:=by
  have h0:v2 * p <= 1073741823 * p:=mul_le_r (by omega) (by omega)
  have e0:(v1 + 1) * (1073741824 * p)=v1 * 1073741824 * p + 1073741823 * p + p:=by grind
  have e1:V=v1 * 1073741824 * p + v2 * p + vl:=by rw [hV]; grind
  have h1:times * V <= times * ((v1 + 1) * (1073741824 * p)):=mul_le_l (by omega) ht
  have h2:(times * v1 + times) * (1073741824 * p) <= head * (1073741824 * p):=mul_le_r (by omega) (by omega)
  have h3:0 <= u2 * p:=Int.mul_nonneg hu2 (by omega)
  have e2:U=head * (1073741824 * p) + u2 * p + ul:=by rw [hU]; grind
  have e3:times * ((v1 + 1) * (1073741824 * p))=(times * v1 + times) * (1073741824 * p):=by grind
  omega
theorem knuth_short {U V p v1 v2 vl head u2 ul times left:Int} (hV:V=(v1 * 1073741824 + v2) * p + vl) (hvl0:0 <= vl) (hvl:vl < p) (hv1:1 <= v1) (hv2:0 <= v2) (hU:U=(head * 1073741824 + u2) * p + ul) (hul:0 <= ul)
    (hp:0 < p) (hh:head=times * v1 + left) (ht:0 <= times) (ht2:times < 1073741824) (h:times * v2 <= left * 1073741824 + u2):(times - 1) * V <= U:=by
  have h1:times * vl <= times * p:=mul_le_l (by omega) ht
  have h2:times * v2 * p <= (left * 1073741824 + u2) * p:=mul_le_r h (by omega)
  have h3:times * p <= 1073741824 * p:=mul_le_r (by omega) (by omega)
  have h4:1 * (1073741824 * p) <= v1 * (1073741824 * p):=mul_le_r hv1 (by omega)
  have h5:0 <= v2 * p:=Int.mul_nonneg hv2 (by omega)
  have e0:V=v1 * (1073741824 * p) + v2 * p + vl:=by rw [hV]; grind
  have e1:(times - 1) * V=times * v1 * 1073741824 * p + times * v2 * p + times * vl - V:=by rw [hV]; grind
  have e2:U=times * v1 * 1073741824 * p + (left * 1073741824 + u2) * p + ul:=by rw [hU,hh]; grind
  omega
structure Steps (x0 y0 x y fA fB nA nB sg:Int):Prop where
  sgn:sg=1∨sg=-1
  ex:x=sg * (fA * x0 - fB * y0)
  ey:y=sg * (nB * y0 - nA * x0)
  det:fA * nB - fB * nA=sg
  fA0:0 <= fA
  fB0:0 <= fB
  nA0:0 <= nA
  nB1:1 <= nB
theorem Steps.step {x0 y0 x y fA fB nA nB sg:Int} (h:Steps x0 y0 x y fA fB nA nB sg) {q:Int} (hq:1 <= q) :
    Steps x0 y0 y (x - q * y) nA nB (fA + q * nA) (fB + q * nB) (-sg):=by
  have h1:=Int.mul_nonneg (show 0 <= q by omega) h.nA0
  have h2:1 * nB <= q * nB:=mul_le_r hq (by have:=h.nB1; omega)
  have hf:=h.fA0
  have hg:=h.fB0
  have hn:=h.nB1
  refine ⟨by rcases h.sgn with e | e <;> omega,?_,?_,?_,h.nA0,by omega,by omega,by omega⟩
  . rw [h.ey]; grind
  . rw [h.ey,h.ex]; grind
  . have:=h.det; grind
theorem Steps.whole {x0 y0 x y fA fB nA nB sg S al be:Int} (h:Steps x0 y0 x y fA fB nA nB sg) (hS:0 < S) (ha0:0 <= al) (ha:al < S) (hb0:0 <= be) (hb:be < S)
    (hab:nA <= nB) (hfb:fA <= fB) (hy:nB <= y) (hx:nB + fB <= x - y) :
    0 < sg * (nB * (y0 * S + be) - nA * (x0 * S + al))∧sg * (nB * (y0 * S + be) - nA * (x0 * S + al)) < sg * (fA * (x0 * S + al) - fB * (y0 * S + be)):=by
  have hn:=h.nB1
  have hf:=h.fB0
  have k1:nB * be <= nB * (S - 1):=mul_le_l (by omega) (by omega)
  have k2:nA * al <= nA * (S - 1):=mul_le_l (by omega) h.nA0
  have k3:nA * (S - 1) <= nB * (S - 1):=mul_le_r hab (by omega)
  have k4:0 <= nB * be:=Int.mul_nonneg (by omega) hb0
  have k5:0 <= nA * al:=Int.mul_nonneg h.nA0 ha0
  have k6:nB * S <= y * S:=mul_le_r hy (by omega)
  have k7:(nB + fB) * S <= (x - y) * S:=mul_le_r hx (by omega)
  have m1:fB * be <= fB * (S - 1):=mul_le_l (by omega) hf
  have m2:fA * al <= fA * (S - 1):=mul_le_l (by omega) h.fA0
  have m3:fA * (S - 1) <= fB * (S - 1):=mul_le_r hfb (by omega)
  have m4:0 <= fB * be:=Int.mul_nonneg hf hb0
  have m5:0 <= fA * al:=Int.mul_nonneg h.fA0 ha0
  have ex:=h.ex
  have ey:=h.ey
  have e1:nB * (y0 * S + be) - nA * (x0 * S + al)=(nB * y0 - nA * x0) * S + nB * be - nA * al:=by grind
  have e2:fA * (x0 * S + al) - fB * (y0 * S + be)=(fA * x0 - fB * y0) * S + fA * al - fB * be:=by grind
  have e3:nB * (S - 1)=nB * S - nB:=by grind
  have e4:fB * (S - 1)=fB * S - fB:=by grind
  have e5:(nB + fB) * S=nB * S + fB * S:=by grind
  have e6:(x - y) * S=x * S - y * S:=by grind
  rw [e1,e2]
  rcases h.sgn with rfl | rfl
  . have e7:(nB * y0 - nA * x0) * S=y * S:=by rw [ey]; grind
    have e8:(fA * x0 - fB * y0) * S=x * S:=by rw [ex]; grind
    constructor <;> omega
  . have e7:(nB * y0 - nA * x0) * S=- (y * S):=by rw [ey]; grind
    have e8:(fA * x0 - fB * y0) * S=- (x * S):=by rw [ex]; grind
    constructor <;> omega
end Go.Proofs.YtfgapefckpnjjaaGreatDoor.M
