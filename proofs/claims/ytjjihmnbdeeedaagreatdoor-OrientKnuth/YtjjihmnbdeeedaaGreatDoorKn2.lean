/- Parts of the proof. -/
import Derived.Test.YtjjihmnbdeeedaaGreatDoorKn1
import Derived.Deep.RegionHeld3
import Derived.WalkSmall
import Derived.Test.YtjjihmnbdeeedaaGreatDoorProg
import Derived.WalkKit
import Derived.RowKit3
import Derived.Below
import Derived.Deep.QuietTactic
import Derived.BigQuiet
import Derived.Lib.Strings
import Derived.Lib.Slices
import Derived.Lib.Small
import Derived.Lib.Walk
import Derived.Lib.BitFns
import Derived.Lib.TrailingZeros
import Derived.Laws.Bits64b
import Derived.Lib.ItoaNum
import Derived.Deep.Cut
import Derived.BigRegion
import Derived.Lib.SliceRun
set_option maxRecDepth 100000
set_option maxHeartbeats 40000000
set_option linter.unusedVariables false
set_option linter.unusedSimpArgs false
namespace Go.Proofs.YtjjihmnbdeeedaaGreatDoor
open Go Go.RowKit Go.Proofs.YtjjihmnbdeeedaaGreatDoor.M
def valV (ng:Bool) (mag:Nat) (exp:Int) (cut sd:Bool):Value:=.agg #[.bool ng,.int .u64 mag,.int .i64 exp,.bool cut,.bool sd]
theorem split_low (ng:Bool) (mag:Nat) (exp unit:Int) (cut sd:Bool) (w:World) (k:Nat) (hk:unit-exp=-(k:Int)) (hk2:k<20000000) (hm:mag*2^k<18446744073709551616) :
  Calls Tryz.prog 330 #[valV ng mag exp cut sd,.int .i64 unit] w fun e w'=>e=.returned (.tuple #[.int .u64 (mag*2^k:Nat),.int .i64 0])∧Below w.heap.size w w':=by
 have h0:IntKind.i64.wrap (unit-exp)=-(k:Int):=by rw [wrap_i64_eq]; omega
 unfold valV
 go_enter Tryz.func330,Tryz.ntmps330
 have hw:IntKind.u64.wrap ((mag:Int)*2^min k 64)=((mag*2^k:Nat):Int):=by
  rw [IntKind.wrap_u64]
  by_cases h:k<=64
  ·rw [show min k 64=k by omega]
   have e:(mag:Int)*2^k=((mag*2^k:Nat):Int):=by push_cast; rfl
   rw [e]
   omega
  ·have hz:mag=0:=by
    rcases Nat.eq_zero_or_pos mag with h0 | h0
    ·exact h0
    ·have h1:2^64<=2^k:=Nat.pow_le_pow_right (by decide) (by omega)
     have h2:1*2^k<=mag*2^k:=Nat.mul_le_mul_right _ h0
     have h3:(2:Nat)^64=18446744073709551616:=by decide
     omega
   subst hz
   simp
 generalize ((mag*2^k:Nat):Int)=R at hw ⊢
 go_wp2
 refine bodyPost_ret (v:=.tuple #[.int .u64 R,.int .i64 0]) (by simp [results,Tryz.results330,go_sem]) rfl ⟨rfl,bel_alloc _ _⟩
theorem ret_ui {a b c d:Int} (h1:a=c) (h2:b=d):Ending.returned (.tuple #[.int .u64 a,.int .i64 b])=Ending.returned (.tuple #[.int .u64 c,.int .i64 d]):=by rw [h1,h2]
theorem rL_eq {mag k t m:Nat} {cut:Bool} (hk0:0<k) (hm:mag<18446744073709551616) (ht:mag % 2^k=t) (hmid:(if k<=64 then 2^(k-1) else 0)=m):rL mag cut (k:Int)=if t=0∧cut=false then 0 else if t<m∨64<k then 1 else if t=m∧cut=false then 2 else 3:=by
 unfold rL
 rw [if_neg (by omega),Int.toNat_natCast,ht]
 obtain ⟨p,hp,hp0⟩:=two_half k hk0
 have hp2:2^(k-1)=p:=by
  have:2^k=2*2^(k-1):=by rw [<- Nat.pow_succ',Nat.succ_eq_add_one,Nat.sub_add_cancel hk0]
  omega
 rw [hp]
 by_cases hk:k<=64
 ·rw [if_pos hk,hp2] at hmid
  subst hmid
  have e1:(2*t<2*p)=(t<p∨64<k):=propext ⟨fun h=>.inl (by omega),fun h=>by omega⟩
  have e2:(2*t=2*p∧cut=false)=(t=p∧cut=false):=propext ⟨fun h=>⟨by omega,h.2⟩,fun h=>⟨by omega,h.2⟩⟩
  simp only [e1,e2]
 ·have hlt:2*t<2*p:=by
   have h1:2^65<=2^k:=Nat.pow_le_pow_right (by decide) (by omega)
   have h2:(2:Nat)^65=36893488147419103232:=by decide
   have h3:=Nat.mod_le mag (2^k)
   omega
  rw [if_pos hlt,if_pos (show t<m∨64<k from .inr (by omega))]
theorem split_high (ng:Bool) (mag:Nat) (exp unit:Int) (cut sd:Bool) (w:World) (k:Nat) (hk:unit-exp=(k:Int)) (hk0:0<k) (hk2:k<20000000) (hm:mag<18446744073709551616) :
  Calls Tryz.prog 330 #[valV ng mag exp cut sd,.int .i64 unit] w fun e w'=>e=.returned (.tuple #[.int .u64 (mag/2^k:Nat),.int .i64 (rL mag cut (k:Int))])∧Below w.heap.size w w':=by
 have h0:IntKind.i64.wrap (unit-exp)=(k:Int):=by rw [wrap_i64_eq]; omega
 unfold valV
 obtain ⟨u,hu⟩:∃ u,mag/2^k=u:=⟨_,rfl⟩
 obtain ⟨t,ht⟩:∃ t,mag % 2^k=t:=⟨_,rfl⟩
 obtain ⟨m,hmid⟩:∃ m:Nat,(if k<=64 then 2^(k-1) else 0)=m:=⟨_,rfl⟩
 have hd:=Nat.div_add_mod mag (2^k)
 rw [hu,ht] at hd
 have hpc:∀ n:Nat,(2:Int)^n=((2^n:Nat):Int):=fun n=>by simp
 have hbig:64<k->u=0∧mag/2^64=0:=fun h=>by
  have h1:2^64<=2^k:=Nat.pow_le_pow_right (by decide) (by omega)
  have h2:(2:Nat)^64=18446744073709551616:=by decide
  exact ⟨by rw [<- hu]; exact Nat.div_eq_of_lt (by omega),Nat.div_eq_of_lt (by omega)⟩
 have r1:(mag:Int)/2^min k 64=(u:Int):=by
  rw [hpc,<- Int.natCast_ediv]
  by_cases h:k<=64
  ·rw [show min k 64=k by omega,hu]
  ·obtain ⟨h1,h2⟩:=hbig (by omega)
   rw [show min k 64=64 by omega,h1,h2]
 have r2:IntKind.u64.wrap ((u:Int)*2^min k 64)=(u:Int)*2^k:=by
  rw [IntKind.wrap_u64]
  by_cases h:k<=64
  ·rw [show min k 64=k by omega,hpc,<- Int.natCast_mul]
   have:u*2^k<=mag:=by rw [Nat.mul_comm]; omega
   omega
  ·obtain ⟨h1,_⟩:=hbig (by omega)
   rw [h1]
   simp
 have r3:IntKind.u64.wrap ((mag:Int)-(u:Int)*2^k)=(t:Int):=by
  rw [IntKind.wrap_u64,hpc,<- Int.natCast_mul,Nat.mul_comm]
  have:t<=mag:=by omega
  omega
 have r4:IntKind.i64.wrap ((k:Int)-1)=((k-1:Nat):Int):=by rw [wrap_i64_eq]; omega
 have r5:IntKind.u64.wrap ((2:Int)^min (k-1) 64)=(m:Int):=by
  rw [IntKind.wrap_u64,<- hmid]
  by_cases h:k<=64
  ·rw [if_pos h,show min (k-1) 64=k-1 by omega,hpc]
   have h1:2^(k-1)<=2^63:=Nat.pow_le_pow_right (by decide) (by omega)
   have h2:(2:Nat)^63=9223372036854775808:=by decide
   rw [h2] at h1
   generalize 2^(k-1)=p at h1 ⊢
   omega
  ·rw [if_neg h,show min (k-1) 64=64 by omega]
   decide
 have HRL:Hid (rL mag cut (k:Int)=if t=0∧cut=false then 0 else if t<m∨64<k then 1 else if t=m∧cut=false then 2 else 3):=rL_eq hk0 hm ht hmid
 rw [hu]
 clear hd hpc hbig hmid ht hu
 have HW:Hid (IntKind.i64.wrap (unit-exp)=(k:Int)):=h0
 have g0:=heap_alloc_new w (.cells #[.bool ng,.int .u64 mag,.int .i64 exp,.bool cut,.bool sd] 264)
 have k1:=blkC g0 1 rfl
 go_enter Tryz.func330,Tryz.ntmps330
 go_wp2
 go_region_held3 (fun W=>W.cell? ⟨w.heap.size,1,none⟩=some (.int .u64 mag))
  (first | assumption | exact k1)
  (fail)
 all_goals go_wp2
 all_goals go_ret2
 all_goals exact ⟨ret_ui rfl (by rw [HRL.out]; clear HRL; cases cut <;> simp at * <;> (repeat' split) <;> omega),by first | exact (bel_alloc _ _).drew | exact bel_alloc _ _⟩
theorem split_any (ng:Bool) (mag:Nat) (exp unit:Int) (cut sd:Bool) (w:World) (hm:mag<18446744073709551616) (hu:-5000000<=unit∧unit<=5000000) (he:-5000000<=exp∧exp<=5000000) (hs:unit-exp<=0->rU mag (unit-exp)<18446744073709551616) :
  Calls Tryz.prog 330 #[valV ng mag exp cut sd,.int .i64 unit] w fun e w'=>e=.returned (.tuple #[.int .u64 (rU mag (unit-exp):Nat),.int .i64 (rL mag cut (unit-exp))])∧Below w.heap.size w w':=by
 by_cases h:unit-exp<=0
 ·have:=hs h
  unfold rU rL at *
  rw [if_pos h] at *
  rw [if_pos h]
  exact split_low ng mag exp unit cut sd w (-(unit-exp)).toNat (by omega) (by omega) this
 ·have e:unit-exp=((unit-exp).toNat:Int):=by omega
  have e1:rU mag (unit-exp)=mag/2^(unit-exp).toNat:=by unfold rU; rw [if_neg h]
  rw [e1,e]
  exact split_high ng mag exp unit cut sd w (unit-exp).toNat e (by omega) (by omega) hm
theorem wraise_any (way:Int) (hw:0<=way∧way<=3) (ng odd:Bool) (left:Int) (w:World):Calls Tryz.prog (wayF way) #[.bool ng,.bool odd,.int .i64 left] w fun e w'=>e=.returned (.bool (rUp way ng odd left))∧w'=w:=by
 have hc:way=0∨way=1∨way=2∨way=3:=by omega
 rcases hc with rfl | rfl | rfl | rfl
 ·exact raise1 ng odd left w
 ·exact raise2 ng odd left w
 ·exact raise3 ng odd left w
 ·exact raise4 ng odd left w
theorem wraise_enter (way:Int) (cap:Array Value) (w:World):(callFunc (wayF way) cap).run Tryz.prog w=.ok (.enter (wayF way) cap) w:=by
 unfold wayF
 by_cases h0:way=0
 ·rw [if_pos h0]; simp [go_sem]
 ·rw [if_neg h0]
  by_cases h1:way=1
  ·rw [if_pos h1]; simp [go_sem]
  ·rw [if_neg h1]
   by_cases h2:way=2
   ·rw [if_pos h2]; simp [go_sem]
   ·rw [if_neg h2]; simp [go_sem]
theorem units_F (F:Nat) (R:Bool->Bool->Int->Bool) (ng:Bool) (mag:Nat) (exp unit:Int) (cut sd:Bool) (u:Nat) (left:Int) (w:World) (hE:∀ (cap:Array Value) (w:World),(callFunc F cap).run Tryz.prog w=.ok (.enter F cap) w)
  (hF:∀ ng odd left W,Calls Tryz.prog F #[.bool ng,.bool odd,.int .i64 left] W fun e w'=>e=.returned (.bool (R ng odd left))∧w'=W) (hu:u<18446744073709551615)
  (hS:∀ W,Calls Tryz.prog 330 #[valV ng mag exp cut sd,.int .i64 unit] W fun e w'=>e=.returned (.tuple #[.int .u64 (u:Nat),.int .i64 left])∧Below W.heap.size W w') :
  Calls Tryz.prog 324 #[valV ng mag exp cut sd,.int .i64 unit,.agg #[.func (.func F) #[] #[]]] w fun e w'=>e=.returned (.tuple #[.int .u64 (u+(if R ng (decide (u % 2=1)) left then 1 else 0):Nat),.bool (decide (left≠0))])∧Below w.heap.size w w':=by
 unfold valV at *
 have hb2:=bel_alloc2 w (.cells #[.bool ng,.int .u64 mag,.int .i64 exp,.bool cut,.bool sd] 264) (.cells #[.func (.func F) #[] #[]] 282)
 have q0:=heap_a2 w (.cells #[.bool ng,.int .u64 mag,.int .i64 exp,.bool cut,.bool sd] 264) (.cells #[.func (.func F) #[] #[]] 282)
 have q1:=heap_b2 w (.cells #[.bool ng,.int .u64 mag,.int .i64 exp,.bool cut,.bool sd] 264) (.cells #[.func (.func F) #[] #[]] 282)
 obtain ⟨odd,ho⟩:∃ odd,decide (u % 2=1)=odd:=⟨_,rfl⟩
 have hodd:(bits BinOp.and IntKind.u64 (u:Int) 1 == 1)=odd:=by
  rw [and_one_u64 _ (by omega) (by omega),<- ho]
  by_cases h:u % 2=1
  ·rw [decide_eq_true h]; simp; omega
  ·rw [decide_eq_false h]; simp; omega
 rw [ho]
 clear ho
 have hw1:IntKind.u64.wrap ((u:Int)+1)=((u+1:Nat):Int):=by rw [IntKind.wrap_u64]; omega
 go_enter Tryz.func324,Tryz.ntmps324
 go_wp2_with fail
 refine (hS _).mono ?_
 rintro _ w1 ⟨rfl,hb1⟩
 have hbw:=bel_trans hb2 hb1
 have p0:=(hb1.block _ (Array.getElem?_eq_some_iff.1 q0).1).trans q0
 have p1:=(hb1.block _ (Array.getElem?_eq_some_iff.1 q1).1).trans q1
 have k0:=blkC p0 0 rfl
 have k1:=blkC p1 0 rfl
 clear hS q0 q1 hb1 hb2
 go_wp2_with fail
 refine (hF ng odd left _).mono ?_
 rintro _ _ ⟨rfl,rfl⟩
 cases hR:R ng odd left
 ·have HR:Hid (R ng odd left=false):=hR
  by_cases hl:left=0
  ·go_wp2
   all_goals go_ret2
   all_goals exact ⟨by simp_all,hbw⟩
  ·go_wp2
   all_goals go_ret2
   all_goals exact ⟨by simp_all,hbw⟩
 ·have HR:Hid (R ng odd left=true):=hR
  by_cases hl:left=0
  ·go_wp2
   all_goals go_ret2
   all_goals exact ⟨by simp_all,hbw⟩
  ·go_wp2
   all_goals go_ret2
   all_goals exact ⟨by simp_all,hbw⟩
theorem units_any (way:Int) (hw:0<=way∧way<=3) (ng:Bool) (mag:Nat) (exp unit:Int) (cut sd:Bool) (w:World) (hm:mag<18446744073709551616) (hu:-5000000<=unit∧unit<=5000000) (he:-5000000<=exp∧exp<=5000000) (hs:rU mag (unit-exp)<18446744073709551615) :
  Calls Tryz.prog 324 #[valV ng mag exp cut sd,.int .i64 unit,wayV way] w fun e w'=>e=.returned (.tuple #[.int .u64 (rU mag (unit-exp)+(if rUp way ng (decide (rU mag (unit-exp) % 2=1)) (rL mag cut (unit-exp)) then 1 else 0):Nat),.bool (decide (rL mag cut (unit-exp)≠0))])∧Below w.heap.size w w' :=
 units_F (wayF way) (rUp way) ng mag exp unit cut sd _ _ w (wraise_enter way) (wraise_any way hw) hs (fun W=>split_any ng mag exp unit cut sd W hm hu he (fun _=>by omega))
structure Lays (w:World):Prop where
 a0:w.cell? ⟨1,0,none⟩=some (.int .i64 52)
 a1:w.cell? ⟨1,1,none⟩=some (.int .i64 2047)
 a2:w.cell? ⟨1,2,none⟩=some (.int .i64 (-1074))
 b0:True
 b1:True
 b2:True
structure Gr (W w':World):Prop where
 gr:Grown W w'
 be:Below W.heap.size W w'
theorem Gr.refl (W:World):Gr W W:=⟨Grown.refl _,Below.refl _ _⟩
theorem Gr.alloc {W w':World} (h:Gr W w') (c:Array Value) (t:TypeId):Gr W (w'.alloc (.cells c t)):=⟨h.gr.alloc c t,h.be.alloc h.be.size _⟩
theorem Gr.drew {W w':World} (h:Gr W w'):Gr W w'.drew:=⟨h.gr.drew,⟨h.be.os,h.be.tape,h.be.output,h.be.size,h.be.block⟩⟩
theorem gDrewN {W w':World} (h:Gr W w') (n:Nat):Gr W (w'.drewN n):=⟨h.gr,⟨h.be.os,h.be.tape,h.be.output,h.be.size,h.be.block⟩⟩
theorem gCell {a b:World} (h:Gr a b) {p:Addr} {v:Value} (hc:a.cell? p=some v):b.cell? p=some v:=by
 unfold World.cell? at hc ⊢
 have hlt:p.block<a.heap.size:=by
  by_cases hp:p.block<a.heap.size
  ·exact hp
  ·rw [Array.getElem?_eq_none (by omega)] at hc; simp at hc
 have k:=h.gr.1.2.2 p.block hlt
 cases ha:a.heap[p.block]? with
 | none=>rw [ha] at hc; simp at hc
 | some oa=>
  rw [ha] at hc k
  cases oa with
  | cells c t fr=>
   cases hb:b.heap[p.block]? with
   | none=>rw [hb] at k; simp at k
   | some ob=>
    rw [hb] at k
    cases ob with
    | cells c' t' fr'=>
     simp only at hc k ⊢
     obtain ⟨_,_,_,kc⟩:=k
     rw [kc p.off (fun f=>f)]
     exact hc
    | _=>simp at k
  | _=>simp at hc
theorem Lays.grown {w w':World} (h:Lays w) (g:Gr w w'):Lays w' :=
 ⟨gCell g h.a0,gCell g h.a1,gCell g h.a2,trivial,trivial,trivial⟩
theorem b_ret_int {k:IntKind} {a b:Int} (h:a=b):Ending.returned (.int k a)=.returned (.int k b):=by rw [h]
theorem b_ret_bool {a b:Bool} (h:a=b):Ending.returned (.bool a)=.returned (.bool b):=by rw [h]
theorem ret_ttt {a a' b b':Int} {c c':Bool} (h:a=a') (k:b=b') (l:c=c'):Ending.returned (.tuple #[.int .i64 a,.int .i64 b,.bool c])=.returned (.tuple #[.int .i64 a',.int .i64 b',.bool c']):=by rw [h,k,l]
theorem split64 (b:Int) (w:World) :
  Calls Tryz.prog 292 #[.agg #[.int .i64 52,.int .i64 2047,.int .i64 (-1074)],.int .i64 b] w fun e w'=>e=.returned (.tuple #[.int .i64 (fld b),.int .i64 (frc b)])∧∃ n,w'=(w.alloc (.cells #[.int .i64 52,.int .i64 2047,.int .i64 (-1074)] 255)).drewN n:=by
 have h1:bits .and .i64 (b/4503599627370496) 2047=fld b:=and_i64_2047 _
 have h2:bits .and .i64 b 4503599627370495=frc b:=and_i64_m52 _
 go_enter Tryz.func292,Tryz.ntmps292
 go_wp2
 go_quiet (fail)
 go_wp2
 go_ret2
 exact ⟨rfl,_,rfl⟩
theorem class64 (b:Int) (w:World) :
    Calls Tryz.prog 306 #[.agg #[.int .i64 52,.int .i64 2047,.int .i64 (-1074)],.int .i64 b] w fun e w'=>e=.returned (.int .i64 (cls b))∧Gr w w':=by
  by_cases h1:fld b=2047 <;> by_cases h2:frc b=0 <;> by_cases h3:fld b=0
  all_goals first
    | (exfalso; omega)
    | (go_enter Tryz.func306,Tryz.ntmps306
       go_wp2_with (go_at_call 292; refine (split64 _ _).mono ?_; rintro e w1 ⟨rfl,n,rfl⟩)
       go_ret
       exact ⟨b_ret_int (by simp [cls,h1,h2,h3]),gDrewN (((Gr.refl _).alloc _ _).alloc _ _) _⟩)
theorem parts64 (b:Int) (w:World) :
  Calls Tryz.prog 250 #[.agg #[.int .i64 52,.int .i64 2047,.int .i64 (-1074)],.int .i64 b] w fun e w'=>e=.returned (.tuple #[.int .i64 (pmag b),.int .i64 (pexp b),.bool (pok b)])∧Gr w w':=by
 have hf:=fld_le b
 have hr:=frc_le b
 by_cases h1:fld b=2047
 ·go_enter Tryz.func250,Tryz.ntmps250
  go_wp2_with (go_at_call 292; refine (split64 _ _).mono ?_; rintro e w1 ⟨rfl,n,rfl⟩)
  go_ret3
  exact ⟨ret_ttt (by simp [pmag,h1]) (by simp [pexp,h1]) (by simp [pok,h1]),gDrewN (((Gr.refl _).alloc _ _).alloc _ _) _⟩
 ·by_cases h2:fld b=0
  ·go_enter Tryz.func250,Tryz.ntmps250
   go_wp2_with (go_at_call 292; refine (split64 _ _).mono ?_; rintro e w1 ⟨rfl,n,rfl⟩)
   go_quiet (fail)
   go_wp2
   go_ret3
   exact ⟨ret_ttt (by simp [pmag,h1,h2]) (by simp [pexp,h1,h2]) (by simp [pok,h1]),gDrewN (gDrewN (((Gr.refl _).alloc _ _).alloc _ _) _) _⟩
  ·go_enter Tryz.func250,Tryz.ntmps250
   go_wp2_with (go_at_call 292; refine (split64 _ _).mono ?_; rintro e w1 ⟨rfl,n,rfl⟩)
   go_quiet (fail)
   go_wp2
   go_ret3
   exact ⟨ret_ttt (by simp [pmag,h1,h2]) (by simp [pexp,h1,h2]; omega) (by simp [pok,h1]),gDrewN (gDrewN (((Gr.refl _).alloc _ _).alloc _ _) _) _⟩
theorem ret_ib {a a':Int} {c c':Bool} (h:a=a') (l:c=c'):Ending.returned (.tuple #[.int .i64 a,.bool c])=.returned (.tuple #[.int .i64 a',.bool c']):=by rw [h,l]
def b_Tab (w:World):Prop:=∀ j,j<64->w.cell? ⟨3,j,none⟩=some (.int .u8 ((Lib.deBruijn64tab.getD j 0:Nat):Int))
theorem b_Tab.grown {w w':World} (h:b_Tab w) (g:Gr w w'):b_Tab w':=fun j hj=>gCell g (h j hj)
theorem b_tz_key (x a:Nat) (hx:x<18446744073709551616) (hx0:x≠0) (hlow:x &&& (18446744073709551616-x)=a) :
  IntKind.u64.wrap (bits .and .u64 (x:Int) (IntKind.u64.wrap (-(x:Int)))*285870213051353865)/288230376151711744=((a*285870213051353865 % 18446744073709551616/288230376151711744:Nat):Int):=by
 have e1:IntKind.u64.wrap (-(x:Int))=((18446744073709551616-x:Nat):Int):=by rw [IntKind.wrap_u64]; omega
 rw [e1,bits_and_u64_nat x _ hx (by omega),hlow,IntKind.wrap_u64]
 omega
theorem b_tz_core (x k idx:Nat) (w:World) (hx0:((x:Int) == 0)=false)
  (key:IntKind.u64.wrap (bits .and .u64 (x:Int) (IntKind.u64.wrap (-(x:Int)))*285870213051353865)/288230376151711744=(idx:Int))
  (hi:idx<64) (hk:k<64) (hcell:w.cell? ⟨3,idx,none⟩=some (.int .u8 k)) :
  Calls Tryz.prog 286 #[.int .u64 x] w fun e w'=>e=.returned (.int .i64 k)∧w'=w:=by
 go_enter Tryz.func286,Tryz.ntmps286
 go_wp2_with (simp only [key])
 go_ret
 exact ⟨rfl,rfl⟩
theorem b_trailing (x:Nat) (hx:x<18446744073709551616) (h0:x≠0) (w:World) (hT:b_Tab w) :
  Calls Tryz.prog 286 #[.int .u64 x] w fun e w'=>e=.returned (.int .i64 (Lib.ctz 64 x))∧w'=w:=by
 obtain ⟨hlow,hk⟩:=Lib.lowest_bit 64 x h0 hx
 obtain ⟨hi,htab⟩:=Lib.deBruijn64_at _ hk
 have hcell:=hT _ hi
 rw [htab] at hcell
 exact b_tz_core x _ _ w (by simp; omega) (b_tz_key x _ hx h0 hlow) hi hk hcell
theorem b_len_close (x q:Int) (s:Nat) (h:q.toNat<Lib.len8tab.size) (hq0:0<=q) (hq:q<=255) (hs:s<=56) (hb:Lib.bitLen x.toNat=s+Lib.bitLen q.toNat) :
  wrap64 ((s:Int)+wrap64 ((Lib.len8tab[q.toNat]'h).toNat:Int))=(Lib.bitLen x.toNat:Int):=by
 have e:=Lib.len8_of q hq0 hq
 have l:=Lib.bitLen_le8' q hq0 hq
 unfold Lib.len8 at e
 rw [getElem?_pos Lib.len8tab q.toNat h] at e
 simp only [Option.getD_some] at e
 rw [e,hb]
 unfold wrap64
 omega
theorem b_len_close0 (x:Int) (h:x.toNat<Lib.len8tab.size) (hq0:0<=x) (hq:x<=255) :
  wrap64 (wrap64 ((Lib.len8tab[x.toNat]'h).toNat:Int))=(Lib.bitLen x.toNat:Int):=by
 have:=b_len_close x x 0 h hq0 hq (by omega) (by omega)
 simpa using this
theorem b_len_q (x q:Int) (s:Nat) (h0:0<=x) (h1:x<=18446744073709551615) (hx:((2^s:Nat):Int)<=x) (e:q=x/((2^s:Nat):Int)):Lib.bitLen x.toNat=s+Lib.bitLen q.toNat:=by
 rw [Lib.bitLen_shift s x.toNat (by omega) (by omega),e]
 congr 2
 obtain ⟨n,rfl⟩:=Int.eq_ofNat_of_zero_le h0
 rw [<- Int.natCast_ediv,Int.toNat_natCast,Int.toNat_natCast]
theorem b_len64 (x:Int) (w:World) (h0:0<=x) (h1:x<=18446744073709551615) :
  Calls Tryz.prog 288 #[.int .u64 x] w fun e w'=>e=.returned (.int .i64 (Lib.bitLen x.toNat))∧w'=w:=by
 have hs:Lib.len8tab.size=256:=by decide +kernel
 go_enter Tryz.func288,Tryz.ntmps288
 go_wp2
 all_goals go_ret
 ·exact ⟨b_ret_int (b_len_close x _ 56 _ (by omega) (by omega) (by omega) (b_len_q x _ 56 h0 h1 (by omega) (by omega))),rfl⟩
 ·exact ⟨b_ret_int (b_len_close x _ 48 _ (by omega) (by omega) (by omega) (b_len_q x _ 48 h0 h1 (by omega) (by omega))),rfl⟩
 ·exact ⟨b_ret_int (b_len_close x _ 40 _ (by omega) (by omega) (by omega) (b_len_q x _ 40 h0 h1 (by omega) (by omega))),rfl⟩
 ·exact ⟨b_ret_int (b_len_close x _ 32 _ (by omega) (by omega) (by omega) (b_len_q x _ 32 h0 h1 (by omega) (by omega))),rfl⟩
 ·exact ⟨b_ret_int (b_len_close x _ 24 _ (by omega) (by omega) (by omega) (b_len_q x _ 24 h0 h1 (by omega) (by omega))),rfl⟩
 ·exact ⟨b_ret_int (b_len_close x _ 16 _ (by omega) (by omega) (by omega) (b_len_q x _ 16 h0 h1 (by omega) (by omega))),rfl⟩
 ·exact ⟨b_ret_int (b_len_close x _ 8 _ (by omega) (by omega) (by omega) (b_len_q x _ 8 h0 h1 (by omega) (by omega))),rfl⟩
 ·exact ⟨b_ret_int (b_len_close0 x _ (by omega) (by omega)),rfl⟩
theorem b_len (x:Int) (w:World) (h0:0<=x) (h1:x<=18446744073709551615):Calls Tryz.prog 245 #[.int .u64 x] w fun e w'=>e=.returned (.int .i64 (Lib.bitLen x.toNat))∧w'=w:=by
 go_enter Tryz.func245,Tryz.ntmps245
 go_wp2_with (go_at_call 288; refine (b_len64 x _ h0 h1).mono ?_; rintro _ _ ⟨rfl,rfl⟩)
 go_ret
 exact ⟨rfl,rfl⟩
theorem float_F (F:Nat) (ng:Bool) (mag:Nat) (exp size least:Int) (cut sd:Bool) (U:Nat) (E:Int) (other:Bool) (w:World) (hm:mag<18446744073709551616) (he:-4500000<=exp∧exp<=4500000) (hs:0<=size∧size<=64) (hl:-2000<=least∧least<=0) (hE:rE size least mag exp=E) (hU:U<9223372036854775808)
  (hC:∀ W,Calls Tryz.prog 324 #[valV ng mag exp cut sd,.int .i64 E,.agg #[.func (.func F) #[] #[]]] W fun e w'=>e=.returned (.tuple #[.int .u64 (U:Nat),.bool other])∧Below W.heap.size W w') :
  Calls Tryz.prog 300 #[valV ng mag exp cut sd,.int .i64 size,.int .i64 least,.agg #[.func (.func F) #[] #[]]] w fun e w'=>e=.returned (.tuple #[.bool (ng && (decide (0<U) || sd)),.int .i64 (U:Nat),.int .i64 E,.bool other])∧Below w.heap.size w w':=by
 unfold valV at *
 have hb2:=bel_alloc2 w (.cells #[.bool ng,.int .u64 mag,.int .i64 exp,.bool cut,.bool sd] 264) (.cells #[.func (.func F) #[] #[]] 282)
 have q0:=heap_a2 w (.cells #[.bool ng,.int .u64 mag,.int .i64 exp,.bool cut,.bool sd] 264) (.cells #[.func (.func F) #[] #[]] 282)
 have q1:=heap_b2 w (.cells #[.bool ng,.int .u64 mag,.int .i64 exp,.bool cut,.bool sd] 264) (.cells #[.func (.func F) #[] #[]] 282)
 have k0:=blkC q0 0 rfl
 have k1:=blkC q0 1 rfl
 have k2:=blkC q0 2 rfl
 have k3:=blkC q0 3 rfl
 have k4:=blkC q0 4 rfl
 have kw:=blkC q1 0 rfl
 have hbl:Lib.bitLen mag<=64:=by
  by_cases h0:mag=0
  ·rw [h0]; decide
  ·have e64:(2:Nat)^64=18446744073709551616:=by decide
   exact (M.bitLen_spec mag (by omega) h0).2.2.2
 have HE:Hid (rE size least mag exp=E):=hE
 obtain ⟨L,hL⟩:∃ L:Int,(Lib.bitLen mag:Int)=L:=⟨_,rfl⟩
 have hEL:max (exp+L-size) least=E:=by rw [<- hL]; exact hE
 have hL2:(Lib.bitLen ((mag:Int)).toNat:Int)=L:=by rw [Int.toNat_natCast]; exact hL
 have hL0:0<=L∧L<=64:=by omega
 have w1:IntKind.i64.wrap (exp+L)=exp+L:=by rw [wrap_i64_eq]; omega
 have w2:IntKind.i64.wrap (exp+L-size)=exp+L-size:=by rw [wrap_i64_eq]; omega
 have wU:IntKind.i64.wrap (U:Int)=(U:Int):=by rw [wrap_i64_eq]; omega
 clear hE
 have hmax:∀ (ts:Array TypeId) (t:TypeId) (x y:Int) (w:World),(Builtin.max_ ts t #[.int .i64 x,.int .i64 y]).run Tryz.prog w=.ok (.int .i64 (max x y)) w:=fun ts t x y w=>by rw [run_max_int2]; congr 2; omega
 go_enter Tryz.func300,Tryz.ntmps300
 go_wp2_with fail
 generalize (w.alloc (.cells #[.bool ng,.int .u64 mag,.int .i64 exp,.bool cut,.bool sd] 264)).alloc (.cells #[.func (.func F) #[] #[]] 282)=wx at hb2 q0 q1 k0 k1 k2 k3 k4 kw ⊢
 go_region_held3 (fun W=>W.cell? ⟨w.heap.size,2,none⟩=some (.int .i64 exp)∧W.cell? ⟨w.heap.size,1,none⟩=some (.int .u64 mag))
  (first | assumption | exact ⟨k2,k1⟩)
  (first | (go_at_call 245; refine (b_len _ _ (by omega) (by omega)).mono ?_; rintro _ _ ⟨rfl,rfl⟩))
 all_goals
  go_wp2_with fail
  refine (hC _).mono ?_
  rintro _ w3 ⟨rfl,hb3⟩
  have hdr:Below wx.heap.size wx wx.drew:=(bel_refl wx).drew
  have hb3':=bel_trans hdr hb3
  have hbw:=bel_trans hb2 hb3'
  have p0:=(hb3'.block _ (Array.getElem?_eq_some_iff.1 q0).1).trans q0
  have j0:=blkC p0 0 rfl
  have j4:=blkC p0 4 rfl
  clear hC hb3 hb3' hdr q0 q1 k0 k1 k2 k3 k4 kw
  cases ng
  ·go_wp2
   all_goals refine bodyPost_ret (v:=.tuple #[.bool false,.int .i64 (U:Nat),.int .i64 E,.bool other]) (by simp [results,Tryz.results300,go_sem]) rfl ⟨by simp,hbw⟩
  ·by_cases hu0:U=0
   ·have hu1:¬ (0:Int)<(U:Int):=by omega
    have hd:decide (0<U)=false:=decide_eq_false (by omega)
    go_wp2
    all_goals refine bodyPost_ret (v:=.tuple #[.bool sd,.int .i64 (U:Nat),.int .i64 E,.bool other]) (by simp [results,Tryz.results300,go_sem,hu0]) rfl ⟨by simp [hd],hbw⟩
   ·have hu1:(0:Int)<(U:Int):=by omega
    have hd:decide (0<U)=true:=decide_eq_true (by omega)
    go_wp2
    all_goals refine bodyPost_ret (v:=.tuple #[.bool true,.int .i64 (U:Nat),.int .i64 E,.bool other]) (by simp [results,Tryz.results300,go_sem]) rfl ⟨by simp [hd],hbw⟩
theorem keepIt {p:Prop} (h:p):Hid p:=h
theorem trailingI (mag:Int) (h0:0<mag) (h:mag<9223372036854775808) (w:World) (hT:b_Tab w) :
  Calls Tryz.prog 286 #[.int .u64 mag] w fun e w'=>e=.returned (.int .i64 (jz mag))∧w'=w:=by
 obtain ⟨n,rfl⟩:=Int.eq_ofNat_of_zero_le (Int.le_of_lt h0)
 exact b_trailing n (by omega) (by omega) w hT
theorem len64J (mag:Int) (w:World) (h0:1<=jo mag) (h1:jo mag<=mag) (h:mag<9223372036854775808) :
  Calls Tryz.prog 288 #[.int .u64 (jo mag)] w fun e w'=>e=.returned (.int .i64 (jl mag))∧w'=w :=
 b_len64 (jo mag) w (by omega) (by omega)
theorem far64 (exp:Int) (w:World) (h:rng exp) :
  Calls Tryz.prog 331 #[.agg #[.int .i64 52,.int .i64 2047,.int .i64 (-1074)],.int .i64 exp] w fun e w'=>e=.returned (.bool (decide (1025<exp)))∧w'=w.alloc (.cells #[.int .i64 52,.int .i64 2047,.int .i64 (-1074)] 255):=by
 unfold rng at h
 go_enter Tryz.func331,Tryz.ntmps331
 go_wp2
 go_ret
 exact ⟨rfl,rfl⟩
theorem join64 (mag exp:Int) (w:World) (hT:b_Tab w) (hm:rng mag) (he:rng exp) :
  Calls Tryz.prog 325 #[.agg #[.int .i64 52,.int .i64 2047,.int .i64 (-1074)],.int .i64 mag,.int .i64 exp] w fun e w'=>e=.returned (.tuple #[.int .i64 (jv 52 2047 (-1074) mag exp),.bool (jk 52 2047 (-1074) mag exp)])∧Gr w w':=by
 have he0:=he
 unfold rng at hm he
 rcases Int.lt_trichotomy mag 0 with h | h | h
 ·have hn:(mag == 0)=false:=by simp; omega
  go_enter Tryz.func325,Tryz.ntmps325
  go_wp2
  go_ret2
  exact ⟨ret_ib (by simp [jv]; omega) (by simp [jk]; omega),(Gr.refl _).alloc _ _⟩
 ·subst h
  go_enter Tryz.func325,Tryz.ntmps325
  go_wp2
  go_ret2
  exact ⟨ret_ib (by simp [jv]) (by simp [jk]),(Gr.refl _).alloc _ _⟩
 ·have hn:(mag == 0)=false:=by simp; omega
  have hz:=jz_spec h hm.2
  by_cases hf:1025<exp
  ·have hk:=keepIt (jgood_far h hm.2 hf)
   go_enter Tryz.func325,Tryz.ntmps325
   go_wp2_with (go_at_call 331; refine (far64 _ _ he0).mono ?_; rintro e w1 ⟨rfl,rfl⟩)
   go_ret2
   exact ⟨ret_ib (by simp [jv,hk.out]) (by simp [jk,hk.out]; omega),((Gr.refl _).alloc _ _).alloc _ _⟩
  ·obtain ⟨m,-,hz63,-⟩:=hz
   have hj:=jo_le h hm.2
   have hL:=jl_le h hm.2
   have eo:mag/2^jz mag=jo mag:=rfl
   by_cases s1:53-jl mag<0
   ·have hk:Hid (jgood 52 2047 (-1074) mag exp=false):=by unfold Hid jgood jsp; simp; omega
    go_enter Tryz.func325,Tryz.ntmps325
    go_wp2_with (go_at_call 331; refine (far64 _ _ he0).mono ?_; rintro e w1 ⟨rfl,rfl⟩)
    refine (trailingI mag h hm.2 _ (hT.grown (((Gr.refl _).alloc _ _).alloc _ _))).mono ?_
    rintro e w1 ⟨rfl,rfl⟩
    go_wp2
    go_quiet ((go_at_call 288; exact Calls.quiet_of_same (len64J _ _ hj.1 hj.2 hm.2)))
    go_wp2
    go_ret2
    exact ⟨ret_ib (by simp [jv,hk.out]) (by simp [jk,hk.out]; omega),gDrewN (((Gr.refl _).alloc _ _).alloc _ _) _⟩
   ·by_cases s2:exp+jz mag < -1074
    ·have hk:Hid (jgood 52 2047 (-1074) mag exp=false):=by unfold Hid jgood jsp; simp; omega
     go_enter Tryz.func325,Tryz.ntmps325
     go_wp2_with (go_at_call 331; refine (far64 _ _ he0).mono ?_; rintro e w1 ⟨rfl,rfl⟩)
     refine (trailingI mag h hm.2 _ (hT.grown (((Gr.refl _).alloc _ _).alloc _ _))).mono ?_
     rintro e w1 ⟨rfl,rfl⟩
     go_wp2
     go_quiet ((go_at_call 288; exact Calls.quiet_of_same (len64J _ _ hj.1 hj.2 hm.2)))
     go_wp2
     go_ret2
     exact ⟨ret_ib (by simp [jv,hk.out]) (by simp [jk,hk.out]; omega),gDrewN (((Gr.refl _).alloc _ _).alloc _ _) _⟩
    ·obtain ⟨s,hs⟩:∃ s:Nat,min (53-jl mag) (exp+↑(jz mag)+1074)=(s:Int):=⟨(min (53-jl mag) (exp+↑(jz mag)+1074)).toNat,by omega⟩
     have hsl:(s:Int)<=52:=by omega
     have hsj:Hid (jsh 52 (-1074) mag exp=s):=by unfold Hid jsh jsp; omega
     by_cases s3:2045<exp+↑(jz mag) - ↑s+1074
     ·have hk:Hid (jgood 52 2047 (-1074) mag exp=false):=by unfold Hid jgood jab; rw [hsj.out]; simp; omega
      go_enter Tryz.func325,Tryz.ntmps325
      go_wp2_with (go_at_call 331; refine (far64 _ _ he0).mono ?_; rintro e w1 ⟨rfl,rfl⟩)
      refine (trailingI mag h hm.2 _ (hT.grown (((Gr.refl _).alloc _ _).alloc _ _))).mono ?_
      rintro e w1 ⟨rfl,rfl⟩
      go_wp2
      go_quiet ((go_at_call 288; exact Calls.quiet_of_same (len64J _ _ hj.1 hj.2 hm.2)))
      go_wp2
      go_ret2
      exact ⟨ret_ib (by simp [jv,hk.out]) (by simp [jk,hk.out]; omega),gDrewN (((Gr.refl _).alloc _ _).alloc _ _) _⟩
     ·have hk:Hid (jgood 52 2047 (-1074) mag exp=true):=by unfold Hid jgood jab jsp; rw [hsj.out]; simp; omega
      have hb:=jshift_lt (fr:=52) h hm.2 (by omega) s (by unfold jsp; omega)
      have hb2:jo mag*2^s<9007199254740992:=hb.2
      have hb1:=hb.1
      clear hb
      go_enter Tryz.func325,Tryz.ntmps325
      go_wp2_with (go_at_call 331; refine (far64 _ _ he0).mono ?_; rintro e w1 ⟨rfl,rfl⟩)
      refine (trailingI mag h hm.2 _ (hT.grown (((Gr.refl _).alloc _ _).alloc _ _))).mono ?_
      rintro e w1 ⟨rfl,rfl⟩
      go_wp2
      go_quiet ((go_at_call 288; exact Calls.quiet_of_same (len64J _ _ hj.1 hj.2 hm.2)))
      go_wp2
      go_quiet (fail)
      go_wp2
      go_ret2
      refine ⟨ret_ib ?_ (by simp [jk,hk.out]; omega),gDrewN (gDrewN (((Gr.refl _).alloc _ _).alloc _ _) _) _⟩
      unfold jv jab
      rw [if_neg (by omega),if_pos hk.out,hsj.out]
      rfl
structure Env (w:World):Prop where
 lays:Lays w
 tab:b_Tab w
theorem Env.grown {w w':World} (h:Env w) (g:Gr w w'):Env w':=⟨h.lays.grown g,h.tab.grown g⟩
theorem bitsJoin (neg:Bool) (mag exp:Int) (w:World) (E:Env w) (hm:rng mag) (he:rng exp) :
  Calls Tryz.prog 301 #[.bool neg,.int .i64 mag,.int .i64 exp] w fun e w'=>e=.returned (.tuple #[.int .i64 (jp neg mag exp),.bool (jk 52 2047 (-1074) mag exp)])∧Gr w w':=by
 have hT:=E.tab
 obtain ⟨a0,a1,a2,b0,b1,b2⟩:=E.lays
 have hb:=jv_le (mag:=mag) (exp:=exp) hm
 have ho:=or_i64_sign (jv 52 2047 (-1074) mag exp) (by omega) (by omega)
 have Ho:=keepIt ho
 clear ho
 cases hk:jk 52 2047 (-1074) mag exp
 all_goals
  have HK:=keepIt hk
  cases neg
  all_goals
   go_enter Tryz.func301,Tryz.ntmps301
   go_wp2_with (go_at_call 325; refine (join64 _ _ _ hT hm he).mono ?_; rintro e w1 ⟨rfl,hg⟩)
   go_ret2
   exact ⟨ret_ib (by simp [jp,HK.out,Ho.out]) (by simp [HK.out]),hg⟩
end Go.Proofs.YtjjihmnbdeeedaaGreatDoor
namespace Go.Proofs.YtjjihmnbdeeedaaGreatDoor.M
open Go
theorem dig_mul {x y:Int} (hx:0<=x∧x<1073741824) (hy:0<=y∧y<1073741824):0<=x*y∧x*y<=1152921502459363329:=by
 refine ⟨Int.mul_nonneg hx.1 hy.1,?_⟩
 have h1:x*y<=1073741823*y:=Int.mul_le_mul_of_nonneg_right (by omega) hy.1
 omega
theorem zero_dig (n:Nat):Dig (fun _=>0) n:=fun i _=>⟨Int.le_refl 0,show (0:Int)<1073741824 by decide⟩
theorem mod_dig (x:Int):0<=x % 1073741824∧x % 1073741824<1073741824:=by omega
theorem sum_step {r:Nat->Int} {k:Nat} {c x V:Int} (h:val r k+c*P k=V):val (upd r k ((c+x) % 1073741824)) (k+1)+(c+x)/1073741824*P (k+1)=V+x*P k:=by
 rw [val_succ,val_upd_ge r _ (Nat.le_refl k),upd_same,P_succ,carry_step,h]
theorem mul_step {r r0 b:Nat->Int} {i j:Nat} {c ai:Int} (h:val r (i+j)+c*P (i+j)=val r0 (i+j)+ai*val b j*P i) (hr:r (i+j)=r0 (i+j)) :
  val (upd r (i+j) ((c+(ai*b j+r (i+j))) % 1073741824)) (i+(j+1))+(c+(ai*b j+r (i+j)))/1073741824*P (i+(j+1))=val r0 (i+(j+1))+ai*val b (j+1)*P i:=by
 have e:=sum_step (x:=ai*b j+r (i+j)) h
 rw [<- Nat.add_assoc,e,val_succ,val_succ,P_add,hr]
 grind
theorem mul_row {r r0 b:Nat->Int} {i m:Nat} {c ai A:Int} (h:val r (i+m)+c*P (i+m)=val r0 (i+m)+ai*val b m*P i) (h0:val r0 (i+m)=A*val b m) :
  val (upd r (i+m) c) (i+1+m)=(A+ai*P i)*val b m:=by
 rw [show i+1+m=i+m+1 by omega,val_succ,upd_same,val_upd_ge r _ (Nat.le_refl _),h,h0]
 grind
theorem nrm_of_top {d:Nat->Int} {n t:Nat} (hd:Dig d n) (ht:t<=n) (htop:Top d t) (hz:∀ i,t<=i->i<n->d i=0):Nrm d t∧val d t=val d n :=
 ⟨⟨hd.le ht,htop⟩,(val_zeros ht hz).symm⟩
def ord (a b:Int):Int:=if a<b then -1 else if b<a then 1 else 0
theorem ord_lt {a b:Int} (h:a<b):ord a b=-1:=by simp [ord,h]
theorem ord_gt {a b:Int} (h:b<a):ord a b=1:=by simp [ord,h]; omega
theorem ord_eq {a b:Int} (h:a=b):ord a b=0:=by simp [ord,h]
end Go.Proofs.YtjjihmnbdeeedaaGreatDoor.M
namespace Go.Proofs.YtjjihmnbdeeedaaGreatDoor
open Go Go.RowKit Go.Proofs.YtjjihmnbdeeedaaGreatDoor.M
instance (d:Nat->Int) (n:Nat):Decidable (Dig d n):=by unfold Dig; infer_instance
instance (d:Nat->Int) (n:Nat):Decidable (Top d n):=by unfold Top; infer_instance
instance (d:Nat->Int) (n:Nat):Decidable (Nrm d n):=by unfold Nrm; infer_instance
def okB (d:Nat->Int) (n:Nat):Bool:=decide (n<=2000∧Nrm d n)
theorem okB_yes {d:Nat->Int} {n:Nat} (h:n<=2000) (k:Nrm d n):okB d n=true:=by simp [okB,h,k]
theorem okB_no {d:Nat->Int} {n:Nat} (h:¬ (n<=2000∧Nrm d n)):okB d n=false:=by simp only [okB,h,decide_false]
theorem ret_bool {a b:Bool} (h:a=b):Ending.returned (.bool a)=.returned (.bool b):=by rw [h]
theorem ret_int {k:IntKind} {a b:Int} (h:a=b):Ending.returned (.int k a)=.returned (.int k b):=by rw [h]
theorem dig_snoc {d:Nat->Int} {k:Nat} (h:Dig d k) (h0:0<=d k) (h1:d k<1073741824):Dig d (k+1):=fun i hi=>by
 by_cases e:i=k
 ·rw [e]; exact ⟨h0,h1⟩
 ·exact h i (by omega)
theorem valid_any (ao:Option Addr) (n cap:Nat) (d:Nat->Int) (w:World) (h:Row w ao n cap d) :
  Calls Tryz.prog 193 #[.slice ao n cap] w fun e w'=>e=.returned (.bool (okB d n))∧w'=w:=by
 have hl:=h.le
 have hm:=h.max
 by_cases h2k:n<=2000
 ·go_enter Tryz.func193,Tryz.ntmps193
  go_wp2
  go_loop [9] (fun i=>∃ k:Nat,k<=n∧i=.int .i64 k∧Dig d k) (fun i=>n-(intOf i).toNat)
  case atStart=>exact ⟨0,Nat.zero_le _,rfl,fun i hi=>absurd hi (by omega)⟩
  case round=>
   obtain ⟨k,hk,rfl,hd⟩:=hrel
   by_cases hlt:k<n
   ·obtain ⟨b,off,rfl,hb,hc⟩:=h.spot (by omega)
    have c:=hc k hlt
    by_cases h0:d k<0
    ·go_wp2
     go_ret
     exact ⟨ret_bool (okB_no (fun ⟨_,q⟩=>by have:=(q.1 k hlt).1; omega)).symm,rfl⟩
    ·by_cases h1:1073741823<d k
     ·go_wp2
      go_ret
      exact ⟨ret_bool (okB_no (fun ⟨_,q⟩=>by have:=(q.1 k hlt).2; omega)).symm,rfl⟩
     ·go_wp2
      go_round
      case rel=>exact ⟨k+1,by omega,by go_num,dig_snoc hd (by omega) (by omega)⟩
      case measure=>simp [intOf]; omega
   ·obtain rfl:k=n:=by omega
    by_cases h0:k=0
    ·subst h0
     go_wp2
     go_ret
     exact ⟨ret_bool (okB_yes h2k ⟨hd,.inl rfl⟩).symm,rfl⟩
    ·obtain ⟨b,off,rfl,hb,hc⟩:=h.spot (by omega)
     have c:=hc (k-1) (by omega)
     by_cases h1:d (k-1)=0
     ·go_wp2
      go_ret
      exact ⟨ret_bool ((show _=false by simp; omega).trans (okB_no (fun ⟨_,q⟩=>by rcases q.2 with e | e <;> omega)).symm),rfl⟩
     ·go_wp2
      go_ret
      exact ⟨ret_bool ((show _=true by simp; omega).trans (okB_yes h2k ⟨hd,.inr h1⟩).symm),rfl⟩
 ·go_enter Tryz.func193,Tryz.ntmps193
  go_wp2
  go_ret
  exact ⟨ret_bool (okB_no (fun ⟨q,_⟩=>h2k q)).symm,rfl⟩
theorem trim_any (ao:Option Addr) (n cap:Nat) (d:Nat->Int) (w:World) (h:Row w ao n cap d) :
  Calls Tryz.prog 222 #[.slice ao n cap] w fun e w'=>∃ t:Nat,t<=n∧Top d t∧(∀ i,t<=i->i<n->d i=0)∧e=.returned (cutV ao t cap)∧w'=w:=by
 have hl:=h.le
 have hm:=h.max
 go_enter Tryz.func222,Tryz.ntmps222
 go_wp2
 go_loop [3] (fun i=>∃ k:Nat,k<=n∧i=.int .i64 k∧∀ i,k<=i->i<n->d i=0) (fun i=>(intOf i).toNat)
 case atStart=>exact ⟨n,Nat.le_refl _,rfl,fun i a b=>by omega⟩
 case round=>
  obtain ⟨k,hk,rfl,hz⟩:=hrel
  have HZ:Hid (∀ i,k<=i->i<n->d i=0):=hz
  clear hz
  by_cases h0:k=0
  ·subst h0
   go_wp2
   go_ret
   exact ⟨0,by omega,.inl rfl,HZ.out,rfl,rfl⟩
  ·obtain ⟨b,off,rfl,hb,hc⟩:=h.spot (by omega)
   have c:=hc (k-1) (by omega)
   by_cases h1:d (k-1)=0
   ·go_wp2
    go_round
    case rel=>exact ⟨k-1,by omega,by go_num,fun i a b=>by by_cases e:i=k-1; (· rw [e]; exact h1); (· exact HZ.out i (by omega) b)⟩
    case measure=>simp [intOf]; omega
   ·go_wp2
    go_ret
    exact ⟨k,hk,.inr h1,HZ.out,by unfold cutV; rw [if_neg h0]; simp,rfl⟩
end Go.Proofs.YtjjihmnbdeeedaaGreatDoor
namespace Go.Proofs.YtjjihmnbdeeedaaGreatDoor.M
open Go
def blen (V:Int):Nat:=if V<=0 then 0 else Nat.log2 V.toNat+1
theorem blen_zero:blen 0=0:=by decide
theorem blen_lt (V:Int):V<2^blen V:=by
 unfold blen
 split
 ·show V<1; omega
 ·have h:=@Nat.lt_log2_self V.toNat
  have e:((V.toNat:Nat):Int)<((2^(Nat.log2 V.toNat+1):Nat):Int):=Int.ofNat_lt.2 h
  rw [Int.toNat_of_nonneg (by omega)] at e
  simpa using e
theorem blen_pos {V:Int} (h:0<V):1<=blen V∧2^(blen V-1)<=V:=by
 unfold blen
 rw [if_neg (by omega)]
 refine ⟨by omega,?_⟩
 have h1:=Nat.log2_self_le (n:=V.toNat) (by omega)
 have e:((2^Nat.log2 V.toNat:Nat):Int)<=((V.toNat:Nat):Int):=Int.ofNat_le.2 h1
 rw [Int.toNat_of_nonneg (by omega)] at e
 simpa using e
theorem two_lt_iff {j k:Nat} (h:(2:Int)^j<2^k):j<k:=by
 rcases Nat.lt_or_ge j k with h1 | h1
 ·exact h1
 ·have:=two_le h1; omega
theorem blen_le {V:Int} {k:Nat} (h:V<2^k):blen V<=k:=by
 by_cases h0:0<V
 ·obtain ⟨h1,h2⟩:=blen_pos h0
  have:=two_lt_iff (show (2:Int)^(blen V-1)<2^k by omega)
  omega
 ·unfold blen; rw [if_pos (by omega)]; omega
theorem blen_ge {V:Int} {k:Nat} (h:2^k<=V):k<blen V:=by
 have h1:=blen_lt V
 exact two_lt_iff (by omega)
theorem blen_of {V:Int} {k:Nat} (h1:2^k<=V) (h2:V<2^(k+1)):blen V=k+1:=by
 have a:=blen_ge h1
 have b:=blen_le h2
 omega
theorem bitLen_eq {x:Int} (h0:0<=x) (h1:x<18446744073709551616):(Lib.bitLen x.toNat:Int)=blen x:=by
 by_cases hx:x=0
 ·subst hx; decide
 ·obtain ⟨a,b,c⟩:=Lib.bitLenAux_bounds 64 x.toNat (by omega) (by omega)
  have e:blen x=Lib.bitLen x.toNat:=by
   have hb:Lib.bitLen x.toNat=Lib.bitLenAux 64 x.toNat:=rfl
   rw [<- hb] at a b c
   obtain ⟨k,hk⟩:∃ k,Lib.bitLen x.toNat=k+1:=⟨Lib.bitLen x.toNat-1,by omega⟩
   rw [hk] at b c ⊢
   have b':((2^k:Nat):Int)<=((x.toNat:Nat):Int):=Int.ofNat_le.2 (by simpa using b)
   have c':((x.toNat:Nat):Int)<((2^(k+1):Nat):Int):=Int.ofNat_lt.2 c
   rw [Int.toNat_of_nonneg h0] at b' c'
   exact blen_of (by simpa using b') (by simpa using c')
  rw [e]
theorem blen_val {d:Nat->Int} {n:Nat} (h:Nrm d (n+1)):blen (val d (n+1))=30*n+blen (d n):=by
 have hd:=h.1 n (by omega)
 have ht:d n≠0:=by rcases h.2 with e | e; (· omega); (· simpa using e)
 have hp:0<d n:=by omega
 obtain ⟨a,b⟩:=blen_pos hp
 have c:=blen_lt (d n)
 have v0:=val_nonneg (h.1.le (Nat.le_succ n))
 have v1:=val_lt (h.1.le (Nat.le_succ n))
 have pp:=P_pos n
 obtain ⟨k,hk⟩:∃ k,blen (d n)=k+1:=⟨blen (d n)-1,by omega⟩
 rw [hk] at b c ⊢
 rw [show 30*n+(k+1)=(30*n+k)+1 by omega]
 have e1:(2:Int)^(30*n+k)=2^k*P n:=by rw [Int.pow_add,P_two,Int.mul_comm]
 have e2:(2:Int)^(30*n+k+1)=2^(k+1)*P n:=by rw [show 30*n+k+1=30*n+(k+1) by omega,Int.pow_add,P_two,Int.mul_comm]
 have f1:(2:Int)^k*P n<=d n*P n:=Int.mul_le_mul_of_nonneg_right (by simpa using b) (by omega)
 have f2:(d n+1)*P n<=2^(k+1)*P n:=Int.mul_le_mul_of_nonneg_right (by omega) (by omega)
 rw [Int.add_mul] at f2
 apply blen_of
 ·rw [e1,val_succ]; omega
 ·rw [e2,val_succ]; omega
end Go.Proofs.YtjjihmnbdeeedaaGreatDoor.M
namespace Go.Proofs.YtjjihmnbdeeedaaGreatDoor
open Go Go.RowKit Go.Proofs.YtjjihmnbdeeedaaGreatDoor.M
theorem len_close (x q:Int) (s:Nat) (h:q.toNat<Lib.len8tab.size) (hq0:0<=q) (hq:q<=255) (hs:s<=56) (hb:Lib.bitLen x.toNat=s+Lib.bitLen q.toNat) :
  wrap64 ((s:Int)+wrap64 ((Lib.len8tab[q.toNat]'h).toNat:Int))=(Lib.bitLen x.toNat:Int):=by
 have e:=Lib.len8_of q hq0 hq
 have l:=Lib.bitLen_le8' q hq0 hq
 unfold Lib.len8 at e
 rw [getElem?_pos Lib.len8tab q.toNat h] at e
 simp only [Option.getD_some] at e
 rw [e,hb]
 unfold wrap64
 omega
theorem len_close0 (x:Int) (h:x.toNat<Lib.len8tab.size) (hq0:0<=x) (hq:x<=255) :
  wrap64 (wrap64 ((Lib.len8tab[x.toNat]'h).toNat:Int))=(Lib.bitLen x.toNat:Int):=by
 have:=len_close x x 0 h hq0 hq (by omega) (by omega)
 simpa using this
theorem len_q (x q:Int) (s:Nat) (h0:0<=x) (h1:x<=18446744073709551615) (hx:((2^s:Nat):Int)<=x) (e:q=x/((2^s:Nat):Int)):Lib.bitLen x.toNat=s+Lib.bitLen q.toNat:=by
 rw [Lib.bitLen_shift s x.toNat (by omega) (by omega),e]
 congr 2
 obtain ⟨n,rfl⟩:=Int.eq_ofNat_of_zero_le h0
 rw [<- Int.natCast_ediv,Int.toNat_natCast,Int.toNat_natCast]
theorem len64 (x:Int) (w:World) (h0:0<=x) (h1:x<=18446744073709551615) :
  Calls Tryz.prog 288 #[.int .u64 x] w fun e w'=>e=.returned (.int .i64 (Lib.bitLen x.toNat))∧w'=w:=by
 have hs:Lib.len8tab.size=256:=by decide +kernel
 go_enter Tryz.func288,Tryz.ntmps288
 go_wp2
 all_goals go_ret
 ·exact ⟨ret_int (len_close x _ 56 _ (by omega) (by omega) (by omega) (len_q x _ 56 h0 h1 (by omega) (by omega))),rfl⟩
 ·exact ⟨ret_int (len_close x _ 48 _ (by omega) (by omega) (by omega) (len_q x _ 48 h0 h1 (by omega) (by omega))),rfl⟩
 ·exact ⟨ret_int (len_close x _ 40 _ (by omega) (by omega) (by omega) (len_q x _ 40 h0 h1 (by omega) (by omega))),rfl⟩
 ·exact ⟨ret_int (len_close x _ 32 _ (by omega) (by omega) (by omega) (len_q x _ 32 h0 h1 (by omega) (by omega))),rfl⟩
 ·exact ⟨ret_int (len_close x _ 24 _ (by omega) (by omega) (by omega) (len_q x _ 24 h0 h1 (by omega) (by omega))),rfl⟩
 ·exact ⟨ret_int (len_close x _ 16 _ (by omega) (by omega) (by omega) (len_q x _ 16 h0 h1 (by omega) (by omega))),rfl⟩
 ·exact ⟨ret_int (len_close x _ 8 _ (by omega) (by omega) (by omega) (len_q x _ 8 h0 h1 (by omega) (by omega))),rfl⟩
 ·exact ⟨ret_int (len_close0 x _ (by omega) (by omega)),rfl⟩
theorem len_any (x:Int) (w:World) (h0:0<=x) (h1:x<=18446744073709551615) :
  Calls Tryz.prog 245 #[.int .u64 x] w fun e w'=>e=.returned (.int .i64 (blen x))∧w'=w:=by
 go_enter Tryz.func245,Tryz.ntmps245
 go_wp2_with (go_at_call 288; refine (len64 _ _ (by omega) (by omega)).mono ?_; rintro e w' ⟨rfl,rfl⟩)
 go_ret
 exact ⟨ret_int (bitLen_eq h0 (by omega)),rfl⟩
theorem width_any (x:Int) (w:World) (h0:0<=x) (h1:x<9223372036854775808) :
  Calls Tryz.prog 272 #[.int .i64 x] w fun e w'=>e=.returned (.int .i64 (blen x))∧w'=w:=by
 go_enter Tryz.func272,Tryz.ntmps272
 go_wp2_with (go_at_call 245; refine (len_any _ _ (by omega) (by omega)).mono ?_; rintro e w' ⟨rfl,rfl⟩)
 go_ret
 exact ⟨rfl,rfl⟩
theorem bitLength_any (ao:Option Addr) (n cap:Nat) (d:Nat->Int) (w:World) (h:Row w ao n cap d) (hd:Nrm d n) (hn:n<=1000000) :
  Calls Tryz.prog 224 #[.slice ao n cap] w fun e w'=>e=.returned (.int .i64 (blen (val d n)))∧w'=w:=by
 have hl:=h.le
 have hm:=h.max
 by_cases h0:n=0
 ·subst h0
  go_enter Tryz.func224,Tryz.ntmps224
  go_wp2
  go_ret
  exact ⟨rfl,rfl⟩
 ·obtain ⟨k,rfl⟩:∃ k,n=k+1:=⟨n-1,by omega⟩
  obtain ⟨b,off,rfl,hb,hc⟩:=h.spot (by omega)
  have c:=hc k (by omega)
  have dk:=hd.1 k (by omega)
  have hbl:blen (d k)<=30:=blen_le (by show d k<1073741824; exact dk.2)
  go_enter Tryz.func224,Tryz.ntmps224
  go_wp2_with (go_at_call 272; refine (width_any _ _ (by omega) (by omega)).mono ?_; rintro e w' ⟨rfl,rfl⟩)
  go_ret
  exact ⟨ret_int (by rw [blen_val hd]; omega),rfl⟩
end Go.Proofs.YtjjihmnbdeeedaaGreatDoor
namespace Go.Proofs.YtjjihmnbdeeedaaGreatDoor.M
open Go
theorem mul_le_r {a b c:Int} (h:a<=b) (hc:0<=c):a*c<=b*c:=Int.mul_le_mul_of_nonneg_right h hc
theorem mul_le_l {a b c:Int} (h:a<=b) (hc:0<=c):c*a<=c*b:=Int.mul_le_mul_of_nonneg_left h hc
theorem knuth_long {U V p v1 v2 vl head u2 ul times left:Int} (hV:V=(v1*1073741824+v2)*p+vl) (hvl:vl<p) (hv2:v2<1073741824) (hU:U=(head*1073741824+u2)*p+ul) (hul:0<=ul) (hu2:0<=u2)
  (hp:0<p) (hh:head=times*v1+left) (ht:0<=times) (ht2:times<1073741824) (h:1073741824<=left):times*V<=U:=by
 have h0:v2*p<=1073741823*p:=mul_le_r (by omega) (by omega)
 have e0:(v1+1)*(1073741824*p)=v1*1073741824*p+1073741823*p+p:=by grind
 have e1:V=v1*1073741824*p+v2*p+vl:=by rw [hV]; grind
 have h1:times*V<=times*((v1+1)*(1073741824*p)):=mul_le_l (by omega) ht
 have h2:(times*v1+times)*(1073741824*p)<=head*(1073741824*p):=mul_le_r (by omega) (by omega)
 have h3:0<=u2*p:=Int.mul_nonneg hu2 (by omega)
 have e2:U=head*(1073741824*p)+u2*p+ul:=by rw [hU]; grind
 have e3:times*((v1+1)*(1073741824*p))=(times*v1+times)*(1073741824*p):=by grind
 omega
theorem knuth_short {U V p v1 v2 vl head u2 ul times left:Int} (hV:V=(v1*1073741824+v2)*p+vl) (hvl0:0<=vl) (hvl:vl<p) (hv1:1<=v1) (hv2:0<=v2) (hU:U=(head*1073741824+u2)*p+ul) (hul:0<=ul)
  (hp:0<p) (hh:head=times*v1+left) (ht:0<=times) (ht2:times<1073741824) (h:times*v2<=left*1073741824+u2):(times-1)*V<=U:=by
 have h1:times*vl<=times*p:=mul_le_l (by omega) ht
 have h2:times*v2*p<=(left*1073741824+u2)*p:=mul_le_r h (by omega)
 have h3:times*p<=1073741824*p:=mul_le_r (by omega) (by omega)
 have h4:1*(1073741824*p)<=v1*(1073741824*p):=mul_le_r hv1 (by omega)
 have h5:0<=v2*p:=Int.mul_nonneg hv2 (by omega)
 have e0:V=v1*(1073741824*p)+v2*p+vl:=by rw [hV]; grind
 have e1:(times-1)*V=times*v1*1073741824*p+times*v2*p+times*vl-V:=by rw [hV]; grind
 have e2:U=times*v1*1073741824*p+(left*1073741824+u2)*p+ul:=by rw [hU,hh]; grind
 omega
structure Steps (x0 y0 x y fA fB nA nB sg:Int):Prop where
 sgn:sg=1∨sg=-1
 ex:x=sg*(fA*x0-fB*y0)
 ey:y=sg*(nB*y0-nA*x0)
 det:fA*nB-fB*nA=sg
 fA0:0<=fA
 fB0:0<=fB
 nA0:0<=nA
 nB1:1<=nB
theorem Steps.start (x0 y0:Int):Steps x0 y0 x0 y0 1 0 0 1 1:=⟨.inl rfl,by omega,by omega,by omega,by omega,by omega,by omega,by omega⟩
theorem Steps.step {x0 y0 x y fA fB nA nB sg:Int} (h:Steps x0 y0 x y fA fB nA nB sg) {q:Int} (hq:1<=q) :
  Steps x0 y0 y (x-q*y) nA nB (fA+q*nA) (fB+q*nB) (-sg):=by
 have h1:=Int.mul_nonneg (show 0<=q by omega) h.nA0
 have h2:1*nB<=q*nB:=mul_le_r hq (by have:=h.nB1; omega)
 have hf:=h.fA0
 have hg:=h.fB0
 have hn:=h.nB1
 refine ⟨by rcases h.sgn with e | e <;> omega,?_,?_,?_,h.nA0,by omega,by omega,by omega⟩
 ·rw [h.ey]; grind
 ·rw [h.ey,h.ex]; grind
 ·have:=h.det; grind
theorem Steps.whole {x0 y0 x y fA fB nA nB sg S al be:Int} (h:Steps x0 y0 x y fA fB nA nB sg) (hS:0<S) (ha0:0<=al) (ha:al<S) (hb0:0<=be) (hb:be<S)
  (hab:nA<=nB) (hfb:fA<=fB) (hy:nB<=y) (hx:nB+fB<=x-y) :
  0<sg*(nB*(y0*S+be)-nA*(x0*S+al))∧sg*(nB*(y0*S+be)-nA*(x0*S+al))<sg*(fA*(x0*S+al)-fB*(y0*S+be)):=by
 have hn:=h.nB1
 have hf:=h.fB0
 have k1:nB*be<=nB*(S-1):=mul_le_l (by omega) (by omega)
 have k2:nA*al<=nA*(S-1):=mul_le_l (by omega) h.nA0
 have k3:nA*(S-1)<=nB*(S-1):=mul_le_r hab (by omega)
 have k4:0<=nB*be:=Int.mul_nonneg (by omega) hb0
 have k5:0<=nA*al:=Int.mul_nonneg h.nA0 ha0
 have k6:nB*S<=y*S:=mul_le_r hy (by omega)
 have k7:(nB+fB)*S<=(x-y)*S:=mul_le_r hx (by omega)
 have m1:fB*be<=fB*(S-1):=mul_le_l (by omega) hf
 have m2:fA*al<=fA*(S-1):=mul_le_l (by omega) h.fA0
 have m3:fA*(S-1)<=fB*(S-1):=mul_le_r hfb (by omega)
 have m4:0<=fB*be:=Int.mul_nonneg hf hb0
 have m5:0<=fA*al:=Int.mul_nonneg h.fA0 ha0
 have ex:=h.ex
 have ey:=h.ey
 have e1:nB*(y0*S+be)-nA*(x0*S+al)=(nB*y0-nA*x0)*S+nB*be-nA*al:=by grind
 have e2:fA*(x0*S+al)-fB*(y0*S+be)=(fA*x0-fB*y0)*S+fA*al-fB*be:=by grind
 have e3:nB*(S-1)=nB*S-nB:=by grind
 have e4:fB*(S-1)=fB*S-fB:=by grind
 have e5:(nB+fB)*S=nB*S+fB*S:=by grind
 have e6:(x-y)*S=x*S-y*S:=by grind
 rw [e1,e2]
 rcases h.sgn with rfl | rfl
 ·have e7:(nB*y0-nA*x0)*S=y*S:=by rw [ey]; grind
  have e8:(fA*x0-fB*y0)*S=x*S:=by rw [ex]; grind
  constructor <;> omega
 ·have e7:(nB*y0-nA*x0)*S=- (y*S):=by rw [ey]; grind
  have e8:(fA*x0-fB*y0)*S=- (x*S):=by rw [ex]; grind
  constructor <;> omega
end Go.Proofs.YtjjihmnbdeeedaaGreatDoor.M
namespace Go.Proofs.YtjjihmnbdeeedaaGreatDoor
open Go Go.RowKit Go.Proofs.YtjjihmnbdeeedaaGreatDoor.M
structure Wr (g:Nat) (w w':World):Prop where
 os:w'.os=w.os
 tape:w'.tape=w.tape
 output:w'.output=w.output
 size:w.heap.size<=w'.heap.size
 block:∀ k,k<w.heap.size->k≠g->w'.heap[k]?=w.heap[k]?
theorem Wr.refl (g:Nat) (w:World):Wr g w w:=⟨rfl,rfl,rfl,Nat.le_refl _,fun _ _ _=>rfl⟩
theorem Wr.trans {g:Nat} {a b c:World} (h:Wr g a b) (k:Wr g b c):Wr g a c :=
 ⟨k.os.trans h.os,k.tape.trans h.tape,k.output.trans h.output,Nat.le_trans h.size k.size,fun i hi hg=>(k.block i (Nat.lt_of_lt_of_le hi h.size) hg).trans (h.block i hi hg)⟩
theorem Wr.setCell {g:Nat} {a w:World} (h:Wr g a w) (o:Nat) (u:Value):Wr g a (w.setCell ⟨g,o,none⟩ u) :=
 ⟨h.os,h.tape,h.output,by simp [World.setCell]; exact h.size,fun k hk hg=>(Below.heap_setCell _ _ _ _ hg).trans (h.block k hk hg)⟩
theorem Wr.drew {g:Nat} {a w:World} (h:Wr g a w):Wr g a w.drew:=⟨h.os,h.tape,h.output,h.size,h.block⟩
theorem Wr.drewN {g:Nat} {a w:World} (h:Wr g a w) (n:Nat):Wr g a (w.drewN n):=⟨h.os,h.tape,h.output,h.size,h.block⟩
theorem Below.wr {B g:Nat} {a w:World} (h:Below B a w) (hB:w.heap.size<=B):Wr g w w->Below B a w:=fun _=>h
theorem wr_of {g:Nat} {a w:World} (h:Below a.heap.size a w):Wr g a w:=⟨h.os,h.tape,h.output,h.size,fun k hk _=>h.block k hk⟩
theorem Wr.below {B g:Nat} {a w w':World} (h:Wr g w w') (hb:Below B a w) (hB:B<=w.heap.size) (hg:B<=g):Below B a w' :=
 hb.trans ⟨h.os,h.tape,h.output,h.size,fun k hk=>h.block k (by omega) (by omega)⟩
theorem Wr.cell {g:Nat} {w w':World} (h:Wr g w w') {p:Addr} (hp:p.block<w.heap.size) (hg:p.block≠g):w'.cell? p=w.cell? p:=World.cell?_of_block (w:=w) (h.block p.block hp hg)
structure RowX (g:Nat) (w:World) (ao:Option Addr) (n cap:Nat) (d:Nat->Int):Prop where
 le:n<=cap
 max:cap<=9223372036854775807
 spot:0<n->∃ b off,ao=some ⟨b,off,none⟩∧b<w.heap.size∧b≠g∧∀ i,i<n->w.cell? ⟨b,off+i,none⟩=some (.int .i64 (d i))
theorem RowX.keeps {g:Nat} {w w':World} {ao:Option Addr} {n cap:Nat} {d:Nat->Int} (h:RowX g w ao n cap d) (hw:Wr g w w'):RowX g w' ao n cap d :=
  ⟨h.le,h.max,fun hn=>by
    obtain ⟨b,off,rfl,hlt,hg,hc⟩:=h.spot hn
    exact ⟨b,off,rfl,Nat.lt_of_lt_of_le hlt hw.size,hg,fun i hi=>(hw.cell (p:=⟨b,off+i,none⟩) hlt hg).trans (hc i hi)⟩⟩
theorem RowX.of {g:Nat} {w:World} {ao:Option Addr} {n cap:Nat} {d:Nat->Int} (h:Row w ao n cap d) (hg:w.heap.size<=g):RowX g w ao n cap d :=
  ⟨h.le,h.max,fun hn=>by
    obtain ⟨b,off,rfl,hlt,hc⟩:=h.spot hn
    exact ⟨b,off,rfl,hlt,by omega,hc⟩⟩
theorem Out.store {B:Nat} {w:World} {g n cap:Nat} {d:Nat->Int} (h:Out B w (.slice (some ⟨g,0,none⟩) n cap) n d) {i:Nat} (hi:i<n) (x:Int) :
  Out B (w.setCell ⟨g,i,none⟩ (.int .i64 x)) (.slice (some ⟨g,0,none⟩) n cap) n (upd d i x):=by
 have h1:=(World.ownsRow.stored h i (.int .i64 x)).1
 unfold Out
 have e:vals (upd d i x) n=(vals d n).set i (.int .i64 x):=by
  refine (vals_ext (by simp [vals_length]) fun j hj=>?_).symm
  by_cases hji:j=i
  ·subst hji; rw [upd_same,List.getElem?_set_self (by rw [vals_length]; exact hj)]
  ·rw [upd_other d x hji,List.getElem?_set_ne (by omega),vals_get d hj]
 rw [e]; exact h1
theorem Out.spot {B:Nat} {w:World} {ao:Option Addr} {n cap:Nat} {d:Nat->Int} (h:Out B w (.slice ao n cap) n d) (hn:0<n):∃ g,ao=some ⟨g,0,none⟩∧B<=g∧g<w.heap.size:=by
 rcases h.2 with ⟨_,h0⟩ | ⟨g,cap',cur,hv,hB,hg,_⟩
 ·omega
 ·simp only [Value.slice.injEq] at hv
  exact ⟨g,hv.1,hB,(Array.getElem?_eq_some_iff.1 hg).1⟩
theorem Out.cell {B:Nat} {w:World} {g n cap:Nat} {d:Nat->Int} (h:Out B w (.slice (some ⟨g,0,none⟩) n cap) n d) {i:Nat} (hi:i<n):w.cell? ⟨g,i,none⟩=some (.int .i64 (d i)):=by
 rw [World.ownsRow.cellAt h i (by omega),vals_get d hi]
theorem Out.frozen {B:Nat} {w:World} {g n cap:Nat} {d:Nat->Int} (h:Out B w (.slice (some ⟨g,0,none⟩) n cap) n d) (i:Nat):w.frozen? ⟨g,i,none⟩=false:=World.ownsRow.frozenAt h i
theorem shl_dig {x:Int} {p:Nat} (hx:0<=x∧x<1073741824) (hp:p<=30):0<=x*2^p∧x*2^p<=1073741823*2^p∧(2:Int)^p<=1073741824:=by
 have h:=two_pos p
 exact ⟨Int.mul_nonneg hx.1 (by omega),Int.mul_le_mul_of_nonneg_right (by omega) (by omega),two_le hp⟩
structure PileI (q p N n:Nat) (a r0:Nat->Int) (s:Int) (k:Nat) (c:Int) (r:Nat->Int):Prop where
 rest:∀ i,q+k<=i->r i=r0 i
 near:∀ i,0<=s*(r i-r0 i)∧s*(r i-r0 i)<1073741824
 sum:∃ T,val r N=val r0 N+s*(P q*T)∧T+c*P k=2^p*val a k
theorem PileI.put {q p N n:Nat} {a r0:Nat->Int} {s:Int} {k:Nat} {c:Int} {r:Nat->Int} (h:PileI q p N n a r0 s k c r) (hs:s*s=1) (hN:q+k<N) {m c':Int} (hm:0<=m∧m<1073741824) (e:m+c'*1073741824=c+a k*2^p) :
  PileI q p N n a r0 s (k+1) c' (upd r (q+k) (r (q+k)+s*m)):=by
 refine ⟨fun i hi=>by rw [upd_other r _ (by omega)]; exact h.rest i (by omega),fun i=>?_,?_⟩
 ·by_cases hi:i=q+k
  ·subst hi
   rw [upd_same,h.rest _ (Nat.le_refl _),show s*(r0 (q+k)+s*m-r0 (q+k))=s*s*m by grind,hs]
   omega
  ·rw [upd_other r _ hi]; exact h.near i
 ·obtain ⟨T,e1,e2⟩:=h.sum
  refine ⟨T+m*P k,?_,?_⟩
  ·rw [val_upd r _ hN,e1,P_add]; grind
  ·rw [val_succ,P_succ]
   have:c'*(P k*1073741824)=(c+a k*2^p-m)*P k:=by rw [show c+a k*2^p-m=c'*1073741824 by omega]; grind
   rw [this,show T+m*P k+(c+a k*2^p-m)*P k=(T+c*P k)+a k*2^p*P k by grind,e2]; grind
structure Piled (N:Nat) (r0:Nat->Int) (s V:Int) (r:Nat->Int):Prop where
 near:∀ i,0<=s*(r i-r0 i)∧s*(r i-r0 i)<1073741824
 sum:val r N=val r0 N+s*V
theorem PileI.done {q p N n:Nat} {a r0:Nat->Int} {s:Int} {c:Int} {r:Nat->Int} (h:PileI q p N n a r0 s n c r) (hs:s*s=1) (hN:q+n<N) (hc:0<=c∧c<1073741824) :
  Piled N r0 s (P q*(2^p*val a n)) (upd r (q+n) (r (q+n)+s*c)):=by
 refine ⟨fun i=>?_,?_⟩
 ·by_cases hi:i=q+n
  ·subst hi
   rw [upd_same,h.rest _ (Nat.le_refl _),show s*(r0 (q+n)+s*c-r0 (q+n))=s*s*c by grind,hs]
   omega
  ·rw [upd_other r _ hi]; exact h.near i
 ·obtain ⟨T,e1,e2⟩:=h.sum
  rw [val_upd r _ hN,e1,P_add,<- e2]; grind
theorem pile_near {s x y C:Int} (hs:s=1∨s=-1) (h:0<=s*(x-y)∧s*(x-y)<1073741824) (hy:-C<=y∧y<=C):-(C+1073741823)<=x∧x<=C+1073741823:=by
 rcases hs with rfl | rfl <;> omega
theorem sgn_mul {s m:Int} (hs:s=1∨s=-1) (hm:0<=m∧m<1073741824):-1073741823<=s*m∧s*m<=1073741823:=by
 rcases hs with rfl | rfl <;> omega
theorem sgn_sq {s:Int} (hs:s=1∨s=-1):s*s=1:=by rcases hs with rfl | rfl <;> rfl
theorem pile_qp (g N:Nat) (r0:Nat->Int) (ao:Option Addr) (n ca q p:Nat) (a:Nat->Int) (w:World) (hB0:Blk w g N r0) (ha:RowX g w ao n ca a) (da:Dig a n) (hn:n<=100000) (hqN:q+n+1<=N) (hNm:N<=1000000) (hp:p<30) (k:Int) (hk:k=30*q+p)
  (s:Int) (hs:s=1∨s=-1) (C:Int) (hC0:∀ i,i<N->-C<=r0 i∧r0 i<=C) (hC1:C<=4611686018427387904) :
  Calls Tryz.prog 220 #[.slice (some ⟨g,0,none⟩) N N,.slice ao n ca,.int .i64 k,.int .i64 s] w fun e w'=>e=.returned (.tuple #[])∧∃ r,Blk w' g N r∧Wr g w w'∧Piled N r0 s (P q*(2^p*val a n)) r:=by
 have hla:=ha.le
 have hma:=ha.max
 have e1:k/30=q:=by omega
 have e2:k % 30=p:=by omega
 have hk0:0<=k:=by omega
 have hk1:k<=40000000:=by omega
 clear hk
 have hu:=two_pos p
 have hu2:(2:Int)^p<=2^29:=two_le (by omega)
 have HC:Hid (∀ i,i<N->-C<=r0 i∧r0 i<=C):=hC0
 have hss:=sgn_sq hs
 have HS:Hid (s=1∨s=-1):=hs
 clear hC0 hs
 go_enter Tryz.func220,Tryz.ntmps220
 go_wp2
 go_loopw [10,18] (fun c i wr=>∃ (k:Nat) (c':Int) (r:Nat->Int),k<=n∧i=.int .i64 k∧c=.int .i64 c'∧0<=c'∧c'<2^p∧Blk wr g N r∧Hid (PileI q p N n a r0 s k c' r)∧Wr g w wr) (fun _ i _=>n-(intOf i).toNat)
 case atStart=>exact ⟨0,0,r0,Nat.zero_le _,rfl,rfl,by omega,hu,hB0,⟨fun _ _=>rfl,fun i=>by rw [Int.sub_self,Int.mul_zero]; omega,0,by rw [Int.mul_zero,Int.mul_zero,Int.add_zero],by show (0:Int)+0*1=2^p*0; omega⟩,Wr.refl _ _⟩
 case round=>
  obtain ⟨k,c,r,hk,rfl,rfl,hc0,hc1,hB,HI,hW⟩:=hrel
  have hcap:-4611686018427387904-1073741823<=r (q+k)∧r (q+k)<=4611686018427387904+1073741823:=by
   have h1:=HC.out (q+k) (by omega)
   have h2:=HI.out.rest (q+k) (Nat.le_refl _)
   rw [h2]; omega
  by_cases hlt:k<n
  ·obtain ⟨ba,fa,rfl,hba,hbg,hca⟩:=ha.spot (by omega)
   have c1:=(hW.cell (p:=⟨ba,fa+k,none⟩) hba hbg).trans (hca k hlt)
   have cg:=hB.cell (show q+k<N by omega)
   have fg:=hB.frozen (q+k)
   have dk:=da k hlt
   obtain ⟨s0,s1,s2⟩:=shl_dig dk (show p<=30 by omega)
   have hw:wrap64 (a k*2^p)=a k*2^p:=IntWalk.wrap64_in _ ⟨by omega,by omega⟩
   have hor:bits .or .i64 c (a k*2^p)=c+a k*2^p:=or_add c (a k) p hc0 hc1 dk.1 (by omega)
   have h30:=and_30 (c+a k*2^p)
   have hm:=mod_dig (c+a k*2^p)
   have hc2:(c+a k*2^p)/1073741824<2^p:=by omega
   have hc3:0<=(c+a k*2^p)/1073741824:=by omega
   obtain ⟨m0,m1⟩:=sgn_mul HS.out hm
   have e4:(c+a k*2^p) % 1073741824+(c+a k*2^p)/1073741824*1073741824=c+a k*2^p:=by omega
   have HI2:Hid (PileI q p N n a r0 s (k+1) ((c+a k*2^p)/1073741824) (upd r (q+k) (r (q+k)+s*((c+a k*2^p) % 1073741824)))):=HI.out.put hss (by omega) hm e4
   clear e4
   generalize hM:(c+a k*2^p) % 1073741824=M at *
   generalize hSM:s*M=SM at *
   go_wp2
   go_roundw
   case rel=>exact ⟨k+1,_,_,by omega,by go_num,rfl,hc3,hc2,hB.store (q+k) _,HI2,hW.setCell _ _⟩
   case measure=>simp [intOf]; omega
  ·obtain rfl:k=n:=by omega
   have cg:=hB.cell (show q+k<N by omega)
   have fg:=hB.frozen (q+k)
   have hc4:c<1073741824:=by omega
   obtain ⟨m0,m1⟩:=sgn_mul HS.out ⟨hc0,hc4⟩
   have HD:Hid (Piled N r0 s (P q*(2^p*val a k)) (upd r (q+k) (r (q+k)+s*c))):=HI.out.done hss (by omega) ⟨hc0,hc4⟩
   generalize hSM:s*c=SM at *
   go_wp2
   first | go_end0 | refine bodyPost_ret (results_none rfl _ _ _) rfl ?_
   exact ⟨rfl,_,hB.store (q+k) _,hW.setCell _ _,HD.out⟩
theorem raise_qp (ao:Option Addr) (n ca q p:Nat) (a:Nat->Int) (w:World) (ha:Row w ao n ca a) (da:Dig a n) (hn:n<=100000) (hq:q<=100000) (hp:p<30) (k:Int) (hk:k=30*q+p) :
  Calls Tryz.prog 332 #[.slice ao n ca,.int .i64 k] w fun e w'=>∃ v,e=.returned v∧Ans w w' (P q*(2^p*val a n)) v:=by
 have hla:=ha.le
 have hma:=ha.max
 have e1:k/30=q:=by omega
 have e2:k % 30=p:=by omega
 have hk0:0<=k:=by omega
 have HK:Hid (k=30*q+p):=hk
 clear hk
 go_enter Tryz.func332,Tryz.ntmps332
 go_wp2_with (at_make; refine wpList_mk rfl _ _ rfl _ _ (q+n+1) rfl rfl (by omega) (by omega) (by omega) ?_; intro w1 hB1 hb1)
 refine (pile_qp w.heap.size (q+n+1) (fun _=>0) ao n ca q p a w1 hB1 ((RowX.of ha (Nat.le_refl _)).keeps (wr_of hb1)) da hn (Nat.le_refl _) (by omega) hp k HK.out 1 (.inl rfl) 0 (fun _ _=>⟨by omega,by omega⟩) (by omega)).mono ?_
 rintro e w2 ⟨rfl,r,hB2,hW2,hP⟩
 have hb2:Below w.heap.size w w2:=hW2.below hb1 hb1.size (Nat.le_refl _)
 go_wp2_with fail
 refine (trim_any _ _ _ _ _ (hB2.row0 (Nat.le_refl _) (by omega))).mono ?_
 rintro e w3 ⟨t,ht,htop,hz,rfl,rfl⟩
 go_wp2
 go_ret
 have D2:Dig r (q+n+1):=fun i hi=>by have:=hP.near i; omega
 obtain ⟨hN,hv⟩:=nrm_of_top D2 ht htop hz
 refine ⟨_,rfl,t,r,hB2.cut (Nat.le_refl _) ht (by omega),hN,?_,hb2⟩
 rw [hv,hP.sum,val_zeros (Nat.zero_le _) (fun _ _ _=>rfl)]
 show 0+1*_=_
 omega
theorem raise_any (ao:Option Addr) (n ca k:Nat) (a:Nat->Int) (w:World) (ha:Row w ao n ca a) (da:Dig a n) (hn:n<=100000) (hk:k<=1000000) :
  Calls Tryz.prog 332 #[.slice ao n ca,.int .i64 k] w fun e w'=>∃ v,e=.returned v∧Ans w w' (val a n*2^k) v:=by
 refine (raise_qp ao n ca (k/30) (k % 30) a w ha da hn (by omega) (by omega) k (by omega)).mono ?_
 rintro e w' ⟨v,he,h⟩
 refine ⟨v,he,?_⟩
 rw [two_split k]
 rwa [show val a n*(P (k/30)*2^(k % 30))=P (k/30)*(2^(k % 30)*val a n) by grind]
theorem shr_part {x y:Int} {p:Nat} (hx:0<=x∧x<1073741824) (hy:0<=y∧y<1073741824) (hp:p<30) :
  0<=x/2^p∧x/2^p<2^(30-p)∧y*2^(30-p) % 1073741824=y % 2^p*2^(30-p)∧0<=y % 2^p∧y % 2^p*2^(30-p)<1073741824:=by
 have hu:=two_pos p
 have hv:=two_pos (30-p)
 have huv:(2:Int)^p*2^(30-p)=1073741824:=by rw [<- Int.pow_add,show p+(30-p)=30 by omega]; rfl
 have m0:=Int.emod_nonneg y (show (2:Int)^p≠0 by omega)
 have m1:=Int.emod_lt_of_pos y hu
 refine ⟨Int.ediv_nonneg hx.1 (by omega),(Int.ediv_lt_iff_lt_mul hu).2 (by rw [Int.mul_comm,huv]; exact hx.2),?_,m0,?_⟩
 ·rw [<- huv,Int.mul_comm y,Int.mul_comm (2^p:Int),Int.mul_emod_mul_of_pos _ _ hv,Int.mul_comm]
 ·have h1:(y % 2^p+1)*2^(30-p)<=2^p*2^(30-p):=Int.mul_le_mul_of_nonneg_right (by omega) (by omega)
  rw [huv,Int.add_mul] at h1
  omega
theorem low_last {s:Nat->Int} {u v:Int} {k:Nat} (h:s (k+1)=0):low s u v k=s k/u:=by
 unfold low; rw [h,Int.zero_emod,Int.zero_mul,Int.add_zero]
theorem lower_qp (ao:Option Addr) (n ca q p:Nat) (a:Nat->Int) (w:World) (ha:Row w ao n ca a) (da:Dig a n) (hn:n<=100000) (hp:p<30) (k:Int) (hk:k=30*q+p) (hkm:k<9223372036854775808) :
    Calls Tryz.prog 225 #[.slice ao n ca,.int .i64 k] w fun e w'=>∃ v,e=.returned v∧Ans w w' (val a n/P q/2^p) v:=by
  have hla:=ha.le
  have hma:=ha.max
  have e1:k/30=q:=by omega
  have e2:k % 30=p:=by omega
  have hk0:0<=k:=by omega
  have hqm:(q:Int)<9223372036854775808:=by omega
  clear hk
  have hu:=two_pos p
  have huv:(2:Int)^p*2^(30-p)=1073741824:=by rw [<- Int.pow_add,show p+(30-p)=30 by omega]; rfl
  have HU:Hid ((2:Int)^p*2^(30-p)=1073741824):=huv
  clear huv
  by_cases hqn:n<=q
  · have h0:val a n/P q/2^p=0:=by
      rw [Int.ediv_eq_zero_of_lt (val_nonneg da) (by have:=val_lt da; have:=P_le hqn; omega)]; exact Int.zero_ediv _
    have H0:Hid (val a n/P q/2^p=0):=h0
    clear h0
    go_enter Tryz.func225,Tryz.ntmps225
    go_wp2
    go_ret
    exact ⟨_,rfl,by rw [H0.out]; exact Ans.nil (bel_refl _)⟩
  · obtain ⟨ba,fa,rfl,hba,hca⟩:=ha.spot (by omega)
    have sp:(((30:Int)-p).toNat)=30-p:=by omega
    obtain ⟨N,hN⟩:∃ N,n=q+N:=⟨n-q,by omega⟩
    have HN:Hid (n=q+N):=hN
    have hn1:q+N<=n:=by omega
    have hn2:n<=q+N:=by omega
    have hN0:0<N:=by omega
    have hq1:q<=100000:=by omega
    have hk1:k<=4000000:=by omega
    clear hN hqn hqm hkm
    go_enter Tryz.func225,Tryz.ntmps225
    go_wp2_with (at_make; refine wpList_mk rfl _ _ rfl _ _ N rfl rfl (by omega) (by omega) (by omega) ?_; intro w1 hB1 hb1)
    go_loopw [24] (fun i wr=>∃ (k:Nat) (r:Nat->Int),k<=N∧i=.int .i64 k∧Blk wr w.heap.size N r∧Hid (∀ i,i<k->r i=low (fun j=>ext a n (q+j)) (2^p) (2^(30-p)) i)∧Below w.heap.size w wr) (fun i _=>N-(intOf i).toNat)
    case atStart=>exact ⟨0,fun _=>0,Nat.zero_le _,rfl,hB1,fun i hi=>by omega,hb1⟩
    case round=>
      obtain ⟨k,r,hk,rfl,hB,HV,hbw⟩:=hrel
      by_cases hlt:k<N
      · have c1:=(hbw.cell (p:=⟨ba,fa+(q+k),none⟩) hba).trans (hca (q+k) (by omega))
        have cg:=hB.cell hlt
        have fg:=hB.frozen k
        have hB2:=hB.store k (a (q+k)/2^p)
        by_cases hl2:q+k+1<n
        · have dx:=da (q+k) (by omega)
          have dy:=da (q+k+1) (by omega)
          obtain ⟨s0,s1,s2,s3,s4⟩:=shr_part dx dy hp
          obtain ⟨t0,t1,t2⟩:=shl_dig dy (show 30-p<=30 by omega)
          have hw:wrap64 (a (q+k+1)*2^(30-p))=a (q+k+1)*2^(30-p):=IntWalk.wrap64_in _ ⟨by omega,by omega⟩
          have h30:bits .and .i64 (a (q+k+1)*2^(30-p)) 1073741823=a (q+k+1) % 2^p*2^(30-p):=(and_30 _).trans s2
          have hor:bits .or .i64 (a (q+k)/2^p) (a (q+k+1) % 2^p*2^(30-p))=a (q+k)/2^p+a (q+k+1) % 2^p*2^(30-p):=or_add _ _ _ s0 s1 s3 (by have:(2:Int)^(30-p)<=2^30:=two_le (by omega); omega)
          have c2:=(hbw.cell (p:=⟨ba,fa+(q+k+1),none⟩) hba).trans (hca (q+k+1) (by omega))
          clear s2
          go_wp2
          go_region
          go_wp2
          go_roundw
          case rel=>exact ⟨k+1,upd (upd r k (a (q+k)/2^p)) k (a (q+k)/2^p+a (q+k+1) % 2^p*2^(30-p)),by omega,by go_num,(hB2.store k _).of_block rfl,fun i hi=>by
              by_cases e:i=k
              · rw [e,upd_same]
                show _=ext a n (q+k)/2^p+ext a n (q+(k+1)) % 2^p*2^(30-p)
                rw [ext_lt a (by omega),ext_lt a (by omega),Nat.add_assoc]
              · rw [upd_other _ _ e,upd_other r _ e]; exact HV.out i (by omega),((hbw.setCell (Nat.le_refl _) _).setCell (Nat.le_refl _) _).drew⟩
          case measure=>simp [intOf]; omega
        · go_wp2
          go_roundw
          case rel=>exact ⟨k+1,upd r k (a (q+k)/2^p),by omega,by go_num,hB2,fun i hi=>by
              by_cases e:i=k
              · rw [e,upd_same,low_last (s:=fun j=>ext a n (q+j)) (ext_ge a (by omega)),ext_lt a (by omega)]
              · rw [upd_other r _ e]; exact HV.out i (by omega),hbw.setCell (Nat.le_refl _) _⟩
          case measure=>simp [intOf]; omega
      · obtain rfl:k=N:=by omega
        go_wp2_with (go_at_call 222; refine (trim_any _ _ _ _ _ (hB.row0 (Nat.le_refl _) (by omega))).mono ?_; rintro e w3 ⟨t,ht,htop,hz,rfl,rfl⟩)
        go_ret
        have DS:Dig (fun j=>ext a n (q+j)) (k+1):=fun i hi=>ext_dig da (q+k+1) (q+i) (by omega)
        have D2:Dig r k:=(low_dig hu HU.out DS).congr fun i hi=>(HV.out i hi).symm
        obtain ⟨hNr,hv⟩:=nrm_of_top D2 ht htop hz
        refine ⟨_,rfl,t,r,hB.cut (Nat.le_refl _) ht (by omega),hNr,?_,hbw⟩
        rw [hv,val_congr HV.out,low_eq (s:=fun j=>ext a n (q+j)) hu HU.out (ext_ge a (by omega))]
        have e3:=val_drop a (show q<=n by omega) da
        rw [<- e3,show n-q=k by omega]
        congr 1
        exact val_congr fun i hi=>ext_lt a (by omega)
theorem lower_any (ao:Option Addr) (n ca k:Nat) (a:Nat->Int) (w:World) (ha:Row w ao n ca a) (da:Dig a n) (hn:n<=100000) (hk:(k:Int)<9223372036854775808) :
  Calls Tryz.prog 225 #[.slice ao n ca,.int .i64 k] w fun e w'=>∃ v,e=.returned v∧Ans w w' (val a n/2^k) v:=by
 refine (lower_qp ao n ca (k/30) (k % 30) a w ha da hn (by omega) k (by omega) hk).mono ?_
 rintro e w' ⟨v,he,h⟩
 refine ⟨v,he,?_⟩
 rw [two_split k,<- Int.ediv_ediv_of_nonneg (Int.le_of_lt (P_pos _))]
 exact h
def okN (ng:Bool) (d:Nat->Int) (n:Nat) (e:Int):Bool:=decide ((n=0∧ng=false∧e=0)∨(0<n∧(n<=2000∧Nrm d n)∧d 0 % 2=1∧-1048576<=e∧e<=1048576))
theorem and_one (x:Int):bits .and .i64 x 1=x % 2:=and_i64_mask x 1 (by decide)
theorem dvalid_any (ng:Bool) (ao:Option Addr) (n cap:Nat) (d:Nat->Int) (e:Int) (w:World) (h:Row w ao n cap d) :
  Calls Tryz.prog 135 #[.agg #[.bool ng,.slice ao n cap,.int .i64 e]] w fun r w'=>r=.returned (.bool (okN ng d n e))∧Below w.heap.size w w':=by
 have hl:=h.le
 have hm:=h.max
 by_cases h0:n=0
 ·subst h0
  have e0:okN ng d 0 e=(!ng && (e == 0)):=by
   by_cases he:e=0 <;> cases ng <;> simp [okN,he]
  cases ng
  ·go_enter Tryz.func135,Tryz.ntmps135
   go_wp2
   go_ret
   exact ⟨ret_bool (by rw [e0]; rfl),bel_alloc _ _⟩
  ·go_enter Tryz.func135,Tryz.ntmps135
   go_wp2
   go_ret
   exact ⟨ret_bool (by rw [e0]; rfl),bel_alloc _ _⟩
 ·obtain ⟨b,off,rfl,hb,hc⟩:=h.spot (by omega)
  have c0:(w.alloc (.cells #[.bool ng,.slice (some ⟨b,off,none⟩) n cap,.int .i64 e] 40)).cell? ⟨b,off,none⟩=some (.int .i64 (d 0)):=((bel_alloc w _).cell (p:=⟨b,off,none⟩) hb).trans (hc 0 (by omega))
  have hA:=and_one (d 0)
  have hn0:((n:Int) == 0)=false:=by simp; omega
  have hR:=h.alloc (.cells #[.bool ng,.slice (some ⟨b,off,none⟩) n cap,.int .i64 e] 40)
  by_cases h1:d 0 % 2=1
  ·by_cases h2:-1048576<=e
   ·by_cases h3:e<=1048576
    ·have e0:okN ng d n e=okB d n:=by simp [okN,okB,h0,h1,h2,h3]; omega
     go_enter Tryz.func135,Tryz.ntmps135
     go_wp2_with (go_at_call 193; refine (valid_any _ _ _ _ _ hR).mono ?_; rintro r w1 ⟨rfl,rfl⟩)
     go_ret
     exact ⟨ret_bool e0.symm,bel_alloc _ _⟩
    ·have e0:okN ng d n e=false:=by simp [okN]; omega
     go_enter Tryz.func135,Tryz.ntmps135
     go_wp2
     go_ret
     exact ⟨ret_bool (by first | rfl | rw [e0]),bel_alloc _ _⟩
   ·have e0:okN ng d n e=false:=by simp [okN]; omega
    go_enter Tryz.func135,Tryz.ntmps135
    go_wp2
    go_ret
    exact ⟨ret_bool (by first | rfl | rw [e0]),bel_alloc _ _⟩
  ·have e0:okN ng d n e=false:=by simp [okN]; omega
   go_enter Tryz.func135,Tryz.ntmps135
   go_wp2
   go_ret
   exact ⟨ret_bool (by first | rfl | rw [e0]),bel_alloc _ _⟩
def sgn (ng:Bool) (n:Nat):Int:=if n=0 then 0 else if ng then -1 else 1
theorem dsign_any (ng:Bool) (ao:Option Addr) (n cap:Nat) (e:Int) (w:World) (hm:n<=9223372036854775807) :
  Calls Tryz.prog 136 #[.agg #[.bool ng,.slice ao n cap,.int .i64 e]] w fun r w'=>r=.returned (.int .i64 (sgn ng n))∧Below w.heap.size w w':=by
 by_cases h0:n=0
 ·subst h0
  go_enter Tryz.func136,Tryz.ntmps136
  go_wp2
  go_ret
  exact ⟨rfl,bel_alloc _ _⟩
 ·have hn0:((n:Int) == 0)=false:=by simp; omega
  cases ng
  ·go_enter Tryz.func136,Tryz.ntmps136
   go_wp2
   go_ret
   exact ⟨ret_int (by simp [sgn,h0]),bel_alloc _ _⟩
  ·go_enter Tryz.func136,Tryz.ntmps136
   go_wp2
   go_ret
   exact ⟨ret_int (by simp [sgn,h0]),bel_alloc _ _⟩
theorem dtop_any (ng:Bool) (ao:Option Addr) (n cap:Nat) (d:Nat->Int) (e:Int) (w:World) (h:Row w ao n cap d) (hd:Nrm d n) (hn:n<=100000) (he0:-8388608<=e) (he1:e<=8388608) :
  Calls Tryz.prog 270 #[.agg #[.bool ng,.slice ao n cap,.int .i64 e]] w fun r w'=>r=.returned (.int .i64 (e+blen (val d n)))∧Below w.heap.size w w':=by
 have hR:=h.alloc (.cells #[.bool ng,.slice ao n cap,.int .i64 e] 40)
 have hb:blen (val d n)<=30*n:=blen_le (by rw [<- P_two]; exact val_lt hd.1)
 go_enter Tryz.func270,Tryz.ntmps270
 go_wp2
 go_quiet ((refine (bitLength_any _ _ _ _ _ (hR.keeps (bDrewN (bel_refl _) _)) hd (by omega)).mono ?_; rintro _ _ ⟨rfl,rfl⟩; exact ⟨rfl,_,rfl⟩))
 go_wp2
 go_ret
 exact ⟨rfl,bDrewN (bel_alloc _ _) _⟩
structure NumR where
 ng:Bool
 ao:Option Addr
 n:Nat
 cap:Nat
 d:Nat->Int
 e:Int
instance:Inhabited NumR:=⟨⟨false,none,0,0,fun _=>0,0⟩⟩
def NumR.v (r:NumR):Value:=.agg #[.bool r.ng,.slice r.ao r.n r.cap,.int .i64 r.e]
structure At3 (w:World) (b o:Nat) (r:NumR):Prop where
 c0:w.cell? ⟨b,o,none⟩=some (.bool r.ng)
 c1:w.cell? ⟨b,o+1,none⟩=some (.slice r.ao r.n r.cap)
 c2:w.cell? ⟨b,o+2,none⟩=some (.int .i64 r.e)
 row:Row w r.ao r.n r.cap r.d
structure Nums (w:World) (ao:Option Addr) (n cap:Nat) (r:Nat->NumR):Prop where
 le:n<=cap
 max:cap<=9223372036854775807
 spot:0<n->∃ b off,ao=some ⟨b,off,none⟩∧b<w.heap.size∧∀ i,i<n->At3 w b (off+i*3) (r i)
theorem At3.keeps {w w':World} {b o:Nat} {r:NumR} (h:At3 w b o r) (hb:Below w.heap.size w w') (hlt:b<w.heap.size):At3 w' b o r :=
 ⟨(hb.cell (p:=⟨b,o,none⟩) hlt).trans h.c0,(hb.cell (p:=⟨b,o+1,none⟩) hlt).trans h.c1,(hb.cell (p:=⟨b,o+2,none⟩) hlt).trans h.c2,h.row.keeps hb⟩
theorem Nums.keeps {w w':World} {ao:Option Addr} {n cap:Nat} {r:Nat->NumR} (h:Nums w ao n cap r) (hb:Below w.heap.size w w'):Nums w' ao n cap r :=
  ⟨h.le,h.max,fun hn=>by
    obtain ⟨b,off,rfl,hlt,hc⟩:=h.spot hn
    exact ⟨b,off,rfl,Nat.lt_of_lt_of_le hlt hb.size,fun i hi=>(hc i hi).keeps hb hlt⟩⟩
def okR (r:NumR):Bool:=okN r.ng r.d r.n r.e
def allOk (r:Nat->NumR) (n:Nat):Bool:=decide (∀ i,i<n->okR (r i)=true)
theorem dvalids_any (ao:Option Addr) (n cap:Nat) (r:Nat->NumR) (w:World) (h:Nums w ao n cap r) :
    Calls Tryz.prog 162 #[.slice ao n cap] w fun x w'=>x=.returned (.bool (allOk r n))∧Below w.heap.size w w':=by
  have hl:=h.le
  have hm:=h.max
  go_enter Tryz.func162,Tryz.ntmps162
  go_wp2_with fail
  go_loopw [7] (fun i wr=>∃ k:Nat,k<=n∧i=.int .i64 k∧Hid (∀ j,j<k->okR (r j)=true)∧Below w.heap.size w wr) (fun i _=>n-(intOf i).toNat)
  case atStart=>exact ⟨0,Nat.zero_le _,rfl,fun j hj=>by omega,bel_refl _⟩
  case round=>
    obtain ⟨k,hk,rfl,HO,hbw⟩:=hrel
    by_cases hlt:k<n
    · obtain ⟨b,off,rfl,hb,hc⟩:=h.spot (by omega)
      obtain ⟨c0,c1,c2,hR⟩:=(hc k hlt).keeps hbw hb
      generalize hr:r k=x at *
      obtain ⟨ng,xo,xn,xc,xd,xe⟩:=x
      simp only at c0 c1 c2 hR
      by_cases hok:okN ng xd xn xe=true
      · go_wp2_with (go_at_call 135; refine (dvalid_any ng xo xn xc xd xe _ (hR.alloc _)).mono ?_; rintro x w1 ⟨rfl,hb1⟩)
        go_roundw
        case rel=>exact ⟨k+1,by omega,by go_num,fun j hj=>by
            by_cases e:j=k
            · subst e; rw [hr]; exact hok
            · exact HO.out j (by omega),hbw.trans ((bel_trans (bel_alloc _ _) hb1).mono hbw.size)⟩
        case measure=>simp [intOf]; omega
      · have hok':okN ng xd xn xe=false:=by simpa using hok
        go_wp2_with (go_at_call 135; refine (dvalid_any ng xo xn xc xd xe _ (hR.alloc _)).mono ?_; rintro x w1 ⟨rfl,hb1⟩)
        go_ret
        exact ⟨ret_bool (by
          symm
          refine decide_eq_false fun hx=>?_
          have:=hx k hlt
          rw [hr] at this
          exact hok this),hbw.trans ((bel_trans (bel_alloc _ _) hb1).mono hbw.size)⟩
    · obtain rfl:k=n:=by omega
      go_wp2
      go_ret
      exact ⟨ret_bool (decide_eq_true HO.out).symm,hbw⟩
theorem product_any (ao bo:Option Addr) (n m ca cb:Nat) (a b:Nat->Int) (w:World) (ha:Row w ao n ca a) (hb:Row w bo m cb b) (da:Dig a n) (db:Dig b m) (hn:n<=100000) (hm:m<=100000) :
  Calls Tryz.prog 226 #[.slice ao n ca,.slice bo m cb] w fun e w'=>∃ v,e=.returned v∧Ans w w' (val a n*val b m) v:=by
 have hla:=ha.le
 have hma:=ha.max
 have hlb:=hb.le
 have hmb:=hb.max
 go_enter Tryz.func226,Tryz.ntmps226
 go_wp2_with (at_make; refine wpList_mk rfl _ _ rfl _ _ (n+m) rfl rfl (by omega) (by omega) (by omega) ?_; intro w1 hB1 hb1)
 go_loopw [18] (fun i wr=>∃ (k:Nat) (r:Nat->Int),k<=n∧i=.int .i64 k∧Blk wr w.heap.size (n+m) r∧Dig r (n+m)∧Hid (∀ t,k+m<=t->r t=0)∧Hid (val r (k+m)=val a k*val b m)∧Below w.heap.size w wr) (fun i _=>n-(intOf i).toNat)
 case atStart=>exact ⟨0,fun _=>0,Nat.zero_le _,rfl,hB1,zero_dig _,fun _ _=>rfl,by show _=_; rw [val_zeros (Nat.zero_le (0+m)) (fun _ _ _=>rfl)]; show 0=0*val b m; omega,hb1⟩
 case round=>
  obtain ⟨i,r0,hi,rfl,hB0,hD0,HZ0,HV0,hbw0⟩:=hrel
  by_cases hlt:i<n
  ·obtain ⟨ba,fa,rfl,hba,hca⟩:=ha.spot (by omega)
   have dai:=da i hlt
   go_wp2
   go_loopw [8,30] (fun c j wr=>∃ (k:Nat) (q:Int) (r:Nat->Int),k<=m∧j=.int .i64 k∧c=.int .i64 q∧0<=q∧q<1073741824∧Blk wr w.heap.size (n+m) r∧Dig r (n+m)∧Hid (∀ t,i+k<=t->r t=r0 t)∧Hid (val r (i+k)+q*P (i+k)=val r0 (i+k)+a i*val b k*P i)∧Below w.heap.size w wr) (fun _ j _=>m-(intOf j).toNat)
   case atStart=>exact ⟨0,0,r0,Nat.zero_le _,rfl,rfl,by omega,by omega,hB0,hD0,fun _ _=>rfl,by show _=_; show val r0 i+0*P i=val r0 i+a i*0*P i; grind,hbw0⟩
   case round=>
    obtain ⟨k,q,r,hk,rfl,rfl,hq0,hq1,hB,hD,HS,HV,hbw⟩:=hrel
    have c1:=(hbw.cell (p:=⟨ba,fa+i,none⟩) hba).trans (hca i hlt)
    by_cases hkm:k<m
    ·obtain ⟨bb,fb,rfl,hbb,hcb⟩:=hb.spot (by omega)
     have c2:=(hbw.cell (p:=⟨bb,fb+k,none⟩) hbb).trans (hcb k hkm)
     have c3:=hB.cell (show i+k<n+m by omega)
     have fg:=hB.frozen (i+k)
     have drk:=hD (i+k) (by omega)
     have hmul:=dig_mul dai (db k hkm)
     have h30:=and_30 (q+(a i*b k+r (i+k)))
     go_wp2
     go_quiet (fail)
     go_wp2
     have hs:=mul_step (b:=b) (j:=k) HV.out (HS.out (i+k) (Nat.le_refl _))
     go_roundw
     case rel=>exact ⟨k+1,_,upd r (i+k) ((q+(a i*b k+r (i+k))) % 1073741824),by omega,by go_num,rfl,by omega,by omega,hB.store (i+k) _,hD.upd _ (mod_dig _),fun t ht=>by rw [upd_other r _ (by omega)]; exact HS.out t (by omega),hs,(bDrewN hbw _).setCell (Nat.le_refl _) _⟩
     case measure=>simp [intOf]; omega
    ·obtain rfl:k=m:=by omega
     have c3:=hB.cell (show i+k<n+k by omega)
     have fg:=hB.frozen (i+k)
     go_wp2
     have hr:=mul_row HV.out HV0.out
     go_roundw
     case rel=>exact ⟨i+1,upd r (i+k) q,by omega,by go_num,hB.store (i+k) _,hD.upd _ ⟨hq0,hq1⟩,fun t ht=>by rw [upd_other r _ (by omega),HS.out t (by omega)]; exact HZ0.out t (by omega),by show _=_; rw [hr,val_succ],hbw.setCell (Nat.le_refl _) _⟩
     case measure=>simp [intOf]; omega
  ·obtain rfl:i=n:=by omega
   go_wp2_with (go_at_call 222; refine (trim_any _ _ _ _ _ (hB0.row0 (Nat.le_refl _) (by omega))).mono ?_; rintro e w3 ⟨t,ht,htop,hz,rfl,rfl⟩)
   go_ret
   obtain ⟨hN,hv⟩:=nrm_of_top hD0 ht htop hz
   exact ⟨_,rfl,t,r0,hB0.cut (Nat.le_refl _) ht (by omega),hN,by rw [hv,HV0.out],hbw0⟩
def fitV (ao:Option Addr) (t cap:Nat):Value:=if 2000<t then .slice none 0 0 else .slice ao t cap
def fitE (t:Nat):Int:=if 2000<t then 2 else 0
theorem Fit.of {w w':World} {V:Int} {ao:Option Addr} {t cap:Nat} {d:Nat->Int} (h1:Out w.heap.size w' (.slice ao t cap) t d) (h2:Nrm d t) (h3:val d t=V) (hb:Below w.heap.size w w'):Fit w w' V (fitV ao t cap) (fitE t):=by
 refine ⟨hb,?_⟩
 by_cases h:2000<t
 ·refine .inr ⟨?_,by simp [fitE,h],by simp [fitV,h]⟩
  have a:=val_top h2.1 (by omega) h2.2
  have b:=P_le (show 2000<=t-1 by omega)
  omega
 ·refine .inl ⟨?_,by simp [fitE,h],?_⟩
  ·have a:=val_lt h2.1
   have b:=P_le (show t<=2000 by omega)
   omega
  ·rw [show fitV ao t cap=.slice ao t cap by simp [fitV,h]]
   exact ⟨t,d,h1,h2,h3,hb⟩
structure Two (w:World) (ao bo:Option Addr) (n m ca cb:Nat) (a b:Nat->Int):Prop where
 ra:Row w ao n ca a
 rb:Row w bo m cb b
theorem Two.keeps {w w':World} {ao bo:Option Addr} {n m ca cb:Nat} {a b:Nat->Int} (h:Two w ao bo n m ca cb a b) (hb:Below w.heap.size w w'):Two w' ao bo n m ca cb a b:=⟨h.ra.keeps hb,h.rb.keeps hb⟩
instance (n:Nat) (a b:Nat->Int):Decidable (∀ i,i<n->a i=b i):=by infer_instance
theorem Num.ok {d:Nat->Int} {n:Nat} (h:Nrm d n) (hV:val d n<P 2000):okB d n=true:=by
 refine okB_yes ?_ h
 by_cases hk:n<=2000
 ·exact hk
 ·have a:=val_top h.1 (by omega) h.2
  have b:=P_le (show 2000<=n-1 by omega)
  omega
theorem digits_nat (V:Int) (w:World) (h0:0<=V) (h1:V<9223372036854775808) :
    Calls Tryz.prog 304 #[.int .i64 V] w fun e w'=>∃ v,e=.returned v∧Ans w w' V v:=by
  have HM:Hid (V<9223372036854775808):=h1
  clear h1
  go_enter Tryz.func304,Tryz.ntmps304
  go_wp2
  go_loopw [0,3] (fun i v wr=>∃ (x:Int) (k:Nat) (r:Nat->Int),i=.int .i64 x∧0<=x∧k<=3∧Out w.heap.size wr v k r∧Dig r k∧Hid (x*P k<=V)∧Hid (x=0->Top r k)∧Hid (val r k+x*P k=V)∧Below w.heap.size w wr) (fun i _ _=>(intOf i).toNat)
  case atStart=>exact ⟨V,0,fun _=>0,rfl,h0,by omega,Out.nil _ _ _,fun i hi=>by omega,by show _<=_; show V*1<=V; omega,fun _=>.inl rfl,by show _=_; show 0+V*1=V; omega,bel_refl _⟩
  case round=>
    obtain ⟨x,k,r,rfl,hx,hk3,hO,hD,HB,HT,HV,hbw⟩:=hrel
    by_cases hp:0<x
    · have h30:=and_30 x
      have hk2:k<=2:=by
        by_cases e:k=3
        · subst e
          have a:=HB.out
          have b:=HM.out
          have c:P 3=1073741824*1073741824*1073741824:=by decide
          have d:1*P 3<=x*P 3:=Int.mul_le_mul_of_nonneg_right (by omega) (Int.le_of_lt (P_pos 3))
          omega
        · omega
      go_wp2_with (at_builtin; refine wpList_app rfl _ _ rfl w.heap.size _ k r rfl (hO.stays (bel_alloc _ _)) _ 1 1 (fun _=>x % 1073741824) rfl (row1 _ _ rfl) (by omega) (by have:=hbw.size; simp; omega) ?_; intro v' w1 hO1 hg1)
      have hb1:Below w.heap.size w w1:=(hbw.alloc hbw.size _).grown hg1 (by have:=hbw.size; simp; omega) (own_ge hO)
      have e1:∀ i,i<k+1->cat r k (fun _=>x % 1073741824) i=upd r k (x % 1073741824) i:=fun i hi=>by
        by_cases e:i<k
        · simp [cat,e,upd_other r _ (show i≠k by omega)]
        · obtain rfl:i=k:=by omega
          simp [cat,upd_same]
      have hs:=sum_step (c:=0) (x:=x) (show val r k+0*P k=val r k by omega)
      rw [Int.zero_add] at hs
      go_roundw
      case rel=>exact ⟨x/1073741824,k+1,upd r k (x % 1073741824),rfl,by omega,by omega,hO1.congr e1,dig_snoc ((hD.congr (fun i hi=>(upd_other r _ (by omega)).symm))) (by rw [upd_same]; omega) (by rw [upd_same]; omega),by
          show _<=_
          have a:=HB.out
          rw [P_succ,show x/1073741824*(P k*1073741824)=(x/1073741824*1073741824)*P k by grind]
          have b:(x/1073741824*1073741824)*P k<=x*P k:=Int.mul_le_mul_of_nonneg_right (by omega) (Int.le_of_lt (P_pos k))
          omega,fun e=>.inr (by rw [Nat.add_sub_cancel,upd_same]; omega),by show _=_; rw [hs]; exact HV.out,hb1⟩
      case measure=>simp [intOf]; omega
    · obtain rfl:x=0:=by omega
      go_wp2
      go_ret
      exact ⟨_,rfl,k,r,hO,⟨hD,HT.out (by first | rfl | trivial)⟩,by have:=HV.out; omega,hbw⟩
def Gs (U V t:Int):Prop:=0<=t∧t<1073741824∧(t-1)*V<=U∧U<(t+1)*V
structure Stp (u v:Nat->Int) (L:Nat) (U V:Int):Prop where
 du:Dig u (L+3)
 dv:Dig v (L+2)
 top:536870912<=v (L+1)
 eU:U=val u (L+3)
 eV:V=val v (L+2)
 lt:U<1073741824*V
theorem Stp.splitV {u v:Nat->Int} {L:Nat} {U V:Int} (h:Stp u v L U V):V=(v (L+1)*1073741824+v L)*P L+val v L:=by
 rw [h.eV,val_succ,val_succ,P_succ]; grind
theorem Stp.splitU {u v:Nat->Int} {L:Nat} {U V:Int} (h:Stp u v L U V):U=((u (L+2)*1073741824+u (L+1))*1073741824+u L)*P L+val u L:=by
 rw [h.eU,val_succ,val_succ,val_succ,show P (L+2)=P L*1073741824*1073741824 from rfl,show P (L+1)=P L*1073741824 from rfl]; grind
theorem Stp.topU {u v:Nat->Int} {L:Nat} {U V:Int} (h:Stp u v L U V):u (L+2)<=v (L+1):=by
 have h1:val u (L+3)=val u (L+2)+u (L+2)*P (L+2):=val_succ _ _
 have h2:val v (L+2)=val v (L+1)+v (L+1)*P (L+1):=val_succ _ _
 have a:=val_nonneg (h.du.le (show L+2<=L+3 by omega))
 have b:=val_lt (h.dv.le (show L+1<=L+2 by omega))
 have c:=h.lt
 rw [h.eU,h.eV,h1,h2] at c
 have p:=P_pos (L+1)
 have e:P (L+2)=P (L+1)*1073741824:=P_succ _
 rw [e] at c
 rcases Int.lt_or_le (v (L+1)) (u (L+2)) with q | q
 ·have f:(v (L+1)+1)*(P (L+1)*1073741824)<=u (L+2)*(P (L+1)*1073741824):=mul_le_r (by omega) (by omega)
  have g:(v (L+1)+1)*(P (L+1)*1073741824)=1073741824*(v (L+1)*P (L+1))+1073741824*P (L+1):=by grind
  omega
 ·exact q
theorem Stp.start {u v:Nat->Int} {L:Nat} {U V:Int} (h:Stp u v L U V) {t l:Int} (ht:0<=t) (hh:u (L+2)*1073741824+u (L+1)=t*v (L+1)+l) (hl:l<v (L+1)):U<(t+1)*V:=by
 have sU:=h.splitU
 have sV:=h.splitV
 have p:=P_pos L
 have a:=val_lt (h.du.le (show L<=L+3 by omega))
 have b:=val_nonneg (h.dv.le (show L<=L+2 by omega))
 have dL:=h.du L (by omega)
 have vL:=h.dv L (by omega)
 have e1:(u (L+2)*1073741824+u (L+1)+1)*(1073741824*P L)<=(t+1)*v (L+1)*(1073741824*P L):=mul_le_r (by rw [Int.add_mul]; omega) (by omega)
 have e2:0<=(t+1)*(v L*P L+val v L):=Int.mul_nonneg (by omega) (by have:=Int.mul_nonneg vL.1 (Int.le_of_lt p); omega)
 have e3:(t+1)*V=(t+1)*v (L+1)*(1073741824*P L)+(t+1)*(v L*P L+val v L):=by rw [sV]; grind
 have e4:U=(u (L+2)*1073741824+u (L+1)+1)*(1073741824*P L)-1073741824*P L+u L*P L+val u L:=by rw [sU]; grind
 have e5:u L*P L<=1073741823*P L:=mul_le_r (by omega) (by omega)
 omega
theorem Stp.small {u v:Nat->Int} {L:Nat} {U V:Int} (h:Stp u v L U V) {t l:Int} (hh:u (L+2)*1073741824+u (L+1)=t*v (L+1)+l) (hl:1073741823<l):t<1073741824:=by
 rcases Int.lt_or_le t 1073741824 with q | q
 ·exact q
 ·have a:=h.topU
  have b:=(h.du (L+1) (by omega)).2
  have c:=(h.dv (L+1) (by omega)).1
  have e:1073741824*v (L+1)<=t*v (L+1):=mul_le_r q c
  omega
theorem Stp.long {u v:Nat->Int} {L:Nat} {U V:Int} (h:Stp u v L U V) {t l:Int} (ht:0<=t) (hh:u (L+2)*1073741824+u (L+1)=t*v (L+1)+l) (hl:1073741823<l) (hU:U<(t+1)*V):Gs U V t:=by
 have a:=knuth_long h.splitV (val_lt (h.dv.le (by omega))) (h.dv L (by omega)).2 h.splitU (val_nonneg (h.du.le (by omega))) (h.du L (by omega)).1 (P_pos L) hh ht (h.small hh hl) (by omega)
 have:=val_nonneg h.dv
 rw [<- h.eV] at this
 exact ⟨ht,h.small hh hl,by rw [Int.sub_mul]; omega,hU⟩
theorem Stp.done {u v:Nat->Int} {L:Nat} {U V:Int} (h:Stp u v L U V) {t l:Int} (ht:0<=t) (hh:u (L+2)*1073741824+u (L+1)=t*v (L+1)+l) (h1:t<1073741824) (hc:t*v L<=l*1073741824+u L) (hU:U<(t+1)*V):Gs U V t :=
 ⟨ht,h1,knuth_short h.splitV (val_nonneg (h.dv.le (by omega))) (val_lt (h.dv.le (by omega))) (by have:=h.top; omega) (h.dv L (by omega)).1 h.splitU (val_nonneg (h.du.le (by omega))) (P_pos L) hh ht h1 hc,hU⟩
theorem RowX.row {g:Nat} {w:World} {ao:Option Addr} {n cap:Nat} {d:Nat->Int} (h:RowX g w ao n cap d) (hn:0<n):Row w ao n cap d :=
  ⟨h.le,h.max,(fun e=>by obtain ⟨b,off,q,_⟩:=h.spot hn; rw [q] at e; cases e),fun _=>by
    obtain ⟨b,off,q,hlt,_,hc⟩:=h.spot hn
    exact ⟨b,off,q,hlt,hc⟩⟩
def Tk (g N at_ M:Nat) (r:Nat->Int) (w w':World) (U V t:Int):Prop :=
 ∃ r',Blk w' g N r'∧(∀ i,i<at_∨at_+M<i->r' i=r i)∧Dig (fun i=>r' (at_+i)) (M+1)∧U=t*V+val (fun i=>r' (at_+i)) (M+1)∧val (fun i=>r' (at_+i)) (M+1)<V∧0<=t∧t<1073741824∧Wr g w w'
theorem Blk.cells {w:World} {g N:Nat} {r:Nat->Int} (h:Blk w g N r) {at_ n:Nat} (hn:at_+n<=N):∀ i,i<n->w.cell? ⟨g,at_+i,none⟩=some (.int .i64 ((fun j=>r (at_+j)) i)):=fun i hi=>h.cell (by omega)
theorem Out.cut {B:Nat} {w:World} {ao:Option Addr} {n cap m:Nat} {d:Nat->Int} (h:Out B w (.slice ao n cap) n d) (hm:m<=n):Out B w (.slice ao m cap) m d:=by
 refine ⟨by rw [vals_length]; omega,?_⟩
 rcases h.2 with ⟨hn,h0⟩ | ⟨g,cap',cur,hv,hB,hg,hnc,hcm,hs,ht⟩
 ·simp only [Value.slice.injEq] at hn
  obtain ⟨rfl,rfl,rfl⟩:=hn
  obtain rfl:m=0:=by omega
  exact .inl ⟨rfl,rfl⟩
 ·simp only [Value.slice.injEq] at hv
  obtain ⟨rfl,_,rfl⟩:=hv
  refine .inr ⟨g,cap,cur,rfl,hB,hg,by omega,hcm,hs,?_⟩
  apply vals_ext (by simp; omega)
  intro i hi
  have e:(cur.toList.take (n*1))[i]?=(vals d n)[i]?:=by rw [ht]
  rw [List.getElem?_take,if_pos (by omega),vals_get d (by omega)] at e
  rw [List.getElem?_take,if_pos (by omega)]; exact e
def lenOf:Value->Nat | .slice _ t _=>t | _=>0
end Go.Proofs.YtjjihmnbdeeedaaGreatDoor
