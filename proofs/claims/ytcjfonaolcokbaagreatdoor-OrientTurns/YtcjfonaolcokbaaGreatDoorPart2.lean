/- Parts of the proof. -/
import Derived.Test.YtcjfonaolcokbaaGreatDoorPart1
import Derived.Deep.RegionHeld3
import Derived.WalkSmall
import Derived.RowKit3
import Derived.Lib.Strings
import Derived.Lib.Slices
import Derived.Lib.Small
import Derived.Lib.Walk
import Derived.Laws.Bits64b
import Derived.Lib.ItoaNum
import Derived.Deep.Cut
import Derived.BigRegion
import Derived.Lib.SliceRun
set_option maxRecDepth 100000
set_option maxHeartbeats 8000000
set_option linter.unusedVariables false
set_option linter.unusedSimpArgs false
namespace Go.Proofs.YtcjfonaolcokbaaGreatDoor
open Go Go.RowKit Go.Proofs.YtcjfonaolcokbaaGreatDoor.M
def dK (ng:Bool) (mag:Nat) (exp:Int) (cut sd:Bool):Value:=.agg #[.bool ng,.int .u64 mag,.int .i64 exp,.bool cut,.bool sd]
theorem Cx (ng:Bool) (mag:Nat) (exp unit:Int) (cut sd:Bool) (w:World) (k:Nat) (hk:unit-exp=-(k:Int)) (hk2:k<20000000) (hm:mag*2^k<18446744073709551616) :
  Calls Tryz.prog 171 #[dK ng mag exp cut sd,.int .i64 unit] w fun e w'=>e=.returned (.tuple #[.int .u64 (mag*2^k:Nat),.int .i64 0])∧Below w.heap.size w w':=by
 have h0:IntKind.i64.wrap (unit-exp)=-(k:Int):=by rw [bH]; omega
 unfold dK
 go_enter Tryz.func171,Tryz.ntmps171
 have hw:IntKind.u64.wrap ((mag:Int)*2^min k 64)=((mag*2^k:Nat):Int):=by
  rw [IntKind.wrap_u64]
  by_cases h:k<=64
  ·rw [show min k 64=k by omega]
   have e:(mag:Int)*2^k=((mag*2^k:Nat):Int):=by push_cast; rfl
   rw [e]
   omega
  ·have hz:mag=0:=by
    rcases Nat.eq_zero_or_pos mag with h0 | h0
    ·exact h0
    ·have h1:2^64<=2^k:=Nat.pow_le_pow_right (by decide) (by omega)
     have h2:1*2^k<=mag*2^k:=Nat.mul_le_mul_right _ h0
     have h3:(2:Nat)^64=18446744073709551616:=by decide
     omega
   subst hz
   simp
 generalize ((mag*2^k:Nat):Int)=R at hw ⊢
 go_wp2
 refine bodyPost_ret (v:=.tuple #[.int .u64 R,.int .i64 0]) (by simp [results,Tryz.results171,go_sem]) rfl ⟨rfl,ah _ _⟩
theorem Kw {a b c d:Int} (h1:a=c) (h2:b=d):Ending.returned (.tuple #[.int .u64 a,.int .i64 b])=Ending.returned (.tuple #[.int .u64 c,.int .i64 d]):=by rw [h1,h2]
theorem Me {mag k t m:Nat} {cut:Bool} (hk0:0<k) (hm:mag<18446744073709551616) (ht:mag % 2^k=t) (hmid:(if k<=64 then 2^(k-1) else 0)=m):rL mag cut (k:Int)=if t=0∧cut=false then 0 else if t<m∨64<k then 1 else if t=m∧cut=false then 2 else 3:=by
 unfold rL
 rw [if_neg (by omega),Int.toNat_natCast,ht]
 obtain ⟨p,hp,hp0⟩:=wV k hk0
 have hp2:2^(k-1)=p:=by
  have:2^k=2*2^(k-1):=by rw [<- Nat.pow_succ',Nat.succ_eq_add_one,Nat.sub_add_cancel hk0]
  omega
 rw [hp]
 by_cases hk:k<=64
 ·rw [if_pos hk,hp2] at hmid
  subst hmid
  have e1:(2*t<2*p)=(t<p∨64<k):=propext ⟨fun h=>.inl (by omega),fun h=>by omega⟩
  have e2:(2*t=2*p∧cut=false)=(t=p∧cut=false):=propext ⟨fun h=>⟨by omega,h.2⟩,fun h=>⟨by omega,h.2⟩⟩
  simp only [e1,e2]
 ·have hlt:2*t<2*p:=by
   have h1:2^65<=2^k:=Nat.pow_le_pow_right (by decide) (by omega)
   have h2:(2:Nat)^65=36893488147419103232:=by decide
   have h3:=Nat.mod_le mag (2^k)
   omega
  rw [if_pos hlt,if_pos (show t<m∨64<k from .inr (by omega))]
theorem Bg (ng:Bool) (mag:Nat) (exp unit:Int) (cut sd:Bool) (w:World) (k:Nat) (hk:unit-exp=(k:Int)) (hk0:0<k) (hk2:k<20000000) (hm:mag<18446744073709551616) :
  Calls Tryz.prog 171 #[dK ng mag exp cut sd,.int .i64 unit] w fun e w'=>e=.returned (.tuple #[.int .u64 (mag/2^k:Nat),.int .i64 (rL mag cut (k:Int))])∧Below w.heap.size w w':=by
 have h0:IntKind.i64.wrap (unit-exp)=(k:Int):=by rw [bH]; omega
 unfold dK
 obtain ⟨u,hu⟩:∃ u,mag/2^k=u:=⟨_,rfl⟩
 obtain ⟨t,ht⟩:∃ t,mag % 2^k=t:=⟨_,rfl⟩
 obtain ⟨m,hmid⟩:∃ m:Nat,(if k<=64 then 2^(k-1) else 0)=m:=⟨_,rfl⟩
 have hd:=Nat.div_add_mod mag (2^k)
 rw [hu,ht] at hd
 have hpc:∀ n:Nat,(2:Int)^n=((2^n:Nat):Int):=fun n=>by simp
 have hbig:64<k->u=0∧mag/2^64=0:=fun h=>by
  have h1:2^64<=2^k:=Nat.pow_le_pow_right (by decide) (by omega)
  have h2:(2:Nat)^64=18446744073709551616:=by decide
  exact ⟨by rw [<- hu]; exact Nat.div_eq_of_lt (by omega),Nat.div_eq_of_lt (by omega)⟩
 have r1:(mag:Int)/2^min k 64=(u:Int):=by
  rw [hpc,<- Int.natCast_ediv]
  by_cases h:k<=64
  ·rw [show min k 64=k by omega,hu]
  ·obtain ⟨h1,h2⟩:=hbig (by omega)
   rw [show min k 64=64 by omega,h1,h2]
 have r2:IntKind.u64.wrap ((u:Int)*2^min k 64)=(u:Int)*2^k:=by
  rw [IntKind.wrap_u64]
  by_cases h:k<=64
  ·rw [show min k 64=k by omega,hpc,<- Int.natCast_mul]
   have:u*2^k<=mag:=by rw [Nat.mul_comm]; omega
   omega
  ·obtain ⟨h1,_⟩:=hbig (by omega)
   rw [h1]
   simp
 have r3:IntKind.u64.wrap ((mag:Int)-(u:Int)*2^k)=(t:Int):=by
  rw [IntKind.wrap_u64,hpc,<- Int.natCast_mul,Nat.mul_comm]
  have:t<=mag:=by omega
  omega
 have r4:IntKind.i64.wrap ((k:Int)-1)=((k-1:Nat):Int):=by rw [bH]; omega
 have r5:IntKind.u64.wrap ((2:Int)^min (k-1) 64)=(m:Int):=by
  rw [IntKind.wrap_u64,<- hmid]
  by_cases h:k<=64
  ·rw [if_pos h,show min (k-1) 64=k-1 by omega,hpc]
   have h1:2^(k-1)<=2^63:=Nat.pow_le_pow_right (by decide) (by omega)
   have h2:(2:Nat)^63=9223372036854775808:=by decide
   rw [h2] at h1
   generalize 2^(k-1)=p at h1 ⊢
   omega
  ·rw [if_neg h,show min (k-1) 64=64 by omega]
   decide
 have HRL:Hid (rL mag cut (k:Int)=if t=0∧cut=false then 0 else if t<m∨64<k then 1 else if t=m∧cut=false then 2 else 3):=Me hk0 hm ht hmid
 rw [hu]
 clear hd hpc hbig hmid ht hu
 have HW:Hid (IntKind.i64.wrap (unit-exp)=(k:Int)):=h0
 have g0:=heap_alloc_new w (.cells #[.bool ng,.int .u64 mag,.int .i64 exp,.bool cut,.bool sd] 153)
 have k1:=ac g0 1 rfl
 go_enter Tryz.func171,Tryz.ntmps171
 go_wp2
 go_region_held3 (fun W=>W.cell? ⟨w.heap.size,1,none⟩=some (.int .u64 mag))
  (first | assumption | exact k1)
  (fail)
 all_goals go_wp2
 all_goals go_ret2
 all_goals exact ⟨Kw rfl (by rw [HRL.out]; clear HRL; cases cut <;> simp at * <;> (repeat' split) <;> omega),by first | exact (ah _ _).drew | exact ah _ _⟩
theorem Cy (ng:Bool) (mag:Nat) (exp unit:Int) (cut sd:Bool) (w:World) (hm:mag<18446744073709551616) (hu:-5000000<=unit∧unit<=5000000) (he:-5000000<=exp∧exp<=5000000) (hs:unit-exp<=0->rU mag (unit-exp)<18446744073709551616) :
  Calls Tryz.prog 171 #[dK ng mag exp cut sd,.int .i64 unit] w fun e w'=>e=.returned (.tuple #[.int .u64 (rU mag (unit-exp):Nat),.int .i64 (rL mag cut (unit-exp))])∧Below w.heap.size w w':=by
 by_cases h:unit-exp<=0
 ·have:=hs h
  unfold rU rL at *
  rw [if_pos h] at *
  rw [if_pos h]
  exact Cx ng mag exp unit cut sd w (-(unit-exp)).toNat (by omega) (by omega) this
 ·have e:unit-exp=((unit-exp).toNat:Int):=by omega
  have e1:rU mag (unit-exp)=mag/2^(unit-exp).toNat:=by unfold rU; rw [if_neg h]
  rw [e1,e]
  exact Bg ng mag exp unit cut sd w (unit-exp).toNat e (by omega) (by omega) hm
theorem s9 (way:Int) (hw:0<=way∧way<=3) (ng odd:Bool) (left:Int) (w:World):Calls Tryz.prog (jn way) #[.bool ng,.bool odd,.int .i64 left] w fun e w'=>e=.returned (.bool (bM way ng odd left))∧w'=w:=by
 have hc:way=0∨way=1∨way=2∨way=3:=by omega
 rcases hc with rfl | rfl | rfl | rfl
 ·exact Ks ng odd left w
 ·exact Kt ng odd left w
 ·exact Ku ng odd left w
 ·exact Kv ng odd left w
theorem pN (way:Int) (cap:Array Value) (w:World):(callFunc (jn way) cap).run Tryz.prog w=.ok (.enter (jn way) cap) w:=by
 unfold jn
 by_cases h0:way=0
 ·rw [if_pos h0]; simp [go_sem]
 ·rw [if_neg h0]
  by_cases h1:way=1
  ·rw [if_pos h1]; simp [go_sem]
  ·rw [if_neg h1]
   by_cases h2:way=2
   ·rw [if_pos h2]; simp [go_sem]
   ·rw [if_neg h2]; simp [go_sem]
theorem I0 (F:Nat) (R:Bool->Bool->Int->Bool) (ng:Bool) (mag:Nat) (exp unit:Int) (cut sd:Bool) (u:Nat) (left:Int) (w:World) (hE:∀ (cap:Array Value) (w:World),(callFunc F cap).run Tryz.prog w=.ok (.enter F cap) w)
  (hF:∀ ng odd left W,Calls Tryz.prog F #[.bool ng,.bool odd,.int .i64 left] W fun e w'=>e=.returned (.bool (R ng odd left))∧w'=W) (hu:u<18446744073709551615)
  (hS:∀ W,Calls Tryz.prog 171 #[dK ng mag exp cut sd,.int .i64 unit] W fun e w'=>e=.returned (.tuple #[.int .u64 (u:Nat),.int .i64 left])∧Below W.heap.size W w') :
  Calls Tryz.prog 166 #[dK ng mag exp cut sd,.int .i64 unit,.agg #[.func (.func F) #[] #[]]] w fun e w'=>e=.returned (.tuple #[.int .u64 (u+(if R ng (decide (u % 2=1)) left then 1 else 0):Nat),.bool (decide (left≠0))])∧Below w.heap.size w w':=by
 unfold dK at *
 have hb2:=aP w (.cells #[.bool ng,.int .u64 mag,.int .i64 exp,.bool cut,.bool sd] 153) (.cells #[.func (.func F) #[] #[]] 166)
 have q0:=dJ w (.cells #[.bool ng,.int .u64 mag,.int .i64 exp,.bool cut,.bool sd] 153) (.cells #[.func (.func F) #[] #[]] 166)
 have q1:=cR w (.cells #[.bool ng,.int .u64 mag,.int .i64 exp,.bool cut,.bool sd] 153) (.cells #[.func (.func F) #[] #[]] 166)
 obtain ⟨odd,ho⟩:∃ odd,decide (u % 2=1)=odd:=⟨_,rfl⟩
 have hodd:(bits BinOp.and IntKind.u64 (u:Int) 1 == 1)=odd:=by
  rw [and_one_u64 _ (by omega) (by omega),<- ho]
  by_cases h:u % 2=1
  ·rw [decide_eq_true h]; simp; omega
  ·rw [decide_eq_false h]; simp; omega
 rw [ho]
 clear ho
 have hw1:IntKind.u64.wrap ((u:Int)+1)=((u+1:Nat):Int):=by rw [IntKind.wrap_u64]; omega
 go_enter Tryz.func166,Tryz.ntmps166
 go_wp2_with fail
 refine (hS _).mono ?_
 rintro _ w1 ⟨rfl,hb1⟩
 have hbw:=aa hb2 hb1
 have p0:=(hb1.block _ (Array.getElem?_eq_some_iff.1 q0).1).trans q0
 have p1:=(hb1.block _ (Array.getElem?_eq_some_iff.1 q1).1).trans q1
 have k0:=ac p0 0 rfl
 have k1:=ac p1 0 rfl
 clear hS q0 q1 hb1 hb2
 go_wp2_with fail
 refine (hF ng odd left _).mono ?_
 rintro _ _ ⟨rfl,rfl⟩
 cases hR:R ng odd left
 ·have HR:Hid (R ng odd left=false):=hR
  by_cases hl:left=0
  ·go_wp2
   all_goals go_ret2
   all_goals exact ⟨by simp_all,hbw⟩
  ·go_wp2
   all_goals go_ret2
   all_goals exact ⟨by simp_all,hbw⟩
 ·have HR:Hid (R ng odd left=true):=hR
  by_cases hl:left=0
  ·go_wp2
   all_goals go_ret2
   all_goals exact ⟨by simp_all,hbw⟩
  ·go_wp2
   all_goals go_ret2
   all_goals exact ⟨by simp_all,hbw⟩
theorem Cz (way:Int) (hw:0<=way∧way<=3) (ng:Bool) (mag:Nat) (exp unit:Int) (cut sd:Bool) (w:World) (hm:mag<18446744073709551616) (hu:-5000000<=unit∧unit<=5000000) (he:-5000000<=exp∧exp<=5000000) (hs:rU mag (unit-exp)<18446744073709551615) :
  Calls Tryz.prog 166 #[dK ng mag exp cut sd,.int .i64 unit,jq way] w fun e w'=>e=.returned (.tuple #[.int .u64 (rU mag (unit-exp)+(if bM way ng (decide (rU mag (unit-exp) % 2=1)) (rL mag cut (unit-exp)) then 1 else 0):Nat),.bool (decide (rL mag cut (unit-exp)≠0))])∧Below w.heap.size w w' :=
 I0 (jn way) (bM way) ng mag exp unit cut sd _ _ w (pN way) (s9 way hw) hs (fun W=>Cy ng mag exp unit cut sd W hm hu he (fun _=>by omega))
structure ks (w:World):Prop where
 a0:w.cell? ⟨1,0,none⟩=some (.int .i64 52)
 a1:w.cell? ⟨1,1,none⟩=some (.int .i64 2047)
 a2:w.cell? ⟨1,2,none⟩=some (.int .i64 (-1074))
 b0:True
 b1:True
 b2:True
structure Gr (W w':World):Prop where
 gr:Grown W w'
 be:Below W.heap.size W w'
theorem Gr.refl (W:World):Gr W W:=⟨Grown.refl _,Below.refl _ _⟩
theorem Gr.alloc {W w':World} (h:Gr W w') (c:Array Value) (t:TypeId):Gr W (w'.alloc (.cells c t)):=⟨h.gr.alloc c t,h.be.alloc h.be.size _⟩
theorem Gr.drew {W w':World} (h:Gr W w'):Gr W w'.drew:=⟨h.gr.drew,⟨h.be.os,h.be.tape,h.be.output,h.be.size,h.be.block⟩⟩
theorem iO {W w':World} (h:Gr W w') (n:Nat):Gr W (w'.drewN n):=⟨h.gr,⟨h.be.os,h.be.tape,h.be.output,h.be.size,h.be.block⟩⟩
theorem wv {a b:World} (h:Gr a b) {p:Addr} {v:Value} (hc:a.cell? p=some v):b.cell? p=some v:=by
 unfold World.cell? at hc ⊢
 have hlt:p.block<a.heap.size:=by
  by_cases hp:p.block<a.heap.size
  ·exact hp
  ·rw [Array.getElem?_eq_none (by omega)] at hc; simp at hc
 have k:=h.gr.1.2.2 p.block hlt
 cases ha:a.heap[p.block]? with
 | none=>rw [ha] at hc; simp at hc
 | some oa=>
  rw [ha] at hc k
  cases oa with
  | cells c t fr=>
   cases hb:b.heap[p.block]? with
   | none=>rw [hb] at k; simp at k
   | some ob=>
    rw [hb] at k
    cases ob with
    | cells c' t' fr'=>
     simp only at hc k ⊢
     obtain ⟨_,_,_,kc⟩:=k
     rw [kc p.off (fun f=>f)]
     exact hc
    | _=>simp at k
  | _=>simp at hc
theorem ks.grown {w w':World} (h:ks w) (g:Gr w w'):ks w' :=
 ⟨wv g h.a0,wv g h.a1,wv g h.a2,trivial,trivial,trivial⟩
theorem b8 {k:IntKind} {a b:Int} (h:a=b):Ending.returned (.int k a)=.returned (.int k b):=by rw [h]
theorem cd {a b:Bool} (h:a=b):Ending.returned (.bool a)=.returned (.bool b):=by rw [h]
theorem ur {a a' b b':Int} {c c':Bool} (h:a=a') (k:b=b') (l:c=c'):Ending.returned (.tuple #[.int .i64 a,.int .i64 b,.bool c])=.returned (.tuple #[.int .i64 a',.int .i64 b',.bool c']):=by rw [h,k,l]
theorem qG (b:Int) (w:World) :
  Calls Tryz.prog 143 #[.agg #[.int .i64 52,.int .i64 2047,.int .i64 (-1074)],.int .i64 b] w fun e w'=>e=.returned (.tuple #[.int .i64 (bN b),.int .i64 (cf b)])∧∃ n,w'=(w.alloc (.cells #[.int .i64 52,.int .i64 2047,.int .i64 (-1074)] 142)).drewN n:=by
 have h1:bits .and .i64 (b/4503599627370496) 2047=bN b:=wI _
 have h2:bits .and .i64 b 4503599627370495=cf b:=zk _
 go_enter Tryz.func143,Tryz.ntmps143
 go_wp2
 go_quiet (fail)
 go_wp2
 go_ret2
 exact ⟨rfl,_,rfl⟩
theorem I1 (b:Int) (w:World) :
    Calls Tryz.prog 155 #[.agg #[.int .i64 52,.int .i64 2047,.int .i64 (-1074)],.int .i64 b] w fun e w'=>e=.returned (.int .i64 (aG b))∧Gr w w':=by
  by_cases h1:bN b=2047 <;> by_cases h2:cf b=0 <;> by_cases h3:bN b=0
  all_goals first
    | (exfalso; omega)
    | (go_enter Tryz.func155,Tryz.ntmps155
       go_wp2_with (go_at_call 143; refine (qG _ _).mono ?_; rintro e w1 ⟨rfl,n,rfl⟩)
       go_ret
       exact ⟨b8 (by simp [aG,h1,h2,h3]),iO (((Gr.refl _).alloc _ _).alloc _ _) _⟩)
theorem I2 (b:Int) (w:World) :
  Calls Tryz.prog 114 #[.agg #[.int .i64 52,.int .i64 2047,.int .i64 (-1074)],.int .i64 b] w fun e w'=>e=.returned (.tuple #[.int .i64 (aK b),.int .i64 (bi b),.bool (ak b)])∧Gr w w':=by
 have hf:=wL b
 have hr:=pD b
 by_cases h1:bN b=2047
 ·go_enter Tryz.func114,Tryz.ntmps114
  go_wp2_with (go_at_call 143; refine (qG _ _).mono ?_; rintro e w1 ⟨rfl,n,rfl⟩)
  go_ret3
  exact ⟨ur (by simp [aK,h1]) (by simp [bi,h1]) (by simp [ak,h1]),iO (((Gr.refl _).alloc _ _).alloc _ _) _⟩
 ·by_cases h2:bN b=0
  ·go_enter Tryz.func114,Tryz.ntmps114
   go_wp2_with (go_at_call 143; refine (qG _ _).mono ?_; rintro e w1 ⟨rfl,n,rfl⟩)
   go_quiet (fail)
   go_wp2
   go_ret3
   exact ⟨ur (by simp [aK,h1,h2]) (by simp [bi,h1,h2]) (by simp [ak,h1]),iO (iO (((Gr.refl _).alloc _ _).alloc _ _) _) _⟩
  ·go_enter Tryz.func114,Tryz.ntmps114
   go_wp2_with (go_at_call 143; refine (qG _ _).mono ?_; rintro e w1 ⟨rfl,n,rfl⟩)
   go_quiet (fail)
   go_wp2
   go_ret3
   exact ⟨ur (by simp [aK,h1,h2]) (by simp [bi,h1,h2]; omega) (by simp [ak,h1]),iO (iO (((Gr.refl _).alloc _ _).alloc _ _) _) _⟩
theorem li {a a':Int} {c c':Bool} (h:a=a') (l:c=c'):Ending.returned (.tuple #[.int .i64 a,.bool c])=.returned (.tuple #[.int .i64 a',.bool c']):=by rw [h,l]
def iG (w:World):Prop:=∀ j,j<64->w.cell? ⟨3,j,none⟩=some (.int .u8 ((Lib.deBruijn64tab.getD j 0:Nat):Int))
theorem iG.grown {w w':World} (h:iG w) (g:Gr w w'):iG w':=fun j hj=>wv g (h j hj)
theorem Fr (x a:Nat) (hx:x<18446744073709551616) (hx0:x≠0) (hlow:x &&& (18446744073709551616-x)=a) :
  IntKind.u64.wrap (bits .and .u64 (x:Int) (IntKind.u64.wrap (-(x:Int)))*285870213051353865)/288230376151711744=((a*285870213051353865 % 18446744073709551616/288230376151711744:Nat):Int):=by
 have e1:IntKind.u64.wrap (-(x:Int))=((18446744073709551616-x:Nat):Int):=by rw [IntKind.wrap_u64]; omega
 rw [e1,bits_and_u64_nat x _ hx (by omega),hlow,IntKind.wrap_u64]
 omega
theorem CH (x k idx:Nat) (w:World) (hx0:((x:Int) == 0)=false)
  (au:IntKind.u64.wrap (bits .and .u64 (x:Int) (IntKind.u64.wrap (-(x:Int)))*285870213051353865)/288230376151711744=(idx:Int))
  (hi:idx<64) (hk:k<64) (hcell:w.cell? ⟨3,idx,none⟩=some (.int .u8 k)) :
  Calls Tryz.prog 137 #[.int .u64 x] w fun e w'=>e=.returned (.int .i64 k)∧w'=w:=by
 go_enter Tryz.func137,Tryz.ntmps137
 go_wp2_with (simp only [au])
 go_ret
 exact ⟨rfl,rfl⟩
theorem lH (x:Nat) (hx:x<18446744073709551616) (h0:x≠0) (w:World) (hT:iG w) :
  Calls Tryz.prog 137 #[.int .u64 x] w fun e w'=>e=.returned (.int .i64 (Lib.ctz 64 x))∧w'=w:=by
 obtain ⟨hlow,hk⟩:=Lib.lowest_bit 64 x h0 hx
 obtain ⟨hi,htab⟩:=Lib.deBruijn64_at _ hk
 have hcell:=hT _ hi
 rw [htab] at hcell
 exact CH x _ _ w (by simp; omega) (Fr x _ hx h0 hlow) hi hk hcell
theorem fC (x q:Int) (s:Nat) (h:q.toNat<Lib.len8tab.size) (hq0:0<=q) (hq:q<=255) (hs:s<=56) (hb:Lib.bitLen x.toNat=s+Lib.bitLen q.toNat) :
  wrap64 ((s:Int)+wrap64 ((Lib.len8tab[q.toNat]'h).toNat:Int))=(Lib.bitLen x.toNat:Int):=by
 have e:=Lib.len8_of q hq0 hq
 have l:=Lib.bitLen_le8' q hq0 hq
 unfold Lib.len8 at e
 rw [getElem?_pos Lib.len8tab q.toNat h] at e
 simp only [Option.getD_some] at e
 rw [e,hb]
 unfold wrap64
 omega
theorem wY (x:Int) (h:x.toNat<Lib.len8tab.size) (hq0:0<=x) (hq:x<=255) :
  wrap64 (wrap64 ((Lib.len8tab[x.toNat]'h).toNat:Int))=(Lib.bitLen x.toNat:Int):=by
 have:=fC x x 0 h hq0 hq (by omega) (by omega)
 simpa using this
theorem kI (x q:Int) (s:Nat) (h0:0<=x) (h1:x<=18446744073709551615) (hx:((2^s:Nat):Int)<=x) (e:q=x/((2^s:Nat):Int)):Lib.bitLen x.toNat=s+Lib.bitLen q.toNat:=by
 rw [Lib.bitLen_shift s x.toNat (by omega) (by omega),e]
 congr 2
 obtain ⟨n,rfl⟩:=Int.eq_ofNat_of_zero_le h0
 rw [<- Int.natCast_ediv,Int.toNat_natCast,Int.toNat_natCast]
theorem zT (x:Int) (w:World) (h0:0<=x) (h1:x<=18446744073709551615) :
  Calls Tryz.prog 139 #[.int .u64 x] w fun e w'=>e=.returned (.int .i64 (Lib.bitLen x.toNat))∧w'=w:=by
 have hs:Lib.len8tab.size=256:=by decide +kernel
 go_enter Tryz.func139,Tryz.ntmps139
 go_wp2
 all_goals go_ret
 ·exact ⟨b8 (fC x _ 56 _ (by omega) (by omega) (by omega) (kI x _ 56 h0 h1 (by omega) (by omega))),rfl⟩
 ·exact ⟨b8 (fC x _ 48 _ (by omega) (by omega) (by omega) (kI x _ 48 h0 h1 (by omega) (by omega))),rfl⟩
 ·exact ⟨b8 (fC x _ 40 _ (by omega) (by omega) (by omega) (kI x _ 40 h0 h1 (by omega) (by omega))),rfl⟩
 ·exact ⟨b8 (fC x _ 32 _ (by omega) (by omega) (by omega) (kI x _ 32 h0 h1 (by omega) (by omega))),rfl⟩
 ·exact ⟨b8 (fC x _ 24 _ (by omega) (by omega) (by omega) (kI x _ 24 h0 h1 (by omega) (by omega))),rfl⟩
 ·exact ⟨b8 (fC x _ 16 _ (by omega) (by omega) (by omega) (kI x _ 16 h0 h1 (by omega) (by omega))),rfl⟩
 ·exact ⟨b8 (fC x _ 8 _ (by omega) (by omega) (by omega) (kI x _ 8 h0 h1 (by omega) (by omega))),rfl⟩
 ·exact ⟨b8 (wY x _ (by omega) (by omega)),rfl⟩
theorem Mf (x:Int) (w:World) (h0:0<=x) (h1:x<=18446744073709551615):Calls Tryz.prog 109 #[.int .u64 x] w fun e w'=>e=.returned (.int .i64 (Lib.bitLen x.toNat))∧w'=w:=by
 go_enter Tryz.func109,Tryz.ntmps109
 go_wp2_with (go_at_call 139; refine (zT x _ h0 h1).mono ?_; rintro _ _ ⟨rfl,rfl⟩)
 go_ret
 exact ⟨rfl,rfl⟩
theorem I3 (F:Nat) (ng:Bool) (mag:Nat) (exp size least:Int) (cut sd:Bool) (U:Nat) (E:Int) (other:Bool) (w:World) (hm:mag<18446744073709551616) (he:-4500000<=exp∧exp<=4500000) (hs:0<=size∧size<=64) (hl:-2000<=least∧least<=0) (hE:rE size least mag exp=E) (hU:U<9223372036854775808)
  (hC:∀ W,Calls Tryz.prog 166 #[dK ng mag exp cut sd,.int .i64 E,.agg #[.func (.func F) #[] #[]]] W fun e w'=>e=.returned (.tuple #[.int .u64 (U:Nat),.bool other])∧Below W.heap.size W w') :
  Calls Tryz.prog 150 #[dK ng mag exp cut sd,.int .i64 size,.int .i64 least,.agg #[.func (.func F) #[] #[]]] w fun e w'=>e=.returned (.tuple #[.bool (ng && (decide (0<U) || sd)),.int .i64 (U:Nat),.int .i64 E,.bool other])∧Below w.heap.size w w':=by
 unfold dK at *
 have hb2:=aP w (.cells #[.bool ng,.int .u64 mag,.int .i64 exp,.bool cut,.bool sd] 153) (.cells #[.func (.func F) #[] #[]] 166)
 have q0:=dJ w (.cells #[.bool ng,.int .u64 mag,.int .i64 exp,.bool cut,.bool sd] 153) (.cells #[.func (.func F) #[] #[]] 166)
 have q1:=cR w (.cells #[.bool ng,.int .u64 mag,.int .i64 exp,.bool cut,.bool sd] 153) (.cells #[.func (.func F) #[] #[]] 166)
 have k0:=ac q0 0 rfl
 have k1:=ac q0 1 rfl
 have k2:=ac q0 2 rfl
 have k3:=ac q0 3 rfl
 have k4:=ac q0 4 rfl
 have kw:=ac q1 0 rfl
 have hbl:Lib.bitLen mag<=64:=by
  by_cases h0:mag=0
  ·rw [h0]; decide
  ·have e64:(2:Nat)^64=18446744073709551616:=by decide
   exact (M.gH mag (by omega) h0).2.2.2
 have HE:Hid (rE size least mag exp=E):=hE
 obtain ⟨L,hL⟩:∃ L:Int,(Lib.bitLen mag:Int)=L:=⟨_,rfl⟩
 have hEL:max (exp+L-size) least=E:=by rw [<- hL]; exact hE
 have hL2:(Lib.bitLen ((mag:Int)).toNat:Int)=L:=by rw [Int.toNat_natCast]; exact hL
 have hL0:0<=L∧L<=64:=by omega
 have w1:IntKind.i64.wrap (exp+L)=exp+L:=by rw [bH]; omega
 have w2:IntKind.i64.wrap (exp+L-size)=exp+L-size:=by rw [bH]; omega
 have wU:IntKind.i64.wrap (U:Int)=(U:Int):=by rw [bH]; omega
 clear hE
 have hmax:∀ (ts:Array TypeId) (t:TypeId) (x y:Int) (w:World),(Builtin.max_ ts t #[.int .i64 x,.int .i64 y]).run Tryz.prog w=.ok (.int .i64 (max x y)) w:=fun ts t x y w=>by rw [run_max_int2]; congr 2; omega
 go_enter Tryz.func150,Tryz.ntmps150
 go_wp2_with fail
 generalize (w.alloc (.cells #[.bool ng,.int .u64 mag,.int .i64 exp,.bool cut,.bool sd] 153)).alloc (.cells #[.func (.func F) #[] #[]] 166)=wx at hb2 q0 q1 k0 k1 k2 k3 k4 kw ⊢
 go_region_held3 (fun W=>W.cell? ⟨w.heap.size,2,none⟩=some (.int .i64 exp)∧W.cell? ⟨w.heap.size,1,none⟩=some (.int .u64 mag))
  (first | assumption | exact ⟨k2,k1⟩)
  (first | (go_at_call 109; refine (Mf _ _ (by omega) (by omega)).mono ?_; rintro _ _ ⟨rfl,rfl⟩))
 all_goals
  go_wp2_with fail
  refine (hC _).mono ?_
  rintro _ w3 ⟨rfl,hb3⟩
  have hdr:Below wx.heap.size wx wx.drew:=(aA wx).drew
  have hb3':=aa hdr hb3
  have hbw:=aa hb2 hb3'
  have p0:=(hb3'.block _ (Array.getElem?_eq_some_iff.1 q0).1).trans q0
  have j0:=ac p0 0 rfl
  have j4:=ac p0 4 rfl
  clear hC hb3 hb3' hdr q0 q1 k0 k1 k2 k3 k4 kw
  cases ng
  ·go_wp2
   all_goals refine bodyPost_ret (v:=.tuple #[.bool false,.int .i64 (U:Nat),.int .i64 E,.bool other]) (by simp [results,Tryz.results150,go_sem]) rfl ⟨by simp,hbw⟩
  ·by_cases hu0:U=0
   ·have hu1:¬ (0:Int)<(U:Int):=by omega
    have hd:decide (0<U)=false:=decide_eq_false (by omega)
    go_wp2
    all_goals refine bodyPost_ret (v:=.tuple #[.bool sd,.int .i64 (U:Nat),.int .i64 E,.bool other]) (by simp [results,Tryz.results150,go_sem,hu0]) rfl ⟨by simp [hd],hbw⟩
   ·have hu1:(0:Int)<(U:Int):=by omega
    have hd:decide (0<U)=true:=decide_eq_true (by omega)
    go_wp2
    all_goals refine bodyPost_ret (v:=.tuple #[.bool true,.int .i64 (U:Nat),.int .i64 E,.bool other]) (by simp [results,Tryz.results150,go_sem]) rfl ⟨by simp [hd],hbw⟩
theorem wZ {p:Prop} (h:p):Hid p:=h
theorem lj (mag:Int) (h0:0<mag) (h:mag<9223372036854775808) (w:World) (hT:iG w) :
  Calls Tryz.prog 137 #[.int .u64 mag] w fun e w'=>e=.returned (.int .i64 (jz mag))∧w'=w:=by
 obtain ⟨n,rfl⟩:=Int.eq_ofNat_of_zero_le (Int.le_of_lt h0)
 exact lH n (by omega) (by omega) w hT
theorem ta (mag:Int) (w:World) (h0:1<=jo mag) (h1:jo mag<=mag) (h:mag<9223372036854775808) :
  Calls Tryz.prog 139 #[.int .u64 (jo mag)] w fun e w'=>e=.returned (.int .i64 (jl mag))∧w'=w :=
 zT (jo mag) w (by omega) (by omega)
theorem tb (exp:Int) (w:World) (h:aj exp) :
  Calls Tryz.prog 172 #[.agg #[.int .i64 52,.int .i64 2047,.int .i64 (-1074)],.int .i64 exp] w fun e w'=>e=.returned (.bool (decide (1025<exp)))∧w'=w.alloc (.cells #[.int .i64 52,.int .i64 2047,.int .i64 (-1074)] 142):=by
 unfold aj at h
 go_enter Tryz.func172,Tryz.ntmps172
 go_wp2
 go_ret
 exact ⟨rfl,rfl⟩
theorem Kx (mag exp:Int) (w:World) (hT:iG w) (hm:aj mag) (he:aj exp) :
  Calls Tryz.prog 167 #[.agg #[.int .i64 52,.int .i64 2047,.int .i64 (-1074)],.int .i64 mag,.int .i64 exp] w fun e w'=>e=.returned (.tuple #[.int .i64 (jv 52 2047 (-1074) mag exp),.bool (jk 52 2047 (-1074) mag exp)])∧Gr w w':=by
 have he0:=he
 unfold aj at hm he
 rcases Int.lt_trichotomy mag 0 with h | h | h
 ·have hn:(mag == 0)=false:=by simp; omega
  go_enter Tryz.func167,Tryz.ntmps167
  go_wp2
  go_ret2
  exact ⟨li (by simp [jv]; omega) (by simp [jk]; omega),(Gr.refl _).alloc _ _⟩
 ·subst h
  go_enter Tryz.func167,Tryz.ntmps167
  go_wp2
  go_ret2
  exact ⟨li (by simp [jv]) (by simp [jk]),(Gr.refl _).alloc _ _⟩
 ·have hn:(mag == 0)=false:=by simp; omega
  have hz:=fV h hm.2
  by_cases hf:1025<exp
  ·have hk:=wZ (Cu h hm.2 hf)
   go_enter Tryz.func167,Tryz.ntmps167
   go_wp2_with (go_at_call 172; refine (tb _ _ he0).mono ?_; rintro e w1 ⟨rfl,rfl⟩)
   go_ret2
   exact ⟨li (by simp [jv,hk.out]) (by simp [jk,hk.out]; omega),((Gr.refl _).alloc _ _).alloc _ _⟩
  ·obtain ⟨m,-,hz63,-⟩:=hz
   have hj:=oj h hm.2
   have hL:=s6 h hm.2
   have eo:mag/2^jz mag=jo mag:=rfl
   by_cases s1:53-jl mag<0
   ·have hk:Hid (cL 52 2047 (-1074) mag exp=false):=by unfold Hid cL ki; simp; omega
    go_enter Tryz.func167,Tryz.ntmps167
    go_wp2_with (go_at_call 172; refine (tb _ _ he0).mono ?_; rintro e w1 ⟨rfl,rfl⟩)
    refine (lj mag h hm.2 _ (hT.grown (((Gr.refl _).alloc _ _).alloc _ _))).mono ?_
    rintro e w1 ⟨rfl,rfl⟩
    go_wp2
    go_quiet ((go_at_call 139; exact Calls.quiet_of_same (ta _ _ hj.1 hj.2 hm.2)))
    go_wp2
    go_ret2
    exact ⟨li (by simp [jv,hk.out]) (by simp [jk,hk.out]; omega),iO (((Gr.refl _).alloc _ _).alloc _ _) _⟩
   ·by_cases s2:exp+jz mag < -1074
    ·have hk:Hid (cL 52 2047 (-1074) mag exp=false):=by unfold Hid cL ki; simp; omega
     go_enter Tryz.func167,Tryz.ntmps167
     go_wp2_with (go_at_call 172; refine (tb _ _ he0).mono ?_; rintro e w1 ⟨rfl,rfl⟩)
     refine (lj mag h hm.2 _ (hT.grown (((Gr.refl _).alloc _ _).alloc _ _))).mono ?_
     rintro e w1 ⟨rfl,rfl⟩
     go_wp2
     go_quiet ((go_at_call 139; exact Calls.quiet_of_same (ta _ _ hj.1 hj.2 hm.2)))
     go_wp2
     go_ret2
     exact ⟨li (by simp [jv,hk.out]) (by simp [jk,hk.out]; omega),iO (((Gr.refl _).alloc _ _).alloc _ _) _⟩
    ·obtain ⟨s,hs⟩:∃ s:Nat,min (53-jl mag) (exp+↑(jz mag)+1074)=(s:Int):=⟨(min (53-jl mag) (exp+↑(jz mag)+1074)).toNat,by omega⟩
     have hsl:(s:Int)<=52:=by omega
     have hsj:Hid (gd 52 (-1074) mag exp=s):=by unfold Hid gd ki; omega
     by_cases s3:2045<exp+↑(jz mag) - ↑s+1074
     ·have hk:Hid (cL 52 2047 (-1074) mag exp=false):=by unfold Hid cL kj; rw [hsj.out]; simp; omega
      go_enter Tryz.func167,Tryz.ntmps167
      go_wp2_with (go_at_call 172; refine (tb _ _ he0).mono ?_; rintro e w1 ⟨rfl,rfl⟩)
      refine (lj mag h hm.2 _ (hT.grown (((Gr.refl _).alloc _ _).alloc _ _))).mono ?_
      rintro e w1 ⟨rfl,rfl⟩
      go_wp2
      go_quiet ((go_at_call 139; exact Calls.quiet_of_same (ta _ _ hj.1 hj.2 hm.2)))
      go_wp2
      go_ret2
      exact ⟨li (by simp [jv,hk.out]) (by simp [jk,hk.out]; omega),iO (((Gr.refl _).alloc _ _).alloc _ _) _⟩
     ·have hk:Hid (cL 52 2047 (-1074) mag exp=true):=by unfold Hid cL kj ki; rw [hsj.out]; simp; omega
      have hb:=pK (fr:=52) h hm.2 (by omega) s (by unfold ki; omega)
      have hb2:jo mag*2^s<9007199254740992:=hb.2
      have hb1:=hb.1
      clear hb
      go_enter Tryz.func167,Tryz.ntmps167
      go_wp2_with (go_at_call 172; refine (tb _ _ he0).mono ?_; rintro e w1 ⟨rfl,rfl⟩)
      refine (lj mag h hm.2 _ (hT.grown (((Gr.refl _).alloc _ _).alloc _ _))).mono ?_
      rintro e w1 ⟨rfl,rfl⟩
      go_wp2
      go_quiet ((go_at_call 139; exact Calls.quiet_of_same (ta _ _ hj.1 hj.2 hm.2)))
      go_wp2
      go_quiet (fail)
      go_wp2
      go_ret2
      refine ⟨li ?_ (by simp [jk,hk.out]; omega),iO (iO (((Gr.refl _).alloc _ _).alloc _ _) _) _⟩
      unfold jv kj
      rw [if_neg (by omega),if_pos hk.out,hsj.out]
      rfl
structure pn (w:World):Prop where
 lays:ks w
 tab:iG w
theorem pn.grown {w w':World} (h:pn w) (g:Gr w w'):pn w':=⟨h.lays.grown g,h.tab.grown g⟩
theorem Fs (neg:Bool) (mag exp:Int) (w:World) (E:pn w) (hm:aj mag) (he:aj exp) :
  Calls Tryz.prog 151 #[.bool neg,.int .i64 mag,.int .i64 exp] w fun e w'=>e=.returned (.tuple #[.int .i64 (jp neg mag exp),.bool (jk 52 2047 (-1074) mag exp)])∧Gr w w':=by
 have hT:=E.tab
 obtain ⟨a0,a1,a2,b0,b1,b2⟩:=E.lays
 have hb:=Mc (mag:=mag) (exp:=exp) hm
 have ho:=zo (jv 52 2047 (-1074) mag exp) (by omega) (by omega)
 have Ho:=wZ ho
 clear ho
 cases hk:jk 52 2047 (-1074) mag exp
 all_goals
  have HK:=wZ hk
  cases neg
  all_goals
   go_enter Tryz.func151,Tryz.ntmps151
   go_wp2_with (go_at_call 167; refine (Kx _ _ _ hT hm he).mono ?_; rintro e w1 ⟨rfl,hg⟩)
   go_ret2
   exact ⟨li (by simp [jp,HK.out,Ho.out]) (by simp [HK.out]),hg⟩
end Go.Proofs.YtcjfonaolcokbaaGreatDoor
namespace Go.Proofs.YtcjfonaolcokbaaGreatDoor.M
open Go
theorem I4 {x y:Int} (hx:0<=x∧x<1073741824) (hy:0<=y∧y<1073741824):0<=x*y∧x*y<=1152921502459363329:=by
 refine ⟨Int.mul_nonneg hx.1 hy.1,?_⟩
 have h1:x*y<=1073741823*y:=Int.mul_le_mul_of_nonneg_right (by omega) hy.1
 omega
theorem xf (n:Nat):bL (fun _=>0) n:=fun i _=>⟨Int.le_refl 0,show (0:Int)<1073741824 by decide⟩
theorem ut (x:Int):0<=x % 1073741824∧x % 1073741824<1073741824:=by omega
theorem xg {r:Nat->Int} {k:Nat} {c x V:Int} (h:val r k+c*P k=V):val (b7 r k ((c+x) % 1073741824)) (k+1)+(c+x)/1073741824*P (k+1)=V+x*P k:=by
 rw [br,lF r _ (Nat.le_refl k),bt,iK,sZ,h]
theorem Ft {r r0 b:Nat->Int} {i j:Nat} {c ai:Int} (h:val r (i+j)+c*P (i+j)=val r0 (i+j)+ai*val b j*P i) (hr:r (i+j)=r0 (i+j)) :
  val (b7 r (i+j) ((c+(ai*b j+r (i+j))) % 1073741824)) (i+(j+1))+(c+(ai*b j+r (i+j)))/1073741824*P (i+(j+1))=val r0 (i+(j+1))+ai*val b (j+1)*P i:=by
 have e:=xg (x:=ai*b j+r (i+j)) h
 rw [<- Nat.add_assoc,e,br,br,n8,hr]
 grind
theorem I5 {r r0 b:Nat->Int} {i m:Nat} {c ai A:Int} (h:val r (i+m)+c*P (i+m)=val r0 (i+m)+ai*val b m*P i) (h0:val r0 (i+m)=A*val b m) :
  val (b7 r (i+m) c) (i+1+m)=(A+ai*P i)*val b m:=by
 rw [show i+1+m=i+m+1 by omega,br,bt,lF r _ (Nat.le_refl _),h,h0]
 grind
theorem i7 {d:Nat->Int} {n t:Nat} (hd:bL d n) (ht:t<=n) (htop:wM d t) (hz:∀ i,t<=i->i<n->d i=0):cT d t∧val d t=val d n :=
 ⟨⟨hd.le ht,htop⟩,(gX ht hz).symm⟩
def bz (a b:Int):Int:=if a<b then -1 else if b<a then 1 else 0
theorem md {a b:Int} (h:a<b):bz a b=-1:=by simp [bz,h]
theorem me {a b:Int} (h:b<a):bz a b=1:=by simp [bz,h]; omega
theorem pO {a b:Int} (h:a=b):bz a b=0:=by simp [bz,h]
end Go.Proofs.YtcjfonaolcokbaaGreatDoor.M
namespace Go.Proofs.YtcjfonaolcokbaaGreatDoor
open Go Go.RowKit Go.Proofs.YtcjfonaolcokbaaGreatDoor.M
instance (d:Nat->Int) (n:Nat):Decidable (bL d n):=by unfold bL; infer_instance
instance (d:Nat->Int) (n:Nat):Decidable (wM d n):=by unfold wM; infer_instance
instance (d:Nat->Int) (n:Nat):Decidable (cT d n):=by unfold cT; infer_instance
def vm (d:Nat->Int) (n:Nat):Bool:=decide (n<=2000∧cT d n)
theorem uu {d:Nat->Int} {n:Nat} (h:n<=2000) (k:cT d n):vm d n=true:=by simp [vm,h,k]
theorem td {d:Nat->Int} {n:Nat} (h:¬ (n<=2000∧cT d n)):vm d n=false:=by simp only [vm,h,decide_false]
theorem b5 {a b:Bool} (h:a=b):Ending.returned (.bool a)=.returned (.bool b):=by rw [h]
theorem fW {k:IntKind} {a b:Int} (h:a=b):Ending.returned (.int k a)=.returned (.int k b):=by rw [h]
theorem xh {d:Nat->Int} {k:Nat} (h:bL d k) (h0:0<=d k) (h1:d k<1073741824):bL d (k+1):=fun i hi=>by
 by_cases e:i=k
 ·rw [e]; exact ⟨h0,h1⟩
 ·exact h i (by omega)
theorem CZ (ao:Option Addr) (n cap:Nat) (d:Nat->Int) (w:World) (h:aQ w ao n cap d) :
  Calls Tryz.prog 82 #[.slice ao n cap] w fun e w'=>e=.returned (.bool (vm d n))∧w'=w:=by
 have hl:=h.le
 have hm:=h.max
 by_cases h2k:n<=2000
 ·go_enter Tryz.func82,Tryz.ntmps82
  go_wp2
  go_loop [9] (fun i=>∃ k:Nat,k<=n∧i=.int .i64 k∧bL d k) (fun i=>n-(intOf i).toNat)
  case atStart=>exact ⟨0,Nat.zero_le _,rfl,fun i hi=>absurd hi (by omega)⟩
  case round=>
   obtain ⟨k,hk,rfl,hd⟩:=hrel
   by_cases hlt:k<n
   ·obtain ⟨b,off,rfl,hb,hc⟩:=h.spot (by omega)
    have c:=hc k hlt
    by_cases h0:d k<0
    ·go_wp2
     go_ret
     exact ⟨b5 (td (fun ⟨_,q⟩=>by have:=(q.1 k hlt).1; omega)).symm,rfl⟩
    ·by_cases h1:1073741823<d k
     ·go_wp2
      go_ret
      exact ⟨b5 (td (fun ⟨_,q⟩=>by have:=(q.1 k hlt).2; omega)).symm,rfl⟩
     ·go_wp2
      go_round
      case rel=>exact ⟨k+1,by omega,by go_num,xh hd (by omega) (by omega)⟩
      case measure=>simp [intOf]; omega
   ·obtain rfl:k=n:=by omega
    by_cases h0:k=0
    ·subst h0
     go_wp2
     go_ret
     exact ⟨b5 (uu h2k ⟨hd,.inl rfl⟩).symm,rfl⟩
    ·obtain ⟨b,off,rfl,hb,hc⟩:=h.spot (by omega)
     have c:=hc (k-1) (by omega)
     by_cases h1:d (k-1)=0
     ·go_wp2
      go_ret
      exact ⟨b5 ((show _=false by simp; omega).trans (td (fun ⟨_,q⟩=>by rcases q.2 with e | e <;> omega)).symm),rfl⟩
     ·go_wp2
      go_ret
      exact ⟨b5 ((show _=true by simp; omega).trans (uu h2k ⟨hd,.inr h1⟩).symm),rfl⟩
 ·go_enter Tryz.func82,Tryz.ntmps82
  go_wp2
  go_ret
  exact ⟨b5 (td (fun ⟨q,_⟩=>h2k q)).symm,rfl⟩
theorem kJ (ao:Option Addr) (n cap:Nat) (d:Nat->Int) (w:World) (h:aQ w ao n cap d) :
  Calls Tryz.prog 84 #[.slice ao n cap] w fun e w'=>∃ t:Nat,t<=n∧wM d t∧(∀ i,t<=i->i<n->d i=0)∧e=.returned (m9 ao t cap)∧w'=w:=by
 have hl:=h.le
 have hm:=h.max
 go_enter Tryz.func84,Tryz.ntmps84
 go_wp2
 go_loop [3] (fun i=>∃ k:Nat,k<=n∧i=.int .i64 k∧∀ i,k<=i->i<n->d i=0) (fun i=>(intOf i).toNat)
 case atStart=>exact ⟨n,Nat.le_refl _,rfl,fun i a b=>by omega⟩
 case round=>
  obtain ⟨k,hk,rfl,hz⟩:=hrel
  have HZ:Hid (∀ i,k<=i->i<n->d i=0):=hz
  clear hz
  by_cases h0:k=0
  ·subst h0
   go_wp2
   go_ret
   exact ⟨0,by omega,.inl rfl,HZ.out,rfl,rfl⟩
  ·obtain ⟨b,off,rfl,hb,hc⟩:=h.spot (by omega)
   have c:=hc (k-1) (by omega)
   by_cases h1:d (k-1)=0
   ·go_wp2
    go_round
    case rel=>exact ⟨k-1,by omega,by go_num,fun i a b=>by by_cases e:i=k-1; (· rw [e]; exact h1); (· exact HZ.out i (by omega) b)⟩
    case measure=>simp [intOf]; omega
   ·go_wp2
    go_ret
    exact ⟨k,hk,.inr h1,HZ.out,by unfold m9; rw [if_neg h0]; simp,rfl⟩
end Go.Proofs.YtcjfonaolcokbaaGreatDoor
namespace Go.Proofs.YtcjfonaolcokbaaGreatDoor.M
open Go
def bh (V:Int):Nat:=if V<=0 then 0 else Nat.log2 V.toNat+1
theorem C7:bh 0=0:=by decide
theorem nG (V:Int):V<2^bh V:=by
 unfold bh
 split
 ·show V<1; omega
 ·have h:=@Nat.lt_log2_self V.toNat
  have e:((V.toNat:Nat):Int)<((2^(Nat.log2 V.toNat+1):Nat):Int):=Int.ofNat_lt.2 h
  rw [Int.toNat_of_nonneg (by omega)] at e
  simpa using e
theorem iP {V:Int} (h:0<V):1<=bh V∧2^(bh V-1)<=V:=by
 unfold bh
 rw [if_neg (by omega)]
 refine ⟨by omega,?_⟩
 have h1:=Nat.log2_self_le (n:=V.toNat) (by omega)
 have e:((2^Nat.log2 V.toNat:Nat):Int)<=((V.toNat:Nat):Int):=Int.ofNat_le.2 h1
 rw [Int.toNat_of_nonneg (by omega)] at e
 simpa using e
theorem i8 {j k:Nat} (h:(2:Int)^j<2^k):j<k:=by
 rcases Nat.lt_or_ge j k with h1 | h1
 ·exact h1
 ·have:=ga h1; omega
theorem i9 {V:Int} {k:Nat} (h:V<2^k):bh V<=k:=by
 by_cases h0:0<V
 ·obtain ⟨h1,h2⟩:=iP h0
  have:=i8 (show (2:Int)^(bh V-1)<2^k by omega)
  omega
 ·unfold bh; rw [if_pos (by omega)]; omega
theorem zU {V:Int} {k:Nat} (h:2^k<=V):k<bh V:=by
 have h1:=nG V
 exact i8 (by omega)
theorem zV {V:Int} {k:Nat} (h1:2^k<=V) (h2:V<2^(k+1)):bh V=k+1:=by
 have a:=zU h1
 have b:=i9 h2
 omega
theorem C8 {x:Int} (h0:0<=x) (h1:x<18446744073709551616):(Lib.bitLen x.toNat:Int)=bh x:=by
 by_cases hx:x=0
 ·subst hx; decide
 ·obtain ⟨a,b,c⟩:=Lib.bitLenAux_bounds 64 x.toNat (by omega) (by omega)
  have e:bh x=Lib.bitLen x.toNat:=by
   have hb:Lib.bitLen x.toNat=Lib.bitLenAux 64 x.toNat:=rfl
   rw [<- hb] at a b c
   obtain ⟨k,hk⟩:∃ k,Lib.bitLen x.toNat=k+1:=⟨Lib.bitLen x.toNat-1,by omega⟩
   rw [hk] at b c ⊢
   have b':((2^k:Nat):Int)<=((x.toNat:Nat):Int):=Int.ofNat_le.2 (by simpa using b)
   have c':((x.toNat:Nat):Int)<((2^(k+1):Nat):Int):=Int.ofNat_lt.2 c
   rw [Int.toNat_of_nonneg h0] at b' c'
   exact zV (by simpa using b') (by simpa using c')
  rw [e]
theorem r9 {d:Nat->Int} {n:Nat} (h:cT d (n+1)):bh (val d (n+1))=30*n+bh (d n):=by
 have hd:=h.1 n (by omega)
 have ht:d n≠0:=by rcases h.2 with e | e; (· omega); (· simpa using e)
 have hp:0<d n:=by omega
 obtain ⟨a,b⟩:=iP hp
 have c:=nG (d n)
 have v0:=bc (h.1.le (Nat.le_succ n))
 have v1:=cM (h.1.le (Nat.le_succ n))
 have pp:=cw n
 obtain ⟨k,hk⟩:∃ k,bh (d n)=k+1:=⟨bh (d n)-1,by omega⟩
 rw [hk] at b c ⊢
 rw [show 30*n+(k+1)=(30*n+k)+1 by omega]
 have e1:(2:Int)^(30*n+k)=2^k*P n:=by rw [Int.pow_add,eC,Int.mul_comm]
 have e2:(2:Int)^(30*n+k+1)=2^(k+1)*P n:=by rw [show 30*n+k+1=30*n+(k+1) by omega,Int.pow_add,eC,Int.mul_comm]
 have f1:(2:Int)^k*P n<=d n*P n:=Int.mul_le_mul_of_nonneg_right (by simpa using b) (by omega)
 have f2:(d n+1)*P n<=2^(k+1)*P n:=Int.mul_le_mul_of_nonneg_right (by omega) (by omega)
 rw [Int.add_mul] at f2
 apply zV
 ·rw [e1,br]; omega
 ·rw [e2,br]; omega
end Go.Proofs.YtcjfonaolcokbaaGreatDoor.M
namespace Go.Proofs.YtcjfonaolcokbaaGreatDoor
open Go Go.RowKit Go.Proofs.YtcjfonaolcokbaaGreatDoor.M
theorem gY (x q:Int) (s:Nat) (h:q.toNat<Lib.len8tab.size) (hq0:0<=q) (hq:q<=255) (hs:s<=56) (hb:Lib.bitLen x.toNat=s+Lib.bitLen q.toNat) :
  wrap64 ((s:Int)+wrap64 ((Lib.len8tab[q.toNat]'h).toNat:Int))=(Lib.bitLen x.toNat:Int):=by
 have e:=Lib.len8_of q hq0 hq
 have l:=Lib.bitLen_le8' q hq0 hq
 unfold Lib.len8 at e
 rw [getElem?_pos Lib.len8tab q.toNat h] at e
 simp only [Option.getD_some] at e
 rw [e,hb]
 unfold wrap64
 omega
theorem Bh (x:Int) (h:x.toNat<Lib.len8tab.size) (hq0:0<=x) (hq:x<=255) :
  wrap64 (wrap64 ((Lib.len8tab[x.toNat]'h).toNat:Int))=(Lib.bitLen x.toNat:Int):=by
 have:=gY x x 0 h hq0 hq (by omega) (by omega)
 simpa using this
theorem om (x q:Int) (s:Nat) (h0:0<=x) (h1:x<=18446744073709551615) (hx:((2^s:Nat):Int)<=x) (e:q=x/((2^s:Nat):Int)):Lib.bitLen x.toNat=s+Lib.bitLen q.toNat:=by
 rw [Lib.bitLen_shift s x.toNat (by omega) (by omega),e]
 congr 2
 obtain ⟨n,rfl⟩:=Int.eq_ofNat_of_zero_le h0
 rw [<- Int.natCast_ediv,Int.toNat_natCast,Int.toNat_natCast]
theorem Mg (x:Int) (w:World) (h0:0<=x) (h1:x<=18446744073709551615) :
  Calls Tryz.prog 139 #[.int .u64 x] w fun e w'=>e=.returned (.int .i64 (Lib.bitLen x.toNat))∧w'=w:=by
 have hs:Lib.len8tab.size=256:=by decide +kernel
 go_enter Tryz.func139,Tryz.ntmps139
 go_wp2
 all_goals go_ret
 ·exact ⟨fW (gY x _ 56 _ (by omega) (by omega) (by omega) (om x _ 56 h0 h1 (by omega) (by omega))),rfl⟩
 ·exact ⟨fW (gY x _ 48 _ (by omega) (by omega) (by omega) (om x _ 48 h0 h1 (by omega) (by omega))),rfl⟩
 ·exact ⟨fW (gY x _ 40 _ (by omega) (by omega) (by omega) (om x _ 40 h0 h1 (by omega) (by omega))),rfl⟩
 ·exact ⟨fW (gY x _ 32 _ (by omega) (by omega) (by omega) (om x _ 32 h0 h1 (by omega) (by omega))),rfl⟩
 ·exact ⟨fW (gY x _ 24 _ (by omega) (by omega) (by omega) (om x _ 24 h0 h1 (by omega) (by omega))),rfl⟩
 ·exact ⟨fW (gY x _ 16 _ (by omega) (by omega) (by omega) (om x _ 16 h0 h1 (by omega) (by omega))),rfl⟩
 ·exact ⟨fW (gY x _ 8 _ (by omega) (by omega) (by omega) (om x _ 8 h0 h1 (by omega) (by omega))),rfl⟩
 ·exact ⟨fW (Bh x _ (by omega) (by omega)),rfl⟩
theorem zW (x:Int) (w:World) (h0:0<=x) (h1:x<=18446744073709551615) :
  Calls Tryz.prog 109 #[.int .u64 x] w fun e w'=>e=.returned (.int .i64 (bh x))∧w'=w:=by
 go_enter Tryz.func109,Tryz.ntmps109
 go_wp2_with (go_at_call 139; refine (Mg _ _ (by omega) (by omega)).mono ?_; rintro e w' ⟨rfl,rfl⟩)
 go_ret
 exact ⟨fW (C8 h0 (by omega)),rfl⟩
theorem C9 (x:Int) (w:World) (h0:0<=x) (h1:x<9223372036854775808) :
  Calls Tryz.prog 116 #[.int .i64 x] w fun e w'=>e=.returned (.int .i64 (bh x))∧w'=w:=by
 go_enter Tryz.func116,Tryz.ntmps116
 go_wp2_with (go_at_call 109; refine (zW _ _ (by omega) (by omega)).mono ?_; rintro e w' ⟨rfl,rfl⟩)
 go_ret
 exact ⟨rfl,rfl⟩
theorem jB (ao:Option Addr) (n cap:Nat) (d:Nat->Int) (w:World) (h:aQ w ao n cap d) (hd:cT d n) (hn:n<=1000000) :
  Calls Tryz.prog 86 #[.slice ao n cap] w fun e w'=>e=.returned (.int .i64 (bh (val d n)))∧w'=w:=by
 have hl:=h.le
 have hm:=h.max
 by_cases h0:n=0
 ·subst h0
  go_enter Tryz.func86,Tryz.ntmps86
  go_wp2
  go_ret
  exact ⟨rfl,rfl⟩
 ·obtain ⟨k,rfl⟩:∃ k,n=k+1:=⟨n-1,by omega⟩
  obtain ⟨b,off,rfl,hb,hc⟩:=h.spot (by omega)
  have c:=hc k (by omega)
  have dk:=hd.1 k (by omega)
  have hbl:bh (d k)<=30:=i9 (by show d k<1073741824; exact dk.2)
  go_enter Tryz.func86,Tryz.ntmps86
  go_wp2_with (go_at_call 116; refine (C9 _ _ (by omega) (by omega)).mono ?_; rintro e w' ⟨rfl,rfl⟩)
  go_ret
  exact ⟨fW (by rw [r9 hd]; omega),rfl⟩
end Go.Proofs.YtcjfonaolcokbaaGreatDoor
namespace Go.Proofs.YtcjfonaolcokbaaGreatDoor.M
open Go
theorem cG {a b c:Int} (h:a<=b) (hc:0<=c):a*c<=b*c:=Int.mul_le_mul_of_nonneg_right h hc
theorem iQ {a b c:Int} (h:a<=b) (hc:0<=c):c*a<=c*b:=Int.mul_le_mul_of_nonneg_left h hc
theorem Bi {U V p v1 v2 vl head u2 ul times left:Int} (hV:V=(v1*1073741824+v2)*p+vl) (hvl:vl<p) (hv2:v2<1073741824) (hU:U=(head*1073741824+u2)*p+ul) (hul:0<=ul) (hu2:0<=u2)
  (hp:0<p) (hh:head=times*v1+left) (ht:0<=times) (ht2:times<1073741824) (h:1073741824<=left):times*V<=U:=by
 have h0:v2*p<=1073741823*p:=cG (by omega) (by omega)
 have e0:(v1+1)*(1073741824*p)=v1*1073741824*p+1073741823*p+p:=by grind
 have e1:V=v1*1073741824*p+v2*p+vl:=by rw [hV]; grind
 have h1:times*V<=times*((v1+1)*(1073741824*p)):=iQ (by omega) ht
 have h2:(times*v1+times)*(1073741824*p)<=head*(1073741824*p):=cG (by omega) (by omega)
 have h3:0<=u2*p:=Int.mul_nonneg hu2 (by omega)
 have e2:U=head*(1073741824*p)+u2*p+ul:=by rw [hU]; grind
 have e3:times*((v1+1)*(1073741824*p))=(times*v1+times)*(1073741824*p):=by grind
 omega
theorem zu {U V p v1 v2 vl head u2 ul times left:Int} (hV:V=(v1*1073741824+v2)*p+vl) (hvl0:0<=vl) (hvl:vl<p) (hv1:1<=v1) (hv2:0<=v2) (hU:U=(head*1073741824+u2)*p+ul) (hul:0<=ul)
  (hp:0<p) (hh:head=times*v1+left) (ht:0<=times) (ht2:times<1073741824) (h:times*v2<=left*1073741824+u2):(times-1)*V<=U:=by
 have h1:times*vl<=times*p:=iQ (by omega) ht
 have h2:times*v2*p<=(left*1073741824+u2)*p:=cG h (by omega)
 have h3:times*p<=1073741824*p:=cG (by omega) (by omega)
 have h4:1*(1073741824*p)<=v1*(1073741824*p):=cG hv1 (by omega)
 have h5:0<=v2*p:=Int.mul_nonneg hv2 (by omega)
 have e0:V=v1*(1073741824*p)+v2*p+vl:=by rw [hV]; grind
 have e1:(times-1)*V=times*v1*1073741824*p+times*v2*p+times*vl-V:=by rw [hV]; grind
 have e2:U=times*v1*1073741824*p+(left*1073741824+u2)*p+ul:=by rw [hU,hh]; grind
 omega
structure oq (x0 y0 x y fA fB nA nB sg:Int):Prop where
 sgn:sg=1∨sg=-1
 ex:x=sg*(fA*x0-fB*y0)
 ey:y=sg*(nB*y0-nA*x0)
 det:fA*nB-fB*nA=sg
 fA0:0<=fA
 fB0:0<=fB
 nA0:0<=nA
 nB1:1<=nB
theorem oq.start (x0 y0:Int):oq x0 y0 x0 y0 1 0 0 1 1:=⟨.inl rfl,by omega,by omega,by omega,by omega,by omega,by omega,by omega⟩
theorem oq.step {x0 y0 x y fA fB nA nB sg:Int} (h:oq x0 y0 x y fA fB nA nB sg) {q:Int} (hq:1<=q) :
  oq x0 y0 y (x-q*y) nA nB (fA+q*nA) (fB+q*nB) (-sg):=by
 have h1:=Int.mul_nonneg (show 0<=q by omega) h.nA0
 have h2:1*nB<=q*nB:=cG hq (by have:=h.nB1; omega)
 have hf:=h.fA0
 have hg:=h.fB0
 have hn:=h.nB1
 refine ⟨by rcases h.sgn with e | e <;> omega,?_,?_,?_,h.nA0,by omega,by omega,by omega⟩
 ·rw [h.ey]; grind
 ·rw [h.ey,h.ex]; grind
 ·have:=h.det; grind
theorem oq.whole {x0 y0 x y fA fB nA nB sg S al be:Int} (h:oq x0 y0 x y fA fB nA nB sg) (hS:0<S) (ha0:0<=al) (ha:al<S) (hb0:0<=be) (hb:be<S)
  (hab:nA<=nB) (hfb:fA<=fB) (hy:nB<=y) (hx:nB+fB<=x-y) :
  0<sg*(nB*(y0*S+be)-nA*(x0*S+al))∧sg*(nB*(y0*S+be)-nA*(x0*S+al))<sg*(fA*(x0*S+al)-fB*(y0*S+be)):=by
 have hn:=h.nB1
 have hf:=h.fB0
 have k1:nB*be<=nB*(S-1):=iQ (by omega) (by omega)
 have k2:nA*al<=nA*(S-1):=iQ (by omega) h.nA0
 have k3:nA*(S-1)<=nB*(S-1):=cG hab (by omega)
 have k4:0<=nB*be:=Int.mul_nonneg (by omega) hb0
 have k5:0<=nA*al:=Int.mul_nonneg h.nA0 ha0
 have k6:nB*S<=y*S:=cG hy (by omega)
 have k7:(nB+fB)*S<=(x-y)*S:=cG hx (by omega)
 have m1:fB*be<=fB*(S-1):=iQ (by omega) hf
 have m2:fA*al<=fA*(S-1):=iQ (by omega) h.fA0
 have m3:fA*(S-1)<=fB*(S-1):=cG hfb (by omega)
 have m4:0<=fB*be:=Int.mul_nonneg hf hb0
 have m5:0<=fA*al:=Int.mul_nonneg h.fA0 ha0
 have ex:=h.ex
 have ey:=h.ey
 have e1:nB*(y0*S+be)-nA*(x0*S+al)=(nB*y0-nA*x0)*S+nB*be-nA*al:=by grind
 have e2:fA*(x0*S+al)-fB*(y0*S+be)=(fA*x0-fB*y0)*S+fA*al-fB*be:=by grind
 have e3:nB*(S-1)=nB*S-nB:=by grind
 have e4:fB*(S-1)=fB*S-fB:=by grind
 have e5:(nB+fB)*S=nB*S+fB*S:=by grind
 have e6:(x-y)*S=x*S-y*S:=by grind
 rw [e1,e2]
 rcases h.sgn with rfl | rfl
 ·have e7:(nB*y0-nA*x0)*S=y*S:=by rw [ey]; grind
  have e8:(fA*x0-fB*y0)*S=x*S:=by rw [ex]; grind
  constructor <;> omega
 ·have e7:(nB*y0-nA*x0)*S=- (y*S):=by rw [ey]; grind
  have e8:(fA*x0-fB*y0)*S=- (x*S):=by rw [ex]; grind
  constructor <;> omega
end Go.Proofs.YtcjfonaolcokbaaGreatDoor.M
namespace Go.Proofs.YtcjfonaolcokbaaGreatDoor
open Go Go.RowKit Go.Proofs.YtcjfonaolcokbaaGreatDoor.M
structure Wr (g:Nat) (w w':World):Prop where
 os:w'.os=w.os
 tape:w'.tape=w.tape
 output:w'.output=w.output
 size:w.heap.size<=w'.heap.size
 block:∀ k,k<w.heap.size->k≠g->w'.heap[k]?=w.heap[k]?
theorem Wr.refl (g:Nat) (w:World):Wr g w w:=⟨rfl,rfl,rfl,Nat.le_refl _,fun _ _ _=>rfl⟩
theorem Wr.trans {g:Nat} {a b c:World} (h:Wr g a b) (k:Wr g b c):Wr g a c :=
 ⟨k.os.trans h.os,k.tape.trans h.tape,k.output.trans h.output,Nat.le_trans h.size k.size,fun i hi hg=>(k.block i (Nat.lt_of_lt_of_le hi h.size) hg).trans (h.block i hi hg)⟩
theorem Wr.setCell {g:Nat} {a w:World} (h:Wr g a w) (o:Nat) (u:Value):Wr g a (w.setCell ⟨g,o,none⟩ u) :=
 ⟨h.os,h.tape,h.output,by simp [World.setCell]; exact h.size,fun k hk hg=>(Below.heap_setCell _ _ _ _ hg).trans (h.block k hk hg)⟩
theorem Wr.drew {g:Nat} {a w:World} (h:Wr g a w):Wr g a w.drew:=⟨h.os,h.tape,h.output,h.size,h.block⟩
theorem Wr.drewN {g:Nat} {a w:World} (h:Wr g a w) (n:Nat):Wr g a (w.drewN n):=⟨h.os,h.tape,h.output,h.size,h.block⟩
theorem Below.wr {B g:Nat} {a w:World} (h:Below B a w) (hB:w.heap.size<=B):Wr g w w->Below B a w:=fun _=>h
theorem HJ {g:Nat} {a w:World} (h:Below a.heap.size a w):Wr g a w:=⟨h.os,h.tape,h.output,h.size,fun k hk _=>h.block k hk⟩
theorem Wr.below {B g:Nat} {a w w':World} (h:Wr g w w') (hb:Below B a w) (hB:B<=w.heap.size) (hg:B<=g):Below B a w' :=
 hb.trans ⟨h.os,h.tape,h.output,h.size,fun k hk=>h.block k (by omega) (by omega)⟩
theorem Wr.cell {g:Nat} {w w':World} (h:Wr g w w') {p:Addr} (hp:p.block<w.heap.size) (hg:p.block≠g):w'.cell? p=w.cell? p:=World.cell?_of_block (w:=w) (h.block p.block hp hg)
structure ly (g:Nat) (w:World) (ao:Option Addr) (n cap:Nat) (d:Nat->Int):Prop where
 le:n<=cap
 max:cap<=9223372036854775807
 spot:0<n->∃ b off,ao=some ⟨b,off,none⟩∧b<w.heap.size∧b≠g∧∀ i,i<n->w.cell? ⟨b,off+i,none⟩=some (.int .i64 (d i))
theorem ly.keeps {g:Nat} {w w':World} {ao:Option Addr} {n cap:Nat} {d:Nat->Int} (h:ly g w ao n cap d) (hw:Wr g w w'):ly g w' ao n cap d :=
  ⟨h.le,h.max,fun hn=>by
    obtain ⟨b,off,rfl,hlt,hg,hc⟩:=h.spot hn
    exact ⟨b,off,rfl,Nat.lt_of_lt_of_le hlt hw.size,hg,fun i hi=>(hw.cell (p:=⟨b,off+i,none⟩) hlt hg).trans (hc i hi)⟩⟩
theorem ly.of {g:Nat} {w:World} {ao:Option Addr} {n cap:Nat} {d:Nat->Int} (h:aQ w ao n cap d) (hg:w.heap.size<=g):ly g w ao n cap d :=
  ⟨h.le,h.max,fun hn=>by
    obtain ⟨b,off,rfl,hlt,hc⟩:=h.spot hn
    exact ⟨b,off,rfl,hlt,by omega,hc⟩⟩
theorem aX.store {B:Nat} {w:World} {g n cap:Nat} {d:Nat->Int} (h:aX B w (.slice (some ⟨g,0,none⟩) n cap) n d) {i:Nat} (hi:i<n) (x:Int) :
  aX B (w.setCell ⟨g,i,none⟩ (.int .i64 x)) (.slice (some ⟨g,0,none⟩) n cap) n (b7 d i x):=by
 have h1:=(World.ownsRow.stored h i (.int .i64 x)).1
 unfold aX
 have e:eP (b7 d i x) n=(eP d n).set i (.int .i64 x):=by
  refine (jD (by simp [bR]) fun j hj=>?_).symm
  by_cases hji:j=i
  ·subst hji; rw [bt,List.getElem?_set_self (by rw [bR]; exact hj)]
  ·rw [aV d x hji,List.getElem?_set_ne (by omega),eW d hj]
 rw [e]; exact h1
theorem aX.spot {B:Nat} {w:World} {ao:Option Addr} {n cap:Nat} {d:Nat->Int} (h:aX B w (.slice ao n cap) n d) (hn:0<n):∃ g,ao=some ⟨g,0,none⟩∧B<=g∧g<w.heap.size:=by
 rcases h.2 with ⟨_,h0⟩ | ⟨g,cap',cur,hv,hB,hg,_⟩
 ·omega
 ·simp only [Value.slice.injEq] at hv
  exact ⟨g,hv.1,hB,(Array.getElem?_eq_some_iff.1 hg).1⟩
theorem aX.cell {B:Nat} {w:World} {g n cap:Nat} {d:Nat->Int} (h:aX B w (.slice (some ⟨g,0,none⟩) n cap) n d) {i:Nat} (hi:i<n):w.cell? ⟨g,i,none⟩=some (.int .i64 (d i)):=by
 rw [World.ownsRow.cellAt h i (by omega),eW d hi]
theorem aX.frozen {B:Nat} {w:World} {g n cap:Nat} {d:Nat->Int} (h:aX B w (.slice (some ⟨g,0,none⟩) n cap) n d) (i:Nat):w.frozen? ⟨g,i,none⟩=false:=World.ownsRow.frozenAt h i
theorem zX {x:Int} {p:Nat} (hx:0<=x∧x<1073741824) (hp:p<=30):0<=x*2^p∧x*2^p<=1073741823*2^p∧(2:Int)^p<=1073741824:=by
 have h:=aO p
 exact ⟨Int.mul_nonneg hx.1 (by omega),Int.mul_le_mul_of_nonneg_right (by omega) (by omega),ga hp⟩
structure ot (q p N n:Nat) (a r0:Nat->Int) (s:Int) (k:Nat) (c:Int) (r:Nat->Int):Prop where
 rest:∀ i,q+k<=i->r i=r0 i
 near:∀ i,0<=s*(r i-r0 i)∧s*(r i-r0 i)<1073741824
 sum:∃ T,val r N=val r0 N+s*(P q*T)∧T+c*P k=2^p*val a k
theorem ot.put {q p N n:Nat} {a r0:Nat->Int} {s:Int} {k:Nat} {c:Int} {r:Nat->Int} (h:ot q p N n a r0 s k c r) (hs:s*s=1) (hN:q+k<N) {m c':Int} (hm:0<=m∧m<1073741824) (e:m+c'*1073741824=c+a k*2^p) :
  ot q p N n a r0 s (k+1) c' (b7 r (q+k) (r (q+k)+s*m)):=by
 refine ⟨fun i hi=>by rw [aV r _ (by omega)]; exact h.rest i (by omega),fun i=>?_,?_⟩
 ·by_cases hi:i=q+k
  ·subst hi
   rw [bt,h.rest _ (Nat.le_refl _),show s*(r0 (q+k)+s*m-r0 (q+k))=s*s*m by grind,hs]
   omega
  ·rw [aV r _ hi]; exact h.near i
 ·obtain ⟨T,e1,e2⟩:=h.sum
  refine ⟨T+m*P k,?_,?_⟩
  ·rw [uq r _ hN,e1,n8]; grind
  ·rw [br,iK]
   have:c'*(P k*1073741824)=(c+a k*2^p-m)*P k:=by rw [show c+a k*2^p-m=c'*1073741824 by omega]; grind
   rw [this,show T+m*P k+(c+a k*2^p-m)*P k=(T+c*P k)+a k*2^p*P k by grind,e2]; grind
structure qH (N:Nat) (r0:Nat->Int) (s V:Int) (r:Nat->Int):Prop where
 near:∀ i,0<=s*(r i-r0 i)∧s*(r i-r0 i)<1073741824
 sum:val r N=val r0 N+s*V
theorem ot.done {q p N n:Nat} {a r0:Nat->Int} {s:Int} {c:Int} {r:Nat->Int} (h:ot q p N n a r0 s n c r) (hs:s*s=1) (hN:q+n<N) (hc:0<=c∧c<1073741824) :
  qH N r0 s (P q*(2^p*val a n)) (b7 r (q+n) (r (q+n)+s*c)):=by
 refine ⟨fun i=>?_,?_⟩
 ·by_cases hi:i=q+n
  ·subst hi
   rw [bt,h.rest _ (Nat.le_refl _),show s*(r0 (q+n)+s*c-r0 (q+n))=s*s*c by grind,hs]
   omega
  ·rw [aV r _ hi]; exact h.near i
 ·obtain ⟨T,e1,e2⟩:=h.sum
  rw [uq r _ hN,e1,n8,<- e2]; grind
theorem Da {s x y C:Int} (hs:s=1∨s=-1) (h:0<=s*(x-y)∧s*(x-y)<1073741824) (hy:-C<=y∧y<=C):-(C+1073741823)<=x∧x<=C+1073741823:=by
 rcases hs with rfl | rfl <;> omega
theorem zY {s m:Int} (hs:s=1∨s=-1) (hm:0<=m∧m<1073741824):-1073741823<=s*m∧s*m<=1073741823:=by
 rcases hs with rfl | rfl <;> omega
theorem Ky {s:Int} (hs:s=1∨s=-1):s*s=1:=by rcases hs with rfl | rfl <;> rfl
theorem zZ (g N:Nat) (r0:Nat->Int) (ao:Option Addr) (n ca q p:Nat) (a:Nat->Int) (w:World) (hB0:bO w g N r0) (ha:ly g w ao n ca a) (da:bL a n) (hn:n<=100000) (hqN:q+n+1<=N) (hNm:N<=1000000) (hp:p<30) (k:Int) (hk:k=30*q+p)
  (s:Int) (hs:s=1∨s=-1) (C:Int) (hC0:∀ i,i<N->-C<=r0 i∧r0 i<=C) (hC1:C<=4611686018427387904) :
  Calls Tryz.prog 91 #[.slice (some ⟨g,0,none⟩) N N,.slice ao n ca,.int .i64 k,.int .i64 s] w fun e w'=>e=.returned (.tuple #[])∧∃ r,bO w' g N r∧Wr g w w'∧qH N r0 s (P q*(2^p*val a n)) r:=by
 have hla:=ha.le
 have hma:=ha.max
 have e1:k/30=q:=by omega
 have e2:k % 30=p:=by omega
 have hk0:0<=k:=by omega
 have hk1:k<=40000000:=by omega
 clear hk
 have hu:=aO p
 have hu2:(2:Int)^p<=2^29:=ga (by omega)
 have HC:Hid (∀ i,i<N->-C<=r0 i∧r0 i<=C):=hC0
 have hss:=Ky hs
 have HS:Hid (s=1∨s=-1):=hs
 clear hC0 hs
 go_enter Tryz.func91,Tryz.ntmps91
 go_wp2
 go_loopw [10,18] (fun c i wr=>∃ (k:Nat) (c':Int) (r:Nat->Int),k<=n∧i=.int .i64 k∧c=.int .i64 c'∧0<=c'∧c'<2^p∧bO wr g N r∧Hid (ot q p N n a r0 s k c' r)∧Wr g w wr) (fun _ i _=>n-(intOf i).toNat)
 case atStart=>exact ⟨0,0,r0,Nat.zero_le _,rfl,rfl,by omega,hu,hB0,⟨fun _ _=>rfl,fun i=>by rw [Int.sub_self,Int.mul_zero]; omega,0,by rw [Int.mul_zero,Int.mul_zero,Int.add_zero],by show (0:Int)+0*1=2^p*0; omega⟩,Wr.refl _ _⟩
 case round=>
  obtain ⟨k,c,r,hk,rfl,rfl,hc0,hc1,hB,HI,hW⟩:=hrel
  have hcap:-4611686018427387904-1073741823<=r (q+k)∧r (q+k)<=4611686018427387904+1073741823:=by
   have h1:=HC.out (q+k) (by omega)
   have h2:=HI.out.rest (q+k) (Nat.le_refl _)
   rw [h2]; omega
  by_cases hlt:k<n
  ·obtain ⟨ba,fa,rfl,hba,hbg,hca⟩:=ha.spot (by omega)
   have c1:=(hW.cell (p:=⟨ba,fa+k,none⟩) hba hbg).trans (hca k hlt)
   have cg:=hB.cell (show q+k<N by omega)
   have fg:=hB.frozen (q+k)
   have dk:=da k hlt
   obtain ⟨s0,s1,s2⟩:=zX dk (show p<=30 by omega)
   have hw:wrap64 (a k*2^p)=a k*2^p:=IntWalk.wrap64_in _ ⟨by omega,by omega⟩
   have hor:bits .or .i64 c (a k*2^p)=c+a k*2^p:=wO c (a k) p hc0 hc1 dk.1 (by omega)
   have h30:=pG (c+a k*2^p)
   have hm:=ut (c+a k*2^p)
   have hc2:(c+a k*2^p)/1073741824<2^p:=by omega
   have hc3:0<=(c+a k*2^p)/1073741824:=by omega
   obtain ⟨m0,m1⟩:=zY HS.out hm
   have e4:(c+a k*2^p) % 1073741824+(c+a k*2^p)/1073741824*1073741824=c+a k*2^p:=by omega
   have HI2:Hid (ot q p N n a r0 s (k+1) ((c+a k*2^p)/1073741824) (b7 r (q+k) (r (q+k)+s*((c+a k*2^p) % 1073741824)))):=HI.out.put hss (by omega) hm e4
   clear e4
   generalize hM:(c+a k*2^p) % 1073741824=M at *
   generalize hSM:s*M=SM at *
   go_wp2
   go_roundw
   case rel=>exact ⟨k+1,_,_,by omega,by go_num,rfl,hc3,hc2,hB.store (q+k) _,HI2,hW.setCell _ _⟩
   case measure=>simp [intOf]; omega
  ·obtain rfl:k=n:=by omega
   have cg:=hB.cell (show q+k<N by omega)
   have fg:=hB.frozen (q+k)
   have hc4:c<1073741824:=by omega
   obtain ⟨m0,m1⟩:=zY HS.out ⟨hc0,hc4⟩
   have HD:Hid (qH N r0 s (P q*(2^p*val a k)) (b7 r (q+k) (r (q+k)+s*c))):=HI.out.done hss (by omega) ⟨hc0,hc4⟩
   generalize hSM:s*c=SM at *
   go_wp2
   first | go_end0 | refine bodyPost_ret (results_none rfl _ _ _) rfl ?_
   exact ⟨rfl,_,hB.store (q+k) _,hW.setCell _ _,HD.out⟩
theorem Fu (ao:Option Addr) (n ca q p:Nat) (a:Nat->Int) (w:World) (ha:aQ w ao n ca a) (da:bL a n) (hn:n<=100000) (hq:q<=100000) (hp:p<30) (k:Int) (hk:k=30*q+p) :
  Calls Tryz.prog 173 #[.slice ao n ca,.int .i64 k] w fun e w'=>∃ v,e=.returned v∧dm w w' (P q*(2^p*val a n)) v:=by
 have hla:=ha.le
 have hma:=ha.max
 have e1:k/30=q:=by omega
 have e2:k % 30=p:=by omega
 have hk0:0<=k:=by omega
 have HK:Hid (k=30*q+p):=hk
 clear hk
 go_enter Tryz.func173,Tryz.ntmps173
 go_wp2_with (at_make; refine mI rfl _ _ rfl _ _ (q+n+1) rfl rfl (by omega) (by omega) (by omega) ?_; intro w1 hB1 hb1)
 refine (zZ w.heap.size (q+n+1) (fun _=>0) ao n ca q p a w1 hB1 ((ly.of ha (Nat.le_refl _)).keeps (HJ hb1)) da hn (Nat.le_refl _) (by omega) hp k HK.out 1 (.inl rfl) 0 (fun _ _=>⟨by omega,by omega⟩) (by omega)).mono ?_
 rintro e w2 ⟨rfl,r,hB2,hW2,hP⟩
 have hb2:Below w.heap.size w w2:=hW2.below hb1 hb1.size (Nat.le_refl _)
 go_wp2_with fail
 refine (kJ _ _ _ _ _ (hB2.row0 (Nat.le_refl _) (by omega))).mono ?_
 rintro e w3 ⟨t,ht,htop,hz,rfl,rfl⟩
 go_wp2
 go_ret
 have D2:bL r (q+n+1):=fun i hi=>by have:=hP.near i; omega
 obtain ⟨hN,hv⟩:=i7 D2 ht htop hz
 refine ⟨_,rfl,t,r,hB2.cut (Nat.le_refl _) ht (by omega),hN,?_,hb2⟩
 rw [hv,hP.sum,gX (Nat.zero_le _) (fun _ _ _=>rfl)]
 show 0+1*_=_
 omega
theorem Db (ao:Option Addr) (n ca k:Nat) (a:Nat->Int) (w:World) (ha:aQ w ao n ca a) (da:bL a n) (hn:n<=100000) (hk:k<=1000000) :
  Calls Tryz.prog 173 #[.slice ao n ca,.int .i64 k] w fun e w'=>∃ v,e=.returned v∧dm w w' (val a n*2^k) v:=by
 refine (Fu ao n ca (k/30) (k % 30) a w ha da hn (by omega) (by omega) k (by omega)).mono ?_
 rintro e w' ⟨v,he,h⟩
 refine ⟨v,he,?_⟩
 rw [vi k]
 rwa [show val a n*(P (k/30)*2^(k % 30))=P (k/30)*(2^(k % 30)*val a n) by grind]
theorem Fv {x y:Int} {p:Nat} (hx:0<=x∧x<1073741824) (hy:0<=y∧y<1073741824) (hp:p<30) :
  0<=x/2^p∧x/2^p<2^(30-p)∧y*2^(30-p) % 1073741824=y % 2^p*2^(30-p)∧0<=y % 2^p∧y % 2^p*2^(30-p)<1073741824:=by
 have hu:=aO p
 have hv:=aO (30-p)
 have huv:(2:Int)^p*2^(30-p)=1073741824:=by rw [<- Int.pow_add,show p+(30-p)=30 by omega]; rfl
 have m0:=Int.emod_nonneg y (show (2:Int)^p≠0 by omega)
 have m1:=Int.emod_lt_of_pos y hu
 refine ⟨Int.ediv_nonneg hx.1 (by omega),(Int.ediv_lt_iff_lt_mul hu).2 (by rw [Int.mul_comm,huv]; exact hx.2),?_,m0,?_⟩
 ·rw [<- huv,Int.mul_comm y,Int.mul_comm (2^p:Int),Int.mul_emod_mul_of_pos _ _ hv,Int.mul_comm]
 ·have h1:(y % 2^p+1)*2^(30-p)<=2^p*2^(30-p):=Int.mul_le_mul_of_nonneg_right (by omega) (by omega)
  rw [huv,Int.add_mul] at h1
  omega
theorem Fw {s:Nat->Int} {u v:Int} {k:Nat} (h:s (k+1)=0):low s u v k=s k/u:=by
 unfold low; rw [h,Int.zero_emod,Int.zero_mul,Int.add_zero]
theorem Fy (ao:Option Addr) (n ca q p:Nat) (a:Nat->Int) (w:World) (ha:aQ w ao n ca a) (da:bL a n) (hn:n<=100000) (hp:p<30) (k:Int) (hk:k=30*q+p) (hkm:k<9223372036854775808) :
    Calls Tryz.prog 87 #[.slice ao n ca,.int .i64 k] w fun e w'=>∃ v,e=.returned v∧dm w w' (val a n/P q/2^p) v:=by
  have hla:=ha.le
  have hma:=ha.max
  have e1:k/30=q:=by omega
  have e2:k % 30=p:=by omega
  have hk0:0<=k:=by omega
  have hqm:(q:Int)<9223372036854775808:=by omega
  clear hk
  have hu:=aO p
  have huv:(2:Int)^p*2^(30-p)=1073741824:=by rw [<- Int.pow_add,show p+(30-p)=30 by omega]; rfl
  have HU:Hid ((2:Int)^p*2^(30-p)=1073741824):=huv
  clear huv
  by_cases hqn:n<=q
  · have h0:val a n/P q/2^p=0:=by
      rw [Int.ediv_eq_zero_of_lt (bc da) (by have:=cM da; have:=lx hqn; omega)]; exact Int.zero_ediv _
    have H0:Hid (val a n/P q/2^p=0):=h0
    clear h0
    go_enter Tryz.func87,Tryz.ntmps87
    go_wp2
    go_ret
    exact ⟨_,rfl,by rw [H0.out]; exact dm.nil (aA _)⟩
  · obtain ⟨ba,fa,rfl,hba,hca⟩:=ha.spot (by omega)
    have sp:(((30:Int)-p).toNat)=30-p:=by omega
    obtain ⟨N,hN⟩:∃ N,n=q+N:=⟨n-q,by omega⟩
    have HN:Hid (n=q+N):=hN
    have hn1:q+N<=n:=by omega
    have hn2:n<=q+N:=by omega
    have hN0:0<N:=by omega
    have hq1:q<=100000:=by omega
    have hk1:k<=4000000:=by omega
    clear hN hqn hqm hkm
    go_enter Tryz.func87,Tryz.ntmps87
    go_wp2_with (at_make; refine mI rfl _ _ rfl _ _ N rfl rfl (by omega) (by omega) (by omega) ?_; intro w1 hB1 hb1)
    go_loopw [24] (fun i wr=>∃ (k:Nat) (r:Nat->Int),k<=N∧i=.int .i64 k∧bO wr w.heap.size N r∧Hid (∀ i,i<k->r i=low (fun j=>pE a n (q+j)) (2^p) (2^(30-p)) i)∧Below w.heap.size w wr) (fun i _=>N-(intOf i).toNat)
    case atStart=>exact ⟨0,fun _=>0,Nat.zero_le _,rfl,hB1,fun i hi=>by omega,hb1⟩
    case round=>
      obtain ⟨k,r,hk,rfl,hB,HV,hbw⟩:=hrel
      by_cases hlt:k<N
      · have c1:=(hbw.cell (p:=⟨ba,fa+(q+k),none⟩) hba).trans (hca (q+k) (by omega))
        have cg:=hB.cell hlt
        have fg:=hB.frozen k
        have hB2:=hB.store k (a (q+k)/2^p)
        by_cases hl2:q+k+1<n
        · have dx:=da (q+k) (by omega)
          have dy:=da (q+k+1) (by omega)
          obtain ⟨s0,s1,s2,s3,s4⟩:=Fv dx dy hp
          obtain ⟨t0,t1,t2⟩:=zX dy (show 30-p<=30 by omega)
          have hw:wrap64 (a (q+k+1)*2^(30-p))=a (q+k+1)*2^(30-p):=IntWalk.wrap64_in _ ⟨by omega,by omega⟩
          have h30:bits .and .i64 (a (q+k+1)*2^(30-p)) 1073741823=a (q+k+1) % 2^p*2^(30-p):=(pG _).trans s2
          have hor:bits .or .i64 (a (q+k)/2^p) (a (q+k+1) % 2^p*2^(30-p))=a (q+k)/2^p+a (q+k+1) % 2^p*2^(30-p):=wO _ _ _ s0 s1 s3 (by have:(2:Int)^(30-p)<=2^30:=ga (by omega); omega)
          have c2:=(hbw.cell (p:=⟨ba,fa+(q+k+1),none⟩) hba).trans (hca (q+k+1) (by omega))
          clear s2
          go_wp2
          go_region
          go_wp2
          go_roundw
          case rel=>exact ⟨k+1,b7 (b7 r k (a (q+k)/2^p)) k (a (q+k)/2^p+a (q+k+1) % 2^p*2^(30-p)),by omega,by go_num,(hB2.store k _).of_block rfl,fun i hi=>by
              by_cases e:i=k
              · rw [e,bt]
                show _=pE a n (q+k)/2^p+pE a n (q+(k+1)) % 2^p*2^(30-p)
                rw [pF a (by omega),pF a (by omega),Nat.add_assoc]
              · rw [aV _ _ e,aV r _ e]; exact HV.out i (by omega),((hbw.setCell (Nat.le_refl _) _).setCell (Nat.le_refl _) _).drew⟩
          case measure=>simp [intOf]; omega
        · go_wp2
          go_roundw
          case rel=>exact ⟨k+1,b7 r k (a (q+k)/2^p),by omega,by go_num,hB2,fun i hi=>by
              by_cases e:i=k
              · rw [e,bt,Fw (s:=fun j=>pE a n (q+j)) (wN a (by omega)),pF a (by omega)]
              · rw [aV r _ e]; exact HV.out i (by omega),hbw.setCell (Nat.le_refl _) _⟩
          case measure=>simp [intOf]; omega
      · obtain rfl:k=N:=by omega
        go_wp2_with (go_at_call 84; refine (kJ _ _ _ _ _ (hB.row0 (Nat.le_refl _) (by omega))).mono ?_; rintro e w3 ⟨t,ht,htop,hz,rfl,rfl⟩)
        go_ret
        have DS:bL (fun j=>pE a n (q+j)) (k+1):=fun i hi=>IT da (q+k+1) (q+i) (by omega)
        have D2:bL r k:=(IU hu HU.out DS).congr fun i hi=>(HV.out i hi).symm
        obtain ⟨hNr,hv⟩:=i7 D2 ht htop hz
        refine ⟨_,rfl,t,r,hB.cut (Nat.le_refl _) ht (by omega),hNr,?_,hbw⟩
        rw [hv,jK HV.out,Kl (s:=fun j=>pE a n (q+j)) hu HU.out (wN a (by omega))]
        have e3:=Fo a (show q<=n by omega) da
        rw [<- e3,show n-q=k by omega]
        congr 1
        exact jK fun i hi=>pF a (by omega)
theorem vr (ao:Option Addr) (n ca k:Nat) (a:Nat->Int) (w:World) (ha:aQ w ao n ca a) (da:bL a n) (hn:n<=100000) (hk:(k:Int)<9223372036854775808) :
  Calls Tryz.prog 87 #[.slice ao n ca,.int .i64 k] w fun e w'=>∃ v,e=.returned v∧dm w w' (val a n/2^k) v:=by
 refine (Fy ao n ca (k/30) (k % 30) a w ha da hn (by omega) k (by omega) hk).mono ?_
 rintro e w' ⟨v,he,h⟩
 refine ⟨v,he,?_⟩
 rw [vi k,<- Int.ediv_ediv_of_nonneg (Int.le_of_lt (cw _))]
 exact h
def mf (ng:Bool) (d:Nat->Int) (n:Nat) (e:Int):Bool:=decide ((n=0∧ng=false∧e=0)∨(0<n∧(n<=2000∧cT d n)∧d 0 % 2=1∧-1048576<=e∧e<=1048576))
theorem I6 (x:Int):bits .and .i64 x 1=x % 2:=iJ x 1 (by decide)
theorem lI (ng:Bool) (ao:Option Addr) (n cap:Nat) (d:Nat->Int) (e:Int) (w:World) (h:aQ w ao n cap d) :
  Calls Tryz.prog 55 #[.agg #[.bool ng,.slice ao n cap,.int .i64 e]] w fun r w'=>r=.returned (.bool (mf ng d n e))∧Below w.heap.size w w':=by
 have hl:=h.le
 have hm:=h.max
 by_cases h0:n=0
 ·subst h0
  have e0:mf ng d 0 e=(!ng && (e == 0)):=by
   by_cases he:e=0 <;> cases ng <;> simp [mf,he]
  cases ng
  ·go_enter Tryz.func55,Tryz.ntmps55
   go_wp2
   go_ret
   exact ⟨b5 (by rw [e0]; rfl),ah _ _⟩
  ·go_enter Tryz.func55,Tryz.ntmps55
   go_wp2
   go_ret
   exact ⟨b5 (by rw [e0]; rfl),ah _ _⟩
 ·obtain ⟨b,off,rfl,hb,hc⟩:=h.spot (by omega)
  have c0:(w.alloc (.cells #[.bool ng,.slice (some ⟨b,off,none⟩) n cap,.int .i64 e] 34)).cell? ⟨b,off,none⟩=some (.int .i64 (d 0)):=((ah w _).cell (p:=⟨b,off,none⟩) hb).trans (hc 0 (by omega))
  have hA:=I6 (d 0)
  have hn0:((n:Int) == 0)=false:=by simp; omega
  have hR:=h.alloc (.cells #[.bool ng,.slice (some ⟨b,off,none⟩) n cap,.int .i64 e] 34)
  by_cases h1:d 0 % 2=1
  ·by_cases h2:-1048576<=e
   ·by_cases h3:e<=1048576
    ·have e0:mf ng d n e=vm d n:=by simp [mf,vm,h0,h1,h2,h3]; omega
     go_enter Tryz.func55,Tryz.ntmps55
     go_wp2_with (go_at_call 82; refine (CZ _ _ _ _ _ hR).mono ?_; rintro r w1 ⟨rfl,rfl⟩)
     go_ret
     exact ⟨b5 e0.symm,ah _ _⟩
    ·have e0:mf ng d n e=false:=by simp [mf]; omega
     go_enter Tryz.func55,Tryz.ntmps55
     go_wp2
     go_ret
     exact ⟨b5 (by first | rfl | rw [e0]),ah _ _⟩
   ·have e0:mf ng d n e=false:=by simp [mf]; omega
    go_enter Tryz.func55,Tryz.ntmps55
    go_wp2
    go_ret
    exact ⟨b5 (by first | rfl | rw [e0]),ah _ _⟩
  ·have e0:mf ng d n e=false:=by simp [mf]; omega
   go_enter Tryz.func55,Tryz.ntmps55
   go_wp2
   go_ret
   exact ⟨b5 (by first | rfl | rw [e0]),ah _ _⟩
def sgn (ng:Bool) (n:Nat):Int:=if n=0 then 0 else if ng then -1 else 1
theorem vs (ng:Bool) (ao:Option Addr) (n cap:Nat) (e:Int) (w:World) (hm:n<=9223372036854775807) :
  Calls Tryz.prog 56 #[.agg #[.bool ng,.slice ao n cap,.int .i64 e]] w fun r w'=>r=.returned (.int .i64 (sgn ng n))∧Below w.heap.size w w':=by
 by_cases h0:n=0
 ·subst h0
  go_enter Tryz.func56,Tryz.ntmps56
  go_wp2
  go_ret
  exact ⟨rfl,ah _ _⟩
 ·have hn0:((n:Int) == 0)=false:=by simp; omega
  cases ng
  ·go_enter Tryz.func56,Tryz.ntmps56
   go_wp2
   go_ret
   exact ⟨fW (by simp [sgn,h0]),ah _ _⟩
  ·go_enter Tryz.func56,Tryz.ntmps56
   go_wp2
   go_ret
   exact ⟨fW (by simp [sgn,h0]),ah _ _⟩
theorem Fz (ng:Bool) (ao:Option Addr) (n cap:Nat) (d:Nat->Int) (e:Int) (w:World) (h:aQ w ao n cap d) (hd:cT d n) (hn:n<=100000) (he0:-8388608<=e) (he1:e<=8388608) :
  Calls Tryz.prog 118 #[.agg #[.bool ng,.slice ao n cap,.int .i64 e]] w fun r w'=>r=.returned (.int .i64 (e+bh (val d n)))∧Below w.heap.size w w':=by
 have hR:=h.alloc (.cells #[.bool ng,.slice ao n cap,.int .i64 e] 34)
 have hb:bh (val d n)<=30*n:=i9 (by rw [<- eC]; exact cM hd.1)
 go_enter Tryz.func118,Tryz.ntmps118
 go_wp2
 go_quiet ((refine (jB _ _ _ _ _ (hR.keeps (iu (aA _) _)) hd (by omega)).mono ?_; rintro _ _ ⟨rfl,rfl⟩; exact ⟨rfl,_,rfl⟩))
 go_wp2
 go_ret
 exact ⟨rfl,iu (ah _ _) _⟩
structure aL where
 ng:Bool
 ao:Option Addr
 n:Nat
 cap:Nat
 d:Nat->Int
 e:Int
instance:Inhabited aL:=⟨⟨false,none,0,0,fun _=>0,0⟩⟩
def aL.v (r:aL):Value:=.agg #[.bool r.ng,.slice r.ao r.n r.cap,.int .i64 r.e]
structure Dc (w:World) (b o:Nat) (r:aL):Prop where
 c0:w.cell? ⟨b,o,none⟩=some (.bool r.ng)
 c1:w.cell? ⟨b,o+1,none⟩=some (.slice r.ao r.n r.cap)
 c2:w.cell? ⟨b,o+2,none⟩=some (.int .i64 r.e)
 row:aQ w r.ao r.n r.cap r.d
structure cN (w:World) (ao:Option Addr) (n cap:Nat) (r:Nat->aL):Prop where
 le:n<=cap
 max:cap<=9223372036854775807
 spot:0<n->∃ b off,ao=some ⟨b,off,none⟩∧b<w.heap.size∧∀ i,i<n->Dc w b (off+i*3) (r i)
theorem Dc.keeps {w w':World} {b o:Nat} {r:aL} (h:Dc w b o r) (hb:Below w.heap.size w w') (hlt:b<w.heap.size):Dc w' b o r :=
 ⟨(hb.cell (p:=⟨b,o,none⟩) hlt).trans h.c0,(hb.cell (p:=⟨b,o+1,none⟩) hlt).trans h.c1,(hb.cell (p:=⟨b,o+2,none⟩) hlt).trans h.c2,h.row.keeps hb⟩
theorem cN.keeps {w w':World} {ao:Option Addr} {n cap:Nat} {r:Nat->aL} (h:cN w ao n cap r) (hb:Below w.heap.size w w'):cN w' ao n cap r :=
  ⟨h.le,h.max,fun hn=>by
    obtain ⟨b,off,rfl,hlt,hc⟩:=h.spot hn
    exact ⟨b,off,rfl,Nat.lt_of_lt_of_le hlt hb.size,fun i hi=>(hc i hi).keeps hb hlt⟩⟩
def cB (r:aL):Bool:=mf r.ng r.d r.n r.e
def qI (r:Nat->aL) (n:Nat):Bool:=decide (∀ i,i<n->cB (r i)=true)
theorem kW (ao:Option Addr) (n cap:Nat) (r:Nat->aL) (w:World) (h:cN w ao n cap r) :
    Calls Tryz.prog 57 #[.slice ao n cap] w fun x w'=>x=.returned (.bool (qI r n))∧Below w.heap.size w w':=by
  have hl:=h.le
  have hm:=h.max
  go_enter Tryz.func57,Tryz.ntmps57
  go_wp2_with fail
  go_loopw [7] (fun i wr=>∃ k:Nat,k<=n∧i=.int .i64 k∧Hid (∀ j,j<k->cB (r j)=true)∧Below w.heap.size w wr) (fun i _=>n-(intOf i).toNat)
  case atStart=>exact ⟨0,Nat.zero_le _,rfl,fun j hj=>by omega,aA _⟩
  case round=>
    obtain ⟨k,hk,rfl,HO,hbw⟩:=hrel
    by_cases hlt:k<n
    · obtain ⟨b,off,rfl,hb,hc⟩:=h.spot (by omega)
      obtain ⟨c0,c1,c2,hR⟩:=(hc k hlt).keeps hbw hb
      generalize hr:r k=x at *
      obtain ⟨ng,xo,xn,xc,xd,xe⟩:=x
      simp only at c0 c1 c2 hR
      by_cases hok:mf ng xd xn xe=true
      · go_wp2_with (go_at_call 55; refine (lI ng xo xn xc xd xe _ (hR.alloc _)).mono ?_; rintro x w1 ⟨rfl,hb1⟩)
        go_roundw
        case rel=>exact ⟨k+1,by omega,by go_num,fun j hj=>by
            by_cases e:j=k
            · subst e; rw [hr]; exact hok
            · exact HO.out j (by omega),hbw.trans ((aa (ah _ _) hb1).mono hbw.size)⟩
        case measure=>simp [intOf]; omega
      · have hok':mf ng xd xn xe=false:=by simpa using hok
        go_wp2_with (go_at_call 55; refine (lI ng xo xn xc xd xe _ (hR.alloc _)).mono ?_; rintro x w1 ⟨rfl,hb1⟩)
        go_ret
        exact ⟨b5 (by
          symm
          refine decide_eq_false fun hx=>?_
          have:=hx k hlt
          rw [hr] at this
          exact hok this),hbw.trans ((aa (ah _ _) hb1).mono hbw.size)⟩
    · obtain rfl:k=n:=by omega
      go_wp2
      go_ret
      exact ⟨b5 (decide_eq_true HO.out).symm,hbw⟩
theorem zv (ao bo:Option Addr) (n m ca cb:Nat) (a b:Nat->Int) (w:World) (ha:aQ w ao n ca a) (hb:aQ w bo m cb b) (da:bL a n) (db:bL b m) (hn:n<=100000) (hm:m<=100000) :
  Calls Tryz.prog 88 #[.slice ao n ca,.slice bo m cb] w fun e w'=>∃ v,e=.returned v∧dm w w' (val a n*val b m) v:=by
 have hla:=ha.le
 have hma:=ha.max
 have hlb:=hb.le
 have hmb:=hb.max
 go_enter Tryz.func88,Tryz.ntmps88
 go_wp2_with (at_make; refine mI rfl _ _ rfl _ _ (n+m) rfl rfl (by omega) (by omega) (by omega) ?_; intro w1 hB1 hb1)
 go_loopw [18] (fun i wr=>∃ (k:Nat) (r:Nat->Int),k<=n∧i=.int .i64 k∧bO wr w.heap.size (n+m) r∧bL r (n+m)∧Hid (∀ t,k+m<=t->r t=0)∧Hid (val r (k+m)=val a k*val b m)∧Below w.heap.size w wr) (fun i _=>n-(intOf i).toNat)
 case atStart=>exact ⟨0,fun _=>0,Nat.zero_le _,rfl,hB1,xf _,fun _ _=>rfl,by show _=_; rw [gX (Nat.zero_le (0+m)) (fun _ _ _=>rfl)]; show 0=0*val b m; omega,hb1⟩
 case round=>
  obtain ⟨i,r0,hi,rfl,hB0,hD0,HZ0,HV0,hbw0⟩:=hrel
  by_cases hlt:i<n
  ·obtain ⟨ba,fa,rfl,hba,hca⟩:=ha.spot (by omega)
   have dai:=da i hlt
   go_wp2
   go_loopw [8,30] (fun c j wr=>∃ (k:Nat) (q:Int) (r:Nat->Int),k<=m∧j=.int .i64 k∧c=.int .i64 q∧0<=q∧q<1073741824∧bO wr w.heap.size (n+m) r∧bL r (n+m)∧Hid (∀ t,i+k<=t->r t=r0 t)∧Hid (val r (i+k)+q*P (i+k)=val r0 (i+k)+a i*val b k*P i)∧Below w.heap.size w wr) (fun _ j _=>m-(intOf j).toNat)
   case atStart=>exact ⟨0,0,r0,Nat.zero_le _,rfl,rfl,by omega,by omega,hB0,hD0,fun _ _=>rfl,by show _=_; show val r0 i+0*P i=val r0 i+a i*0*P i; grind,hbw0⟩
   case round=>
    obtain ⟨k,q,r,hk,rfl,rfl,hq0,hq1,hB,hD,HS,HV,hbw⟩:=hrel
    have c1:=(hbw.cell (p:=⟨ba,fa+i,none⟩) hba).trans (hca i hlt)
    by_cases hkm:k<m
    ·obtain ⟨bb,fb,rfl,hbb,hcb⟩:=hb.spot (by omega)
     have c2:=(hbw.cell (p:=⟨bb,fb+k,none⟩) hbb).trans (hcb k hkm)
     have c3:=hB.cell (show i+k<n+m by omega)
     have fg:=hB.frozen (i+k)
     have drk:=hD (i+k) (by omega)
     have hmul:=I4 dai (db k hkm)
     have h30:=pG (q+(a i*b k+r (i+k)))
     go_wp2
     go_quiet (fail)
     go_wp2
     have hs:=Ft (b:=b) (j:=k) HV.out (HS.out (i+k) (Nat.le_refl _))
     go_roundw
     case rel=>exact ⟨k+1,_,b7 r (i+k) ((q+(a i*b k+r (i+k))) % 1073741824),by omega,by go_num,rfl,by omega,by omega,hB.store (i+k) _,hD.upd _ (ut _),fun t ht=>by rw [aV r _ (by omega)]; exact HS.out t (by omega),hs,(iu hbw _).setCell (Nat.le_refl _) _⟩
     case measure=>simp [intOf]; omega
    ·obtain rfl:k=m:=by omega
     have c3:=hB.cell (show i+k<n+k by omega)
     have fg:=hB.frozen (i+k)
     go_wp2
     have hr:=I5 HV.out HV0.out
     go_roundw
     case rel=>exact ⟨i+1,b7 r (i+k) q,by omega,by go_num,hB.store (i+k) _,hD.upd _ ⟨hq0,hq1⟩,fun t ht=>by rw [aV r _ (by omega),HS.out t (by omega)]; exact HZ0.out t (by omega),by show _=_; rw [hr,br],hbw.setCell (Nat.le_refl _) _⟩
     case measure=>simp [intOf]; omega
  ·obtain rfl:i=n:=by omega
   go_wp2_with (go_at_call 84; refine (kJ _ _ _ _ _ (hB0.row0 (Nat.le_refl _) (by omega))).mono ?_; rintro e w3 ⟨t,ht,htop,hz,rfl,rfl⟩)
   go_ret
   obtain ⟨hN,hv⟩:=i7 hD0 ht htop hz
   exact ⟨_,rfl,t,r0,hB0.cut (Nat.le_refl _) ht (by omega),hN,by rw [hv,HV0.out],hbw0⟩
def Bj (ao:Option Addr) (t cap:Nat):Value:=if 2000<t then .slice none 0 0 else .slice ao t cap
def FC (t:Nat):Int:=if 2000<t then 2 else 0
theorem Nu.of {w w':World} {V:Int} {ao:Option Addr} {t cap:Nat} {d:Nat->Int} (h1:aX w.heap.size w' (.slice ao t cap) t d) (h2:cT d t) (h3:val d t=V) (hb:Below w.heap.size w w'):Nu w w' V (Bj ao t cap) (FC t):=by
 refine ⟨hb,?_⟩
 by_cases h:2000<t
 ·refine .inr ⟨?_,by simp [FC,h],by simp [Bj,h]⟩
  have a:=jL h2.1 (by omega) h2.2
  have b:=lx (show 2000<=t-1 by omega)
  omega
 ·refine .inl ⟨?_,by simp [FC,h],?_⟩
  ·have a:=cM h2.1
   have b:=lx (show t<=2000 by omega)
   omega
  ·rw [show Bj ao t cap=.slice ao t cap by simp [Bj,h]]
   exact ⟨t,d,h1,h2,h3,hb⟩
structure rj (w:World) (ao bo:Option Addr) (n m ca cb:Nat) (a b:Nat->Int):Prop where
 ra:aQ w ao n ca a
 rb:aQ w bo m cb b
theorem rj.keeps {w w':World} {ao bo:Option Addr} {n m ca cb:Nat} {a b:Nat->Int} (h:rj w ao bo n m ca cb a b) (hb:Below w.heap.size w w'):rj w' ao bo n m ca cb a b:=⟨h.ra.keeps hb,h.rb.keeps hb⟩
instance (n:Nat) (a b:Nat->Int):Decidable (∀ i,i<n->a i=b i):=by infer_instance
theorem iF.ok {d:Nat->Int} {n:Nat} (h:cT d n) (hV:val d n<P 2000):vm d n=true:=by
 refine uu ?_ h
 by_cases hk:n<=2000
 ·exact hk
 ·have a:=jL h.1 (by omega) h.2
  have b:=lx (show 2000<=n-1 by omega)
  omega
theorem Bk (V:Int) (w:World) (h0:0<=V) (h1:V<9223372036854775808) :
    Calls Tryz.prog 144 #[.int .i64 V] w fun e w'=>∃ v,e=.returned v∧dm w w' V v:=by
  have HM:Hid (V<9223372036854775808):=h1
  clear h1
  go_enter Tryz.func144,Tryz.ntmps144
  go_wp2
  go_loopw [0,3] (fun i v wr=>∃ (x:Int) (k:Nat) (r:Nat->Int),i=.int .i64 x∧0<=x∧k<=3∧aX w.heap.size wr v k r∧bL r k∧Hid (x*P k<=V)∧Hid (x=0->wM r k)∧Hid (val r k+x*P k=V)∧Below w.heap.size w wr) (fun i _ _=>(intOf i).toNat)
  case atStart=>exact ⟨V,0,fun _=>0,rfl,h0,by omega,aX.nil _ _ _,fun i hi=>by omega,by show _<=_; show V*1<=V; omega,fun _=>.inl rfl,by show _=_; show 0+V*1=V; omega,aA _⟩
  case round=>
    obtain ⟨x,k,r,rfl,hx,hk3,hO,hD,HB,HT,HV,hbw⟩:=hrel
    by_cases hp:0<x
    · have h30:=pG x
      have hk2:k<=2:=by
        by_cases e:k=3
        · subst e
          have a:=HB.out
          have b:=HM.out
          have c:P 3=1073741824*1073741824*1073741824:=by decide
          have d:1*P 3<=x*P 3:=Int.mul_le_mul_of_nonneg_right (by omega) (Int.le_of_lt (cw 3))
          omega
        · omega
      go_wp2_with (at_builtin; refine lG rfl _ _ rfl w.heap.size _ k r rfl (hO.stays (ah _ _)) _ 1 1 (fun _=>x % 1073741824) rfl (r7 _ _ rfl) (by omega) (by have:=hbw.size; simp; omega) ?_; intro v' w1 hO1 hg1)
      have hb1:Below w.heap.size w w1:=(hbw.alloc hbw.size _).grown hg1 (by have:=hbw.size; simp; omega) (wX hO)
      have e1:∀ i,i<k+1->kr r k (fun _=>x % 1073741824) i=b7 r k (x % 1073741824) i:=fun i hi=>by
        by_cases e:i<k
        · simp [kr,e,aV r _ (show i≠k by omega)]
        · obtain rfl:i=k:=by omega
          simp [kr,bt]
      have hs:=xg (c:=0) (x:=x) (show val r k+0*P k=val r k by omega)
      rw [Int.zero_add] at hs
      go_roundw
      case rel=>exact ⟨x/1073741824,k+1,b7 r k (x % 1073741824),rfl,by omega,by omega,hO1.congr e1,xh ((hD.congr (fun i hi=>(aV r _ (by omega)).symm))) (by rw [bt]; omega) (by rw [bt]; omega),by
          show _<=_
          have a:=HB.out
          rw [iK,show x/1073741824*(P k*1073741824)=(x/1073741824*1073741824)*P k by grind]
          have b:(x/1073741824*1073741824)*P k<=x*P k:=Int.mul_le_mul_of_nonneg_right (by omega) (Int.le_of_lt (cw k))
          omega,fun e=>.inr (by rw [Nat.add_sub_cancel,bt]; omega),by show _=_; rw [hs]; exact HV.out,hb1⟩
      case measure=>simp [intOf]; omega
    · obtain rfl:x=0:=by omega
      go_wp2
      go_ret
      exact ⟨_,rfl,k,r,hO,⟨hD,HT.out (by first | rfl | trivial)⟩,by have:=HV.out; omega,hbw⟩
def Gs (U V t:Int):Prop:=0<=t∧t<1073741824∧(t-1)*V<=U∧U<(t+1)*V
structure mK (u v:Nat->Int) (L:Nat) (U V:Int):Prop where
 du:bL u (L+3)
 dv:bL v (L+2)
 top:536870912<=v (L+1)
 eU:U=val u (L+3)
 eV:V=val v (L+2)
 lt:U<1073741824*V
theorem mK.splitV {u v:Nat->Int} {L:Nat} {U V:Int} (h:mK u v L U V):V=(v (L+1)*1073741824+v L)*P L+val v L:=by
 rw [h.eV,br,br,iK]; grind
theorem mK.splitU {u v:Nat->Int} {L:Nat} {U V:Int} (h:mK u v L U V):U=((u (L+2)*1073741824+u (L+1))*1073741824+u L)*P L+val u L:=by
 rw [h.eU,br,br,br,show P (L+2)=P L*1073741824*1073741824 from rfl,show P (L+1)=P L*1073741824 from rfl]; grind
theorem mK.topU {u v:Nat->Int} {L:Nat} {U V:Int} (h:mK u v L U V):u (L+2)<=v (L+1):=by
 have h1:val u (L+3)=val u (L+2)+u (L+2)*P (L+2):=br _ _
 have h2:val v (L+2)=val v (L+1)+v (L+1)*P (L+1):=br _ _
 have a:=bc (h.du.le (show L+2<=L+3 by omega))
 have b:=cM (h.dv.le (show L+1<=L+2 by omega))
 have c:=h.lt
 rw [h.eU,h.eV,h1,h2] at c
 have p:=cw (L+1)
 have e:P (L+2)=P (L+1)*1073741824:=iK _
 rw [e] at c
 rcases Int.lt_or_le (v (L+1)) (u (L+2)) with q | q
 ·have f:(v (L+1)+1)*(P (L+1)*1073741824)<=u (L+2)*(P (L+1)*1073741824):=cG (by omega) (by omega)
  have g:(v (L+1)+1)*(P (L+1)*1073741824)=1073741824*(v (L+1)*P (L+1))+1073741824*P (L+1):=by grind
  omega
 ·exact q
theorem mK.start {u v:Nat->Int} {L:Nat} {U V:Int} (h:mK u v L U V) {t l:Int} (ht:0<=t) (hh:u (L+2)*1073741824+u (L+1)=t*v (L+1)+l) (hl:l<v (L+1)):U<(t+1)*V:=by
 have sU:=h.splitU
 have sV:=h.splitV
 have p:=cw L
 have a:=cM (h.du.le (show L<=L+3 by omega))
 have b:=bc (h.dv.le (show L<=L+2 by omega))
 have dL:=h.du L (by omega)
 have vL:=h.dv L (by omega)
 have e1:(u (L+2)*1073741824+u (L+1)+1)*(1073741824*P L)<=(t+1)*v (L+1)*(1073741824*P L):=cG (by rw [Int.add_mul]; omega) (by omega)
 have e2:0<=(t+1)*(v L*P L+val v L):=Int.mul_nonneg (by omega) (by have:=Int.mul_nonneg vL.1 (Int.le_of_lt p); omega)
 have e3:(t+1)*V=(t+1)*v (L+1)*(1073741824*P L)+(t+1)*(v L*P L+val v L):=by rw [sV]; grind
 have e4:U=(u (L+2)*1073741824+u (L+1)+1)*(1073741824*P L)-1073741824*P L+u L*P L+val u L:=by rw [sU]; grind
 have e5:u L*P L<=1073741823*P L:=cG (by omega) (by omega)
 omega
theorem mK.small {u v:Nat->Int} {L:Nat} {U V:Int} (h:mK u v L U V) {t l:Int} (hh:u (L+2)*1073741824+u (L+1)=t*v (L+1)+l) (hl:1073741823<l):t<1073741824:=by
 rcases Int.lt_or_le t 1073741824 with q | q
 ·exact q
 ·have a:=h.topU
  have b:=(h.du (L+1) (by omega)).2
  have c:=(h.dv (L+1) (by omega)).1
  have e:1073741824*v (L+1)<=t*v (L+1):=cG q c
  omega
theorem mK.long {u v:Nat->Int} {L:Nat} {U V:Int} (h:mK u v L U V) {t l:Int} (ht:0<=t) (hh:u (L+2)*1073741824+u (L+1)=t*v (L+1)+l) (hl:1073741823<l) (hU:U<(t+1)*V):Gs U V t:=by
 have a:=Bi h.splitV (cM (h.dv.le (by omega))) (h.dv L (by omega)).2 h.splitU (bc (h.du.le (by omega))) (h.du L (by omega)).1 (cw L) hh ht (h.small hh hl) (by omega)
 have:=bc h.dv
 rw [<- h.eV] at this
 exact ⟨ht,h.small hh hl,by rw [Int.sub_mul]; omega,hU⟩
theorem mK.done {u v:Nat->Int} {L:Nat} {U V:Int} (h:mK u v L U V) {t l:Int} (ht:0<=t) (hh:u (L+2)*1073741824+u (L+1)=t*v (L+1)+l) (h1:t<1073741824) (hc:t*v L<=l*1073741824+u L) (hU:U<(t+1)*V):Gs U V t :=
 ⟨ht,h1,zu h.splitV (bc (h.dv.le (by omega))) (cM (h.dv.le (by omega))) (by have:=h.top; omega) (h.dv L (by omega)).1 h.splitU (bc (h.du.le (by omega))) (cw L) hh ht h1 hc,hU⟩
theorem ly.row {g:Nat} {w:World} {ao:Option Addr} {n cap:Nat} {d:Nat->Int} (h:ly g w ao n cap d) (hn:0<n):aQ w ao n cap d :=
  ⟨h.le,h.max,(fun e=>by obtain ⟨b,off,q,_⟩:=h.spot hn; rw [q] at e; cases e),fun _=>by
    obtain ⟨b,off,q,hlt,_,hc⟩:=h.spot hn
    exact ⟨b,off,q,hlt,hc⟩⟩
def Tk (g N at_ M:Nat) (r:Nat->Int) (w w':World) (U V t:Int):Prop :=
 ∃ r',bO w' g N r'∧(∀ i,i<at_∨at_+M<i->r' i=r i)∧bL (fun i=>r' (at_+i)) (M+1)∧U=t*V+val (fun i=>r' (at_+i)) (M+1)∧val (fun i=>r' (at_+i)) (M+1)<V∧0<=t∧t<1073741824∧Wr g w w'
theorem bO.cells {w:World} {g N:Nat} {r:Nat->Int} (h:bO w g N r) {at_ n:Nat} (hn:at_+n<=N):∀ i,i<n->w.cell? ⟨g,at_+i,none⟩=some (.int .i64 ((fun j=>r (at_+j)) i)):=fun i hi=>h.cell (by omega)
theorem aX.cut {B:Nat} {w:World} {ao:Option Addr} {n cap m:Nat} {d:Nat->Int} (h:aX B w (.slice ao n cap) n d) (hm:m<=n):aX B w (.slice ao m cap) m d:=by
 refine ⟨by rw [bR]; omega,?_⟩
 rcases h.2 with ⟨hn,h0⟩ | ⟨g,cap',cur,hv,hB,hg,hnc,hcm,hs,ht⟩
 ·simp only [Value.slice.injEq] at hn
  obtain ⟨rfl,rfl,rfl⟩:=hn
  obtain rfl:m=0:=by omega
  exact .inl ⟨rfl,rfl⟩
 ·simp only [Value.slice.injEq] at hv
  obtain ⟨rfl,_,rfl⟩:=hv
  refine .inr ⟨g,cap,cur,rfl,hB,hg,by omega,hcm,hs,?_⟩
  apply jD (by simp; omega)
  intro i hi
  have e:(cur.toList.take (n*1))[i]?=(eP d n)[i]?:=by rw [ht]
  rw [List.getElem?_take,if_pos (by omega),eW d (by omega)] at e
  rw [List.getElem?_take,if_pos (by omega)]; exact e
def OE:Value->Nat | .slice _ t _=>t | _=>0
end Go.Proofs.YtcjfonaolcokbaaGreatDoor
