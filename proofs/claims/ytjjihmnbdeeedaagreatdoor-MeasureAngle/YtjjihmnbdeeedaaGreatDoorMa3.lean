/- Parts of the proof. -/
import Derived.Test.YtjjihmnbdeeedaaGreatDoorMa2
import Derived.WalkSmall
import Derived.Test.YtjjihmnbdeeedaaGreatDoorMa1
import Derived.Lib.Strings
import Derived.Lib.Slices
import Derived.Lib.Small
import Derived.Lib.Walk
import Derived.Lib.BitFns
import Derived.Lib.TrailingZeros
import Derived.Laws.Bits64b
import Derived.Lib.SliceRun
import Derived.Deep.OwnRows
import Derived.Deep.RegionWith
import Derived.Deep.CutRange
import Derived.Laws.CopyOwn
import Derived.WalkMore
import Derived.ScopeJumps
import Derived.WalkLawsBesides
import Derived.Deep.RegionHeld3
set_option maxRecDepth 100000
set_option maxHeartbeats 8000000
set_option linter.unusedVariables false
set_option linter.unusedSimpArgs false
namespace Go.Proofs.YtjjihmnbdeeedaaGreatDoor
open Go Go.Proofs.Tryz Go.RowKit Go.Proofs.YtjjihmnbdeeedaaGreatDoor.M
theorem vr (way:Int) (hw:0<=way∧way<=3) (ng odd:Bool) (left:Int) (w:World):Calls prog (ld way) #[.bool ng,.bool odd,G6 left] w fun e w'=>e=.returned (.bool (bX way ng odd left))∧w'=w:=by
 have hc:way=0∨way=1∨way=2∨way=3:=by omega
 rcases hc with rfl|rfl|rfl|rfl
 ·exact Oo ng odd left w
 ·exact Oq ng odd left w
 ·exact Or ng odd left w
 ·exact Ot ng odd left w
theorem sM (way:Int) (cap:Array Value) (w:World):(callFunc (ld way) cap).run prog w=.ok (.enter (ld way) cap) w:=by
 unfold ld
 by_cases h0:way=0
 ·rw[if_pos h0];simp[go_sem]
 ·rw[if_neg h0]
  by_cases h1:way=1
  ·rw[if_pos h1];simp[go_sem]
  ·rw[if_neg h1]
   by_cases h2:way=2
   ·rw[if_pos h2];simp[go_sem]
   ·rw[if_neg h2];simp[go_sem]
theorem Mo (F:Nat) (R:Bool->Bool->Int->Bool) (ng:Bool) (mag:Nat) (exp unit:Int) (cut sd:Bool) (u:Nat) (left:Int) (w:World) (hE:∀ (cap:Array Value) (w:World),(callFunc F cap).run prog w=.ok (.enter F cap) w)
  (hF:∀ ng odd left W,Calls prog F #[.bool ng,.bool odd,G6 left] W fun e w'=>e=.returned (.bool (R ng odd left))∧w'=W) (hu:u<18446744073709551615)
  (hS:∀ W,Calls prog 330 #[ij ng mag exp cut sd,G6 unit] W fun e w'=>e=.returned (.tuple #[.int .u64 (u:Nat),G6 left])∧Below W.heap.size W w') :
  Calls prog 324 #[ij ng mag exp cut sd,G6 unit,.agg #[.func (.func F) #[] #[]]] w fun e w'=>e=.returned (.tuple #[.int .u64 (u+(if R ng (decide (u % 2=1)) left then 1 else 0):Nat),.bool (decide (left≠0))])∧Below w.heap.size w w':=by
 unfold ij at *
 have hb2:=aM w (.cells #[.bool ng,.int .u64 mag,G6 exp,.bool cut,.bool sd] 264) (.cells #[.func (.func F) #[] #[]] 282)
 have q0:=ew w (.cells #[.bool ng,.int .u64 mag,G6 exp,.bool cut,.bool sd] 264) (.cells #[.func (.func F) #[] #[]] 282)
 have q1:=cZ w (.cells #[.bool ng,.int .u64 mag,G6 exp,.bool cut,.bool sd] 264) (.cells #[.func (.func F) #[] #[]] 282)
 obtain⟨odd,ho⟩:∃ odd,decide (u % 2=1)=odd:=⟨_,rfl⟩
 have hodd:(bits BinOp.and IntKind.u64 (u:Int) 1 == 1)=odd:=by
  rw[and_one_u64 _ (by omega) (by omega),<- ho]
  by_cases h:u % 2=1
  ·rw[decide_eq_true h];simp;omega
  ·rw[decide_eq_false h];simp;omega
 rw[ho]
 clear ho
 have hw1:IntKind.u64.wrap ((u:Int)+1)=((u+1:Nat):Int):=by rw[IntKind.wrap_u64];omega
 go_enter func324,ntmps324
 go_wp2_with fail
 refine(hS _).mono ?_
 rintro _ w1 ⟨rfl,hb1⟩
 have hbw:=ac hb2 hb1
 have p0:=(hb1.block _ (aGe q0).1).trans q0
 have p1:=(hb1.block _ (aGe q1).1).trans q1
 have k0:=ae p0 0 rfl
 have k1:=ae p1 0 rfl
 clear hS q0 q1 hb1 hb2
 go_wp2_with fail
 refine(hF ng odd left _).mono ?_
 rintro _ _ ⟨rfl,rfl⟩
 cases hR:R ng odd left
 ·have HR:Hid (R ng odd left=false):=hR
  by_cases hl:left=0
  ·go_wp2
   all_goals go_ret2
   all_goals exact⟨by simp_all,hbw⟩
  ·go_wp2
   all_goals go_ret2
   all_goals exact⟨by simp_all,hbw⟩
 ·have HR:Hid (R ng odd left=true):=hR
  by_cases hl:left=0
  ·go_wp2
   all_goals go_ret2
   all_goals exact⟨by simp_all,hbw⟩
  ·go_wp2
   all_goals go_ret2
   all_goals exact⟨by simp_all,hbw⟩
theorem FT (way:Int) (hw:0<=way∧way<=3) (ng:Bool) (mag:Nat) (exp unit:Int) (cut sd:Bool) (w:World) (hm:mag<18446744073709551616) (hu:-5000000<=unit∧unit<=5000000) (he:-5000000<=exp∧exp<=5000000) (hs:rU mag (unit-exp)<18446744073709551615) :
  Calls prog 324 #[ij ng mag exp cut sd,G6 unit,mo way] w fun e w'=>e=.returned (.tuple #[.int .u64 (rU mag (unit-exp)+(if bX way ng (decide (rU mag (unit-exp) % 2=1)) (rL mag cut (unit-exp)) then 1 else 0):Nat),.bool (decide (rL mag cut (unit-exp)≠0))])∧Below w.heap.size w w' :=
 Mo (ld way) (bX way) ng mag exp unit cut sd _ _ w (sM way) (vr way hw) hs (fun W=>FS ng mag exp unit cut sd W hm hu he (fun _=>by omega))
theorem cM {a a':Int} {c c':Bool} (h:a=a') (l:c=c'):Ending.returned (.tuple #[G6 a,.bool c])=.returned (.tuple #[G6 a',.bool c']):=by rw[h,l]
def jS (w:World):Prop:=∀ j,j<64->w.cell? ⟨3,j,none⟩=some (.int .u8 ((Lib.deBruijn64tab.getD j 0:Nat):Int))
theorem jS.grown {w w':World} (h:jS w) (g:Gr w w'):jS w':=fun j hj=>yV g (h j hj)
theorem IW (x a:Nat) (hx:x<18446744073709551616) (hx0:x≠0) (hlow:x &&& (18446744073709551616-x)=a) :
  IntKind.u64.wrap (bits .and .u64 (x:Int) (IntKind.u64.wrap (-(x:Int)))*285870213051353865)/288230376151711744=((a*285870213051353865 % 18446744073709551616/288230376151711744:Nat):Int):=by
 have e1:IntKind.u64.wrap (-(x:Int))=((18446744073709551616-x:Nat):Int):=by rw[IntKind.wrap_u64];omega
 rw[e1,bits_and_u64_nat x _ hx (by omega),hlow,IntKind.wrap_u64]
 omega
theorem FU (x k idx:Nat) (w:World) (hx0:((x:Int) == 0)=false)
  (au:IntKind.u64.wrap (bits .and .u64 (x:Int) (IntKind.u64.wrap (-(x:Int)))*285870213051353865)/288230376151711744=(idx:Int))
  (hi:idx<64) (hk:k<64) (hcell:w.cell? ⟨3,idx,none⟩=some (.int .u8 k)) :
  Calls prog 286 #[.int .u64 x] w fun e w'=>e=.returned (G6 k)∧w'=w:=by
 go_enter func286,ntmps286
 go_wp2_with (simp only[au])
 go_ret
 exact⟨rfl,rfl⟩
theorem ns (x:Nat) (hx:x<18446744073709551616) (h0:x≠0) (w:World) (hT:jS w) :
  Calls prog 286 #[.int .u64 x] w fun e w'=>e=.returned (G6 (Lib.ctz 64 x))∧w'=w:=by
 obtain⟨hlow,hk⟩:=Lib.lowest_bit 64 x h0 hx
 obtain⟨hi,htab⟩:=Lib.deBruijn64_at _ hk
 have hcell:=hT _ hi
 rw[htab] at hcell
 exact FU x _ _ w (by simp;omega) (IW x _ hx h0 hlow) hi hk hcell
theorem gL (x q:Int) (s:Nat) (h:q.toNat<Lib.len8tab.size) (hq0:0<=q) (hq:q<=255) (hs:s<=56) (hb:Lib.bitLen x.toNat=s+Lib.bitLen q.toNat) :
  wrap64 ((s:Int)+wrap64 ((Lib.len8tab[q.toNat]'h).toNat:Int))=(Lib.bitLen x.toNat:Int):=by
 have e:=Lib.len8_of q hq0 hq
 have l:=Lib.bitLen_le8' q hq0 hq
 unfold Lib.len8 at e
 rw[getElem?_pos Lib.len8tab q.toNat h] at e
 simp only[Option.getD_some] at e
 rw[e,hb]
 unfold wrap64
 omega
theorem zI (x:Int) (h:x.toNat<Lib.len8tab.size) (hq0:0<=x) (hq:x<=255) :
  wrap64 (wrap64 ((Lib.len8tab[x.toNat]'h).toNat:Int))=(Lib.bitLen x.toNat:Int):=by
 have:=gL x x 0 h hq0 hq (by omega) (by omega)
 simpa using this
theorem mp (x q:Int) (s:Nat) (h0:0<=x) (h1:x<=18446744073709551615) (hx:((2^s:Nat):Int)<=x) (e:q=x/((2^s:Nat):Int)):Lib.bitLen x.toNat=s+Lib.bitLen q.toNat:=by
 rw[Lib.bitLen_shift s x.toNat (by omega) (by omega),e]
 congr 2
 obtain⟨n,rfl⟩:=Int.eq_ofNat_of_zero_le h0
 rw[<- Int.natCast_ediv,Int.toNat_natCast,Int.toNat_natCast]
theorem Da (x:Int) (w:World) (h0:0<=x) (h1:x<=18446744073709551615) :
  Calls prog 288 #[.int .u64 x] w fun e w'=>e=.returned (G6 (Lib.bitLen x.toNat))∧w'=w:=by
 have hs:Lib.len8tab.size=256:=by decide +kernel
 go_enter func288,ntmps288
 go_wp2
 all_goals go_ret
 ·exact⟨ce (gL x _ 56 _ (by omega) (by omega) (by omega) (mp x _ 56 h0 h1 (by omega) (by omega))),rfl⟩
 ·exact⟨ce (gL x _ 48 _ (by omega) (by omega) (by omega) (mp x _ 48 h0 h1 (by omega) (by omega))),rfl⟩
 ·exact⟨ce (gL x _ 40 _ (by omega) (by omega) (by omega) (mp x _ 40 h0 h1 (by omega) (by omega))),rfl⟩
 ·exact⟨ce (gL x _ 32 _ (by omega) (by omega) (by omega) (mp x _ 32 h0 h1 (by omega) (by omega))),rfl⟩
 ·exact⟨ce (gL x _ 24 _ (by omega) (by omega) (by omega) (mp x _ 24 h0 h1 (by omega) (by omega))),rfl⟩
 ·exact⟨ce (gL x _ 16 _ (by omega) (by omega) (by omega) (mp x _ 16 h0 h1 (by omega) (by omega))),rfl⟩
 ·exact⟨ce (gL x _ 8 _ (by omega) (by omega) (by omega) (mp x _ 8 h0 h1 (by omega) (by omega))),rfl⟩
 ·exact⟨ce (zI x _ (by omega) (by omega)),rfl⟩
theorem Qk (x:Int) (w:World) (h0:0<=x) (h1:x<=18446744073709551615):Calls prog 245 #[.int .u64 x] w fun e w'=>e=.returned (G6 (Lib.bitLen x.toNat))∧w'=w:=by
 go_enter func245,ntmps245
 go_wp2_with (go_at_call 288;refine(Da x _ h0 h1).mono ?_;rintro _ _ ⟨rfl,rfl⟩)
 go_ret
 exact⟨rfl,rfl⟩
theorem Mp (F:Nat) (ng:Bool) (mag:Nat) (exp size least:Int) (cut sd:Bool) (U:Nat) (E:Int) (other:Bool) (w:World) (hm:mag<18446744073709551616) (he:-4500000<=exp∧exp<=4500000) (hs:0<=size∧size<=64) (hl:-2000<=least∧least<=0) (hE:rE size least mag exp=E) (hU:U<9223372036854775808)
  (hC:∀ W,Calls prog 324 #[ij ng mag exp cut sd,G6 E,.agg #[.func (.func F) #[] #[]]] W fun e w'=>e=.returned (.tuple #[.int .u64 (U:Nat),.bool other])∧Below W.heap.size W w') :
  Calls prog 300 #[ij ng mag exp cut sd,G6 size,G6 least,.agg #[.func (.func F) #[] #[]]] w fun e w'=>e=.returned (.tuple #[.bool (ng&&(decide (0<U)||sd)),G6 (U:Nat),G6 E,.bool other])∧Below w.heap.size w w':=by
 unfold ij at *
 have hb2:=aM w (.cells #[.bool ng,.int .u64 mag,G6 exp,.bool cut,.bool sd] 264) (.cells #[.func (.func F) #[] #[]] 282)
 have q0:=ew w (.cells #[.bool ng,.int .u64 mag,G6 exp,.bool cut,.bool sd] 264) (.cells #[.func (.func F) #[] #[]] 282)
 have q1:=cZ w (.cells #[.bool ng,.int .u64 mag,G6 exp,.bool cut,.bool sd] 264) (.cells #[.func (.func F) #[] #[]] 282)
 have k0:=ae q0 0 rfl
 have k1:=ae q0 1 rfl
 have k2:=ae q0 2 rfl
 have k3:=ae q0 3 rfl
 have k4:=ae q0 4 rfl
 have kw:=ae q1 0 rfl
 have hbl:Lib.bitLen mag<=64:=by
  by_cases h0:mag=0
  ·rw[h0];decide
  ·have e64:(2:Nat)^64=18446744073709551616:=by decide
   exact(M.iF mag (by omega) h0).2.2.2
 have HE:Hid (rE size least mag exp=E):=hE
 obtain⟨L,hL⟩:∃ L:Int,(Lib.bitLen mag:Int)=L:=⟨_,rfl⟩
 have hEL:max (exp+L-size) least=E:=by rw[<- hL];exact hE
 have hL2:(Lib.bitLen ((mag:Int)).toNat:Int)=L:=by rw[Int.toNat_natCast];exact hL
 have hL0:0<=L∧L<=64:=by omega
 have w1:IntKind.i64.wrap (exp+L)=exp+L:=by rw[bK];omega
 have w2:IntKind.i64.wrap (exp+L-size)=exp+L-size:=by rw[bK];omega
 have wU:IntKind.i64.wrap (U:Int)=(U:Int):=by rw[bK];omega
 clear hE
 have hmax:∀ (ts:Array TypeId) (t:TypeId) (x y:Int) (w:World),(Builtin.max_ ts t #[G6 x,G6 y]).run prog w=.ok (G6 (max x y)) w:=fun ts t x y w=>by rw[run_max_int2];congr 2;omega
 go_enter func300,ntmps300
 go_wp2_with fail
 generalize (w.alloc (.cells #[.bool ng,.int .u64 mag,G6 exp,.bool cut,.bool sd] 264)).alloc (.cells #[.func (.func F) #[] #[]] 282)=wx at hb2 q0 q1 k0 k1 k2 k3 k4 kw ⊢
 go_region_held3 (fun W=>W.cell? ⟨w.heap.size,2,none⟩=some (G6 exp)∧W.cell? ⟨w.heap.size,1,none⟩=some (.int .u64 mag))
  (first|assumption|exact⟨k2,k1⟩)
  (first|(go_at_call 245;refine(Qk _ _ (by omega) (by omega)).mono ?_;rintro _ _ ⟨rfl,rfl⟩))
 all_goals
  go_wp2_with fail
  refine(hC _).mono ?_
  rintro _ w3 ⟨rfl,hb3⟩
  have hdr:Below wx.heap.size wx wx.drew:=(ap wx).drew
  have hb3':=ac hdr hb3
  have hbw:=ac hb2 hb3'
  have p0:=(hb3'.block _ (aGe q0).1).trans q0
  have j0:=ae p0 0 rfl
  have j4:=ae p0 4 rfl
  clear hC hb3 hb3' hdr q0 q1 k0 k1 k2 k3 k4 kw
  cases ng
  ·go_wp2
   all_goals refine bodyPost_ret (v:=.tuple #[.bool false,G6 (U:Nat),G6 E,.bool other]) (by simp[results,results300,go_sem]) rfl ⟨by simp,hbw⟩
  ·by_cases hu0:U=0
   ·have hu1:¬ (0:Int)<(U:Int):=by omega
    have hd:decide (0<U)=false:=decide_eq_false (by omega)
    go_wp2
    all_goals refine bodyPost_ret (v:=.tuple #[.bool sd,G6 (U:Nat),G6 E,.bool other]) (by simp[results,results300,go_sem,hu0]) rfl ⟨by simp[hd],hbw⟩
   ·have hu1:(0:Int)<(U:Int):=by omega
    have hd:decide (0<U)=true:=decide_eq_true (by omega)
    go_wp2
    all_goals refine bodyPost_ret (v:=.tuple #[.bool true,G6 (U:Nat),G6 E,.bool other]) (by simp[results,results300,go_sem]) rfl ⟨by simp[hd],hbw⟩
theorem zJ {p:Prop} (h:p):Hid p:=h
theorem mN (mag:Int) (h0:0<mag) (h:mag<9223372036854775808) (w:World) (hT:jS w) :
  Calls prog 286 #[.int .u64 mag] w fun e w'=>e=.returned (G6 (jz mag))∧w'=w:=by
 obtain⟨n,rfl⟩:=Int.eq_ofNat_of_zero_le (Int.le_of_lt h0)
 exact ns n (by omega) (by omega) w hT
theorem vs (mag:Int) (w:World) (h0:1<=jo mag) (h1:jo mag<=mag) (h:mag<9223372036854775808) :
  Calls prog 288 #[.int .u64 (jo mag)] w fun e w'=>e=.returned (G6 (jl mag))∧w'=w :=
 Da (jo mag) w (by omega) (by omega)
theorem vt (exp:Int) (w:World) (h:ag exp) :
  Calls prog 331 #[.agg #[G6 52,G6 2047,G6 (-1074)],G6 exp] w fun e w'=>e=.returned (.bool (decide (1025<exp)))∧w'=w.alloc (.cells #[G6 52,G6 2047,G6 (-1074)] 255):=by
 unfold ag at h
 go_enter func331,ntmps331
 go_wp2
 go_ret
 exact⟨rfl,rfl⟩
theorem Ov (mag exp:Int) (w:World) (hT:jS w) (hm:ag mag) (he:ag exp) :
  Calls prog 325 #[.agg #[G6 52,G6 2047,G6 (-1074)],G6 mag,G6 exp] w fun e w'=>e=.returned (.tuple #[G6 (jv 52 2047 (-1074) mag exp),.bool (jk 52 2047 (-1074) mag exp)])∧Gr w w':=by
 have he0:=he
 unfold ag at hm he
 rcases Int.lt_trichotomy mag 0 with h|h|h
 ·have hn:(mag == 0)=false:=by simp;omega
  go_enter func325,ntmps325
  go_wp2
  go_ret2
  exact⟨cM (by simp[jv];omega) (by simp[jk];omega),(Gr.refl _).alloc _ _⟩
 ·subst h
  go_enter func325,ntmps325
  go_wp2
  go_ret2
  exact⟨cM (by simp[jv]) (by simp[jk]),(Gr.refl _).alloc _ _⟩
 ·have hn:(mag == 0)=false:=by simp;omega
  have hz:=fF h hm.2
  by_cases hf:1025<exp
  ·have hk:=zJ (xx h hm.2 hf)
   go_enter func325,ntmps325
   go_wp2_with (go_at_call 331;refine(vt _ _ he0).mono ?_;rintro e w1 ⟨rfl,rfl⟩)
   go_ret2
   exact⟨cM (by simp[jv,hk.out]) (by simp[jk,hk.out];omega),((Gr.refl _).alloc _ _).alloc _ _⟩
  ·obtain⟨m,-,hz63,-⟩:=hz
   have hj:=oN h hm.2
   have hL:=tt h hm.2
   have eo:mag/2^jz mag=jo mag:=rfl
   by_cases s1:53-jl mag<0
   ·have hk:Hid (cP 52 2047 (-1074) mag exp=false):=by unfold Hid cP jU;simp;omega
    go_enter func325,ntmps325
    go_wp2_with (go_at_call 331;refine(vt _ _ he0).mono ?_;rintro e w1 ⟨rfl,rfl⟩)
    refine(mN mag h hm.2 _ (hT.grown (((Gr.refl _).alloc _ _).alloc _ _))).mono ?_
    rintro e w1 ⟨rfl,rfl⟩
    go_wp2
    go_quiet ((go_at_call 288;exact Calls.quiet_of_same (vs _ _ hj.1 hj.2 hm.2)))
    go_wp2
    go_ret2
    exact⟨cM (by simp[jv,hk.out]) (by simp[jk,hk.out];omega),jV (((Gr.refl _).alloc _ _).alloc _ _) _⟩
   ·by_cases s2:exp+jz mag < -1074
    ·have hk:Hid (cP 52 2047 (-1074) mag exp=false):=by unfold Hid cP jU;simp;omega
     go_enter func325,ntmps325
     go_wp2_with (go_at_call 331;refine(vt _ _ he0).mono ?_;rintro e w1 ⟨rfl,rfl⟩)
     refine(mN mag h hm.2 _ (hT.grown (((Gr.refl _).alloc _ _).alloc _ _))).mono ?_
     rintro e w1 ⟨rfl,rfl⟩
     go_wp2
     go_quiet ((go_at_call 288;exact Calls.quiet_of_same (vs _ _ hj.1 hj.2 hm.2)))
     go_wp2
     go_ret2
     exact⟨cM (by simp[jv,hk.out]) (by simp[jk,hk.out];omega),jV (((Gr.refl _).alloc _ _).alloc _ _) _⟩
    ·obtain⟨s,hs⟩:∃ s:Nat,min (53-jl mag) (exp+↑(jz mag)+1074)=(s:Int):=⟨(min (53-jl mag) (exp+↑(jz mag)+1074)).toNat,by omega⟩
     have hsl:(s:Int)<=52:=by omega
     have hsj:Hid (eg 52 (-1074) mag exp=s):=by unfold Hid eg jU;omega
     by_cases s3:2045<exp+↑(jz mag) - ↑s+1074
     ·have hk:Hid (cP 52 2047 (-1074) mag exp=false):=by unfold Hid cP kP;rw[hsj.out];simp;omega
      go_enter func325,ntmps325
      go_wp2_with (go_at_call 331;refine(vt _ _ he0).mono ?_;rintro e w1 ⟨rfl,rfl⟩)
      refine(mN mag h hm.2 _ (hT.grown (((Gr.refl _).alloc _ _).alloc _ _))).mono ?_
      rintro e w1 ⟨rfl,rfl⟩
      go_wp2
      go_quiet ((go_at_call 288;exact Calls.quiet_of_same (vs _ _ hj.1 hj.2 hm.2)))
      go_wp2
      go_ret2
      exact⟨cM (by simp[jv,hk.out]) (by simp[jk,hk.out];omega),jV (((Gr.refl _).alloc _ _).alloc _ _) _⟩
     ·have hk:Hid (cP 52 2047 (-1074) mag exp=true):=by unfold Hid cP kP jU;rw[hsj.out];simp;omega
      have hb:=mK (fr:=52) h hm.2 (by omega) s (by unfold jU;omega)
      have hb2:jo mag*2^s<9007199254740992:=hb.2
      have hb1:=hb.1
      clear hb
      go_enter func325,ntmps325
      go_wp2_with (go_at_call 331;refine(vt _ _ he0).mono ?_;rintro e w1 ⟨rfl,rfl⟩)
      refine(mN mag h hm.2 _ (hT.grown (((Gr.refl _).alloc _ _).alloc _ _))).mono ?_
      rintro e w1 ⟨rfl,rfl⟩
      go_wp2
      go_quiet ((go_at_call 288;exact Calls.quiet_of_same (vs _ _ hj.1 hj.2 hm.2)))
      go_wp2
      go_quiet (fail)
      go_wp2
      go_ret2
      refine⟨cM ?_ (by simp[jk,hk.out];omega),jV (jV (((Gr.refl _).alloc _ _).alloc _ _) _) _⟩
      unfold jv kP
      rw[if_neg (by omega),if_pos hk.out,hsj.out]
      rfl
structure xI (w:World):Prop where
 lays:lL w
 tab:jS w
theorem IX (neg:Bool) (mag exp:Int) (w:World) (E:xI w) (hm:ag mag) (he:ag exp) :
  Calls prog 301 #[.bool neg,G6 mag,G6 exp] w fun e w'=>e=.returned (.tuple #[G6 (jp neg mag exp),.bool (jk 52 2047 (-1074) mag exp)])∧Gr w w':=by
 have hT:=E.tab
 obtain⟨a0,a1,a2,b0,b1,b2⟩:=E.lays
 have hb:=Lf (mag:=mag) (exp:=exp) hm
 have ho:=BH (jv 52 2047 (-1074) mag exp) (by omega) (by omega)
 have Ho:=zJ ho
 clear ho
 cases hk:jk 52 2047 (-1074) mag exp
 all_goals
  have HK:=zJ hk
  cases neg
  all_goals
   go_enter func301,ntmps301
   go_wp2_with (go_at_call 325;refine(Ov _ _ _ hT hm he).mono ?_;rintro e w1 ⟨rfl,hg⟩)
   go_ret2
   exact⟨cM (by simp[jp,HK.out,Ho.out]) (by simp[HK.out]),hg⟩
theorem BL (ao bo:Option Addr) (n m ca cb:Nat) (a b:Nat->Int) (w:World) (ha:aU w ao n ca a) (hb:aU w bo m cb b) (da:bP a n) (db:bP b m) (hn:n<=100000) (hm:m<=100000) :
  Calls prog 226 #[.slice ao n ca,.slice bo m cb] w fun e w'=>∃ v,e=.returned v∧dE w w' (val a n*val b m) v:=by
 have hla:=ha.le
 have hma:=ha.max
 have hlb:=hb.le
 have hmb:=hb.max
 go_enter func226,ntmps226
 go_wp2_with (at_make;refine lr rfl _ _ rfl _ _ (n+m) rfl rfl (by omega) (by omega) (by omega) ?_;intro w1 hB1 hb1)
 go_loopw [18] (fun i wr=>∃ (k:Nat) (r:Nat->Int),k<=n∧i=G6 k∧dG wr w.heap.size (n+m) r∧bP r (n+m)∧Hid (∀ t,k+m<=t->r t=0)∧Hid (val r (k+m)=val a k*val b m)∧Below w.heap.size w wr) (fun i _=>n-(intOf i).toNat)
 case atStart=>exact⟨0,fun _=>0,Nat.zero_le _,rfl,hB1,ut _,fun _ _=>rfl,by show _=_;rw[ix (Nat.zero_le (0+m)) (fun _ _ _=>rfl)];show 0=0*val b m;omega,hb1⟩
 case round=>
  obtain⟨i,r0,hi,rfl,hB0,hD0,HZ0,HV0,hbw0⟩:=hrel
  by_cases hlt:i<n
  ·obtain⟨ba,fa,rfl,hba,hca⟩:=ha.spot (by omega)
   have dai:=da i hlt
   go_wp2
   go_loopw [8,30] (fun c j wr=>∃ (k:Nat) (q:Int) (r:Nat->Int),k<=m∧j=G6 k∧c=G6 q∧0<=q∧q<1073741824∧dG wr w.heap.size (n+m) r∧bP r (n+m)∧Hid (∀ t,i+k<=t->r t=r0 t)∧Hid (val r (i+k)+q*P (i+k)=val r0 (i+k)+a i*val b k*P i)∧Below w.heap.size w wr) (fun _ j _=>m-(intOf j).toNat)
   case atStart=>exact⟨0,0,r0,Nat.zero_le _,rfl,rfl,by omega,by omega,hB0,hD0,fun _ _=>rfl,by show _=_;show val r0 i+0*P i=val r0 i+a i*0*P i;grind,hbw0⟩
   case round=>
    obtain⟨k,q,r,hk,rfl,rfl,hq0,hq1,hB,hD,HS,HV,hbw⟩:=hrel
    have c1:=(hbw.cell (p:=⟨ba,fa+i,none⟩) hba).trans (hca i hlt)
    by_cases hkm:k<m
    ·obtain⟨bb,fb,rfl,hbb,hcb⟩:=hb.spot (by omega)
     have c2:=(hbw.cell (p:=⟨bb,fb+k,none⟩) hbb).trans (hcb k hkm)
     have c3:=hB.cell (show i+k<n+m by omega)
     have fg:=hB.frozen (i+k)
     have drk:=hD (i+k) (by omega)
     have hmul:=Cq dai (db k hkm)
     have h30:=sC (q+(a i*b k+r (i+k)))
     go_wp2
     go_quiet (fail)
     go_wp2
     have hs:=zt (b:=b) (j:=k) HV.out (HS.out (i+k) (Nat.le_refl _))
     go_roundw
     case rel=>exact⟨k+1,_,cr r (i+k) ((q+(a i*b k+r (i+k))) % 1073741824),by omega,by go_num,rfl,by omega,by omega,hB.store (i+k) _,hD.upd _ (jH _),fun t ht=>by rw[bg r _ (by omega)];exact HS.out t (by omega),hs,(cV hbw _).setCell (Nat.le_refl _) _⟩
     case measure=>simp[intOf];omega
    ·obtain rfl:k=m:=by omega
     have c3:=hB.cell (show i+k<n+k by omega)
     have fg:=hB.frozen (i+k)
     go_wp2
     have hr:=Cr HV.out HV0.out
     go_roundw
     case rel=>exact⟨i+1,cr r (i+k) q,by omega,by go_num,hB.store (i+k) _,hD.upd _ ⟨hq0,hq1⟩,fun t ht=>by rw[bg r _ (by omega),HS.out t (by omega)];exact HZ0.out t (by omega),by show _=_;rw[hr,aZ],hbw.setCell (Nat.le_refl _) _⟩
     case measure=>simp[intOf];omega
  ·obtain rfl:i=n:=by omega
   go_wp2_with (go_at_call 222;refine(ml _ _ _ _ _ (hB0.row0 (Nat.le_refl _) (by omega))).mono ?_;rintro e w3 ⟨t,ht,htop,hz,rfl,rfl⟩)
   go_ret
   obtain⟨hN,hv⟩:=ju hD0 ht htop hz
   exact⟨_,rfl,t,r0,hB0.cut (Nat.le_refl _) ht (by omega),hN,by rw[hv,HV0.out],hbw0⟩
theorem Db {d e:Nat->Int} {n k:Nat} (hd:bP d n) (he:bP e n) (hk:k<n) (hs:∀ i,k<i->i<n->d i=e i) (hne:d k≠e k):bH (d k) (e k)=bH (val d n) (val e n):=by
 rcases Int.lt_or_gt_of_ne hne with h1|h1
 ·rw[gd h1,gd (Cs hd he hk hs h1)]
 ·rw[gf h1,gf (Cs he hd hk (fun i a b=>(hs i a b).symm) h1)]
structure zK (w:World) (ao bo:Option Addr) (n m ca cb:Nat) (a b:Nat->Int):Prop where
 ra:aU w ao n ca a
 rb:aU w bo m cb b
instance (n:Nat) (a b:Nat->Int):Decidable (∀ i,i<n->a i=b i):=by infer_instance
theorem Ep (V:Int) (w:World) (h0:0<=V) (h1:V<9223372036854775808) :
    Calls prog 304 #[G6 V] w fun e w'=>∃ v,e=.returned v∧dE w w' V v:=by
  have HM:Hid (V<9223372036854775808):=h1
  clear h1
  go_enter func304,ntmps304
  go_wp2
  go_loopw [0,3] (fun i v wr=>∃ (x:Int) (k:Nat) (r:Nat->Int),i=G6 x∧0<=x∧k<=3∧bI w.heap.size wr v k r∧bP r k∧Hid (x*P k<=V)∧Hid (x=0->sA r k)∧Hid (val r k+x*P k=V)∧Below w.heap.size w wr) (fun i _ _=>(intOf i).toNat)
  case atStart=>exact⟨V,0,fun _=>0,rfl,h0,by omega,bI.nil _ _ _,fun i hi=>by omega,by show _<=_;show V*1<=V;omega,fun _=>.inl rfl,by show _=_;show 0+V*1=V;omega,ap _⟩
  case round=>
    obtain⟨x,k,r,rfl,hx,hk3,hO,hD,HB,HT,HV,hbw⟩:=hrel
    by_cases hp:0<x
    · have h30:=sC x
      have hk2:k<=2:=by
        by_cases e:k=3
        · subst e
          have a:=HB.out
          have b:=HM.out
          have c:P 3=1073741824*1073741824*1073741824:=by decide
          have d:1*P 3<=x*P 3:=Int.mul_le_mul_of_nonneg_right (by omega) (Int.le_of_lt (dt 3))
          omega
        · omega
      go_wp2_with (at_builtin;refine cL rfl _ _ rfl w.heap.size _ k r rfl (hO.stays (af _ _)) _ 1 1 (fun _=>x % 1073741824) rfl (iR _ _ rfl) (by omega) (by have:=hbw.size;simp;omega) ?_;intro v' w1 hO1 hg1)
      have hb1:Below w.heap.size w w1:=(hbw.alloc hbw.size _).grown hg1 (by have:=hbw.size;simp;omega) (gy hO)
      have e1:∀ i,i<k+1->kS r k (fun _=>x % 1073741824) i=cr r k (x % 1073741824) i:=fun i hi=>by
        by_cases e:i<k
        · simp[kS,e,bg r _ (show i≠k by omega)]
        · obtain rfl:i=k:=by omega
          simp[kS,bG]
      have hs:=gn (c:=0) (x:=x) (show val r k+0*P k=val r k by omega)
      rw[Int.zero_add] at hs
      go_roundw
      case rel=>exact ⟨x/1073741824,k+1,cr r k (x % 1073741824),rfl,by omega,by omega,hO1.congr e1,zE ((hD.congr (fun i hi=>(bg r _ (by omega)).symm))) (by rw [bG]; omega) (by rw [bG]; omega),by
          show _<=_
          have a:=HB.out
          rw[kQ,show x/1073741824*(P k*1073741824)=(x/1073741824*1073741824)*P k by grind]
          have b:(x/1073741824*1073741824)*P k<=x*P k:=Int.mul_le_mul_of_nonneg_right (by omega) (Int.le_of_lt (dt k))
          omega,fun e=>.inr (by rw [Nat.add_sub_cancel,bG]; omega),by show _=_; rw [hs]; exact HV.out,hb1⟩
      case measure=>simp[intOf];omega
    · obtain rfl:x=0:=by omega
      go_wp2
      go_ret
      exact⟨_,rfl,k,r,hO,⟨hD,HT.out (by first|rfl|trivial)⟩,by have:=HV.out;omega,hbw⟩
theorem bI.cut {B:Nat} {w:World} {ao:Option Addr} {n cap m:Nat} {d:Nat->Int} (h:bI B w (.slice ao n cap) n d) (hm:m<=n):bI B w (.slice ao m cap) m d:=by
 refine⟨by rw[cN];omega,?_⟩
 rcases h.2 with⟨hn,h0⟩|⟨g,cap',cur,hv,hB,hg,hnc,hcm,hs,ht⟩
 ·simp only[Value.slice.injEq] at hn
  obtain⟨rfl,rfl,rfl⟩:=hn
  obtain rfl:m=0:=by omega
  exact .inl ⟨rfl,rfl⟩
 ·simp only[Value.slice.injEq] at hv
  obtain⟨rfl,_,rfl⟩:=hv
  refine .inr ⟨g,cap,cur,rfl,hB,hg,by omega,hcm,hs,?_⟩
  apply mj (by simp;omega)
  intro i hi
  have e:(cur.toList.take (n*1))[i]?=(gV d n)[i]?:=by rw[ht]
  rw[List.getElem?_take,if_pos (by omega),iI d (by omega)] at e
  rw[List.getElem?_take,if_pos (by omega)];exact e
theorem aU.drew {w:World} {ao:Option Addr} {n cap:Nat} {d:Nat->Int} (h:aU w ao n cap d):aU w.drew ao n cap d:=⟨h.le,h.max,h.nl,h.spot⟩
def gz (w:World):Prop:=∀ j,j<64->w.cell? ⟨3,j,none⟩=some (.int .u8 ((Lib.deBruijn64tab.getD j 0:Nat):Int))
theorem gz.keeps {w w':World} (h:gz w) (hb:Below w.heap.size w w'):gz w':=fun j hj=>
 (hb.cell (p:=⟨3,j,none⟩) (World.block_lt_of_cell? w _ (h j hj))).trans (h j hj)
theorem Ow (x a:Nat) (hx:x<18446744073709551616) (hx0:x≠0) (hlow:x &&& (18446744073709551616-x)=a) :
  IntKind.u64.wrap (bits .and .u64 (x:Int) (IntKind.u64.wrap (-(x:Int)))*285870213051353865)/288230376151711744=((a*285870213051353865 % 18446744073709551616/288230376151711744:Nat):Int):=by
 have e1:IntKind.u64.wrap (-(x:Int))=((18446744073709551616-x:Nat):Int):=by rw[IntKind.wrap_u64];omega
 rw[e1,bits_and_u64_nat x _ hx (by omega),hlow,IntKind.wrap_u64]
 omega
theorem Mq (x k idx:Nat) (w:World) (hx0:((x:Int) == 0)=false)
  (au:IntKind.u64.wrap (bits .and .u64 (x:Int) (IntKind.u64.wrap (-(x:Int)))*285870213051353865)/288230376151711744=(idx:Int))
  (hi:idx<64) (hk:k<64) (hcell:w.cell? ⟨3,idx,none⟩=some (.int .u8 k)) :
  Calls prog 286 #[.int .u64 x] w fun e w'=>e=.returned (G6 k)∧w'=w:=by
 go_enter func286,ntmps286
 go_wp2_with (simp only[au])
 go_ret
 exact⟨rfl,rfl⟩
theorem Eq (x:Nat) (hx:x<18446744073709551616) (h0:x≠0) (w:World) (hT:gz w) :
  Calls prog 286 #[.int .u64 x] w fun e w'=>e=.returned (G6 (Lib.ctz 64 x))∧w'=w:=by
 obtain⟨hlow,hk⟩:=Lib.lowest_bit 64 x h0 hx
 obtain⟨hi,htab⟩:=Lib.deBruijn64_at _ hk
 have hcell:=hT _ hi
 rw[htab] at hcell
 exact Mq x _ _ w (by simp;omega) (Ow x _ hx h0 hlow) hi hk hcell
theorem BM (x:Int) (hx0:0<x) (hx:x<1073741824) (w:World) (hT:gz w) :
  Calls prog 286 #[.int .u64 x] w fun e w'=>∃ l:Nat,e=.returned (G6 l)∧(l<64∧fs x l)∧w'=w:=by
 obtain⟨n,rfl⟩:=Int.eq_ofNat_of_zero_le (Int.le_of_lt hx0)
 obtain⟨m,hm,hk⟩:=Lib.ctzFrom_spec 64 n (by omega) (by omega)
 have e:Lib.ctz 64 n=Lib.ctzFrom 64 n:=by simp[Lib.ctz];omega
 rw[<- e] at hm hk
 refine(Eq n (by omega) (by omega) _ hT).mono ?_
 rintro e w' ⟨rfl,rfl⟩
 refine⟨_,rfl,⟨hk,m,?_⟩,rfl⟩
 have:((n:Nat):Int)=((2^Lib.ctz 64 n*(2*m+1):Nat):Int):=congrArg _ hm
 rw[this,Int.natCast_mul,Int.mul_comm];simp
theorem uv (x:Int) (hx0:0<x) (hx:x<1073741824) (w:World) (hT:gz w) :
  Calls prog 244 #[.int .u64 x] w fun e w'=>∃ l:Nat,e=.returned (G6 l)∧(l<64∧fs x l)∧w'=w:=by
 go_enter func244,ntmps244
 go_wp2_with fail
 refine(BM x hx0 hx _ hT).mono ?_
 rintro e w' ⟨l,rfl,hl,rfl⟩
 go_wp2
 go_ret
 exact⟨_,rfl,hl,rfl⟩
theorem qI {V:Int} {l k:Nat} (h:fs V l) (h':fs V k):l=k:=by
 have au:∀ (l k:Nat) (V:Int),fs V l->fs V k->¬ l<k:=fun l k V ⟨m,hm⟩ ⟨m',hm'⟩ hlt=>by
  obtain⟨d,rfl⟩:∃ d,k=l+1+d:=⟨k-l-1,by omega⟩
  rw[hm,Int.pow_add,Int.pow_add] at hm'
  have e:(2*m+1)*2^l=((2*m'+1)*(2^d*2))*2^l:=by rw[hm'];grind
  have e2:=Int.eq_of_mul_eq_mul_right (Int.ne_of_gt (aR l)) e
  have e3:(2*m'+1)*(2^d*2)=2*((2*m'+1)*2^d):=by grind
  rw[e3] at e2
  generalize (2*m'+1)*2^d=Z at e2
  omega
 rcases Nat.lt_trichotomy l k with q|q|q
 ·exact absurd q (au l k V h h')
 ·exact q
 ·exact absurd q (au k l V h' h)
theorem xJ {d:Nat->Int} {n i l:Nat} (hi:i<n) (hz:∀ j,j<i->d j=0) (h:fs (d i) l) (hl:l<30):fs (val d n) (30*i+l):=by
 obtain⟨m,hm⟩:=h
 have e1:val d n=P i*val (fun j=>d (i+j)) (n-i):=by
  have:=vi d i (n-i) hz
  rwa [show i+(n-i)=n by omega] at this
 obtain⟨r,hr⟩:∃ r,n-i=r+1:=⟨n-i-1,by omega⟩
 have e2:val (fun j=>d (i+j)) (n-i)=d i+1073741824*val (fun j=>d (i+(j+1))) r:=by
  rw[hr]
  have h:=iw (fun j=>d (i+j)) 1 r
  rw[Nat.add_comm 1 r] at h
  rw[h]
  have e:(fun j=>d (i+(1+j)))=fun j=>d (i+(j+1)):=by funext j;rw[Nat.add_comm 1 j]
  show 0+d (i+0)*1+1*1073741824*_=_
  rw[e,Nat.add_zero];omega
 have e3:(1073741824:Int)=2^l*(2*2^(29-l)):=by
  rw[<- Int.mul_assoc,Int.mul_comm (2^l) 2,Int.mul_assoc,<- Int.pow_add,show l+(29-l)=29 by omega];rfl
 refine⟨m+2^(29-l)*val (fun j=>d (i+(j+1))) r,?_⟩
 rw[e1,e2,hm,e3,Int.pow_add,<- ft]
 grind
theorem FV {x:Int} {l:Nat} (h0:0<x) (h1:x<1073741824) (h:fs x l):l<30:=by
 obtain⟨m,hm⟩:=h
 rcases Nat.lt_or_ge l 30 with q|q
 ·exact q
 ·have h2:(2:Int)^30<=2^l:=eG q
  have h3:0<2*m+1:=by
   rcases Int.lt_or_le 0 (2*m+1) with r|r
   ·exact r
   ·have:=Int.mul_nonneg (show 0 <= -(2*m+1) by omega) (Int.le_of_lt (aR l))
    rw[Int.neg_mul,<- hm] at this
    omega
  have h4:1*2^l<=(2*m+1)*2^l:=IQ (by omega) (Int.le_of_lt (aR l))
  have h5:(2:Int)^30=1073741824:=rfl
  omega
def qJ (V l:Int):Prop:=(V=0∧l=-1)∨∃ k:Nat,l=k∧fs V k
theorem qL (ao:Option Addr) (n cap:Nat) (d:Nat->Int) (w:World) (h:aU w ao n cap d) (hd:bP d n) (hn:n<=100000) (hT:gz w) :
  Calls prog 223 #[.slice ao n cap] w fun e w'=>∃ l,e=.returned (G6 l)∧qJ (val d n) l∧w'=w:=by
 have hl:=h.le
 have hm:=h.max
 go_enter func223,ntmps223
 go_wp2
 go_loop [6] (fun i=>∃ k:Nat,k<=n∧i=G6 k∧Hid (∀ j,j<k->d j=0)) (fun i=>n-(intOf i).toNat)
 case atStart=>exact⟨0,Nat.zero_le _,rfl,fun j hj=>by omega⟩
 case round=>
  obtain⟨k,hk,rfl,HZ⟩:=hrel
  by_cases hlt:k<n
  ·obtain⟨b,off,rfl,hb,hc⟩:=h.spot (by omega)
   have c:=hc k hlt
   have dk:=hd k hlt
   by_cases hz:d k=0
   ·go_wp2
    go_round
    case rel=>exact⟨k+1,by omega,by go_num,fun j hj=>by by_cases e:j=k;(· rw[e];exact hz);(· exact HZ.out j (by omega))⟩
    case measure=>simp[intOf];omega
   ·have hp:0<d k:=by omega
    go_wp2_with fail
    refine(uv (d k) hp dk.2 _ hT).mono ?_
    rintro e w' ⟨l,rfl,⟨hl64,hlow⟩,rfl⟩
    go_wp2
    go_ret
    exact⟨_,rfl,.inr ⟨30*k+l,by omega,xJ hlt HZ.out hlow (FV hp dk.2 hlow)⟩,rfl⟩
  ·obtain rfl:k=n:=by omega
   go_wp2
   go_ret
   exact⟨_,rfl,.inl ⟨ix (Nat.zero_le k) (fun i _ hi=>HZ.out i hi),rfl⟩,rfl⟩
def qM (V:Int) (i:Nat):Bool:=V/2^i % 2 == 1
theorem Mr {d:Nat->Int} {n q p:Nat} (hd:bP d n) (hq:q<n) (hp:p<30):val d n/2^(30*q+p) % 2=d q/2^p % 2:=by
 have hpw:=dt q
 rw[Int.pow_add,<- ft,<- Int.ediv_ediv_of_nonneg (Int.le_of_lt hpw),<- ur d (by omega) hd]
 obtain⟨r,hr⟩:∃ r,n-q=r+1:=⟨n-q-1,by omega⟩
 have h:=iw (fun j=>d (q+j)) 1 r
 rw[Nat.add_comm 1 r] at h
 rw[hr,h]
 have e3:(1073741824:Int)=2*2^(29-p)*2^p:=by
  rw[Int.mul_assoc,<- Int.pow_add,show 29-p+p=29 by omega];rfl
 have e4:val (fun j=>d (q+j)) 1+P 1*val (fun i=>d (q+(1+i))) r=d q+(2*2^(29-p)*val (fun i=>d (q+(1+i))) r)*2^p:=by
  show 0+d (q+0)*1+1*1073741824*_=_
  rw[Nat.add_zero,e3];grind
 rw[e4,Int.add_mul_ediv_right _ _ (Int.ne_of_gt (aR p)),Int.mul_assoc 2,Int.add_mul_emod_self_left]
theorem IY {V:Int} {i:Nat} (h0:0<=V) (h:aQ V<=i):qM V i=false:=by
 have h1:=ls V
 have h2:(2:Int)^aQ V<=2^i:=eG h
 unfold qM
 rw[Int.ediv_eq_zero_of_lt h0 (Int.lt_of_lt_of_le h1 h2)];rfl
theorem uw {V l:Int} (h:qJ V l) (h0:0<V):∃ k:Nat,l=k∧fs V k:=by
 rcases h with⟨h1,_⟩|h
 ·omega
 ·exact h
theorem zL {d:Nat->Int} {n k:Nat} (hd:bP d n) (h0:0<val d n) (h:fs (val d n) k):k<30*n:=by
 have h1:=dF hd
 rw[ft] at h1
 obtain⟨a,b,c⟩:=jf h h0
 have h2:(1:Int)*2^k<=val d n/2^k*2^k:=Int.mul_le_mul_of_nonneg_right (by omega) (Int.le_of_lt (aR k))
 exact iz (by omega)
theorem tx {w W w3:World} {V:Int} {v:Value} (hv:dE W w3 V v) (hb:Below w.heap.size w W) {g:Nat} (h0:w.heap.size<=g) (h1:g<W.heap.size) (a b c:Value) :
  dE w (((w3.setCell ⟨g,0,none⟩ a).setCell ⟨g,1,none⟩ b).setCell ⟨g,2,none⟩ c) V v:=by
 obtain⟨t,d,hO,hN,hV,hB⟩:=hv
 refine⟨t,d,?_,hN,hV,?_⟩
 ·exact(((hO.set_below (a:=⟨g,0,none⟩) h1 a).set_below (a:=⟨g,1,none⟩) h1 b).set_below (a:=⟨g,2,none⟩) h1 c).lower hb.size
 ·exact(((hb.trans (hB.mono hb.size)).setCell (p:=⟨g,0,none⟩) h0 a).setCell (p:=⟨g,1,none⟩) h0 b).setCell (p:=⟨g,2,none⟩) h0 c
theorem BN (ng:Bool) (ao:Option Addr) (n cap:Nat) (d:Nat->Int) (e:Int) (w:World) (h:aU w ao n cap d) (hd:bP d n) (h0:val d n=0) :
  Calls prog 168 #[.agg #[.bool ng,.slice ao n cap,G6 e]] w fun r w'=>r=.returned iy∧Below w.heap.size w w':=by
 have hR:=h.keeps (aM w (.cells #[.bool ng,.slice ao n cap,G6 e] 40) (.cells #[.bool false,.slice none 0 0,G6 0] 40))
 go_enter func168,ntmps168
 go_wp2_with fail
 refine(ml _ _ _ _ _ hR).mono ?_
 rintro r w1 ⟨t,ht,htop,hz,rfl,rfl⟩
 obtain⟨hN,hv⟩:=ju hd ht htop hz
 have ht0:t=0:=(uo hN).1 (by rw[hv];exact h0)
 subst ht0
 rw[show qy ao 0 cap=.slice none 0 0 from rfl]
 go_wp2
 refine bodyPost_ret (v:=iy) (by simp[results,results168,go_sem,iy]) rfl ⟨rfl,?_⟩
 exact aM _ _ _
theorem Er (ng:Bool) (ao:Option Addr) (n cap:Nat) (d:Nat->Int) (e:Int) (w:World) (h:aU w ao n cap d) (hd:bP d n) (hn:n<=100000) (hT:gz w) (h0:0<val d n) (l:Nat) (hl:fs (val d n) l)
    (he0:-1048576<=e+l) (he1:e+l<=1048576) (hs:val d n/2^l<P 2000) :
    Calls prog 168 #[.agg #[.bool ng,.slice ao n cap,G6 e]] w fun r w'=>∃ s,r=.returned (.agg #[.bool ng,s,G6 (e+l)])∧dE w w' (val d n/2^l) s:=by
  have hR:=h.keeps (aM w (.cells #[.bool ng,.slice ao n cap,G6 e] 40) (.cells #[.bool false,.slice none 0 0,G6 0] 40))
  have hln:=zL hd h0 hl
  have hb1:=aM w (.cells #[.bool ng,.slice ao n cap,G6 e] 40) (.cells #[.bool false,.slice none 0 0,G6 0] 40)
  go_enter func168,ntmps168
  go_wp2_with fail
  refine(ml _ _ _ _ _ hR).mono ?_
  rintro r w1 ⟨t,ht,htop,hz,rfl,rfl⟩
  obtain⟨hN,hv⟩:=ju hd ht htop hz
  have ht0:t≠0:=by rintro rfl;have:=(uo hN).2 rfl;omega
  rw[show qy ao t cap=.slice ao t cap by unfold qy;rw[if_neg ht0]]
  have hn0:((t:Int) == 0)=false:=by simp;omega
  obtain⟨bb,fb,rfl,hbb,hcb⟩:=h.spot (by omega)
  have hRt:aU ((w.alloc (.cells #[.bool ng,.slice (some ⟨bb,fb,none⟩) n cap,G6 e] 40)).alloc (.cells #[.bool false,.slice none 0 0,G6 0] 40)) (some ⟨bb,fb,none⟩) t cap d:=⟨by have:=h.le; omega,h.max,fun hx=>by simp at hx,fun _=>by
    obtain⟨b',f',e',q1,q2⟩:=hR.spot (by omega)
    exact ⟨b',f',e',q1,fun i hi=>q2 i (by omega)⟩⟩
  have hbl:aQ (val d n)<=60000+l:=by
    refine fO ?_
    obtain⟨_,_,c⟩:=jf hl h0
    have:(val d n/2^l)*2^l<P 2000*2^l:=Int.mul_lt_mul_of_pos_right hs (aR l)
    rw[c,ft,<- Int.pow_add] at this
    exact this
  have HS:Hid (val d n/2^l<P 2000):=hs
  clear hs
  go_wp2_with fail
  refine(qL _ _ _ _ _ hRt hN.1 (by omega) (hT.keeps hb1)).mono ?_
  rintro r w1 ⟨lo,rfl,hlo,rfl⟩
  rw[hv] at hlo
  obtain⟨k,rfl,hk⟩:=uw hlo h0
  obtain rfl:=qI hk hl
  have HL:Hid (fs (val d n) k):=hl
  clear hlo hk hl
  have HV:Hid (val d t=val d n):=hv
  go_wp2_with fail
  refine(kZ _ _ _ _ _ hRt hN (by omega)).mono ?_
  rw[hv]
  rintro r w1 ⟨rfl,rfl⟩
  go_wp2_with fail
  have hwr:IntKind.i64.wrap (e+(k:Int))=e+k:=by rw[bK];omega
  have hb2:Below w.heap.size w ((w.alloc (.cells #[.bool ng,.slice (some ⟨bb,fb,none⟩) n cap,G6 e] 40)).alloc (.cells #[.bool false,.slice none 0 0,G6 0] 40)).drew:=hb1.drew
  have q0:((w.alloc (.cells #[.bool ng,.slice (some ⟨bb,fb,none⟩) n cap,G6 e] 40)).alloc (.cells #[.bool false,.slice none 0 0,G6 0] 40)).drew.heap[w.heap.size]?=some (.cells #[.bool ng,.slice (some ⟨bb,fb,none⟩) n cap,G6 e] 40):=ew _ _ _
  have q1:((w.alloc (.cells #[.bool ng,.slice (some ⟨bb,fb,none⟩) n cap,G6 e] 40)).alloc (.cells #[.bool false,.slice none 0 0,G6 0] 40)).drew.heap[w.heap.size+1]?=some (.cells #[.bool false,.slice none 0 0,G6 0] 40):=cZ _ _ _
  have qs:((w.alloc (.cells #[.bool ng,.slice (some ⟨bb,fb,none⟩) n cap,G6 e] 40)).alloc (.cells #[.bool false,.slice none 0 0,G6 0] 40)).drew.heap.size=w.heap.size+2:=jR _ _ _
  go_region_with (go_at_call 225;refine(xD _ _ _ k d _ hRt.drew hN.1 (by omega) (by omega)).mono ?_;rintro r w3 ⟨v,rfl,hv⟩;obtain⟨vo,vn,vc,rfl⟩:=hv.num.shape;have g0:=(hv.below.block w.heap.size (by omega)).trans q0;have g1:=(hv.below.block (w.heap.size+1) (by omega)).trans q1;have k0:=ae g0 0 rfl;have k2:=ae g0 2 rfl;have k3:=ae g1 0 rfl;have k4:=ae g1 1 rfl;have k5:=ae g1 2 rfl;have f0:=ah g1 0;have f1:=ah g1 1;have f2:=ah g1 2;have hvv:=hv.from hb2)
  all_goals go_wp2
  all_goals refine bodyPost_ret (v:=.agg #[.bool ng,.slice vo vn vc,G6 (e+k)]) (by simp[results,results168,go_sem,k3,k4,k5,hwr]) rfl ⟨_,rfl,?_⟩
  all_goals (rw[<- HV.out];exact tx (g:=w.heap.size+1) hv hb2 (Nat.le_succ _) (by omega) _ _ _)
theorem FX (ng:Bool) (ao:Option Addr) (n cap:Nat) (d:Nat->Int) (e:Int) (w:World) (h:aU w ao n cap d) (hd:bP d n) (hn:n<=100000) (hT:gz w) (h0:0<val d n) (l:Nat) (hl:fs (val d n) l)
    (hbad:e+l < -1048576∨1048576<e+l∨P 2000<=val d n/2^l) :
    Calls prog 168 #[.agg #[.bool ng,.slice ao n cap,G6 e]] w fun r w'=>r=.panicked [{ v:=.iface 29 (G6 2),recovered:=false }]∧Below w.heap.size w w':=by
  have hR:=h.keeps (aM w (.cells #[.bool ng,.slice ao n cap,G6 e] 40) (.cells #[.bool false,.slice none 0 0,G6 0] 40))
  have hln:=zL hd h0 hl
  have hb1:=aM w (.cells #[.bool ng,.slice ao n cap,G6 e] 40) (.cells #[.bool false,.slice none 0 0,G6 0] 40)
  have HB:Hid (e+l < -1048576∨1048576<e+l∨P 2000<=val d n/2^l):=hbad
  clear hbad
  go_enter func168,ntmps168
  go_wp2_with fail
  refine(ml _ _ _ _ _ hR).mono ?_
  rintro r w1 ⟨t,ht,htop,hz,rfl,rfl⟩
  obtain⟨hN,hv⟩:=ju hd ht htop hz
  have ht0:t≠0:=by rintro rfl;have:=(uo hN).2 rfl;omega
  rw[show qy ao t cap=.slice ao t cap by unfold qy;rw[if_neg ht0]]
  have hn0:((t:Int) == 0)=false:=by simp;omega
  obtain⟨bb,fb,rfl,hbb,hcb⟩:=h.spot (by omega)
  have hRt:aU ((w.alloc (.cells #[.bool ng,.slice (some ⟨bb,fb,none⟩) n cap,G6 e] 40)).alloc (.cells #[.bool false,.slice none 0 0,G6 0] 40)) (some ⟨bb,fb,none⟩) t cap d:=⟨by have:=h.le; omega,h.max,fun hx=>by simp at hx,fun _=>by
    obtain⟨b',f',e',q1,q2⟩:=hR.spot (by omega)
    exact ⟨b',f',e',q1,fun i hi=>q2 i (by omega)⟩⟩
  go_wp2_with fail
  refine(qL _ _ _ _ _ hRt hN.1 (by omega) (hT.keeps hb1)).mono ?_
  rintro r w1 ⟨lo,rfl,hlo,rfl⟩
  rw[hv] at hlo
  obtain⟨k,rfl,hk⟩:=uw hlo h0
  obtain rfl:=qI hk hl
  have HL:Hid (fs (val d n) k):=hl
  clear hlo hk hl
  by_cases c0:e < -1048576-k
  · go_wp2
    exact⟨rfl,rfl,hb1⟩
  · by_cases c1:1048576-k<e
    · go_wp2
      exact⟨rfl,rfl,hb1⟩
    · have hbl:60000<(aQ (val d n):Int)-k:=by
        obtain⟨_,_,c⟩:=jf HL.out h0
        have h2:P 2000<=val d n/2^k:=by rcases HB.out with x|x|x<;>first|omega|exact x
        have:P 2000*2^k<=(val d n/2^k)*2^k:=Int.mul_le_mul_of_nonneg_right h2 (Int.le_of_lt (aR k))
        rw[c,ft,<- Int.pow_add] at this
        have:=wC this
        omega
      go_wp2_with fail
      refine(kZ _ _ _ _ _ hRt hN (by omega)).mono ?_
      rw[hv]
      rintro r w1 ⟨rfl,rfl⟩
      have hb30:aQ (val d n)<=30*n:=fO (by rw[<- ft];exact dF hd)
      go_wp2
      exact⟨rfl,rfl,hb1⟩
theorem Ox:∀ (n:Nat) (M:Int),M.natAbs<=n->0<M->∃ l,fs M l:=by
 intro n
 induction n with
 | zero=>intro M h h0;omega
 | succ n ih=>
  intro M h h0
  by_cases hp:M % 2=1
  ·exact⟨0,M/2,by rw[Int.pow_zero];omega⟩
  ·obtain⟨l,m,hm⟩:=ih (M/2) (by omega) (by omega)
   refine⟨l+1,m,?_⟩
   rw[Int.pow_succ,<- Int.mul_assoc,<- hm];omega
theorem mq {M:Int} (h:0<M):∃ l,fs M l:=Ox M.natAbs M (Nat.le_refl _) h
def zM:Ending:=.panicked [{ v:=.iface 29 (G6 2),recovered:=false }]
theorem FY {ng:Bool} {ao:Option Addr} {n cap:Nat} {d:Nat->Int} {e:Int} {w:World} (h:aU w ao n cap d) (hd:bP d n) (hn:n<=100000) (hT:gz w) (he:-4194304<=e) {V:Int} (hV:V=sg ng (val d n)*pw e) (hok:eR V) :
  Calls prog 168 #[.agg #[.bool ng,.slice ao n cap,G6 e]] w fun r w'=>∃ v,r=.returned v∧bw w w' V v:=by
 by_cases h0:val d n=0
 ·refine(BN ng ao n cap d e w h hd h0).mono ?_
  rintro r w' ⟨rfl,hb⟩
  exact⟨_,rfl,by rw[hV,h0,gN,Int.zero_mul];exact bw.zero hb⟩
 ·have hp:0<val d n:=by have:=bL hd;omega
  obtain⟨l,hl⟩:=mq hp
  have hy:=Dy.of ng hl hp he
  rw[<- hV] at hy
  obtain⟨o1,o2,o3⟩:=hy.ok.1 hok
  refine(Er ng ao n cap d e w h hd hn hT hp l hl o2 o3 o1).mono ?_
  rintro r w' ⟨s,rfl,hA⟩
  exact⟨_,rfl,_,_,_,_,rfl,hy,hA⟩
theorem BO {ng:Bool} {ao:Option Addr} {n cap:Nat} {d:Nat->Int} {e:Int} {w:World} (h:aU w ao n cap d) (hd:bP d n) (hn:n<=100000) (hT:gz w) (he:-4194304<=e) {V:Int} (hV:V=sg ng (val d n)*pw e) (hok:¬ eR V) :
    Calls prog 168 #[.agg #[.bool ng,.slice ao n cap,G6 e]] w fun r w'=>r=zM∧Below w.heap.size w w':=by
  by_cases h0:val d n=0
  · exact absurd (by rw[hV,h0,gN,Int.zero_mul];exact qC) hok
  · have hp:0<val d n:=by have:=bL hd;omega
    obtain⟨l,hl⟩:=mq hp
    have hy:=Dy.of ng hl hp he
    rw[<- hV] at hy
    have hno:=fun x=>hok (hy.ok.2 x)
    refine FX ng ao n cap d e w h hd hn hT hp l hl ?_
    by_cases c1:e+l < -1048576
    · exact .inl c1
    · by_cases c2:1048576<e+l
      · exact .inr (.inl c2)
      · exact .inr (.inr (by
          by_cases c3:P 2000<=val d n/2^l
          · exact c3
          · exact absurd ⟨by omega,by omega,by omega⟩ hno))
theorem lN.shape {w w':World} {V er:Int} {v:Value} (h:lN w w' V v er):∃ ng so sn sc e,v=.agg #[.bool ng,.slice so sn sc,G6 e]:=by
 rcases h.2 with⟨_,_,ng,s,m,e,h1,_,hA⟩|⟨_,_,h1⟩
 ·obtain⟨so,sn,sc,rfl⟩:=hA.num.shape
  exact⟨_,_,_,_,_,h1⟩
 ·exact⟨_,_,_,_,_,h1⟩
theorem cJ {w W w3:World} {V:Int} {v:Value} (hv:bw W w3 V v) (hb:Below w.heap.size w W) {g:Nat} (h0:w.heap.size<=g) (h1:g<W.heap.size) (a b c:Value) :
  bw w (((w3.setCell ⟨g,0,none⟩ a).setCell ⟨g,1,none⟩ b).setCell ⟨g,2,none⟩ c) V v:=by
 obtain⟨ng,s,m,e,h2,h3,hA⟩:=hv
 exact⟨ng,s,m,e,h2,h3,tx hA hb h0 h1 a b c⟩
theorem ux {w W w3:World} {V er:Int} {v:Value} (hv:lN W w3 V v er) (hb:Below w.heap.size w W) {g:Nat} (h0:w.heap.size<=g) (h1:g<W.heap.size) (a b c:Value) :
  lN w (((w3.setCell ⟨g,0,none⟩ a).setCell ⟨g,1,none⟩ b).setCell ⟨g,2,none⟩ c) V v er:=by
 refine⟨(((hb.trans (hv.1.mono hb.size)).setCell (p:=⟨g,0,none⟩) h0 a).setCell (p:=⟨g,1,none⟩) h0 b).setCell (p:=⟨g,2,none⟩) h0 c,?_⟩
 rcases hv.2 with⟨o1,o2,o3⟩|o
 ·exact .inl ⟨o1,o2,cJ o3 hb h0 h1 a b c⟩
 ·exact .inr o
theorem IZ {F:Nat} {cap:Array Value} {w:World} {V:Int} (hE:∀ w,(callFunc F cap).run prog w=.ok (.enter F cap) w)
  (hy:eR V->∀ W,Below w.heap.size w W->Calls prog F cap W fun r W'=>∃ v,r=.returned v∧bw W W' V v)
  (hn:¬ eR V->∀ W,Below w.heap.size w W->Calls prog F cap W fun r W'=>r=zM∧Below W.heap.size W W') :
  Calls prog 163 #[.func (.func F) #[] cap] w fun r w'=>∃ v er,r=.returned (.tuple #[v,G6 er])∧lN w w' V v er:=by
 by_cases h:eR V
 ·refine(IS F cap w V hE (hy h)).mono ?_
  rintro r w' ⟨v,rfl,hD⟩
  exact⟨v,0,rfl,hD.below,.inl ⟨h,rfl,hD⟩⟩
 ·refine(Ml F cap w hE (hn h)).mono ?_
  rintro r w' ⟨rfl,hb⟩
  exact⟨_,2,rfl,hb,.inr ⟨h,rfl,rfl⟩⟩
theorem aD (w:World) (a:Obj):(w.alloc a).heap[w.heap.size]?=some a:=by
 show(w.heap.push a)[w.heap.size]?=some a
 simp
theorem fu (w:World) (a:Obj):(w.alloc a).heap.size=w.heap.size+1:=by
 show(w.heap.push a).size=_
 simp
theorem aX {w w':World} {p:Addr} {v:Value} (h:w.cell? p=some v) (hb:Below w.heap.size w w'):w'.cell? p=some v :=
 (hb.cell (World.block_lt_of_cell? w _ h)).trans h
theorem aw (w:World) (a:Obj):(w.alloc a).heap.size=w.heap.size+1:=fu w a
theorem am {w:World} {k:Nat} {x:Obj} (o:Obj) (h:w.heap[k]?=some x):(w.alloc o).heap[k]?=some x :=
 (Below.heap_alloc w o k (aGe h).1).trans h
theorem aE {w:World} {k:Nat} (o:Obj) (h:k=w.heap.size):(w.alloc o).heap[k]?=some o:=by rw[h];exact aD w o
theorem lO (w:World) (a b c d:Obj):((((w.alloc a).alloc b).alloc c).alloc d).heap[w.heap.size]?=some a:=am _ (am _ (am _ (aD w a)))
theorem lP (w:World) (a b c d:Obj):((((w.alloc a).alloc b).alloc c).alloc d).heap[w.heap.size+1]?=some b:=am _ (am _ (aE _ (by rw[aw])))
theorem lf (w:World) (a b c d:Obj):((((w.alloc a).alloc b).alloc c).alloc d).heap[w.heap.size+2]?=some c:=am _ (aE _ (by rw[aw,aw]))
theorem lg (w:World) (a b c d:Obj):((((w.alloc a).alloc b).alloc c).alloc d).heap[w.heap.size+3]?=some d:=aE _ (by rw[aw,aw,aw])
theorem pD (w:World) (a b c:Obj):(((w.alloc a).alloc b).alloc c).heap[w.heap.size]?=some a:=am _ (am _ (aD w a))
theorem pE (w:World) (a b c:Obj):(((w.alloc a).alloc b).alloc c).heap[w.heap.size+1]?=some b:=am _ (aE _ (by rw[aw]))
theorem lh (w:World) (a b c:Obj):(((w.alloc a).alloc b).alloc c).heap[w.heap.size+2]?=some c:=aE _ (by rw[aw,aw])
theorem df (w:World) (a b c:Obj):Below w.heap.size w (((w.alloc a).alloc b).alloc c):=(aM w a b).alloc (by rw[jR];omega) _
theorem nt (w:World) (a b c:Obj):(((w.alloc a).alloc b).alloc c).heap.size=w.heap.size+3:=by rw[aw,jR]
theorem gY (w:World) (a b c d:Obj):Below w.heap.size w ((((w.alloc a).alloc b).alloc c).alloc d):=(df w a b c).alloc (by rw[nt];omega) _
theorem jw (w:World) (a b c d:Obj):((((w.alloc a).alloc b).alloc c).alloc d).heap.size=w.heap.size+4:=by rw[aw,nt]
theorem oQ {W w':World} {g:Nat} {a b c:Value} (h:W.cell? ⟨g,0,none⟩=some a∧W.cell? ⟨g,1,none⟩=some b∧W.cell? ⟨g,2,none⟩=some c) (hb:Below W.heap.size W w') :
  w'.cell? ⟨g,0,none⟩=some a∧w'.cell? ⟨g,1,none⟩=some b∧w'.cell? ⟨g,2,none⟩=some c:=⟨aX h.1 hb,aX h.2.1 hb,aX h.2.2 hb⟩
theorem Lh {W w':World} {g o:Nat} {a b c:Value} (h:W.cell? ⟨g,0,none⟩=some a∧W.cell? ⟨g,1,none⟩=some b∧W.cell? ⟨g,2,none⟩=some c) (hw:Wr o W w') (hg:g≠o) :
  w'.cell? ⟨g,0,none⟩=some a∧w'.cell? ⟨g,1,none⟩=some b∧w'.cell? ⟨g,2,none⟩=some c :=
 ⟨(hw.cell (World.block_lt_of_cell? W _ h.1) hg).trans h.1,(hw.cell (World.block_lt_of_cell? W _ h.2.1) hg).trans h.2.1,(hw.cell (World.block_lt_of_cell? W _ h.2.2) hg).trans h.2.2⟩
theorem lb {W:World} {g o:Nat} {a b c:Value} (h:W.cell? ⟨g,0,none⟩=some a∧W.cell? ⟨g,1,none⟩=some b∧W.cell? ⟨g,2,none⟩=some c) (hg:g≠o) (x y z:Value) :
  (((W.setCell ⟨o,0,none⟩ x).setCell ⟨o,1,none⟩ y).setCell ⟨o,2,none⟩ z).cell? ⟨g,0,none⟩=some a∧(((W.setCell ⟨o,0,none⟩ x).setCell ⟨o,1,none⟩ y).setCell ⟨o,2,none⟩ z).cell? ⟨g,1,none⟩=some b∧(((W.setCell ⟨o,0,none⟩ x).setCell ⟨o,1,none⟩ y).setCell ⟨o,2,none⟩ z).cell? ⟨g,2,none⟩=some c :=
 Lh h (((Wr.refl o W).setCell 0 x |>.setCell 1 y).setCell 2 z) hg
def gp (r:aW):Prop:=cT r.d r.n∧r.n<=5000∧-1100000<=r.e∧r.e<=1100000
structure sN (r:Nat->aW) (k:Nat) (low high:Int):Prop where
 none:(∀ i,i<k->(r i).n=0)->low=9223372036854775807∧high=-9223372036854775808
 some:(∃ i,i<k∧0<(r i).n)->-1100000<=low∧low<=1100000∧-1100000<=high∧high<=1250000
 all:∀ i,i<k->0<(r i).n->low<=(r i).e∧(r i).e+aQ (val (r i).d (r i).n)<=high
theorem gp.len {x:aW} (h:gp x):aQ (val x.d x.n)<=150000:=by
 have:=fO (V:=val x.d x.n) (k:=30*x.n) (by rw[<- ft];exact dF h.1.1)
 have:=h.2.1
 omega
theorem sN.zero {r:Nat->aW} {k:Nat} {low high:Int} (h:sN r k low high) (h0:(r k).n=0):sN r (k+1) low high :=
  ⟨fun hx=>h.none fun i hi=>hx i (by omega),fun ⟨i,hi,hp⟩=>h.some ⟨i,by
    by_cases e:i=k
    · subst e;omega
    · omega,hp⟩,fun i hi hp=>by
    by_cases e:i=k
    · subst e;omega
    · exact h.all i (by omega) hp⟩
theorem sN.step {r:Nat->aW} {k:Nat} {low high:Int} (h:sN r k low high) (h0:0<(r k).n) (hs:gp (r k)):sN r (k+1) (min low (r k).e) (max high ((r k).e+aQ (val (r k).d (r k).n))):=by
 obtain⟨s1,s2,s3,s4⟩:=id hs
 have s5:=hs.len
 refine⟨fun hx=>by have:=hx k (by omega);omega,fun _=>?_,fun i hi hp=>?_⟩
 ·by_cases hx:∀ i,i<k->(r i).n=0
  ·obtain⟨a,b⟩:=h.none hx
   subst a b
   omega
  ·have:∃ i,i<k∧0<(r i).n:=by
    simp only[Classical.not_forall] at hx
    obtain⟨i,hi,hp⟩:=hx
    exact⟨i,hi,by omega⟩
   have:=h.some this
   omega
 ·by_cases e:i=k
  ·subst e;omega
  ·have:=h.all i (by omega) hp;omega
theorem FZ (ao:Option Addr) (n cap:Nat) (r:Nat->aW) (w:World) (h:kL w ao n cap r) (hs:∀ i,i<n->gp (r i)) :
  Calls prog 219 #[.slice ao n cap] w fun x w'=>∃ low high,x=.returned (.tuple #[G6 low,G6 high])∧sN r n low high∧Below w.heap.size w w':=by
 have hl:=h.le
 have hm:=h.max
 have HS:Hid (∀ i,i<n->gp (r i)):=hs
 clear hs
 have hmin:∀ (ts:Array TypeId) (t:TypeId) (x y:Int) (w:World),(Builtin.min_ ts t #[G6 x,G6 y]).run prog w=.ok (G6 (min x y)) w:=fun ts t x y w=>by rw[run_min_int2];congr 2;omega
 have hmax:∀ (ts:Array TypeId) (t:TypeId) (x y:Int) (w:World),(Builtin.max_ ts t #[G6 x,G6 y]).run prog w=.ok (G6 (max x y)) w:=fun ts t x y w=>by rw[run_max_int2];congr 2;omega
 go_enter func219,ntmps219
 go_wp2_with fail
 go_loopw [2,3,8] (fun lo hi i wr=>∃ (k:Nat) (low high:Int),k<=n∧i=G6 k∧lo=G6 low∧hi=G6 high∧Hid (sN r k low high)∧Below w.heap.size w wr) (fun _ _ i _=>n-(intOf i).toNat)
 case atStart=>exact⟨0,_,_,Nat.zero_le _,rfl,rfl,rfl,⟨fun _=>⟨rfl,rfl⟩,fun ⟨i,hi,_⟩=>by omega,fun i hi=>by omega⟩,ap _⟩
 case round=>
  obtain⟨k,low,high,hk,rfl,rfl,rfl,HR,hbw⟩:=hrel
  by_cases hlt:k<n
  ·obtain⟨b,off,rfl,hb,hc⟩:=h.spot (by omega)
   obtain⟨c0,c1,c2,hR⟩:=(hc k hlt).keeps hbw hb
   have hsk:=HS.out k hlt
   have hst:=fun h0=>HR.out.step (k:=k) h0 hsk
   have hze:=fun h0=>HR.out.zero (k:=k) h0
   have hlen:=hsk.len
   generalize hr:r k=x at *
   obtain⟨ng,xo,xn,xc,xd,xe⟩:=x
   obtain⟨s1,s2,s3,s4⟩:=hsk
   simp only at c0 c1 c2 hR s1 s2 s3 s4 hst hze hlen
   by_cases h0:xn=0
   ·subst h0
    have HZ:Hid (sN r (k+1) low high):=hze rfl
    clear hst hze
    go_wp2
    go_roundw
    case rel=>exact⟨k+1,low,high,by omega,by go_num,rfl,rfl,HZ,hbw.trans ((af _ _).mono hbw.size)⟩
    case measure=>simp[intOf];omega
   ·have HZ:Hid (sN r (k+1) (min low xe) (max high (xe+aQ (val xd xn)))):=hst (by omega)
    have hlp:(0:Int)<xn:=by omega
    have HM:Hid (∀ L H,L=min low xe->H=max high (xe+aQ (val xd xn))->sN r (k+1) L H):=fun L H e1 e2=>by rw[e1,e2];exact HZ.out
    have q0:=aD wr (.cells #[.bool ng,.slice xo xn xc,G6 xe] 40)
    have hbx:Below w.heap.size w (wr.alloc (.cells #[.bool ng,.slice xo xn xc,G6 xe] 40)):=hbw.trans ((af _ _).mono hbw.size)
    have hRx:=hR.alloc (.cells #[.bool ng,.slice xo xn xc,G6 xe] 40)
    clear HZ hst hze
    go_wp2_with fail
    generalize wr.alloc (.cells #[.bool ng,.slice xo xn xc,G6 xe] 40)=wx at q0 hbx hRx ⊢
    have k0:=ae q0 0 rfl
    have k1:=ae q0 1 rfl
    have k2:=ae q0 2 rfl
    have hb1:=ap wx
    have C1:∀ W,Below wx.heap.size wx W->Calls prog 270 #[.agg #[.bool ng,.slice xo xn xc,G6 xe]] W fun y w'=>y=.returned (G6 (xe+aQ (val xd xn)))∧Below W.heap.size W w':=fun W h=>IV ng xo xn xc xd xe W (hRx.keeps h) s1 (by omega) (by omega) (by omega)
    go_region_held3 (fun W=>W.cell? ⟨wr.heap.size,0,none⟩=some (.bool ng)∧W.cell? ⟨wr.heap.size,1,none⟩=some (.slice xo xn xc)∧W.cell? ⟨wr.heap.size,2,none⟩=some (G6 xe))
     (first|exact⟨k0,k1,k2⟩|assumption|exact oQ (W:=wx.drew) ⟨k0,k1,k2⟩ hbv1)
     (first|(go_at_call 270;refine(C1 _ hb1.drew).mono ?_;rintro y w3 ⟨rfl,hbv1⟩)|fail)
    all_goals go_wp2
    all_goals
     go_roundw
     case rel=>exact⟨k+1,_,_,by omega,by go_num,rfl,rfl,HM.out _ _ (by omega) (by omega),hbx.trans ((ac hb1.drew hbv1).mono hbx.size)⟩
     case measure=>simp[intOf];omega
  ·obtain rfl:k=n:=by omega
   go_wp2
   go_ret2
   exact⟨_,_,rfl,HR.out,hbw⟩
theorem xK (g N:Nat) (r0:Nat->Int) (w:World) (hB0:dG w g N r0) (hNm:N<=1000000) (hC0:∀ i,i<N->-2305843009213693952<=r0 i∧r0 i<=2305843009213693952) :
    Calls prog 271 #[.slice (some ⟨g,0,none⟩) N N] w fun e w'=>∃ o r,e=.returned (G6 o)∧dG w' g N r∧Wr g w w'∧bP r N∧val r N+o*P N=val r0 N:=by
  have HC:Hid (∀ i,i<N->-2305843009213693952<=r0 i∧r0 i<=2305843009213693952):=hC0
  clear hC0
  go_enter func271,ntmps271
  go_wp2
  go_loopw [3,7] (fun o i wr=>∃ (k:Nat) (o':Int) (r:Nat->Int),k<=N∧i=G6 k∧o=G6 o'∧-2305843009213693952<=o'∧o'<=2305843009213693952∧dG wr g N r∧Hid (bP r k)∧Hid (∀ i,k<=i->r i=r0 i)∧Hid (val r k+o'*P k=val r0 k)∧Wr g w wr) (fun _ i _=>N-(intOf i).toNat)
  case atStart=>exact⟨0,0,r0,Nat.zero_le _,rfl,rfl,by omega,by omega,hB0,fun i hi=>by omega,fun _ _=>rfl,by show(0:Int)+0*1=0;omega,Wr.refl _ _⟩
  case round=>
    obtain⟨k,o,r,hk,rfl,rfl,ho0,ho1,hB,HD,HZ,HV,hW⟩:=hrel
    by_cases hlt:k<N
    · have cg:=hB.cell hlt
      have fg:=hB.frozen k
      have hr:-2305843009213693952<=r k∧r k<=2305843009213693952:=by rw[HZ.out k (Nat.le_refl _)];exact HC.out k hlt
      obtain⟨hr0,hr1⟩:=hr
      have h30:=sC (o+r k)
      have hm:=jH (o+r k)
      have HV2:Hid (val (cr r k ((o+r k) % 1073741824)) (k+1)+(o+r k)/1073741824*P (k+1)=val r0 (k+1)):=by
        show _=_
        rw[aZ,bG,lM _ _ (Nat.le_refl _),kQ,vg,aZ,<- HV.out,HZ.out k (Nat.le_refl _)]
      go_wp2
      go_roundw
      case rel=>exact ⟨k+1,(o+r k)/1073741824,cr r k ((o+r k) % 1073741824),by omega,by go_num,rfl,by omega,by omega,hB.store k _,fun i hi=>by
          by_cases e:i=k
          · rw[e,bG];exact hm
          · rw [bg r _ e]; exact HD.out i (by omega),fun i hi=>by rw [bg r _ (by omega)]; exact HZ.out i (by omega),HV2,hW.setCell _ _⟩
      case measure=>simp[intOf];omega
    · obtain rfl:k=N:=by omega
      go_wp2
      go_ret
      exact⟨_,r,rfl,hB,hW,HD.out,HV.out⟩
theorem vu {S R o Pn:Int} (hP:0<Pn) (h0:0<=R) (h1:R<Pn) (e:R+o*Pn=S) (hS:-Pn<S∧S<Pn):(0<=S∧o=0∧R=S)∨(S<0∧o=-1∧R=S+Pn):=by
 by_cases ho:0<=o
 ·by_cases ho1:o=0
  ·subst ho1;left;omega
  ·have:1*Pn<=o*Pn:=Int.mul_le_mul_of_nonneg_right (by omega) (by omega)
   omega
 ·by_cases ho1:o=-1
  ·subst ho1;right;omega
  ·have:o*Pn<=(-2)*Pn:=Int.mul_le_mul_of_nonneg_right (by omega) (by omega)
   omega
theorem Ms (r:Nat->Int) (n:Nat):val (fun i=>-r i) n=-val r n:=by
 induction n with
 | zero=>rfl
 | succ n ih=>rw[aZ,aZ,ih,Int.neg_mul];omega
theorem Ga (g N:Nat) (r0:Nat->Int) (w:World) (hB0:dG w g N r0) (hNm:N<=1000000) (hC0:∀ i,i<N->-2305843009213693952<=r0 i∧r0 i<=2305843009213693952) (hS:-P N<val r0 N∧val r0 N<P N) :
    Calls prog 221 #[.slice (some ⟨g,0,none⟩) N N] w fun e w'=>∃ r,e=.returned (.bool (decide (val r0 N<0)))∧dG w' g N r∧Wr g w w'∧bP r N∧sg (decide (val r0 N<0)) (val r N)=val r0 N:=by
  have HS:Hid (-P N<val r0 N∧val r0 N<P N):=hS
  clear hS
  go_enter func221,ntmps221
  go_wp2_with fail
  refine(xK g N r0 w hB0 hNm hC0).mono ?_
  rintro e w1 ⟨o,r,rfl,hB1,hW1,hD1,hV1⟩
  rcases vu (dt N) (bL hD1) (dF hD1) hV1 HS.out with⟨hs,rfl,hR⟩|⟨hs,rfl,hR⟩
  · have HR:Hid (val r N=val r0 N):=hR
    have HH:Hid (0<=val r0 N):=hs
    clear hV1 hR hs hC0
    go_wp2
    go_ret
    have:decide (val r0 N<0)=false:=decide_eq_false (by have:=HH.out;omega)
    exact⟨r,bz this.symm,hB1,hW1,hD1,by rw[this];exact HR.out⟩
  · have HR:Hid (val r N=val r0 N+P N):=hR
    have HH:Hid (val r0 N<0):=hs
    have HD:Hid (bP r N):=hD1
    clear hV1 hR hs hC0 hD1
    go_wp2
    go_loopw [9] (fun i wr=>∃ (k:Nat) (r':Nat->Int),k<=N∧i=G6 k∧dG wr g N r'∧Hid (∀ i,i<k->r' i=-r i)∧Hid (∀ i,k<=i->r' i=r i)∧Wr g w wr) (fun i _=>N-(intOf i).toNat)
    case atStart=>exact⟨0,r,Nat.zero_le _,rfl,hB1,fun i hi=>by omega,fun _ _=>rfl,hW1⟩
    case round=>
      obtain⟨k,r',hk,rfl,hB,HX,HY,hW⟩:=hrel
      by_cases hlt:k<N
      · have cg:=hB.cell hlt
        have fg:=hB.frozen k
        have hr:0<=r' k∧r' k<1073741824:=by rw[HY.out k (Nat.le_refl _)];exact HD.out k hlt
        obtain⟨hr0,hr1⟩:=hr
        go_wp2
        go_roundw
        case rel=>exact ⟨k+1,cr r' k (-r' k),by omega,by go_num,hB.store k _,fun i hi=>by
            by_cases e:i=k
            · rw[e,bG,HY.out k (Nat.le_refl _)]
            · rw [bg r' _ e]; exact HX.out i (by omega),fun i hi=>by rw [bg r' _ (by omega)]; exact HY.out i (by omega),hW.setCell _ _⟩
        case measure=>simp[intOf];omega
      · obtain rfl:k=N:=by omega
        go_wp2_with fail
        refine(xK g k r' _ hB hNm (fun i hi=>by rw[HX.out i hi];have:=HD.out i hi;omega)).mono ?_
        rintro e w2 ⟨o2,r2,rfl,hB2,hW2,hD2,hV2⟩
        go_wp2
        go_ret
        have e1:val r' k=-val r k:=by rw[gJ HX.out,Ms]
        have hn:=HH.out
        have hR:=HR.out
        have hS:=HS.out.1
        rw[e1] at hV2
        have:decide (val r0 k<0)=true:=decide_eq_true hn
        refine⟨r2,bz this.symm,hB2,hW.trans hW2,hD2,?_⟩
        rw[this]
        show -val r2 k=val r0 k
        have a0:=bL hD2
        have a1:=dF hD2
        rcases vu (dt k) a0 a1 hV2 (by omega) with⟨c1,rfl,c3⟩|⟨c1,rfl,c3⟩<;>omega
def mr (r:Nat->aW):Nat->Int|0=>0|k+1=>mr r k+sg (r k).ng (val (r k).d (r k).n)*pw (r k).e
def wF (w:World) (V:Int) (x:Ending) (w':World):Prop:=(eR V∧∃ v,x=.returned v∧bw w w' V v)∨(¬ eR V∧x=zM∧Below w.heap.size w w')
theorem qN {ng:Bool} {ao:Option Addr} {n cap:Nat} {d:Nat->Int} {e:Int} {w:World} (h:aU w ao n cap d) (hd:bP d n) (hn:n<=100000) (hT:gz w) (he:-4194304<=e) {V:Int} (hV:V=sg ng (val d n)*pw e) :
  Calls prog 168 #[.agg #[.bool ng,.slice ao n cap,G6 e]] w (wF w V):=by
 by_cases hok:eR V
 ·refine(FY h hd hn hT he hV hok).mono ?_
  rintro x w' ⟨v,rfl,hD⟩
  exact .inl ⟨hok,v,rfl,hD⟩
 ·refine(BO h hd hn hT he hV hok).mono ?_
  rintro x w' ⟨rfl,hb⟩
  exact .inr ⟨hok,rfl,hb⟩
theorem uy {F:Nat} {cap:Array Value} {w:World} {V:Int} (hE:∀ w,(callFunc F cap).run prog w=.ok (.enter F cap) w) (h:∀ W,Below w.heap.size w W->Calls prog F cap W (wF W V)) :
  Calls prog 163 #[.func (.func F) #[] cap] w fun r w'=>∃ v er,r=.returned (.tuple #[v,G6 er])∧lN w w' V v er:=by
 refine IZ hE (fun hok W hW=>(h W hW).mono ?_) (fun hok W hW=>(h W hW).mono ?_)
 ·rintro x w' (⟨_,v,rfl,hD⟩|⟨hn,_⟩)
  ·exact⟨v,rfl,hD⟩
  ·exact absurd hok hn
 ·rintro x w' (⟨hy,_⟩|⟨_,rfl,hb⟩)
  ·exact absurd hy hok
  ·exact⟨rfl,hb⟩
theorem xL {r:Nat->aW}:∀ {n:Nat},(∀ i,i<n->(r i).n=0)->mr r n=0
 | 0,_=>rfl
 | n+1,h=>by
  show mr r n+_=0
  rw[xL fun i hi=>h i (by omega),h n (by omega)]
  show 0+sg _ 0*_=0
  rw[gN,Int.zero_mul,Int.add_zero]
theorem Gb {r:Nat->aW} {k:Nat} {low high:Int} (hs:gp (r k)) (ha:low<=(r k).e∧(r k).e+aQ (val (r k).d (r k).n)<=high) :
  val (r k).d (r k).n*2^((r k).e-low).toNat<2^(high-low).toNat∧0<=val (r k).d (r k).n*2^((r k).e-low).toNat:=by
 have hv:=bL hs.1.1
 obtain⟨a,b⟩:=ha
 have h1:=ls (val (r k).d (r k).n)
 have h2:val (r k).d (r k).n*2^((r k).e-low).toNat<2^aQ (val (r k).d (r k).n)*2^((r k).e-low).toNat:=Int.mul_lt_mul_of_pos_right h1 (aR _)
 rw[<- Int.pow_add] at h2
 have h3:(2:Int)^(aQ (val (r k).d (r k).n)+((r k).e-low).toNat)<=2^(high-low).toNat:=eG (by omega)
 exact⟨by omega,Int.mul_nonneg hv (Int.le_of_lt (aR _))⟩
structure nj (r:Nat->aW) (low high:Int) (N k:Nat) (c:Nat->Int):Prop where
 sum:val c N*pw low=mr r k
 bnd:∀ i,i<N->-((k:Int)*1073741823)<=c i∧c i<=k*1073741823
 lo:-((k:Int)*2^(high-low).toNat)<=val c N
 hi:val c N<=k*2^(high-low).toNat
theorem nj.start (r:Nat->aW) (low high:Int) (N:Nat):nj r low high N 0 (fun _=>0):=by
 have e:val (fun _=>0) N=0:=ix (Nat.zero_le _) (fun _ _ _=>rfl)
 exact⟨by rw[e,Int.zero_mul];rfl,fun i _=>⟨by omega,by omega⟩,by rw[e];simp,by rw[e];simp⟩
theorem nj.skip {r:Nat->aW} {low high:Int} {N k:Nat} {c:Nat->Int} (h:nj r low high N k c) (h0:(r k).n=0):nj r low high N (k+1) c:=by
 have e:mr r (k+1)=mr r k:=by
  show mr r k+_=_
  rw[h0]
  show mr r k+sg _ 0*_=_
  rw[gN,Int.zero_mul,Int.add_zero]
 have hp:=aR (high-low).toNat
 have e2:((k+1:Nat):Int)*2^(high-low).toNat=k*2^(high-low).toNat+2^(high-low).toNat:=by rw[Int.natCast_add,Int.add_mul];simp
 refine⟨by rw[e];exact h.sum,fun i hi=>?_,?_,?_⟩
 ·have:=h.bnd i hi;omega
 ·have:=h.lo;omega
 ·have:=h.hi;omega
theorem Gc (ng:Bool) {n:Nat} (h:0<n) (x:Int):fK ng n*x=sg ng x∧(fK ng n=1∨fK ng n=-1):=by
 have:n≠0:=by omega
 cases ng<;>simp[fK,sg,this]
theorem nj.put {r:Nat->aW} {low high:Int} {N k q p:Nat} {c c':Nat->Int} (h:nj r low high N k c) (hs:gp (r k)) (h0:0<(r k).n) (ha:low<=(r k).e∧(r k).e+aQ (val (r k).d (r k).n)<=high) (hl:-4194304<=low) (hqp:(r k).e-low=30*q+p) (hp:p<30)
  (hP:tw N c (fK (r k).ng (r k).n) (P q*(2^p*val (r k).d (r k).n)) c'):nj r low high N (k+1) c':=by
 obtain⟨b1,b0⟩:=Gb hs ha
 obtain⟨a1,a2⟩:=ha
 have e1:(2:Int)^((r k).e-low).toNat=P q*2^p:=by
  rw[show((r k).e-low).toNat=30*q+p by omega,Int.pow_add,ft]
 have e2:P q*(2^p*val (r k).d (r k).n)=val (r k).d (r k).n*2^((r k).e-low).toNat:=by rw[e1];grind
 rw[e2] at hP
 generalize hX:val (r k).d (r k).n*2^((r k).e-low).toNat=X at *
 obtain⟨s1,s2⟩:=Gc (r k).ng h0 X
 have hsum:=hP.sum
 rw[s1] at hsum
 have hpp:=aR (high-low).toNat
 have e3:((k+1:Nat):Int)*2^(high-low).toNat=k*2^(high-low).toNat+2^(high-low).toNat:=by rw[Int.natCast_add,Int.add_mul];simp
 have hsx:-X<=sg (r k).ng X∧sg (r k).ng X<=X:=by cases (r k).ng<;>simp[sg]<;>omega
 refine⟨?_,fun i hi=>?_,?_,?_⟩
 ·rw[hsum,Int.add_mul,h.sum]
  show _=mr r k+sg (r k).ng (val (r k).d (r k).n)*pw (r k).e
  rw[og hl a1,<- hX,mL,mL];grind
 ·have h1:=h.bnd i hi
  have h2:=FM s2 (hP.near i) (C:=k*1073741823) h1
  omega
 ·have:=h.lo;omega
 ·have:=h.hi;omega
theorem Ja {d:Nat->Int} {n:Nat} (h:cT d n) (h0:0<n):30*(n-1)+1<=aQ (val d n):=by
 obtain⟨m,rfl⟩:∃ m,n=m+1:=⟨n-1,by omega⟩
 rw[qD h]
 have hd:=h.1 m (by omega)
 have ht:d m≠0:=by
  rcases h.2 with h1|h1
  ·omega
  ·rwa [Nat.add_sub_cancel] at h1
 have:=(iJ (show 0<d m by omega)).1
 omega
theorem xM (ao:Option Addr) (n cap:Nat) (r:Nat->aW) (w:World) (h:kL w ao n cap r) (hs:∀ i,i<n->gp (r i)) (hn:n<=100000) (hT:gz w) :
  Calls prog 165 #[.slice ao n cap] w (wF w (mr r n)):=by
 have hl:=h.le
 have hm:=h.max
 have HS:Hid (∀ i,i<n->gp (r i)):=hs
 go_enter func165,ntmps165
 go_wp2_with fail
 refine(FZ ao n cap r _ (h.keeps (af _ _)) hs).mono ?_
 rintro x w1 ⟨low,high,rfl,hR,hb1⟩
 clear hs
 have q0:=(hb1.block w.heap.size (by rw[fu];omega)).trans (aD _ _)
 have x0:=ae q0 0 rfl
 have x1:=ae q0 1 rfl
 have x2:=ae q0 2 rfl
 have z0:=ah q0 0
 have z1:=ah q0 1
 have z2:=ah q0 2
 have hbw1:=ac (af w _) hb1
 by_cases hz:∀ i,i<n->(r i).n=0
 ·obtain⟨rfl,rfl⟩:=hR.none hz
  go_wp2
  refine bodyPost_ret (v:=iy) (by simp[results,results165,go_sem,x0,x1,x2,iy]) rfl ?_
  rw[xL hz]
  exact .inl ⟨qC,_,rfl,bw.zero (((hbw1.setCell (p:=⟨w.heap.size,0,none⟩) (Nat.le_refl _) _).setCell (p:=⟨w.heap.size,1,none⟩) (Nat.le_refl _) _).setCell (p:=⟨w.heap.size,2,none⟩) (Nat.le_refl _) _)⟩
 ·have hsome:∃ i,i<n∧0<(r i).n:=by
   simp only[Classical.not_forall] at hz
   obtain⟨i,hi,hp⟩:=hz
   exact⟨i,hi,by omega⟩
  obtain⟨l0,l1,l2,l3⟩:=hR.some hsome
  have hlh:low<=high:=by
   obtain⟨i,hi,hp⟩:=hsome
   have:=hR.all i hi hp
   omega
  obtain⟨N,hN⟩:∃ N:Nat,(high-low)/30+3=(N:Int):=⟨((high-low)/30+3).toNat,by omega⟩
  go_wp2_with (at_make;refine lr rfl _ _ rfl _ _ N rfl rfl (by omega) (by omega) (by omega) ?_;intro w2 hB2 hb2)
  have hlow:-4194304<=low:=by omega
  have hbw2:=ac hbw1 hb2
  have hb2':=hb2
  have HN:=h.keeps hbw1
  have HA:Hid (∀ i,i<n->0<(r i).n->low<=(r i).e∧(r i).e+aQ (val (r i).d (r i).n)<=high):=hR.all
  have HLH:Hid ((high-low)/30+3=(N:Int)∧low<=high):=⟨hN,hlh⟩
  have hN3:3<=N∧N<=90000:=by omega
  have gw:w1.heap.size<w2.heap.size:=hB2.lt
  clear hR hz hsome hb2 x0 x1 x2 z0 z1 z2
  go_loopw [26] (fun i wr=>∃ (k:Nat) (c:Nat->Int),k<=n∧i=G6 k∧dG wr w1.heap.size N c∧Hid (nj r low high N k c)∧Below w1.heap.size w1 wr∧w2.heap.size<=wr.heap.size) (fun i _=>n-(intOf i).toNat)
  case atStart=>exact⟨0,_,Nat.zero_le _,rfl,hB2,nj.start _ _ _ _,hb2',Nat.le_refl _⟩
  case round=>
   obtain⟨k,c,hk,rfl,hB,HT,hbw,hgw⟩:=hrel
   by_cases hlt:k<n
   ·obtain⟨b,off,rfl,hb,hc⟩:=HN.spot (by omega)
    obtain⟨c0,c1,c2,hRow⟩:=(hc k hlt).keeps hbw hb
    have hRX:=sD.of (hc k hlt).row (Nat.le_refl _)
    have hsk:=HS.out k hlt
    have hak:=HA.out k hlt
    have hput:=fun q p c' h0=>HT.out.put (q:=q) (p:=p) (c':=c') hsk h0 (hak h0) hlow
    have hskip:=fun h0=>HT.out.skip (k:=k) h0
    have hbnd:=HT.out.bnd
    clear hc
    generalize hr:r k=x at *
    obtain⟨ng,xo,xn,xc,xd,xe⟩:=x
    obtain⟨s1,s2,s3,s4⟩:=hsk
    simp only at c0 c1 c2 hRX hRow s1 s2 s3 s4 hput hskip hak
    by_cases h0:xn=0
    ·subst h0
     have HZ:Hid (nj r low high N (k+1) c):=hskip rfl
     clear hput hskip hak hbnd hN hlh hRX HN
     go_wp2
     go_roundw
     case rel=>exact⟨k+1,c,by omega,by go_num,hB.alloc _,HZ,hbw.trans ((af _ _).mono hbw.size),by rw[fu];omega⟩
     case measure=>simp[intOf];omega
    ·have hlp:(0:Int)<xn:=by omega
     obtain⟨a1,a2⟩:=hak (by omega)
     have hlb:=Ja s1 (by omega)
     obtain⟨q,p,hqp,hp⟩:∃ q p:Nat,xe-low=30*q+p∧p<30:=⟨((xe-low)/30).toNat,((xe-low) % 30).toNat,by omega,by omega⟩
     have hqN:q+xn+1<=N:=by omega
     have HP:Hid (∀ c',tw N c (fK ng xn) (P q*(2^p*val xd xn)) c'->nj r low high N (k+1) c'):=fun c' hP=>hput q p c' (by omega) hqp hp hP
     obtain⟨_,hsg⟩:=Gc ng (show 0<xn by omega) 0
     have HSG:Hid (fK ng xn=1∨fK ng xn=-1):=hsg
     have HQP:Hid (xe-low=30*q+p):=hqp
     have HBD:Hid (∀ i,i<N->-((k:Int)*1073741823)<=c i∧c i<=k*1073741823):=hbnd
     have hw1:wrap64 (xe-low)=xe-low:=IntWalk.wrap64_in _ ⟨by omega,by omega⟩
     have hw2:IntKind.i64.wrap (xe-low)=xe-low:=by rw[bK];omega
     have hlen:xn<=100000:=by omega
     have q0:=aD wr (.cells #[.bool ng,.slice xo xn xc,G6 xe] 40)
     have hsz:=fu wr (.cells #[.bool ng,.slice xo xn xc,G6 xe] 40)
     have hbx:Below w1.heap.size w1 (wr.alloc (.cells #[.bool ng,.slice xo xn xc,G6 xe] 40)):=hbw.trans ((af _ _).mono hbw.size)
     have hBx:=hB.alloc (.cells #[.bool ng,.slice xo xn xc,G6 xe] 40)
     have hgx:wr.heap.size≠w1.heap.size:=by omega
     clear hput hskip hak hbnd hN hlh hsg hqp HN a1 a2 hlb
     go_wp2_with fail
     generalize wr.alloc (.cells #[.bool ng,.slice xo xn xc,G6 xe] 40)=wx at q0 hsz hbx hBx ⊢
     have k0:=ae q0 0 rfl
     have k1:=ae q0 1 rfl
     have k2:=ae q0 2 rfl
     have hb1:=ap wx
     have C1:∀ W,Below wx.heap.size wx W->Calls prog 136 #[.agg #[.bool ng,.slice xo xn xc,G6 xe]] W fun y w'=>y=.returned (G6 (fK ng xn))∧Below W.heap.size W w':=fun W _=>xE ng xo xn xc xe W (by omega)
     have C2:∀ W,Below wx.heap.size wx W->Calls prog 220 #[.slice (some ⟨w1.heap.size,0,none⟩) N N,.slice xo xn xc,G6 (xe-low),G6 (fK ng xn)] W fun y w'=>y=.returned (.tuple #[])∧∃ c4,dG w' w1.heap.size N c4∧Wr w1.heap.size W w'∧tw N c (fK ng xn) (P q*(2^p*val xd xn)) c4:=fun W h=>
      Cy w1.heap.size N c xo xn xc q p xd W (hBx.keeps h) (hRX.keeps (Lg (hbx.trans (h.mono hbx.size)))) s1.1 hlen hqN (by omega) hp _ HQP.out _ HSG.out (k*1073741823) HBD.out (by omega)
     go_region_held3 (fun W=>W.cell? ⟨wr.heap.size,0,none⟩=some (.bool ng)∧W.cell? ⟨wr.heap.size,1,none⟩=some (.slice xo xn xc)∧W.cell? ⟨wr.heap.size,2,none⟩=some (G6 xe))
      (first|exact⟨k0,k1,k2⟩|exact oQ (by assumption) (by assumption)|exact Lh (by assumption) (by assumption) hgx)
      (first|(go_at_call 136;refine(C1 _ hb1.drew).mono ?_;rintro y w3 ⟨rfl,hbv1⟩)|(go_at_call 220;have _t:=hbv1;refine(C2 _ (ac hb1.drew hbv1)).mono ?_;rintro y w4 ⟨rfl,c4,hB5,hW5,hP5⟩))
     go_wp2
     go_roundw
     case rel=>exact⟨k+1,c4,by omega,by go_num,hB5,HP.out _ hP5,hW5.below (hbx.trans ((ac hb1.drew hbv1).mono hbx.size)) (by have:=hbx.size;have:=hbv1.size;exact Nat.le_trans hbx.size hbv1.size) (Nat.le_refl _),by have:=hW5.size;have:wx.heap.size<=w3.heap.size:=hbv1.size;omega⟩
     case measure=>simp[intOf];omega
   ·obtain rfl:k=n:=by omega
    have hbig:-P N<val c N∧val c N<P N:=by
     have h1:=HT.out.lo
     have h2:=HT.out.hi
     obtain⟨e1,e2⟩:=HLH.out
     have h3:((k:Int))*2^(high-low).toNat<2^60*2^(high-low).toNat:=Int.mul_lt_mul_of_pos_right (by omega) (aR _)
     rw[<- Int.pow_add] at h3
     have h4:(2:Int)^(60+(high-low).toNat)<=P N:=by rw[ft];exact eG (by omega)
     omega
    go_wp2_with fail
    refine(Ga w1.heap.size N c wr hB (by omega) (fun i hi=>by have:=HT.out.bnd i hi;omega) hbig).mono ?_
    rintro y w5 ⟨c5,rfl,hB5,hW5,hD5,hV5⟩
    have hbw5:Below w1.heap.size w1 w5:=hW5.below hbw hbw.size (Nat.le_refl _)
    have hbw6:=ac hbw1 hbw5
    have hsum:mr r k=sg (decide (val c N<0)) (val c5 N)*pw low:=by rw[hV5];exact HT.out.sum.symm
    have HSUM:Hid (mr r k=sg (decide (val c N<0)) (val c5 N)*pw low):=hsum
    clear hsum hbig hV5
    generalize hneg:decide (val c N<0)=neg at *
    go_wp2_with fail
    refine(qN (hB5.row0 (Nat.le_refl _) (by omega)) hD5 (by omega) (hT.keeps hbw6) hlow HSUM.out).mono ?_
    rintro y w7 (⟨hok,v,rfl,hD⟩|⟨hno,rfl,hb7⟩)
    ·have hb7:=hD.below
     have hf7:=hD.from hbw6
     obtain⟨ng',s',m',e',rfl,hy,hA⟩:=id hD
     obtain⟨so,sn,sc,rfl⟩:=hA.num.shape
     have g0:=(hb7.block w.heap.size (Nat.lt_of_lt_of_le (Nat.lt_of_lt_of_le (by rw[fu];omega) hb1.size) hbw5.size)).trans ((hbw5.block w.heap.size (Nat.lt_of_lt_of_le (by rw[fu];omega) hb1.size)).trans q0)
     have x0:=ae g0 0 rfl
     have x1:=ae g0 1 rfl
     have x2:=ae g0 2 rfl
     have z0:=ah g0 0
     have z1:=ah g0 1
     have z2:=ah g0 2
     go_wp2
     refine bodyPost_ret (v:=.agg #[.bool ng',.slice so sn sc,G6 e']) (by simp[results,results165,go_sem,x0,x1,x2]) rfl ?_
     exact .inl ⟨hok,_,rfl,cJ (g:=w.heap.size) hD hbw6 (Nat.le_refl _) (Nat.lt_of_lt_of_le (Nat.lt_of_lt_of_le (by rw[fu];omega) hb1.size) hbw5.size) _ _ _⟩
    ·exact⟨rfl,.inr ⟨hno,rfl,ac hbw6 hb7⟩⟩
def aW.V (r:aW):Int:=sg r.ng (val r.d r.n)*pw r.e
def tz (x y:aW):Nat->aW:=fun i=>if i=0 then x else y
theorem vv {w:World} {g:Nat} {x y:aW} {t:TypeId} (h:w.heap[g]?=some (.cells #[.bool x.ng,.slice x.ao x.n x.cap,G6 x.e,.bool y.ng,.slice y.ao y.n y.cap,G6 y.e] t (0,0))) (hx:aU w x.ao x.n x.cap x.d) (hy:aU w y.ao y.n y.cap y.d) :
    kL w (some ⟨g,0,none⟩) 2 2 (tz x y) :=
  ⟨Nat.le_refl _,by decide,fun _=>⟨g,0,rfl,(Array.getElem?_eq_some_iff.1 h).1,fun i hi=>by
    match i,hi with
    | 0,_=>exact⟨ae h 0 rfl,ae h 1 rfl,ae h 2 rfl,hx⟩
    | 1,_=>exact ⟨ae h 3 rfl,ae h 4 rfl,ae h 5 rfl,hy⟩⟩⟩
theorem zN (x y:aW):Em (tz x y) 2=(gK x&&gK y):=by
 unfold Em
 by_cases hx:gK x=true
 ·by_cases hy:gK y=true
  ·rw[hx,hy]
   exact decide_eq_true fun i hi=>by
    match i,hi with
    | 0,_=>exact hx
    | 1,_=>exact hy
  ·have:gK y=false:=by simpa using hy
   rw[hx,this]
   exact decide_eq_false fun h=>hy (h 1 (by omega))
 ·have:gK x=false:=by simpa using hx
  rw[this,Bool.false_and]
  exact decide_eq_false fun h=>hx (h 0 (by omega))
theorem Li (x y:aW):mr (tz x y) 2=x.V+y.V:=by
 show 0+x.V+y.V=_
 rw[Int.zero_add]
theorem ct {x:aW} (h:gK x=true):gp x:=by
 rcases of_decide_eq_true h with⟨h1,h2,h3⟩|⟨h1,⟨h2,h3⟩,h4,h5,h6⟩
 ·exact⟨⟨fun i hi=>by omega,.inl h1⟩,by omega,by omega,by omega⟩
 ·exact⟨h3,by omega,by omega,by omega⟩
theorem sO {x:aW} (h:gK x=true):Dy x.V x.ng (val x.d x.n) x.e∧val x.d x.n<P 2000∧eR x.V:=by
 have hd:Dy x.V x.ng (val x.d x.n) x.e∧val x.d x.n<P 2000∧-1048576<=x.e∧x.e<=1048576:=by
  rcases of_decide_eq_true h with⟨h1,h2,h3⟩|⟨h1,⟨h2,h3⟩,h4,h5,h6⟩
  ·exact⟨⟨rfl,by omega,.inl ⟨by rw[h1];rfl,h2,h3⟩⟩,by rw[h1];show(0:Int)<P 2000;exact dt 2000,by omega,by omega⟩
  ·refine⟨⟨rfl,by omega,.inr ⟨kv h3 h1,?_⟩⟩,?_,h5,h6⟩
   ·obtain⟨m,hm⟩:∃ m,x.n=m+1:=⟨x.n-1,by omega⟩
    have:=iw x.d 1 m
    rw[show 1+m=x.n by omega] at this
    rw[this]
    rw[show val x.d 1=x.d 0 by show 0+x.d 0*1=_;omega,show P 1=1073741824 from rfl]
    omega
   ·exact Int.lt_of_lt_of_le (dF h3.1) (nf h2)
 exact⟨hd.1,hd.2.1,hd.1.ok.2 hd.2⟩
theorem li {w w1:World} (h:Below w.heap.size w w1) {g:Nat} (hg:w.heap.size<=g) (a b c:Value):Below w.heap.size w (((w1.setCell ⟨g,0,none⟩ a).setCell ⟨g,1,none⟩ b).setCell ⟨g,2,none⟩ c) :=
 ((h.setCell (p:=⟨g,0,none⟩) hg a).setCell (p:=⟨g,1,none⟩) hg b).setCell (p:=⟨g,2,none⟩) hg c
theorem aI {w:World} {g:Nat} {xs:Array Value} {t:TypeId} (h:w.heap[g]?=some (.cells xs t (0,0))) (i:Nat) (v:Value):(w.setCell ⟨g,i,none⟩ v).heap[g]?=some (.cells (xs.setIfInBounds i v) t (0,0)):=by
 simp[World.setCell,Array.getElem?_modify,h]
theorem Jb (x y:aW) (g h:Nat) (w:World) (cg:w.heap[g]?=some (.cells #[.bool x.ng,.slice x.ao x.n x.cap,G6 x.e] 40 (0,0))) (ch:w.heap[h]?=some (.cells #[.bool y.ng,.slice y.ao y.n y.cap,G6 y.e] 40 (0,0)))
  (hx:aU w x.ao x.n x.cap x.d) (hy:aU w y.ao y.n y.cap y.d) (sx:gp x) (sy:gp y) (hT:gz w) :
  Calls prog 164 #[.pointer (some ⟨g,0,none⟩),.pointer (some ⟨h,0,none⟩)] w (wF w (x.V+y.V)):=by
 obtain⟨an,ao,n,ca,a,e⟩:=x
 obtain⟨bn,bo,m,cb,b,f⟩:=y
 simp only at cg ch hx hy
 have hb:=af w (.cells #[.bool false,.slice none 0 0,G6 0] 40)
 have g0:=am (.cells #[.bool false,.slice none 0 0,G6 0] 40) cg
 have g1:=am (.cells #[.bool false,.slice none 0 0,G6 0] 40) ch
 have k0:=ae g0 0 rfl
 have k1:=ae g0 1 rfl
 have k2:=ae g0 2 rfl
 have j0:=ae g1 0 rfl
 have j1:=ae g1 1 rfl
 have j2:=ae g1 2 rfl
 have hN:=fun q=>vv (w:=(w.alloc (.cells #[.bool false,.slice none 0 0,G6 0] 40)).alloc (.cells #[.bool an,.slice ao n ca,G6 e,.bool bn,.slice bo m cb,G6 f] 40)) (g:=w.heap.size+1) (x:=⟨an,ao,n,ca,a,e⟩) (y:=⟨bn,bo,m,cb,b,f⟩) (t:=40) q (hx.keeps (aM _ _ _)) (hy.keeps (aM _ _ _))
 go_enter func164,ntmps164
 go_wp2_with fail
 refine(xM _ _ _ _ _ (hN (cZ _ _ _)) (fun i hi=>?_) (by omega) (hT.keeps (aM _ _ _))).mono ?_
 ·match i,hi with
  | 0,_=>exact sx
  | 1,_=>exact sy
 rw[Li]
 rintro r w7 (⟨hok,v,rfl,hD⟩|⟨hno,rfl,hb7⟩)
 ·have hb7:=hD.below
  obtain⟨ng',s',m',e',rfl,hyy,hA⟩:=id hD
  obtain⟨so,sn,sc,rfl⟩:=hA.num.shape
  have q0:=(hb7.block w.heap.size (by rw[jR];omega)).trans (ew _ _ _)
  have x0:=ae q0 0 rfl
  have x1:=ae q0 1 rfl
  have x2:=ae q0 2 rfl
  have z0:=ah q0 0
  have z1:=ah q0 1
  have z2:=ah q0 2
  go_wp2
  refine bodyPost_ret (v:=.agg #[.bool ng',.slice so sn sc,G6 e']) (by simp[results,results164,go_sem,x0,x1,x2]) rfl ?_
  exact .inl ⟨hok,_,rfl,cJ (g:=w.heap.size) hD (aM _ _ _) (Nat.le_refl _) (by rw[jR];omega) _ _ _⟩
 ·exact⟨rfl,.inr ⟨hno,rfl,ac (aM _ _ _) hb7⟩⟩
theorem Mt (x y:aW) (w:World) (hx:aU w x.ao x.n x.cap x.d) (hy:aU w y.ao y.n y.cap y.d) (ox:gK x=true) (oy:gK y=true) (hT:gz w) :
  Calls prog 97 #[x.v,y.v] w fun r w'=>∃ v er,r=.returned (.tuple #[v,G6 er])∧lN w w' (x.V+y.V) v er:=by
 have hmf:∀ (fn:Fn) (first cap:Array Value) (w:World),(Instr.makeFunc fn first cap).run prog w=.ok (.func fn first cap) w:=fun _ _ _ _=>rfl
 have hE:∀ (cap:Array Value) (w:World),(callFunc 164 cap).run prog w=.ok (.enter 164 cap) w:=by
  intro cap w
  simp[go_sem]
 have hA:=zN x y
 rw[ox,oy] at hA
 have hN:=fun W q hb=>vv (w:=W) (g:=w.heap.size+3) (x:=x) (y:=y) (t:=40) q (hx.keeps hb) (hy.keeps hb)
 have hC:=fun W hb cg ch=>Jb x y w.heap.size (w.heap.size+1) W cg ch (hx.keeps hb) (hy.keeps hb) (ct ox) (ct oy) (hT.keeps hb)
 generalize tz x y=pr at hA hN
 generalize x.V+y.V=V at hC ⊢
 clear ox oy
 obtain⟨an,ao,n,ca,a,e⟩:=x
 obtain⟨bn,bo,m,cb,b,f⟩:=y
 unfold aW.v
 simp only at hx hy hN hC ⊢
 go_enter func97,ntmps97
 go_wp2_with fail
 refine(pB _ _ _ _ _ (hN _ (lg _ _ _ _ _) (gY _ _ _ _ _))).mono ?_
 rw[hA]
 rintro r w1 ⟨rfl,hb1⟩
 have hbw:=ac (gY w _ _ _ _) hb1
 have g0:=(hb1.block w.heap.size (by rw[jw];omega)).trans (lO _ _ _ _ _)
 have g1:=(hb1.block (w.heap.size+1) (by rw[jw];omega)).trans (lP _ _ _ _ _)
 have g2:=(hb1.block (w.heap.size+2) (by rw[jw];omega)).trans (lf _ _ _ _ _)
 have hs4:w.heap.size+4<=w1.heap.size:=by have:=hb1.size;rw[jw] at this;exact this
 go_wp2_with fail
 refine(uy (V:=V) (hE _) (fun W hW=>hC W (ac hbw hW) ((hW.block _ (by omega)).trans g0) ((hW.block _ (by omega)).trans g1))).mono ?_
 rintro r w2 ⟨v,er,rfl,hF⟩
 obtain⟨ng',so,sn,sc,e',rfl⟩:=hF.shape
 have q0:=(hF.1.block (w.heap.size+2) (by omega)).trans g2
 have x0:=ae q0 0 rfl
 have x1:=ae q0 1 rfl
 have x2:=ae q0 2 rfl
 have z0:=ah q0 0
 have z1:=ah q0 1
 have z2:=ah q0 2
 go_wp2
 refine bodyPost_ret (v:=.tuple #[.agg #[.bool ng',.slice so sn sc,G6 e'],G6 er]) (by simp[results,results97,go_sem,x0,x1,x2]) rfl ⟨_,_,rfl,?_⟩
 exact ux (g:=w.heap.size+2) hF hbw (by omega) (by omega) _ _ _
theorem Gd (g n cap:Nat) (d:Nat->Int) (w:World) (h:aU w (some ⟨g,0,none⟩) n cap d) :
  Calls prog 261 #[.slice (some ⟨g,0,none⟩) n cap] w fun e w'=>∃ t:Nat,t<=n∧sA d t∧(∀ i,t<=i->i<n->d i=0)∧e=.returned (.slice (some ⟨g,0,none⟩) t cap)∧w'=w:=by
 have hl:=h.le
 have hm:=h.max
 go_enter func261,ntmps261
 go_wp2
 go_loop [3] (fun i=>∃ k:Nat,k<=n∧i=G6 k∧∀ i,k<=i->i<n->d i=0) (fun i=>(intOf i).toNat)
 case atStart=>exact⟨n,Nat.le_refl _,rfl,fun i a b=>by omega⟩
 case round=>
  obtain⟨k,hk,rfl,hz⟩:=hrel
  have HZ:Hid (∀ i,k<=i->i<n->d i=0):=hz
  clear hz
  by_cases h0:k=0
  ·subst h0
   go_wp2
   go_ret
   exact⟨0,by omega,.inl rfl,HZ.out,by simp,rfl⟩
  ·obtain⟨b,off,eb,hb,hc⟩:=h.spot (by omega)
   simp only[Option.some.injEq,Addr.mk.injEq,and_true] at eb
   obtain⟨rfl,rfl⟩:=eb
   have c:=hc (k-1) (by omega)
   rw[Nat.zero_add] at c
   by_cases h1:d (k-1)=0
   ·go_wp2
    go_round
    case rel=>exact⟨k-1,by omega,by go_num,fun i a b=>by by_cases e:i=k-1;(· rw[e];exact h1);(· exact HZ.out i (by omega) b)⟩
    case measure=>simp[intOf];omega
   ·go_wp2
    go_ret
    exact⟨k,hk,.inr h1,HZ.out,by simp,rfl⟩
theorem Oy {d:Nat->Int} {t:Nat} (hd:bP d t) (h:0<t->P (t-1)<=val d t):sA d t:=by
 by_cases h0:t=0
 ·exact .inl h0
 ·refine .inr fun e=>?_
  obtain⟨k,rfl⟩:∃ k,t=k+1:=⟨t-1,by omega⟩
  rw[Nat.add_sub_cancel] at e h
  have h1:=h (by omega)
  rw[aZ,e] at h1
  have h2:=dF (hd.le (Nat.le_succ k))
  omega
theorem gO (r:Nat->Int) (k:Nat) (x:Int):∀ i,i<k+1->kS r k (fun _=>x) i=cr r k x i:=fun i hi=>by
 by_cases e:i<k
 ·simp[kS,e,bg r _ (show i≠k by omega)]
 ·obtain rfl:i=k:=by omega
  simp[kS,bG]
theorem gZ {r:Nat->Int} {k:Nat} {x:Int} (h:bP r k) (hx:0<=x∧x<1073741824):bP (cr r k x) (k+1):=fun i hi=>by
 by_cases e:i=k
 ·rw[e,bG];exact hx
 ·rw[bg r x e];exact h i (by omega)
theorem Jc (ao bo:Option Addr) (n m ca cb:Nat) (a b:Nat->Int) (w:World) (ha:aU w ao n ca a) (hb:aU w bo m cb b) (na:cT a n) (nb:cT b m) (hn:n<=100000) (hm:m<=100000) :
  Calls prog 205 #[.slice ao n ca,.slice bo m cb] w fun e w'=>∃ v,e=.returned v∧dE w w' (val a n+val b m) v:=by
 have hla:=ha.le
 have hma:=ha.max
 have hlb:=hb.le
 have hmb:=hb.max
 have da:=na.1
 have db:=nb.1
 obtain⟨M,hM1,hM2,hM3⟩:∃ M,n<=M∧m<=M∧(M<=n∨M<=m):=⟨max n m,by omega,by omega,by omega⟩
 go_enter func205,ntmps205
 go_wp2
 go_loopw [5,6,7] (fun l c i wr=>∃ (k:Nat) (q:Int) (r:Nat->Int),(k<=M∨(k=M+1∧q=0))∧i=G6 k∧c=G6 q∧0<=q∧q<=1∧bI w.heap.size wr l k r∧bP r k∧Hid (val r k+q*P k=val (cd a n) k+val (cd b m) k)∧Hid (k=M+1->P M<=val a n+val b m)∧Below w.heap.size w wr) (fun _ _ i _=>M+1-(intOf i).toNat)
 case atStart=>exact⟨0,0,fun _=>0,.inl (Nat.zero_le _),rfl,rfl,by omega,by omega,bI.nil _ _ _,fun i hi=>by omega,by show _=_;rfl,fun h=>by omega,ap _⟩
 case round=>
  obtain⟨k,q,r,hk,rfl,rfl,hq0,hq1,hO,hD,HV,HT,hbw⟩:=hrel
  have hkM:k<=M+1:=by omega
  by_cases hkn:k<n
  ·by_cases hkm:k<m
   ·obtain⟨ba,fa,rfl,hba,hca⟩:=ha.spot (by omega)
    have c1:=(hbw.cell (p:=⟨ba,fa+k,none⟩) hba).trans (hca k hkn)
    have dk:=da k hkn
    obtain⟨bb,fb,rfl,hbb,hcb⟩:=hb.spot (by omega)
    have c2:=(hbw.cell (p:=⟨bb,fb+k,none⟩) hbb).trans (hcb k hkm)
    have dbk:=db k hkm
    have HX:Hid (q+a k+b k=q+(cd a n k+cd b m k)):=by show _=_;rw[fY a hkn,fY b hkm];omega
    go_wp2_with (at_builtin;refine cL rfl _ _ rfl w.heap.size _ k r rfl (hO.stays (af _ _)) _ 1 1 (fun _=>(q+a k+b k) % 1073741824) rfl (iR _ _ rfl) (by omega) (by have:=hbw.size;simp;omega) ?_;intro v' w1 hO1 hg1)
    have hb1:Below w.heap.size w w1:=(hbw.alloc hbw.size _).grown hg1 (by have:=hbw.size;simp;omega) (gy hO)
    have hs:=gn (x:=cd a n k+cd b m k) HV.out
    rw[<- HX.out] at hs
    go_roundw
    case rel=>exact⟨k+1,(q+a k+b k)/1073741824,cr r k ((q+a k+b k) % 1073741824),by omega,by go_num,rfl,by omega,by omega,hO1.congr (gO r k _),gZ hD (jH _),by show _=_;rw[hs,aZ,aZ];grind,fun h=>by omega,hb1⟩
    case measure=>simp[intOf];omega
   ·obtain⟨ba,fa,rfl,hba,hca⟩:=ha.spot (by omega)
    have c1:=(hbw.cell (p:=⟨ba,fa+k,none⟩) hba).trans (hca k hkn)
    have dk:=da k hkn
    have HX:Hid (q+a k=q+(cd a n k+cd b m k)):=by show _=_;rw[fY a hkn,jW b (by omega)];omega
    go_wp2_with (at_builtin;refine cL rfl _ _ rfl w.heap.size _ k r rfl (hO.stays (af _ _)) _ 1 1 (fun _=>(q+a k) % 1073741824) rfl (iR _ _ rfl) (by omega) (by have:=hbw.size;simp;omega) ?_;intro v' w1 hO1 hg1)
    have hb1:Below w.heap.size w w1:=(hbw.alloc hbw.size _).grown hg1 (by have:=hbw.size;simp;omega) (gy hO)
    have hs:=gn (x:=cd a n k+cd b m k) HV.out
    rw[<- HX.out] at hs
    go_roundw
    case rel=>exact⟨k+1,(q+a k)/1073741824,cr r k ((q+a k) % 1073741824),by omega,by go_num,rfl,by omega,by omega,hO1.congr (gO r k _),gZ hD (jH _),by show _=_;rw[hs,aZ,aZ];grind,fun h=>by omega,hb1⟩
    case measure=>simp[intOf];omega
  ·by_cases hkm:k<m
   ·obtain⟨bb,fb,rfl,hbb,hcb⟩:=hb.spot (by omega)
    have c2:=(hbw.cell (p:=⟨bb,fb+k,none⟩) hbb).trans (hcb k hkm)
    have dbk:=db k hkm
    have HX:Hid (q+b k=q+(cd a n k+cd b m k)):=by show _=_;rw[jW a (by omega),fY b hkm];omega
    go_wp2_with (at_builtin;refine cL rfl _ _ rfl w.heap.size _ k r rfl (hO.stays (af _ _)) _ 1 1 (fun _=>(q+b k) % 1073741824) rfl (iR _ _ rfl) (by omega) (by have:=hbw.size;simp;omega) ?_;intro v' w1 hO1 hg1)
    have hb1:Below w.heap.size w w1:=(hbw.alloc hbw.size _).grown hg1 (by have:=hbw.size;simp;omega) (gy hO)
    have hs:=gn (x:=cd a n k+cd b m k) HV.out
    rw[<- HX.out] at hs
    go_roundw
    case rel=>exact⟨k+1,(q+b k)/1073741824,cr r k ((q+b k) % 1073741824),by omega,by go_num,rfl,by omega,by omega,hO1.congr (gO r k _),gZ hD (jH _),by show _=_;rw[hs,aZ,aZ];grind,fun h=>by omega,hb1⟩
    case measure=>simp[intOf];omega
   ·by_cases hq:0<q
    ·have hkE:k=M:=by omega
     have HTT:Hid (P M<=val a n+val b m):=by
      show _<=_
      have h:=HV.out
      rw[nJ a (by omega),nJ b (by omega),show q=1 by omega,hkE] at h
      have:=bL hD
      rw[hkE] at this
      omega
     have HX:Hid (q=q+(cd a n k+cd b m k)):=by show _=_;rw[jW a (by omega),jW b (by omega)];omega
     go_wp2_with (at_builtin;refine cL rfl _ _ rfl w.heap.size _ k r rfl (hO.stays (af _ _)) _ 1 1 (fun _=>(q) % 1073741824) rfl (iR _ _ rfl) (by omega) (by have:=hbw.size;simp;omega) ?_;intro v' w1 hO1 hg1)
     have hb1:Below w.heap.size w w1:=(hbw.alloc hbw.size _).grown hg1 (by have:=hbw.size;simp;omega) (gy hO)
     have hs:=gn (x:=cd a n k+cd b m k) HV.out
     rw[<- HX.out] at hs
     go_roundw
     case rel=>exact⟨k+1,(q)/1073741824,cr r k ((q) % 1073741824),by omega,by go_num,rfl,by omega,by omega,hO1.congr (gO r k _),gZ hD (jH _),by show _=_;rw[hs,aZ,aZ];grind,fun h=>HTT.out,hb1⟩
     case measure=>simp[intOf];omega
    ·obtain rfl:q=0:=by omega
     have hkMM:M<=k:=by omega
     have hcd:decide ((0:Int)<0)=false:=by decide
     go_wp2
     go_ret
     have hv:val r k=val a n+val b m:=by
      have h:=HV.out
      rw[nJ a (by omega),nJ b (by omega)] at h
      omega
     refine⟨_,rfl,k,r,hO,⟨hD,Oy hD fun hk0=>?_⟩,hv,hbw⟩
     rw[hv]
     have A0:=bL da
     have B0:=bL db
     rcases hk with h|⟨h,_⟩
     ·obtain rfl:k=M:=by omega
      rcases hM3 with q|q
      ·obtain rfl:k=n:=by omega
       have:=ik da hk0 na.2
       omega
      ·obtain rfl:k=m:=by omega
       have:=ik db hk0 nb.2
       omega
     ·rw[h,Nat.add_sub_cancel];exact HT.out h
end Go.Proofs.YtjjihmnbdeeedaaGreatDoor
