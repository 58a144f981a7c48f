/- Parts of the proof. -/
import Derived.Test.YtkkpppgfoilgmaaGreatDoorPart1
import Derived.Test.YtkkpppgfoilgmaaGreatDoorProg
import Derived.WalkKit
import Derived.RowKit3
import Derived.Below
import Derived.Deep.QuietTactic
import Derived.BigQuiet
import Derived.Lib.Strings
import Derived.Lib.Slices
import Derived.Lib.Small
import Derived.Lib.Walk
import Derived.Lib.BitFns
import Derived.Lib.TrailingZeros
import Derived.Laws.Bits64b
import Derived.Test.YtkkpppgfoilgmaaGreatDoorPart2
import Derived.Lib.ItoaNum
import Derived.Deep.Cut
import Derived.BigRegion
set_option maxRecDepth 100000
set_option maxHeartbeats 8000000
set_option linter.unusedVariables false
set_option linter.unusedSimpArgs false
namespace Go.Proofs.YtkkpppgfoilgmaaGreatDoor
open Go Go.Proofs.Tryz Go.RowKit Go.Proofs.YtkkpppgfoilgmaaGreatDoor.M
structure eI (w:World):Prop where
 a0:w.cell? ⟨0,0,none⟩=some (.int .i64 52)
 a1:w.cell? ⟨0,1,none⟩=some (.int .i64 2047)
 a2:w.cell? ⟨0,2,none⟩=some (.int .i64 (-1074))
 b0:True
 b1:True
 b2:True
structure Gr (W w':World):Prop where
 gr:Grown W w'
 be:Below W.heap.size W w'
theorem Gr.refl (W:World):Gr W W:=⟨Grown.refl _,Below.refl _ _⟩
theorem Gr.alloc {W w':World} (h:Gr W w') (c:Array Value) (t:TypeId):Gr W (w'.alloc (.cells c t)):=⟨h.gr.alloc c t,h.be.alloc h.be.size _⟩
theorem Gr.drew {W w':World} (h:Gr W w'):Gr W w'.drew:=⟨h.gr.drew,⟨h.be.os,h.be.tape,h.be.output,h.be.size,h.be.block⟩⟩
theorem eQ {W w':World} (h:Gr W w') (n:Nat):Gr W (w'.drewN n):=⟨h.gr,⟨h.be.os,h.be.tape,h.be.output,h.be.size,h.be.block⟩⟩
theorem oO {a b:World} (h:Gr a b) {p:Addr} {v:Value} (hc:a.cell? p=some v):b.cell? p=some v:=by
 unfold World.cell? at hc ⊢
 have hlt:p.block<a.heap.size:=by
  by_cases hp:p.block<a.heap.size
  ·exact hp
  ·rw[Array.getElem?_eq_none (by omega)] at hc;simp at hc
 have k:=h.gr.1.2.2 p.block hlt
 cases ha:a.heap[p.block]? with
 | none=>rw[ha] at hc;simp at hc
 | some oa=>
  rw[ha] at hc k
  cases oa with
  | cells c t fr=>
   cases hb:b.heap[p.block]? with
   | none=>rw[hb] at k;simp at k
   | some ob=>
    rw[hb] at k
    cases ob with
    | cells c' t' fr'=>
     simp only at hc k ⊢
     obtain⟨_,_,_,kc⟩:=k
     rw[kc p.off (fun f=>f)]
     exact hc
    | _=>simp at k
  | _=>simp at hc
theorem eI.grown {w w':World} (h:eI w) (g:Gr w w'):eI w' :=
 ⟨oO g h.a0,oO g h.a1,oO g h.a2,trivial,trivial,trivial⟩
theorem bZ {k:IntKind} {a b:Int} (h:a=b):Ending.returned (.int k a)=.returned (.int k b):=by rw[h]
theorem ye {a a':Bool} {b b' c c':Int} (h:a=a') (k:b=b') (l:c=c'):Ending.returned (.tuple #[.bool a,.int .i64 b,.int .i64 c])=.returned (.tuple #[.bool a',.int .i64 b',.int .i64 c']):=by rw[h,k,l]
theorem iF {a a' b b':Int} {c c':Bool} (h:a=a') (k:b=b') (l:c=c'):Ending.returned (.tuple #[.int .i64 a,.int .i64 b,.bool c])=.returned (.tuple #[.int .i64 a',.int .i64 b',.bool c']):=by rw[h,k,l]
theorem jM {n n':Bool} {a a' b b':Int} {c c':Bool} (g:n=n') (h:a=a') (k:b=b') (l:c=c'):Ending.returned (.tuple #[.bool n,.int .i64 a,.int .i64 b,.bool c])=.returned (.tuple #[.bool n',.int .i64 a',.int .i64 b',.bool c']):=by rw[g,h,k,l]
theorem lB (b:Int) (w:World) :
  Calls prog 87 #[.agg #[.int .i64 52,.int .i64 2047,.int .i64 (-1074)],.int .i64 b] w fun e w'=>e=.returned (.tuple #[.int .i64 (bk b),.int .i64 (bF b)])∧∃ n,w'=(w.alloc (.cells #[.int .i64 52,.int .i64 2047,.int .i64 (-1074)] 95)).drewN n:=by
 have h1:bits .and .i64 (b/4503599627370496) 2047=bk b:=o6 _
 have h2:bits .and .i64 b 4503599627370495=bF b:=qI _
 go_enter func87,ntmps87
 go_wp2
 go_quiet (fail)
 go_wp2
 go_ret2
 exact⟨rfl,_,rfl⟩
theorem yf (b:Int) (w:World) :
    Calls prog 105 #[.agg #[.int .i64 52,.int .i64 2047,.int .i64 (-1074)],.int .i64 b] w fun e w'=>e=.returned (.int .i64 (aD b))∧Gr w w':=by
  by_cases h1:bk b=2047<;>by_cases h2:bF b=0<;>by_cases h3:bk b=0
  all_goals first
    | (exfalso;omega)
    | (go_enter func105,ntmps105
       go_wp2_with (go_at_call 87;refine(lB _ _).mono ?_;rintro e w1 ⟨rfl,n,rfl⟩)
       go_ret
       exact ⟨bZ (by simp [aD,h1,h2,h3]),eQ (((Gr.refl _).alloc _ _).alloc _ _) _⟩)
theorem yh (b:Int) (w:World) :
  Calls prog 67 #[.agg #[.int .i64 52,.int .i64 2047,.int .i64 (-1074)],.int .i64 b] w fun e w'=>e=.returned (.tuple #[.int .i64 (bl b),.int .i64 (bJ b),.bool (aB b)])∧Gr w w':=by
 have hf:=iM b
 have hr:=gU b
 by_cases h1:bk b=2047
 ·go_enter func67,ntmps67
  go_wp2_with (go_at_call 87;refine(lB _ _).mono ?_;rintro e w1 ⟨rfl,n,rfl⟩)
  go_ret3
  exact⟨iF (by simp[bl,h1]) (by simp[bJ,h1]) (by simp[aB,h1]),eQ (((Gr.refl _).alloc _ _).alloc _ _) _⟩
 ·by_cases h2:bk b=0
  ·go_enter func67,ntmps67
   go_wp2_with (go_at_call 87;refine(lB _ _).mono ?_;rintro e w1 ⟨rfl,n,rfl⟩)
   go_quiet (fail)
   go_wp2
   go_ret3
   exact⟨iF (by simp[bl,h1,h2]) (by simp[bJ,h1,h2]) (by simp[aB,h1]),eQ (eQ (((Gr.refl _).alloc _ _).alloc _ _) _) _⟩
  ·go_enter func67,ntmps67
   go_wp2_with (go_at_call 87;refine(lB _ _).mono ?_;rintro e w1 ⟨rfl,n,rfl⟩)
   go_quiet (fail)
   go_wp2
   go_ret3
   exact⟨iF (by simp[bl,h1,h2]) (by simp[bJ,h1,h2];omega) (by simp[aB,h1]),eQ (eQ (((Gr.refl _).alloc _ _).alloc _ _) _) _⟩
theorem aS {a a':Int} {c c':Bool} (h:a=a') (l:c=c'):Ending.returned (.tuple #[.int .i64 a,.bool c])=.returned (.tuple #[.int .i64 a',.bool c']):=by rw[h,l]
def jN (w:World):Prop:=∀ j,j<64->w.cell? ⟨2,j,none⟩=some (.int .u8 ((Lib.deBruijn64tab.getD j 0:Nat):Int))
theorem jN.grown {w w':World} (h:jN w) (g:Gr w w'):jN w':=fun j hj=>oO g (h j hj)
theorem vU (x a:Nat) (hx:x<18446744073709551616) (hx0:x≠0) (hlow:x &&& (18446744073709551616-x)=a) :
  IntKind.u64.wrap (bits .and .u64 (x:Int) (IntKind.u64.wrap (-(x:Int)))*285870213051353865)/288230376151711744=((a*285870213051353865 % 18446744073709551616/288230376151711744:Nat):Int):=by
 have e1:IntKind.u64.wrap (-(x:Int))=((18446744073709551616-x:Nat):Int):=by rw[IntKind.wrap_u64];omega
 rw[e1,bits_and_u64_nat x _ hx (by omega),hlow,IntKind.wrap_u64]
 omega
theorem t8 (x k idx:Nat) (w:World) (hx0:((x:Int) == 0)=false)
  (aj:IntKind.u64.wrap (bits .and .u64 (x:Int) (IntKind.u64.wrap (-(x:Int)))*285870213051353865)/288230376151711744=(idx:Int))
  (hi:idx<64) (hk:k<64) (hcell:w.cell? ⟨2,idx,none⟩=some (.int .u8 k)) :
  Calls prog 131 #[.int .u64 x] w fun e w'=>e=.returned (.int .i64 k)∧w'=w:=by
 go_enter func131,ntmps131
 go_wp2_with (simp only[aj])
 go_ret
 exact⟨rfl,rfl⟩
theorem iA (x:Nat) (hx:x<18446744073709551616) (h0:x≠0) (w:World) (hT:jN w) :
  Calls prog 131 #[.int .u64 x] w fun e w'=>e=.returned (.int .i64 (Lib.ctz 64 x))∧w'=w:=by
 obtain⟨hlow,hk⟩:=Lib.lowest_bit 64 x h0 hx
 obtain⟨hi,htab⟩:=Lib.deBruijn64_at _ hk
 have hcell:=hT _ hi
 rw[htab] at hcell
 exact t8 x _ _ w (by simp;omega) (vU x _ hx h0 hlow) hi hk hcell
theorem cY (x q:Int) (s:Nat) (h:q.toNat<Lib.len8tab.size) (hq0:0<=q) (hq:q<=255) (hs:s<=56) (hb:Lib.bitLen x.toNat=s+Lib.bitLen q.toNat) :
  wrap64 ((s:Int)+wrap64 ((Lib.len8tab[q.toNat]'h).toNat:Int))=(Lib.bitLen x.toNat:Int):=by
 have e:=Lib.len8_of q hq0 hq
 have l:=Lib.bitLen_le8' q hq0 hq
 unfold Lib.len8 at e
 rw[getElem?_pos Lib.len8tab q.toNat h] at e
 simp only[Option.getD_some] at e
 rw[e,hb]
 unfold wrap64
 omega
theorem pB (x:Int) (h:x.toNat<Lib.len8tab.size) (hq0:0<=x) (hq:x<=255) :
  wrap64 (wrap64 ((Lib.len8tab[x.toNat]'h).toNat:Int))=(Lib.bitLen x.toNat:Int):=by
 have:=cY x x 0 h hq0 hq (by omega) (by omega)
 simpa using this
theorem gC (x q:Int) (s:Nat) (h0:0<=x) (h1:x<=18446744073709551615) (hx:((2^s:Nat):Int)<=x) (e:q=x/((2^s:Nat):Int)):Lib.bitLen x.toNat=s+Lib.bitLen q.toNat:=by
 rw[Lib.bitLen_shift s x.toNat (by omega) (by omega),e]
 congr 2
 obtain⟨n,rfl⟩:=Int.eq_ofNat_of_zero_le h0
 rw[<- Int.natCast_ediv,Int.toNat_natCast,Int.toNat_natCast]
theorem rC (x:Int) (w:World) (h0:0<=x) (h1:x<=18446744073709551615) :
  Calls prog 128 #[.int .u64 x] w fun e w'=>e=.returned (.int .i64 (Lib.bitLen x.toNat))∧w'=w:=by
 have hs:Lib.len8tab.size=256:=by decide +kernel
 go_enter func128,ntmps128
 go_wp2
 all_goals go_ret
 ·exact⟨bZ (cY x _ 56 _ (by omega) (by omega) (by omega) (gC x _ 56 h0 h1 (by omega) (by omega))),rfl⟩
 ·exact⟨bZ (cY x _ 48 _ (by omega) (by omega) (by omega) (gC x _ 48 h0 h1 (by omega) (by omega))),rfl⟩
 ·exact⟨bZ (cY x _ 40 _ (by omega) (by omega) (by omega) (gC x _ 40 h0 h1 (by omega) (by omega))),rfl⟩
 ·exact⟨bZ (cY x _ 32 _ (by omega) (by omega) (by omega) (gC x _ 32 h0 h1 (by omega) (by omega))),rfl⟩
 ·exact⟨bZ (cY x _ 24 _ (by omega) (by omega) (by omega) (gC x _ 24 h0 h1 (by omega) (by omega))),rfl⟩
 ·exact⟨bZ (cY x _ 16 _ (by omega) (by omega) (by omega) (gC x _ 16 h0 h1 (by omega) (by omega))),rfl⟩
 ·exact⟨bZ (cY x _ 8 _ (by omega) (by omega) (by omega) (gC x _ 8 h0 h1 (by omega) (by omega))),rfl⟩
 ·exact⟨bZ (pB x _ (by omega) (by omega)),rfl⟩
theorem BF (x:Int) (w:World) (h0:0<=x) (h1:x<=18446744073709551615):Calls prog 112 #[.int .u64 x] w fun e w'=>e=.returned (.int .i64 (Lib.bitLen x.toNat))∧w'=w:=by
 go_enter func112,ntmps112
 go_wp2_with (go_at_call 128;refine(rC x _ h0 h1).mono ?_;rintro _ _ ⟨rfl,rfl⟩)
 go_ret
 exact⟨rfl,rfl⟩
theorem yi (F:Nat) (ng:Bool) (mag:Nat) (exp size least:Int) (cut sd:Bool) (U:Nat) (E:Int) (other:Bool) (w:World) (hm:mag<18446744073709551616) (he:-4500000<=exp∧exp<=4500000) (hs:0<=size∧size<=64) (hl:-2000<=least∧least<=0) (hE:rE size least mag exp=E) (hU:U<9223372036854775808)
  (hC:∀ W,Calls prog 113 #[cv ng mag exp cut sd,.int .i64 E,.agg #[.func (.func F) #[] #[]]] W fun e w'=>e=.returned (.tuple #[.int .u64 (U:Nat),.bool other])∧Below W.heap.size W w') :
  Calls prog 90 #[cv ng mag exp cut sd,.int .i64 size,.int .i64 least,.agg #[.func (.func F) #[] #[]]] w fun e w'=>e=.returned (.tuple #[.bool (ng&&(decide (0<U)||sd)),.int .i64 (U:Nat),.int .i64 E,.bool other])∧Below w.heap.size w w':=by
 unfold cv at *
 have hb2:=ax w (.cells #[.bool ng,.int .u64 mag,.int .i64 exp,.bool cut,.bool sd] 104) (.cells #[.func (.func F) #[] #[]] 124)
 have q0:=bv w (.cells #[.bool ng,.int .u64 mag,.int .i64 exp,.bool cut,.bool sd] 104) (.cells #[.func (.func F) #[] #[]] 124)
 have q1:=bh w (.cells #[.bool ng,.int .u64 mag,.int .i64 exp,.bool cut,.bool sd] 104) (.cells #[.func (.func F) #[] #[]] 124)
 have k0:=ab q0 0 rfl
 have k1:=ab q0 1 rfl
 have k2:=ab q0 2 rfl
 have k3:=ab q0 3 rfl
 have k4:=ab q0 4 rfl
 have kw:=ab q1 0 rfl
 have hbl:Lib.bitLen mag<=64:=by
  by_cases h0:mag=0
  ·rw[h0];decide
  ·have e64:(2:Nat)^64=18446744073709551616:=by decide
   exact(M.dE mag (by omega) h0).2.2.2
 have HE:Hid (rE size least mag exp=E):=hE
 obtain⟨L,hL⟩:∃ L:Int,(Lib.bitLen mag:Int)=L:=⟨_,rfl⟩
 have hEL:max (exp+L-size) least=E:=by rw[<- hL];exact hE
 have hL2:(Lib.bitLen ((mag:Int)).toNat:Int)=L:=by rw[Int.toNat_natCast];exact hL
 have hL0:0<=L∧L<=64:=by omega
 have w1:IntKind.i64.wrap (exp+L)=exp+L:=by rw[aR];omega
 have w2:IntKind.i64.wrap (exp+L-size)=exp+L-size:=by rw[aR];omega
 have wU:IntKind.i64.wrap (U:Int)=(U:Int):=by rw[aR];omega
 clear hE
 have hmax:∀ (ts:Array TypeId) (t:TypeId) (x y:Int) (w:World),(Builtin.max_ ts t #[.int .i64 x,.int .i64 y]).run prog w=.ok (.int .i64 (max x y)) w:=fun ts t x y w=>by rw[run_max_int2];congr 2;omega
 go_enter func90,ntmps90
 go_wp2_with fail
 generalize (w.alloc (.cells #[.bool ng,.int .u64 mag,.int .i64 exp,.bool cut,.bool sd] 104)).alloc (.cells #[.func (.func F) #[] #[]] 124)=wx at hb2 q0 q1 k0 k1 k2 k3 k4 kw ⊢
 go_region_held3 (fun W=>W.cell? ⟨w.heap.size,2,none⟩=some (.int .i64 exp)∧W.cell? ⟨w.heap.size,1,none⟩=some (.int .u64 mag))
  (first|assumption|exact⟨k2,k1⟩)
  (first|(go_at_call 112;refine(BF _ _ (by omega) (by omega)).mono ?_;rintro _ _ ⟨rfl,rfl⟩))
 all_goals
  go_wp2_with fail
  refine(hC _).mono ?_
  rintro _ w3 ⟨rfl,hb3⟩
  have hdr:Below wx.heap.size wx wx.drew:=(aq wx).drew
  have hb3':=aa hdr hb3
  have hbw:=aa hb2 hb3'
  have p0:=(hb3'.block _ (aGe q0).1).trans q0
  have j0:=ab p0 0 rfl
  have j4:=ab p0 4 rfl
  clear hC hb3 hb3' hdr q0 q1 k0 k1 k2 k3 k4 kw
  cases ng
  ·go_wp2
   all_goals refine bodyPost_ret (v:=.tuple #[.bool false,.int .i64 (U:Nat),.int .i64 E,.bool other]) (by simp[results,results90,go_sem]) rfl ⟨by simp,hbw⟩
  ·by_cases hu0:U=0
   ·have hu1:¬ (0:Int)<(U:Int):=by omega
    have hd:decide (0<U)=false:=decide_eq_false (by omega)
    go_wp2
    all_goals refine bodyPost_ret (v:=.tuple #[.bool sd,.int .i64 (U:Nat),.int .i64 E,.bool other]) (by simp[results,results90,go_sem,hu0]) rfl ⟨by simp[hd],hbw⟩
   ·have hu1:(0:Int)<(U:Int):=by omega
    have hd:decide (0<U)=true:=decide_eq_true (by omega)
    go_wp2
    all_goals refine bodyPost_ret (v:=.tuple #[.bool true,.int .i64 (U:Nat),.int .i64 E,.bool other]) (by simp[results,results90,go_sem]) rfl ⟨by simp[hd],hbw⟩
theorem pC {p:Prop} (h:p):Hid p:=h
theorem i7 (mag:Int) (h0:0<mag) (h:mag<9223372036854775808) (w:World) (hT:jN w) :
  Calls prog 131 #[.int .u64 mag] w fun e w'=>e=.returned (.int .i64 (jz mag))∧w'=w:=by
 obtain⟨n,rfl⟩:=Int.eq_ofNat_of_zero_le (Int.le_of_lt h0)
 exact iA n (by omega) (by omega) w hT
theorem mC (mag:Int) (w:World) (h0:1<=jo mag) (h1:jo mag<=mag) (h:mag<9223372036854775808) :
  Calls prog 128 #[.int .u64 (jo mag)] w fun e w'=>e=.returned (.int .i64 (jl mag))∧w'=w :=
 rC (jo mag) w (by omega) (by omega)
theorem mD (exp:Int) (w:World) (h:au exp) :
  Calls prog 130 #[.agg #[.int .i64 52,.int .i64 2047,.int .i64 (-1074)],.int .i64 exp] w fun e w'=>e=.returned (.bool (decide (1025<exp)))∧w'=w.alloc (.cells #[.int .i64 52,.int .i64 2047,.int .i64 (-1074)] 95):=by
 unfold au at h
 go_enter func130,ntmps130
 go_wp2
 go_ret
 exact⟨rfl,rfl⟩
theorem Ac (mag exp:Int) (w:World) (hT:jN w) (hm:au mag) (he:au exp) :
  Calls prog 114 #[.agg #[.int .i64 52,.int .i64 2047,.int .i64 (-1074)],.int .i64 mag,.int .i64 exp] w fun e w'=>e=.returned (.tuple #[.int .i64 (jv 52 2047 (-1074) mag exp),.bool (jk 52 2047 (-1074) mag exp)])∧Gr w w':=by
 have he0:=he
 unfold au at hm he
 rcases Int.lt_trichotomy mag 0 with h|h|h
 ·have hn:(mag == 0)=false:=by simp;omega
  go_enter func114,ntmps114
  go_wp2
  go_ret2
  exact⟨aS (by simp[jv];omega) (by simp[jk];omega),(Gr.refl _).alloc _ _⟩
 ·subst h
  go_enter func114,ntmps114
  go_wp2
  go_ret2
  exact⟨aS (by simp[jv]) (by simp[jk]),(Gr.refl _).alloc _ _⟩
 ·have hn:(mag == 0)=false:=by simp;omega
  have hz:=eG h hm.2
  by_cases hf:1025<exp
  ·have hk:=pC (nT h hm.2 hf)
   go_enter func114,ntmps114
   go_wp2_with (go_at_call 130;refine(mD _ _ he0).mono ?_;rintro e w1 ⟨rfl,rfl⟩)
   go_ret2
   exact⟨aS (by simp[jv,hk.out]) (by simp[jk,hk.out];omega),((Gr.refl _).alloc _ _).alloc _ _⟩
  ·obtain⟨m,-,hz63,-⟩:=hz
   have hj:=i6 h hm.2
   have hL:=lz h hm.2
   have eo:mag/2^jz mag=jo mag:=rfl
   by_cases s1:53-jl mag<0
   ·have hk:Hid (bI 52 2047 (-1074) mag exp=false):=by unfold Hid bI eM;simp;omega
    go_enter func114,ntmps114
    go_wp2_with (go_at_call 130;refine(mD _ _ he0).mono ?_;rintro e w1 ⟨rfl,rfl⟩)
    refine(i7 mag h hm.2 _ (hT.grown (((Gr.refl _).alloc _ _).alloc _ _))).mono ?_
    rintro e w1 ⟨rfl,rfl⟩
    go_wp2
    go_quiet ((go_at_call 128;exact Calls.quiet_of_same (mC _ _ hj.1 hj.2 hm.2)))
    go_wp2
    go_ret2
    exact⟨aS (by simp[jv,hk.out]) (by simp[jk,hk.out];omega),eQ (((Gr.refl _).alloc _ _).alloc _ _) _⟩
   ·by_cases s2:exp+jz mag < -1074
    ·have hk:Hid (bI 52 2047 (-1074) mag exp=false):=by unfold Hid bI eM;simp;omega
     go_enter func114,ntmps114
     go_wp2_with (go_at_call 130;refine(mD _ _ he0).mono ?_;rintro e w1 ⟨rfl,rfl⟩)
     refine(i7 mag h hm.2 _ (hT.grown (((Gr.refl _).alloc _ _).alloc _ _))).mono ?_
     rintro e w1 ⟨rfl,rfl⟩
     go_wp2
     go_quiet ((go_at_call 128;exact Calls.quiet_of_same (mC _ _ hj.1 hj.2 hm.2)))
     go_wp2
     go_ret2
     exact⟨aS (by simp[jv,hk.out]) (by simp[jk,hk.out];omega),eQ (((Gr.refl _).alloc _ _).alloc _ _) _⟩
    ·obtain⟨s,hs⟩:∃ s:Nat,min (53-jl mag) (exp+↑(jz mag)+1074)=(s:Int):=⟨(min (53-jl mag) (exp+↑(jz mag)+1074)).toNat,by omega⟩
     have hsl:(s:Int)<=52:=by omega
     have hsj:Hid (b6 52 (-1074) mag exp=s):=by unfold Hid b6 eM;omega
     by_cases s3:2045<exp+↑(jz mag) - ↑s+1074
     ·have hk:Hid (bI 52 2047 (-1074) mag exp=false):=by unfold Hid bI fz;rw[hsj.out];simp;omega
      go_enter func114,ntmps114
      go_wp2_with (go_at_call 130;refine(mD _ _ he0).mono ?_;rintro e w1 ⟨rfl,rfl⟩)
      refine(i7 mag h hm.2 _ (hT.grown (((Gr.refl _).alloc _ _).alloc _ _))).mono ?_
      rintro e w1 ⟨rfl,rfl⟩
      go_wp2
      go_quiet ((go_at_call 128;exact Calls.quiet_of_same (mC _ _ hj.1 hj.2 hm.2)))
      go_wp2
      go_ret2
      exact⟨aS (by simp[jv,hk.out]) (by simp[jk,hk.out];omega),eQ (((Gr.refl _).alloc _ _).alloc _ _) _⟩
     ·have hk:Hid (bI 52 2047 (-1074) mag exp=true):=by unfold Hid bI fz eM;rw[hsj.out];simp;omega
      have hb:=gW (fr:=52) h hm.2 (by omega) s (by unfold eM;omega)
      have hb2:jo mag*2^s<9007199254740992:=hb.2
      have hb1:=hb.1
      clear hb
      go_enter func114,ntmps114
      go_wp2_with (go_at_call 130;refine(mD _ _ he0).mono ?_;rintro e w1 ⟨rfl,rfl⟩)
      refine(i7 mag h hm.2 _ (hT.grown (((Gr.refl _).alloc _ _).alloc _ _))).mono ?_
      rintro e w1 ⟨rfl,rfl⟩
      go_wp2
      go_quiet ((go_at_call 128;exact Calls.quiet_of_same (mC _ _ hj.1 hj.2 hm.2)))
      go_wp2
      go_quiet (fail)
      go_wp2
      go_ret2
      refine⟨aS ?_ (by simp[jk,hk.out];omega),eQ (eQ (((Gr.refl _).alloc _ _).alloc _ _) _) _⟩
      unfold jv fz
      rw[if_neg (by omega),if_pos hk.out,hsj.out]
      rfl
structure kH (w:World):Prop where
 lays:eI w
 tab:jN w
theorem kH.grown {w w':World} (h:kH w) (g:Gr w w'):kH w':=⟨h.lays.grown g,h.tab.grown g⟩
theorem vV (neg:Bool) (mag exp:Int) (w:World) (E:kH w) (hm:au mag) (he:au exp) :
  Calls prog 91 #[.bool neg,.int .i64 mag,.int .i64 exp] w fun e w'=>e=.returned (.tuple #[.int .i64 (jp neg mag exp),.bool (jk 52 2047 (-1074) mag exp)])∧Gr w w':=by
 have hT:=E.tab
 obtain⟨a0,a1,a2,b0,b1,b2⟩:=E.lays
 have hb:=xD (mag:=mag) (exp:=exp) hm
 have ho:=qJ (jv 52 2047 (-1074) mag exp) (by omega) (by omega)
 have Ho:=pC ho
 clear ho
 cases hk:jk 52 2047 (-1074) mag exp
 all_goals
  have HK:=pC hk
  cases neg
  all_goals
   go_enter func91,ntmps91
   go_wp2_with (go_at_call 114;refine(Ac _ _ _ hT hm he).mono ?_;rintro e w1 ⟨rfl,hg⟩)
   go_ret2
   exact⟨aS (by simp[jp,HK.out,Ho.out]) (by simp[HK.out]),hg⟩
end Go.Proofs.YtkkpppgfoilgmaaGreatDoor
namespace Go.Proofs.YtkkpppgfoilgmaaGreatDoor.M
open Go Go.Proofs.Tryz
theorem rD {x y:Int} (hx:0<=x∧x<1073741824) (hy:0<=y∧y<1073741824):0<=x*y∧x*y<=1152921502459363329:=by
 refine⟨Int.mul_nonneg hx.1 hy.1,?_⟩
 have h1:x*y<=1073741823*y:=Int.mul_le_mul_of_nonneg_right (by omega) hy.1
 omega
theorem jO (n:Nat):aO (fun _=>0) n:=fun i _=>⟨Int.le_refl 0,show(0:Int)<1073741824 by decide⟩
theorem fk (x:Int):0<=x % 1073741824∧x % 1073741824<1073741824:=by omega
theorem cM {r:Nat->Int} {k:Nat} {c x V:Int} (h:val r k+c*P k=V):val (bK r k ((c+x) % 1073741824)) (k+1)+(c+x)/1073741824*P (k+1)=V+x*P k:=by
 rw[aI,iy r _ (Nat.le_refl k),a6,eD,sP,h]
theorem pD {r r0 b:Nat->Int} {i j:Nat} {c ai:Int} (h:val r (i+j)+c*P (i+j)=val r0 (i+j)+ai*val b j*P i) (hr:r (i+j)=r0 (i+j)) :
  val (bK r (i+j) ((c+(ai*b j+r (i+j))) % 1073741824)) (i+(j+1))+(c+(ai*b j+r (i+j)))/1073741824*P (i+(j+1))=val r0 (i+(j+1))+ai*val b (j+1)*P i:=by
 have e:=cM (x:=ai*b j+r (i+j)) h
 rw[<- Nat.add_assoc,e,aI,aI,i4,hr]
 grind
theorem rG {r r0 b:Nat->Int} {i m:Nat} {c ai A:Int} (h:val r (i+m)+c*P (i+m)=val r0 (i+m)+ai*val b m*P i) (h0:val r0 (i+m)=A*val b m) :
  val (bK r (i+m) c) (i+1+m)=(A+ai*P i)*val b m:=by
 rw[show i+1+m=i+m+1 by omega,aI,a6,iy r _ (Nat.le_refl _),h,h0]
 grind
theorem ed {d:Nat->Int} {n t:Nat} (hd:aO d n) (ht:t<=n) (htop:kF d t) (hz:∀ i,t<=i->i<n->d i=0):bt d t∧val d t=val d n :=
 ⟨⟨hd.le ht,htop⟩,(cB ht hz).symm⟩
theorem rH {d e:Nat->Int} {n k:Nat} (hd:aO d n) (he:aO e n) (hk:k<n) (hs:∀ i,k<i->i<n->d i=e i) (hlt:d k<e k):val d n<val e n:=by
 have s1:=cA d (k+1) (n-(k+1))
 have s2:=cA e (k+1) (n-(k+1))
 rw[show k+1+(n-(k+1))=n by omega] at s1 s2
 have e1:val (fun i=>d (k+1+i)) (n-(k+1))=val (fun i=>e (k+1+i)) (n-(k+1)):=dr fun i hi=>hs _ (by omega) (by omega)
 rw[s1,s2,e1,aI,aI]
 have a:=bz (hd.le (show k<=n by omega))
 have b:=aJ (he.le (show k<=n by omega))
 have c:(d k+1)*P k<=e k*P k:=Int.mul_le_mul_of_nonneg_right (by omega) (Int.le_of_lt (bp k))
 rw[Int.add_mul] at c
 omega
def bq (a b:Int):Int:=if a<b then -1 else if b<a then 1 else 0
theorem cF {a b:Int} (h:a<b):bq a b=-1:=by simp[bq,h]
theorem cG {a b:Int} (h:b<a):bq a b=1:=by simp[bq,h];omega
theorem eE {a b:Int} (h:a=b):bq a b=0:=by simp[bq,h]
end Go.Proofs.YtkkpppgfoilgmaaGreatDoor.M
namespace Go.Proofs.YtkkpppgfoilgmaaGreatDoor
open Go Go.Proofs.Tryz Go.RowKit Go.Proofs.YtkkpppgfoilgmaaGreatDoor.M
instance (d:Nat->Int) (n:Nat):Decidable (aO d n):=by unfold aO;infer_instance
instance (d:Nat->Int) (n:Nat):Decidable (kF d n):=by unfold kF;infer_instance
instance (d:Nat->Int) (n:Nat):Decidable (bt d n):=by unfold bt;infer_instance
def kQ (d:Nat->Int) (n:Nat):Bool:=decide (n<=2000∧bt d n)
theorem iG {d:Nat->Int} {n:Nat} (h:n<=2000) (k:bt d n):kQ d n=true:=by simp[kQ,h,k]
theorem gZ {d:Nat->Int} {n:Nat} (h:¬ (n<=2000∧bt d n)):kQ d n=false:=by simp only[kQ,h,decide_false]
theorem yj {d:Nat->Int} {n:Nat} (h:kQ d n=true):n<=2000∧bt d n:=of_decide_eq_true h
theorem a7 {a b:Bool} (h:a=b):Ending.returned (.bool a)=.returned (.bool b):=by rw[h]
theorem bS {k:IntKind} {a b:Int} (h:a=b):Ending.returned (.int k a)=.returned (.int k b):=by rw[h]
theorem l8 {d:Nat->Int} {k:Nat} (h:aO d k) (h0:0<=d k) (h1:d k<1073741824):aO d (k+1):=fun i hi=>by
 by_cases e:i=k
 ·rw[e];exact⟨h0,h1⟩
 ·exact h i (by omega)
theorem t9 (ao:Option Addr) (n cap:Nat) (d:Nat->Int) (w:World) (h:aG w ao n cap d) :
  Calls prog 111 #[.slice ao n cap] w fun e w'=>e=.returned (.bool (kQ d n))∧w'=w:=by
 have hl:=h.le
 have hm:=h.max
 by_cases h2k:n<=2000
 ·go_enter func111,ntmps111
  go_wp2
  go_loop [9] (fun i=>∃ k:Nat,k<=n∧i=.int .i64 k∧aO d k) (fun i=>n-(intOf i).toNat)
  case atStart=>exact⟨0,Nat.zero_le _,rfl,fun i hi=>absurd hi (by omega)⟩
  case round=>
   obtain⟨k,hk,rfl,hd⟩:=hrel
   by_cases hlt:k<n
   ·obtain⟨b,off,rfl,hb,hc⟩:=h.spot (by omega)
    have c:=hc k hlt
    by_cases h0:d k<0
    ·go_wp2
     go_ret
     exact⟨a7 (gZ (fun ⟨_,q⟩=>by have:=(q.1 k hlt).1;omega)).symm,rfl⟩
    ·by_cases h1:1073741823<d k
     ·go_wp2
      go_ret
      exact⟨a7 (gZ (fun ⟨_,q⟩=>by have:=(q.1 k hlt).2;omega)).symm,rfl⟩
     ·go_wp2
      go_round
      case rel=>exact⟨k+1,by omega,by go_num,l8 hd (by omega) (by omega)⟩
      case measure=>simp[intOf];omega
   ·obtain rfl:k=n:=by omega
    by_cases h0:k=0
    ·subst h0
     go_wp2
     go_ret
     exact⟨a7 (iG h2k ⟨hd,.inl rfl⟩).symm,rfl⟩
    ·obtain⟨b,off,rfl,hb,hc⟩:=h.spot (by omega)
     have c:=hc (k-1) (by omega)
     by_cases h1:d (k-1)=0
     ·go_wp2
      go_ret
      exact⟨a7 ((show _=false by simp;omega).trans (gZ (fun ⟨_,q⟩=>by rcases q.2 with e|e<;>omega)).symm),rfl⟩
     ·go_wp2
      go_ret
      exact⟨a7 ((show _=true by simp;omega).trans (iG h2k ⟨hd,.inr h1⟩).symm),rfl⟩
 ·go_enter func111,ntmps111
  go_wp2
  go_ret
  exact⟨a7 (gZ (fun ⟨q,_⟩=>h2k q)).symm,rfl⟩
theorem gD (ao:Option Addr) (n cap:Nat) (d:Nat->Int) (w:World) (h:aG w ao n cap d) :
  Calls prog 144 #[.slice ao n cap] w fun e w'=>∃ t:Nat,t<=n∧kF d t∧(∀ i,t<=i->i<n->d i=0)∧e=.returned (jh ao t cap)∧w'=w:=by
 have hl:=h.le
 have hm:=h.max
 go_enter func144,ntmps144
 go_wp2
 go_loop [3] (fun i=>∃ k:Nat,k<=n∧i=.int .i64 k∧∀ i,k<=i->i<n->d i=0) (fun i=>(intOf i).toNat)
 case atStart=>exact⟨n,Nat.le_refl _,rfl,fun i a b=>by omega⟩
 case round=>
  obtain⟨k,hk,rfl,hz⟩:=hrel
  have HZ:Hid (∀ i,k<=i->i<n->d i=0):=hz
  clear hz
  by_cases h0:k=0
  ·subst h0
   go_wp2
   go_ret
   exact⟨0,by omega,.inl rfl,HZ.out,rfl,rfl⟩
  ·obtain⟨b,off,rfl,hb,hc⟩:=h.spot (by omega)
   have c:=hc (k-1) (by omega)
   by_cases h1:d (k-1)=0
   ·go_wp2
    go_round
    case rel=>exact⟨k-1,by omega,by go_num,fun i a b=>by by_cases e:i=k-1;(· rw[e];exact h1);(· exact HZ.out i (by omega) b)⟩
    case measure=>simp[intOf];omega
   ·go_wp2
    go_ret
    exact⟨k,hk,.inr h1,HZ.out,by unfold jh;rw[if_neg h0];simp,rfl⟩
end Go.Proofs.YtkkpppgfoilgmaaGreatDoor
namespace Go.Proofs.YtkkpppgfoilgmaaGreatDoor.M
open Go Go.Proofs.Tryz
def aC (V:Int):Nat:=if V<=0 then 0 else Nat.log2 V.toNat+1
theorem kR:aC 0=0:=by decide
theorem gE (V:Int):V<2^aC V:=by
 unfold aC
 split
 ·show V<1;omega
 ·have h:=@Nat.lt_log2_self V.toNat
  have e:((V.toNat:Nat):Int)<((2^(Nat.log2 V.toNat+1):Nat):Int):=Int.ofNat_lt.2 h
  rw[Int.toNat_of_nonneg (by omega)] at e
  simpa using e
theorem fK {V:Int} (h:0<V):1<=aC V∧2^(aC V-1)<=V:=by
 unfold aC
 rw[if_neg (by omega)]
 refine⟨by omega,?_⟩
 have h1:=Nat.log2_self_le (n:=V.toNat) (by omega)
 have e:((2^Nat.log2 V.toNat:Nat):Int)<=((V.toNat:Nat):Int):=Int.ofNat_le.2 h1
 rw[Int.toNat_of_nonneg (by omega)] at e
 simpa using e
theorem dt {j k:Nat} (h:(2:Int)^j<2^k):j<k:=by
 rcases Nat.lt_or_ge j k with h1|h1
 ·exact h1
 ·have:=cc h1;omega
theorem cw {V:Int} {k:Nat} (h:V<2^k):aC V<=k:=by
 by_cases h0:0<V
 ·obtain⟨h1,h2⟩:=fK h0
  have:=dt (show(2:Int)^(aC V-1)<2^k by omega)
  omega
 ·unfold aC;rw[if_pos (by omega)];omega
theorem m9 {V:Int} {k:Nat} (h:2^k<=V):k<aC V:=by
 have h1:=gE V
 exact dt (by omega)
theorem jy {V:Int} {k:Nat} (h1:2^k<=V) (h2:V<2^(k+1)):aC V=k+1:=by
 have a:=m9 h1
 have b:=cw h2
 omega
theorem ua {x:Int} (h0:0<=x) (h1:x<18446744073709551616):(Lib.bitLen x.toNat:Int)=aC x:=by
 by_cases hx:x=0
 ·subst hx;decide
 ·obtain⟨a,b,c⟩:=Lib.bitLenAux_bounds 64 x.toNat (by omega) (by omega)
  have e:aC x=Lib.bitLen x.toNat:=by
   have hb:Lib.bitLen x.toNat=Lib.bitLenAux 64 x.toNat:=rfl
   rw[<- hb] at a b c
   obtain⟨k,hk⟩:∃ k,Lib.bitLen x.toNat=k+1:=⟨Lib.bitLen x.toNat-1,by omega⟩
   rw[hk] at b c ⊢
   have b':((2^k:Nat):Int)<=((x.toNat:Nat):Int):=Int.ofNat_le.2 (by simpa using b)
   have c':((x.toNat:Nat):Int)<((2^(k+1):Nat):Int):=Int.ofNat_lt.2 c
   rw[Int.toNat_of_nonneg h0] at b' c'
   exact jy (by simpa using b') (by simpa using c')
  rw[e]
theorem l9 {d:Nat->Int} {n:Nat} (h:bt d (n+1)):aC (val d (n+1))=30*n+aC (d n):=by
 have hd:=h.1 n (by omega)
 have ht:d n≠0:=by rcases h.2 with e|e;(· omega);(· simpa using e)
 have hp:0<d n:=by omega
 obtain⟨a,b⟩:=fK hp
 have c:=gE (d n)
 have v0:=aJ (h.1.le (Nat.le_succ n))
 have v1:=bz (h.1.le (Nat.le_succ n))
 have pp:=bp n
 obtain⟨k,hk⟩:∃ k,aC (d n)=k+1:=⟨aC (d n)-1,by omega⟩
 rw[hk] at b c ⊢
 rw[show 30*n+(k+1)=(30*n+k)+1 by omega]
 have e1:(2:Int)^(30*n+k)=2^k*P n:=by rw[Int.pow_add,cr,Int.mul_comm]
 have e2:(2:Int)^(30*n+k+1)=2^(k+1)*P n:=by rw[show 30*n+k+1=30*n+(k+1) by omega,Int.pow_add,cr,Int.mul_comm]
 have f1:(2:Int)^k*P n<=d n*P n:=Int.mul_le_mul_of_nonneg_right (by simpa using b) (by omega)
 have f2:(d n+1)*P n<=2^(k+1)*P n:=Int.mul_le_mul_of_nonneg_right (by omega) (by omega)
 rw[Int.add_mul] at f2
 apply jy
 ·rw[e1,aI];omega
 ·rw[e2,aI];omega
end Go.Proofs.YtkkpppgfoilgmaaGreatDoor.M
namespace Go.Proofs.YtkkpppgfoilgmaaGreatDoor
open Go Go.Proofs.Tryz Go.RowKit Go.Proofs.YtkkpppgfoilgmaaGreatDoor.M
theorem dX (x q:Int) (s:Nat) (h:q.toNat<Lib.len8tab.size) (hq0:0<=q) (hq:q<=255) (hs:s<=56) (hb:Lib.bitLen x.toNat=s+Lib.bitLen q.toNat) :
  wrap64 ((s:Int)+wrap64 ((Lib.len8tab[q.toNat]'h).toNat:Int))=(Lib.bitLen x.toNat:Int):=by
 have e:=Lib.len8_of q hq0 hq
 have l:=Lib.bitLen_le8' q hq0 hq
 unfold Lib.len8 at e
 rw[getElem?_pos Lib.len8tab q.toNat h] at e
 simp only[Option.getD_some] at e
 rw[e,hb]
 unfold wrap64
 omega
theorem sX (x:Int) (h:x.toNat<Lib.len8tab.size) (hq0:0<=x) (hq:x<=255) :
  wrap64 (wrap64 ((Lib.len8tab[x.toNat]'h).toNat:Int))=(Lib.bitLen x.toNat:Int):=by
 have:=dX x x 0 h hq0 hq (by omega) (by omega)
 simpa using this
theorem jP (x q:Int) (s:Nat) (h0:0<=x) (h1:x<=18446744073709551615) (hx:((2^s:Nat):Int)<=x) (e:q=x/((2^s:Nat):Int)):Lib.bitLen x.toNat=s+Lib.bitLen q.toNat:=by
 rw[Lib.bitLen_shift s x.toNat (by omega) (by omega),e]
 congr 2
 obtain⟨n,rfl⟩:=Int.eq_ofNat_of_zero_le h0
 rw[<- Int.natCast_ediv,Int.toNat_natCast,Int.toNat_natCast]
theorem BG (x:Int) (w:World) (h0:0<=x) (h1:x<=18446744073709551615) :
  Calls prog 128 #[.int .u64 x] w fun e w'=>e=.returned (.int .i64 (Lib.bitLen x.toNat))∧w'=w:=by
 have hs:Lib.len8tab.size=256:=by decide +kernel
 go_enter func128,ntmps128
 go_wp2
 all_goals go_ret
 ·exact⟨bS (dX x _ 56 _ (by omega) (by omega) (by omega) (jP x _ 56 h0 h1 (by omega) (by omega))),rfl⟩
 ·exact⟨bS (dX x _ 48 _ (by omega) (by omega) (by omega) (jP x _ 48 h0 h1 (by omega) (by omega))),rfl⟩
 ·exact⟨bS (dX x _ 40 _ (by omega) (by omega) (by omega) (jP x _ 40 h0 h1 (by omega) (by omega))),rfl⟩
 ·exact⟨bS (dX x _ 32 _ (by omega) (by omega) (by omega) (jP x _ 32 h0 h1 (by omega) (by omega))),rfl⟩
 ·exact⟨bS (dX x _ 24 _ (by omega) (by omega) (by omega) (jP x _ 24 h0 h1 (by omega) (by omega))),rfl⟩
 ·exact⟨bS (dX x _ 16 _ (by omega) (by omega) (by omega) (jP x _ 16 h0 h1 (by omega) (by omega))),rfl⟩
 ·exact⟨bS (dX x _ 8 _ (by omega) (by omega) (by omega) (jP x _ 8 h0 h1 (by omega) (by omega))),rfl⟩
 ·exact⟨bS (sX x _ (by omega) (by omega)),rfl⟩
theorem yk (x:Int) (w:World) (h0:0<=x) (h1:x<=18446744073709551615) :
  Calls prog 112 #[.int .u64 x] w fun e w'=>e=.returned (.int .i64 (aC x))∧w'=w:=by
 go_enter func112,ntmps112
 go_wp2_with (go_at_call 128;refine(BG _ _ (by omega) (by omega)).mono ?_;rintro e w' ⟨rfl,rfl⟩)
 go_ret
 exact⟨bS (ua h0 (by omega)),rfl⟩
theorem ub (x:Int) (w:World) (h0:0<=x) (h1:x<9223372036854775808) :
  Calls prog 132 #[.int .i64 x] w fun e w'=>e=.returned (.int .i64 (aC x))∧w'=w:=by
 go_enter func132,ntmps132
 go_wp2_with (go_at_call 112;refine(yk _ _ (by omega) (by omega)).mono ?_;rintro e w' ⟨rfl,rfl⟩)
 go_ret
 exact⟨rfl,rfl⟩
theorem ik (ao:Option Addr) (n cap:Nat) (d:Nat->Int) (w:World) (h:aG w ao n cap d) (hd:bt d n) (hn:n<=1000000) :
  Calls prog 115 #[.slice ao n cap] w fun e w'=>e=.returned (.int .i64 (aC (val d n)))∧w'=w:=by
 have hl:=h.le
 have hm:=h.max
 by_cases h0:n=0
 ·subst h0
  go_enter func115,ntmps115
  go_wp2
  go_ret
  exact⟨rfl,rfl⟩
 ·obtain⟨k,rfl⟩:∃ k,n=k+1:=⟨n-1,by omega⟩
  obtain⟨b,off,rfl,hb,hc⟩:=h.spot (by omega)
  have c:=hc k (by omega)
  have dk:=hd.1 k (by omega)
  have hbl:aC (d k)<=30:=cw (by show d k<1073741824;exact dk.2)
  go_enter func115,ntmps115
  go_wp2_with (go_at_call 132;refine(ub _ _ (by omega) (by omega)).mono ?_;rintro e w' ⟨rfl,rfl⟩)
  go_ret
  exact⟨bS (by rw[l9 hd];omega),rfl⟩
end Go.Proofs.YtkkpppgfoilgmaaGreatDoor
namespace Go.Proofs.YtkkpppgfoilgmaaGreatDoor.M
open Go Go.Proofs.Tryz
theorem b5 {a b c:Int} (h:a<=b) (hc:0<=c):a*c<=b*c:=Int.mul_le_mul_of_nonneg_right h hc
theorem eR {a b c:Int} (h:a<=b) (hc:0<=c):c*a<=c*b:=Int.mul_le_mul_of_nonneg_left h hc
theorem sY {U V p v1 v2 vl head u2 ul times left:Int} (hV:V=(v1*1073741824+v2)*p+vl) (hvl:vl<p) (hv2:v2<1073741824) (hU:U=(head*1073741824+u2)*p+ul) (hul:0<=ul) (hu2:0<=u2)
  (hp:0<p) (hh:head=times*v1+left) (ht:0<=times) (ht2:times<1073741824) (h:1073741824<=left):times*V<=U:=by
 have h0:v2*p<=1073741823*p:=b5 (by omega) (by omega)
 have e0:(v1+1)*(1073741824*p)=v1*1073741824*p+1073741823*p+p:=by grind
 have e1:V=v1*1073741824*p+v2*p+vl:=by rw[hV];grind
 have h1:times*V<=times*((v1+1)*(1073741824*p)):=eR (by omega) ht
 have h2:(times*v1+times)*(1073741824*p)<=head*(1073741824*p):=b5 (by omega) (by omega)
 have h3:0<=u2*p:=Int.mul_nonneg hu2 (by omega)
 have e2:U=head*(1073741824*p)+u2*p+ul:=by rw[hU];grind
 have e3:times*((v1+1)*(1073741824*p))=(times*v1+times)*(1073741824*p):=by grind
 omega
theorem qO {U V p v1 v2 vl head u2 ul times left:Int} (hV:V=(v1*1073741824+v2)*p+vl) (hvl0:0<=vl) (hvl:vl<p) (hv1:1<=v1) (hv2:0<=v2) (hU:U=(head*1073741824+u2)*p+ul) (hul:0<=ul)
  (hp:0<p) (hh:head=times*v1+left) (ht:0<=times) (ht2:times<1073741824) (h:times*v2<=left*1073741824+u2):(times-1)*V<=U:=by
 have h1:times*vl<=times*p:=eR (by omega) ht
 have h2:times*v2*p<=(left*1073741824+u2)*p:=b5 h (by omega)
 have h3:times*p<=1073741824*p:=b5 (by omega) (by omega)
 have h4:1*(1073741824*p)<=v1*(1073741824*p):=b5 hv1 (by omega)
 have h5:0<=v2*p:=Int.mul_nonneg hv2 (by omega)
 have e0:V=v1*(1073741824*p)+v2*p+vl:=by rw[hV];grind
 have e1:(times-1)*V=times*v1*1073741824*p+times*v2*p+times*vl-V:=by rw[hV];grind
 have e2:U=times*v1*1073741824*p+(left*1073741824+u2)*p+ul:=by rw[hU,hh];grind
 omega
structure jQ (x0 y0 x y fA fB nA nB sg:Int):Prop where
 sgn:sg=1∨sg=-1
 ex:x=sg*(fA*x0-fB*y0)
 ey:y=sg*(nB*y0-nA*x0)
 det:fA*nB-fB*nA=sg
 fA0:0<=fA
 fB0:0<=fB
 nA0:0<=nA
 nB1:1<=nB
theorem jQ.start (x0 y0:Int):jQ x0 y0 x0 y0 1 0 0 1 1:=⟨.inl rfl,by omega,by omega,by omega,by omega,by omega,by omega,by omega⟩
theorem jQ.step {x0 y0 x y fA fB nA nB sg:Int} (h:jQ x0 y0 x y fA fB nA nB sg) {q:Int} (hq:1<=q) :
  jQ x0 y0 y (x-q*y) nA nB (fA+q*nA) (fB+q*nB) (-sg):=by
 have h1:=Int.mul_nonneg (show 0<=q by omega) h.nA0
 have h2:1*nB<=q*nB:=b5 hq (by have:=h.nB1;omega)
 have hf:=h.fA0
 have hg:=h.fB0
 have hn:=h.nB1
 refine⟨by rcases h.sgn with e|e<;>omega,?_,?_,?_,h.nA0,by omega,by omega,by omega⟩
 ·rw[h.ey];grind
 ·rw[h.ey,h.ex];grind
 ·have:=h.det;grind
theorem jQ.whole {x0 y0 x y fA fB nA nB sg S al be:Int} (h:jQ x0 y0 x y fA fB nA nB sg) (hS:0<S) (ha0:0<=al) (ha:al<S) (hb0:0<=be) (hb:be<S)
  (hab:nA<=nB) (hfb:fA<=fB) (hy:nB<=y) (hx:nB+fB<=x-y) :
  0<sg*(nB*(y0*S+be)-nA*(x0*S+al))∧sg*(nB*(y0*S+be)-nA*(x0*S+al))<sg*(fA*(x0*S+al)-fB*(y0*S+be)):=by
 have hn:=h.nB1
 have hf:=h.fB0
 have k1:nB*be<=nB*(S-1):=eR (by omega) (by omega)
 have k2:nA*al<=nA*(S-1):=eR (by omega) h.nA0
 have k3:nA*(S-1)<=nB*(S-1):=b5 hab (by omega)
 have k4:0<=nB*be:=Int.mul_nonneg (by omega) hb0
 have k5:0<=nA*al:=Int.mul_nonneg h.nA0 ha0
 have k6:nB*S<=y*S:=b5 hy (by omega)
 have k7:(nB+fB)*S<=(x-y)*S:=b5 hx (by omega)
 have m1:fB*be<=fB*(S-1):=eR (by omega) hf
 have m2:fA*al<=fA*(S-1):=eR (by omega) h.fA0
 have m3:fA*(S-1)<=fB*(S-1):=b5 hfb (by omega)
 have m4:0<=fB*be:=Int.mul_nonneg hf hb0
 have m5:0<=fA*al:=Int.mul_nonneg h.fA0 ha0
 have ex:=h.ex
 have ey:=h.ey
 have e1:nB*(y0*S+be)-nA*(x0*S+al)=(nB*y0-nA*x0)*S+nB*be-nA*al:=by grind
 have e2:fA*(x0*S+al)-fB*(y0*S+be)=(fA*x0-fB*y0)*S+fA*al-fB*be:=by grind
 have e3:nB*(S-1)=nB*S-nB:=by grind
 have e4:fB*(S-1)=fB*S-fB:=by grind
 have e5:(nB+fB)*S=nB*S+fB*S:=by grind
 have e6:(x-y)*S=x*S-y*S:=by grind
 rw[e1,e2]
 rcases h.sgn with rfl|rfl
 ·have e7:(nB*y0-nA*x0)*S=y*S:=by rw[ey];grind
  have e8:(fA*x0-fB*y0)*S=x*S:=by rw[ex];grind
  constructor<;>omega
 ·have e7:(nB*y0-nA*x0)*S=- (y*S):=by rw[ey];grind
  have e8:(fA*x0-fB*y0)*S=- (x*S):=by rw[ex];grind
  constructor<;>omega
end Go.Proofs.YtkkpppgfoilgmaaGreatDoor.M
namespace Go.Proofs.YtkkpppgfoilgmaaGreatDoor
open Go Go.Proofs.Tryz Go.RowKit Go.Proofs.YtkkpppgfoilgmaaGreatDoor.M
structure Wr (g:Nat) (w w':World):Prop where
 os:w'.os=w.os
 tape:w'.tape=w.tape
 output:w'.output=w.output
 size:w.heap.size<=w'.heap.size
 block:∀ k,k<w.heap.size->k≠g->w'.heap[k]?=w.heap[k]?
theorem Wr.refl (g:Nat) (w:World):Wr g w w:=⟨rfl,rfl,rfl,Nat.le_refl _,fun _ _ _=>rfl⟩
theorem Wr.trans {g:Nat} {a b c:World} (h:Wr g a b) (k:Wr g b c):Wr g a c :=
 ⟨k.os.trans h.os,k.tape.trans h.tape,k.output.trans h.output,Nat.le_trans h.size k.size,fun i hi hg=>(k.block i (Nat.lt_of_lt_of_le hi h.size) hg).trans (h.block i hi hg)⟩
theorem Wr.setCell {g:Nat} {a w:World} (h:Wr g a w) (o:Nat) (u:Value):Wr g a (w.setCell ⟨g,o,none⟩ u) :=
 ⟨h.os,h.tape,h.output,by simp[World.setCell];exact h.size,fun k hk hg=>(Below.heap_setCell _ _ _ _ hg).trans (h.block k hk hg)⟩
theorem Wr.drew {g:Nat} {a w:World} (h:Wr g a w):Wr g a w.drew:=⟨h.os,h.tape,h.output,h.size,h.block⟩
theorem Wr.drewN {g:Nat} {a w:World} (h:Wr g a w) (n:Nat):Wr g a (w.drewN n):=⟨h.os,h.tape,h.output,h.size,h.block⟩
theorem Below.wr {B g:Nat} {a w:World} (h:Below B a w) (hB:w.heap.size<=B):Wr g w w->Below B a w:=fun _=>h
theorem BH {g:Nat} {a w:World} (h:Below a.heap.size a w):Wr g a w:=⟨h.os,h.tape,h.output,h.size,fun k hk _=>h.block k hk⟩
theorem Wr.below {B g:Nat} {a w w':World} (h:Wr g w w') (hb:Below B a w) (hB:B<=w.heap.size) (hg:B<=g):Below B a w' :=
 hb.trans ⟨h.os,h.tape,h.output,h.size,fun k hk=>h.block k (by omega) (by omega)⟩
theorem Wr.cell {g:Nat} {w w':World} (h:Wr g w w') {p:Addr} (hp:p.block<w.heap.size) (hg:p.block≠g):w'.cell? p=w.cell? p:=World.cell?_of_block (w:=w) (h.block p.block hp hg)
structure iQ (g:Nat) (w:World) (ao:Option Addr) (n cap:Nat) (d:Nat->Int):Prop where
 le:n<=cap
 max:cap<=9223372036854775807
 spot:0<n->∃ b off,ao=some ⟨b,off,none⟩∧b<w.heap.size∧b≠g∧∀ i,i<n->w.cell? ⟨b,off+i,none⟩=some (.int .i64 (d i))
theorem iQ.keeps {g:Nat} {w w':World} {ao:Option Addr} {n cap:Nat} {d:Nat->Int} (h:iQ g w ao n cap d) (hw:Wr g w w'):iQ g w' ao n cap d :=
  ⟨h.le,h.max,fun hn=>by
    obtain⟨b,off,rfl,hlt,hg,hc⟩:=h.spot hn
    exact ⟨b,off,rfl,Nat.lt_of_lt_of_le hlt hw.size,hg,fun i hi=>(hw.cell (p:=⟨b,off+i,none⟩) hlt hg).trans (hc i hi)⟩⟩
theorem iQ.of {g:Nat} {w:World} {ao:Option Addr} {n cap:Nat} {d:Nat->Int} (h:aG w ao n cap d) (hg:w.heap.size<=g):iQ g w ao n cap d :=
  ⟨h.le,h.max,fun hn=>by
    obtain⟨b,off,rfl,hlt,hc⟩:=h.spot hn
    exact ⟨b,off,rfl,hlt,by omega,hc⟩⟩
theorem aV.store {B:Nat} {w:World} {g n cap:Nat} {d:Nat->Int} (h:aV B w (.slice (some ⟨g,0,none⟩) n cap) n d) {i:Nat} (hi:i<n) (x:Int) :
  aV B (w.setCell ⟨g,i,none⟩ (.int .i64 x)) (.slice (some ⟨g,0,none⟩) n cap) n (bK d i x):=by
 have h1:=(World.ownsRow.stored h i (.int .i64 x)).1
 unfold aV
 have e:d9 (bK d i x) n=(d9 d n).set i (.int .i64 x):=by
  refine(gB (by simp[bR]) fun j hj=>?_).symm
  by_cases hji:j=i
  ·subst hji;rw[a6,List.getElem?_set_self (by rw[bR];exact hj)]
  ·rw[aP d x hji,List.getElem?_set_ne (by omega),ec d hj]
 rw[e];exact h1
theorem aV.spot {B:Nat} {w:World} {ao:Option Addr} {n cap:Nat} {d:Nat->Int} (h:aV B w (.slice ao n cap) n d) (hn:0<n):∃ g,ao=some ⟨g,0,none⟩∧B<=g∧g<w.heap.size:=by
 rcases h.2 with⟨_,h0⟩|⟨g,cap',cur,hv,hB,hg,_⟩
 ·omega
 ·simp only[Value.slice.injEq] at hv
  exact⟨g,hv.1,hB,(aGe hg).1⟩
theorem aV.cell {B:Nat} {w:World} {g n cap:Nat} {d:Nat->Int} (h:aV B w (.slice (some ⟨g,0,none⟩) n cap) n d) {i:Nat} (hi:i<n):w.cell? ⟨g,i,none⟩=some (.int .i64 (d i)):=by
 rw[World.ownsRow.cellAt h i (by omega),ec d hi]
theorem aV.frozen {B:Nat} {w:World} {g n cap:Nat} {d:Nat->Int} (h:aV B w (.slice (some ⟨g,0,none⟩) n cap) n d) (i:Nat):w.frozen? ⟨g,i,none⟩=false:=World.ownsRow.frozenAt h i
theorem nW (r:Nat->Int) (q k:Nat) (x:Int):(fun i=>bK r (q+k) x (q+i))=bK (fun i=>r (q+i)) k x:=by
 funext i
 unfold bK
 by_cases h:i=k
 ·simp[h]
 ·simp[h]
theorem nf {x:Int} {p:Nat} (hx:0<=x∧x<1073741824) (hp:p<=30):0<=x*2^p∧x*2^p<=1073741823*2^p∧(2:Int)^p<=1073741824:=by
 have h:=aF p
 exact⟨Int.mul_nonneg hx.1 (by omega),Int.mul_le_mul_of_nonneg_right (by omega) (by omega),cc hp⟩
structure jR (q p N n:Nat) (a r0:Nat->Int) (s:Int) (k:Nat) (c:Int) (r:Nat->Int):Prop where
 rest:∀ i,q+k<=i->r i=r0 i
 near:∀ i,0<=s*(r i-r0 i)∧s*(r i-r0 i)<1073741824
 sum:∃ T,val r N=val r0 N+s*(P q*T)∧T+c*P k=2^p*val a k
theorem jR.put {q p N n:Nat} {a r0:Nat->Int} {s:Int} {k:Nat} {c:Int} {r:Nat->Int} (h:jR q p N n a r0 s k c r) (hs:s*s=1) (hN:q+k<N) {m c':Int} (hm:0<=m∧m<1073741824) (e:m+c'*1073741824=c+a k*2^p) :
  jR q p N n a r0 s (k+1) c' (bK r (q+k) (r (q+k)+s*m)):=by
 refine⟨fun i hi=>by rw[aP r _ (by omega)];exact h.rest i (by omega),fun i=>?_,?_⟩
 ·by_cases hi:i=q+k
  ·subst hi
   rw[a6,h.rest _ (Nat.le_refl _),show s*(r0 (q+k)+s*m-r0 (q+k))=s*s*m by grind,hs]
   omega
  ·rw[aP r _ hi];exact h.near i
 ·obtain⟨T,e1,e2⟩:=h.sum
  refine⟨T+m*P k,?_,?_⟩
  ·rw[m8 r _ hN,e1,i4];grind
  ·rw[aI,eD]
   have:c'*(P k*1073741824)=(c+a k*2^p-m)*P k:=by rw[show c+a k*2^p-m=c'*1073741824 by omega];grind
   rw[this,show T+m*P k+(c+a k*2^p-m)*P k=(T+c*P k)+a k*2^p*P k by grind,e2];grind
structure oP (N:Nat) (r0:Nat->Int) (s V:Int) (r:Nat->Int):Prop where
 near:∀ i,0<=s*(r i-r0 i)∧s*(r i-r0 i)<1073741824
 sum:val r N=val r0 N+s*V
theorem jR.done {q p N n:Nat} {a r0:Nat->Int} {s:Int} {c:Int} {r:Nat->Int} (h:jR q p N n a r0 s n c r) (hs:s*s=1) (hN:q+n<N) (hc:0<=c∧c<1073741824) :
  oP N r0 s (P q*(2^p*val a n)) (bK r (q+n) (r (q+n)+s*c)):=by
 refine⟨fun i=>?_,?_⟩
 ·by_cases hi:i=q+n
  ·subst hi
   rw[a6,h.rest _ (Nat.le_refl _),show s*(r0 (q+n)+s*c-r0 (q+n))=s*s*c by grind,hs]
   omega
  ·rw[aP r _ hi];exact h.near i
 ·obtain⟨T,e1,e2⟩:=h.sum
  rw[m8 r _ hN,e1,i4,<- e2];grind
theorem uc {s x y C:Int} (hs:s=1∨s=-1) (h:0<=s*(x-y)∧s*(x-y)<1073741824) (hy:-C<=y∧y<=C):-(C+1073741823)<=x∧x<=C+1073741823:=by
 rcases hs with rfl|rfl<;>omega
theorem rI {s m:Int} (hs:s=1∨s=-1) (hm:0<=m∧m<1073741824):-1073741823<=s*m∧s*m<=1073741823:=by
 rcases hs with rfl|rfl<;>omega
theorem Ad {s:Int} (hs:s=1∨s=-1):s*s=1:=by rcases hs with rfl|rfl<;>rfl
theorem yl (g N:Nat) (r0:Nat->Int) (ao:Option Addr) (n ca q p:Nat) (a:Nat->Int) (w:World) (hB0:bw w g N r0) (ha:iQ g w ao n ca a) (da:aO a n) (hn:n<=100000) (hqN:q+n+1<=N) (hNm:N<=1000000) (hp:p<30) (k:Int) (hk:k=30*q+p)
  (s:Int) (hs:s=1∨s=-1) (C:Int) (hC0:∀ i,i<N->-C<=r0 i∧r0 i<=C) (hC1:C<=4611686018427387904) :
  Calls prog 143 #[.slice (some ⟨g,0,none⟩) N N,.slice ao n ca,.int .i64 k,.int .i64 s] w fun e w'=>e=.returned (.tuple #[])∧∃ r,bw w' g N r∧Wr g w w'∧oP N r0 s (P q*(2^p*val a n)) r:=by
 have hla:=ha.le
 have hma:=ha.max
 have e1:k/30=q:=by omega
 have e2:k % 30=p:=by omega
 have hk0:0<=k:=by omega
 have hk1:k<=40000000:=by omega
 clear hk
 have hu:=aF p
 have hu2:(2:Int)^p<=2^29:=cc (by omega)
 have HC:Hid (∀ i,i<N->-C<=r0 i∧r0 i<=C):=hC0
 have hss:=Ad hs
 have HS:Hid (s=1∨s=-1):=hs
 clear hC0 hs
 go_enter func143,ntmps143
 go_wp2
 go_loopw [10,18] (fun c i wr=>∃ (k:Nat) (c':Int) (r:Nat->Int),k<=n∧i=.int .i64 k∧c=.int .i64 c'∧0<=c'∧c'<2^p∧bw wr g N r∧Hid (jR q p N n a r0 s k c' r)∧Wr g w wr) (fun _ i _=>n-(intOf i).toNat)
 case atStart=>exact⟨0,0,r0,Nat.zero_le _,rfl,rfl,by omega,hu,hB0,⟨fun _ _=>rfl,fun i=>by rw[Int.sub_self,Int.mul_zero];omega,0,by rw[Int.mul_zero,Int.mul_zero,Int.add_zero],by show(0:Int)+0*1=2^p*0;omega⟩,Wr.refl _ _⟩
 case round=>
  obtain⟨k,c,r,hk,rfl,rfl,hc0,hc1,hB,HI,hW⟩:=hrel
  have hcap:-4611686018427387904-1073741823<=r (q+k)∧r (q+k)<=4611686018427387904+1073741823:=by
   have h1:=HC.out (q+k) (by omega)
   have h2:=HI.out.rest (q+k) (Nat.le_refl _)
   rw[h2];omega
  by_cases hlt:k<n
  ·obtain⟨ba,fa,rfl,hba,hbg,hca⟩:=ha.spot (by omega)
   have c1:=(hW.cell (p:=⟨ba,fa+k,none⟩) hba hbg).trans (hca k hlt)
   have cg:=hB.cell (show q+k<N by omega)
   have fg:=hB.frozen (q+k)
   have dk:=da k hlt
   obtain⟨s0,s1,s2⟩:=nf dk (show p<=30 by omega)
   have hw:wrap64 (a k*2^p)=a k*2^p:=IntWalk.wrap64_in _ ⟨by omega,by omega⟩
   have hor:bits .or .i64 c (a k*2^p)=c+a k*2^p:=o9 c (a k) p hc0 hc1 dk.1 (by omega)
   have h30:=mu (c+a k*2^p)
   have hm:=fk (c+a k*2^p)
   have hc2:(c+a k*2^p)/1073741824<2^p:=by omega
   have hc3:0<=(c+a k*2^p)/1073741824:=by omega
   obtain⟨m0,m1⟩:=rI HS.out hm
   have e4:(c+a k*2^p) % 1073741824+(c+a k*2^p)/1073741824*1073741824=c+a k*2^p:=by omega
   have HI2:Hid (jR q p N n a r0 s (k+1) ((c+a k*2^p)/1073741824) (bK r (q+k) (r (q+k)+s*((c+a k*2^p) % 1073741824)))):=HI.out.put hss (by omega) hm e4
   clear e4
   generalize hM:(c+a k*2^p) % 1073741824=M at *
   generalize hSM:s*M=SM at *
   go_wp2
   go_roundw
   case rel=>exact⟨k+1,_,_,by omega,by go_num,rfl,hc3,hc2,hB.store (q+k) _,HI2,hW.setCell _ _⟩
   case measure=>simp[intOf];omega
  ·obtain rfl:k=n:=by omega
   have cg:=hB.cell (show q+k<N by omega)
   have fg:=hB.frozen (q+k)
   have hc4:c<1073741824:=by omega
   obtain⟨m0,m1⟩:=rI HS.out ⟨hc0,hc4⟩
   have HD:Hid (oP N r0 s (P q*(2^p*val a k)) (bK r (q+k) (r (q+k)+s*c))):=HI.out.done hss (by omega) ⟨hc0,hc4⟩
   generalize hSM:s*c=SM at *
   go_wp2
   first|go_end0|refine bodyPost_ret (results_none rfl _ _ _) rfl ?_
   exact⟨rfl,_,hB.store (q+k) _,hW.setCell _ _,HD.out⟩
end Go.Proofs.YtkkpppgfoilgmaaGreatDoor
