/-
  Parts of the proof, one behind another.
-/
import Derived.Test.YtinccocmgkjalaaGreatDoorPart11
import Derived.Test.YtinccocmgkjalaaGreatDoorPart5
import Derived.Test.YtinccocmgkjalaaGreatDoorPart9
import Derived.Test.YtinccocmgkjalaaGreatDoorPart1
import Derived.Test.YtinccocmgkjalaaGreatDoorPart7
import Derived.Test.YtinccocmgkjalaaGreatDoorPart8
import Derived.Test.YtinccocmgkjalaaGreatDoorPart2
import Derived.Test.YtinccocmgkjalaaGreatDoorPart3
import Derived.Deep.RegionHeld3
import Derived.Test.YtinccocmgkjalaaGreatDoorPart4
set_option linter.unusedVariables false
set_option linter.unusedSimpArgs false
namespace Go.Proofs.YtinccocmgkjalaaGreatDoor
open Go Go.RowKit Go.Proofs.YtinccocmgkjalaaGreatDoor.M Ieee
theorem FW.rng {p:Int} {x:Nat} (h:FW p x):M.rng p:=by
 rcases h with ⟨_,h,_⟩ | ⟨rfl,_⟩
 ·exact h
 ·exact nan_rng
theorem neg_sign {p:Int} (hp:M.rng p) (h4:¬ cls p=4):decide (M.neg p < 0)=!decide (p < 0)∧rg (M.neg p)=rg p∧¬ cls (M.neg p)=4:=by
 have h0:0 <= rg p∧rg p < 9223372036854775808:=by unfold rg; unfold M.rng at hp; split <;> omega
 have e:rg (M.neg p)=rg p∧decide (M.neg p < 0)=!decide (p < 0):=by
  unfold M.neg rg
  rw [if_neg h4]
  unfold M.rng at hp
  by_cases c:p < 0
  ·rw [if_pos c,decide_eq_true c,if_neg (by omega)]
   exact ⟨by rw [if_pos c],decide_eq_false (by omega)⟩
  ·rw [if_neg c,decide_eq_false c,if_pos (by omega)]
   exact ⟨by rw [if_neg c]; omega,decide_eq_true (by omega)⟩
 refine ⟨e.2,e.1,fun c=>?_⟩
 have:=(cls_rg (neg_rng hp)).1.1 c
 rw [e.1] at this
 exact h4 ((cls_rg hp).1.2 this)
theorem self_pat {p:Int} (hp:M.rng p):fsum p (M.neg p)=if pok p then 0 else 9221120237041090561:=by
 by_cases c4:cls p=4
 ·have:pok p=false:=by
   cases h:pok p
   ·rfl
   ·exact absurd c4 (fin_cls hp h).1
  rw [this]
  unfold fsum
  rw [if_pos (.inl c4)]
  rfl
 ·obtain ⟨s1,s2,s3⟩:=neg_sign hp c4
  cases h:pok p
  ·have hi:rg p=9218868437227405312:=by
    by_cases c:rg p=9218868437227405312
    ·exact c
    ·rw [pok_of hp c4 c] at h; cases h
   unfold fsum
   rw [if_neg (fun c=>c.elim c4 s3),if_pos hi,if_pos ⟨by rw [s2]; exact hi,by rw [s1]; cases decide (p < 0) <;> decide⟩]
   rfl
  ·obtain ⟨n1,n2,n3⟩:=neg_facts hp h
   unfold fsum
   rw [if_neg (fun c=>c.elim c4 s3),if_neg (fin_cls hp h).2,if_neg (by rw [s2]; exact (fin_cls hp h).2),patV_iV hp h,patV_iV n1 n2,n3,if_pos (by rw [<- Int.add_mul,Int.add_right_neg,Int.zero_mul]),s1]
   cases decide (p < 0) <;> rfl
theorem order_zero:Ieee.double.order 0 0=some .eq:=by decide +kernel
theorem self_order {p:Int} {z:Nat} (hp:M.rng p) (hz:FW (fsum p (M.neg p)) z):(Ieee.double.order z 0 == some Ordering.eq)=pok p:=by
 rw [self_pat hp] at hz
 cases h:pok p
 ·rw [h] at hz
  obtain ⟨s,t,e⟩:=hz.read_nan nan_canon
  unfold Ieee.Format.order
  rw [e]
  rfl
 ·rw [h] at hz
  obtain ⟨_,e,_⟩:=hz.of (by decide)
  have:z=0:=by rw [e]; decide
  rw [this,order_zero]
  rfl
set_option maxRecDepth 100000 in
set_option maxHeartbeats 1000000 in
theorem etold_any {p q:Int} {x y:Nat} (hx:FW p x) (hy:FW q y) (w:World) :
  Calls Tryz.prog 122 #[.float .f64 x,.float .f64 y] w fun e w'=>e=.returned (.tuple #[.int .i64 p,.int .i64 q,.bool (pok q)])∧Below w.heap.size w w':=by
 have C1:=fun W=>of_FW hx W
 have C2:=fun W=>of_FW hy W
 obtain ⟨z1,w1,e1,f1,d1⟩:=run_fdiff (P:=Tryz.prog) 50 hy hy w
 have B1:Hid (Below w.heap.size w w1):=stay_b d1
 have HO:(Ieee.double.order z1 0 == some Ordering.eq)=pok q:=self_order hy.rng f1
 clear d1 f1 hx hy
 generalize pok q=R at HO ⊢
 go_enter Tryz.func122,Tryz.ntmps122
 go_wp2_with fail
 refine (C1 _).mono ?_
 rintro _ _ ⟨rfl,rfl⟩
 go_wp2_with fail
 refine (C2 _).mono ?_
 rintro _ _ ⟨rfl,rfl⟩
 have HO2:(FloatKind.f64.format.order z1 0 == some Ordering.eq)=R:=HO
 go_wp2
 refine bodyPost_ret (v:=.tuple #[.int .i64 p,.int .i64 q,.bool R]) (by simp [results,Tryz.results122,go_sem,HO2]) rfl ⟨rfl,B1.out⟩
set_option maxRecDepth 100000 in
set_option maxHeartbeats 1000000 in
theorem twoSum_any {a b:Int} (ha:M.rng a) (hb:M.rng b) (w:World) :
  Calls Tryz.prog 157 #[.int .i64 a,.int .i64 b] w fun e w'=>e=.returned (.tuple #[.int .i64 (fsum (told a) (told b)),.int .i64 (sL (told a) (told b)),.bool (pok (sL (told a) (told b)))])∧Below w.heap.size w w':=by
 have C1:=fun W=>bitsFloat a W
 have C2:=fun W=>bitsFloat b W
 have FA:Hid (FW (told a) (wd a)):=wd_told ha
 have FB:Hid (FW (told b) (wd b)):=wd_told hb
 generalize told a=p at *
 generalize told b=q at *
 generalize wd a=x at *
 generalize wd b=y at *
 go_enter Tryz.func157,Tryz.ntmps157
 go_wp2_with fail
 refine (C1 _).mono ?_
 rintro _ _ ⟨rfl,rfl⟩
 go_wp2_with fail
 refine (C2 _).mono ?_
 rintro _ _ ⟨rfl,rfl⟩
 go_wp2_with fail
 refine (esum_any FA.out FB.out _).mono ?_
 rintro _ w1 ⟨z,u,rfl,g1,g2,b1⟩
 have G1:Hid (FW (fsum p q) z):=g1
 have G2:Hid (FW (sL p q) u):=g2
 clear g1 g2
 go_wp2_with fail
 refine (etold_any G1.out G2.out _).mono ?_
 rintro _ w2 ⟨rfl,b2⟩
 go_wp2
 refine bodyPost_ret (v:=.tuple #[.int .i64 (fsum p q),.int .i64 (sL p q),.bool (pok (sL p q))]) (by simp [results,Tryz.results157,go_sem]) rfl ⟨rfl,bel_trans b1 b2⟩
set_option maxRecDepth 100000 in
set_option maxHeartbeats 1000000 in
theorem twoDiff_any {a b:Int} (ha:M.rng a) (hb:M.rng b) (w:World) (L:Lays w) :
  Calls Tryz.prog 121 #[.int .i64 a,.int .i64 b] w fun e w'=>e=.returned (.tuple #[.int .i64 (fsum (told a) (told (M.neg b))),.int .i64 (sL (told a) (told (M.neg b))),.bool (pok (sL (told a) (told (M.neg b))))])∧Below w.heap.size w w':=by
 have C1:=bitsNeg b w L hb
 have C2:=fun W=>twoSum_any ha (neg_rng hb) W
 generalize M.neg b=c at *
 generalize told a=p at *
 generalize told c=q at *
 go_enter Tryz.func121,Tryz.ntmps121
 go_wp2_with fail
 refine C1.mono ?_
 rintro _ w1 ⟨rfl,g1⟩
 have b1:=g1.be
 clear g1
 go_wp2_with fail
 refine (C2 _).mono ?_
 rintro _ w2 ⟨rfl,b2⟩
 go_wp2
 refine bodyPost_ret (v:=.tuple #[.int .i64 (fsum p q),.int .i64 (sL p q),.bool (pok (sL p q))]) (by simp [results,Tryz.results121,go_sem]) rfl ⟨rfl,bel_trans b1 b2⟩
end Go.Proofs.YtinccocmgkjalaaGreatDoor
/-
 Package eft: math.Abs,FastTwoSum,reachable,TwoProd,by their contracts.
-/
namespace Go.Proofs.YtinccocmgkjalaaGreatDoor
open Go Go.RowKit Go.Proofs.YtinccocmgkjalaaGreatDoor.M Ieee
theorem bits_andNotU (x y:Int):bits .andNot .u64 x y=IntKind.u64.wrap (((x % 18446744073709551616).toNat &&& (18446744073709551615 - (y % 18446744073709551616).toNat):Nat):Int):=by
 show IntKind.u64.wrap (((BitVec.ofInt 64 x &&& ~~~ BitVec.ofInt 64 y).toNat:Nat):Int)=_
 rw [BitVec.toNat_and,BitVec.toNat_not,ofInt64_toNat,ofInt64_toNat]
theorem abs_word {p:Int} (hp:M.rng p):bits .andNot .u64 ((wd p:Nat):Int) 9223372036854775808=((wd (rg p):Nat):Int):=by
 rw [bits_andNotU,show (18446744073709551615 - ((9223372036854775808:Int) % 18446744073709551616).toNat)=2 ^ 63 - 1 from by decide,IntKind.wrap_u64,Nat.and_two_pow_sub_one_eq_mod]
 unfold wd rg M.rng at *
 have e:(2:Nat) ^ 63=9223372036854775808:=by decide
 rw [e]
 split <;> omega
set_option maxRecDepth 100000 in
theorem mabs_any {p:Int} (hp:M.rng p) (w:World) :
  Calls Tryz.prog 34 #[.float .f64 (wd p)] w fun e w'=>e=.returned (.float .f64 (wd (rg p)))∧w'=w:=by
 have h1:=run_from64
 have h2:=run_bits64
 have h3:=abs_word hp
 generalize wd (rg p)=z at *
 generalize wd p=x at *
 go_enter Tryz.func34,Tryz.ntmps34
 go_wp2
 go_ret
 exact ⟨by simp,rfl⟩
theorem rg_facts {p:Int} (hp:M.rng p) (h:pok p=true):M.rng (rg p)∧pok (rg p)=true∧iV (rg p)=((iV p).natAbs:Int):=by
 have h1:=(pok_rg hp).1 h
 have h0:0 <= rg p:=by unfold rg; unfold M.rng at hp; split <;> omega
 have e:rg p=patS false (rg p):=rfl
 obtain ⟨a,b,c⟩:=patS_parts (ng:=false) h0 (by omega)
 rw [<- e] at a
 refine ⟨a,?_,?_⟩
 ·rw [e,patS_fin h0 (by omega)]; exact decide_eq_true h1
 ·rw [iV_abs]
  have:=iV_patS (ng:=false) h0 (show rg p <= 9218868437227405312 by omega)
  rw [<- e] at this
  rw [this]
  rfl
theorem cmp_iV {p q:Int} (hp:M.rng p) (hq:M.rng q) (pp:pok p=true) (pq:pok q=true):Ieee.double.order (wd p) (wd q)=some (compare (iV p) (iV q)):=by
 rw [order_wd hp hq pp pq,patV_iV hp pp,patV_iV hq pq,cmp_mul (pw_pos _)]
theorem cmp_lt {a b:Int}:(some (compare a b) == some Ordering.lt)=decide (a < b):=by
 show (some (compareOfLessAndEq a b) == some Ordering.lt)=_
 unfold compareOfLessAndEq
 by_cases h1:a < b
 ·rw [if_pos h1,decide_eq_true h1]; rfl
 ·rw [if_neg h1,decide_eq_false h1]
  split <;> rfl
theorem abs_order {p q:Int} (hp:M.rng p) (hq:M.rng q) (pp:pok p=true) (pq:pok q=true):(Ieee.double.order (wd (rg p)) (wd (rg q)) == some Ordering.lt)=decide ((iV p).natAbs < (iV q).natAbs):=by
 obtain ⟨a1,a2,a3⟩:=rg_facts hp pp
 obtain ⟨b1,b2,b3⟩:=rg_facts hq pq
 rw [cmp_iV a1 b1 a2 b2,cmp_lt,a3,b3]
 congr 1
 apply propext
 omega
theorem told_fin {a:Int} (h:pok (told a)=true):told a=a:=by
 unfold told at *
 by_cases c:cls a=4
 ·rw [if_pos c,nan_no] at h; cases h
 ·rw [if_neg c]
theorem FW.fin {p:Int} {x:Nat} (h:FW p x) (g:pok p=true):x=wd p:=by
 rcases h with ⟨_,_,h⟩ | ⟨rfl,_⟩
 ·exact h
 ·rw [nan_no] at g; cases g
set_option maxRecDepth 100000 in
set_option maxHeartbeats 2000000 in
theorem fastTwoSum_any {a b:Int} (ha:M.rng a) (hb:M.rng b) (w:World) :
  Calls Tryz.prog 170 #[.int .i64 a,.int .i64 b] w fun e w'=>e=.returned (.tuple #[.int .i64 (fsum (told a) (told b)),.int .i64 (fL (told a) (told b)),.bool (fX (told a) (told b))])∧Below w.heap.size w w':=by
 have C1:=fun W=>bitsFloat a W
 have C2:=fun W=>bitsFloat b W
 have FA:Hid (FW (told a) (wd a)):=wd_told ha
 have FB:Hid (FW (told b) (wd b)):=wd_told hb
 generalize told a=p at *
 generalize told b=q at *
 generalize wd a=x at *
 generalize wd b=y at *
 obtain ⟨X,hX0⟩:∃ X,fX p q=X:=⟨_,rfl⟩
 have HX:Hid (fX p q=X):=hX0
 rw [hX0]
 clear hX0
 go_enter Tryz.func170,Tryz.ntmps170
 go_wp2_with fail
 refine (C1 _).mono ?_
 rintro _ _ ⟨rfl,rfl⟩
 go_wp2_with fail
 refine (C2 _).mono ?_
 rintro _ _ ⟨rfl,rfl⟩
 go_wp2_with fail
 refine (efast_any FA.out FB.out _).mono ?_
 rintro _ w1 ⟨z,u,rfl,g1,g2,b1⟩
 have G1:Hid (FW (fsum p q) z):=g1
 have G2:Hid (FW (fL p q) u):=g2
 clear g1 g2 C1 C2
 go_wp2_with fail
 refine (etold_any G1.out G2.out _).mono ?_
 rintro _ w2 ⟨rfl,b2⟩
 have hb2:=bel_trans b1 b2
 have hp:=FA.out.rng
 have hq:=FB.out.rng
 cases hl:pok (fL p q)
 ·have hx:X=false:=by rw [<- HX.out]; unfold fX; rw [hl]; rfl
  subst hx
  clear HX
  clear G1 G2 FA FB hp hq
  go_wp2
  all_goals refine bodyPost_ret (v:=.tuple #[.int .i64 (fsum p q),.int .i64 (fL p q),.bool false]) (by simp [results,Tryz.results170,go_sem]) rfl ⟨rfl,hb2⟩
 ·obtain ⟨⟨pp,pq⟩,ph⟩:=fL_args hp hq hl
  have ex:=FA.out.fin pp
  have ey:=FB.out.fin pq
  have eu:=G2.out.fin hl
  subst ex ey eu
  have A1:=fun W=>mabs_any hp W
  have A2:=fun W=>mabs_any hq W
  have HO:(FloatKind.f64.format.order (wd (rg p)) (wd (rg q)) == some Ordering.lt)=decide ((iV p).natAbs < (iV q).natAbs):=abs_order hp hq pp pq
  by_cases c:(iV p).natAbs < (iV q).natAbs
  ·have hc:=fsum_comm hp hq pp pq
   obtain ⟨k1,k2⟩:=fL_fin hq hp pq pp (by rw [<- hc]; exact ph) (by omega)
   have hfl:M.rng (fL p q):=by unfold fL; exact fsum_rng hq (neg_rng (fsum_rng (fsum_rng hp hq) (neg_rng hp)))
   have hfl2:M.rng (fL q p):=by unfold fL; exact fsum_rng hp (neg_rng (fsum_rng (fsum_rng hq hp) (neg_rng hq)))
   have HE:(FloatKind.f64.format.order (wd (fL p q)) (wd (fL q p)) == some Ordering.eq)=decide (iV (fL p q)=iV (fL q p)):=by
    show (Ieee.double.order (wd (fL p q)) (wd (fL q p)) == some Ordering.eq)=_
    rw [cmp_iV hfl hfl2 hl k1,cmp_eq]
   have hx:X=decide (iV (fL p q)=iV (fL q p)):=by rw [<- HX.out]; unfold fX; rw [hl,decide_eq_true c]; rfl
   rw [<- hx] at HE
   clear HX hx
   rw [decide_eq_true c] at HO
   have K1:Hid (pok (fL q p)=true):=k1
   clear hc k2 G1 hfl hfl2
   generalize wd (rg p)=xa at *
   generalize wd (rg q)=ya at *
   go_wp2_with fail
   refine (A1 _).mono ?_
   rintro _ _ ⟨rfl,rfl⟩
   go_wp2_with fail
   refine (A2 _).mono ?_
   rintro _ _ ⟨rfl,rfl⟩
   go_wp2_with fail
   refine (efast_any FB.out FA.out _).mono ?_
   rintro _ w3 ⟨z3,u3,rfl,g3,g4,b3⟩
   have e4:=g4.fin K1.out
   subst e4
   have hb3:=bel_trans hb2 b3
   clear g3 g4
   go_wp2
   all_goals refine bodyPost_ret (v:=.tuple #[.int .i64 (fsum p q),.int .i64 (fL p q),.bool X]) (by simp [results,Tryz.results170,go_sem,HE]) rfl ⟨rfl,hb3⟩
  ·have hx:X=true:=by rw [<- HX.out]; unfold fX; rw [hl,decide_eq_false c]; rfl
   subst hx
   clear HX
   rw [decide_eq_false c] at HO
   clear G1
   generalize wd (rg p)=xa at *
   generalize wd (rg q)=ya at *
   go_wp2_with fail
   refine (A1 _).mono ?_
   rintro _ _ ⟨rfl,rfl⟩
   go_wp2_with fail
   refine (A2 _).mono ?_
   rintro _ _ ⟨rfl,rfl⟩
   go_wp2
   all_goals refine bodyPost_ret (v:=.tuple #[.int .i64 (fsum p q),.int .i64 (fL p q),.bool true]) (by simp [results,Tryz.results170,go_sem]) rfl ⟨rfl,hb2⟩
end Go.Proofs.YtinccocmgkjalaaGreatDoor
namespace Go.Proofs.YtinccocmgkjalaaGreatDoor
open Go Go.RowKit Go.Proofs.YtinccocmgkjalaaGreatDoor.M Ieee
set_option maxRecDepth 100000 in
theorem tzero_any (mag:Int) (h0:0 < mag) (h:mag < 9223372036854775808) (w:World) (hT:b_Tab w) :
  Calls Tryz.prog 136 #[.int .u64 mag] w fun e w'=>e=.returned (.int .i64 (jz mag))∧w'=w:=by
 go_enter Tryz.func136,Tryz.ntmps136
 go_wp2_with fail
 refine (trailingI mag h0 h _ hT).mono ?_
 rintro _ _ ⟨rfl,rfl⟩
 go_wp2
 go_ret
 exact ⟨rfl,rfl⟩
set_option maxRecDepth 100000 in
theorem zeros_any (x:Int) (h0:0 < x) (h1:x < 9223372036854775808) (w:World) (hT:b_Tab w) :
  Calls Tryz.prog 159 #[.int .i64 x] w fun e w'=>e=.returned (.int .i64 (jz x))∧w'=w:=by
 have u1:IntKind.u64.wrap x=x:=by rw [IntKind.wrap_u64]; omega
 have C:=fun W (T:b_Tab W)=>tzero_any x h0 h1 W T
 go_enter Tryz.func159,Tryz.ntmps159
 go_wp2_with fail
 refine (C _ hT).mono ?_
 rintro _ _ ⟨rfl,rfl⟩
 go_wp2
 go_ret
 exact ⟨rfl,rfl⟩
def reach (a b:Int):Bool:=decide (pmag a=0) || decide (pmag b=0) || decide (-1074 <= pexp a + jz (pmag a) + pexp b + jz (pmag b))
end Go.Proofs.YtinccocmgkjalaaGreatDoor
namespace Go.Proofs.YtinccocmgkjalaaGreatDoor
open Go Go.RowKit Go.Proofs.YtinccocmgkjalaaGreatDoor.M Ieee
set_option maxRecDepth 100000 in
set_option maxHeartbeats 2000000 in
theorem reachable_any {a b:Int} (pa:pok a=true) (pb:pok b=true) (w:World) (H:Hold4 w) :
  Calls Tryz.prog 124 #[.int .i64 a,.int .i64 b] w fun e w'=>e=.returned (.bool (reach a b))∧Below w.heap.size w w':=by
 have C1:=bitsPartsA a w H.lay
 have C2:Hid (∀ W,Below w.heap.size w W->_):=fun W hb=>bitsPartsA b W (H.keeps hb).lay
 have HT:Hid (∀ W,Below w.heap.size w W->b_Tab W):=fun W hb=>(H.keeps hb).env.tab
 obtain ⟨a0,a1,a2,a3⟩:=pmag_in pa
 obtain ⟨b0,b1,b2,b3⟩:=pmag_in pb
 have Z1:Hid (pmag a ≠ 0->∀ W,Below w.heap.size w W->Calls Tryz.prog 159 #[.int .i64 (pmag a)] W fun e w'=>e=.returned (.int .i64 (jz (pmag a)))∧w'=W):=fun h W hb=>zeros_any _ (by omega) (by omega) W (HT.out W hb)
 have Z2:Hid (pmag b ≠ 0->∀ W,Below w.heap.size w W->Calls Tryz.prog 159 #[.int .i64 (pmag b)] W fun e w'=>e=.returned (.int .i64 (jz (pmag b)))∧w'=W):=fun h W hb=>zeros_any _ (by omega) (by omega) W (HT.out W hb)
 have z1:pmag a ≠ 0->jz (pmag a) < 63:=fun h=>by obtain ⟨_,_,g,_⟩:=jz_spec (mag:=pmag a) (by omega) (by omega); exact g
 have z2:pmag b ≠ 0->jz (pmag b) < 63:=fun h=>by obtain ⟨_,_,g,_⟩:=jz_spec (mag:=pmag b) (by omega) (by omega); exact g
 unfold reach
 clear HT H
 generalize jz (pmag a)=j at *
 generalize jz (pmag b)=k at *
 generalize pmag a=m at *
 generalize pmag b=n at *
 generalize pexp a=x at *
 generalize pexp b=y at *
 generalize pneg a=s at *
 generalize pneg b=t at *
 go_enter Tryz.func124,Tryz.ntmps124
 go_wp2_with fail
 refine C1.mono ?_
 rintro _ w1 ⟨rfl,g1⟩
 go_wp2_with fail
 refine (C2.out _ g1).mono ?_
 rintro _ w2 ⟨rfl,g2⟩
 have hb2:=bel_trans g1 g2
 clear C1 C2 g1 g2
 by_cases hm:m=0
 ·subst hm
  go_wp2
  all_goals go_ret
  all_goals exact ⟨by simp,hb2⟩
 ·by_cases hn:n=0
  ·subst hn
   go_wp2
   all_goals go_ret
   all_goals exact ⟨by simp,hb2⟩
  ·have Z1:=Z1.out hm w2 hb2
   have Z2:=Z2.out hn w2 hb2
   have j1:=z1 hm
   have k1:=z2 hn
   have u1:IntKind.i64.wrap (x + (j:Int))=x + j:=by rw [wrap_i64_eq]; omega
   have u2:IntKind.i64.wrap (x + (j:Int) + y)=x + j + y:=by rw [wrap_i64_eq]; omega
   have u3:IntKind.i64.wrap (x + (j:Int) + y + (k:Int))=x + j + y + k:=by rw [wrap_i64_eq]; omega
   by_cases hr:-1074 <= x + (j:Int) + y + (k:Int)
   ·go_wp2_with (first | (go_at_call 159; first | (refine Z1.mono ?_; rintro _ _ ⟨rfl,rfl⟩) | (refine Z2.mono ?_; rintro _ _ ⟨rfl,rfl⟩)))
    all_goals go_ret
    all_goals exact ⟨by simp [hr],by first | exact hb2 | exact hb2.drew⟩
   ·go_wp2_with (first | (go_at_call 159; first | (refine Z1.mono ?_; rintro _ _ ⟨rfl,rfl⟩) | (refine Z2.mono ?_; rintro _ _ ⟨rfl,rfl⟩)))
    all_goals go_ret
    all_goals exact ⟨by simp [hm,hn,hr],by first | exact hb2 | exact hb2.drew⟩
def pX (p q:Int):Bool:=pok (prL p q) && reach p q
set_option maxRecDepth 100000 in
set_option maxHeartbeats 2000000 in
theorem twoProd_any {a b:Int} (ha:M.rng a) (hb:M.rng b) (w:World) (H:Hold4 w) :
  Calls Tryz.prog 89 #[.int .i64 a,.int .i64 b] w fun e w'=>e=.returned (.tuple #[.int .i64 (fprod (told a) (told b)),.int .i64 (prL (told a) (told b)),.bool (pX (told a) (told b))])∧Below w.heap.size w w':=by
 have C1:=fun W=>bitsFloat a W
 have C2:=fun W=>bitsFloat b W
 have FA:Hid (FW (told a) (wd a)):=wd_told ha
 have FB:Hid (FW (told b) (wd b)):=wd_told hb
 have HH:Hid (Hold4 w):=H
 have TA:Hid (pok (told a)=true->told a=a):=told_fin
 have TB:Hid (pok (told b)=true->told b=b):=told_fin
 clear H
 generalize told a=p at *
 generalize told b=q at *
 generalize wd a=x at *
 generalize wd b=y at *
 obtain ⟨X,hX0⟩:∃ X,pX p q=X:=⟨_,rfl⟩
 have HX:Hid (pX p q=X):=hX0
 rw [hX0]
 clear hX0
 go_enter Tryz.func89,Tryz.ntmps89
 go_wp2_with fail
 refine (C1 _).mono ?_
 rintro _ _ ⟨rfl,rfl⟩
 go_wp2_with fail
 refine (C2 _).mono ?_
 rintro _ _ ⟨rfl,rfl⟩
 go_wp2_with fail
 refine (eprod_any FA.out FB.out _).mono ?_
 rintro _ w1 ⟨z,u,rfl,g1,g2,b1⟩
 have G1:Hid (FW (fprod p q) z):=g1
 have G2:Hid (FW (prL p q) u):=g2
 clear g1 g2 C1 C2
 go_wp2_with fail
 refine (etold_any G1.out G2.out _).mono ?_
 rintro _ w2 ⟨rfl,b2⟩
 have hb2:=bel_trans b1 b2
 have hp:=FA.out.rng
 have hq:=FB.out.rng
 cases hl:pok (prL p q)
 ·have hx:X=false:=by rw [<- HX.out]; unfold pX; rw [hl]; rfl
  subst hx
  clear G1 G2 FA FB hp hq HX
  go_wp2
  all_goals refine bodyPost_ret (v:=.tuple #[.int .i64 (fprod p q),.int .i64 (prL p q),.bool false]) (by simp [results,Tryz.results89,go_sem]) rfl ⟨rfl,hb2⟩
 ·have hx:X=reach p q:=by rw [<- HX.out]; unfold pX; rw [hl]; rfl
  obtain ⟨⟨pQ,pS⟩,_⟩:=prL_args hp hq hl
  have pp:=(spL_exact hp pQ).1
  have pq:=(spL_exact hq pS).1
  have ea:=TA.out pp
  have eb:=TB.out pq
  have CR:=reachable_any (a:=p) (b:=q) pp pq w2 (HH.out.keeps hb2)
  rw [<- hx] at CR
  subst ea eb
  clear G1 G2 FA FB hp hq HX pQ pS pp pq hx TA TB
  go_wp2_with fail
  refine CR.mono ?_
  rintro _ w3 ⟨rfl,b3⟩
  go_wp2
  all_goals refine bodyPost_ret (v:=.tuple #[.int .i64 (fprod p q),.int .i64 (prL p q),.bool X]) (by simp [results,Tryz.results89,go_sem]) rfl ⟨rfl,bel_trans hb2 b3⟩
theorem dvd_odd {s n:Nat} {t:Int} (h:(2 ^ n:Int) ∣ 2 ^ s * (2 * t + 1)):n <= s:=by
 rcases Nat.lt_or_ge s n with c | c
 ·exfalso
  obtain ⟨d,rfl⟩:∃ d,n=s + 1 + d:=⟨n - s - 1,by omega⟩
  obtain ⟨e,he⟩:=h
  rw [Int.pow_add,p2s,show (2:Int) * 2 ^ s * 2 ^ d * e=2 ^ s * (2 * (2 ^ d * e)) by ac_rfl] at he
  have:=Int.eq_of_mul_eq_mul_left (by have:=p2 s; omega) he
  generalize (2:Int) ^ d * e=f at this
  omega
 ·exact c
theorem iV_form {p:Int} (hp:rng p) (h:pok p=true):((iV p).natAbs:Int)=pmag p * 2 ^ (pexp p + 1074).toNat:=by
 have h0:=(pmag_in h).1
 rw [iV_abs,V_rg hp h,nat_two,Int.toNat_of_nonneg h0,Int.mul_comm]
theorem k_form {m:Nat} {mag:Int} {j e:Nat} (h:mag=2 ^ j * (2 * m + 1)):mag * 2 ^ e=2 ^ (j + e) * (2 * (m:Int) + 1):=by
 rw [h,Int.pow_add,Int.mul_assoc,Int.mul_assoc,Int.mul_comm (2 * (m:Int) + 1)]
theorem k_form2 (i j:Nat) (a b:Int):2 ^ i * (2 * a + 1) * (2 ^ j * (2 * b + 1))=2 ^ (i + j) * (2 * (2 * a * b + a + b) + 1):=by
 have e:(2 * a + 1) * (2 * b + 1)=2 * (2 * a * b + a + b) + 1:=by
  rw [Int.add_mul,Int.mul_add,Int.one_mul,Int.mul_one,Int.mul_add,Int.mul_add]
  have:2 * a * (2 * b)=2 * (2 * a * b):=by ac_rfl
  omega
 rw [<- e,Int.pow_add]
 generalize 2 * a + 1=A
 generalize 2 * b + 1=B
 ac_rfl
theorem reach_iff {a b:Int} (ha:rng a) (hb:rng b) (pa:pok a=true) (pb:pok b=true):reach a b=true ↔ ∃ T,2 ^ 1074 * T=iV a * iV b:=by
 have fa:=iV_form ha pa
 have fb:=iV_form hb pb
 obtain ⟨a0,a1,a2,a3⟩:=pmag_in pa
 obtain ⟨b0,b1,b2,b3⟩:=pmag_in pb
 unfold reach
 by_cases hm:pmag a=0
 ·rw [hm] at fa ⊢
  have:iV a=0:=by rw [Int.zero_mul] at fa; omega
  rw [this]
  exact ⟨fun _=>⟨0,by rw [Int.mul_zero,Int.zero_mul]⟩,fun _=>rfl⟩
 by_cases hn:pmag b=0
 ·rw [hn] at fb ⊢
  have:iV b=0:=by rw [Int.zero_mul] at fb; omega
  rw [this]
  exact ⟨fun _=>⟨0,by rw [Int.mul_zero,Int.mul_zero]⟩,fun _=>by simp⟩
 obtain ⟨m,m1,m2,_⟩:=jz_spec (mag:=pmag a) (by omega) (by omega)
 obtain ⟨n,n1,n2,_⟩:=jz_spec (mag:=pmag b) (by omega) (by omega)
 rw [decide_eq_false hm,decide_eq_false hn,Bool.false_or,Bool.false_or,decide_eq_true_iff]
 rw [k_form m1] at fa
 rw [k_form n1] at fb
 have hd:(∃ T,2 ^ 1074 * T=iV a * iV b) ↔ (2 ^ 1074:Int) ∣ ((iV a).natAbs:Int) * ((iV b).natAbs:Int):=by
  rw [<- Int.natCast_mul,<- Int.natAbs_mul,Int.dvd_natAbs]
  exact ⟨fun ⟨T,h⟩=>⟨T,h.symm⟩,fun ⟨T,h⟩=>⟨T,h.symm⟩⟩
 rw [hd,fa,fb,k_form2]
 constructor
 ·intro h
  exact Int.dvd_trans (p2dvd (by omega)) ⟨_,rfl⟩
 ·intro h
  have:=dvd_odd h
  omega
end Go.Proofs.YtinccocmgkjalaaGreatDoor
namespace Go.Proofs.YtinccocmgkjalaaGreatDoor
open Go Go.RowKit Go.Proofs.YtinccocmgkjalaaGreatDoor.M
end Go.Proofs.YtinccocmgkjalaaGreatDoor
namespace Go.Proofs.YtinccocmgkjalaaGreatDoor
open Go Go.RowKit Go.Proofs.YtinccocmgkjalaaGreatDoor.M Ieee
theorem hold6_of {W : World} (h : laidMetH Tryz.prog [("math/bits.deBruijn32tab", Rows.laid_math_bits_deBruijn32tab), ("math/bits.deBruijn64tab", Rows.laid_math_bits_deBruijn64tab), ("plumb/bits.binary64", Rows.laid_plumb_bits_binary64)] W) : Hold4 W := by
 have k:=hold_of h
 exact ⟨k.lay,k.tab,⟨⟨k.lay.a0,k.lay.a1,k.lay.a2,trivial,trivial,trivial⟩,k.tab⟩⟩
theorem told_ok {a:Int} (h:pok a=true) (ha:M.rng a):told a=a:=by
 unfold told; rw [if_neg (fin_cls ha h).1]
theorem sL_rng {p q:Int} (hp:M.rng p) (hq:M.rng q):M.rng (sL p q):=by
 have rh:=fsum_rng hp hq
 have rv:M.rng (sV p q):=fsum_rng rh (neg_rng hp)
 exact fsum_rng (fsum_rng hp (neg_rng (fsum_rng rh (neg_rng rv)))) (fsum_rng hq (neg_rng rv))
theorem fL_rng {p q:Int} (hp:M.rng p) (hq:M.rng q):M.rng (fL p q):=fsum_rng hq (neg_rng (fsum_rng (fsum_rng hp hq) (neg_rng hp)))
theorem sp_rng {p:Int} (hp:M.rng p):M.rng (spH p)∧M.rng (spL p):=by
 have rc:M.rng (cC p):=fprod_rng spl_rng hp
 have rd:=fsum_rng rc (neg_rng hp)
 have rH:M.rng (spH p):=fsum_rng rc (neg_rng rd)
 exact ⟨rH,fsum_rng hp (neg_rng rH)⟩
theorem prL_rng {p q:Int} (hp:M.rng p) (hq:M.rng q):M.rng (prL p q):=by
 obtain ⟨rP,rQ⟩:=sp_rng hp
 obtain ⟨rR,rS⟩:=sp_rng hq
 have rT1:M.rng (pT1 p q):=fsum_rng (fprod_rng hp hq) (neg_rng (fprod_rng rP rR))
 have rT2:M.rng (pT2 p q):=fsum_rng rT1 (neg_rng (fprod_rng rQ rR))
 have rT3:M.rng (pT3 p q):=fsum_rng rT2 (neg_rng (fprod_rng rP rS))
 exact fsum_rng (fprod_rng rQ rS) (neg_rng rT3)
end Go.Proofs.YtinccocmgkjalaaGreatDoor
namespace Go.Proofs.YtinccocmgkjalaaGreatDoor.M
open Go Ieee
theorem q_rg {b:Int} (h:rng b):rng (rg b)∧0 <= rg b:=by unfold rng rg at *; split <;> omega
theorem q_cls {b:Int} (h:rng b):cls (rg b)=cls b:=by
 unfold rng at h; unfold cls rg fld frc
 by_cases h0:b < 0
 ·rw [if_pos h0,show (b + 9223372036854775808) / 4503599627370496 % 2048=b / 4503599627370496 % 2048 from by omega,show (b + 9223372036854775808) % 4503599627370496=b % 4503599627370496 from by omega]
 ·rw [if_neg h0]
theorem q_wd {b:Int} (h:rng b):wd b % 9223372036854775808=wd (rg b):=by unfold rng rg wd at *; split <;> omega
theorem q_key {b:Int} (h:0 <= b):key b=b:=by unfold key; rw [if_neg (by omega)]
theorem q_wdlt (b:Int):wd b < 18446744073709551616:=by unfold wd; omega
theorem q_abs {b:Int} (h:rng b):(bits .andNot .u64 (wd b) 9223372036854775808).toNat=wd (rg b):=by
 have e:=q_wd h
 have l:=q_wdlt b
 rw [<- e]
 show (IntKind.u64.wrap (((BitVec.ofInt 64 (wd b:Int) &&& ~~~ BitVec.ofInt 64 9223372036854775808).toNat:Nat):Int)).toNat=_
 rw [BitVec.toNat_and,BitVec.toNat_not,ofInt64_toNat,ofInt64_toNat,show (2 ^ 64 - 1 - ((9223372036854775808:Int) % 18446744073709551616).toNat)=2 ^ 63 - 1 from by decide,Nat.and_two_pow_sub_one_eq_mod,IntKind.wrap_u64]
 omega
theorem q_fin {b:Int} (h:pok b=true):¬ cls b=4:=by
 have:=pparts h
 unfold cls; rw [if_neg this]; split
 ·split <;> omega
 ·omega
theorem q_lt {a b:Int} (ha:rng a) (hb:rng b) (h1:¬ cls a=4) (h2:¬ cls b=4) (h:key a < key b):FloatKind.f64.format.order (wd a) (wd b)=some .lt:=by rw [order64 ha hb h1 h2,compare_lt h]
theorem q_gt {a b:Int} (ha:rng a) (hb:rng b) (h1:¬ cls a=4) (h2:¬ cls b=4) (h:key b < key a):FloatKind.f64.format.order (wd a) (wd b)=some .gt:=by rw [order64 ha hb h1 h2,compare_gt h]
theorem q_eq {a b:Int} (ha:rng a) (hb:rng b) (h1:¬ cls a=4) (h2:¬ cls b=4) (h:key a=key b):FloatKind.f64.format.order (wd a) (wd b)=some .eq:=by rw [order64 ha hb h1 h2,compare_eq h]
def pcmp (ax ay bx by':Int):Int:=if key ax=key bx then cmp (key ay) (key by') else cmp (key ax) (key bx)
theorem pcmp_any (ax ay bx by':Int):pcmp ax ay bx by'=-1∨pcmp ax ay bx by'=0∨pcmp ax ay bx by'=1:=by
 unfold pcmp cmp; repeat' split
 all_goals omega
theorem rng_key {b:Int} (h:rng b):rng (key b):=by unfold rng key at *; split <;> omega
def tame (b:Int):Bool:=decide (rg b=0) || (decide (3931642474694443008 <= rg b) && decide (rg b < 5282722362905591808))
theorem tame_fld {b:Int} (h:rng b):tame b=(decide (rg b=0) || (decide (873 <= fld b) && decide (fld b < 1173))):=by
 obtain ⟨h0,h1⟩:=rg_parts h
 have h2:0 <= frc b∧frc b < 4503599627370496:=by unfold frc; omega
 unfold tame
 congr 1
 congr 1
 ·apply decide_eq_decide.2; omega
 ·apply decide_eq_decide.2; omega
theorem pok_rg' {b:Int} (h:rng b):pok b=decide (rg b <= 9218868437227405311):=by
 obtain ⟨h0,h1⟩:=rg_parts h
 have h2:0 <= frc b∧frc b < 4503599627370496:=by unfold frc; omega
 have h3:0 <= fld b∧fld b < 2048:=by unfold fld; omega
 unfold pok
 by_cases e:fld b=2047
 ·simp [e]; omega
 ·simp [e]; omega
end Go.Proofs.YtinccocmgkjalaaGreatDoor.M
namespace Go.Proofs.YtinccocmgkjalaaGreatDoor
open Go Go.RowKit Go.Proofs.YtinccocmgkjalaaGreatDoor.M
structure Ls where
 n:Nat
 d:Nat->Int
def Ls.add (s:Ls) (b:Int):Ls:=if rg b=0 then s else ⟨s.n + 1,upd s.d s.n b⟩
theorem Ls.add_le (s:Ls) (b:Int):s.n <= (s.add b).n∧(s.add b).n <= s.n + 1:=by
 unfold Ls.add
 split
 ·exact ⟨Nat.le_refl _,Nat.le_succ _⟩
 ·exact ⟨Nat.le_succ _,Nat.le_refl _⟩
def Ls.same (s t:Ls):Prop:=s.n=t.n∧∀ i,i < s.n->s.d i=t.d i
theorem Ls.same.add {s t:Ls} (h:s.same t) (b:Int):(s.add b).same (t.add b):=by
 unfold Ls.add
 split
 ·exact h
 ·refine ⟨by show s.n + 1=t.n + 1; rw [h.1],fun i hi=>?_⟩
  show upd s.d s.n b i=upd t.d t.n b i
  by_cases e:i=s.n
  ·subst e; rw [upd_same,h.1,upd_same]
  ·rw [upd_other _ _ e,upd_other _ _ (by rw [<- h.1]; exact e)]
   exact h.2 i (by have:i < s.n + 1:=hi; omega)
def gq (d:Nat->Int) (q:Int):Nat->Int
 | 0=>q
 | k + 1=>fsum (gq d q k) (d k)
def gl (d:Nat->Int) (q:Int) (k:Nat):Int:=sL (gq d q k) (d k)
def gs (d:Nat->Int) (q:Int):Nat->Ls
 | 0=>⟨0,d⟩
 | k + 1=>(gs d q k).add (gl d q k)
def gx (d:Nat->Int) (q:Int):Nat->Bool
 | 0=>true
 | k + 1=>gx d q k && pok (gl d q k)
def grw (n:Nat) (d:Nat->Int) (q:Int):Ls:=(gs d q n).add (gq d q n)
theorem gs_le (d:Nat->Int) (q:Int):∀ k,(gs d q k).n <= k
 | 0=>Nat.le_refl _
 | k + 1=>by
  have h1:=gs_le d q k
  have h2:=((gs d q k).add_le (gl d q k)).2
  show ((gs d q k).add _).n <= k + 1
  omega
theorem gs_tail (d:Nat->Int) (q:Int):∀ k i,k <= i->(gs d q k).d i=d i
 | 0,i,_=>rfl
 | k + 1,i,h=>by
  have h1:=gs_le d q k
  show ((gs d q k).add _).d i=d i
  unfold Ls.add
  split
  ·exact gs_tail d q k i (by omega)
  ·show upd _ _ _ i=d i
   rw [upd_other _ _ (by omega)]
   exact gs_tail d q k i (by omega)
theorem gx_mono {d:Nat->Int} {q:Int}:∀ {k j},j <= k->gx d q k=true->gx d q j=true
 | 0,j,h,hx=>by
  obtain rfl:j=0:=by omega
  rfl
 | k + 1,j,h,hx=>by
  by_cases e:j=k + 1
  ·subst e; exact hx
  ·have:(gx d q k && pok (gl d q k))=true:=hx
   rw [Bool.and_eq_true] at this
   exact gx_mono (by omega) this.1
theorem gq_fin {d:Nat->Int} {q:Int} {n:Nat} (hd:∀ i,i < n->rng (d i)∧pok (d i)=true) (hq:rng q) (pq:pok q=true):∀ k,k <= n->gx d q k=true->rng (gq d q k)∧pok (gq d q k)=true
 | 0,_,_=>⟨hq,pq⟩
 | k + 1,hk,hx=>by
  have hx':(gx d q k && pok (gl d q k))=true:=hx
  rw [Bool.and_eq_true] at hx'
  obtain ⟨r1,r2⟩:=gq_fin hd hq pq k (by omega) hx'.1
  obtain ⟨d1,d2⟩:=hd k (by omega)
  exact ⟨fsum_rng r1 d1,(sL_exact r1 d1 hx'.2).2.1⟩
theorem nought_order {b:Int} (hb:rng b):(FloatKind.f64.format.order (wd b) 0 == some .eq)=decide (rg b=0):=by
 have h:=same_order hb (show rng 0 by unfold rng; omega)
 rw [show wd 0=0 by decide] at h
 rw [h]
 unfold same
 have hk:key 0=0:=by decide
 have c0:¬ cls 0=4:=by decide
 by_cases h4:cls b=4
 ·have:rg b ≠ 0:=fun e=>by
   have:=q_cls hb
   rw [e] at this
   rw [<- this] at h4
   exact c0 h4
  simp [h4,this]
 ·have e:(key b=key 0) ↔ rg b=0:=by
   rw [hk]
   unfold rng at hb
   unfold key rg
   split <;> omega
  by_cases hz:rg b=0
  ·simp [h4,c0,hz,e.2 hz]
  ·have:¬ key b=key 0:=fun q=>hz (e.1 q)
   simp [h4,c0,hz,this]
theorem mathAbs {b:Int} (hb:rng b) (w:World) :
  Calls Tryz.prog 34 #[.float .f64 (wd b)] w fun e w'=>e=.returned (.float .f64 (wd (rg b)))∧w'=w:=by
 have h1:=run_bits64
 have h2:=run_from64
 go_enter Tryz.func34,Tryz.ntmps34
 go_wp2
 go_ret
 exact ⟨ret_float (q_abs hb),rfl⟩
theorem q_finite {b:Int} (hb:rng b) (w:World) :
  Calls Tryz.prog 56 #[.float .f64 (wd b)] w fun e w'=>e=.returned (.bool (pok b))∧w'=w:=by
 have n0:=no64 hb
 obtain ⟨r1,r2⟩:=q_rg hb
 by_cases h4:cls b=4
 ·have n1:(FloatKind.f64.format.order (wd b) (wd b) != some .eq)=true:=by rw [n0]; simp [h4]
  have hp:pok b=false:=by
   cases h:pok b
   ·rfl
   ·exact absurd h4 (q_fin h)
  clear n0
  go_enter Tryz.func56,Tryz.ntmps56
  go_wp2
  go_ret
  exact ⟨b_ret_bool hp.symm,rfl⟩
 ·have n1:(FloatKind.f64.format.order (wd b) (wd b) != some .eq)=false:=by rw [n0]; simp [h4]
  have c1:¬ cls (rg b)=4:=by rw [q_cls hb]; exact h4
  have c2:¬ cls 9218868437227405311=4:=by decide
  have r3:rng 9218868437227405311:=by unfold rng; omega
  have k1:=q_key r2
  have k2:key 9218868437227405311=9218868437227405311:=by decide
  have e2:wd 9218868437227405311=9218868437227405311:=by decide
  have hp:=pok_rg' hb
  clear n0
  rcases Int.lt_trichotomy (rg b) 9218868437227405311 with h | h | h
  ·have o:=q_lt r1 r3 c1 c2 (by rw [k1,k2]; exact h)
   rw [e2] at o
   have hp':pok b=true:=by rw [hp]; simp; omega
   clear hp
   go_enter Tryz.func56,Tryz.ntmps56
   go_wp2_with (go_at_call 34; refine (mathAbs hb _).mono ?_; rintro _ _ ⟨rfl,rfl⟩)
   go_ret
   exact ⟨b_ret_bool hp'.symm,rfl⟩
  ·have o:=q_eq r1 r3 c1 c2 (by rw [k1,k2]; exact h)
   rw [e2] at o
   have hp':pok b=true:=by rw [hp]; simp; omega
   clear hp
   go_enter Tryz.func56,Tryz.ntmps56
   go_wp2_with (go_at_call 34; refine (mathAbs hb _).mono ?_; rintro _ _ ⟨rfl,rfl⟩)
   go_ret
   exact ⟨b_ret_bool hp'.symm,rfl⟩
  ·have o:=q_gt r1 r3 c1 c2 (by rw [k1,k2]; exact h)
   rw [e2] at o
   have hp':pok b=false:=by rw [hp]; simp; omega
   clear hp
   go_enter Tryz.func56,Tryz.ntmps56
   go_wp2_with (go_at_call 34; refine (mathAbs hb _).mono ?_; rintro _ _ ⟨rfl,rfl⟩)
   go_ret
   exact ⟨b_ret_bool hp'.symm,rfl⟩
theorem pointTame {b:Int} (hb:rng b) (w:World) :
  Calls Tryz.prog 33 #[.int .i64 b] w fun e w'=>e=.returned (.bool (tame b))∧w'=w:=by
 obtain ⟨r1,r2⟩:=q_rg hb
 have k1:=q_key r2
 have z1:wd 0=0:=by decide
 have z2:wd 3931642474694443008=3931642474694443008:=by decide
 have z3:wd 5282722362905591808=5282722362905591808:=by decide
 have s1:=same_order r1 (show rng 0 by unfold rng; omega)
 have s2:=less_order r1 (show rng 5282722362905591808 by unfold rng; omega)
 have o0:=@order64_nan
 by_cases h4:cls (rg b)=4
 ·have o1:=order64_nan r1 (show rng 0 by unfold rng; omega) (.inl h4)
  have o2:=order64_nan (show rng 3931642474694443008 by unfold rng; omega) r1 (.inr h4)
  rw [z1] at o1
  rw [z2] at o2
  have ht:tame b=false:=by
   have h5:cls b=4:=by rw [<- q_cls hb]; exact h4
   have h6:fld b=2047:=by
    unfold cls at h5; split at h5
    ·assumption
    ·split at h5
     ·split at h5 <;> omega
     ·omega
   have:=rg_parts hb
   have h7:0 <= frc b∧frc b < 4503599627370496:=by unfold frc; omega
   rw [tame_fld hb,h6]
   simp
   omega
  clear s1 s2 o0
  go_enter Tryz.func33,Tryz.ntmps33
  go_wp2_with (first
   | (go_at_call 32; refine (bitsFloat _ _).mono ?_; rintro _ _ ⟨rfl,rfl⟩)
   | (go_at_call 34; refine (mathAbs hb _).mono ?_; rintro _ _ ⟨rfl,rfl⟩))
  go_ret
  exact ⟨b_ret_bool ht.symm,rfl⟩
 ·have c0:¬ cls 0=4:=by decide
  have c2:¬ cls 3931642474694443008=4:=by decide
  have c3:¬ cls 5282722362905591808=4:=by decide
  have y0:rng 0:=by unfold rng; omega
  have y2:rng 3931642474694443008:=by unfold rng; omega
  have y3:rng 5282722362905591808:=by unfold rng; omega
  have m0:key 0=0:=by decide
  have m2:key 3931642474694443008=3931642474694443008:=by decide
  have m3:key 5282722362905591808=5282722362905591808:=by decide
  clear s1 s2 o0
  by_cases e0:rg b=0
  ·have o1:=q_eq r1 y0 h4 c0 (by rw [k1,m0]; exact e0)
   rw [z1] at o1
   have ht:tame b=true:=by unfold tame; simp [e0]
   go_enter Tryz.func33,Tryz.ntmps33
   go_wp2_with (first
    | (go_at_call 32; refine (bitsFloat _ _).mono ?_; rintro _ _ ⟨rfl,rfl⟩)
    | (go_at_call 34; refine (mathAbs hb _).mono ?_; rintro _ _ ⟨rfl,rfl⟩))
   go_ret
   exact ⟨b_ret_bool ht.symm,rfl⟩
  have o1:=q_gt r1 y0 h4 c0 (by rw [k1,m0]; omega)
  rw [z1] at o1
  by_cases e1:rg b < 3931642474694443008
  ·have o2:=q_gt y2 r1 c2 h4 (by rw [k1,m2]; exact e1)
   rw [z2] at o2
   have ht:tame b=false:=by unfold tame; simp [e0]; omega
   go_enter Tryz.func33,Tryz.ntmps33
   go_wp2_with (first
    | (go_at_call 32; refine (bitsFloat _ _).mono ?_; rintro _ _ ⟨rfl,rfl⟩)
    | (go_at_call 34; refine (mathAbs hb _).mono ?_; rintro _ _ ⟨rfl,rfl⟩))
   go_ret
   exact ⟨b_ret_bool ht.symm,rfl⟩
  by_cases e2:rg b=3931642474694443008
  ·have o2:=q_eq y2 r1 c2 h4 (by rw [k1,m2]; exact e2.symm)
   have o3:=q_lt r1 y3 h4 c3 (by rw [k1,m3]; omega)
   rw [z2] at o2
   rw [z3] at o3
   have ht:tame b=true:=by unfold tame; simp [e2]
   go_enter Tryz.func33,Tryz.ntmps33
   go_wp2_with (first
    | (go_at_call 32; refine (bitsFloat _ _).mono ?_; rintro _ _ ⟨rfl,rfl⟩)
    | (go_at_call 34; refine (mathAbs hb _).mono ?_; rintro _ _ ⟨rfl,rfl⟩))
   go_ret
   exact ⟨b_ret_bool ht.symm,rfl⟩
  have o2:=q_lt y2 r1 c2 h4 (by rw [k1,m2]; omega)
  rw [z2] at o2
  rcases Int.lt_trichotomy (rg b) 5282722362905591808 with h | h | h
  ·have o3:=q_lt r1 y3 h4 c3 (by rw [k1,m3]; omega)
   rw [z3] at o3
   have ht:tame b=true:=by unfold tame; simp [e0]; omega
   go_enter Tryz.func33,Tryz.ntmps33
   go_wp2_with (first
    | (go_at_call 32; refine (bitsFloat _ _).mono ?_; rintro _ _ ⟨rfl,rfl⟩)
    | (go_at_call 34; refine (mathAbs hb _).mono ?_; rintro _ _ ⟨rfl,rfl⟩))
   go_ret
   exact ⟨b_ret_bool ht.symm,rfl⟩
  ·have o3:=q_eq r1 y3 h4 c3 (by rw [k1,m3]; omega)
   rw [z3] at o3
   have ht:tame b=false:=by unfold tame; simp [e0]; omega
   go_enter Tryz.func33,Tryz.ntmps33
   go_wp2_with (first
    | (go_at_call 32; refine (bitsFloat _ _).mono ?_; rintro _ _ ⟨rfl,rfl⟩)
    | (go_at_call 34; refine (mathAbs hb _).mono ?_; rintro _ _ ⟨rfl,rfl⟩))
   go_ret
   exact ⟨b_ret_bool ht.symm,rfl⟩
  ·have o3:=q_gt r1 y3 h4 c3 (by rw [k1,m3]; omega)
   rw [z3] at o3
   have ht:tame b=false:=by unfold tame; simp [e0]; omega
   go_enter Tryz.func33,Tryz.ntmps33
   go_wp2_with (first
    | (go_at_call 32; refine (bitsFloat _ _).mono ?_; rintro _ _ ⟨rfl,rfl⟩)
    | (go_at_call 34; refine (mathAbs hb _).mono ?_; rintro _ _ ⟨rfl,rfl⟩))
   go_ret
   exact ⟨b_ret_bool ht.symm,rfl⟩
theorem place_order {ax ay bx by':Int} (hax:rng ax) (hay:rng ay) (hbx:rng bx) (hby:rng by') (pax:pok ax=true) (pay:pok ay=true) (pbx:pok bx=true) (pby:pok by'=true) (w:World) :
  Calls Tryz.prog 20 #[.agg #[.float .f64 (wd ax),.float .f64 (wd ay)],.agg #[.float .f64 (wd bx),.float .f64 (wd by')]] w fun e w'=>e=.returned (.int .i64 (pcmp ax ay bx by'))∧Below w.heap.size w w':=by
 have c1:=q_fin pax
 have c2:=q_fin pay
 have c3:=q_fin pbx
 have c4:=q_fin pby
 rcases Int.lt_trichotomy (key ax) (key bx) with h | h | h
 ·have o1:=q_lt hax hbx c1 c3 h
  have hr:pcmp ax ay bx by'=-1:=by unfold pcmp cmp; rw [if_neg (by omega),if_pos h]
  clear c1 c2 c3 c4
  go_enter Tryz.func20,Tryz.ntmps20
  go_wp2
  go_ret
  exact ⟨b_ret_int hr.symm,bel_alloc2 _ _ _⟩
 ·have o1:=q_eq hax hbx c1 c3 h
  rcases Int.lt_trichotomy (key ay) (key by') with k | k | k
  ·have o2:=q_lt hay hby c2 c4 k
   have hr:pcmp ax ay bx by'=-1:=by unfold pcmp cmp; rw [if_pos h,if_pos k]
   clear c1 c2 c3 c4
   go_enter Tryz.func20,Tryz.ntmps20
   go_wp2
   go_ret
   exact ⟨b_ret_int hr.symm,bel_alloc2 _ _ _⟩
  ·have o2:=q_eq hay hby c2 c4 k
   have hr:pcmp ax ay bx by'=0:=by unfold pcmp cmp; rw [if_pos h,if_neg (by omega),if_neg (by omega)]
   clear c1 c2 c3 c4
   go_enter Tryz.func20,Tryz.ntmps20
   go_wp2
   go_ret
   exact ⟨b_ret_int hr.symm,bel_alloc2 _ _ _⟩
  ·have o2:=q_gt hay hby c2 c4 k
   have hr:pcmp ax ay bx by'=1:=by unfold pcmp cmp; rw [if_pos h,if_neg (by omega),if_pos k]
   clear c1 c2 c3 c4
   go_enter Tryz.func20,Tryz.ntmps20
   go_wp2
   go_ret
   exact ⟨b_ret_int hr.symm,bel_alloc2 _ _ _⟩
 ·have o1:=q_gt hax hbx c1 c3 h
  have hr:pcmp ax ay bx by'=1:=by unfold pcmp cmp; rw [if_neg (by omega),if_neg (by omega),if_pos h]
  clear c1 c2 c3 c4
  go_enter Tryz.func20,Tryz.ntmps20
  go_wp2
  go_ret
  exact ⟨b_ret_int hr.symm,bel_alloc2 _ _ _⟩
theorem q_two_set {p B g o:Nat} {v x0 x1:Value} {W:World} (hg:B <= g) (h:p < B∧B <= W.heap.size∧W.cell? ⟨p,0,none⟩=some x0∧W.cell? ⟨p,1,none⟩=some x1) :
  p < B∧B <= (W.setCell ⟨g,o,none⟩ v).heap.size∧(W.setCell ⟨g,o,none⟩ v).cell? ⟨p,0,none⟩=some x0∧(W.setCell ⟨g,o,none⟩ v).cell? ⟨p,1,none⟩=some x1:=by
 have hw:Wr g W (W.setCell ⟨g,o,none⟩ v):=(Wr.refl g W).setCell o v
 obtain ⟨h1,h2,a0,a1⟩:=h
 have hp:p < W.heap.size:=by omega
 have hne:p ≠ g:=by omega
 exact ⟨h1,Nat.le_trans h2 hw.size,(hw.cell hp hne).trans a0,(hw.cell hp hne).trans a1⟩
theorem q_heap_set {w:World} {g:Nat} {xs:Array Value} {t:TypeId} (h:w.heap[g]?=some (.cells xs t (0,0))) (i:Nat) (v:Value):(w.setCell ⟨g,i,none⟩ v).heap[g]?=some (.cells (xs.setIfInBounds i v) t (0,0)):=by
 simp [World.setCell,Array.getElem?_modify,h]
set_option maxRecDepth 100000 in
theorem place_of (x y:Int) (w:World) :
  Calls Tryz.prog 19 #[.agg #[.int .i64 x,.int .i64 y]] w fun e w'=>e=.returned (.agg #[.float .f64 (wd x),.float .f64 (wd y)])∧Below w.heap.size w w':=by
 have hb2:=bel_alloc2 w (.cells #[.int .i64 x,.int .i64 y] 23) (.cells #[.float .f64 0,.float .f64 0] 52)
 have q0:=heap_a2 w (.cells #[.int .i64 x,.int .i64 y] 23) (.cells #[.float .f64 0,.float .f64 0] 52)
 have q1:=heap_b2 w (.cells #[.int .i64 x,.int .i64 y] 23) (.cells #[.float .f64 0,.float .f64 0] 52)
 have hs:=size2 w (.cells #[.int .i64 x,.int .i64 y] 23) (.cells #[.float .f64 0,.float .f64 0] 52)
 have k0:=blkC q0 0 rfl
 have k1:=blkC q0 1 rfl
 go_enter Tryz.func19,Tryz.ntmps19
 go_wp2_with fail
 generalize (w.alloc (.cells #[.int .i64 x,.int .i64 y] 23)).alloc (.cells #[.float .f64 0,.float .f64 0] 52)=wx at hb2 q0 q1 hs k0 k1 ⊢
 have hc:w.heap.size < w.heap.size + 1∧w.heap.size + 1 <= wx.drew.heap.size∧wx.drew.cell? ⟨w.heap.size,0,none⟩=some (.int .i64 x)∧wx.drew.cell? ⟨w.heap.size,1,none⟩=some (.int .i64 y):=⟨by omega,by show _ <= wx.heap.size; omega,k0,k1⟩
 have d1:wx.drew.heap[w.heap.size + 1]?=some (.cells #[.float .f64 0,.float .f64 0] 52 (0,0)):=q1
 have d2:((wx.setCell ⟨w.heap.size + 1,0,none⟩ (.float .f64 (wd x))).drew).heap[w.heap.size + 1]?=some (.cells #[.float .f64 (wd x),.float .f64 0] 52 (0,0)):=q_heap_set d1 0 (.float .f64 (wd x))
 have d3:(((wx.setCell ⟨w.heap.size + 1,0,none⟩ (.float .f64 (wd x))).setCell ⟨w.heap.size + 1,1,none⟩ (.float .f64 (wd y))).drew).heap[w.heap.size + 1]?=some (.cells #[.float .f64 (wd x),.float .f64 (wd y)] 52 (0,0)):=q_heap_set d2 1 (.float .f64 (wd y))
 have f0:=blkC d1 0 rfl
 have z0:=blkF d1 0
 have f1:=blkC d2 1 rfl
 have z1:=blkF d2 1
 have s0:(store ⟨w.heap.size + 1,0,none⟩ (.float .f64 (wd x))).run Tryz.prog wx.drew=.ok () ((wx.setCell ⟨w.heap.size + 1,0,none⟩ (.float .f64 (wd x))).drew):=by rw [run_store _ _ _ _ _ rfl,f0]; simp only [z0]; rfl
 have s1:(store ⟨w.heap.size + 1,1,none⟩ (.float .f64 (wd y))).run Tryz.prog ((wx.setCell ⟨w.heap.size + 1,0,none⟩ (.float .f64 (wd x))).drew)=.ok () (((wx.setCell ⟨w.heap.size + 1,0,none⟩ (.float .f64 (wd x))).setCell ⟨w.heap.size + 1,1,none⟩ (.float .f64 (wd y))).drew):=by rw [run_store _ _ _ _ _ rfl,f1]; simp only [z1]; rfl
 have hbe:Below w.heap.size w (((wx.setCell ⟨w.heap.size + 1,0,none⟩ (.float .f64 (wd x))).setCell ⟨w.heap.size + 1,1,none⟩ (.float .f64 (wd y))).drew):=((hb2.setCell (p:=⟨w.heap.size + 1,0,none⟩) (Nat.le_succ _) (.float .f64 (wd x))).setCell (p:=⟨w.heap.size + 1,1,none⟩) (Nat.le_succ _) (.float .f64 (wd y))).drew
 go_region_held3 (fun W=>w.heap.size < w.heap.size + 1∧w.heap.size + 1 <= W.heap.size∧W.cell? ⟨w.heap.size,0,none⟩=some (.int .i64 x)∧W.cell? ⟨w.heap.size,1,none⟩=some (.int .i64 y))
  (first | assumption | (repeat (first | exact hc | refine q_two_set (by omega) ?_)))
  ((go_at_call 32; refine (bitsFloat _ _).mono ?_; rintro _ _ ⟨rfl,rfl⟩))
 have e0:=blkC d3 0 rfl
 have e1:=blkC d3 1 rfl
 clear s0 s1 f0 f1 z0 z1 d1 d2 d3
 generalize ((wx.setCell ⟨w.heap.size + 1,0,none⟩ (.float .f64 (wd x))).setCell ⟨w.heap.size + 1,1,none⟩ (.float .f64 (wd y))).drew=wy at *
 go_wp2
 refine bodyPost_ret (v:=.agg #[.float .f64 (wd x),.float .f64 (wd y)]) (by simp [results,Tryz.results19,go_sem,e0,e1]) rfl ⟨rfl,hbe⟩
def errF (b:Bool):Int:=if b then 0 else 10
def allFin (d:Nat->Int) (n:Nat):Bool:=decide (∀ i,i < n->pok (d i)=true)
set_option maxRecDepth 100000 in
theorem q_checked (ao:Option Addr) (n cap:Nat) (d:Nat->Int) (w:World) (h:Row w ao n cap d) (hd:∀ i,i < n->rng (d i)) :
  Calls Tryz.prog 31 #[.slice ao n cap] w fun e w'=>e=.returned (.int .i64 (errF (allFin d n)))∧w'=w:=by
 have hl:=h.le
 have hm:=h.max
 go_enter Tryz.func31,Tryz.ntmps31
 go_wp2_with fail
 go_loop [7] (fun i=>∃ k:Nat,k <= n∧i=.int .i64 k∧Hid (∀ j,j < k->pok (d j)=true)) (fun i=>n - (intOf i).toNat)
 case atStart=>exact ⟨0,Nat.zero_le _,rfl,fun j hj=>by omega⟩
 case round=>
  obtain ⟨k,hk,rfl,HO⟩:=hrel
  by_cases hlt:k < n
  ·obtain ⟨b,off,rfl,hb,hc⟩:=h.spot (by omega)
   have c0:=hc k hlt
   have hr:=hd k hlt
   by_cases hok:pok (d k)=true
   ·go_wp2_with (first
     | (go_at_call 32; refine (bitsFloat _ _).mono ?_; rintro _ _ ⟨rfl,rfl⟩)
     | (go_at_call 56; refine (q_finite hr _).mono ?_; rintro _ _ ⟨rfl,rfl⟩))
    go_round
    case rel=>exact ⟨k + 1,by omega,by go_num,fun j hj=>by
      by_cases e:j=k
      ·subst e; exact hok
      ·exact HO.out j (by omega)⟩
    case measure=>simp [intOf]; omega
   ·have hok':pok (d k)=false:=by simpa using hok
    go_wp2_with (first
     | (go_at_call 32; refine (bitsFloat _ _).mono ?_; rintro _ _ ⟨rfl,rfl⟩)
     | (go_at_call 56; refine (q_finite hr _).mono ?_; rintro _ _ ⟨rfl,rfl⟩))
    go_ret
    exact ⟨b_ret_int (by
     unfold errF
     rw [if_neg]
     intro hx
     exact hok (of_decide_eq_true hx k hlt)),rfl⟩
  ·obtain rfl:k=n:=by omega
   go_wp2
   go_ret
   exact ⟨b_ret_int (by unfold errF; rw [if_pos (show allFin d k=true from decide_eq_true HO.out)]),rfl⟩
theorem allFin2 (x y:Int):allFin (fun i=>if i=0 then x else y) 2=(pok x && pok y):=by
 unfold allFin
 rw [Bool.eq_iff_iff]
 simp
 constructor
 ·intro h
  exact ⟨by simpa using h 0 (by omega),by simpa using h 1 (by omega)⟩
 ·rintro ⟨h1,h2⟩ i hi
  split
  ·exact h1
  ·exact h2
theorem q_row2 (w:World) (o:Obj) (x y:Int) (t:TypeId):Row ((w.alloc o).alloc (.cells #[.int .i64 x,.int .i64 y] t)) (some ⟨w.heap.size + 1,0,none⟩) 2 2 (fun i=>if i=0 then x else y) :=
 ⟨by omega,by omega,(fun h=>by cases h),fun _=>⟨_,_,rfl,by simp,fun i hi=>by
  have e:((w.alloc o).alloc (.cells #[.int .i64 x,.int .i64 y] t)).heap[w.heap.size + 1]?=some (.cells #[.int .i64 x,.int .i64 y] t):=heap_b2 w o _
  unfold World.cell?
  rw [show ((⟨w.heap.size + 1,0 + i,none⟩:Addr)).block=w.heap.size + 1 from rfl,e]
  match i,hi with
  | 0,_=>rfl
  | 1,_=>rfl⟩⟩
set_option maxRecDepth 100000 in
theorem pointCheck {x y:Int} (hx:rng x) (hy:rng y) (w:World) :
  Calls Tryz.prog 18 #[.agg #[.int .i64 x,.int .i64 y]] w fun e w'=>e=.returned (.int .i64 (errF (pok x && pok y)))∧Below w.heap.size w w':=by
 have hr:=q_row2 w (.cells #[.int .i64 x,.int .i64 y] 23) x y 3
 have e2:=allFin2 x y
 go_enter Tryz.func18,Tryz.ntmps18
 go_wp2_with fail
 refine (q_checked _ _ _ _ _ hr (fun i _=>by show rng (if i=0 then x else y); split <;> assumption)).mono ?_
 rintro _ _ ⟨rfl,rfl⟩
 go_wp2
 go_ret
 exact ⟨b_ret_int (by rw [<- e2]),bel_alloc2 _ _ _⟩
def gaveX:Ending:=.panicked [{ v:=.iface 25 (.int .i64 14),recovered:=false }]
theorem xnought {b:Int} (hb:rng b) (w:World) :
  Calls Tryz.prog 167 #[.int .i64 b] w fun e w'=>e=.returned (.bool (decide (rg b=0)))∧w'=w:=by
 have ho:=nought_order hb
 generalize decide (rg b=0)=Z at *
 go_enter Tryz.func167,Tryz.ntmps167
 go_wp2_with (go_at_call 32; refine (bitsFloat _ _).mono ?_; rintro _ _ ⟨rfl,rfl⟩)
 go_ret
 exact ⟨b_ret_bool (by first | rfl | simp [ho]),rfl⟩
theorem xsure_yes (h l:Int) (w:World) :
  Calls Tryz.prog 168 #[.int .i64 h,.int .i64 l,.bool true] w fun e w'=>e=.returned (.tuple #[.int .i64 h,.int .i64 l])∧w'=w:=by
 go_enter Tryz.func168,Tryz.ntmps168
 go_wp2
 refine bodyPost_ret (v:=.tuple #[.int .i64 h,.int .i64 l]) (by simp [results,Tryz.results168,go_sem]) rfl ⟨rfl,rfl⟩
theorem xsure_no (h l:Int) (w:World) :
  Calls Tryz.prog 168 #[.int .i64 h,.int .i64 l,.bool false] w fun e w'=>e=gaveX∧w'=w:=by
 go_enter Tryz.func168,Tryz.ntmps168
 go_wp2
 exact ⟨rfl,rfl,rfl⟩
structure Own (B:Nat) (w:World) (v:Value) (w':World) (v':Value) (s:Ls):Prop where
 out:Out B w' v' s.n s.d
 gr:w.grownBy w' v.ownBlock
 at':v'.ownBlock=v.ownBlock∨∀ k,v'.ownBlock=some k->w.heap.size <= k
theorem Own.refl {B:Nat} {w:World} {v:Value} {s:Ls} (h:Out B w v s.n s.d):Own B w v w v s:=⟨h,World.grownBy.refl _ _,.inl rfl⟩
theorem Own.below {B:Nat} {w w':World} {v v':Value} {s:Ls} (h:Own B w v w' v' s) (hO:∀ k,v.ownBlock=some k->B <= k) (hB:B <= w.heap.size):Below B w w' :=
 (Below.refl B w).grown h.gr hB hO
theorem grown_past {w w1:World} {o:Obj} {k:Option Nat} (h:(w.alloc o).grownBy w1 k):w.grownBy w1 k:=by
 have ha:=bel_alloc w o
 exact ⟨h.os.trans ha.os,h.tape.trans ha.tape,h.output.trans ha.output,Nat.le_trans ha.size h.size,fun k hk hne=>(h.block k (Nat.lt_of_lt_of_le hk ha.size) hne).trans (ha.block k hk)⟩
set_option maxRecDepth 100000 in
theorem xadd_any {B:Nat} {v:Value} {s:Ls} {b:Int} (w:World) (h:Out B w v s.n s.d) (hb:rng b) (hn:s.n <= 900000) (hB:B <= w.heap.size) :
  Calls Tryz.prog 169 #[v,.int .i64 b] w fun e w'=>∃ v',e=.returned v'∧Out B w' v' (s.add b).n (s.add b).d∧w.grownBy w' v.ownBlock:=by
 have hz:=fun W=>xnought hb W
 by_cases h0:rg b=0
 ·have e:s.add b=s:=by unfold Ls.add; rw [if_pos h0]
  rw [decide_eq_true h0] at hz
  rw [e]
  go_enter Tryz.func169,Tryz.ntmps169
  go_wp2_with (go_at_call 167; refine (hz _).mono ?_; rintro _ _ ⟨rfl,rfl⟩)
  go_ret
  exact ⟨v,rfl,h,World.grownBy.refl _ _⟩
 ·have e:s.add b=⟨s.n + 1,upd s.d s.n b⟩:=by unfold Ls.add; rw [if_neg h0]
  rw [decide_eq_false h0] at hz
  rw [e]
  go_enter Tryz.func169,Tryz.ntmps169
  go_wp2_with (first
   | (go_at_call 167; refine (hz _).mono ?_; rintro _ _ ⟨rfl,rfl⟩)
   | (at_builtin; refine wpList_app rfl _ _ rfl B _ s.n s.d rfl (h.stays (bel_alloc _ _)) _ 1 1 (fun _=>b) rfl (row1 _ _ rfl) (by omega) (by simp; omega) ?_; intro v' w1 hO1 hg1))
  go_ret
  refine ⟨v',rfl,hO1.congr fun i hi=>?_,?_⟩
  ·by_cases e:i < s.n
   ·simp [cat,e,upd_other s.d _ (show i ≠ s.n by omega)]
   ·obtain rfl:i=s.n:=by omega
    simp [cat,upd_same]
  ·exact grown_past hg1
end Go.Proofs.YtinccocmgkjalaaGreatDoor
