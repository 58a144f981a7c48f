/- Parts of the proof. -/
import Derived.Test.YtijiabajfgnaoaaGreatDoorPart7
import Derived.Laws.MakeOwn
import Derived.Lib.AppendZerosOnto
set_option linter.unusedVariables false
set_option linter.unusedSimpArgs false
namespace Go.Proofs.YtijiabajfgnaoaaGreatDoor
open Go Go.RowKit Go.Proofs.YtijiabajfgnaoaaGreatDoor.M Ieee
theorem xk_fw {p r:Int} {c:Nat} (h:FW p c) (hr:patW c=r) (hn:c % 9223372036854775808 <= 9218868437227405312):p=r:=by
  rcases h with ⟨_,hp,e⟩ | ⟨_,hN⟩
  . rw [<- hr,e,patW_wd hp]
  . have:=hN.2; omega
theorem xk_fsum {p q r:Int} {x y c:Nat} (hp:FW p x) (hq:FW q y) (h:Ieee.double.add x y=some c) (hr:patW c=r) (hn:c % 9223372036854775808 <= 9218868437227405312):fsum p q=r:=by
  rcases add_FW hp hq with ⟨z,e,f⟩ | ⟨e,_⟩
  . rw [h] at e; cases e; exact xk_fw f hr hn
  . rw [h] at e; cases e
theorem xk_fprod {p q r:Int} {x y c:Nat} (hp:FW p x) (hq:FW q y) (h:Ieee.double.mul x y=some c) (hr:patW c=r) (hn:c % 9223372036854775808 <= 9218868437227405312):fprod p q=r:=by
  rcases mul_FW hp hq with ⟨z,e,f⟩ | ⟨e,_⟩
  . rw [h] at e; cases e; exact xk_fw f hr hn
  . rw [h] at e; cases e
theorem xk_w1:FW 4336966441157787648 4336966441157787648:=.inl ⟨by decide,by unfold rng; decide,by decide⟩
theorem xk_w2:FW 4607182418800017408 4607182418800017408:=.inl ⟨by decide,by unfold rng; decide,by decide⟩
theorem xk_s3:fsum 4336966441157787648 4607182418800017408=4607182418800017408:=xk_fsum xk_w1 xk_w2 (c:=4607182418800017408) (by decide +kernel) (by decide) (by decide)
theorem xk_n4336966441157787648:M.neg 4336966441157787648=(-4886405595696988160):=by decide
theorem xk_w4:FW (-4886405595696988160) 13560338478012563456:=.inl ⟨by decide,by unfold rng; decide,by decide⟩
theorem xk_s4:fsum 4607182418800017408 (-4886405595696988160)=4607182418800017408:=xk_fsum xk_w2 xk_w4 (c:=4607182418800017408) (by decide +kernel) (by decide) (by decide)
theorem xk_sV4336966441157787648_4607182418800017408:sV 4336966441157787648 4607182418800017408=4607182418800017408:=by unfold sV; simp only [xk_s3,xk_n4336966441157787648,xk_s4]
theorem xk_n4607182418800017408:M.neg 4607182418800017408=(-4616189618054758400):=by decide
theorem xk_w7:FW (-4616189618054758400) 13830554455654793216:=.inl ⟨by decide,by unfold rng; decide,by decide⟩
theorem xk_s5:fsum 4607182418800017408 (-4616189618054758400)=0:=xk_fsum xk_w2 xk_w7 (c:=0) (by decide +kernel) (by decide) (by decide)
theorem xk_n0:M.neg 0=(-9223372036854775808):=by decide
theorem xk_w9:FW (-9223372036854775808) 9223372036854775808:=.inl ⟨by decide,by unfold rng; decide,by decide⟩
theorem xk_s6:fsum 4336966441157787648 (-9223372036854775808)=4336966441157787648:=xk_fsum xk_w1 xk_w9 (c:=4336966441157787648) (by decide +kernel) (by decide) (by decide)
theorem xk_w10:FW 0 0:=.inl ⟨by decide,by unfold rng; decide,by decide⟩
theorem xk_s7:fsum 4336966441157787648 0=4336966441157787648:=xk_fsum xk_w1 xk_w10 (c:=4336966441157787648) (by decide +kernel) (by decide) (by decide)
theorem xk_sL4336966441157787648_4607182418800017408:sL 4336966441157787648 4607182418800017408=4336966441157787648:=by unfold sL; simp only [xk_sV4336966441157787648_4607182418800017408,xk_s3,xk_n4607182418800017408,xk_s5,xk_n0,xk_s6,xk_s7]
theorem xk_w12:FW 4611686018427387904 4611686018427387904:=.inl ⟨by decide,by unfold rng; decide,by decide⟩
theorem xk_s8:fprod 4336966441157787648 4611686018427387904=4341470040785158144:=xk_fprod xk_w1 xk_w12 (c:=4341470040785158144) (by decide +kernel) (by decide) (by decide)
theorem xk_w13:FW 4728779608772575232 4728779608772575232:=.inl ⟨by decide,by unfold rng; decide,by decide⟩
theorem xk_s9:fprod 4728779608772575232 4336966441157787648=4458563631130345472:=xk_fprod xk_w13 xk_w1 (c:=4458563631130345472) (by decide +kernel) (by decide) (by decide)
theorem xk_w14:FW 4458563631130345472 4458563631130345472:=.inl ⟨by decide,by unfold rng; decide,by decide⟩
theorem xk_s10:fsum 4458563631130345472 (-4886405595696988160)=4458563631096791040:=xk_fsum xk_w14 xk_w4 (c:=4458563631096791040) (by decide +kernel) (by decide) (by decide)
theorem xk_n4458563631096791040:M.neg 4458563631096791040=(-4764808405757984768):=by decide
theorem xk_w16:FW (-4764808405757984768) 13681935667951566848:=.inl ⟨by decide,by unfold rng; decide,by decide⟩
theorem xk_s11:fsum 4458563631130345472 (-4764808405757984768)=4336966441157787648:=xk_fsum xk_w14 xk_w16 (c:=4336966441157787648) (by decide +kernel) (by decide) (by decide)
theorem xk_s12:fsum 4336966441157787648 (-4886405595696988160)=0:=xk_fsum xk_w1 xk_w4 (c:=0) (by decide +kernel) (by decide) (by decide)
theorem xk_cC4336966441157787648:cC 4336966441157787648=4458563631130345472:=by unfold cC; simp only [xk_s9]
theorem xk_spH4336966441157787648:spH 4336966441157787648=4336966441157787648:=by unfold spH; simp only [xk_cC4336966441157787648,xk_n4336966441157787648,xk_s10,xk_n4458563631096791040,xk_s11]
theorem xk_spL4336966441157787648:spL 4336966441157787648=0:=by unfold spL; simp only [xk_spH4336966441157787648,xk_n4336966441157787648,xk_s12]
theorem xk_s13:fprod 4728779608772575232 4611686018427387904=4733283208399945728:=xk_fprod xk_w13 xk_w12 (c:=4733283208399945728) (by decide +kernel) (by decide) (by decide)
theorem xk_n4611686018427387904:M.neg 4611686018427387904=(-4611686018427387904):=by decide
theorem xk_w21:FW 4733283208399945728 4733283208399945728:=.inl ⟨by decide,by unfold rng; decide,by decide⟩
theorem xk_w22:FW (-4611686018427387904) 13835058055282163712:=.inl ⟨by decide,by unfold rng; decide,by decide⟩
theorem xk_s14:fsum 4733283208399945728 (-4611686018427387904)=4733283208366391296:=xk_fsum xk_w21 xk_w22 (c:=4733283208366391296) (by decide +kernel) (by decide) (by decide)
theorem xk_n4733283208366391296:M.neg 4733283208366391296=(-4490088828488384512):=by decide
theorem xk_w24:FW (-4490088828488384512) 13956655245221167104:=.inl ⟨by decide,by unfold rng; decide,by decide⟩
theorem xk_s15:fsum 4733283208399945728 (-4490088828488384512)=4611686018427387904:=xk_fsum xk_w21 xk_w24 (c:=4611686018427387904) (by decide +kernel) (by decide) (by decide)
theorem xk_s16:fsum 4611686018427387904 (-4611686018427387904)=0:=xk_fsum xk_w12 xk_w22 (c:=0) (by decide +kernel) (by decide) (by decide)
theorem xk_cC4611686018427387904:cC 4611686018427387904=4733283208399945728:=by unfold cC; simp only [xk_s13]
theorem xk_spH4611686018427387904:spH 4611686018427387904=4611686018427387904:=by unfold spH; simp only [xk_cC4611686018427387904,xk_n4611686018427387904,xk_s14,xk_n4733283208366391296,xk_s15]
theorem xk_spL4611686018427387904:spL 4611686018427387904=0:=by unfold spL; simp only [xk_spH4611686018427387904,xk_n4611686018427387904,xk_s16]
theorem xk_n4341470040785158144:M.neg 4341470040785158144=(-4881901996069617664):=by decide
theorem xk_w29:FW 4341470040785158144 4341470040785158144:=.inl ⟨by decide,by unfold rng; decide,by decide⟩
theorem xk_w30:FW (-4881901996069617664) 13564842077639933952:=.inl ⟨by decide,by unfold rng; decide,by decide⟩
theorem xk_s17:fsum 4341470040785158144 (-4881901996069617664)=0:=xk_fsum xk_w29 xk_w30 (c:=0) (by decide +kernel) (by decide) (by decide)
theorem xk_T14336966441157787648_4611686018427387904:pT1 4336966441157787648 4611686018427387904=0:=by unfold pT1; simp only [xk_s8,xk_spH4336966441157787648,xk_spH4611686018427387904,xk_n4341470040785158144,xk_s17]
theorem xk_s18:fprod 0 4611686018427387904=0:=xk_fprod xk_w10 xk_w12 (c:=0) (by decide +kernel) (by decide) (by decide)
theorem xk_s19:fsum 0 (-9223372036854775808)=0:=xk_fsum xk_w10 xk_w9 (c:=0) (by decide +kernel) (by decide) (by decide)
theorem xk_T24336966441157787648_4611686018427387904:pT2 4336966441157787648 4611686018427387904=0:=by unfold pT2; simp only [xk_T14336966441157787648_4611686018427387904,xk_spL4336966441157787648,xk_spH4611686018427387904,xk_s18,xk_n0,xk_s19]
theorem xk_s20:fprod 4336966441157787648 0=0:=xk_fprod xk_w1 xk_w10 (c:=0) (by decide +kernel) (by decide) (by decide)
theorem xk_T34336966441157787648_4611686018427387904:pT3 4336966441157787648 4611686018427387904=0:=by unfold pT3; simp only [xk_T24336966441157787648_4611686018427387904,xk_spH4336966441157787648,xk_spL4611686018427387904,xk_s20,xk_n0,xk_s19]
theorem xk_s21:fprod 0 0=0:=xk_fprod xk_w10 xk_w10 (c:=0) (by decide +kernel) (by decide) (by decide)
theorem xk_prL4336966441157787648_4611686018427387904:prL 4336966441157787648 4611686018427387904=0:=by unfold prL; simp only [xk_spL4336966441157787648,xk_spL4611686018427387904,xk_s21,xk_T34336966441157787648_4611686018427387904,xk_n0,xk_s19]
theorem xk_s22:fprod 4607182418800017408 4611686018427387904=4611686018427387904:=xk_fprod xk_w2 xk_w12 (c:=4611686018427387904) (by decide +kernel) (by decide) (by decide)
theorem xk_s23:fprod 4728779608772575232 4607182418800017408=4728779608772575232:=xk_fprod xk_w13 xk_w2 (c:=4728779608772575232) (by decide +kernel) (by decide) (by decide)
theorem xk_s24:fsum 4728779608772575232 (-4616189618054758400)=4728779608739020800:=xk_fsum xk_w13 xk_w7 (c:=4728779608739020800) (by decide +kernel) (by decide) (by decide)
theorem xk_n4728779608739020800:M.neg 4728779608739020800=(-4494592428115755008):=by decide
theorem xk_w36:FW (-4494592428115755008) 13952151645593796608:=.inl ⟨by decide,by unfold rng; decide,by decide⟩
theorem xk_s25:fsum 4728779608772575232 (-4494592428115755008)=4607182418800017408:=xk_fsum xk_w13 xk_w36 (c:=4607182418800017408) (by decide +kernel) (by decide) (by decide)
theorem xk_cC4607182418800017408:cC 4607182418800017408=4728779608772575232:=by unfold cC; simp only [xk_s23]
theorem xk_spH4607182418800017408:spH 4607182418800017408=4607182418800017408:=by unfold spH; simp only [xk_cC4607182418800017408,xk_n4607182418800017408,xk_s24,xk_n4728779608739020800,xk_s25]
theorem xk_spL4607182418800017408:spL 4607182418800017408=0:=by unfold spL; simp only [xk_spH4607182418800017408,xk_n4607182418800017408,xk_s5]
theorem xk_T14607182418800017408_4611686018427387904:pT1 4607182418800017408 4611686018427387904=0:=by unfold pT1; simp only [xk_s22,xk_spH4607182418800017408,xk_spH4611686018427387904,xk_n4611686018427387904,xk_s16]
theorem xk_T24607182418800017408_4611686018427387904:pT2 4607182418800017408 4611686018427387904=0:=by unfold pT2; simp only [xk_T14607182418800017408_4611686018427387904,xk_spL4607182418800017408,xk_spH4611686018427387904,xk_s18,xk_n0,xk_s19]
theorem xk_s26:fprod 4607182418800017408 0=0:=xk_fprod xk_w2 xk_w10 (c:=0) (by decide +kernel) (by decide) (by decide)
theorem xk_T34607182418800017408_4611686018427387904:pT3 4607182418800017408 4611686018427387904=0:=by unfold pT3; simp only [xk_T24607182418800017408_4611686018427387904,xk_spH4607182418800017408,xk_spL4611686018427387904,xk_s26,xk_n0,xk_s19]
theorem xk_prL4607182418800017408_4611686018427387904:prL 4607182418800017408 4611686018427387904=0:=by unfold prL; simp only [xk_spL4607182418800017408,xk_spL4611686018427387904,xk_s21,xk_T34607182418800017408_4611686018427387904,xk_n0,xk_s19]
theorem xk_s27:fsum 4341470040785158144 0=4341470040785158144:=xk_fsum xk_w29 xk_w10 (c:=4341470040785158144) (by decide +kernel) (by decide) (by decide)
theorem xk_sV4341470040785158144_0:sV 4341470040785158144 0=0:=by unfold sV; simp only [xk_s27,xk_n4341470040785158144,xk_s17]
theorem xk_s28:fsum 4341470040785158144 (-9223372036854775808)=4341470040785158144:=xk_fsum xk_w29 xk_w9 (c:=4341470040785158144) (by decide +kernel) (by decide) (by decide)
theorem xk_s29:fsum 0 0=0:=xk_fsum xk_w10 xk_w10 (c:=0) (by decide +kernel) (by decide) (by decide)
theorem xk_sL4341470040785158144_0:sL 4341470040785158144 0=0:=by unfold sL; simp only [xk_sV4341470040785158144_0,xk_s27,xk_n0,xk_s28,xk_n4341470040785158144,xk_s17,xk_s19,xk_s29]
theorem xk_s30:fsum 4611686018427387904 4341470040785158144=4611686018427387904:=xk_fsum xk_w12 xk_w29 (c:=4611686018427387904) (by decide +kernel) (by decide) (by decide)
theorem xk_fL4611686018427387904_4341470040785158144:fL 4611686018427387904 4341470040785158144=4341470040785158144:=by unfold fL; simp only [xk_s30,xk_n4611686018427387904,xk_s16,xk_n0,xk_s28]
theorem xk_rng (b:Int) (h:decide (-9223372036854775808 <= b∧b <= 9223372036854775807)=true):rng b:=by
  have:=of_decide_eq_true h
  unfold rng
  omega
theorem gx_one (d:Nat->Int) (q:Int):gx d q 1=pok (sL q (d 0)):=by
  show (true && pok (sL q (d 0)))=_
  rw [Bool.true_and]
theorem grw_one (d:Nat->Int) (q:Int):grw 1 d q=((⟨0,d⟩:Ls).add (sL q (d 0))).add (fsum q (d 0)):=rfl
theorem sx_one (d:Nat->Int) (b:Int):sx d b 1=(pX (d 0) b && (pX (d 1) b && (pok (sL (fprod (d 0) b) (prL (d 1) b)) && fX (fprod (d 1) b) (fsum (fprod (d 0) b) (prL (d 1) b))))):=rfl
theorem scl_one (s:Ls) (d:Nat->Int) (b:Int):scl s d b 1=(((s.add (prL (d 0) b)).add (sL (fprod (d 0) b) (prL (d 1) b))).add (fL (fprod (d 1) b) (fsum (fprod (d 0) b) (prL (d 1) b)))).add (fsum (fprod (d 1) b) (fsum (fprod (d 0) b) (prL (d 1) b))):=rfl
theorem sxN_succ {d:Nat->Int} {b:Int} {n:Nat} (h:¬ rg b=0):sxN d b (n + 1)=sx d b n:=if_neg h
theorem sclN_succ {d:Nat->Int} {b:Int} {n:Nat} (h:¬ rg b=0):sclN d b (n + 1)=scl ⟨0,fun _=>0⟩ d b n:=if_neg h
theorem ls_no {s:Ls} {b:Int} (h:rg b=0):s.add b=s:=if_pos h
theorem ls_yes {n:Nat} {d:Nat->Int} {b:Int} (h:¬ rg b=0):(⟨n,d⟩:Ls).add b=⟨n + 1,upd d n b⟩:=if_neg h
theorem xk_pT:pok 4336966441157787648=true:=by decide
theorem xk_p0:pok 0=true:=by decide
theorem xk_p1:pok 0=true:=by decide
theorem xk_p2:pok 0=true:=by decide
theorem xk_p3:pok 4341470040785158144=true:=by decide
theorem xk_grow_x:gx (fun _=>4607182418800017408) 4336966441157787648 1=true:=by
  rw [gx_one,xk_sL4336966441157787648_4607182418800017408,xk_pT]
theorem xk_grow_s:grw 1 (fun _=>4607182418800017408) 4336966441157787648=⟨2,upd (upd (fun _=>4607182418800017408) 0 4336966441157787648) 1 4607182418800017408⟩:=by
  rw [grw_one,xk_sL4336966441157787648_4607182418800017408,xk_s3,ls_yes (show ¬ rg 4336966441157787648=0 by decide),ls_yes (show ¬ rg 4607182418800017408=0 by decide)]
theorem xk_pX0:pX 4336966441157787648 4611686018427387904=true:=by
  have h:reach 4336966441157787648 4611686018427387904=true:=by decide +kernel
  unfold pX
  rw [h,xk_prL4336966441157787648_4611686018427387904,xk_p0]
  rfl
theorem xk_pX1:pX 4607182418800017408 4611686018427387904=true:=by
  have h:reach 4607182418800017408 4611686018427387904=true:=by decide +kernel
  unfold pX
  rw [h,xk_prL4607182418800017408_4611686018427387904,xk_p1]
  rfl
theorem xk_fX:fX 4611686018427387904 4341470040785158144=true:=by
  have h:decide ((iV 4611686018427387904).natAbs < (iV 4341470040785158144).natAbs)=false:=by decide +kernel
  unfold fX
  rw [xk_fL4611686018427387904_4341470040785158144,xk_p3,h]
  rfl
theorem xk_d0:d2 4336966441157787648 4607182418800017408 0=4336966441157787648:=rfl
theorem xk_d1:d2 4336966441157787648 4607182418800017408 1=4607182418800017408:=rfl
theorem xk_scale_x:sxN (d2 4336966441157787648 4607182418800017408) 4611686018427387904 2=true:=by
  rw [sxN_succ (by decide),sx_one,xk_d0,xk_d1,xk_pX0,xk_pX1,xk_s8,xk_prL4607182418800017408_4611686018427387904,xk_s22,xk_s27,xk_sL4341470040785158144_0,xk_fX,xk_p2]
  rfl
theorem xk_scale_n:(sclN (d2 4336966441157787648 4607182418800017408) 4611686018427387904 2).n=2:=by
  rw [sclN_succ (by decide),scl_one,xk_d0,xk_d1,xk_prL4336966441157787648_4611686018427387904,xk_s8,xk_prL4607182418800017408_4611686018427387904,xk_s22,xk_s27,xk_sL4341470040785158144_0,xk_fL4611686018427387904_4341470040785158144,xk_s30,ls_no (show rg 0=0 by decide),ls_no (show rg 0=0 by decide),ls_yes (show ¬ rg 4341470040785158144=0 by decide),ls_yes (show ¬ rg 4611686018427387904=0 by decide)]
theorem xk_v3:xval (fun _=>4607182418800017408) 1=true:=by decide +kernel
theorem xk_v4:xval (d2 4336966441157787648 4607182418800017408) 2=true:=by decide +kernel
theorem xk_v5:xval (upd (upd (fun _=>4607182418800017408) 0 4336966441157787648) 1 4607182418800017408) 2=true:=by decide +kernel
end Go.Proofs.YtijiabajfgnaoaaGreatDoor
namespace Go.Proofs.YtijiabajfgnaoaaGreatDoor
open Go Go.RowKit Go.Proofs.YtijiabajfgnaoaaGreatDoor.M
theorem LsO.row {B:Nat} {w:World} {v:Value} {s:Ls} (h:LsO B w v s):∃ ao cap,v=.slice ao s.n cap∧Row w ao s.n cap s.d:=by
  rcases h with h | ⟨h0,ad,rfl⟩
  . exact h.row
  . rw [h0]
    exact ⟨some ad,0,rfl,Nat.le_refl _,by decide,(fun q=>by cases q),fun q=>by omega⟩
theorem XA.yes {w w':World} {ok:Bool} {s:Ls} {r:Ending} (h:XA w ok s r w') (ho:ok=true):∃ ao cap,r=.returned (.tuple #[.slice ao s.n cap,.int .i64 0])∧Row w' ao s.n cap s.d∧Below w.heap.size w w':=by
  obtain ⟨(⟨_,v,h1,h2⟩ | ⟨h1,_⟩),hb⟩:=h
  . obtain ⟨ao,cap,rfl,hR⟩:=h2.row
    exact ⟨ao,cap,h1,hR,hb⟩
  . rw [ho] at h1; cases h1
theorem XA.no {w w':World} {ok:Bool} {s:Ls} {r:Ending} (h:XA w ok s r w') (ho:ok=false):r=.returned (.tuple #[.slice none 0 0,.int .i64 14])∧Below w.heap.size w w':=by
  obtain ⟨(⟨h1,_⟩ | ⟨_,h1⟩),hb⟩:=h
  . rw [ho] at h1; cases h1
  . exact ⟨h1,hb⟩
theorem xk_r (b:Int) (h:decide (-9223372036854775808 <= b∧b <= 9223372036854775807)=true):∀ i:Nat,i < 1->rng ((fun _=>b) i):=fun _ _=>xk_rng b h
theorem xk_r2:∀ i:Nat,i < 2->rng (d2 4336966441157787648 4607182418800017408 i):=fun i hi=>by
  match i,hi with
  | 0,_=>exact xk_rng _ (by decide)
  | 1,_=>exact xk_rng _ (by decide)
theorem xk_same:sameB (upd (upd (fun _=>4607182418800017408) 0 4336966441157787648) 1 4607182418800017408) (d2 4336966441157787648 4607182418800017408) 2 2=true:=by
  refine decide_eq_true ⟨rfl,fun i hi=>?_⟩
  match i,hi with
  | 0,_=>rfl
  | 1,_=>rfl
set_option maxRecDepth 100000 in
set_option maxHeartbeats 1000000 in
theorem alive7 (w:World) (H:Hold4 w):Calls Tryz.prog 5 #[] w fun e w'=>e=.returned (.bool true)∧Below w.heap.size w w':=by
  have HH:Hid (Hold4 w):=H
  have C1:Hid (∀ W ao cap,Hold4 W->Row W ao 1 cap (fun _=>4607182418800017408)->Calls Tryz.prog 9 #[.slice ao 1 cap,.int .i64 4336966441157787648] W fun r w'=>∃ ao cap,r=.returned (.tuple #[.slice ao 2 cap,.int .i64 0])∧Row w' ao 2 cap (upd (upd (fun _=>4607182418800017408) 0 4336966441157787648) 1 4607182418800017408)∧Below W.heap.size W w'):=fun W ao cap hW hR=>by
    have h:=xGrow W hR (xk_r _ (by decide)) xk_v3 (xk_rng _ (by decide)) xk_pT (by decide) hW
    rw [xk_grow_s] at h
    exact h.mono fun r w' hx=>hx.yes xk_grow_x
  have C2:Hid (∀ W ao cap,Hold4 W->Row W ao 2 cap (d2 4336966441157787648 4607182418800017408)->Calls Tryz.prog 10 #[.slice ao 2 cap,.int .i64 4611686018427387904] W fun r w'=>∃ ao cap,r=.returned (.tuple #[.slice ao 2 cap,.int .i64 0])∧Below W.heap.size W w'):=fun W ao cap hW hR=>by
    have h:=xScale (b:=4611686018427387904) W hR xk_r2 xk_v4 (xk_rng _ (by decide)) (by decide) (by decide) hW
    refine h.mono fun r w' hx=>?_
    obtain ⟨ao,cap,e1,e2,e3⟩:=hx.yes xk_scale_x
    rw [xk_scale_n] at e1
    exact ⟨ao,cap,e1,e3⟩
  clear H
  go_enter Tryz.func5,Tryz.ntmps5
  go_wp2_with fail
  have hb0:=bel_alloc w (.cells #[.int .i64 4607182418800017408] 3)
  refine (C1.out _ _ _ (HH.out.keeps hb0) (row1 w _ rfl)).mono ?_
  rintro _ w1 ⟨ao1,cap1,rfl,hR1,hb1⟩
  have hb01:=bel_trans hb0 hb1
  have hb2:=bel_alloc w1 (.cells #[.int .i64 4336966441157787648,.int .i64 4607182418800017408] 3)
  have hb02:=bel_trans hb01 hb2
  go_wp2_with fail
  refine (C2.out _ _ _ (HH.out.keeps hb02) (row2 w1 _ _ rfl)).mono ?_
  rintro _ w2 ⟨ao2,cap2,rfl,hb3⟩
  have hb03:=bel_trans hb02 hb3
  have hR2:=(hR1.keeps hb2).keeps hb3
  have hb4:=bel_alloc w2 (.cells #[.int .i64 4336966441157787648,.int .i64 4607182418800017408] 3)
  have CS:=same_any _ _ _ _ _ _ _ _ _ (hR2.keeps hb4) (row2 w2 4336966441157787648 4607182418800017408 rfl)
  rw [xk_same] at CS
  go_wp2_with fail
  refine CS.mono ?_
  rintro _ w3 ⟨rfl,hb5⟩
  have hb05:=bel_trans (bel_trans hb03 hb4) hb5
  have CV:=xvalid_any w3 ((hR2.keeps hb4).keeps hb5) (HH.out.keeps hb05)
  rw [xk_v5] at CV
  clear CS
  go_wp2_with fail
  refine CV.mono ?_
  rintro _ w4 ⟨rfl,hb6⟩
  go_wp2
  all_goals go_ret
  all_goals exact ⟨rfl,by first | exact bel_trans hb05 hb6 | exact (bel_trans hb05 hb6).drew⟩
end Go.Proofs.YtijiabajfgnaoaaGreatDoor
namespace Go.Proofs.YtijiabajfgnaoaaGreatDoor
open Go Go.RowKit Go.Proofs.YtijiabajfgnaoaaGreatDoor.M Ieee
theorem pr_1 {a b h M:Int} (h1:((a.natAbs:Int) + b.natAbs) <= M):((a + b).natAbs:Int) <= M:=by omega
theorem pr_2 {a b h M:Int} (ha:2 * (a.natAbs:Int) <= M) (hb:2 * (b.natAbs:Int) <= M) (e1:(h - (a + b)).natAbs <= (a - (a + b)).natAbs):((h - a).natAbs:Int) <= M:=by omega
theorem pr_3 {a b h v M:Int} (ha:2 * (a.natAbs:Int) <= M) (e2:(h - (a + b)).natAbs <= (b - (a + b)).natAbs) (e3:(v - (h - a)).natAbs <= (b - (h - a)).natAbs):((h - v).natAbs:Int) <= M:=by omega
theorem pr_4 {a b h v u M:Int} (ha:2 * (a.natAbs:Int) <= M) (e2:(h - (a + b)).natAbs <= (b - (a + b)).natAbs) (e3:(v - (h - a)).natAbs <= (b - (h - a)).natAbs) (e4:(u - (h - v)).natAbs <= (a - (h - v)).natAbs):((a - u).natAbs:Int) <= M∧(a - u).natAbs <= 2 * (h - (a + b)).natAbs:=by omega
theorem pr_5 {a b h v M:Int} (hb:2 * (b.natAbs:Int) <= M) (e1:(h - (a + b)).natAbs <= (a - (a + b)).natAbs) (e3:(v - (h - a)).natAbs <= (b - (h - a)).natAbs):((b - v).natAbs:Int) <= M∧(b - v).natAbs <= 2 * (h - (a + b)).natAbs:=by omega
theorem pr_6 {S h x y p q M:Int} (hM:(S.natAbs:Int) <= M) (r:1000 * (h - S).natAbs <= S.natAbs) (g1:x.natAbs <= 2 * (h - S).natAbs) (g2:y.natAbs <= 2 * (h - S).natAbs) (n1:(p - x).natAbs <= (0 - x).natAbs) (n2:(q - y).natAbs <= (0 - y).natAbs):((p + q).natAbs:Int) <= M:=by omega
theorem sum_fin {p q:Int} (hp:M.rng p) (hq:M.rng q) (pp:pok p=true) (pq:pok q=true) (h1:2 * ((iV p).natAbs:Int) <= maxV) (h2:2 * ((iV q).natAbs:Int) <= maxV):pok (fsum p q)=true∧pok (sL p q)=true:=by
  have rh:=fsum_rng hp hq
  have rv:M.rng (sV p q):=fsum_rng rh (neg_rng hp)
  have rU:=fsum_rng rh (neg_rng rv)
  have rX:=fsum_rng hp (neg_rng rU)
  have rY:=fsum_rng hq (neg_rng rv)
  have Sh:=stp_sum hp hq pp pq
  have hM:=pr_1 (h:=0) (a:=iV p) (b:=iV q) (M:=maxV) (by omega)
  have ph:=Sh.fin hM
  have nh:=Sh.nr ph
  have e1:=nh.2 _ (fl_iV p)
  have e2:=nh.2 _ (fl_iV q)
  have Sv:=stp_diff rh hp ph pp
  have pv:=Sv.fin (pr_2 h1 h2 e1)
  have nv:=Sv.nr pv
  have e3:=nv.2 _ (fl_iV q)
  have SU:=stp_diff rh rv ph pv
  have pU:=SU.fin (pr_3 h1 e2 e3)
  have e4:=(SU.nr pU).2 _ (fl_iV p)
  have SX:=stp_diff hp rU pp pU
  obtain ⟨g1,g2⟩:=pr_4 h1 e2 e3 e4
  have pX:=SX.fin g1
  have SY:=stp_diff hq rv pq pv
  obtain ⟨g3,g4⟩:=pr_5 h2 e1 e3
  have pY:=SY.fin g3
  exact ⟨ph,(stp_sum rX rY pX pY).fin (pr_6 hM (nr_rel nh) g2 g4 ((SX.nr pX).2 _ fl_zero) ((SY.nr pY).2 _ fl_zero))⟩
end Go.Proofs.YtijiabajfgnaoaaGreatDoor
namespace Go.Proofs.YtijiabajfgnaoaaGreatDoor
open Go Go.RowKit Go.Proofs.YtijiabajfgnaoaaGreatDoor.M
theorem cls_nought {b:Int} (hb:rng b):cls b=0 ↔ rg b=0:=by
  have h1:=q_cls hb
  rw [<- h1]
  constructor
  . intro h
    have hr:=(q_rg hb).1
    have h0:0 <= rg b:=(q_rg hb).2
    generalize rg b=r at *
    unfold rng at hr
    unfold cls fld frc at h
    split at h
    . split at h <;> omega
    . split at h
      . split at h
        . omega
        . omega
      . omega
  . intro h; rw [h]; decide
theorem Ls.same.refl (s:Ls):s.same s:=⟨rfl,fun _ _=>rfl⟩
theorem Ls.same.symm {s t:Ls} (h:s.same t):t.same s:=⟨h.1.symm,fun i hi=>(h.2 i (by rw [h.1]; exact hi)).symm⟩
theorem Ls.same.trans {s t u:Ls} (h:s.same t) (k:t.same u):s.same u:=⟨h.1.trans k.1,fun i hi=>(h.2 i hi).trans (k.2 i (by rw [<- h.1]; exact hi))⟩
def Lo (x y:Int):Prop:=∃ s:Nat,(x.natAbs:Int) < 2 ^ s∧(2 ^ s:Int) ∣ y
theorem dvd_abs_le {x y:Int} (h:x ∣ y) (h0:y ≠ 0) (hx:0 < x):x <= (y.natAbs:Int):=by
  have h1:x ∣ (y.natAbs:Int):=Int.dvd_natAbs.2 h
  exact Int.le_of_dvd (by omega) h1
theorem nr_unit {S x:Int} (n:Nr S x) (hne:x ≠ S):∃ u:Nat,(2 ^ u:Int) ∣ x∧((S - x).natAbs:Int) < 2 ^ u:=by
  obtain ⟨k,h1,h2⟩:=binade (S.natAbs:Int) (by omega)
  rcases h2 with rfl | h2
  . exfalso
    have:Fl S:=⟨0,⟨S,by simp⟩,by simpa using h1⟩
    exact hne (nr_self this n)
  . have f:Fl (4503599627370496 * 2 ^ k:Int):=by
      have:=fl_p2 k (m:=4503599627370496) (by decide)
      exact this
    have h3:=dk5 n f h2
    have h4:=nr_err n (i:=k) (by omega)
    have p:=p2 k
    exact ⟨k,fl_units n.1 h3,by omega⟩
theorem nr_loss {a b x:Int} (ha:Fl a) (n:Nr (a + b) x):(a + b - x).natAbs <= b.natAbs:=by
  have:=n.2 a ha
  omega
theorem Lo.trans {x y z:Int} (h:Lo x y) (hy:y ≠ 0) (k:Lo y z):Lo x z:=by
  obtain ⟨s,h1,h2⟩:=h
  obtain ⟨t,k1,k2⟩:=k
  have h3:=dvd_abs_le h2 hy (p2 s)
  have h4:s < t:=p2lt (Int.lt_of_le_of_lt h3 k1)
  exact ⟨s,h1,Int.dvd_trans (p2dvd (by omega)) k2⟩
theorem iV_nought {b:Int} (hb:rng b) (h:rg b=0):iV b=0:=by
  have:=iV_abs b
  rw [h] at this
  have h2:(V Ieee.double (0:Int).toNat:Int)=0:=by decide +kernel
  omega
theorem iV_some {b:Int} (hb:rng b) (pb:pok b=true) (h:rg b ≠ 0):iV b ≠ 0∧pmag b ≠ 0:=by
  have e:=iV_form hb pb
  have hm:pmag b ≠ 0:=by
    intro q
    have hc:cls b=0:=by
      have hf:fld b ≠ 2047:=by simpa [pok] using pb
      have:=frc_le b
      unfold pmag at q
      rw [if_neg hf] at q
      unfold cls
      rw [if_neg hf]
      by_cases h0:fld b=0
      . rw [if_pos h0] at q ⊢
        rw [if_pos q]
      . rw [if_neg h0] at q
        omega
    exact h ((cls_nought hb).1 hc)
  refine ⟨fun q=>?_,hm⟩
  obtain ⟨i0,_⟩:=pmag_in pb
  have p1:=two_pos (pexp b + 1074).toNat
  have:0 < pmag b * 2 ^ (pexp b + 1074).toNat:=Int.mul_pos (by omega) p1
  rw [q] at e
  omega
theorem odd_dvd {s t:Nat} {m:Int} (h:(2 ^ s:Int) ∣ 2 ^ t * (2 * m + 1)):s <= t:=by
  apply Classical.byContradiction
  intro hn
  obtain ⟨r,rfl⟩:∃ r,s=t + 1 + r:=⟨s - t - 1,by omega⟩
  obtain ⟨c,hc⟩:=h
  rw [Int.pow_add,Int.pow_add,Int.mul_assoc,Int.mul_assoc] at hc
  have:=Int.eq_of_mul_eq_mul_left (Int.ne_of_gt (two_pos t)) hc
  omega
theorem lo_iff {a b:Int} (ha:rng a) (hb:rng b) (pa:pok a=true) (pb:pok b=true) (ma:pmag a ≠ 0) (mb:pmag b ≠ 0):(pexp a + blen (pmag a) <= pexp b + jz (pmag b)) ↔ Lo (iV a) (iV b):=by
  obtain ⟨i0,i1,i2,i3⟩:=pmag_in pa
  obtain ⟨j0,j1,j2,j3⟩:=pmag_in pb
  obtain ⟨m,hm,_,_⟩:=jz_spec (show 0 < pmag b by omega) (by omega)
  have e1:=iV_form ha pa
  have e2:=iV_form hb pb
  have hl:=blen_lt (pmag a)
  obtain ⟨_,hg⟩:=blen_pos (show 0 < pmag a by omega)
  have hb1:1 <= blen (pmag a):=(blen_pos (show 0 < pmag a by omega)).1
  have p1:=two_pos (pexp a + 1074).toNat
  have p2':=two_pos (pexp b + 1074).toNat
  have s1:pmag a * 2 ^ (pexp a + 1074).toNat < 2 ^ blen (pmag a) * 2 ^ (pexp a + 1074).toNat:=Int.mul_lt_mul_of_pos_right hl p1
  rw [<- Int.pow_add] at s1
  have s2:(2:Int) ^ (blen (pmag a) - 1) * 2 ^ (pexp a + 1074).toNat <= pmag a * 2 ^ (pexp a + 1074).toNat:=Int.mul_le_mul_of_nonneg_right hg (by omega)
  rw [<- Int.pow_add] at s2
  have e3:((iV b).natAbs:Int)=2 ^ (jz (pmag b) + (pexp b + 1074).toNat) * (2 * (m:Int) + 1):=by
    rw [e2,Int.pow_add]
    calc pmag b * 2 ^ (pexp b + 1074).toNat=2 ^ jz (pmag b) * (2 * (m:Int) + 1) * 2 ^ (pexp b + 1074).toNat:=by rw [<- hm]
      _=_:=by rw [Int.mul_assoc,Int.mul_comm (2 * (m:Int) + 1),<- Int.mul_assoc]
  constructor
  . intro h
    refine ⟨blen (pmag a) + (pexp a + 1074).toNat,by rw [e1]; exact s1,?_⟩
    apply Int.dvd_natAbs.1
    rw [e3]
    exact Int.dvd_trans (p2dvd (by omega)) ⟨_,rfl⟩
  . rintro ⟨s,h1,h2⟩
    have h3:(2 ^ s:Int) ∣ 2 ^ (jz (pmag b) + (pexp b + 1074).toNat) * (2 * (m:Int) + 1):=by
      rw [<- e3]
      exact Int.dvd_natAbs.2 h2
    have h4:=odd_dvd h3
    rw [e1] at h1
    have h5:=p2lt (Int.lt_of_le_of_lt s2 h1)
    omega
structure XV (d:Nat->Int) (n:Nat):Prop where
  fin:∀ i,i < n->rng (d i)∧pok (d i)=true∧rg (d i) ≠ 0
  lo:∀ i,i + 1 < n->Lo (iV (d i)) (iV (d (i + 1)))
theorem XV.ne {d:Nat->Int} {n:Nat} (h:XV d n) {i:Nat} (hi:i < n):iV (d i) ≠ 0:=(iV_some (h.fin i hi).1 (h.fin i hi).2.1 (h.fin i hi).2.2).1
theorem xval_of {d:Nat->Int}:∀ {n},XV d n->xval d n=true
  | 0,_=>rfl
  | n + 1,h=>by
    have ih:xval d n=true:=xval_of ⟨fun i hi=>h.fin i (by omega),fun i hi=>h.lo i (by omega)⟩
    rw [xval_succ,ih,Bool.true_and]
    obtain ⟨r,p,z⟩:=h.fin n (by omega)
    have hm:=(iV_some r p z).2
    have hx:=xmag_in (d n)
    unfold xok
    have hz:decide (pmag (d n)=0)=false:=decide_eq_false hm
    rw [hz]
    cases n with
    | zero=>
      have:xab d 0=-9223372036854775808:=rfl
      rw [this]
      have:¬ (pexp (d 0) + jz (pmag (d 0)) < -9223372036854775808):=by omega
      simp [this]
    | succ j=>
      have e:xab d (j + 1)=pexp (d j) + blen (pmag (d j)):=rfl
      obtain ⟨r',p',z'⟩:=h.fin j (by omega)
      have:=(lo_iff r' r p' p (iV_some r' p' z').2 hm).2 (h.lo j (by omega))
      rw [e]
      have:¬ (pexp (d (j + 1)) + jz (pmag (d (j + 1))) < pexp (d j) + blen (pmag (d j))):=by omega
      simp [this]
theorem XV.far {d:Nat->Int} {n:Nat} (h:XV d n) {i:Nat}:∀ {j},i < j->j < n->Lo (iV (d i)) (iV (d j))
  | 0,hij,_=>absurd hij (Nat.not_lt_zero _)
  | j + 1,hij,hj=>by
    by_cases e:i=j
    . subst e; exact h.lo i hj
    . exact (h.far (show i < j by omega) (by omega)).trans (h.ne (by omega)) (h.lo j hj)
structure GI (d:Nat->Int) (q:Int) (n k:Nat):Prop where
  xv:XV (gs d q k).d (gs d q k).n
  up:∀ i,i < (gs d q k).n->∃ s:Nat,((iV ((gs d q k).d i)).natAbs:Int) < 2 ^ s∧(2 ^ s:Int) ∣ iV (gq d q k)∧∀ j,k <= j->j < n->(2 ^ s:Int) ∣ iV (d j)
theorem XV.add {s:Ls} (h:XV s.d s.n) {b:Int} (hb:rng b) (pb:pok b=true) (hlo:∀ i,i < s.n->Lo (iV (s.d i)) (iV b)):XV (s.add b).d (s.add b).n:=by
  unfold Ls.add
  split
  . exact h
  . rename_i hz
    refine ⟨fun i hi=>?_,fun i hi=>?_⟩
    . show rng (upd s.d s.n b i)∧pok (upd s.d s.n b i)=true∧rg (upd s.d s.n b i) ≠ 0
      by_cases e:i=s.n
      . subst e; rw [upd_same]; exact ⟨hb,pb,hz⟩
      . rw [upd_other _ _ e]; exact h.fin i (by have:i < s.n + 1:=hi; omega)
    . have hi':i + 1 < s.n + 1:=hi
      show Lo (iV (upd s.d s.n b i)) (iV (upd s.d s.n b (i + 1)))
      rw [upd_other _ _ (show i ≠ s.n by omega)]
      by_cases e:i + 1=s.n
      . rw [e,upd_same]; exact hlo i (by omega)
      . rw [upd_other _ _ e]; exact h.lo i (by omega)
theorem fsum_nr {p q:Int} (hp:rng p) (hq:rng q) (h:pok (sL p q)=true):Nr (iV p + iV q) (iV (fsum p q)):=by
  obtain ⟨⟨pp,pq⟩,ps,e⟩:=sL_exact hp hq h
  exact (stp_sum hp hq pp pq).nr ps
theorem gi_step {d:Nat->Int} {q:Int} {n k:Nat} (hd:XV d n) (hq:rng q) (pq:pok q=true) (hk:k < n) (hx:gx d q (k + 1)=true) (h:GI d q n k):GI d q n (k + 1):=by
  have hfin:∀ i,i < n->rng (d i)∧pok (d i)=true:=fun i hi=>⟨(hd.fin i hi).1,(hd.fin i hi).2.1⟩
  have hx':(gx d q k && pok (gl d q k))=true:=hx
  rw [Bool.and_eq_true] at hx'
  obtain ⟨r1,r2⟩:=gq_fin hfin hq pq k (by omega) hx'.1
  obtain ⟨d1,d2⟩:=hfin k hk
  have hl:pok (sL (gq d q k) (d k))=true:=hx'.2
  obtain ⟨_,ps,e⟩:=sL_exact r1 d1 hl
  have nr:=fsum_nr r1 d1 hl
  have rl:rng (gl d q k):=sL_rng r1 d1
  have eq1:gq d q (k + 1)=fsum (gq d q k) (d k):=rfl
  have egl:gl d q k=sL (gq d q k) (d k):=rfl
  have es:gs d q (k + 1)=(gs d q k).add (gl d q k):=rfl
  rw [<- egl,<- eq1] at e
  rw [<- eq1] at nr
  have herr:iV (gl d q k)=iV (gq d q k) + iV (d k) - iV (gq d q (k + 1)):=by omega
  have hold:∀ i,i < (gs d q k).n->∃ s:Nat,((iV ((gs d q k).d i)).natAbs:Int) < 2 ^ s∧(2 ^ s:Int) ∣ iV (gq d q (k + 1))∧(2 ^ s:Int) ∣ iV (gl d q k)∧∀ j,k + 1 <= j->j < n->(2 ^ s:Int) ∣ iV (d j):=fun i hi=>by
    obtain ⟨s,h1,h2,h3⟩:=h.up i hi
    have h4:(2 ^ s:Int) ∣ iV (gq d q k) + iV (d k):=Int.dvd_add h2 (h3 k (Nat.le_refl _) hk)
    have h5:=nr_dvd nr h4
    exact ⟨s,h1,h5,by rw [herr]; exact Int.dvd_sub h4 h5,fun j hj hjn=>h3 j (by omega) hjn⟩
  have hnew:rg (gl d q k) ≠ 0->∃ s:Nat,((iV (gl d q k)).natAbs:Int) < 2 ^ s∧(2 ^ s:Int) ∣ iV (gq d q (k + 1))∧∀ j,k + 1 <= j->j < n->(2 ^ s:Int) ∣ iV (d j):=fun hz=>by
    have hne:=(iV_some rl hx'.2 hz).1
    obtain ⟨u,h1,h2⟩:=nr_unit nr (fun c=>hne (by rw [herr,c]; omega))
    rw [<- herr] at h2
    by_cases hlast:k + 1 < n
    . obtain ⟨t,k1,k2⟩:=hd.lo k hlast
      have h3:=nr_loss (fl_iV (gq d q k)) nr
      rw [<- herr] at h3
      have hup:∀ j,k + 1 <= j->j < n->(2 ^ t:Int) ∣ iV (d j):=fun j hj hjn=>by
        by_cases e:j=k + 1
        . subst e; exact k2
        . obtain ⟨t2,m1,m2⟩:=hd.far (show k + 1 < j by omega) hjn
          have h4:=dvd_abs_le k2 (hd.ne hlast) (p2 t)
          have h5:t < t2:=p2lt (Int.lt_of_le_of_lt h4 m1)
          exact Int.dvd_trans (p2dvd (by omega)) m2
      by_cases hut:u <= t
      . exact ⟨u,h2,h1,fun j hj hjn=>Int.dvd_trans (p2dvd hut) (hup j hj hjn)⟩
      . exact ⟨t,by omega,Int.dvd_trans (p2dvd (by omega)) h1,hup⟩
    . exact ⟨u,h2,h1,fun j hj hjn=>by omega⟩
  refine ⟨?_,?_⟩
  . rw [es]
    exact h.xv.add rl hx'.2 fun i hi=>by
      obtain ⟨s,h1,_,h3,_⟩:=hold i hi
      exact ⟨s,h1,h3⟩
  . rw [es]
    intro i hi
    by_cases hz:rg (gl d q k)=0
    . have ea:(gs d q k).add (gl d q k)=gs d q k:=by unfold Ls.add; rw [if_pos hz]
      rw [ea] at hi ⊢
      obtain ⟨s,h1,h2,_,h4⟩:=hold i hi
      exact ⟨s,h1,h2,h4⟩
    . have ea:(gs d q k).add (gl d q k)=⟨(gs d q k).n + 1,upd (gs d q k).d (gs d q k).n (gl d q k)⟩:=by unfold Ls.add; rw [if_neg hz]
      rw [ea] at hi ⊢
      have hi':i < (gs d q k).n + 1:=hi
      show ∃ s:Nat,((iV (upd (gs d q k).d (gs d q k).n (gl d q k) i)).natAbs:Int) < 2 ^ s∧_
      by_cases e:i=(gs d q k).n
      . subst e
        rw [upd_same]
        exact hnew hz
      . rw [upd_other _ _ e]
        obtain ⟨s,h1,h2,_,h4⟩:=hold i (by omega)
        exact ⟨s,h1,h2,h4⟩
theorem gi_all {d:Nat->Int} {q:Int} {n:Nat} (hd:XV d n) (hq:rng q) (pq:pok q=true):∀ k,k <= n->gx d q k=true->GI d q n k
  | 0,_,_=>⟨⟨fun i hi=>absurd hi (Nat.not_lt_zero _),fun i hi=>absurd hi (Nat.not_lt_zero _)⟩,fun i hi=>absurd hi (Nat.not_lt_zero _)⟩
  | k + 1,hk,hx=>by
    have hx':(gx d q k && pok (gl d q k))=true:=hx
    rw [Bool.and_eq_true] at hx'
    exact gi_step hd hq pq (by omega) hx (gi_all hd hq pq k (by omega) hx'.1)
theorem grw_xv {d:Nat->Int} {q:Int} {n:Nat} (hd:XV d n) (hq:rng q) (pq:pok q=true) (hx:gx d q n=true):XV (grw n d q).d (grw n d q).n:=by
  have hfin:∀ i,i < n->rng (d i)∧pok (d i)=true:=fun i hi=>⟨(hd.fin i hi).1,(hd.fin i hi).2.1⟩
  obtain ⟨r1,r2⟩:=gq_fin hfin hq pq n (Nat.le_refl _) hx
  have h:=gi_all hd hq pq n (Nat.le_refl _) hx
  exact h.xv.add r1 r2 fun i hi=>by
    obtain ⟨s,h1,h2,_⟩:=h.up i hi
    exact ⟨s,h1,h2⟩
def lsm (d:Nat->Int):Nat->Int
  | 0=>0
  | k + 1=>lsm d k + iV (d k)
theorem lsm_succ (d:Nat->Int) (k:Nat):lsm d (k + 1)=lsm d k + iV (d k):=rfl
theorem lsm_congr {d e:Nat->Int}:∀ {n},(∀ i,i < n->d i=e i)->lsm d n=lsm e n
  | 0,_=>rfl
  | n + 1,h=>by rw [lsm_succ,lsm_succ,lsm_congr fun i hi=>h i (by omega),h n (by omega)]
theorem lsm_add {s:Ls} {b:Int} (hb:rng b):lsm (s.add b).d (s.add b).n=lsm s.d s.n + iV b:=by
  unfold Ls.add
  split
  . rename_i hz
    rw [iV_nought hb hz,Int.add_zero]
  . show lsm (upd s.d s.n b) s.n + iV (upd s.d s.n b s.n)=_
    rw [upd_same,lsm_congr (e:=s.d) fun i hi=>upd_other _ _ (by omega)]
theorem gs_sum {d:Nat->Int} {q:Int} {n:Nat} (hd:∀ i,i < n->rng (d i)∧pok (d i)=true) (hq:rng q) (pq:pok q=true):∀ k,k <= n->gx d q k=true->lsm (gs d q k).d (gs d q k).n + iV (gq d q k)=iV q + lsm d k
  | 0,_,_=>by show 0 + iV q=iV q + 0; omega
  | k + 1,hk,hx=>by
    have hx':(gx d q k && pok (gl d q k))=true:=hx
    rw [Bool.and_eq_true] at hx'
    have ih:=gs_sum hd hq pq k (by omega) hx'.1
    obtain ⟨r1,r2⟩:=gq_fin hd hq pq k (by omega) hx'.1
    obtain ⟨d1,d2⟩:=hd k (by omega)
    have rl:rng (gl d q k):=sL_rng r1 d1
    obtain ⟨_,ps,e⟩:=sL_exact r1 d1 (show pok (sL (gq d q k) (d k))=true from hx'.2)
    have eq1:gq d q (k + 1)=fsum (gq d q k) (d k):=rfl
    have egl:gl d q k=sL (gq d q k) (d k):=rfl
    have es:gs d q (k + 1)=(gs d q k).add (gl d q k):=rfl
    rw [<- egl,<- eq1] at e
    rw [es,lsm_add rl,lsm_succ]
    omega
theorem grw_sum {d:Nat->Int} {q:Int} {n:Nat} (hd:∀ i,i < n->rng (d i)∧pok (d i)=true) (hq:rng q) (pq:pok q=true) (hx:gx d q n=true):lsm (grw n d q).d (grw n d q).n=iV q + lsm d n:=by
  have h:=gs_sum hd hq pq n (Nat.le_refl _) hx
  obtain ⟨r1,r2⟩:=gq_fin hd hq pq n (Nat.le_refl _) hx
  show lsm ((gs d q n).add (gq d q n)).d ((gs d q n).add (gq d q n)).n=_
  rw [lsm_add r1]
  exact h
theorem maxV_ge:(2:Int) ^ 2097 <= maxV:=by
  have h:(2:Int) ^ 2097 <= (V Ieee.double 9218868437227405311:Int):=by decide +kernel
  exact h
theorem p2_up {b c:Nat} {x:Int} (h:(x.natAbs:Int) <= 2 ^ b) (hbc:b <= c):(x.natAbs:Int) <= 2 ^ c:=Int.le_trans h (p2le hbc)
def LB (s:Ls) (b:Nat):Prop:=∀ i,i < s.n->((iV (s.d i)).natAbs:Int) <= 2 ^ b
theorem LB.add {s:Ls} {b:Nat} (h:LB s b) {x:Int} (hx:((iV x).natAbs:Int) <= 2 ^ b):LB (s.add x) b:=by
  unfold Ls.add
  split
  . exact h
  . intro i hi
    show ((iV (upd s.d s.n x i)).natAbs:Int) <= _
    by_cases e:i=s.n
    . subst e; rw [upd_same]; exact hx
    . rw [upd_other _ _ e]; exact h i (by have:i < s.n + 1:=hi; omega)
theorem gq_bd {d:Nat->Int} {q:Int} {n b:Nat} (hd:∀ i,i < n->rng (d i)∧pok (d i)=true) (hq:rng q) (pq:pok q=true) (bd:∀ i,i < n->((iV (d i)).natAbs:Int) <= 2 ^ b) (bq:((iV q).natAbs:Int) <= 2 ^ b) (hb:b + 2 * n <= 2090) :
    ∀ k,k <= n->gx d q k=true∧((iV (gq d q k)).natAbs:Int) <= 2 ^ (b + 2 * k)∧LB (gs d q k) b
  | 0,_=>⟨rfl,bq,fun i hi=>absurd hi (Nat.not_lt_zero _)⟩
  | k + 1,hk=>by
    obtain ⟨h1,h2,h3⟩:=gq_bd hd hq pq bd bq hb k (by omega)
    obtain ⟨r1,r2⟩:=gq_fin hd hq pq k (by omega) h1
    obtain ⟨d1,d2⟩:=hd k (by omega)
    have b1:=bd k (by omega)
    have hM:=maxV_ge
    have p1:(2:Int) ^ (b + 2 * k + 1) <= 2 ^ 2097:=p2le (by omega)
    have p2':(2:Int) ^ (b + 1) <= 2 ^ 2097:=p2le (by omega)
    rw [p2s] at p1 p2'
    obtain ⟨f1,f2⟩:=sum_fin r1 d1 r2 d2 (by omega) (by omega)
    have nr:=fsum_nr r1 d1 f2
    have hx:gx d q (k + 1)=true:=by
      show (gx d q k && pok (gl d q k))=true
      rw [h1]; exact f2
    have e:=(sL_exact r1 d1 f2).2.2
    have hl:=nr_loss (fl_iV (gq d q k)) nr
    have h0:=nr.2 0 fl_zero
    have hle:(2:Int) ^ b <= 2 ^ (b + 2 * k):=p2le (by omega)
    have p3:(2:Int) ^ (b + 2 * (k + 1))=4 * 2 ^ (b + 2 * k):=by
      rw [show b + 2 * (k + 1)=b + 2 * k + 1 + 1 by omega,p2s,p2s]; omega
    refine ⟨hx,?_,?_⟩
    . show ((iV (fsum (gq d q k) (d k))).natAbs:Int) <= _
      rw [p3]
      omega
    . show LB ((gs d q k).add (gl d q k)) b
      refine h3.add ?_
      show ((iV (sL (gq d q k) (d k))).natAbs:Int) <= _
      have:iV (sL (gq d q k) (d k))=iV (gq d q k) + iV (d k) - iV (fsum (gq d q k) (d k)):=by omega
      rw [this]
      omega
theorem grw_bd {s:Ls} {q:Int} {b:Nat} (hs:s.fin) (hq:rng q) (pq:pok q=true) (bd:LB s b) (bq:((iV q).natAbs:Int) <= 2 ^ b) (hb:b + 2 * s.n <= 2090):gx s.d q s.n=true∧LB (grw s.n s.d q) (b + 2 * s.n):=by
  obtain ⟨h1,h2,h3⟩:=gq_bd hs hq pq bd bq hb s.n (Nat.le_refl _)
  refine ⟨h1,?_⟩
  show LB ((gs s.d q s.n).add (gq s.d q s.n)) _
  exact LB.add (fun i hi=>p2_up (h3 i hi) (by omega)) h2
theorem XV.fn {s:Ls} (h:XV s.d s.n):s.fin:=fun i hi=>⟨(h.fin i hi).1,(h.fin i hi).2.1⟩
theorem gaS_all {s:Ls} {f:Nat->Int} {m b L:Nat} (hs:XV s.d s.n) (hf:∀ i,i < m->rng (f i)∧pok (f i)=true) (bs:LB s b) (bf:∀ i,i < m->((iV (f i)).natAbs:Int) <= 2 ^ b) (hL:s.n + m <= L) (hb:b + 2 * L * m <= 2090) :
    ∀ k,k <= m->gaX s f k=true∧XV (gaS s f k).d (gaS s f k).n∧LB (gaS s f k) (b + 2 * L * k)∧lsm (gaS s f k).d (gaS s f k).n=lsm s.d s.n + lsm f k
  | 0,_=>⟨rfl,hs,bs,by show lsm s.d s.n=lsm s.d s.n + 0; omega⟩
  | k + 1,hk=>by
    obtain ⟨h1,h2,h3,h4⟩:=gaS_all hs hf bs bf hL hb k (by omega)
    obtain ⟨f1,f2⟩:=hf k (by omega)
    have hn:=gaS_le s f k
    have hmul:2 * L * (k + 1) <= 2 * L * m:=Nat.mul_le_mul_left _ (by omega)
    rw [Nat.mul_add,Nat.mul_one] at hmul
    obtain ⟨g1,g2⟩:=grw_bd h2.fn f1 f2 h3 (p2_up (bf k (by omega)) (by omega)) (by omega)
    rw [gaX_succ,gaS_succ,h1,g1,lsm_succ]
    refine ⟨rfl,grw_xv h2 f1 f2 g1,fun i hi=>p2_up (g2 i hi) (by rw [Nat.mul_add,Nat.mul_one]; omega),?_⟩
    rw [grw_sum h2.fn f1 f2 g1,h4]
    omega
def mdb (z:Int):Int:=bits .or .i64 (bits .andNot .i64 z 9218868437227405312) ((823 + z / 4503599627370496 % 256) * 4503599627370496)
theorem mid_nat (u e:Nat) (he:e < 2048):((u &&& 9227875636482146303) ||| (e * 4503599627370496)) / 4503599627370496 % 2048=e:=by
  have h1:∀ a:Nat,a / 4503599627370496=a >>> 52:=fun a=>(Nat.shiftRight_eq_div_pow a 52).symm
  rw [h1,Nat.shiftRight_or_distrib,Nat.shiftRight_and_distrib]
  have h2:(9227875636482146303:Nat) >>> 52=2048:=by decide
  have h3:(e * 4503599627370496) >>> 52=e:=by
    rw [Nat.shiftRight_eq_div_pow]; exact Nat.mul_div_cancel _ (by decide)
  rw [h2,h3]
  have h4:((u >>> 52 &&& 2048) ||| e) % 2 ^ 11=((u >>> 52 &&& 2048) % 2 ^ 11) ||| (e % 2 ^ 11):=Nat.or_mod_two_pow
  have h5:(u >>> 52 &&& 2048) % 2 ^ 11=(u >>> 52 % 2 ^ 11) &&& (2048 % 2 ^ 11):=Nat.and_mod_two_pow
  have h6:(u >>> 52 % 2 ^ 11 &&& 2048 % 2 ^ 11)=0:=by
    rw [show (2048:Nat) % 2 ^ 11=0 by decide,Nat.and_zero]
  show _ % 2 ^ 11=e
  rw [h4,h5,h6,Nat.zero_or]
  exact Nat.mod_eq_of_lt he
theorem wrap_nat (x:Nat) (h:x < 18446744073709551616):(IntKind.i64.wrap (x:Int) % 18446744073709551616).toNat=x:=by
  rw [IntKind.wrap_i64]
  omega
theorem shl_nat (e:Nat) (h:e < 2048):(((e:Int) * 4503599627370496) % 18446744073709551616).toNat=e * 4503599627370496:=by omega
theorem fld_wrap (W e:Nat) (h:W < 18446744073709551616) (h3:W / 4503599627370496 % 2048=e):rng (IntKind.i64.wrap (W:Int))∧fld (IntKind.i64.wrap (W:Int))=e:=by
  unfold rng fld
  rw [IntKind.wrap_i64]
  omega
theorem or_lt64 {x y:Nat} (hx:x < 18446744073709551616) (hy:y < 18446744073709551616):(x ||| y) < 18446744073709551616:=by
  have:=Nat.or_lt_two_pow (n:=64) (x:=x) (y:=y) (by exact hx) (by exact hy)
  exact this
theorem mid_e (z:Int):∃ e:Nat,823 + z / 4503599627370496 % 256=e∧e < 2048:=⟨(823 + z / 4503599627370496 % 256).toNat,by omega,by omega⟩
theorem and_lt64 (u:Nat):u &&& 9227875636482146303 < 18446744073709551616:=Nat.lt_of_le_of_lt Nat.and_le_right (by decide)
theorem mid_fld (z:Int):rng (mdb z)∧fld (mdb z)=823 + z / 4503599627370496 % 256:=by
  obtain ⟨e,he,he2⟩:=mid_e z
  unfold mdb
  rw [he,bits_andNot64,bits_or64]
  have m1:(18446744073709551615 - ((9218868437227405312:Int) % 18446744073709551616).toNat)=9227875636482146303:=by decide
  rw [m1,wrap_nat _ (and_lt64 _),shl_nat e he2]
  exact fld_wrap _ e (or_lt64 (and_lt64 _) (by omega)) (mid_nat _ e he2)
theorem mdb_eq (z:Int):bits .or .i64 (bits .andNot .i64 z 9218868437227405312) (wrap64 (wrap64 (823 + bits .and .i64 (z / 4503599627370496) 255) * 4503599627370496))=mdb z:=by
  obtain ⟨e,he,he2⟩:=mid_e z
  rw [and_i64_255]
  unfold mdb
  rw [he,IntWalk.wrap64_in (e:Int) ⟨by omega,by omega⟩,IntWalk.wrap64_in ((e:Int) * 4503599627370496) ⟨by omega,by omega⟩]
theorem mid_facts (z:Int):rng (mdb z)∧pok (mdb z)=true∧rg (mdb z) ≠ 0∧((iV (mdb z)).natAbs:Int) <= 2 ^ 1130:=by
  obtain ⟨h1,h2⟩:=mid_fld z
  have hf0:fld (mdb z) ≠ 2047:=by omega
  have hf1:fld (mdb z) ≠ 0:=by omega
  have hp:pok (mdb z)=true:=by simp [pok,hf0]
  have hc:cls (mdb z)=2:=by unfold cls; rw [if_neg hf0,if_neg hf1]
  have hfr:=frc_le (mdb z)
  refine ⟨h1,hp,fun q=>?_,?_⟩
  . have:=(cls_nought h1).2 q
    omega
  . rw [iV_form h1 hp]
    have e1:pmag (mdb z)=4503599627370496 + frc (mdb z):=by unfold pmag; rw [if_neg hf0,if_neg hf1]
    have e2:pexp (mdb z)=fld (mdb z) - 1075:=by unfold pexp; rw [if_neg hf0,if_neg hf1]
    have hm:pmag (mdb z) <= 2 ^ 53:=by
      rw [e1]
      show _ <= 9007199254740992
      omega
    have hx:(pexp (mdb z) + 1074).toNat <= 1077:=by rw [e2]; omega
    have p1:(2:Int) ^ (pexp (mdb z) + 1074).toNat <= 2 ^ 1077:=p2le hx
    have p0:=p2 (pexp (mdb z) + 1074).toNat
    calc pmag (mdb z) * 2 ^ (pexp (mdb z) + 1074).toNat <= 2 ^ 53 * 2 ^ (pexp (mdb z) + 1074).toNat:=Int.mul_le_mul_of_nonneg_right hm (by omega)
      _ <= 2 ^ 53 * 2 ^ 1077:=Int.mul_le_mul_of_nonneg_left p1 (by decide)
      _=2 ^ 1130:=by rw [<- Int.pow_add]
def pB (S:Int):Int:=nearP (S * pw (-1074))
def pR (S:Int):Nat->Int
  | 0=>S
  | k + 1=>pR S k - iV (pB (pR S k))
theorem pR_succ (S:Int) (k:Nat):pR S (k + 1)=pR S k - iV (pB (pR S k)):=rfl
theorem pR_shift (S:Int):∀ k,pR S (k + 1)=pR (S - iV (pB S)) k
  | 0=>rfl
  | k + 1=>by rw [pR_succ,pR_shift S k,<- pR_succ]
theorem nr_nonzero {S b:Int} (n:Nr S b) (h:S ≠ 0):b ≠ 0:=by
  intro q
  subst q
  have f1:Fl 1:=⟨0,⟨1,by simp⟩,by decide⟩
  have f2:Fl (-1):=⟨0,⟨-1,by simp⟩,by decide⟩
  have h1:=n.2 1 f1
  have h2:=n.2 (-1) f2
  omega
theorem pB_ok {S:Int} (h:S ≠ 0) (hm:(S.natAbs:Int) <= maxV):rng (pB S)∧pok (pB S)=true∧rg (pB S) ≠ 0∧Nr S (iV (pB S)):=by
  obtain ⟨h1,h2,h3⟩:=near_iV h
  have h4:=h3 hm
  have h5:=h2 h4
  refine ⟨h1,h4,fun q=>?_,h5⟩
  exact nr_nonzero h5 h (iV_nought h1 q)
theorem nr_half {S x:Int} (n:Nr S x) (hne:x ≠ S):∃ u:Nat,(2 ^ (u + 1):Int) ∣ x∧((S - x).natAbs:Int) <= 2 ^ u:=by
  obtain ⟨k,h1,h2⟩:=binade (S.natAbs:Int) (by omega)
  rcases h2 with rfl | h2
  . exfalso
    have:Fl S:=⟨0,⟨S,by simp⟩,by simpa using h1⟩
    exact hne (nr_self this n)
  . have f:Fl (4503599627370496 * 2 ^ k:Int):=by
      have:=fl_p2 k (m:=4503599627370496) (by decide)
      exact this
    have h3:=dk5 n f h2
    have h4:=nr_err n (i:=k) (by omega)
    cases k with
    | zero=>
      have:(2:Int) ^ 0=1:=rfl
      omega
    | succ u=>
      have e:(2:Int) ^ (u + 1)=2 ^ u * 2:=Int.pow_succ 2 u
      exact ⟨u,fl_units n.1 h3,by omega⟩
theorem fl_two (u:Nat):Fl ((2:Int) ^ u):=by
  have:=fl_p2 u (m:=1) (by decide)
  have e:((1:Nat):Int) * 2 ^ u=2 ^ u:=by simp
  rw [e] at this
  exact this
theorem fl_twoN (u:Nat):Fl (-(2:Int) ^ u):=by
  obtain ⟨k,h1,h2⟩:=fl_two u
  exact ⟨k,Int.dvd_neg.2 h1,by rw [Int.natAbs_neg]; exact h2⟩
theorem nr_bound {S x:Int} {u:Nat} (n:Nr S x) (h:(S.natAbs:Int) <= 2 ^ u):(x.natAbs:Int) <= 2 ^ u:=by
  have h1:=nr_le n (fl_two u) (by omega)
  have h2:=nr_ge n (fl_twoN u) (by omega)
  omega
theorem part_lo {S x y:Int} (n:Nr S x) (m:Nr (S - x) y) (hne:S - x ≠ 0):Lo y x:=by
  obtain ⟨u,h1,h2⟩:=nr_half n (by omega)
  have h3:=nr_bound m h2
  have e:(2:Int) ^ (u + 1)=2 ^ u * 2:=Int.pow_succ 2 u
  have:=p2 u
  exact ⟨u + 1,by omega,h1⟩
theorem nr_dvd {S x:Int} {U:Nat} (n:Nr S x) (h:(2 ^ U:Int) ∣ S):(2 ^ U:Int) ∣ x:=by
  by_cases hs:(S.natAbs:Int) < 9007199254740992 * 2 ^ U
  . have:x=S:=nr_self ⟨U,h,hs⟩ n
    rw [this]
    exact h
  . have f:Fl (4503599627370496 * 2 ^ U:Int):=by
      have:=fl_p2 U (m:=4503599627370496) (by decide)
      exact this
    have:=p2 U
    exact fl_units n.1 (dk5 n f (by omega))
theorem dvd_small {U:Nat} {x:Int} (h:(2 ^ U:Int) ∣ x) (hl:2 * (x.natAbs:Int) <= 2 ^ U):x=0:=by
  apply Classical.byContradiction
  intro h0
  have:=dvd_abs_le h h0 (p2 U)
  have:=p2 U
  omega
structure PS (S:Int) (N:Nat):Prop where
  ne:∀ k,k < N->pR S k ≠ 0∧((pR S k).natAbs:Int) <= maxV
  none:pR S N=0
theorem ps_zero:PS 0 0:=⟨fun k hk=>absurd hk (Nat.not_lt_zero _),rfl⟩
theorem ps_succ {S:Int} {N:Nat} (h:S ≠ 0) (hm:(S.natAbs:Int) <= maxV) (k:PS (S - iV (pB S)) N):PS S (N + 1):=by
  refine ⟨fun i hi=>?_,by rw [pR_shift]; exact k.none⟩
  cases i with
  | zero=>exact ⟨h,hm⟩
  | succ i=>
    rw [pR_shift]
    exact k.ne i (by omega)
theorem ps_step {U i:Nat} {S:Int} (h0:S ≠ 0) (hd:(2 ^ U:Int) ∣ S) (hs:(S.natAbs:Int) <= 9007199254740992 * 2 ^ i) (hx:(S.natAbs:Int) <= maxV):(2 ^ U:Int) ∣ S - iV (pB S)∧2 * ((S - iV (pB S)).natAbs:Int) <= 2 ^ i∧((S - iV (pB S)).natAbs:Int) <= maxV:=by
  obtain ⟨_,_,_,n⟩:=pB_ok h0 hx
  have he:=nr_err n (i:=i) hs
  have h1:=n.2 0 fl_zero
  generalize maxV=M at *
  generalize (2:Int) ^ i=X at *
  refine ⟨Int.dvd_sub hd (nr_dvd n hd),?_,?_⟩ <;> clear hd n <;> omega
theorem ps_of (U:Nat) (hU:1 <= U) (m:Nat):∀ (i:Nat) (S:Int),(2 ^ U:Int) ∣ S->(S.natAbs:Int) <= 9007199254740992 * 2 ^ i->i < U + 53 * m->(S.natAbs:Int) <= maxV->∃ N,N <= m + 1∧PS S N:=by
  induction m with
  | zero=>
    intro i S hd hs hi hx
    by_cases h0:S=0
    . subst h0
      exact ⟨0,by omega,ps_zero⟩
    . obtain ⟨hd2,he,_⟩:=ps_step h0 hd hs hx
      have hz:S - iV (pB S)=0:=dvd_small hd2 (Int.le_trans he (p2le (by omega)))
      refine ⟨1,by omega,ps_succ h0 hx ?_⟩
      rw [hz]
      exact ps_zero
  | succ m ih=>
    intro i S hd hs hi hx
    by_cases h0:S=0
    . subst h0
      exact ⟨0,by omega,ps_zero⟩
    . obtain ⟨hd2,he,hx2⟩:=ps_step h0 hd hs hx
      have h53:(9007199254740992:Int) * 2 ^ (i - 53)=2 ^ (53 + (i - 53)):=by
        rw [Int.pow_add]
        rfl
      have hle:=p2le (show i <= 53 + (i - 53) by omega)
      have hs2:((S - iV (pB S)).natAbs:Int) <= 9007199254740992 * 2 ^ (i - 53):=by
        rw [h53]
        generalize (2:Int) ^ (53 + (i - 53))=Y at *
        generalize (2:Int) ^ i=X at *
        clear hd hd2 hs hx hx2 ih
        omega
      obtain ⟨N,hN,k⟩:=ih (i - 53) (S - iV (pB S)) hd2 hs2 (by omega) hx2
      exact ⟨N + 1,by omega,ps_succ h0 hx k⟩
def pD (S:Int) (N:Nat) (i:Nat):Int:=pB (pR S (N - 1 - i))
theorem ps_xv {S:Int} {N:Nat} (h:PS S N):XV (pD S N) N:=by
  refine ⟨fun i hi=>?_,fun i hi=>?_⟩
  . obtain ⟨a,b⟩:=h.ne (N - 1 - i) (by omega)
    obtain ⟨x,y,z,_⟩:=pB_ok a b
    exact ⟨x,y,z⟩
  . obtain ⟨a,b⟩:=h.ne (N - 1 - i) (by omega)
    obtain ⟨c,d⟩:=h.ne (N - 1 - (i + 1)) (by omega)
    obtain ⟨j,hj⟩:∃ j,N - 1 - (i + 1)=j:=⟨_,rfl⟩
    have e:N - 1 - i=j + 1:=by omega
    unfold pD
    rw [e] at a b ⊢
    rw [hj] at c d ⊢
    have n1:=(pB_ok c d).2.2.2
    have n2:=(pB_ok a b).2.2.2
    exact part_lo n1 n2 a
theorem lsm_head (d:Nat->Int):∀ n,lsm d (n + 1)=iV (d 0) + lsm (fun i=>d (i + 1)) n
  | 0=>by show 0 + iV (d 0)=iV (d 0) + 0; omega
  | n + 1=>by
    rw [lsm_succ,lsm_head d n,lsm_succ (fun i=>d (i + 1))]
    omega
theorem lsm_rev (d:Nat->Int):∀ n,lsm (fun i=>d (n - 1 - i)) n=lsm d n
  | 0=>rfl
  | n + 1=>by
    rw [lsm_head d n,lsm_succ]
    have h1:lsm (fun i=>d (n + 1 - 1 - i)) n=lsm (fun i=>(fun i=>d (i + 1)) (n - 1 - i)) n:=lsm_congr fun i hi=>by
      show d (n + 1 - 1 - i)=d (n - 1 - i + 1)
      rw [show n + 1 - 1 - i=n - 1 - i + 1 by omega]
    rw [h1,lsm_rev (fun i=>d (i + 1)) n]
    show _ + iV (d (n + 1 - 1 - n))=_
    rw [show n + 1 - 1 - n=0 by omega]
    omega
theorem lsm_pR (S:Int):∀ k,lsm (fun i=>pB (pR S i)) k=S - pR S k
  | 0=>by show (0:Int)=S - S; omega
  | k + 1=>by
    rw [lsm_succ,lsm_pR S k,pR_succ]
    omega
theorem ps_sum {S:Int} {N:Nat} (h:PS S N):lsm (pD S N) N=S:=by
  have h1:=lsm_rev (fun i=>pB (pR S i)) N
  have h2:=lsm_pR S N
  rw [h.none] at h2
  have h3:lsm (pD S N) N=lsm (fun i=>(fun i=>pB (pR S i)) (N - 1 - i)) N:=rfl
  rw [h3,h1,h2]
  omega
theorem ps_fl {S:Int} {N:Nat} (h:PS S N) (f:Fl S):N <= 1:=by
  apply Classical.byContradiction
  intro hN
  obtain ⟨a,b⟩:=h.ne 0 (by omega)
  obtain ⟨c,_⟩:=h.ne 1 (by omega)
  have n:Nr S (iV (pB S)):=(pB_ok a b).2.2.2
  have e:=nr_self f n
  exact c (by show S - iV (pB S)=0; rw [e,Int.sub_self])
theorem ps_nil {N:Nat} (h:PS 0 N):N=0:=by
  apply Classical.byContradiction
  intro hN
  exact (h.ne 0 (by omega)).1 rfl
theorem mid_dvd (z:Int):(2 ^ 822:Int) ∣ iV (mdb z):=by
  obtain ⟨h1,h2⟩:=mid_fld z
  have hf0:fld (mdb z) ≠ 2047:=by omega
  have hf1:fld (mdb z) ≠ 0:=by omega
  have hp:pok (mdb z)=true:=by simp [pok,hf0]
  have e2:pexp (mdb z)=fld (mdb z) - 1075:=by unfold pexp; rw [if_neg hf0,if_neg hf1]
  have hx:822 <= (pexp (mdb z) + 1074).toNat:=by rw [e2]; omega
  apply Int.dvd_natAbs.1
  rw [iV_form h1 hp]
  exact Int.dvd_trans (p2dvd hx) ⟨_,Int.mul_comm _ _⟩
theorem mid_sum (z:Nat->Int):∀ k,k <= 12->(2 ^ 822:Int) ∣ lsm (fun i=>mdb (z i)) k∧((lsm (fun i=>mdb (z i)) k).natAbs:Int) <= k * 2 ^ 1130
  | 0,_=>⟨⟨0,(Int.mul_zero _).symm⟩,by
    have e:((0:Nat):Int) * 2 ^ 1130=0:=Int.zero_mul _
    rw [e]
    exact Int.le_refl 0⟩
  | k + 1,hk=>by
    obtain ⟨h1,h2⟩:=mid_sum z k (by omega)
    have h3:=(mid_facts (z k)).2.2.2
    rw [lsm_succ]
    refine ⟨Int.dvd_add h1 (mid_dvd _),?_⟩
    have e:((k + 1:Nat):Int) * 2 ^ 1130=(k:Int) * 2 ^ 1130 + 2 ^ 1130:=by
      rw [Int.natCast_add,Int.add_mul]
      have e1:((1:Nat):Int) * 2 ^ 1130=2 ^ 1130:=Int.one_mul _
      rw [e1]
    rw [e]
    generalize (2:Int) ^ 1130=X at *
    generalize (k:Int) * X=Y at *
    show (((lsm (fun i=>mdb (z i)) k) + iV (mdb (z k))).natAbs:Int) <= _
    omega
def BlkN (w:World) (g N k:Nat) (q:Nat->NumR):Prop :=
  ∃ cur:Array Value,w.heap[g]?=some (.cells cur 27 (0,0))∧cur.size=N * 3∧∀ i,i < k->(cur[i * 3]?=some (.bool (q i).ng)∧cur[i * 3 + 1]?=some (.slice (q i).ao (q i).n (q i).cap)∧cur[i * 3 + 2]?=some (.int .i64 (q i).e))∧Row w (q i).ao (q i).n (q i).cap (q i).d
theorem info_num:∃ i,Tryz.prog.info? 27=some i∧i.zero=some (.agg #[.bool false,.slice none 0 0,.int .i64 0])∧i.size=3∧i.bytes=40:=by
  have h:(Tryz.prog.info? 27).map (fun i=>(i.zero,i.size,i.bytes))=some (some (.agg #[.bool false,.slice none 0 0,.int .i64 0]),3,40):=by kernel_rfl
  obtain ⟨i,hi,hzz⟩:=Option.map_eq_some_iff.1 h
  simp only [Prod.mk.injEq] at hzz
  exact ⟨i,hi,hzz⟩
theorem make_nums (n:Nat) (hn:n <= 100000) (w:World) :
    (Instr.makeSlice 51 (.int .i64 (n:Int)) (.int .i64 (n:Int))).run Tryz.prog w=.ok (.slice (some ⟨w.heap.size,0,none⟩) n n) (w.alloc (.cells (madeCells #[.bool false,.slice none 0 0,.int .i64 0] (n * 3)) 27)):=by
  obtain ⟨i,hi,hz,hs,hb⟩:=info_num
  have:=run_make (P:=Tryz.prog) w 51 27 i _ Tryz.underlying51 hi hz .i64 .i64 n n (by omega) (Int.le_refl _) (by rw [hb]; omega) (by omega)
  simp only [Int.toNat_natCast,hs] at this
  exact this
def updN (q:Nat->NumR) (k:Nat) (x:NumR):Nat->NumR:=fun j=>if j=k then x else q j
theorem updN_same (q:Nat->NumR) (k:Nat) (x:NumR):updN q k x k=x:=by simp [updN]
theorem updN_other (q:Nat->NumR) {k j:Nat} (x:NumR) (h:j ≠ k):updN q k x j=q j:=by simp [updN,h]
theorem keep3W {W w':World} {b g o0 o1 o2:Nat} {x y z:Value} (h:W.cell? ⟨b,o0,none⟩=some x∧W.cell? ⟨b,o1,none⟩=some y∧W.cell? ⟨b,o2,none⟩=some z) (hw:Wr g W w') (hg:b ≠ g) :
    w'.cell? ⟨b,o0,none⟩=some x∧w'.cell? ⟨b,o1,none⟩=some y∧w'.cell? ⟨b,o2,none⟩=some z :=
  ⟨(hw.cell (World.block_lt_of_cell? W _ h.1) hg).trans h.1,(hw.cell (World.block_lt_of_cell? W _ h.2.1) hg).trans h.2.1,(hw.cell (World.block_lt_of_cell? W _ h.2.2) hg).trans h.2.2⟩
theorem keep3B {W w':World} {b o0 o1 o2:Nat} {x y z:Value} (h:W.cell? ⟨b,o0,none⟩=some x∧W.cell? ⟨b,o1,none⟩=some y∧W.cell? ⟨b,o2,none⟩=some z) (hb:Below W.heap.size W w') :
    w'.cell? ⟨b,o0,none⟩=some x∧w'.cell? ⟨b,o1,none⟩=some y∧w'.cell? ⟨b,o2,none⟩=some z:=⟨cell_keeps h.1 hb,cell_keeps h.2.1 hb,cell_keeps h.2.2 hb⟩
theorem wr3 (W:World) (g o0 o1 o2:Nat) (x y z:Value):Wr g W (((W.setCell ⟨g,o0,none⟩ x).setCell ⟨g,o1,none⟩ y).setCell ⟨g,o2,none⟩ z):=(((Wr.refl g W).setCell o0 x).setCell o1 y).setCell o2 z
theorem Row.wrN {w w':World} {g:Nat} {ao:Option Addr} {n cap:Nat} {d:Nat->Int} (h:Row w ao n cap d) (hw:Wr g w w') {cur:Array Value} {z:Nat × Nat} (hg:w.heap[g]?=some (.cells cur 27 z)) (ht:∀ b off,ao=some ⟨b,off,none⟩->0 < n->b ≠ g):Row w' ao n cap d :=
  ⟨h.le,h.max,h.nl,fun hn=>by
    obtain ⟨b,off,rfl,hlt,hc⟩:=h.spot hn
    exact ⟨b,off,rfl,Nat.lt_of_lt_of_le hlt hw.size,fun i hi=>(hw.cell (p:=⟨b,off + i,none⟩) hlt (ht b off rfl hn)).trans (hc i hi)⟩⟩
theorem Ans.open {w w':World} {V:Int} {so:Option Addr} {sn sc:Nat} (h:Ans w w' V (.slice so sn sc)):∃ d,Row w' so sn sc d∧Nrm d sn∧val d sn=V∧∀ b off,so=some ⟨b,off,none⟩->w.heap.size <= b:=by
  obtain ⟨t,d,hO,hN,hV,_⟩:=h
  have hge:=own_ge hO
  obtain ⟨so',sc',e,hR⟩:=hO.row
  simp only [Value.slice.injEq] at e
  obtain ⟨rfl,rfl,rfl⟩:=e
  exact ⟨d,hR,hN,hV,fun b off hb=>hge b (by rw [hb]; rfl)⟩
theorem bel_set3' {w0 w:World} {g o0 o1 o2:Nat} (h:Below w0.heap.size w0 w) (hg:w0.heap.size <= g) (x y z:Value):Below w0.heap.size w0 (((w.setCell ⟨g,o0,none⟩ x).setCell ⟨g,o1,none⟩ y).setCell ⟨g,o2,none⟩ z):=((h.setCell (p:=⟨g,o0,none⟩) hg x).setCell (p:=⟨g,o1,none⟩) hg y).setCell (p:=⟨g,o2,none⟩) hg z
theorem set3_get {cur:Array Value} {k:Nat} {x y z:Value} (h:k * 3 + 2 < cur.size) (i:Nat) :
    let c:=((cur.setIfInBounds (k * 3) x).setIfInBounds (k * 3 + 1) y).setIfInBounds (k * 3 + 2) z
    (i=k->c[i * 3]?=some x∧c[i * 3 + 1]?=some y∧c[i * 3 + 2]?=some z)∧(i ≠ k->c[i * 3]?=cur[i * 3]?∧c[i * 3 + 1]?=cur[i * 3 + 1]?∧c[i * 3 + 2]?=cur[i * 3 + 2]?):=by
  intro c
  refine ⟨fun e=>?_,fun e=>?_⟩
  . subst e
    refine ⟨?_,?_,?_⟩
    . show (((cur.setIfInBounds (i * 3) x).setIfInBounds (i * 3 + 1) y).setIfInBounds (i * 3 + 2) z)[i * 3]?=some x
      rw [Array.getElem?_setIfInBounds_ne (by omega),Array.getElem?_setIfInBounds_ne (by omega),Array.getElem?_setIfInBounds_self_of_lt (by omega)]
    . show (((cur.setIfInBounds (i * 3) x).setIfInBounds (i * 3 + 1) y).setIfInBounds (i * 3 + 2) z)[i * 3 + 1]?=some y
      rw [Array.getElem?_setIfInBounds_ne (by omega),Array.getElem?_setIfInBounds_self_of_lt (by simp; omega)]
    . show (((cur.setIfInBounds (i * 3) x).setIfInBounds (i * 3 + 1) y).setIfInBounds (i * 3 + 2) z)[i * 3 + 2]?=some z
      rw [Array.getElem?_setIfInBounds_self_of_lt (by simp; omega)]
  . refine ⟨?_,?_,?_⟩
    all_goals
      show (((cur.setIfInBounds (k * 3) x).setIfInBounds (k * 3 + 1) y).setIfInBounds (k * 3 + 2) z)[_]?=_
      rw [Array.getElem?_setIfInBounds_ne (by omega),Array.getElem?_setIfInBounds_ne (by omega),Array.getElem?_setIfInBounds_ne (by omega)]
theorem BlkN.step {wr w3:World} {g N k:Nat} {q:Nat->NumR} (h:BlkN wr g N k q) (hb:Below wr.heap.size wr w3) (x:NumR) (hx:Row w3 x.ao x.n x.cap x.d) (hk:k < N) (hg:∀ i b' off,i < k->(q i).ao=some ⟨b',off,none⟩->0 < (q i).n->g < b') (hg2:∀ b' off,x.ao=some ⟨b',off,none⟩->0 < x.n->g < b') :
    BlkN (((w3.setCell ⟨g,k * 3,none⟩ (.bool x.ng)).setCell ⟨g,k * 3 + 1,none⟩ (.slice x.ao x.n x.cap)).setCell ⟨g,k * 3 + 2,none⟩ (.int .i64 x.e)) g N (k + 1) (updN q k x):=by
  obtain ⟨cur,hcur,hsz,hc⟩:=h
  have q0:=(hb.block g (Array.getElem?_eq_some_iff.1 hcur).1).trans hcur
  have q1:=heap_set (heap_set (heap_set q0 (k * 3) (.bool x.ng)) (k * 3 + 1) (.slice x.ao x.n x.cap)) (k * 3 + 2) (.int .i64 x.e)
  have hw:=wr3 w3 g (k * 3) (k * 3 + 1) (k * 3 + 2) (.bool x.ng) (.slice x.ao x.n x.cap) (.int .i64 x.e)
  refine ⟨_,q1,by simp [hsz],fun i hi=>?_⟩
  have hs:=set3_get (cur:=cur) (k:=k) (x:=.bool x.ng) (y:=.slice x.ao x.n x.cap) (z:=.int .i64 x.e) (by omega) i
  by_cases e:i=k
  . subst e
    rw [updN_same]
    exact ⟨hs.1 rfl,hx.wrN hw q0 fun b' off he hn=>by have:=hg2 b' off he hn; omega⟩
  . rw [updN_other q x e]
    obtain ⟨s0,s1,s2⟩:=hs.2 e
    obtain ⟨⟨c0,c1,c2⟩,hR⟩:=hc i (by omega)
    refine ⟨⟨s0.trans c0,s1.trans c1,s2.trans c2⟩,(hR.keeps hb).wrN hw q0 fun b' off he hn=>?_⟩
    have:=hg i b' off (by omega) he hn
    omega
theorem BlkN.nums {w:World} {g N:Nat} {q:Nat->NumR} (h:BlkN w g N N q) (hN:N <= 100000):Nums w (some ⟨g,0,none⟩) N N q:=by
  obtain ⟨cur,hcur,hsz,hc⟩:=h
  refine ⟨Nat.le_refl _,by omega,fun _=>⟨g,0,rfl,(Array.getElem?_eq_some_iff.1 hcur).1,fun i hi=>?_⟩⟩
  obtain ⟨⟨c0,c1,c2⟩,hR⟩:=hc i hi
  rw [Nat.zero_add]
  exact ⟨blkC hcur _ c0,blkC hcur _ c1,blkC hcur _ c2,hR⟩
def Half (x:NumR):Prop:=-500000 <= x.e∧x.e <= 500000
def PB (P:Nat->Prop) (w:World):Prop:=∀ k,P k->k < w.heap.size
structure BelP (P:Nat->Prop) (w w':World):Prop where
  os:w'.os=w.os
  tape:w'.tape=w.tape
  output:w'.output=w.output
  size:w.heap.size <= w'.heap.size
  block:∀ k,P k->w'.heap[k]?=w.heap[k]?
theorem BelP.refl (P:Nat->Prop) (w:World):BelP P w w:=⟨rfl,rfl,rfl,Nat.le_refl _,fun _ _=>rfl⟩
theorem BelP.trans {P:Nat->Prop} {a b c:World} (h:BelP P a b) (k:BelP P b c):BelP P a c :=
  ⟨k.os.trans h.os,k.tape.trans h.tape,k.output.trans h.output,Nat.le_trans h.size k.size,fun i hi=>(k.block i hi).trans (h.block i hi)⟩
theorem BelP.of {P:Nat->Prop} {w w':World} (h:Below w.heap.size w w') (hP:PB P w):BelP P w w':=⟨h.os,h.tape,h.output,h.size,fun k hk=>h.block k (hP k hk)⟩
theorem PB.le {P:Nat->Prop} {w w':World} (h:PB P w) (hs:w.heap.size <= w'.heap.size):PB P w':=fun k hk=>Nat.lt_of_lt_of_le (h k hk) hs
def OutP (P:Nat->Prop) (w:World) (v:Value) (s:Ls):Prop:=Out 0 w v s.n s.d∧∀ k,v.ownBlock=some k->¬ P k
theorem OutP.shape {P:Nat->Prop} {w:World} {v:Value} {s:Ls} (h:OutP P w v s):∃ ao cap,v=.slice ao s.n cap:=by
  obtain ⟨ao,cap,e,_⟩:=h.1.row
  exact ⟨ao,cap,e⟩
theorem OutP.stays {P:Nat->Prop} {w w':World} {v:Value} {s:Ls} (h:OutP P w v s) (hb:Below w.heap.size w w'):OutP P w' v s:=⟨h.1.stays hb,h.2⟩
theorem OutP.gr {P:Nat->Prop} {w w':World} {v:Value} {s:Ls} (h:OutP P w v s) (hP:PB P w) (g:w.grownBy w' v.ownBlock):BelP P w w' :=
  ⟨g.os,g.tape,g.output,g.size,fun k hk=>g.block k (hP k hk) fun e=>h.2 k e.symm hk⟩
theorem Ls.same.fin {s t:Ls} (h:s.same t) (ht:t.fin):s.fin:=fun i hi=>by
  rw [h.2 i hi]
  exact ht i (by rw [<- h.1]; exact hi)
theorem BelP.below {P:Nat->Prop} {N:Nat} {w w':World} (h:BelP P w w') (hP:∀ k,k < N->P k):Below N w w':=⟨h.os,h.tape,h.output,h.size,fun k hk=>h.block k (hP k hk)⟩
theorem OutP.raise {P:Nat->Prop} {N:Nat} {w:World} {v:Value} {s:Ls} (h:OutP P w v s) (hP:∀ k,k < N->P k):Out N w v s.n s.d:=by
  have h1:=h.1
  rcases h1.2 with q | ⟨g,cap,cur,q1,_,q3⟩
  . exact ⟨h1.1,.inl q⟩
  . refine ⟨h1.1,.inr ⟨g,cap,cur,q1,?_,q3⟩⟩
    have h2:=h.2 g (by rw [q1]; rfl)
    exact Nat.le_of_not_lt fun e=>h2 (hP g e)
theorem XR.from {w0 w w':World} {ok:Bool} {s:Ls} {r:Ending} (h:XR w ok s r w') (hb:Below w0.heap.size w0 w):XR w0 ok s r w':=by
  obtain ⟨h1,h2⟩:=h
  refine ⟨?_,bel_trans hb h2⟩
  rcases h1 with ⟨a,v,b,c⟩ | h
  . exact .inl ⟨a,v,b,c.lower hb.size⟩
  . exact .inr h
def psm (d:Nat->Int):Nat->Int
  | 0=>0
  | k + 1=>psm d k + patV (d k)
theorem psm_succ (d:Nat->Int) (k:Nat):psm d (k + 1)=psm d k + patV (d k):=rfl
theorem psm_lsm {d:Nat->Int}:∀ {n},(∀ i,i < n->rng (d i)∧pok (d i)=true)->psm d n=lsm d n * pw (-1074)
  | 0,_=>by show (0:Int)=0 * _; rw [Int.zero_mul]
  | n + 1,h=>by
    rw [psm_succ,lsm_succ,Int.add_mul,psm_lsm fun i hi=>h i (by omega),patV_iV (h n (by omega)).1 (h n (by omega)).2]
theorem sumV_psm {q:Nat->NumR} {d:Nat->Int}:∀ {n},(∀ i,i < n->(q i).V=patV (d i))->sumV q n=psm d n
  | 0,_=>rfl
  | n + 1,h=>by
    have h1:=h n (by omega)
    unfold NumR.V at h1
    show sumV q n + sg (q n).ng (val (q n).d (q n).n) * pw (q n).e=psm d n + patV (d n)
    rw [sumV_psm fun i hi=>h i (by omega),h1]
set_option maxRecDepth 100000 in
set_option maxHeartbeats 2000000 in
theorem xExact_any {eo:Option Addr} {n ec:Nat} {d:Nat->Int} (w:World) (h:Row w eo n ec d) (hv:xval d n=true) (hr:∀ i,i < n->rng (d i)) (hn:n <= 1000) (H:Hold4 w) :
    Calls Tryz.prog 13 #[.slice eo n ec] w fun x w'=>∃ v er,x=.returned (.tuple #[v,.int .i64 er])∧DFit w w' (psm d n) v er:=by
  have hle:=h.le
  have hmx:=h.max
  have hmake:=make_nums n (by omega)
  have HR:Hid (Row w eo n ec d):=h
  have HH:Hid (Hold4 w):=H
  have HF:Hid (∀ i,i < n->rng (d i)∧pok (d i)=true):=fun i hi=>⟨hr i hi,xval_fin hv i hi⟩
  have CV:Hid (∀ W,Below w.heap.size w W->Calls Tryz.prog 12 #[.slice eo n ec] W fun e w'=>e=.returned (.bool true)∧Below W.heap.size W w'):=fun W hW=>by
    have:=xvalid_any W (h.keeps hW) (H.keeps hW)
    rw [hv] at this
    exact this
  clear h H hr hv
  go_enter Tryz.func13,Tryz.ntmps13
  go_wp2_with fail
  have hb0:=bel_alloc w (.cells #[.bool false,.slice none 0 0,.int .i64 0] 27)
  refine (CV.out _ hb0).mono ?_
  rintro _ w1 ⟨rfl,hb1⟩
  go_wp2_with fail
  have hbw1:=bel_trans hb0 hb1
  have hbx:=bel_alloc w1 (.cells (madeCells #[.bool false,.slice none 0 0,.int .i64 0] (n * 3)) 27)
  have g0:=heap_a1 w1 (.cells (madeCells #[.bool false,.slice none 0 0,.int .i64 0] (n * 3)) 27)
  have HB0:Hid (BlkN (w1.alloc (.cells (madeCells #[.bool false,.slice none 0 0,.int .i64 0] (n * 3)) 27)) w1.heap.size n 0 (fun _=>⟨false,none,0,0,fun _=>0,0⟩)):=⟨_,g0,by rw [size_madeCells],fun i hi=>by omega⟩
  have hs1:=hbw1.size
  clear g0 hmake
  have hbwx:=bel_trans hbw1 hbx
  have hbrx:=bel_trans hb1 hbx
  generalize w1.alloc (.cells (madeCells #[.bool false,.slice none 0 0,.int .i64 0] (n * 3)) 27)=wx at hbx HB0 hbwx hbrx ⊢
  go_loopw [16] (fun iv wr=>∃ (k:Nat) (q:Nat->NumR),k <= n∧iv=.int .i64 k∧Hid (BlkN wr w1.heap.size n k q)∧Hid (∀ i,i < k->okR (q i)=true∧(q i).V=patV (d i))∧Hid (∀ i b' off,i < k->(q i).ao=some ⟨b',off,none⟩->0 < (q i).n->w1.heap.size < b')∧Below w.heap.size w wr∧Below (w.alloc (.cells #[.bool false,.slice none 0 0,.int .i64 0] 27)).heap.size (w.alloc (.cells #[.bool false,.slice none 0 0,.int .i64 0] 27)) wr) (fun iv _=>n - (intOf iv).toNat)
  case atStart=>exact ⟨0,_,Nat.zero_le _,rfl,HB0,fun i hi=>by omega,fun i b' off hi=>by omega,hbwx,hbrx⟩
  case round=>
    obtain ⟨k,q,hk,rfl,HQ,HV,HG,hbw,hbr⟩:=hrel
    clear HB0 hbx
    by_cases hlt:k < n
    . obtain ⟨bb,off,rfl,hbb,hc⟩:=(HR.out.keeps hbw).spot (by omega)
      have c0:=hc k hlt
      clear hc
      obtain ⟨rk,pk⟩:=HF.out k hlt
      have CO:Hid (∀ W,Hold4 W->Calls Tryz.prog 25 #[.int .i64 (d k)] W fun r w'=>∃ v,r=.returned (.tuple #[v,.int .i64 0])∧DAns W w' (patV (d k)) v):=fun W hW=>of_ok pk hW
      have hok:Dok (patV (d k)):=(patV_bd pk).ok (by omega)
      have i0:(0:Int) <= (k:Int):=by omega
      have i1:(k:Int) < (n:Int):=by omega
      obtain ⟨cur,hcur,hsz,hcells⟩:=HQ.out
      have e0:k * 3 < cur.size:=by omega
      have e1:k * 3 + 1 < cur.size:=by omega
      have e2:k * 3 + 2 < cur.size:=by omega
      obtain ⟨v0,hv0⟩:∃ v,cur[k * 3]?=some v:=⟨_,Array.getElem?_eq_getElem e0⟩
      obtain ⟨v1,hv1⟩:∃ v,cur[k * 3 + 1]?=some v:=⟨_,Array.getElem?_eq_getElem e1⟩
      obtain ⟨v2,hv2⟩:∃ v,cur[k * 3 + 2]?=some v:=⟨_,Array.getElem?_eq_getElem e2⟩
      have HCV:Hid (cur[k * 3]?=some v0∧cur[k * 3 + 1]?=some v1∧cur[k * 3 + 2]?=some v2):=⟨hv0,hv1,hv2⟩
      have HCUR:Hid (wr.heap[w1.heap.size]?=some (.cells cur 27 (0,0))):=hcur
      have hgs:w1.heap.size < wr.heap.size:=(Array.getElem?_eq_some_iff.1 hcur).1
      have HDK:Hid (∀ x,d k=x->d k=x):=fun _ h=>h
      clear hcells hv0 hv1 hv2 hcur hsz e0 e1 e2 rk pk
      go_wp2_with fail
      refine (CO.out _ (HH.out.keeps hbw)).mono ?_
      rintro _ w3 ⟨v,rfl,hA⟩
      obtain ⟨⟨x_g,x_o,x_n,x_c,x_d,x_e⟩,rfl,hRx,okx,hVx⟩:=hA.num.open hok
      have HRX:Hid (Row w3 x_o x_n x_c x_d):=hRx
      have HOX:Hid (okR ⟨x_g,x_o,x_n,x_c,x_d,x_e⟩=true∧(⟨x_g,x_o,x_n,x_c,x_d,x_e⟩:NumR).V=patV (d k)):=⟨okx,hVx⟩
      have HGD:Hid (∀ b' off,x_o=some ⟨b',off,none⟩->wr.heap.size <= b'):=by
        obtain ⟨g',s',m',e',hve,hy,ha⟩:=hA
        simp [NumR.v] at hve
        obtain ⟨_,rfl,_⟩:=hve
        obtain ⟨_,_,_,_,h9⟩:=ha.open
        exact h9
      clear okx hVx hRx
      have hbv1:=hA.below
      unfold NumR.v
      have q0:=(hbv1.block w1.heap.size hgs).trans HCUR.out
      have x0:=blkC q0 (k * 3) HCV.out.1
      have x1:=blkC q0 (k * 3 + 1) HCV.out.2.1
      have x2:=blkC q0 (k * 3 + 2) HCV.out.2.2
      have z0:=blkF q0 (k * 3)
      have z1:=blkF q0 (k * 3 + 1)
      have z2:=blkF q0 (k * 3 + 2)
      go_wp2
      go_roundw
      case rel=>
        have hgs2:∀ b' off,x_o=some ⟨b',off,none⟩->0 < x_n->w1.heap.size < b':=fun b' off he _=>by
          have h9:=HGD.out b' off he
          omega
        refine ⟨k + 1,updN q k ⟨x_g,x_o,x_n,x_c,x_d,x_e⟩,by omega,by go_num,BlkN.step (x:=⟨x_g,x_o,x_n,x_c,x_d,x_e⟩) HQ.out hbv1 HRX.out hlt HG.out hgs2,fun i hi=>?_,fun i b' off hi he hn'=>?_,bel_set3' (bel_trans hbw hbv1) hs1 _ _ _,bel_set3' (bel_trans hbr hbv1) hb1.size _ _ _⟩
        . by_cases e:i=k
          . subst e
            rw [updN_same]
            exact HOX.out
          . rw [updN_other _ _ e]
            exact HV.out i (by omega)
        . by_cases e:i=k
          . subst e
            rw [updN_same] at he hn'
            exact hgs2 b' off he hn'
          . rw [updN_other _ _ e] at he hn'
            exact HG.out i b' off (by omega) he hn'
      case measure=>simp [intOf]; omega
    . obtain rfl:k=n:=by omega
      have CS:=dsum_ok (some ⟨w1.heap.size,0,none⟩) k k q wr (HQ.out.nums (by omega)) (decide_eq_true fun i hi=>(HV.out i hi).1) (by omega) (HH.out.keeps hbw).tab
      rw [sumV_psm fun i hi=>(HV.out i hi).2] at CS
      have hgw:w.heap.size < wr.heap.size:=by
        have h1:w.heap.size < w1.heap.size:=Nat.lt_of_lt_of_le (by rw [size1]; omega) hb1.size
        obtain ⟨cur,hcur,_⟩:=HQ.out
        have:=(Array.getElem?_eq_some_iff.1 hcur).1
        omega
      have qr:=(hbr.block w.heap.size (by rw [size1]; omega)).trans (heap_a1 w (.cells #[.bool false,.slice none 0 0,.int .i64 0] 27))
      go_wp2_with fail
      refine CS.mono ?_
      rintro _ w4 ⟨v,er,rfl,hF⟩
      obtain ⟨ng',so,sn,sc,e',rfl⟩:=hF.shape
      have q0:=(hF.1.block w.heap.size hgw).trans qr
      have x0:=blkC q0 0 rfl
      have x1:=blkC q0 1 rfl
      have x2:=blkC q0 2 rfl
      have z0:=blkF q0 0
      have z1:=blkF q0 1
      have z2:=blkF q0 2
      go_wp2
      refine bodyPost_ret (v:=.tuple #[.agg #[.bool ng',.slice so sn sc,.int .i64 e'],.int .i64 er]) (by simp [results,Tryz.results13,go_sem,x0,x1,x2]) rfl ⟨_,_,rfl,?_⟩
      exact dfit_res (g:=w.heap.size) hF hbw (Nat.le_refl _) hgw _ _ _
theorem sg_mulp {g:Bool} {a q:Int}:sg g a * q=sg g (a * q):=by
  cases g
  . rfl
  . show -a * q=-(a * q)
    rw [Int.neg_mul]
theorem to_pB {x:NumR} (ok:okR x=true) {S:Int} (hV:x.V=S * pw (-1074)) (h0:S ≠ 0) (hm:(S.natAbs:Int) <= maxV):(toR 0 x).1=pB S:=by
  have hne:x.V ≠ 0:=by
    rw [hV]
    exact k_ne (pw_pos (-1074)) h0
  have hn:0 < x.n:=by
    apply Nat.pos_of_ne_zero
    intro q
    apply hne
    have hv:val x.d x.n=0:=by rw [q]; rfl
    unfold NumR.V
    rw [hv,sg_zero,Int.zero_mul]
  obtain ⟨r0,left,hR,hf⟩:=to_all ok hn
  rw [hf 0]
  have hD:0 < val x.d x.n * pw x.e:=by
    have hv0:=val_nonneg (okR_sane ok).1.1
    have:val x.d x.n ≠ 0:=by
      intro q
      apply hne
      unfold NumR.V
      rw [q,sg_zero,Int.zero_mul]
    exact Int.mul_pos (by omega) (pw_pos _)
  have e1:=nearP_sg (g:=x.ng) hD hR
  have e2:pB S=patS x.ng (rTo 0 x.ng r0 left):=by
    unfold pB
    rw [<- hV,<- e1]
    unfold NumR.V
    rw [sg_mulp]
  obtain ⟨g1,g2⟩:=rTo_range 0 x.ng r0 left
  have hp:0 < rTo 0 x.ng r0 left:=by
    apply Classical.byContradiction
    intro q
    have hz:rTo 0 x.ng r0 left=0:=by omega
    obtain ⟨a,b,c,d⟩:=pB_ok h0 hm
    apply c
    rw [e2,hz]
    exact (patS_parts (Int.le_refl 0) (by decide)).2.1
  show patS (x.ng && decide (0 < rTo 0 x.ng r0 left)) (rTo 0 x.ng r0 left)=pB S
  rw [decide_eq_true hp,Bool.and_true,e2]
theorem pR_val {S:Int} {N:Nat} (hP:PS S N) {k:Nat} (hk:k < N):pR S (k + 1) * pw (-1074)=pR S k * pw (-1074) - patV (pB (pR S k)):=by
  obtain ⟨a,b⟩:=hP.ne k hk
  obtain ⟨r,p,_,_⟩:=pB_ok a b
  rw [patV_iV r p,pR_succ,Int.sub_mul]
theorem pR_bd {S:Int} {N:Nat} (hP:PS S N) (b0:Bd 5000 (S * pw (-1074))) (hN:N <= 20000):∀ k,k <= N->Bd (5000 + k) (pR S k * pw (-1074))
  | 0,_=>b0
  | k + 1,hk=>by
    have h1:=pR_bd hP b0 hN k (by omega)
    obtain ⟨a,b⟩:=hP.ne k (by omega)
    obtain ⟨r,p,_,_⟩:=pB_ok a b
    have h2:=(patV_bd p).up (show 4000 <= 5000 + k by omega) (by omega)
    rw [pR_val hP (by omega),Int.sub_eq_add_neg]
    exact h1.add h2.neg (by omega)
theorem num_none {w:World} {g:Bool} {so:Option Addr} {sn sc:Nat} {e V:Int} (h:DNum w (.agg #[.bool g,.slice so sn sc,.int .i64 e]) V) (ok:Dok V):(sn=0 ↔ V=0)∧sn <= sc∧sc <= 9223372036854775807:=by
  obtain ⟨d,hR,hok,hV⟩:=h.open2 ok
  refine ⟨⟨fun q=>?_,fun q=>?_⟩,hR.le,hR.max⟩
  . rw [<- hV]
    have hv:val d sn=0:=by rw [q]; rfl
    show sg g (val d sn) * pw e=0
    rw [hv,sg_zero,Int.zero_mul]
  . apply Classical.byContradiction
    intro hn
    have hs:Sane _:=okR_sane hok
    have hN:=hs.1
    have h1:P (sn - 1) <= val d sn:=val_top hN.1 (Nat.pos_of_ne_zero hn) hN.2
    have h2:=P_pos (sn - 1)
    have h3:0 < val d sn * pw e:=Int.mul_pos (by show 0 < val d sn; omega) (pw_pos _)
    rw [<- hV] at q
    have h4:sg g (val d sn * pw e)=0:=by rw [<- sg_mulp]; exact q
    cases g
    . have:val d sn * pw e=0:=h4
      omega
    . have:-(val d sn * pw e)=0:=h4
      omega
theorem blk_at {w W:World} (h:Below w.heap.size w W) {g:Nat} {X:Obj} (k:w.heap[g]?=some X):W.heap[g]?=some X:=(h.block _ (Array.getElem?_eq_some_iff.1 k).1).trans k
theorem bel_upto {B:Nat} {w w1 w2:World} (h:Below B w w1) (k:Below B w1 w2):Below B w w2 :=
  ⟨k.os.trans h.os,k.tape.trans h.tape,k.output.trans h.output,Nat.le_trans h.size k.size,fun i hi=>(k.block i hi).trans (h.block i hi)⟩
theorem own_ne {B:Nat} {w:World} {v:Value} {n:Nat} {d:Nat->Int} (h:Out B w v n d) {k:Nat} {xs:Array Value} {z:Nat × Nat} (hk:w.heap[k]?=some (.cells xs 27 z)):v.ownBlock ≠ some k:=by
  intro q
  obtain ⟨cur,z',hh⟩:=h.typed q
  rw [hk] at hh
  simp at hh
def slN:Value->Nat
  | .slice _ n _=>n
  | _=>0
set_option maxRecDepth 100000 in
set_option maxHeartbeats 4000000 in
theorem xparts {S:Int} {N:Nat} (hP:PS S N) (hN:N <= 20000) {xg:Bool} {xo:Option Addr} {xn xc:Nat} {xe:Int} (w:World) (hx:DNum w (.agg #[.bool xg,.slice xo xn xc,.int .i64 xe]) (S * pw (-1074))) (b0:Bd 5000 (S * pw (-1074))) (H:Hold4 w) :
    Calls Tryz.prog 17 #[.agg #[.bool xg,.slice xo xn xc,.int .i64 xe]] w fun r w'=>XR w true ⟨N,pD S N⟩ r w':=by
  have HB:=hideIt (pR_bd hP b0 hN)
  have HH:Hid (Hold4 w):=H
  have HX:Hid (DNum w (.agg #[.bool xg,.slice xo xn xc,.int .i64 xe]) (S * pw (-1074))):=hx
  clear hx b0 H
  go_enter Tryz.func17,Tryz.ntmps17
  go_wp2_with fail
  go_loopw [3] (fun lv wr=>∃ (k:Nat) (g:Bool) (so:Option Addr) (sn sc:Nat) (e:Int),k <= N∧Hid (Out w.heap.size wr lv k (fun i=>pB (pR S i)))∧wr.heap[w.heap.size]?=some (.cells #[.bool g,.slice so sn sc,.int .i64 e] 27 (0,0))∧Hid (∀ W,wr.grownBy W lv.ownBlock->DNum W (.agg #[.bool g,.slice so sn sc,.int .i64 e]) (pR S k * pw (-1074)))∧Below w.heap.size w wr) (fun lv _=>N + 1 - slN lv)
  case atStart=>
    refine ⟨0,xg,xo,xn,xc,xe,Nat.zero_le _,Out.nil _ _ _,heap_a1 _ _,fun W hW=>?_,bel_alloc _ _⟩
    exact HX.out.keeps (bel_trans (bel_alloc _ _) (grown_below hW))
  case round=>
    obtain ⟨k,g,so,sn,sc,e,hk,HL,hbx,HD,hbw⟩:=hrel
    obtain ⟨lo,lc,rfl,hRl⟩:=HL.out.row
    have hRle:=hRl.le
    have hRmx:=hRl.max
    have bk:=HB.out k hk
    obtain ⟨z1,z2,z3⟩:=num_none (HD.out wr (World.grownBy.refl _ _)) (bk.ok (by omega))
    have c0:=blkC hbx 0 rfl
    have c1:=blkC hbx 1 rfl
    have c2:=blkC hbx 2 rfl
    clear hRl bk
    by_cases hlt:k < N
    . obtain ⟨p1,p2⟩:=hP.ne k hlt
      have hs0:0 < sn:=Nat.pos_of_ne_zero fun q=>k_ne (pw_pos (-1074)) p1 (z1.1 q)
      have s0:(0:Int) < (sn:Int):=by omega
      obtain ⟨q1,q2,q3,q4⟩:=pB_ok p1 p2
      have HBk:Hid (Bd (5000 + k) (pR S k * pw (-1074))):=HB.out k hk
      have HT:Hid (∀ W,Below wr.heap.size wr W->Calls Tryz.prog 29 #[.agg #[.bool g,.slice so sn sc,.int .i64 e],.int .i64 0] W fun r w'=>∃ o,r=.returned (.tuple #[.int .i64 (pB (pR S k)),.bool o,.int .i64 0])∧Below W.heap.size W w'):=by
        obtain ⟨x,h1,h2,_,h4⟩:=to_four (HD.out wr (World.grownBy.refl _ _)) (HBk.out.ok (by omega)) (HH.out.keeps hbw)
        exact fun W hW=>(h4 0 W ⟨by decide,by decide⟩ hW).mono fun r w' h=>⟨_,by rw [<- to_pB h1 h2 p1 p2]; exact h.1,h.2⟩
      have HOF:Hid (∀ W,Below w.heap.size w W->Calls Tryz.prog 25 #[.int .i64 (pB (pR S k))] W fun r w'=>∃ v,r=.returned (.tuple #[v,.int .i64 0])∧DAns W w' (patV (pB (pR S k))) v):=fun W hW=>of_ok q2 (HH.out.keeps hW)
      have HNO:Hid (∀ W,Calls Tryz.prog 30 #[.int .i64 (pB (pR S k))] W fun r w'=>r=.returned (.bool false)∧w'=W):=fun W=>by
        have:=xnought q1 W
        rw [decide_eq_false q3] at this
        exact this
      have HPV:Hid (pR S k * pw (-1074) - patV (pB (pR S k))=pR S (k + 1) * pw (-1074)):=(pR_val hP hlt).symm
      have HBp:Hid (Bd (5000 + k) (patV (pB (pR S k)))):=(patV_bd q2).up (by omega) (by omega)
      have HCT:Hid (∀ i,i < k + 1->cat (fun i=>pB (pR S i)) k (fun _=>pB (pR S k)) i=pB (pR S i)):=fun i hi=>by
        by_cases c:i < k
        . simp [cat,c]
        . have:i=k:=by omega
          subst this
          simp [cat]
      clear q1 q2 q3 q4 p1 p2 z1
      generalize pB (pR S k)=b at *
      go_wp2_with fail
      refine (HT.out wr (bel_refl wr)).mono ?_
      rintro _ y1 ⟨o,rfl,hw1⟩
      go_wp2_with fail
      refine (HOF.out y1 (bel_trans hbw hw1)).mono ?_
      rintro _ y2 ⟨v,rfl,h2⟩
      obtain ⟨n_g,n_o,n_n,n_c,n_e,rfl⟩:=dans_shape h2
      have hb3:=bel_alloc y2 (.cells #[.bool n_g,.slice n_o n_n n_c,.int .i64 n_e] 27)
      have n_k:=heap_a1 y2 (.cells #[.bool n_g,.slice n_o n_n n_c,.int .i64 n_e] 27)
      have hwr3:=bel_trans (bel_trans hw1 h2.below) hb3
      have HND:Hid (DAn y1.heap.size (y2.alloc (.cells #[.bool n_g,.slice n_o n_n n_c,.int .i64 n_e] 27)) (patV b) (.agg #[.bool n_g,.slice n_o n_n n_c,.int .i64 n_e])):=h2.dan.keeps hb3
      have x_3:=blk_at hwr3 hbx
      clear c0 c1 c2 hb3 h2
      go_wp2_with fail
      generalize y2.alloc (.cells #[.bool n_g,.slice n_o n_n n_c,.int .i64 n_e] 27)=x3 at *
      obtain ⟨gn,hgn⟩:∃ g,g=y2.heap.size:=⟨_,rfl⟩
      rw [<- hgn] at n_k ⊢
      clear hgn
      have HL3:Hid (Out w.heap.size x3 (.slice lo k lc) k (fun i=>pB (pR S i))):=HL.out.stays hwr3
      refine (HNO.out _).mono ?_
      rintro _ wz ⟨rfl,hwz⟩
      replace hwz:=hwz.symm
      subst hwz
      have HG4:Hid (∀ w4,x3.grownBy w4 (Value.slice lo k lc).ownBlock->DNum w4 (.agg #[.bool g,.slice so sn sc,.int .i64 e]) (pR S k * pw (-1074))∧DNum w4 (.agg #[.bool n_g,.slice n_o n_n n_c,.int .i64 n_e]) (patV b)∧Below w.heap.size w w4∧w4.heap[w.heap.size]?=some (.cells #[.bool g,.slice so sn sc,.int .i64 e] 27 (0,0))∧w4.heap[gn]?=some (.cells #[.bool n_g,.slice n_o n_n n_c,.int .i64 n_e] 27 (0,0))):=fun w4 hg4=>
        ⟨HD.out w4 (bel_gr hwr3 hg4),(dan_gr HND.out hg4 fun j hj=>Nat.lt_of_lt_of_le (HL.out.ge hj).2 hw1.size).num,(bel_trans hbw hwr3).grown hg4 (bel_trans hbw hwr3).size (fun j hj=>(HL3.out.ge hj).1),gr_blk hg4 x_3 (own_ne HL3.out x_3),gr_blk hg4 n_k (own_ne HL3.out n_k)⟩
      have hsz:w.heap.size <= x3.heap.size:=(bel_trans hbw hwr3).size
      clear x_3 n_k hwr3 hbx HD HND HL HT HOF HNO
      go_wp2_with (at_builtin; refine wpList_app rfl _ _ rfl w.heap.size _ k (fun i=>pB (pR S i)) rfl (HL3.out.stays (bel_alloc _ _)) _ 1 1 (fun _=>b) rfl (row1 _ _ rfl) (by omega) (Nat.le_trans hsz (bel_alloc _ _).size) ?_; intro v' w4 hO1 hg1; obtain ⟨vo,vc,rfl,hRv⟩:=hO1.row; obtain ⟨x_4,n_4,hb4,hx4,hn4⟩:=HG4.out w4 (bel_gr (bel_alloc _ _) hg1); have c0:=blkC hx4 0 rfl; have c1:=blkC hx4 1 rfl; have c2:=blkC hx4 2 rfl; have d0:=blkC hn4 0 rfl; have d1:=blkC hn4 1 rfl; have d2:=blkC hn4 2 rfl)
      clear c0 c1 c2 d0 d1 d2
      refine (sub_B x_4 n_4 HBk.out HBp.out (by omega) (HH.out.keeps hb4).tab).mono ?_
      rintro _ y5 ⟨v,rfl,h5⟩
      obtain ⟨s_g,s_o,s_n,s_c,s_e,rfl⟩:=dans_shape h5
      have hx5:=blk_at h5.below hx4
      have HO5:Hid (Out w.heap.size y5 (.slice vo (k + 1) vc) (k + 1) (fun i=>pB (pR S i))):=(hO1.stays h5.below).congr HCT.out
      have HD5:Hid (DAn w4.heap.size y5 (pR S (k + 1) * pw (-1074)) (.agg #[.bool s_g,.slice s_o s_n s_c,.int .i64 s_e])):=by
        have:=h5.dan
        rw [HPV.out] at this
        exact this
      have HLT:Hid (∀ j,(Value.slice vo (k + 1) vc).ownBlock=some j->j < w4.heap.size):=fun j hj=>(hO1.ge hj).2
      have hb5:=bel_trans hb4 h5.below
      have c0:=blkC hx5 0 rfl
      have c1:=blkC hx5 1 rfl
      have c2:=blkC hx5 2 rfl
      have f0:=blkF hx5 0
      have f1:=blkF hx5 1
      have f2:=blkF hx5 2
      clear h5 hO1 hg1 hRv x_4 n_4 hx4 hn4
      go_wp2
      go_roundw
      case rel=>
        have k0:=heap_set hx5 0 (.bool s_g)
        have k1:=heap_set k0 1 (.slice s_o s_n s_c)
        have k2:=heap_set k1 2 (.int .i64 s_e)
        refine ⟨k + 1,s_g,s_o,s_n,s_c,s_e,by omega,((HO5.out.set_num hx5 0 _).set_num k0 1 _).set_num k1 2 _,k2,fun W hW=>?_,((hb5.setCell (p:=⟨w.heap.size,0,none⟩) (Nat.le_refl _) _).setCell (p:=⟨w.heap.size,1,none⟩) (Nat.le_refl _) _).setCell (p:=⟨w.heap.size,2,none⟩) (Nat.le_refl _) _⟩
        exact (dan_gr (dan_st (dan_st (dan_st HD5.out hx5 0 _) k0 1 _) k1 2 _) hW HLT.out).num
      case measure=>show N + 1 - (k + 1) < N + 1 - k; omega
    . obtain rfl:k=N:=by omega
      have hz:sn=0:=z1.2 (by rw [hP.none,Int.zero_mul])
      subst hz
      have HSR:=hideIt (srev_any wr HL.out (by omega))
      clear HL HD hbx
      go_wp2_with fail
      refine HSR.out.mono ?_
      rintro _ y1 ⟨rfl,hO,hb⟩
      go_wp2
      go_ret
      exact ⟨.inl ⟨rfl,_,rfl,.inl hO⟩,bel_upto hbw hb⟩
theorem xa_yes {w w':World} {s:Ls} {r:Ending} (h:XA w true s r w'):∃ ao cap,r=.returned (.tuple #[.slice ao s.n cap,.int .i64 0])∧Row w' ao s.n cap s.d∧Below w.heap.size w w':=h.yes rfl
set_option maxRecDepth 100000 in
theorem xp1 {xg:Bool} {xo:Option Addr} {xn xc:Nat} {xe:Int} (g:Nat) (w:World) (ok:Bool) (s:Ls) (hg:w.heap[g]?=some (.cells #[.bool xg,.slice xo xn xc,.int .i64 xe] 27 (0,0)))
    (hG:Calls Tryz.prog 17 #[.agg #[.bool xg,.slice xo xn xc,.int .i64 xe]] w fun r w'=>XR w ok s r w') :
    Calls Tryz.prog 16 #[.pointer (some ⟨g,0,none⟩)] w fun r w'=>XR w ok s r w':=by
  have c0:=blkC hg 0 rfl
  have c1:=blkC hg 1 rfl
  have c2:=blkC hg 2 rfl
  clear hg
  go_enter Tryz.func16,Tryz.ntmps16
  go_wp2_with fail
  refine hG.mono ?_
  rintro r w' ⟨(⟨h1,v,rfl,h2⟩ | ⟨h1,rfl⟩),hb⟩
  . obtain ⟨ao,cc,rfl⟩:=h2.shape
    go_wp2
    go_ret
    exact ⟨.inl ⟨h1,_,rfl,h2⟩,hb⟩
  . unfold gaveX
    go_wp2
    exact ⟨rfl,.inr ⟨h1,rfl⟩,hb⟩
set_option maxRecDepth 100000 in
set_option maxHeartbeats 1000000 in
theorem xParts {S:Int} {N:Nat} (hP:PS S N) (hN:N <= 20000) {xg:Bool} {xo:Option Addr} {xn xc:Nat} {xe:Int} (w:World) (hx:DNum w (.agg #[.bool xg,.slice xo xn xc,.int .i64 xe]) (S * pw (-1074))) (b0:Bd 5000 (S * pw (-1074))) (H:Hold4 w) :
    Calls Tryz.prog 7 #[.agg #[.bool xg,.slice xo xn xc,.int .i64 xe]] w fun r w'=>∃ po pc,r=.returned (.tuple #[.slice po N pc,.int .i64 0])∧Row w' po N pc (pD S N)∧Below w.heap.size w w':=by
  have hmf:∀ (fn:Fn) (first cap:Array Value) (w:World),(Instr.makeFunc fn first cap).run Tryz.prog w=.ok (.func fn first cap) w:=fun _ _ _ _=>rfl
  have hE:∀ (cap:Array Value) (w:World),(callFunc 16 cap).run Tryz.prog w=.ok (.enter 16 cap) w:=by
    intro cap w
    simp [go_sem]
  have CV:Hid (∀ W,Below w.heap.size w W->Calls Tryz.prog 14 #[.agg #[.bool xg,.slice xo xn xc,.int .i64 xe]] W fun r w'=>r=.returned (.bool true)∧Below W.heap.size W w'):=fun W hW=>by
    obtain ⟨d,hR,hok,_⟩:=(hx.keeps hW).open2 (b0.ok (by omega))
    have:=dvalid_any xg xo xn xc d xe W hR
    rw [show okN xg d xn xe=true from hok] at this
    exact this
  have CP:Hid (∀ W,Below w.heap.size w W->Calls Tryz.prog 17 #[.agg #[.bool xg,.slice xo xn xc,.int .i64 xe]] W fun r w'=>XR W true ⟨N,pD S N⟩ r w'):=fun W hW=>xparts hP hN W (hx.keeps hW) b0 (H.keeps hW)
  have hb0:=bel_alloc w (.cells #[.bool xg,.slice xo xn xc,.int .i64 xe] 27)
  have k0:=heap_a1 w (.cells #[.bool xg,.slice xo xn xc,.int .i64 xe] 27)
  clear hx b0 H hP hN
  go_enter Tryz.func7,Tryz.ntmps7
  go_wp2_with fail
  refine (CV.out _ hb0).mono ?_
  rintro _ y1 ⟨rfl,hw1⟩
  have k1:=blk_at hw1 k0
  have hb1:=bel_trans hb0 hw1
  go_wp2_with fail
  refine (xtold_any 16 _ _ true ⟨N,pD S N⟩ (hE _) (fun W hW=>xp1 _ W true ⟨N,pD S N⟩ (blk_at hW k1) (CP.out W (bel_trans hb1 hW)))).mono ?_
  rintro _ y2 hA
  obtain ⟨po,pc,rfl,hR,hb2⟩:=xa_yes hA
  go_wp2
  refine bodyPost_ret (v:=.tuple #[.slice po N pc,.int .i64 0]) (by simp [results,Tryz.results7,go_sem]) rfl ⟨po,pc,rfl,hR,bel_trans hb1 hb2⟩
end Go.Proofs.YtijiabajfgnaoaaGreatDoor
