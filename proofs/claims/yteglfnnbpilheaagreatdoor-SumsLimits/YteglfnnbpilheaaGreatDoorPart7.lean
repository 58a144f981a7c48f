/- Parts of the proof. -/
import Derived.Test.YteglfnnbpilheaaGreatDoorPart6
set_option linter.unusedVariables false
set_option linter.unusedSimpArgs false
namespace Go.Proofs.YteglfnnbpilheaaGreatDoor
open Go Go.RowKit Go.Proofs.YteglfnnbpilheaaGreatDoor.M Ieee
theorem dLeast:Ieee.double.leastPlace=-1074:=by decide
theorem dFrac:Ieee.double.fractionBits=52:=by decide
theorem dBin:Ieee.double.binade=4503599627370496:=by decide
def lastP (mag:Nat) (place:Int):Int:=max (place + (mag.log2:Int) - 52) (-1074)
theorem nearest_word (neg:Bool) {mag:Nat} (place:Int) (h:mag ≠ 0):Ieee.double.nearest neg mag place=Ieee.double.word neg (min ((lastP mag place + 1074).toNat * 4503599627370496 + Toward.even.cut neg (mag * 2 ^ (place - lastP mag place).toNat) (lastP mag place - place).toNat) 9218868437227405312):=by
  unfold Format.nearest
  rw [if_neg h,dLeast,dFrac,dBin,dInf]
  dsimp only
  rw [Nat.shiftLeft_eq,show (lastP mag place + 1074)=(lastP mag place - -1074) by omega]
  rfl
theorem minInf {r:Nat} {up:Bool} {neg:Bool} {left:Int} (hup:rUp 0 neg (decide (r % 2=1)) left=up):((min (r + (if up=true then 1 else 0)) 9218868437227405312:Nat):Int)=rTo 0 neg r left:=by
  unfold rTo
  rw [hup]
  by_cases h:(r:Int) < 9218868437227405312
  . rw [if_pos h]
    cases up
    . simp only [Bool.false_eq_true,if_false]; omega
    . simp only [if_true]; omega
  . rw [if_neg h]
    have hb:bRung 0 neg=9218868437227405312:=by cases neg <;> rfl
    rw [hb]
    split <;> omega
theorem odd_rung (a u:Nat):decide ((a * 4503599627370496 + u) % 2=1)=decide (u % 2=1):=by congr 1; apply propext; omega
theorem nearest_rung (neg:Bool) {mag:Nat} {place:Int} (h:mag ≠ 0) (hp:-4194304 <= place) :
    ∃ (r0:Nat) (left:Int),Rung ((mag:Int) * pw place) r0 left∧Ieee.double.nearest neg mag place=Ieee.double.word neg (rTo 0 neg r0 left).toNat:=by
  rw [nearest_word neg place h]
  have h1:=Nat.log2_self_le h
  have h2:mag < 2 ^ (mag.log2 + 1):=Nat.lt_log2_self
  have hL:lastP mag place=max (place + (mag.log2:Int) - 52) (-1074):=rfl
  obtain ⟨l,hl⟩:∃ l,lastP mag place=l:=⟨_,rfl⟩
  rw [hl] at hL ⊢
  have hl0:-1074 <= l:=by omega
  have hl1:place + (mag.log2:Int) - 52 <= l:=by omega
  have hl2:-1074 < l->l=place + (mag.log2:Int) - 52:=by omega
  obtain ⟨a,ha⟩:∃ a:Nat,(l + 1074).toNat=a:=⟨_,rfl⟩
  have hal:l=-1074 + (a:Int):=by omega
  have e52:(2:Nat) ^ 52=4503599627370496:=by decide
  have e53:(2:Nat) ^ 53=9007199254740992:=by decide
  rw [ha]
  -- u units of 2^l and what is left
  have main:∃ (u:Nat) (left:Int),M.Left ((mag:Int) * pw place) u (pw l) left∧Toward.even.cut neg (mag * 2 ^ (place - l).toNat) (l - place).toNat=u + (if rUp 0 neg (decide (u % 2=1)) left then 1 else 0)∧u < 9007199254740992∧(0 < a->4503599627370496 <= u):=by
    by_cases hs:l <= place
    . obtain ⟨k,hk⟩:∃ k:Nat,(place - l).toNat=k:=⟨_,rfl⟩
      have hpl:place=l + (k:Int):=by omega
      rw [hk,show (l - place).toNat=0 by omega,cut_zero]
      refine ⟨mag * 2 ^ k,0,?_,?_,?_,?_⟩
      . have e:(mag:Int) * pw place=((mag * 2 ^ k:Nat):Int) * pw l:=by
          rw [hpl,pw_add (by omega),Int.mul_comm (pw l)]
          push_cast
          rw [Int.mul_assoc]
        have:=left_nat (mag:=mag * 2 ^ k) (u:=mag * 2 ^ k) (t:=0) (D:=1) (pw_pos l) (by omega) (by decide)
        rw [e]
        have e1:((1:Nat):Int) * pw l=pw l:=by rw [Int.natCast_one,Int.one_mul]
        rw [e1] at this
        exact this
      . have:rUp 0 neg (decide (mag * 2 ^ k % 2=1)) 0=false:=by
          cases hu:rUp 0 neg (decide (mag * 2 ^ k % 2=1)) 0
          . rfl
          . exact (rUp_left hu).elim
        rw [this]
        rfl
      . have b1:mag * 2 ^ k < 2 ^ (mag.log2 + 1) * 2 ^ k:=Nat.mul_lt_mul_of_pos_right h2 (Nat.two_pow_pos _)
        rw [<- Nat.pow_add] at b1
        have b2:2 ^ (mag.log2 + 1 + k) <= 2 ^ 53:=Nat.pow_le_pow_right (by decide) (by omega)
        omega
      . intro h0
        have b1:2 ^ mag.log2 * 2 ^ k <= mag * 2 ^ k:=Nat.mul_le_mul_right _ h1
        rw [<- Nat.pow_add] at b1
        have b2:2 ^ 52 <= 2 ^ (mag.log2 + k):=Nat.pow_le_pow_right (by decide) (by have:=hl2 (by omega); omega)
        omega
    . obtain ⟨k,hk⟩:∃ k:Nat,(l - place).toNat=k:=⟨_,rfl⟩
      have hpl:l=place + (k:Int):=by omega
      rw [hk,show (place - l).toNat=0 by omega,Nat.pow_zero,Nat.mul_one,cut_even neg mag k h]
      have hD:=Nat.two_pow_pos k
      have hdm:=Nat.div_add_mod mag (2 ^ k)
      have hml:=Nat.mod_lt mag hD
      refine ⟨mag / 2 ^ k,lefN (mag % 2 ^ k) (2 ^ k),?_,rfl,?_,?_⟩
      . have:=left_nat (mag:=mag) (u:=mag / 2 ^ k) (t:=mag % 2 ^ k) (D:=2 ^ k) (pw_pos place) (by rw [Nat.mul_comm]; exact hdm.symm) hml
        have e:pw l=((2 ^ k:Nat):Int) * pw place:=by
          rw [hpl,pw_add hp,Int.mul_comm]
          push_cast
          rfl
        rw [e]
        exact this
      . rw [Nat.div_lt_iff_lt_mul hD,<- e53,<- Nat.pow_add]
        exact Nat.lt_of_lt_of_le h2 (Nat.pow_le_pow_right (by decide) (by omega))
      . intro h0
        rw [Nat.le_div_iff_mul_le hD,<- e52,<- Nat.pow_add]
        exact Nat.le_trans (Nat.pow_le_pow_right (by decide) (by have:=hl2 (by omega); omega)) h1
  obtain ⟨u,left,hLeft,hcut,hu1,hu2⟩:=main
  rw [hcut]
  have hV:=V_rung Ieee.double a u (by rw [dBin]; omega) (fun q=>by rw [dBin]; exact hu2 q)
  rw [dBin] at hV
  have hpw:pw l=2 ^ a * pw (-1074):=by rw [hal,pw_add (by decide),Int.mul_comm]
  rw [hpw] at hLeft
  refine ⟨a * 4503599627370496 + u,left,left_rung hLeft hV.1 hV.2,?_⟩
  have hm:=minInf (r:=a * 4503599627370496 + u) (neg:=neg) (left:=left) rfl
  rw [odd_rung] at hm
  rw [<- hm,Int.toNat_natCast,Nat.add_assoc]
end Go.Proofs.YteglfnnbpilheaaGreatDoor
namespace Go.Proofs.YteglfnnbpilheaaGreatDoor
open Go Go.RowKit Go.Proofs.YteglfnnbpilheaaGreatDoor.M
theorem cls_pat {s:Bool} {r:Int} (h0:0 <= r) (h1:r <= 9218868437227405312) (h:s=true->0 < r):cls (patS s r) ≠ 4:=by
  obtain ⟨a,b,_⟩:=patS_facts h0 h1 h
  intro q
  have:=(cls_rg a).1.1 q
  omega
theorem key_pat {s:Bool} {r:Int} (h0:0 <= r) (h1:r <= 9218868437227405312) (h:s=true->0 < r):key (patS s r)=sg s r:=by
  unfold key patS sg
  cases s
  . simp only [Bool.false_eq_true,if_false]
    rw [if_neg (by omega)]
  . have:=h rfl
    simp only [if_true]
    rw [if_pos (by omega)]
    omega
theorem rg_neg {b:Int} (hb:rng b) (h:cls b ≠ 4):rg (neg b)=rg b∧key (neg b)=-key b:=by
  unfold rng at hb
  unfold neg
  rw [if_neg h]
  unfold rg key
  by_cases h0:b < 0
  . rw [if_pos h0,if_neg (by omega),if_pos h0,if_neg (by omega),if_pos h0]; omega
  . rw [if_neg h0,if_pos (by omega),if_neg h0,if_pos (by omega),if_neg h0]; omega
theorem cls_neg {b:Int} (hb:rng b) (h:cls b ≠ 4):cls (neg b) ≠ 4:=by
  intro q
  have h1:=(cls_rg (rng_neg hb)).1.1 q
  rw [(rg_neg hb h).1] at h1
  exact h ((cls_rg hb).1.2 h1)
theorem vS_nonneg (r:Nat):0 <= vS r:=by
  rcases Nat.eq_zero_or_pos r with h | h
  . subst h; rw [vS_zero]; exact Int.le_refl _
  . have:=vS_lt h
    rw [vS_zero] at this
    exact Int.le_of_lt this
theorem sg_key (ng:Bool) {r:Int} (h0:0 <= r):sg (ng && decide (0 < r)) r=sg ng r:=by
  by_cases h:0 < r
  . rw [decide_eq_true h,Bool.and_true]
  . obtain rfl:r=0:=by omega
    cases ng <;> rfl
theorem RdOf.key {V:Int} {ng:Bool} {f:Int->Int × Bool} {A:Int} {r0:Nat} {left:Int} {way:Int} (hf:f way=(patS (ng && decide (0 < rTo way ng r0 left)) (rTo way ng r0 left),decide (left ≠ 0) || decide (9218868437227405312 <= (r0:Int)))) :
    M.key (f way).1=sg ng (rTo way ng r0 left)∧cls (f way).1 ≠ 4∧rng (f way).1:=by
  obtain ⟨g1,g2⟩:=rTo_range way ng r0 left
  rw [hf]
  exact ⟨(key_pat g1 g2 and_pos).trans (sg_key ng g1),cls_pat g1 g2 and_pos,(patS_facts g1 g2 and_pos).1⟩
def HeldS (S A:Int) (mag:Nat) (exp:Int) (cut:Bool):Prop:=(mag:Int) * (pw exp * S) <= A∧A < ((mag:Int) + 1) * (pw exp * S)∧(cut=false ↔ A=(mag:Int) * (pw exp * S))
structure RungS (S A:Int) (r0:Nat) (left:Int):Prop where
  lo:vS r0 * S <= A
  hi:A < vS (r0 + 1) * S
  l0:left=0 ↔ A=vS r0 * S
  l1:left=1 ↔ vS r0 * S < A∧2 * A < vS r0 * S + vS (r0 + 1) * S
  l2:left=2 ↔ 2 * A=vS r0 * S + vS (r0 + 1) * S
  l3:left=3 ↔ vS r0 * S + vS (r0 + 1) * S < 2 * A
theorem left_ofS {S A:Int} {mag:Nat} {exp e:Int} {cut:Bool} (hS:0 < S) (h:HeldS S A mag exp cut) (hc:cut=true->0 < e - exp) (h0:-4194304 <= e) (h1:-4194304 <= exp):M.Left A (rU mag (e - exp)) (pw e * S) (rL mag cut (e - exp)):=by
  obtain ⟨a1,a2,a3⟩:=h
  have hq:0 < pw exp * S:=Int.mul_pos (pw_pos exp) hS
  have hqe:0 < pw e * S:=Int.mul_pos (pw_pos e) hS
  by_cases hs:e - exp <= 0
  . have hcf:cut=false:=by cases cut; rfl; have:=hc rfl; omega
    have hA:=a3.1 hcf
    unfold rU rL
    rw [if_pos hs,if_pos hs]
    have e1:((mag * 2 ^ (-(e - exp)).toNat:Nat):Int) * (pw e * S)=A:=by
      rw [hA,pw_sub (e:=exp) (low:=e) h0 (by omega),show (exp - e).toNat=(-(e - exp)).toNat by omega]
      push_cast
      simp only [Int.mul_assoc]
    exact ⟨by rw [e1]; omega,by rw [e1]; omega,by rw [e1]; simp,by rw [e1]; constructor <;> intro h <;> omega,by rw [e1]; constructor <;> intro h <;> omega,by rw [e1]; constructor <;> intro h <;> omega⟩
  . have hp:pw e * S=2 ^ (e - exp).toNat * (pw exp * S):=by rw [pw_sub (e:=e) (low:=exp) h1 (by omega),Int.mul_assoc]
    obtain ⟨s,hsn⟩:∃ s,(e - exp).toNat=s:=⟨_,rfl⟩
    have hs0:0 < s:=by omega
    unfold rU rL
    rw [if_neg hs,if_neg hs,hsn]
    rw [hsn] at hp
    obtain ⟨k,hk,hk0⟩:=two_half s hs0
    have hpn:(2:Int) ^ s=((2 ^ s:Nat):Int):=by simp
    rw [hpn,hk] at hp
    rw [hk]
    have hdm:=Nat.div_add_mod mag (2 * k)
    have hml:=Nat.mod_lt mag (show 0 < 2 * k by omega)
    generalize mag / (2 * k)=u at *
    generalize mag % (2 * k)=t at *
    generalize hQ:pw exp * S=q at *
    have e1:(mag:Int) * q=(u:Int) * (((2 * k:Nat):Int) * q) + (t:Int) * q:=by
      rw [<- hdm]; push_cast; rw [Int.add_mul]; congr 1; rw [Int.mul_comm (2 * (k:Int)) u,Int.mul_assoc]
    have e2:((mag:Int) + 1) * q=(mag:Int) * q + q:=by rw [Int.add_mul,Int.one_mul]
    rw [e2,e1] at a2
    rw [e1] at a1 a3
    rw [hp]
    have e3:((2 * k:Nat):Int) * q=2 * ((k:Int) * q):=by push_cast; rw [Int.mul_assoc]
    have t1:∀ x y:Nat,x <= y->(x:Int) * q <= (y:Int) * q:=fun x y h=>Int.mul_le_mul_of_nonneg_right (by omega) (by omega)
    have t2:∀ x y:Nat,x < y->(x:Int) * q + q <= (y:Int) * q:=fun x y h=>by
      have:=t1 (x + 1) y h
      push_cast at this
      rwa [Int.add_mul,Int.one_mul] at this
    have t0:0 <= (t:Int) * q:=Int.mul_nonneg (by omega) (by omega)
    have b1:(t:Int) * q + q <= 2 * ((k:Int) * q):=by rw [<- e3]; exact t2 t (2 * k) hml
    rw [e3] at a1 a2 a3 ⊢
    have c1:t < k->(t:Int) * q + q <= (k:Int) * q:=t2 t k
    have c2:t=k->(t:Int) * q=(k:Int) * q:=fun h=>by rw [h]
    have c3:k < t->(k:Int) * q + q <= (t:Int) * q:=t2 k t
    have c4:t=0->(t:Int) * q=0:=fun h=>by rw [h]; simp
    have c5:0 < t->q <= (t:Int) * q:=fun h=>by have:=t1 1 t h; rwa [Int.natCast_one,Int.one_mul] at this
    clear e1 e2 e3 t1 t2 hp
    obtain ⟨T,hT⟩:∃ T,(t:Int) * q=T:=⟨_,rfl⟩
    obtain ⟨K,hK⟩:∃ K,(k:Int) * q=K:=⟨_,rfl⟩
    obtain ⟨U,hU⟩:∃ U,(u:Int) * (2 * K)=U:=⟨_,rfl⟩
    rw [hT] at c1 c2 c3 c4 c5 t0 b1 a1 a2 a3
    rw [hK] at c1 c2 c3 b1 a1 a2 a3 ⊢
    rw [hU] at a1 a2 a3
    have a3':cut=true->A ≠ U + T:=fun h h2=>by rw [a3.2 h2] at h; cases h
    cases cut
    . have hA:=a3.1 rfl
      subst hA
      by_cases z0:t=0
      . have:=c4 z0
        rw [if_pos ⟨z0,rfl⟩]
        exact M.Left.mk' hU (by omega) (by omega) (by constructor <;> intro h <;> omega) (by constructor <;> intro h <;> omega) (by constructor <;> intro h <;> omega) (by constructor <;> intro h <;> omega)
      . have:=c5 (by omega)
        rw [if_neg (fun h=>z0 h.1)]
        by_cases z1:t < k
        . have:=c1 z1
          rw [if_pos (by omega)]
          exact M.Left.mk' hU (by omega) (by omega) (by constructor <;> intro h <;> omega) (by constructor <;> intro h <;> omega) (by constructor <;> intro h <;> omega) (by constructor <;> intro h <;> omega)
        . rw [if_neg (by omega)]
          by_cases z2:t=k
          . have:=c2 z2
            rw [if_pos ⟨by omega,rfl⟩]
            exact M.Left.mk' hU (by omega) (by omega) (by constructor <;> intro h <;> omega) (by constructor <;> intro h <;> omega) (by constructor <;> intro h <;> omega) (by constructor <;> intro h <;> omega)
          . have:=c3 (by omega)
            rw [if_neg (fun h=>z2 (by omega))]
            exact M.Left.mk' hU (by omega) (by omega) (by constructor <;> intro h <;> omega) (by constructor <;> intro h <;> omega) (by constructor <;> intro h <;> omega) (by constructor <;> intro h <;> omega)
    . have hA:=a3' rfl
      rw [if_neg (fun h=>by cases h.2)]
      by_cases z1:t < k
      . have:=c1 z1
        rw [if_pos (by omega)]
        exact M.Left.mk' hU (by omega) (by omega) (by constructor <;> intro h <;> omega) (by constructor <;> intro h <;> omega) (by constructor <;> intro h <;> omega) (by constructor <;> intro h <;> omega)
      . rw [if_neg (by omega),if_neg (fun h=>by cases h.2)]
        have hkt:K <= T:=by
          by_cases z2:t=k
          . have:=c2 z2; omega
          . have:=c3 (by omega); omega
        exact M.Left.mk' hU (by omega) (by omega) (by constructor <;> intro h <;> omega) (by constructor <;> intro h <;> omega) (by constructor <;> intro h <;> omega) (by constructor <;> intro h <;> omega)
theorem left_rungS {S A:Int} {u a r0:Nat} {left:Int} (h:M.Left A u (2 ^ a * pw (-1074) * S) left) (h1:V Ieee.double r0=u * 2 ^ a) (h2:V Ieee.double (r0 + 1)=(u + 1) * 2 ^ a):RungS S A r0 left:=by
  obtain ⟨lo,hi,l0,l1,l2,l3⟩:=h
  have e1:vS r0 * S=(u:Int) * (2 ^ a * pw (-1074) * S):=by
    unfold vS
    rw [h1]
    push_cast
    simp only [Int.mul_assoc]
  have e2:vS (r0 + 1) * S=(u:Int) * (2 ^ a * pw (-1074) * S) + 2 ^ a * pw (-1074) * S:=by
    unfold vS
    rw [h2]
    push_cast
    simp only [Int.add_mul,Int.one_mul,Int.mul_assoc]
  generalize (2:Int) ^ a * pw (-1074) * S=q at *
  generalize (u:Int) * q=U at *
  generalize hX:vS r0 * S=X at *
  generalize hY:vS (r0 + 1) * S=Y at *
  subst e1 e2
  exact ⟨by rw [hX]; omega,by rw [hY]; omega,by rw [hX]; exact l0,by rw [hX,hY,l1]; constructor <;> intro h <;> omega,by rw [hX,hY,l2]; constructor <;> intro h <;> omega,by rw [hX,hY,l3]; constructor <;> intro h <;> omega⟩
theorem r64_specS {way:Int} {ng sd:Bool} {mag:Nat} {exp:Int} {cut:Bool} (hm:mag < 2 ^ 64) (h0:mag ≠ 0) (he:-4194304 <= exp) (hc:cut=true->2 ^ 60 <= mag) :
    ∃ (r0:Nat) (left:Int),(∀ S A:Int,0 < S->HeldS S A mag exp cut->RungS S A r0 left)∧r64 way ng sd mag exp cut=(patS (ng && (decide (0 < rTo way ng r0 left) || sd)) (rTo way ng r0 left),decide (left ≠ 0) || decide (9218868437227405312 <= (r0:Int))):=by
  have e64:(2:Nat) ^ 64=18446744073709551616:=by decide
  obtain ⟨b1,b2,b3,b4⟩:=M.bitLen_spec mag hm h0
  have hbits:=rU_bits (size:=53) (low:=-1074) (exp:=exp) (by decide) hm h0
  have hE1:-1074 <= rE 53 (-1074) mag exp:=by unfold rE; omega
  have hcs:cut=true->0 < rE 53 (-1074) mag exp - exp:=fun h=>by
    have h1:=hc h
    have h2:60 < Lib.bitLen mag:=by
      have:=(Nat.pow_lt_pow_iff_right (by decide:1 < 2)).1 (Nat.lt_of_le_of_lt h1 b2)
      exact this
    unfold rE
    omega
  have hL:=fun (S A:Int) (hS:0 < S) (hA:HeldS S A mag exp cut)=>left_ofS hS hA hcs (e:=rE 53 (-1074) mag exp) (by omega) he
  obtain ⟨E,hE⟩:∃ E,rE 53 (-1074) mag exp=E:=⟨_,rfl⟩
  have HR:r64 way ng sd mag exp cut=(let E:=rE 53 (-1074) mag exp
    let u:=rU mag (E - exp)
    let left:=rL mag cut (E - exp)
    let U:=u + (if rUp way ng (decide (u % 2=1)) left then 1 else 0)
    let neg:=ng && (decide (0 < U) || sd)
    if jk 52 2047 (-1074) U E then (jp neg U E,decide (left ≠ 0)) else (patS neg (bRung way neg),true)):=rfl
  simp only at HR
  rw [hE] at hbits hE1 hL HR
  obtain ⟨u,hu⟩:∃ u,rU mag (E - exp)=u:=⟨_,rfl⟩
  obtain ⟨left,hl⟩:∃ l,rL mag cut (E - exp)=l:=⟨_,rfl⟩
  rw [hu] at hbits hL HR
  rw [hl] at hL HR
  obtain ⟨a,ha⟩:∃ a,(E - -1074).toNat=a:=⟨_,rfl⟩
  have e53:(2:Nat) ^ (53:Int).toNat=9007199254740992:=by decide
  have e52:(2:Nat) ^ ((53:Int).toNat - 1)=4503599627370496:=by decide
  rw [e53,e52] at hbits
  have eB:Ieee.double.binade=4503599627370496:=by decide
  have hV:=V_rung Ieee.double a u (by rw [eB]; omega) (fun h=>by rw [eB]; exact hbits.2 (by omega))
  rw [eB] at hV
  have hpw:pw E=2 ^ a * pw (-1074):=by rw [pw_sub (e:=E) (low:=-1074) (by decide) hE1,ha]
  rw [hpw] at hL
  refine ⟨a * 4503599627370496 + u,left,fun S A hS hA=>left_rungS (hL S A hS hA) hV.1 hV.2,?_⟩
  rw [HR]
  have hodd:decide ((a * 4503599627370496 + u) % 2=1)=decide (u % 2=1):=by congr 1; apply propext; omega
  unfold rTo
  rw [hodd]
  obtain ⟨R,hR⟩:∃ R,rUp way ng (decide (u % 2=1)) left=R:=⟨_,rfl⟩
  rw [hR]
  obtain ⟨U,hU⟩:∃ U,u + (if R=true then 1 else 0)=U:=⟨_,rfl⟩
  rw [hU]
  have hR1:R=true->left ≠ 0:=fun h hz=>by rw [hz,h] at hR; exact rUp_left hR
  have hR2:R=true->rUp way ng true 3=true:=fun h=>rUp_more (hR.trans h)
  have hUle:U <= 9007199254740992:=by rw [<- hU]; split <;> omega
  have hcast:((a * 4503599627370496 + u:Nat):Int) + (if R=true then 1 else 0)=((a * 4503599627370496 + U:Nat):Int):=by
    rw [<- hU]
    cases R <;> simp only [if_true,if_false,Bool.false_eq_true] <;> omega
  rw [hcast]
  by_cases hU0:U=0
  . have hu0:u=0:=by rw [<- hU] at hU0; omega
    have ha0:a=0:=by
      rcases Nat.eq_zero_or_pos a with h | h
      . exact h
      . have:=hbits.2 (by omega); omega
    subst hU0 hu0 ha0
    have hj:jk 52 2047 (-1074) ((0:Nat):Int) E=true:=rfl
    rw [hj]
    rw [if_pos rfl,if_pos (by decide)]
    have hd:decide (9218868437227405312 <= ((0 * 4503599627370496 + 0:Nat):Int))=false:=by decide
    rw [hd,Bool.or_false]
    cases ng <;> cases sd <;> rfl
  . have hjr:=join_rung Ieee.double 52 (by decide) dB 2047 (-1074) (by decide) U E (by omega) (by rw [show (2:Nat) ^ (52 + 1)=9007199254740992 by decide]; exact hUle) hE1 (fun h=>by rw [show (2:Nat) ^ 52=4503599627370496 by decide]; have:=hbits.2 h; rw [<- hU]; omega)
    simp only at hjr
    rw [ha,show (2:Nat) ^ 52=4503599627370496 by decide,show (2047:Int) * 2 ^ 52=9218868437227405312 by decide] at hjr
    obtain ⟨j1,j2⟩:=hjr
    have hpos:decide (0 < U)=true:=decide_eq_true (by omega)
    rw [show jk ((52:Nat):Int) 2047 (-1074) (U:Int) E=jk 52 2047 (-1074) (U:Int) E from rfl] at j1
    rw [j1,hpos,Bool.true_or,Bool.and_true]
    by_cases hf:((a * 4503599627370496 + U:Nat):Int) < 9218868437227405312
    . have huU:u <= U:=by rw [<- hU]; omega
      have hf0:((a * 4503599627370496 + u:Nat):Int) < 9218868437227405312:=by omega
      rw [decide_eq_true hf,if_pos rfl,if_pos hf0,decide_eq_false (p:=9218868437227405312 <= ((a * 4503599627370496 + u:Nat):Int)) (by omega),Bool.or_false]
      have hd:decide (0 < ((a * 4503599627370496 + U:Nat):Int))=true:=decide_eq_true (by omega)
      rw [hd,Bool.true_or,Bool.and_true]
      congr 1
      have hjk:jk 52 2047 (-1074) (U:Int) E=true:=by rw [j1]; exact decide_eq_true hf
      have hjv:=j2 hf
      rw [show jv ((52:Nat):Int) 2047 (-1074) (U:Int) E=jv 52 2047 (-1074) (U:Int) E from rfl] at hjv
      unfold jp patS
      rw [hjk,hjv,Bool.true_and]
    . rw [decide_eq_false hf,if_neg (by simp)]
      by_cases hf0:((a * 4503599627370496 + u:Nat):Int) < 9218868437227405312
      . have hRt:R=true:=by
          cases R
          . exfalso; simp at hU; omega
          . rfl
        have hUe:((a * 4503599627370496 + U:Nat):Int)=9218868437227405312:=by rw [hRt] at hU; simp at hU; omega
        rw [if_pos hf0,hUe,decide_eq_true (hR1 hRt),Bool.true_or]
        congr 1
        have:bRung way ng=9218868437227405312:=by unfold bRung; rw [hR2 hRt,if_pos rfl]
        rw [this]
        simp
      . rw [if_neg hf0,decide_eq_true (p:=9218868437227405312 <= ((a * 4503599627370496 + u:Nat):Int)) (by omega),Bool.or_true]
        congr 1
        have hd:decide (0 < bRung way ng)=true:=by unfold bRung; split <;> decide
        rw [hd,Bool.true_or,Bool.and_true]
theorem pw_cross {x y u v:Int} {n:Nat} (hx:-4194304 <= x) (hy:-4194304 <= y) (hu:-4194304 <= u) (hv:-4194304 <= v) (h:x + y=u + v + n):pw x * pw y=2 ^ n * (pw u * pw v):=by
  unfold pw
  rw [<- Int.pow_add,<- Int.pow_add,<- Int.pow_add]
  congr 1
  omega
theorem r64_zero (way e:Int):r64 way false false 0 e false=(0,false):=by
  have HR:r64 way false false 0 e false=(let E:=rE 53 (-1074) 0 e
    let u:=rU 0 (E - e)
    let left:=rL 0 false (E - e)
    let U:=u + (if rUp way false (decide (u % 2=1)) left then 1 else 0)
    let neg:=false && (decide (0 < U) || false)
    if jk 52 2047 (-1074) U E then (jp neg U E,decide (left ≠ 0)) else (patS neg (bRung way neg),true)):=rfl
  rw [HR]
  generalize rE 53 (-1074) 0 e=E
  have hu:rU 0 (E - e)=0:=by unfold rU; split <;> simp
  have hl:rL 0 false (E - e)=0:=by unfold rL; split <;> simp
  simp only [hu,hl]
  have hr:rUp way false (decide (0 % 2=1)) 0=false:=by
    cases h:rUp way false (decide (0 % 2=1)) 0
    . rfl
    . exact absurd h (fun q=>rUp_left q)
  rw [hr]
  rfl
structure Quo (U S d:Int) (o:Bool):Prop where
  rg:rng d
  fin:pok d=true->patV d * S <= U∧(patV d * S=U ↔ o=false)
  nxt:pok (next d)=true->U < patV (next d) * S
  neg:pok d=false->d < 0
theorem next_pos {r:Int} (h0:0 <= r) (h1:r < 9218868437227405312):next (patS false r)=patS false (r + 1):=by
  have hc:=cls_pat (s:=false) (r:=r) h0 (by omega) (fun h=>by cases h)
  unfold next
  rw [if_neg hc]
  show (if r=9218868437227405312 then r else if r=-9223372036854775808 then 1 else if r < 0 then r - 1 else r + 1)=r + 1
  rw [if_neg (by omega),if_neg (by omega),if_neg (by omega)]
theorem pmag_nz:pmag (-9223372036854775808)=0:=by decide
theorem patV_neg {r:Nat} (h:(r:Int) < 9218868437227405312):patV (patS true (r:Int))=sg true (vS r):=by
  by_cases h0:r=0
  . subst h0
    rw [vS_zero]
    show patV (-9223372036854775808)=sg true 0
    unfold patV
    rw [pmag_nz,sg_zero,sg_zero,Int.zero_mul]
  . exact patV_patS h (fun _=>by omega)
theorem pok_pos {r:Int} (h0:0 <= r) (h1:r <= 9218868437227405312) (h:pok (patS false r)=true):r < 9218868437227405312:=by
  rw [patS_pok h0 h1 (fun q=>by cases q)] at h
  exact of_decide_eq_true h
theorem Quo.pos {S A:Int} {r:Nat} {o:Bool} (hr:(r:Int) < 9218868437227405312) (lo:vS r * S <= A) (eq:vS r * S=A ↔ o=false) (hi:((r + 1:Nat):Int) < 9218868437227405312->A < vS (r + 1) * S):Quo A S (patS false (r:Int)) o:=by
  have hv:patV (patS false (r:Int))=vS r:=by
    have:=patV_patS (ng:=false) hr (fun h=>by cases h)
    rw [this]
    unfold sg
    rw [if_neg (by decide)]
  have hnx:next (patS false (r:Int))=patS false ((r + 1:Nat):Int):=by
    rw [next_pos (by omega) hr]; rfl
  refine ⟨(patS_facts (by omega) (by omega) (fun h=>by cases h)).1,fun _=>?_,fun h=>?_,fun h=>?_⟩
  . rw [hv]; exact ⟨lo,eq⟩
  . rw [hnx] at h ⊢
    have h1:=pok_pos (by omega) (by omega) h
    have:=patV_patS (ng:=false) h1 (fun h=>by cases h)
    rw [this]
    unfold sg
    rw [if_neg (by decide)]
    exact hi h1
  . exfalso
    rw [patS_pok (by omega) (by omega) (fun h=>by cases h)] at h
    exact absurd hr (of_decide_eq_false h)
structure RungR (X:Int) (r0:Nat) (left:Int):Prop where
  lo:vS r0 * vS r0 <= X
  hi:X < vS (r0 + 1) * vS (r0 + 1)
  l0:left=0 ↔ X=vS r0 * vS r0
theorem sq_le {a b:Int} (h0:0 <= a) (h:a <= b):a * a <= b * b:=Int.mul_le_mul h h h0 (Int.le_trans h0 h)
theorem sq_lt {a b:Int} (h0:0 <= a) (h:a < b):a * a < b * b :=
  Int.lt_of_le_of_lt (Int.mul_le_mul_of_nonneg_left (Int.le_of_lt h) h0) (Int.mul_lt_mul_of_pos_right h (Int.lt_of_le_of_lt h0 h))
theorem sq_inj {a b:Int} (h0:0 <= a) (h1:0 <= b) (h:a * a=b * b):a=b:=by
  rcases Int.lt_trichotomy a b with q | q | q
  . exact absurd h (Int.ne_of_lt (sq_lt h0 q))
  . exact q
  . exact absurd h.symm (Int.ne_of_lt (sq_lt h1 q))
theorem cut_aux1 {v x:Int} (h:v * 2 <= x * 2 + 1):v <= x:=by omega
theorem cut_aux2 {v y:Int} (h:y - 1 < v):y <= v:=by omega
theorem rung_cut {mag:Nat} {exp:Int} {r0:Nat} {left:Int} (hR:∀ S A:Int,0 < S->HeldS S A mag exp true->RungS S A r0 left):vS r0 <= (mag:Int) * pw exp∧((mag:Int) + 1) * pw exp <= vS (r0 + 1)∧left ≠ 0:=by
  have hq:=pw_pos exp
  have e2:((mag:Int) + 1) * pw exp=(mag:Int) * pw exp + pw exp:=by rw [Int.add_mul,Int.one_mul]
  have A1:HeldS 2 ((mag:Int) * pw exp * 2 + 1) mag exp true:=by
    unfold HeldS
    have e3:(mag:Int) * (pw exp * 2)=(mag:Int) * pw exp * 2:=by rw [Int.mul_assoc]
    have e4:((mag:Int) + 1) * (pw exp * 2)=(mag:Int) * pw exp * 2 + pw exp * 2:=by rw [Int.add_mul,Int.one_mul,e3]
    rw [e3,e4]
    generalize (mag:Int) * pw exp=X
    generalize pw exp=q at hq ⊢
    exact ⟨by omega,by omega,⟨(fun h=>by cases h),fun h=>by omega⟩⟩
  have R1:=hR _ _ (by decide) A1
  have h1:=cut_aux1 R1.lo
  have hn:left ≠ 0:=fun h=>by
    have:=R1.l0.1 h
    generalize vS r0=v at this
    generalize (mag:Int) * pw exp=X at this
    omega
  refine ⟨h1,?_,hn⟩
  by_cases hb:2 <= pw exp
  . have A2:HeldS 1 (((mag:Int) + 1) * pw exp - 1) mag exp true:=by
      unfold HeldS
      rw [Int.mul_one,e2]
      generalize (mag:Int) * pw exp=X
      generalize pw exp=q at hq hb ⊢
      exact ⟨by omega,by omega,⟨(fun h=>by cases h),fun h=>by omega⟩⟩
    have R2:=hR _ _ (by decide) A2
    have:=R2.hi
    rw [Int.mul_one] at this
    exact cut_aux2 this
  . have hp1:pw exp=1:=by generalize pw exp=q at *; omega
    have A2:HeldS 2 (((mag:Int) + 1) * pw exp * 2 - 1) mag exp true:=by
      unfold HeldS
      rw [hp1]
      simp only [Int.mul_one,Int.one_mul]
      exact ⟨by omega,by omega,⟨(fun h=>by cases h),fun h=>by omega⟩⟩
    have R2:=(hR _ _ (by decide) A2).hi
    generalize ((mag:Int) + 1) * pw exp=Y at *
    generalize vS (r0 + 1)=v at *
    omega
theorem rung_root {mag:Nat} {exp:Int} {cut:Bool} {r0:Nat} {left X:Int} (hR:∀ S A:Int,0 < S->HeldS S A mag exp cut->RungS S A r0 left)
    (lo:(mag:Int) * pw exp * ((mag:Int) * pw exp) <= X) (hi:X < ((mag:Int) + 1) * pw exp * (((mag:Int) + 1) * pw exp)) (eq:cut=false ↔ X=(mag:Int) * pw exp * ((mag:Int) * pw exp)):RungR X r0 left:=by
  have hq:=pw_pos exp
  have hm:0 <= (mag:Int) * pw exp:=Int.mul_nonneg (by omega) (Int.le_of_lt hq)
  have hv:=vS_nonneg r0
  cases cut
  . have hX:=eq.1 rfl
    have e2:((mag:Int) + 1) * pw exp=(mag:Int) * pw exp + pw exp:=by rw [Int.add_mul,Int.one_mul]
    have A1:HeldS 1 ((mag:Int) * pw exp) mag exp false:=by
      unfold HeldS
      rw [Int.mul_one,e2]
      generalize (mag:Int) * pw exp=Y
      generalize pw exp=q at hq ⊢
      exact ⟨by omega,by omega,⟨fun _=>rfl,fun _=>rfl⟩⟩
    obtain ⟨q1,q2,q3,_,_,_⟩:=hR _ _ (by decide) A1
    rw [Int.mul_one] at q1 q2 q3
    rw [hX]
    exact ⟨sq_le hv q1,sq_lt hm q2,q3.trans ⟨fun h=>by rw [h],fun h=>sq_inj hm hv h⟩⟩
  . obtain ⟨q1,q2,q3⟩:=rung_cut hR
    have hX:X ≠ (mag:Int) * pw exp * ((mag:Int) * pw exp):=fun h=>by have:=eq.2 h; cases this
    have hlt:(mag:Int) * pw exp * ((mag:Int) * pw exp) < X:=by
      rcases Int.lt_or_eq_of_le lo with h | h
      . exact h
      . exact absurd h.symm hX
    have h1:=sq_le hv q1
    refine ⟨Int.le_trans h1 lo,Int.lt_of_lt_of_le hi (sq_le (Int.mul_nonneg (by omega) (Int.le_of_lt hq)) q2),⟨fun h=>absurd h q3,fun h=>?_⟩⟩
    rw [h] at hlt
    exact absurd (Int.lt_of_lt_of_le hlt h1) (Int.lt_irrefl _)
theorem RungR.unique {X:Int} {r s:Nat} {l k:Int} (h:RungR X r l) (g:RungR X s k):r=s:=by
  have key:∀ {r s:Nat} {l k:Int},RungR X r l->RungR X s k->¬ r < s:=fun {r s l k} h g q=>by
    have e:vS (r + 1) <= vS s:=by
      rcases Nat.lt_or_eq_of_le (show r + 1 <= s from q) with q2 | q2
      . exact Int.le_of_lt (vS_lt q2)
      . rw [q2]; exact Int.le_refl _
    exact absurd (Int.lt_of_lt_of_le h.hi (Int.le_trans (sq_le (vS_nonneg _) e) g.lo)) (Int.lt_irrefl _)
  rcases Nat.lt_trichotomy r s with q | q | q
  . exact absurd q (key h g)
  . exact q
  . exact absurd q (key g h)
theorem rungR_sq (r:Nat):RungR (vS r * vS r) r 0:=⟨Int.le_refl _,sq_lt (vS_nonneg r) (vS_lt (Nat.lt_succ_self r)),⟨fun _=>rfl,fun _=>rfl⟩⟩
def tK (M e:Int):Int:=124 - (blen M:Int) - (e - (124 - (blen M:Int))) % 2
theorem root_sq1 {M s D X Y N':Int} (hN:M * D=N') (h1:s * s <= N') (h2:N' < (s + 1) * (s + 1)) (hX:X=D * Y) (hY:0 < Y):s * s * Y <= M * X∧M * X < (s + 1) * (s + 1) * Y∧(N' - s * s=0 ↔ M * X=s * s * Y):=by
  have e:M * X=N' * Y:=by rw [hX,<- Int.mul_assoc,hN]
  rw [e]
  refine ⟨Int.mul_le_mul_of_nonneg_right h1 (Int.le_of_lt hY),Int.mul_lt_mul_of_pos_right h2 hY,⟨fun h=>?_,fun h=>?_⟩⟩
  . rw [show N'=s * s by omega]
  . have:=Int.eq_of_mul_eq_mul_right (Int.ne_of_gt hY) h
    omega
theorem root_sq2 {M s D N t X Y:Int} (hN:D * N + t=M) (t0:0 <= t) (t1:t < D) (h1:s * s <= N) (h2:N < (s + 1) * (s + 1)) (hY:Y=D * X) (hX:0 < X):s * s * Y <= M * X∧M * X < (s + 1) * (s + 1) * Y∧((t=0∧N - s * s=0) ↔ M * X=s * s * Y):=by
  have hD:0 < D:=by omega
  have e1:s * s * Y=(D * (s * s)) * X:=by rw [hY,<- Int.mul_assoc,Int.mul_comm (s * s) D]
  have e2:(s + 1) * (s + 1) * Y=(D * ((s + 1) * (s + 1))) * X:=by rw [hY,<- Int.mul_assoc,Int.mul_comm ((s + 1) * (s + 1)) D]
  rw [e1,e2]
  generalize s * s=a at *
  generalize (s + 1) * (s + 1)=b at *
  have q1:D * a <= M:=by have:=Int.mul_le_mul_of_nonneg_left h1 (Int.le_of_lt hD); omega
  have q2:M < D * b:=by
    have:=Int.mul_le_mul_of_nonneg_left (show N + 1 <= b from h2) (Int.le_of_lt hD)
    rw [Int.mul_add,Int.mul_one] at this
    omega
  refine ⟨Int.mul_le_mul_of_nonneg_right q1 (Int.le_of_lt hX),Int.mul_lt_mul_of_pos_right q2 hX,⟨fun h=>?_,fun h=>?_⟩⟩
  . rw [<- hN,h.1,show N=a by omega,Int.add_zero]
  . have h3:=Int.eq_of_mul_eq_mul_right (Int.ne_of_gt hX) h
    by_cases h4:N=a
    . rw [h4] at hN; omega
    . have:=Int.mul_le_mul_of_nonneg_left (show a + 1 <= N by omega) (Int.le_of_lt hD)
      rw [Int.mul_add,Int.mul_one] at this
      omega
theorem isRoot_ex (n:Nat):∃ s:Int,IsRoot (n:Int) s:=by
  induction n with
  | zero=>exact ⟨0,by decide,by decide,by decide⟩
  | succ n ih=>
    obtain ⟨s,h0,h1,h2⟩:=ih
    by_cases h:((n + 1:Nat):Int) < (s + 1) * (s + 1)
    . exact ⟨s,h0,by omega,h⟩
    . refine ⟨s + 1,by omega,by omega,?_⟩
      have e:(s + 1 + 1) * (s + 1 + 1)=(s + 1) * (s + 1) + (s + 1) + (s + 1) + 1:=by
        rw [Int.mul_add (s + 1 + 1),Int.add_mul (s + 1) 1,Int.mul_one,Int.one_mul]; omega
      omega
theorem isRoot_unique {A s t:Int} (h:IsRoot A s) (g:IsRoot A t):s=t:=by
  obtain ⟨a0,a1,a2⟩:=h
  obtain ⟨b0,b1,b2⟩:=g
  rcases Int.lt_trichotomy s t with q | q | q
  . have:=sq_le (show 0 <= s + 1 by omega) (show s + 1 <= t by omega); omega
  . exact q
  . have:=sq_le (show 0 <= t + 1 by omega) (show t + 1 <= s by omega); omega
theorem tK_in {M e:Int}:122 < tK M e + (blen M:Int)∧tK M e + (blen M:Int) <= 124∧(e - tK M e) % 2=0:=by
  unfold tK
  omega
theorem scV_low {M k:Int} (hM:0 < M) {n:Nat} (h:(n:Int) < k + (blen M:Int)):2 ^ n <= scV M k:=by
  have b1:=blen_pos hM
  unfold scV
  by_cases hk:0 <= k
  . rw [if_pos hk]
    have e:(2:Int) ^ (blen M - 1) * 2 ^ k.toNat <= M * 2 ^ k.toNat:=Int.mul_le_mul_of_nonneg_right b1.2 (Int.le_of_lt (two_pos _))
    refine Int.le_trans ?_ e
    rw [<- Int.pow_add]
    exact two_le (by omega)
  . rw [if_neg hk,Int.le_ediv_iff_mul_le (two_pos _),<- Int.pow_add]
    exact Int.le_trans (two_le (by omega)) b1.2
theorem scV_high {M k:Int} (hM:0 <= M) {n:Nat} (h:k + (blen M:Int) <= (n:Int)):0 <= scV M k∧scV M k < 2 ^ n:=by
  have b1:=blen_lt M
  unfold scV
  by_cases hk:0 <= k
  . rw [if_pos hk]
    have hp:=two_pos k.toNat
    refine ⟨Int.mul_nonneg hM (Int.le_of_lt hp),?_⟩
    have e:M * 2 ^ k.toNat < 2 ^ blen M * 2 ^ k.toNat:=Int.mul_lt_mul_of_pos_right b1 hp
    rw [<- Int.pow_add] at e
    exact Int.lt_of_lt_of_le e (two_le (by omega))
  . rw [if_neg hk]
    have hp:=two_pos (-k).toNat
    refine ⟨Int.ediv_nonneg hM (Int.le_of_lt hp),?_⟩
    rw [Int.ediv_lt_iff_lt_mul hp,<- Int.pow_add]
    exact Int.lt_of_lt_of_le b1 (two_le (by omega))
theorem root_small {N s:Int} (h:IsRoot N s) (hN:N < 2 ^ 124):s < 4611686018427387904:=by
  obtain ⟨a0,a1,a2⟩:=h
  rcases Int.lt_or_le s 4611686018427387904 with q | q
  . exact q
  . have:=sq_le (by decide) q
    have e:(2:Int) ^ 124=4611686018427387904 * 4611686018427387904:=by decide
    omega
theorem root_big {N s:Int} (h:IsRoot N s) (hN:2 ^ 122 <= N):2305843009213693952 <= s:=by
  obtain ⟨a0,a1,a2⟩:=h
  rcases Int.lt_or_le s 2305843009213693952 with q | q
  . have:=sq_le (show 0 <= s + 1 by omega) (show s + 1 <= 2305843009213693952 by omega)
    have e:(2:Int) ^ 122=2305843009213693952 * 2305843009213693952:=by decide
    omega
  . exact q
theorem sq_prod (s p:Int):s * p * (s * p)=s * s * (p * p):=by
  rw [Int.mul_assoc,Int.mul_comm p (s * p),Int.mul_assoc s p p,<- Int.mul_assoc]
theorem held_root {M e s:Int} (hM:0 <= M) (a0:-1100000 <= e) (a1:e <= 1100000) (lM:blen M <= 150000) (hs:IsRoot (scV M (tK M e)) s) :
    s * pw ((e - tK M e) / 2) * (s * pw ((e - tK M e) / 2)) <= M * (pw e * pw 0)∧M * (pw e * pw 0) < (s + 1) * pw ((e - tK M e) / 2) * ((s + 1) * pw ((e - tK M e) / 2))∧((scC M (tK M e) || decide (scV M (tK M e) - s * s ≠ 0))=false ↔ M * (pw e * pw 0)=s * pw ((e - tK M e) / 2) * (s * pw ((e - tK M e) / 2))):=by
  obtain ⟨k1,k2,k3⟩:=tK_in (M:=M) (e:=e)
  obtain ⟨k,hk⟩:∃ k,tK M e=k:=⟨_,rfl⟩
  rw [hk] at hs k1 k2 k3 ⊢
  obtain ⟨E,hE⟩:∃ E,(e - k) / 2=E:=⟨_,rfl⟩
  have hEE:e + 0=E + E + k:=by omega
  rw [hE]
  obtain ⟨s0,s1,s2⟩:=hs
  rw [sq_prod,sq_prod]
  have hP:0 < pw E * pw E:=Int.mul_pos (pw_pos _) (pw_pos _)
  have hQ:0 < pw e * pw 0:=Int.mul_pos (pw_pos _) (pw_pos _)
  by_cases h:0 <= k
  . have hc:pw e * pw 0=2 ^ k.toNat * (pw E * pw E):=pw_cross (by omega) (by decide) (by omega) (by omega) (by omega)
    have hsv:scV M k=M * 2 ^ k.toNat:=by unfold scV; rw [if_pos h]
    have hsc:scC M k=false:=by unfold scC; rw [if_pos h]
    rw [hsc,Bool.false_or]
    obtain ⟨q1,q2,q3⟩:=root_sq1 hsv.symm s1 s2 hc hP
    exact ⟨q1,q2,by rw [<- q3,decide_eq_false_iff_not]; constructor <;> intro h <;> omega⟩
  . have hc:pw E * pw E=2 ^ (-k).toNat * (pw e * pw 0):=pw_cross (by omega) (by omega) (by omega) (by decide) (by omega)
    have hsv:scV M k=M / 2 ^ (-k).toNat:=by unfold scV; rw [if_neg h]
    have hsc:scC M k=decide (M % 2 ^ (-k).toNat ≠ 0):=by unfold scC; rw [if_neg h]
    have hp:=two_pos (-k).toNat
    have hdd:=Int.mul_ediv_add_emod M (2 ^ (-k).toNat)
    have t0:=Int.emod_nonneg M (show (2:Int) ^ (-k).toNat ≠ 0 by omega)
    have t1:=Int.emod_lt_of_pos M hp
    rw [<- hsv] at hdd
    rw [hsc]
    obtain ⟨q1,q2,q3⟩:=root_sq2 hdd t0 t1 s1 s2 hc hQ
    refine ⟨q1,q2,?_⟩
    rw [<- q3,Bool.or_eq_false_iff,decide_eq_false_iff_not,decide_eq_false_iff_not]
    constructor <;> intro h <;> omega
def tR64 (way:Int) (x:NumR) (s:Int):Int × Bool:=r64 way false false s.toNat ((x.e - tK (val x.d x.n) x.e) / 2) (scC (val x.d x.n) (tK (val x.d x.n) x.e) || decide (scV (val x.d x.n) (tK (val x.d x.n) x.e) - s * s ≠ 0))
theorem root_rung {way:Int} {x:NumR} {s:Int} (ok:okR x=true) (hs:IsRoot (scV (val x.d x.n) (tK (val x.d x.n) x.e)) s) :
    ∃ (r0:Nat) (left:Int),RungR (val x.d x.n * (pw x.e * pw 0)) r0 left∧tR64 way x s=(patS false (rTo way false r0 left),decide (left ≠ 0) || decide (9218868437227405312 <= (r0:Int))):=by
  obtain ⟨na,hn,ea0,ea1⟩:=okR_sane ok
  by_cases h0:x.n=0
  . have hv:val x.d x.n=0:=by rw [h0]; rfl
    have hsv:scV 0 (tK 0 x.e)=0:=by unfold scV; split <;> simp
    have hsc:scC 0 (tK 0 x.e)=false:=by unfold scC; split <;> simp
    rw [hv,hsv] at hs
    have hs0:s=0:=isRoot_unique hs ⟨by decide,by decide,by decide⟩
    refine ⟨0,0,?_,?_⟩
    . rw [hv,Int.zero_mul]
      have:=rungR_sq 0
      rwa [vS_zero,Int.zero_mul] at this
    . unfold tR64
      rw [hv,hsv,hsc,hs0,rTo_zero]
      exact r64_zero _ _
  . have hM:=val_pos na (by omega)
    have hl:=blen_nrm na
    obtain ⟨k1,k2,k3⟩:=tK_in (M:=val x.d x.n) (e:=x.e)
    have hlow:=scV_low hM (n:=122) (k:=tK (val x.d x.n) x.e) (by omega)
    have hhigh:=scV_high (Int.le_of_lt hM) (n:=124) (k:=tK (val x.d x.n) x.e) (by omega)
    have hsm:=root_small hs hhigh.2
    have hbg:=root_big hs hlow
    obtain ⟨q1,q2,q3⟩:=held_root (Int.le_of_lt hM) ea0 ea1 (by omega) hs
    have e64:(2:Nat) ^ 64=18446744073709551616:=by decide
    have e60:(2:Nat) ^ 60=1152921504606846976:=by decide
    have hcast:((s.toNat:Nat):Int)=s:=Int.toNat_of_nonneg hs.1
    obtain ⟨r0,left,hR,hE⟩:=r64_specS (way:=way) (ng:=false) (sd:=false) (mag:=s.toNat) (exp:=(x.e - tK (val x.d x.n) x.e) / 2) (cut:=scC (val x.d x.n) (tK (val x.d x.n) x.e) || decide (scV (val x.d x.n) (tK (val x.d x.n) x.e) - s * s ≠ 0)) (by omega) (by omega) (by omega) (fun _=>by omega)
    refine ⟨r0,left,?_,?_⟩
    . exact rung_root hR (by rw [hcast]; exact q1) (by rw [hcast]; exact q2) (by rw [hcast]; exact q3)
    . unfold tR64
      rw [hE,Bool.false_and]
theorem pw_nil:pw 0=2 ^ 4194304:=by
  unfold pw
  rw [show ((0:Int) + 4194304).toNat=4194304 by omega]
theorem Bd.sg {B:Nat} {V:Int} (g:Bool) (h:Bd B V):Bd B (M.sg g V):=by
  cases g
  . exact h
  . exact h.neg
theorem patV_rg {b:Int} (hb:rng b) (hp:pok b=true):∃ (ng:Bool) (r:Nat),(r:Int)=rg b∧(r:Int) < 9218868437227405312∧patV b=sg ng (vS r):=by
  obtain ⟨r0,r1⟩:=rg_parts hb
  have hlt:rg b < 9218868437227405312:=by
    have hne:=pparts hp
    have hf:0 <= frc b∧frc b < 4503599627370496:=by unfold frc; omega
    have hg:0 <= fld b∧fld b < 2048:=by unfold fld; omega
    omega
  obtain ⟨r,hr⟩:∃ r:Nat,(r:Int)=rg b:=⟨(rg b).toNat,Int.toNat_of_nonneg r0⟩
  have hs:b=patS (decide (b < 0)) (r:Int):=by
    rw [hr]
    unfold patS rg
    by_cases h:b < 0
    . rw [decide_eq_true h,if_pos rfl,if_pos h]; omega
    . rw [decide_eq_false h,if_neg (by decide),if_neg h]
  refine ⟨decide (b < 0),r,hr,by rw [hr]; exact hlt,?_⟩
  rw [<- hr] at hlt
  cases hd:decide (b < 0)
  . rw [hd] at hs
    rw [hs]
    exact patV_patS hlt (fun h=>by cases h)
  . rw [hd] at hs
    rw [hs]
    exact patV_neg hlt
theorem canon_abs {b:Int} (hb:rng b) (hp:pok b=true):canon (abs b)=rg b:=by
  obtain ⟨_,_,hr,hlt,_⟩:=patV_rg hb hp
  rw [hr] at hlt
  have hc:cls b ≠ 4:=fun h=>by have:=(cls_rg hb).1.1 h; omega
  have ha:abs b=rg b:=by unfold abs rg; rw [if_neg hc]
  obtain ⟨r0,_⟩:=rg_parts hb
  have hrr:rng (rg b):=by unfold rng; omega
  have hrg:rg (rg b)=rg b:=by
    have h2:rg (rg b)=if rg b < 0 then rg b + 9223372036854775808 else rg b:=rfl
    rw [h2,if_neg (by omega)]
  rw [ha]
  unfold canon
  rw [if_neg (fun h=>by have:=(cls_rg hrr).1.1 h; rw [hrg] at this; omega)]
  by_cases h0:cls (rg b)=0
  . rw [if_pos h0]
    have:=(cls_rg hrr).2.1 h0
    rw [hrg] at this
    omega
  . rw [if_neg h0]
theorem sg_sq (g:Bool) (a:Int):sg g a * sg g a=a * a:=by
  cases g
  . rfl
  . show -a * -a=a * a
    rw [Int.neg_mul_neg]
theorem root_back {x:NumR} {s b:Int} (ok:okR x=true) (hs:IsRoot (scV (val x.d x.n) (tK (val x.d x.n) x.e)) s) (hb:rng b) (hp:pok b=true) (h:val x.d x.n * (pw x.e * pw 0)=patV b * patV b):tR64 0 x s=(canon (abs b),false):=by
  obtain ⟨r0,left,hR,hE⟩:=root_rung (way:=0) ok hs
  obtain ⟨ng,r,hr,hlt,hv⟩:=patV_rg hb hp
  rw [h,hv,sg_sq] at hR
  have e:=hR.unique (rungR_sq r)
  subst e
  have hl:=hR.l0.2 rfl
  subst hl
  have hz:rTo 0 false r0 0=(r0:Int):=by
    unfold rTo
    rw [if_pos hlt]
    cases hu:rUp 0 false (decide (r0 % 2=1)) 0
    . simp
    . exact (rUp_left hu).elim
  rw [hE,hz,canon_abs hb hp,<- hr]
  rw [decide_eq_false (p:=(0:Int) ≠ 0) (fun h=>h rfl),decide_eq_false (p:=9218868437227405312 <= (r0:Int)) (Int.not_le.2 hlt)]
  rfl
end Go.Proofs.YteglfnnbpilheaaGreatDoor
namespace Go.Proofs.YteglfnnbpilheaaGreatDoor
open Go Go.RowKit Go.Proofs.YteglfnnbpilheaaGreatDoor.M Ieee
theorem wd_word {ng:Bool} {r:Int} (h0:0 <= r) (h1:r <= 9218868437227405312):Ieee.double.word ng r.toNat=wd (patS ng r):=by
  unfold Format.word wd patS
  rw [dSign]
  cases ng
  . rw [if_neg (by decide),if_neg (by decide)]; omega
  . rw [if_pos rfl,if_pos rfl]; omega
theorem rg_lt {b:Int} (hb:rng b) (hp:pok b=true):0 <= rg b∧rg b < 9218868437227405312:=by
  obtain ⟨_,r,hr,hlt,_⟩:=patV_rg hb hp
  omega
theorem patV_dec {b:Int} (hb:rng b) (hp:pok b=true):patV b=sg (decide (b < 0)) (vS (rg b).toNat):=by
  obtain ⟨h0,h1⟩:=rg_lt hb hp
  obtain ⟨r,hr⟩:∃ r:Nat,(r:Int)=rg b:=⟨(rg b).toNat,Int.toNat_of_nonneg h0⟩
  have hs:b=patS (decide (b < 0)) (r:Int):=by
    rw [hr]
    unfold patS rg
    by_cases h:b < 0
    . rw [decide_eq_true h,if_pos rfl,if_pos h]; omega
    . rw [decide_eq_false h,if_neg (by decide),if_neg h]
  rw [<- hr] at h1 ⊢
  rw [Int.toNat_natCast]
  cases hd:decide (b < 0)
  . rw [hd] at hs
    rw [hs]
    exact patV_patS h1 (fun h=>by cases h)
  . rw [hd] at hs
    rw [hs]
    exact patV_neg h1
theorem read_wd {b:Int} (hb:rng b) (hp:pok b=true):∃ m u:Nat,Ieee.double.read (wd b)=.number (decide (b < 0)) m (-1074 + (u:Int))∧patV b=sg (decide (b < 0)) ((m:Int) * pw (-1074 + (u:Int))):=by
  obtain ⟨h0,h1⟩:=rg_lt hb hp
  have hw:((wd b % 9223372036854775808:Nat):Int)=rg b:=wd_rung hb
  have hw2:wd b % 9223372036854775808=(rg b).toNat:=by omega
  obtain ⟨m,u,h,hm⟩:=read_finite Ieee.double (wd b) (by rw [dSign,dInf]; omega)
  rw [dSign,dLeast,wd_neg hb] at h
  rw [dSign,hw2] at hm
  refine ⟨m,u,h,?_⟩
  have e:vS (rg b).toNat=(m:Int) * pw (-1074 + (u:Int)):=by
    unfold vS
    rw [<- hm,pw_add (by decide),Int.mul_comm (pw (-1074))]
    generalize pw (-1074)=q
    push_cast
    rw [Int.mul_assoc]
  rw [patV_dec hb hp,e]
theorem signed_pw (s:Bool) (m k:Nat) {i base:Int} (h:i=base + (k:Int)) (hb:-4194304 <= base):signed s m k * pw base=sg s ((m:Int) * pw i):=by
  rw [signed_V,h,pw_add hb,Int.mul_comm (pw base),<- Int.mul_assoc]
  have e:((m * 2 ^ k:Nat):Int)=(m:Int) * 2 ^ k:=by push_cast; rfl
  rw [e]
  generalize (m:Int) * 2 ^ k=t
  unfold sg
  cases s
  . rfl
  . show -t * pw base=-(t * pw base)
    rw [Int.neg_mul]
theorem natAbs_sg {t q:Int} (hq:0 < q):t * q=sg (decide (t < 0)) ((t.natAbs:Int) * q):=by
  by_cases h:t < 0
  . rw [decide_eq_true h]
    show t * q=-((t.natAbs:Int) * q)
    rw [<- Int.neg_mul,show -(t.natAbs:Int)=t by omega]
  . rw [decide_eq_false h]
    show t * q=(t.natAbs:Int) * q
    rw [show (t.natAbs:Int)=t by omega]
theorem lt_zero_iff {t q:Int} (hq:0 < q):t < 0 ↔ t * q < 0:=by
  constructor
  . exact fun h=>Int.mul_neg_of_neg_of_pos h hq
  . intro h
    rcases Int.lt_or_le t 0 with g | g
    . exact g
    . exact absurd h (Int.not_lt.2 (Int.mul_nonneg g (Int.le_of_lt hq)))
theorem eq_zero_iff {t q:Int} (hq:0 < q):t=0 ↔ t * q=0:=by
  constructor
  . intro h; rw [h,Int.zero_mul]
  . intro h
    rcases Int.mul_eq_zero.1 h with g | g
    . exact g
    . omega
theorem write_near {S t base:Int} (hb:-4194304 <= base) (hS:t * pw base=S) (h0:S ≠ 0) :
    ∃ (A:Int) (r0:Nat) (left:Int),S=sg (decide (S < 0)) A∧Rung A r0 left∧Ieee.double.nearest (decide (t < 0)) t.natAbs base=wd (patS (decide (S < 0)) (rTo 0 (decide (S < 0)) r0 left)):=by
  have hq:=pw_pos base
  have ht:t ≠ 0:=fun h=>h0 (by rw [<- hS,h,Int.zero_mul])
  have hd:decide (t < 0)=decide (S < 0):=by rw [<- hS]; congr 1; exact propext (lt_zero_iff hq)
  obtain ⟨r0,left,hR,hE⟩:=nearest_rung (decide (t < 0)) (mag:=t.natAbs) (place:=base) (by omega) hb
  refine ⟨_,r0,left,?_,hR,?_⟩
  . rw [<- hd,<- hS]; exact natAbs_sg hq
  . rw [hE,hd]
    obtain ⟨g1,g2⟩:=rTo_range 0 (decide (S < 0)) r0 left
    exact wd_word g1 g2
theorem fadd {a b:Int} (ha:rng a) (hb:rng b) (pa:pok a=true) (pb:pok b=true) :
    (patV a + patV b=0->Ieee.double.add (wd a) (wd b)=some (wd (patS (decide (a < 0) && decide (b < 0)) 0))) ∧
    (patV a + patV b ≠ 0->∃ (A:Int) (r0:Nat) (left:Int),patV a + patV b=sg (decide (patV a + patV b < 0)) A∧Rung A r0 left∧Ieee.double.add (wd a) (wd b)=some (wd (patS (decide (patV a + patV b < 0)) (rTo 0 (decide (patV a + patV b < 0)) r0 left)))):=by
  obtain ⟨m,u,h1,v1⟩:=read_wd ha pa
  obtain ⟨n,v,h2,v2⟩:=read_wd hb pb
  have hadd:Ieee.double.add (wd a) (wd b)=some (Ieee.double.nearest (if signed (decide (a < 0)) m (u - min u v) + signed (decide (b < 0)) n (v - min u v)=0 then decide (a < 0) && decide (b < 0) else decide (signed (decide (a < 0)) m (u - min u v) + signed (decide (b < 0)) n (v - min u v) < 0)) (signed (decide (a < 0)) m (u - min u v) + signed (decide (b < 0)) n (v - min u v)).natAbs (-1074 + ((min u v:Nat):Int))):=by
    unfold Format.add
    rw [h1,h2]
    unfold Datum.sum
    dsimp only
    have hmin:min (-1074 + (u:Int)) (-1074 + (v:Int))=-1074 + ((min u v:Nat):Int):=by omega
    have e1:(-1074 + (u:Int) - (-1074 + ((min u v:Nat):Int))).toNat=u - min u v:=by omega
    have e2:(-1074 + (v:Int) - (-1074 + ((min u v:Nat):Int))).toNat=v - min u v:=by omega
    rw [hmin,e1,e2]
    rfl
  have s1:=signed_pw (decide (a < 0)) m (u - min u v) (i:=-1074 + (u:Int)) (base:=-1074 + ((min u v:Nat):Int)) (by omega) (by omega)
  have s2:=signed_pw (decide (b < 0)) n (v - min u v) (i:=-1074 + (v:Int)) (base:=-1074 + ((min u v:Nat):Int)) (by omega) (by omega)
  rw [<- v1] at s1
  rw [<- v2] at s2
  have hB:-4194304 <= -1074 + ((min u v:Nat):Int):=by omega
  generalize -1074 + ((min u v:Nat):Int)=base at *
  have hq:=pw_pos base
  have hS:(signed (decide (a < 0)) m (u - min u v) + signed (decide (b < 0)) n (v - min u v)) * pw base=patV a + patV b:=by rw [Int.add_mul,s1,s2]
  generalize signed (decide (a < 0)) m (u - min u v) + signed (decide (b < 0)) n (v - min u v)=t at *
  clear s1 s2 v1 v2 h1 h2
  refine ⟨fun h=>?_,fun h=>?_⟩
  . have ht:t=0:=(eq_zero_iff hq).2 (hS.trans h)
    rw [hadd,ht,if_pos rfl]
    unfold Format.nearest
    rw [if_pos (show Int.natAbs 0=0 from rfl)]
    have:=wd_word (ng:=decide (a < 0) && decide (b < 0)) (r:=0) (by decide) (by decide)
    rw [<- this]
    rfl
  . have ht:t ≠ 0:=fun e=>h (by rw [<- hS,e,Int.zero_mul])
    obtain ⟨A,r0,left,q1,q2,q3⟩:=write_near hB hS h
    refine ⟨A,r0,left,q1,q2,?_⟩
    rw [hadd,if_neg ht,q3]
theorem fmul_core {g h:Bool} {x y p q r Z:Int} (e:p * q=r * Z):sg (g != h) (x * y * r) * Z=sg g (x * p) * sg h (y * q):=by
  rw [sg_mul,sg_prod]
  congr 1
  rw [Int.mul_assoc (x * y),<- e,Int.mul_assoc x y,Int.mul_assoc x p]
  congr 1
  rw [<- Int.mul_assoc,<- Int.mul_assoc,Int.mul_comm y p]
theorem xor_ne (g h:Bool):(g ^^ h)=(g != h):=by cases g <;> cases h <;> rfl
theorem fmul {a b:Int} (ha:rng a) (hb:rng b) (pa:pok a=true) (pb:pok b=true) :
    ∃ D:Int,0 <= D∧sg (decide (a < 0) != decide (b < 0)) D * 2 ^ 4194304=patV a * patV b ∧
      (D=0->Ieee.double.mul (wd a) (wd b)=some (wd (patS (decide (a < 0) != decide (b < 0)) 0))) ∧
      (D ≠ 0->∃ (r0:Nat) (left:Int),Rung D r0 left∧Ieee.double.mul (wd a) (wd b)=some (wd (patS (decide (a < 0) != decide (b < 0)) (rTo 0 (decide (a < 0) != decide (b < 0)) r0 left)))):=by
  obtain ⟨m,u,h1,v1⟩:=read_wd ha pa
  obtain ⟨n,v,h2,v2⟩:=read_wd hb pb
  have hmul:Ieee.double.mul (wd a) (wd b)=some (Ieee.double.nearest (decide (a < 0) != decide (b < 0)) (m * n) (-1074 + (u:Int) + (-1074 + (v:Int)))):=by
    unfold Format.mul
    rw [h1,h2]
    unfold Datum.product
    dsimp only
    rw [xor_ne]
    rfl
  have hpm:=pw_mul (a:=-1074 + (u:Int)) (b:=-1074 + (v:Int)) (by omega) (by omega)
  have hB:-4194304 <= -1074 + (u:Int) + (-1074 + (v:Int)):=by omega
  have hq:=pw_pos (-1074 + (u:Int) + (-1074 + (v:Int)))
  have hC:=fmul_core (g:=decide (a < 0)) (h:=decide (b < 0)) (x:=(m:Int)) (y:=(n:Int)) hpm
  rw [<- v1,<- v2] at hC
  generalize -1074 + (u:Int) + (-1074 + (v:Int))=base at *
  have hcast:((m * n:Nat):Int)=(m:Int) * (n:Int):=by push_cast; rfl
  refine ⟨(m:Int) * (n:Int) * pw base,Int.mul_nonneg (by rw [<- hcast]; omega) (Int.le_of_lt hq),hC,fun h=>?_,fun h=>?_⟩
  . have h0:m * n=0:=by
      rcases Int.mul_eq_zero.1 h with g | g
      . rw [<- hcast] at g; omega
      . omega
    rw [hmul,h0]
    unfold Format.nearest
    rw [if_pos rfl]
    have:=wd_word (ng:=decide (a < 0) != decide (b < 0)) (r:=0) (by decide) (by decide)
    rw [<- this]
    rfl
  . have h0:m * n ≠ 0:=fun e=>h (by rw [<- hcast,e]; simp)
    obtain ⟨r0,left,hR,hE⟩:=nearest_rung (decide (a < 0) != decide (b < 0)) (place:=base) h0 hB
    rw [hcast] at hR
    refine ⟨r0,left,hR,?_⟩
    rw [hmul,hE]
    obtain ⟨g1,g2⟩:=rTo_range 0 (decide (a < 0) != decide (b < 0)) r0 left
    rw [wd_word g1 g2]
def NanW (z:Nat):Prop:=z < 18446744073709551616∧9218868437227405312 < z % 9223372036854775808
theorem nan_cut (x y t:Nat):NanW ((Question.nanBits .f64 x y).cut t):=by
  have h:(Question.nanBits .f64 x y).cut t=(t % 2) * 2 ^ 63 + 0x7ff0000000000000 + 1 + (t / 2) % (2 ^ 52 - 1):=rfl
  have e63:(2:Nat) ^ 63=9223372036854775808:=by decide
  have e52:(2:Nat) ^ 52 - 1=4503599627370495:=by decide
  rw [h,e63,e52]
  have hc:=Nat.mod_lt (t / 2) (show 0 < 4503599627370495 by decide)
  have hm:t % 2=0∨t % 2=1:=by omega
  generalize t / 2 % 4503599627370495=c at *
  unfold NanW
  rcases hm with h2 | h2
  . rw [h2]; omega
  . rw [h2]; omega
theorem run_farith {P:Program} (op:BinOp) (ho:op=.add∨op=.sub∨op=.mul∨op=.quo) (t:TypeId) (x y:Nat) (w:World) :
    ∃ z w',(binOp op t (.float .f64 x) (.float .f64 y)).run P w=.ok (.float .f64 z) w'∧((floatBits op .f64 x y=some z∧w'=w)∨(floatBits op .f64 x y=none∧NanW z∧w'=w.drew)):=by
  cases h:floatBits op .f64 x y with
  | some r=>exact ⟨r,w,run_float_arith w op t .f64 x y r h,.inl ⟨rfl,rfl⟩⟩
  | none=>
    refine ⟨_,w.drew,?_,.inr ⟨rfl,nan_cut x y (w.tape w.drawn (.nanBits .f64 x y)),rfl⟩⟩
    unfold floatBits at h
    rcases ho with rfl | rfl | rfl | rfl <;> simp only at h <;> simp [binOp,Op.floatArith,h] <;> exact fun hf=>absurd (show false=true from hf) (by decide)
def FW (p:Int) (x:Nat):Prop:=(cls p ≠ 4∧rng p∧x=wd p)∨(p=9221120237041090561∧NanW x)
def patW (x:Nat):Int:=if x < 9223372036854775808 then (x:Int) else (x:Int) - 18446744073709551616
theorem patW_wd {p:Int} (h:rng p):patW (wd p)=p:=by
  unfold rng at h
  unfold patW wd
  split <;> omega
def nearP (S:Int):Int:=patW (Ieee.double.nearest (decide (S < 0)) S.natAbs (-4194304))
theorem pw_least:pw (-4194304)=1:=by unfold pw; rfl
theorem patS_rng {ng:Bool} {r:Int} (h0:0 <= r) (h1:r <= 9218868437227405312):rng (patS ng r)∧cls (patS ng r) ≠ 4:=by
  have hr:rng (patS ng r):=by unfold rng patS; cases ng <;> simp <;> omega
  refine ⟨hr,fun q=>?_⟩
  have:=(cls_rg hr).1.1 q
  unfold rg patS at this
  cases ng
  . simp only [Bool.false_eq_true,if_false] at this; split at this <;> omega
  . simp only [if_true] at this; split at this <;> omega
theorem nearP_rung {S:Int} (h:S ≠ 0):∃ (A:Int) (r0:Nat) (left:Int),S=sg (decide (S < 0)) A∧Rung A r0 left∧nearP S=patS (decide (S < 0)) (rTo 0 (decide (S < 0)) r0 left):=by
  obtain ⟨A,r0,left,h1,h2,h3⟩:=write_near (S:=S) (t:=S) (base:=-4194304) (by decide) (by rw [pw_least,Int.mul_one]) h
  refine ⟨A,r0,left,h1,h2,?_⟩
  unfold nearP
  rw [h3]
  obtain ⟨g1,g2⟩:=rTo_range 0 (decide (S < 0)) r0 left
  exact patW_wd (patS_rng g1 g2).1
theorem sg_inj {g:Bool} {A B:Int} (h:sg g A=sg g B):A=B:=by
  cases g
  . exact h
  . exact Int.neg_inj.1 h
def fsum (p q:Int):Int :=
  if cls p=4∨cls q=4 then 9221120237041090561
  else if rg p=9218868437227405312 then (if rg q=9218868437227405312∧decide (p < 0) ≠ decide (q < 0) then 9221120237041090561 else p)
  else if rg q=9218868437227405312 then q
  else if patV p + patV q=0 then patS (decide (p < 0) && decide (q < 0)) 0 else nearP (patV p + patV q)
theorem pok_rg {p:Int} (hp:rng p):pok p=true ↔ rg p < 9218868437227405312:=by
  obtain ⟨r0,r1⟩:=rg_parts hp
  have hf:0 <= frc p∧frc p < 4503599627370496:=by unfold frc; omega
  have hg:0 <= fld p∧fld p < 2048:=by unfold fld; omega
  unfold pok
  simp
  omega
theorem fadd_fin {p q:Int} (hp:rng p) (hq:rng q) (pp:pok p=true) (pq:pok q=true):Ieee.double.add (wd p) (wd q)=some (wd (if patV p + patV q=0 then patS (decide (p < 0) && decide (q < 0)) 0 else nearP (patV p + patV q))):=by
  obtain ⟨h0,h1⟩:=fadd hp hq pp pq
  by_cases hS:patV p + patV q=0
  . rw [if_pos hS]; exact h0 hS
  . rw [if_neg hS]
    obtain ⟨A,r0,left,a1,a2,a3⟩:=h1 hS
    obtain ⟨B,s0,k,b1,b2,b3⟩:=nearP_rung hS
    have hAB:=sg_inj (a1.symm.trans b1)
    subst hAB
    obtain ⟨h2,h3⟩:=a2.unique b2
    subst h2 h3
    rw [a3,b3]
theorem read_inf64 {p:Int} (hp:rng p) (h:rg p=9218868437227405312):Ieee.double.read (wd p)=.infinity (decide (p < 0)):=by
  have hw:((wd p % 9223372036854775808:Nat):Int)=rg p:=wd_rung hp
  have:=read_inf Ieee.double dOk (wd p) (by rw [dSign,dInf]; omega)
  rwa [dSign,wd_neg hp] at this
theorem write_inf64 {p:Int} (hp:rng p) (h:rg p=9218868437227405312):Ieee.double.write (.infinity (decide (p < 0)))=wd p:=by
  unfold Format.write
  dsimp only
  rw [dInf]
  have:=wd_word (ng:=decide (p < 0)) (r:=9218868437227405312) (by decide) (by decide)
  have e:patS (decide (p < 0)) 9218868437227405312=p:=by
    unfold rg at h
    unfold patS
    by_cases h0:p < 0
    . rw [if_pos h0] at h; rw [decide_eq_true h0,if_pos rfl]; omega
    . rw [if_neg h0] at h; rw [decide_eq_false h0,if_neg (by decide)]; omega
  rw [e] at this
  exact this
theorem nan_canon:cls 9221120237041090561=4:=by decide
theorem FW.nan {x:Nat} (h:NanW x):FW 9221120237041090561 x:=.inr ⟨rfl,h⟩
theorem FW.pat {p:Int} (h:cls p ≠ 4) (hp:rng p):FW p (wd p):=.inl ⟨h,hp,rfl⟩
theorem FW.read_nan {p:Int} {x:Nat} (h:FW p x) (h4:cls p=4):∃ s t,Ieee.double.read x=.nan s t:=by
  rcases h with ⟨h,_⟩ | ⟨_,h⟩
  . exact absurd h4 h
  . exact M.read_nan Ieee.double dOk x (by rw [dSign,dInf]; exact h.2)
theorem FW.of {p:Int} {x:Nat} (h:FW p x) (h4:cls p ≠ 4):rng p∧x=wd p∧0 <= rg p∧rg p <= 9218868437227405312:=by
  rcases h with ⟨_,h1,h2⟩ | ⟨h,_⟩
  . obtain ⟨r0,_⟩:=rg_parts h1
    refine ⟨h1,h2,r0,?_⟩
    rcases Int.lt_or_le 9218868437227405312 (rg p) with g | g
    . exact absurd ((cls_rg h1).1.2 g) h4
    . exact g
  . rw [h] at h4; exact absurd nan_canon h4
theorem nearP_pat {S:Int} (h:S ≠ 0):rng (nearP S)∧cls (nearP S) ≠ 4:=by
  obtain ⟨A,r0,left,_,_,e⟩:=nearP_rung h
  rw [e]
  obtain ⟨g1,g2⟩:=rTo_range 0 (decide (S < 0)) r0 left
  exact patS_rng g1 g2
theorem add_FW {p q:Int} {x y:Nat} (hx:FW p x) (hy:FW q y):(∃ z,Ieee.double.add x y=some z∧FW (fsum p q) z)∨(Ieee.double.add x y=none∧fsum p q=9221120237041090561):=by
  by_cases h4:cls p=4∨cls q=4
  . right
    refine ⟨?_,by unfold fsum; rw [if_pos h4]⟩
    unfold Format.add
    rcases h4 with h | h
    . obtain ⟨s,t,e⟩:=hx.read_nan h
      rw [e]
      rfl
    . obtain ⟨s,t,e⟩:=hy.read_nan h
      rw [e]
      cases Ieee.double.read x <;> rfl
  . have h4p:cls p ≠ 4:=fun h=>h4 (.inl h)
    have h4q:cls q ≠ 4:=fun h=>h4 (.inr h)
    obtain ⟨rp,rfl,p0,p1⟩:=hx.of h4p
    obtain ⟨rq,rfl,q0,q1⟩:=hy.of h4q
    unfold fsum
    rw [if_neg h4]
    by_cases ip:rg p=9218868437227405312
    . rw [if_pos ip]
      have ep:=read_inf64 rp ip
      by_cases iq:rg q=9218868437227405312
      . have eq:=read_inf64 rq iq
        by_cases hs:decide (p < 0)=decide (q < 0)
        . left
          refine ⟨wd p,?_,?_⟩
          . unfold Format.add
            rw [ep,eq]
            unfold Datum.sum
            dsimp only
            rw [if_pos hs]
            show some (Ieee.double.write (.infinity (decide (p < 0))))=_
            rw [write_inf64 rp ip]
          . rw [if_neg (fun h=>h.2 hs)]
            exact FW.pat h4p rp
        . right
          refine ⟨?_,by rw [if_pos ⟨iq,hs⟩]⟩
          unfold Format.add
          rw [ep,eq]
          unfold Datum.sum
          dsimp only
          rw [if_neg hs]
          rfl
      . left
        obtain ⟨m,u,eq,_⟩:=read_wd rq ((pok_rg rq).2 (by omega))
        refine ⟨wd p,?_,?_⟩
        . unfold Format.add
          rw [ep,eq]
          show some (Ieee.double.write (.infinity (decide (p < 0))))=_
          rw [write_inf64 rp ip]
        . rw [if_neg (fun h=>iq h.1)]
          exact FW.pat h4p rp
    . rw [if_neg ip]
      have pp:=(pok_rg rp).2 (by omega)
      by_cases iq:rg q=9218868437227405312
      . left
        rw [if_pos iq]
        have eq:=read_inf64 rq iq
        obtain ⟨m,u,ep,_⟩:=read_wd rp pp
        refine ⟨wd q,?_,FW.pat h4q rq⟩
        unfold Format.add
        rw [ep,eq]
        show some (Ieee.double.write (.infinity (decide (q < 0))))=_
        rw [write_inf64 rq iq]
      . left
        rw [if_neg iq]
        refine ⟨_,fadd_fin rp rq pp ((pok_rg rq).2 (by omega)),?_⟩
        by_cases hS:patV p + patV q=0
        . rw [if_pos hS]
          obtain ⟨g1,g2⟩:=patS_rng (ng:=decide (p < 0) && decide (q < 0)) (r:=0) (by decide) (by decide)
          exact FW.pat g2 g1
        . rw [if_neg hS]
          exact FW.pat (nearP_pat hS).2 (nearP_pat hS).1
theorem read_same {x y:Nat} (h1:x % Ieee.double.signWeight=y % Ieee.double.signWeight) (h2:(x / Ieee.double.signWeight % 2 == 1)=!(y / Ieee.double.signWeight % 2 == 1)):Ieee.double.read x=(Ieee.double.read y).opposite:=by
  unfold Format.read
  dsimp only
  rw [h1,h2]
  split
  . rfl
  . split
    . rfl
    . split
      . rfl
      . rfl
theorem read_neg {q:Int} (hq:rng q) (h4:cls q ≠ 4):Ieee.double.read (wd (neg q))=(Ieee.double.read (wd q)).opposite:=by
  have hn:neg q=if q < 0 then q + 9223372036854775808 else q - 9223372036854775808:=by unfold neg; rw [if_neg h4]
  refine read_same ?_ ?_
  . rw [dSign,hn]
    unfold rng at hq
    unfold wd
    split <;> omega
  . rw [dSign,wd_neg (rng_neg hq),wd_neg hq,hn]
    unfold rng at hq
    by_cases h:q < 0
    . rw [if_pos h,decide_eq_false (p:=q + 9223372036854775808 < 0) (by omega),decide_eq_true h]; rfl
    . rw [if_neg h,decide_eq_true (p:=q - 9223372036854775808 < 0) (by omega),decide_eq_false h]; rfl
theorem neg_nan {q:Int} (h:cls q=4):neg q=9221120237041090561:=by unfold neg; rw [if_pos h]
theorem sub_FW {p q:Int} {x y:Nat} (hx:FW p x) (hy:FW q y):(∃ z,Ieee.double.sub x y=some z∧FW (fsum p (neg q)) z)∨(Ieee.double.sub x y=none∧fsum p (neg q)=9221120237041090561):=by
  by_cases h4:cls q=4
  . right
    refine ⟨?_,by unfold fsum; rw [neg_nan h4,if_pos (.inr nan_canon)]⟩
    obtain ⟨s,t,e⟩:=hy.read_nan h4
    unfold Format.sub
    rw [e]
    cases Ieee.double.read x <;> rfl
  . obtain ⟨rq,rfl,_,_⟩:=hy.of h4
    have hs:Ieee.double.sub x (wd q)=Ieee.double.add x (wd (neg q)):=by
      unfold Format.sub Format.add
      rw [read_neg rq h4]
    rw [hs]
    exact add_FW hx (FW.pat (cls_neg rq h4) (rng_neg rq))
def xsg (p q:Int):Bool:=decide (p < 0) != decide (q < 0)
def fsize (p q:Int):Int:=sg (xsg p q) (patV p * patV q / 2 ^ 4194304)
def fprod (p q:Int):Int :=
  if cls p=4∨cls q=4 then 9221120237041090561
  else if rg p=9218868437227405312∨rg q=9218868437227405312 then (if rg p=0∨rg q=0 then 9221120237041090561 else patS (xsg p q) 9218868437227405312)
  else if fsize p q=0 then patS (xsg p q) 0 else nearP (sg (xsg p q) (fsize p q))
theorem fsize_of {g:Bool} {D Z C:Int} (hZ:0 < Z) (h:sg g D * Z=C):sg g (C / Z)=D:=by
  rw [<- h,Int.mul_ediv_cancel _ (Int.ne_of_gt hZ)]
  cases g
  . rfl
  . exact Int.neg_neg D
theorem nearP_sg {g:Bool} {D:Int} {r0:Nat} {left:Int} (h0:0 < D) (hR:Rung D r0 left):nearP (sg g D)=patS g (rTo 0 g r0 left):=by
  have hd:decide (sg g D < 0)=g:=by
    cases g
    . exact decide_eq_false (by show ¬ D < 0; omega)
    . exact decide_eq_true (by show -D < 0; omega)
  have hn:sg g D ≠ 0:=by
    cases g
    . show D ≠ 0; omega
    . show -D ≠ 0; omega
  obtain ⟨A,s0,k,e1,e2,e3⟩:=nearP_rung hn
  rw [hd] at e1 e3
  have:=sg_inj e1
  subst this
  obtain ⟨h1,h2⟩:=hR.unique e2
  subst h1 h2
  exact e3
theorem fmul_fin {p q:Int} (hp:rng p) (hq:rng q) (pp:pok p=true) (pq:pok q=true):Ieee.double.mul (wd p) (wd q)=some (wd (if fsize p q=0 then patS (xsg p q) 0 else nearP (sg (xsg p q) (fsize p q)))):=by
  obtain ⟨D,d0,d1,d2,d3⟩:=fmul hp hq pp pq
  have hf:fsize p q=D:=fsize_of (two_pos 4194304) d1
  rw [hf]
  by_cases h:D=0
  . rw [if_pos h]; exact d2 h
  . rw [if_neg h]
    obtain ⟨r0,left,hR,hE⟩:=d3 h
    rw [hE,nearP_sg (by omega) hR]
    rfl
theorem write_infS (g:Bool):Ieee.double.write (.infinity g)=wd (patS g 9218868437227405312):=by
  unfold Format.write
  dsimp only
  rw [dInf]
  exact wd_word (ng:=g) (r:=9218868437227405312) (by decide) (by decide)
theorem mag_zero {q:Int} {m u:Nat} (hq:rng q) (pq:pok q=true) (h:patV q=sg (decide (q < 0)) ((m:Int) * pw (-1074 + (u:Int)))):m=0 ↔ rg q=0:=by
  have e:=patV_dec hq pq
  rw [h] at e
  have e2:=sg_inj e
  obtain ⟨r0,r1⟩:=rg_lt hq pq
  constructor
  . intro hm
    rw [hm] at e2
    have e3:vS (rg q).toNat=0:=by rw [<- e2]; simp
    rcases Nat.eq_zero_or_pos (rg q).toNat with g | g
    . omega
    . have:=vS_lt g
      rw [vS_zero,e3] at this
      exact absurd this (Int.lt_irrefl _)
  . intro hr
    rw [hr] at e2
    have e3:(m:Int) * pw (-1074 + (u:Int))=0:=by rw [e2]; exact vS_zero
    have:=(eq_zero_iff (pw_pos (-1074 + (u:Int)))).2 e3
    omega
theorem mul_FW {p q:Int} {x y:Nat} (hx:FW p x) (hy:FW q y):(∃ z,Ieee.double.mul x y=some z∧FW (fprod p q) z)∨(Ieee.double.mul x y=none∧fprod p q=9221120237041090561):=by
  by_cases h4:cls p=4∨cls q=4
  . right
    refine ⟨?_,by unfold fprod; rw [if_pos h4]⟩
    unfold Format.mul
    rcases h4 with h | h
    . obtain ⟨s,t,e⟩:=hx.read_nan h
      rw [e]
      rfl
    . obtain ⟨s,t,e⟩:=hy.read_nan h
      rw [e]
      cases Ieee.double.read x <;> rfl
  . have h4p:cls p ≠ 4:=fun h=>h4 (.inl h)
    have h4q:cls q ≠ 4:=fun h=>h4 (.inr h)
    obtain ⟨rp,rfl,p0,p1⟩:=hx.of h4p
    obtain ⟨rq,rfl,q0,q1⟩:=hy.of h4q
    have hI:=patS_rng (ng:=xsg p q) (r:=9218868437227405312) (by decide) (by decide)
    have hX:(decide (p < 0) ^^ decide (q < 0))=xsg p q:=xor_ne _ _
    have hX2:(decide (q < 0) ^^ decide (p < 0))=xsg p q:=by rw [<- hX]; cases decide (p < 0) <;> cases decide (q < 0) <;> rfl
    unfold fprod
    rw [if_neg h4]
    by_cases ip:rg p=9218868437227405312
    . rw [if_pos (.inl ip)]
      have ep:=read_inf64 rp ip
      by_cases iq:rg q=9218868437227405312
      . left
        rw [if_neg (by omega)]
        refine ⟨_,?_,FW.pat hI.2 hI.1⟩
        unfold Format.mul
        rw [ep,read_inf64 rq iq]
        show some (Ieee.double.write (.infinity (decide (p < 0) ^^ decide (q < 0))))=_
        rw [write_infS,hX]
      . have pq:=(pok_rg rq).2 (by omega)
        obtain ⟨m,u,eq,vq⟩:=read_wd rq pq
        have hz:=mag_zero rq pq vq
        by_cases hm:m=0
        . right
          refine ⟨?_,by rw [if_pos (.inr (hz.1 hm))]⟩
          unfold Format.mul
          rw [ep,eq,hm]
          rfl
        . left
          rw [if_neg (fun h=>by rcases h with h | h; omega; exact hm (hz.2 h))]
          refine ⟨_,?_,FW.pat hI.2 hI.1⟩
          unfold Format.mul
          rw [ep,eq]
          unfold Datum.product
          dsimp only
          rw [if_neg hm]
          show some (Ieee.double.write (.infinity (decide (p < 0) ^^ decide (q < 0))))=_
          rw [write_infS,hX]
    . have pp:=(pok_rg rp).2 (by omega)
      by_cases iq:rg q=9218868437227405312
      . rw [if_pos (.inr iq)]
        obtain ⟨m,u,ep,vp⟩:=read_wd rp pp
        have hz:=mag_zero rp pp vp
        have eq:=read_inf64 rq iq
        by_cases hm:m=0
        . right
          refine ⟨?_,by rw [if_pos (.inl (hz.1 hm))]⟩
          unfold Format.mul
          rw [ep,eq,hm]
          rfl
        . left
          rw [if_neg (fun h=>by rcases h with h | h; exact hm (hz.2 h); omega)]
          refine ⟨_,?_,FW.pat hI.2 hI.1⟩
          unfold Format.mul
          rw [ep,eq]
          unfold Datum.product
          dsimp only
          rw [if_neg hm]
          show some (Ieee.double.write (.infinity (decide (q < 0) ^^ decide (p < 0))))=_
          rw [write_infS,hX2]
      . left
        rw [if_neg (by omega)]
        refine ⟨_,fmul_fin rp rq pp ((pok_rg rq).2 (by omega)),?_⟩
        by_cases hS:fsize p q=0
        . rw [if_pos hS]
          obtain ⟨g1,g2⟩:=patS_rng (ng:=xsg p q) (r:=0) (by decide) (by decide)
          exact FW.pat g2 g1
        . rw [if_neg hS]
          have hn:sg (xsg p q) (fsize p q) ≠ 0:=by
            generalize fsize p q=D at *
            cases xsg p q
            . exact hS
            . show -D ≠ 0; omega
          exact FW.pat (nearP_pat hn).2 (nearP_pat hn).1
theorem run_fprod {P:Program} (t:TypeId) {p q:Int} {x y:Nat} (hx:FW p x) (hy:FW q y) (w:World) :
    ∃ z w',(binOp .mul t (.float .f64 x) (.float .f64 y)).run P w=.ok (.float .f64 z) w'∧FW (fprod p q) z∧(w'=w∨w'=w.drew):=by
  obtain ⟨z,w',h,hz⟩:=run_farith (P:=P) .mul (.inr (.inr (.inl rfl))) t x y w
  refine ⟨z,w',h,?_⟩
  have hf:floatBits .mul .f64 x y=Ieee.double.mul x y:=rfl
  rw [hf] at hz
  rcases mul_FW hx hy with ⟨z',e1,e2⟩ | ⟨e1,e2⟩
  . rcases hz with ⟨h1,h2⟩ | ⟨h1,_⟩
    . rw [e1] at h1; cases h1; exact ⟨e2,.inl h2⟩
    . rw [e1] at h1; cases h1
  . rcases hz with ⟨h1,_⟩ | ⟨_,h2,h3⟩
    . rw [e1] at h1; cases h1
    . rw [e2]; exact ⟨FW.nan h2,.inr h3⟩
theorem patW_rng {x:Nat} (h:x < 18446744073709551616):rng (patW x)∧wd (patW x)=x:=by
  unfold patW rng wd
  split
  . exact ⟨by omega,by omega⟩
  . exact ⟨by omega,by omega⟩
theorem of_FW {p:Int} {x:Nat} (h:FW p x) (w:World):Calls Tryz.prog 28 #[.float .f64 x] w fun e w'=>e=.returned (.int .i64 p)∧w'=w:=by
  rcases h with ⟨h4,hp,rfl⟩ | ⟨rfl,hN⟩
  . have:=bitsOf p w hp
    have e:told p=p:=by unfold told; rw [if_neg h4]
    rwa [e] at this
  . obtain ⟨h1,h2⟩:=patW_rng hN.1
    have:=bitsOf (patW x) w h1
    rw [h2] at this
    have e:told (patW x)=9221120237041090561:=by
      unfold told
      rw [if_pos ((cls4_rung h1).2 (by rw [h2]; exact hN.2))]
    rwa [e] at this
end Go.Proofs.YteglfnnbpilheaaGreatDoor
namespace Go.Proofs.YteglfnnbpilheaaGreatDoor.M
def Fl (n:Int):Prop:=∃ k:Nat,(2 ^ k:Int) ∣ n∧(n.natAbs:Int) < 9007199254740992 * 2 ^ k
def Nr (S h:Int):Prop:=Fl h∧∀ f,Fl f->(h - S).natAbs <= (f - S).natAbs
theorem p2 (k:Nat):(0:Int) < 2 ^ k:=Int.pow_pos (by decide)
theorem p2s (k:Nat):(2:Int) ^ (k + 1)=2 * 2 ^ k:=by rw [Int.pow_succ,Int.mul_comm]
theorem p2dvd {j k:Nat} (h:j <= k):(2 ^ j:Int) ∣ 2 ^ k:=⟨2 ^ (k - j),by rw [<- Int.pow_add,Nat.add_sub_cancel' h]⟩
theorem p2le {j k:Nat} (h:j <= k):(2:Int) ^ j <= 2 ^ k:=Int.le_of_dvd (p2 k) (p2dvd h)
theorem p2lt {j k:Nat} (h:(2:Int) ^ j < 2 ^ k):j < k:=by
  rcases Nat.lt_or_ge j k with c | c
  . exact c
  . have:=p2le c; omega
theorem Fl.neg {n:Int} (h:Fl n):Fl (-n):=by
  obtain ⟨k,d,b⟩:=h
  exact ⟨k,(Int.dvd_neg).2 d,by rw [Int.natAbs_neg]; exact b⟩
theorem fl_zero:Fl 0:=⟨0,⟨0,by simp⟩,by simp⟩
theorem fl_of {n:Int} {k:Nat} (d:(2 ^ k:Int) ∣ n) (b:(n.natAbs:Int) <= 9007199254740992 * 2 ^ k):Fl n:=by
  by_cases c:(n.natAbs:Int) < 9007199254740992 * 2 ^ k
  . exact ⟨k,d,c⟩
  . have e:(n.natAbs:Int)=9007199254740992 * 2 ^ k:=by omega
    refine ⟨k + 1,?_,?_⟩
    . rw [<- Int.dvd_natAbs,e,p2s]
      exact ⟨4503599627370496,by omega⟩
    . rw [p2s]; have:=p2 k; omega
theorem Fl.dbl {n:Int} (h:Fl n):Fl (2 * n):=by
  obtain ⟨k,⟨c,rfl⟩,b⟩:=h
  refine ⟨k + 1,⟨c,by rw [p2s,Int.mul_assoc]⟩,?_⟩
  rw [p2s]
  omega
theorem Nr.neg {S h:Int} (n:Nr S h):Nr (-S) (-h):=by
  refine ⟨n.1.neg,fun f hf=>?_⟩
  have:=n.2 (-f) hf.neg
  omega
theorem nr_self {S h:Int} (hS:Fl S) (n:Nr S h):h=S:=by
  have:=n.2 S hS
  omega
theorem fl_sub {x y:Int} (hx:Fl x) (hy:Fl y) (h1:(x - y).natAbs <= x.natAbs) (h2:(x - y).natAbs <= y.natAbs):Fl (x - y):=by
  obtain ⟨j,dx,bx⟩:=hx
  obtain ⟨k,dy,by1⟩:=hy
  rcases Nat.le_total j k with c | c
  . exact ⟨j,Int.dvd_sub dx (Int.dvd_trans (p2dvd c) dy),by omega⟩
  . exact ⟨k,Int.dvd_sub (Int.dvd_trans (p2dvd c) dx) dy,by omega⟩
theorem fl_add {x y:Int} (hx:Fl x) (hy:Fl y) (h1:(x + y).natAbs <= x.natAbs) (h2:(x + y).natAbs <= y.natAbs):Fl (x + y):=by
  have e:x + y=x - -y:=by omega
  rw [e]
  exact fl_sub hx hy.neg (by omega) (by omega)
theorem nr_dvd_pos {S h:Int} {k:Nat} (n:Nr S h) (d:(2 ^ k:Int) ∣ S) (h0:0 <= S):(2 ^ k:Int) ∣ h:=by
  by_cases c:(S.natAbs:Int) <= 9007199254740992 * 2 ^ k
  . rw [nr_self (fl_of d c) n]; exact d
  . have hT:Fl (9007199254740992 * 2 ^ k):=fl_of ⟨9007199254740992,by rw [Int.mul_comm]⟩ (by have:=p2 k; omega)
    have h1:=n.2 _ hT
    obtain ⟨j,dj,bj⟩:=n.1
    have hk:=p2 k
    have hj:=p2 j
    have:(2:Int) ^ k < 2 ^ j:=by omega
    exact Int.dvd_trans (p2dvd (Nat.le_of_lt (p2lt this))) dj
theorem nr_dvd {S h:Int} {k:Nat} (n:Nr S h) (d:(2 ^ k:Int) ∣ S):(2 ^ k:Int) ∣ h:=by
  rcases Int.le_total 0 S with c | c
  . exact nr_dvd_pos n d c
  . have:=nr_dvd_pos n.neg ((Int.dvd_neg).2 d) (by omega)
    exact (Int.dvd_neg).1 this
theorem err_sum {a b h:Int} (ha:Fl a) (hb:Fl b) (n:Nr (a + b) h):Fl (a + b - h):=by
  have e1:=n.2 a ha
  have e2:=n.2 b hb
  obtain ⟨j,da,ba⟩:=ha
  obtain ⟨k,db,bb⟩:=hb
  rcases Nat.le_total j k with c | c
  . have d:=Int.dvd_add da (Int.dvd_trans (p2dvd c) db)
    exact ⟨j,Int.dvd_sub d (nr_dvd n d),by omega⟩
  . have d:=Int.dvd_add (Int.dvd_trans (p2dvd c) da) db
    exact ⟨k,Int.dvd_sub d (nr_dvd n d),by omega⟩
theorem back_pos {a b h:Int} (ha:Fl a) (hb:Fl b) (h0:0 <= a) (hab:b.natAbs <= a.natAbs) (n:Nr (a + b) h):Fl (h - a):=by
  have ea:=n.2 a ha
  have e2:=n.2 (2 * a) ha.dbl
  have ez:=n.2 0 fl_zero
  by_cases hs:a <= 2 * h
  . exact fl_sub n.1 ha (by omega) (by omega)
  . have hS:Fl (a + b):=by
      obtain ⟨k,⟨c,hc⟩,ba⟩:=ha
      cases k with
      | zero=>exact ⟨0,⟨a + b,by simp⟩,by simp at ba ⊢; omega⟩
      | succ k=>
        have hf:Fl (2 ^ k * c):=⟨k,⟨c,rfl⟩,by rw [p2s] at ba hc; rw [Int.mul_assoc] at hc; omega⟩
        have e3:=n.2 _ hf
        rw [p2s,Int.mul_assoc] at hc
        exact fl_add ⟨k + 1,⟨c,by rw [p2s,Int.mul_assoc]; exact hc⟩,ba⟩ hb (by omega) (by omega)
    rw [nr_self hS n,show a + b - a=b by omega]
    exact hb
theorem back {a b h:Int} (ha:Fl a) (hb:Fl b) (hab:b.natAbs <= a.natAbs) (n:Nr (a + b) h):Fl (h - a):=by
  rcases Int.le_total 0 a with c | c
  . exact back_pos ha hb c hab n
  . have n2:=n.neg
    rw [show -(a + b)=-a + -b by omega] at n2
    have:=(back_pos ha.neg hb.neg (by omega) (by omega) n2).neg
    rwa [show -(-h - -a)=h - a by omega] at this
theorem binade (S:Int) (h0:0 <= S):∃ k:Nat,S < 9007199254740992 * 2 ^ k∧(k=0∨4503599627370496 * 2 ^ k <= S):=by
  have ex:∀ n:Nat,S < 9007199254740992 * 2 ^ n->∃ k:Nat,S < 9007199254740992 * 2 ^ k∧(k=0∨4503599627370496 * 2 ^ k <= S):=by
    intro n
    induction n with
    | zero=>intro h; exact ⟨0,h,.inl rfl⟩
    | succ n ih=>
      intro h
      by_cases c:S < 9007199254740992 * 2 ^ n
      . exact ih c
      . exact ⟨n + 1,h,.inr (by rw [p2s]; omega)⟩
  refine ex S.natAbs ?_
  have h1:S.natAbs < 2 ^ S.natAbs:=Nat.lt_two_pow_self
  have h2:((2 ^ S.natAbs:Nat):Int)=2 ^ S.natAbs:=by simp
  have h3:=p2 S.natAbs
  omega
theorem nr_rel_pos {S h:Int} (n:Nr S h) (h0:0 <= S):1000 * (h - S).natAbs <= S.natAbs:=by
  obtain ⟨k,b,c⟩:=binade S h0
  have hk:=p2 k
  have hm:=Int.emod_nonneg S (show (2:Int) ^ k ≠ 0 by omega)
  have hl:=Int.emod_lt_of_pos S hk
  have hf:Fl (S - S % 2 ^ k):=by
    refine fl_of (k:=k) ⟨S / 2 ^ k,by have:=Int.emod_add_mul_ediv S (2 ^ k); omega⟩ ?_
    have:0 <= S - S % 2 ^ k:=by
      have:=Int.emod_add_mul_ediv S (2 ^ k)
      have h2:0 <= 2 ^ k * (S / 2 ^ k):=Int.mul_nonneg (by omega) (Int.ediv_nonneg h0 (by omega))
      omega
    omega
  have e:=n.2 _ hf
  rcases c with c | c
  . subst c
    have:S % 2 ^ 0=0:=by simp
    omega
  . omega
theorem nr_rel {S h:Int} (n:Nr S h):1000 * (h - S).natAbs <= S.natAbs:=by
  rcases Int.le_total 0 S with c | c
  . exact nr_rel_pos n c
  . have:=nr_rel_pos n.neg (by omega)
    omega
theorem two_sum {a b h v u p q l:Int} (ha:Fl a) (hb:Fl b) (nh:Nr (a + b) h) (nv:Nr (h - a) v) (nu:Nr (h - v) u) (np:Nr (a - u) p) (nq:Nr (b - v) q) (nl:Nr (p + q) l):l=a + b - h:=by
  have hd:=err_sum ha hb nh
  -- the step back,where it is exact
  have A:Fl (h - a)->l=a + b - h:=by
    intro hx
    have e1:=nr_self hx nv
    subst e1
    rw [show h - (h - a)=a by omega] at nu
    have e2:=nr_self ha nu
    subst e2
    rw [show u - u=0 by omega] at np
    have e3:=nr_self fl_zero np
    subst e3
    rw [show b - (h - u)=u + b - h by omega] at nq
    have e4:=nr_self hd nq
    subst e4
    rw [show 0 + (u + b - h)=u + b - h by omega] at nl
    exact nr_self hd nl
  by_cases hab:b.natAbs <= a.natAbs
  . exact A (back ha hb hab nh)
  by_cases hha:a.natAbs <= h.natAbs
  . -- h - v is exact
    have n1:Nr (h + -a) v:=by rw [show h + -a=h - a by omega]; exact nv
    have hx:=(back nh.1 ha.neg (by omega) n1).neg
    rw [show -(v - h)=h - v by omega] at hx
    have e1:=nr_self hx nu
    subst e1
    have hy:=(err_sum nh.1 ha.neg n1).neg
    rw [show -(h + -a - v)=a - (h - v) by omega] at hy
    have e2:=nr_self hy np
    subst e2
    have r1:=nr_rel nh
    have r2:=nv.2 b hb
    have hz:Fl (b - v):=fl_sub hb nv.1 (by omega) (by omega)
    have e3:=nr_self hz nq
    subst e3
    rw [show a - (h - v) + (b - v)=a + b - h by omega] at nl
    exact nr_self hd nl
  . -- then the sum is exact
    have e1:=nh.2 a ha
    have e2:=nh.2 (-a) ha.neg
    have hS:Fl (a + b):=fl_add ha hb (by omega) (by omega)
    have e3:=nr_self hS nh
    exact A (by rw [e3,show a + b - a=b by omega]; exact hb)
theorem nr_ge {S h T:Int} (n:Nr S h) (hT:Fl T) (c:T <= S):T <= h:=by
  have:=n.2 T hT
  omega
theorem fl_p2 (i:Nat) {m:Nat} (hm:(m:Int) <= 9007199254740992):Fl ((m:Int) * 2 ^ i):=by
  refine fl_of (k:=i) ⟨m,by rw [Int.mul_comm]⟩ ?_
  have h1:0 <= (m:Int) * 2 ^ i:=Int.mul_nonneg (by omega) (Int.le_of_lt (p2 i))
  have h2:(m:Int) * 2 ^ i <= 9007199254740992 * 2 ^ i:=Int.mul_le_mul_of_nonneg_right hm (Int.le_of_lt (p2 i))
  omega
theorem fl_units {h:Int} {i:Nat} (f:Fl h) (c:4503599627370496 * 2 ^ i <= (h.natAbs:Int)):(2 ^ i:Int) ∣ h:=by
  obtain ⟨j,d,b⟩:=f
  have hi:=p2 i
  have hj:=p2 j
  cases i with
  | zero=>exact ⟨h,by simp⟩
  | succ i=>
    rw [p2s] at c
    have:(2:Int) ^ i < 2 ^ j:=by omega
    exact Int.dvd_trans (p2dvd (p2lt this)) d
theorem near_mult (S:Int) (i:Nat):∃ T:Int,(2 ^ i:Int) ∣ T∧2 * (T - S).natAbs <= (2 ^ i:Int):=by
  have hi:=p2 i
  have hm:=Int.emod_nonneg S (show (2:Int) ^ i ≠ 0 by omega)
  have hl:=Int.emod_lt_of_pos S hi
  have e:=Int.emod_add_mul_ediv S (2 ^ i)
  generalize S % 2 ^ i=t at *
  by_cases c:2 * t <= 2 ^ i
  . exact ⟨S - t,⟨S / 2 ^ i,by omega⟩,by omega⟩
  . exact ⟨S - t + 2 ^ i,⟨S / 2 ^ i + 1,by rw [Int.mul_add,Int.mul_one]; omega⟩,by omega⟩
theorem nr_err {S h:Int} {i:Nat} (n:Nr S h) (c:(S.natAbs:Int) <= 9007199254740992 * 2 ^ i):2 * ((h - S).natAbs:Int) <= 2 ^ i:=by
  obtain ⟨T,d,e⟩:=near_mult S i
  have hi:=p2 i
  have hT:Fl T:=by
    by_cases c2:(T.natAbs:Int) <= 9007199254740992 * 2 ^ i
    . exact fl_of d c2
    . exfalso
      obtain ⟨t,rfl⟩:=d
      have h1:(9007199254740992:Int) < t.natAbs:=by
        rw [Int.natAbs_mul] at c2
        have e2:((2 ^ i:Int).natAbs:Int)=2 ^ i:=by omega
        push_cast at c2
        rcases Int.lt_or_le 9007199254740992 (t.natAbs:Int) with g | g
        . exact g
        . exfalso
          have:=Int.mul_le_mul_of_nonneg_left g (Int.le_of_lt hi)
          rw [e2] at c2
          omega
      have h2:(2 ^ i:Int) * 9007199254740993 <= ((2 ^ i * t).natAbs:Int):=by
        rw [Int.natAbs_mul]
        have e2:((2 ^ i:Int).natAbs:Int)=2 ^ i:=by omega
        rw [Int.natCast_mul,e2]
        exact Int.mul_le_mul_of_nonneg_left (by omega) (Int.le_of_lt hi)
      generalize 2 ^ i * t=T at *
      omega
  have:=n.2 T hT
  omega
structure Spl (a h:Int) (j:Nat):Prop where
  up:(134217728 * 2 ^ j:Int) ∣ h
  lo:(2 ^ j:Int) ∣ a - h
  top:(h.natAbs:Int) <= 9007199254740992 * 2 ^ j
  low:((a - h).natAbs:Int) <= 67108864 * 2 ^ j
theorem Spl.neg {a h:Int} {j:Nat} (s:Spl a h j):Spl (-a) (-h) j :=
  ⟨(Int.dvd_neg).2 s.up,by rw [show -a - -h=-(a - h) by omega]; exact (Int.dvd_neg).2 s.lo,by rw [Int.natAbs_neg]; exact s.top,by rw [show -a - -h=-(a - h) by omega,Int.natAbs_neg]; exact s.low⟩
theorem natAbs_p2 (i:Nat) (t:Int):((2 ^ i * t).natAbs:Int)=2 ^ i * (t.natAbs:Int):=by
  have hi:=p2 i
  rw [Int.natAbs_mul,Int.natCast_mul,show ((2 ^ i:Int).natAbs:Int)=2 ^ i by omega]
theorem Fl.down {i:Nat} {t:Int} (h:Fl (2 ^ i * t)):Fl t:=by
  obtain ⟨k,d,b⟩:=h
  rw [natAbs_p2] at b
  rcases Nat.le_total i k with c | c
  . obtain ⟨e,rfl⟩:∃ e,k=i + e:=⟨k - i,by omega⟩
    rw [Int.pow_add] at d b
    refine ⟨e,Int.dvd_of_mul_dvd_mul_left (by have:=p2 i; omega) d,?_⟩
    have e2:(9007199254740992:Int) * (2 ^ i * 2 ^ e)=2 ^ i * (9007199254740992 * 2 ^ e):=by rw [<- Int.mul_assoc,<- Int.mul_assoc,Int.mul_comm _ (2 ^ i)]
    rw [e2] at b
    exact Int.lt_of_mul_lt_mul_left b (Int.le_of_lt (p2 i))
  . refine ⟨0,⟨t,by simp⟩,?_⟩
    have h1:(9007199254740992:Int) * 2 ^ k <= 2 ^ i * 9007199254740992:=by rw [Int.mul_comm]; exact Int.mul_le_mul_of_nonneg_right (p2le c) (by decide)
    have h2:=Int.lt_of_mul_lt_mul_left (Int.lt_of_lt_of_le b h1) (Int.le_of_lt (p2 i))
    simpa using h2
theorem Fl.up {t:Int} (h:Fl t) (i:Nat):Fl (2 ^ i * t):=by
  obtain ⟨k,⟨c,rfl⟩,b⟩:=h
  refine ⟨i + k,⟨c,by rw [Int.pow_add,Int.mul_assoc]⟩,?_⟩
  rw [natAbs_p2,Int.pow_add]
  have e2:(9007199254740992:Int) * (2 ^ i * 2 ^ k)=2 ^ i * (9007199254740992 * 2 ^ k):=by rw [<- Int.mul_assoc,<- Int.mul_assoc,Int.mul_comm _ (2 ^ i)]
  rw [e2]
  exact Int.mul_lt_mul_of_pos_left b (p2 i)
end Go.Proofs.YteglfnnbpilheaaGreatDoor.M
