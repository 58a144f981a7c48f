/- Parts of the proof. -/
import Derived.Test.YtjjihmnbdeeedaaGreatDoorCe16
import Derived.Test.YtjjihmnbdeeedaaGreatDoorCe8
import Derived.Test.YtjjihmnbdeeedaaGreatDoorCe9
import Derived.Test.YtjjihmnbdeeedaaGreatDoorCe10
import Derived.Laws.Externs
import Derived.Test.YtjjihmnbdeeedaaGreatDoorCe6
import Derived.Test.YtjjihmnbdeeedaaGreatDoorCe11
import Derived.Test.YtjjihmnbdeeedaaGreatDoorCe7
import Derived.Test.YtjjihmnbdeeedaaGreatDoorCe14
import Derived.Deep.RegionHeld3
import Derived.BigQuiet
import Derived.Laws.Rows
import Derived.Laws.Tables
import Derived.Deep.WholeRow
set_option linter.unusedVariables false
set_option linter.unusedSimpArgs false
namespace Go.Proofs.YtjjihmnbdeeedaaGreatDoor
open Go Go.RowKit Go.Proofs.YtjjihmnbdeeedaaGreatDoor.M Ieee
def RdP (way V p:Int):Prop:=∃ (A:Int) (r0:Nat) (left:Int),V=sg (decide (V<0)) A∧Rung A r0 left∧p=patS (decide (V<0)) (rTo way (decide (V<0)) r0 left)
theorem RdP.unique {way V p q:Int} (h:RdP way V p) (k:RdP way V q):p=q:=by
  obtain ⟨A,r0,l,h1,h2,h3⟩:=h
  obtain ⟨B,s0,m,k1,k2,k3⟩:=k
  have hAB:=sg_inj (h1.symm.trans k1)
  subst hAB
  obtain ⟨e1,e2⟩:=h2.unique k2
  subst e1 e2
  rw [h3,k3]
end Go.Proofs.YtjjihmnbdeeedaaGreatDoor
namespace Go.Proofs.YtjjihmnbdeeedaaGreatDoor.M
open Go Ieee
end Go.Proofs.YtjjihmnbdeeedaaGreatDoor.M
namespace Go.Proofs.YtjjihmnbdeeedaaGreatDoor
open Go Go.RowKit Go.Proofs.YtjjihmnbdeeedaaGreatDoor.M
theorem run_sumN {P:Program} (t:TypeId) {p q:Int} {x y:Nat} (hx:FW p x) (hy:FW q y) (h:cls (fsum p q)≠4) (w:World) :
    (binOp .add t (.float .f64 x) (.float .f64 y)).run P w=.ok (.float .f64 (wd (fsum p q))) w:=by
  obtain ⟨z,w',hr,hz⟩:=run_farith (P:=P) .add (.inl rfl) t x y w
  have hf:floatBits .add .f64 x y=Ieee.double.add x y:=rfl
  rw [hf] at hz
  rcases add_FW hx hy with ⟨z',e1,e2⟩ | ⟨e1,e2⟩
  . rcases hz with ⟨h1,h2⟩ | ⟨h1,_⟩
    . rw [e1] at h1; cases h1
      rw [hr,h2,(e2.of h).2.1]
    . rw [e1] at h1; cases h1
  . exact absurd (by rw [e2]; exact nan_canon) h
theorem run_diffN {P:Program} (t:TypeId) {p q:Int} {x y:Nat} (hx:FW p x) (hy:FW q y) (h:cls (fsum p (neg q))≠4) (w:World) :
    (binOp .sub t (.float .f64 x) (.float .f64 y)).run P w=.ok (.float .f64 (wd (fsum p (neg q)))) w:=by
  obtain ⟨z,w',hr,hz⟩:=run_farith (P:=P) .sub (.inr (.inl rfl)) t x y w
  have hf:floatBits .sub .f64 x y=Ieee.double.sub x y:=rfl
  rw [hf] at hz
  rcases sub_FW hx hy with ⟨z',e1,e2⟩ | ⟨e1,e2⟩
  . rcases hz with ⟨h1,h2⟩ | ⟨h1,_⟩
    . rw [e1] at h1; cases h1
      rw [hr,h2,(e2.of h).2.1]
    . rw [e1] at h1; cases h1
  . exact absurd (by rw [e2]; exact nan_canon) h
end Go.Proofs.YtjjihmnbdeeedaaGreatDoor
namespace Go.Proofs.YtjjihmnbdeeedaaGreatDoor
open Go Go.RowKit Go.Proofs.YtjjihmnbdeeedaaGreatDoor.M Ieee
end Go.Proofs.YtjjihmnbdeeedaaGreatDoor
namespace Go.Proofs.YtjjihmnbdeeedaaGreatDoor
open Go Go.RowKit Go.Proofs.YtjjihmnbdeeedaaGreatDoor.M
theorem Nums.at {w:World} {g n:Nat} {q:Nat->NumR} (h:Nums w (some ⟨g,0,none⟩) n n q) (i:Nat) (hi:i<n):At3 w g (i*3) (q i):=by
  obtain ⟨b,off,he,hlt,hc⟩:=h.spot (by omega)
  cases he
  have:=hc i hi
  rwa [Nat.zero_add] at this
theorem run_prodN {P:Program} (t:TypeId) {p q:Int} {x y:Nat} (hx:FW p x) (hy:FW q y) (h:cls (fprod p q)≠4) (w:World):(binOp .mul t (.float .f64 x) (.float .f64 y)).run P w=.ok (.float .f64 (wd (fprod p q))) w:=by
  obtain ⟨z,w',hrun,hz⟩:=run_farith (P:=P) .mul (.inr (.inr (.inl rfl))) t x y w
  have hf:floatBits .mul .f64 x y=Ieee.double.mul x y:=rfl
  rw [hf] at hz
  rcases mul_FW hx hy with ⟨z',e1,e2⟩ | ⟨_,e2⟩
  . rcases hz with ⟨h1,h2⟩ | ⟨h1,_⟩
    . rw [e1] at h1
      cases h1
      rw [hrun,h2,(e2.of h).2.1]
    . rw [e1] at h1; cases h1
  . exact absurd (by rw [e2]; decide) h
theorem fx_fw {a b:Nat} {x:Int} (h:Fx a b x):FW x (wd x):=FW.pat (q_fin h.p) h.r
theorem Un.neg {S h:Int} (u:Un S h):Un (-S) (-h):=by
  unfold Un at *
  have e:-h - -S=-(h-S):=by omega
  rw [e,Int.natAbs_neg,Int.natAbs_neg,Int.natAbs_neg]
  exact u
def pL (u:Nat->Nat->Int) (p q:Nat):Int:=fprod (u p 0) (u q 1)
def mn (u:Nat->Nat->Int) (p q:Nat):Int:=fsum (pL u p q) (neg (pL u q p))
def sz (u:Nat->Nat->Int) (p q:Nat):Int:=fsum (rg (pL u p q)) (rg (pL u q p))
def sxz (u:Nat->Nat->Int) (p q r:Nat):Int:=fsum (fsum (fprod (sz u q r) (rg (u p 2))) (fprod (sz u r p) (rg (u q 2)))) (fprod (sz u p q) (rg (u r 2)))
def lf (u:Nat->Nat->Int) (p:Nat):Int:=fsum (fsum (fsum 0 (fprod (u p 0) (u p 0))) (fprod (u p 1) (u p 1))) (fprod (u p 2) (u p 2))
def mX (X:Nat->Nat->Int) (p q:Nat):Int:=X p 0*X q 1-X q 0*X p 1
structure Lg (X u:Nat->Nat->Int) (p:Nat):Prop where
  f:∀ k,k<3->Fx 872 1226 (u p k)
  n:∀ k,k<3->Un (X p k) (iV (u p k))
theorem pL_fx {X u:Nat->Nat->Int} {p q:Nat} (hp:Lg X u p) (hq:Lg X u q):Fx 670 1379 (pL u p q)∧Un (iV (u p 0)*iV (u q 1)) (2^1074*iV (pL u p q)):=by
  obtain ⟨l,lu,_⟩:=(hp.f 0 (by decide)).prod (hq.f 1 (by decide)) (by decide) (by decide) (by decide)
  exact ⟨l,lu⟩
def wQ (u:Nat->Nat->Int) (p q:Nat):Int:=((2^1074*iV (pL u p q)).natAbs:Int)+((2^1074*iV (pL u q p)).natAbs:Int)
theorem mn_dv {X u:Nat->Nat->Int} {p q:Nat} (hp:Lg X u p) (hq:Lg X u q) :
    Fx 670 1381 (mn u p q)∧Dv 4611686018427388289 1152921504606847104 (mX X p q) (2^1074*iV (mn u p q)) (wQ u p q):=by
  obtain ⟨l,lu⟩:=pL_fx hp hq
  obtain ⟨r,ru⟩:=pL_fx hq hp
  obtain ⟨nr,ne⟩:=r.neg
  obtain ⟨d,du⟩:=l.sum nr (by decide)
  rw [ne,<- Int.sub_eq_add_neg] at du
  have du:=du.scale (Int.le_of_lt (p2 1074))
  rw [Int.mul_sub] at du
  exact ⟨d,dv_sub (dv_prod0 (hp.n 0 (by decide)) (hq.n 1 (by decide)) lu) (dv_prod0 (hq.n 0 (by decide)) (hp.n 1 (by decide)) ru) du (by decide) (by decide)⟩
theorem sz_sz {X u:Nat->Nat->Int} {p q:Nat} (hp:Lg X u p) (hq:Lg X u q) :
    Fx 670 1381 (sz u p q)∧Sz 1152921504606847104 (wQ u p q) (2^1074*iV (sz u p q)):=by
  obtain ⟨l,lu⟩:=pL_fx hp hq
  obtain ⟨r,ru⟩:=pL_fx hq hp
  obtain ⟨la,le⟩:=l.abs
  obtain ⟨ra,re⟩:=r.abs
  obtain ⟨d,du⟩:=la.sum ra (by decide)
  rw [le,re] at du
  have p0:=Int.le_of_lt (p2 1074)
  have du:=du.scale p0
  rw [Int.mul_add,<- sc_abs p0,<- sc_abs p0] at du
  exact ⟨d,sz_add (sz_abs _) (sz_abs _) du (by decide) (by decide)⟩
def ts (u:Nat->Nat->Int) (i p q r:Nat):Int:=fprod (sxz u r p q) (lf u i)
def fS (u:Nat->Nat->Int):Int:=fsum (fsum (fsum (fsum 0 (ts u 0 1 2 3)) (ts u 1 2 3 0)) (ts u 2 3 0 1)) (ts u 3 0 1 2)
theorem fx_zero {a b:Nat}:Fx a b 0:=⟨by unfold rng; omega,by decide,by rw [show iV 0=0 by decide]; exact ⟨0,by omega⟩,by rw [show iV 0=0 by decide]; exact Int.le_of_lt (p2 b)⟩
theorem sq_fx {X u:Nat->Nat->Int} {p:Nat} (hp:Lg X u p) (k:Nat) (hk:k<3):Fx 670 1379 (fprod (u p k) (u p k))∧Un (iV (u p k)*iV (u p k)) (2^1074*iV (fprod (u p k) (u p k)))∧0<=2^1074*iV (fprod (u p k) (u p k)):=by
  obtain ⟨l,lu,_⟩:=(hp.f k hk).prod (hp.f k hk) (by decide) (by decide) (by decide)
  have:0<=iV (u p k)*iV (u p k):=by
    rcases Int.le_total 0 (iV (u p k)) with c | c
    . exact Int.mul_nonneg c c
    . exact Int.mul_nonneg_of_nonpos_of_nonpos c c
  exact ⟨l,lu,(un_nn lu this).1⟩
theorem wd_nil:wd 0=0:=by decide
def sgP (p:Int):Int:=ord (key p) 0
theorem order_self {p:Int} (hp:rng p) (h:pok p=true):FloatKind.f64.format.order (wd p) (wd p)=some .eq:=q_eq hp hp (q_fin h) (q_fin h) rfl
set_option maxRecDepth 100000 in
theorem cmpNaN {p:Int} (hp:rng p) (h:pok p=true) (w:World) :
    Calls Tryz.prog 127 #[.float .f64 (wd p)] w fun r w'=>r=.returned (.bool false)∧w'=w:=by
  have e:=order_self hp h
  go_enter Tryz.func127,Tryz.ntmps127
  go_wp2
  go_ret
  exact ⟨rfl,rfl⟩
set_option maxRecDepth 100000 in
theorem cmpFloat {p:Int} (hp:rng p) (h:pok p=true) (w:World) :
    Calls Tryz.prog 64 #[.float .f64 (wd p),.float .f64 0] w fun r w'=>r=.returned (.int .i64 (sgP p))∧w'=w:=by
  have r0:rng 0:=by unfold rng; decide
  have p0:pok 0=true:=by decide
  have C1:Hid (∀ W,Calls Tryz.prog 127 #[.float .f64 (wd p)] W fun r w'=>r=.returned (.bool false)∧w'=W):=fun W=>cmpNaN hp h W
  have C2:Hid (∀ W,Calls Tryz.prog 127 #[.float .f64 0] W fun r w'=>r=.returned (.bool false)∧w'=W):=fun W=>by
    have:=cmpNaN r0 p0 W
    rw [wd_nil] at this
    exact this
  have k0:key 0=0:=by decide
  have hord:(FloatKind.f64.format.order (wd p) 0=some .lt∧sgP p=-1)∨(FloatKind.f64.format.order (wd p) 0=some .gt∧sgP p=1)∨(FloatKind.f64.format.order (wd p) 0=some .eq∧sgP p=0):=by
    unfold sgP ord
    rcases Int.lt_trichotomy (key p) 0 with g | g | g
    . exact .inl ⟨by have:=q_lt hp r0 (q_fin h) (q_fin p0) (by rw [k0]; exact g); rw [wd_nil] at this; exact this,by first | simp [g] | (rw [if_pos g])⟩
    . exact .inr (.inr ⟨by have:=q_eq hp r0 (q_fin h) (q_fin p0) (by rw [k0]; exact g); rw [wd_nil] at this; exact this,by rw [g]; decide⟩)
    . exact .inr (.inl ⟨by have:=q_gt hp r0 (q_fin h) (q_fin p0) (by rw [k0]; exact g); rw [wd_nil] at this; exact this,by
        have:¬ key p<0:=by omega
        simp [this,g]⟩)
  clear hp h r0 p0 k0
  generalize sgP p=s at *
  generalize wd p=P at *
  rcases hord with ⟨ho,rfl⟩ | ⟨ho,rfl⟩ | ⟨ho,rfl⟩
  all_goals
    go_enter Tryz.func64,Tryz.ntmps64
    go_wp2_with fail
    refine (C1.out _).mono ?_
    rintro _ wz ⟨rfl,hwz⟩
    replace hwz:=hwz.symm
    subst hwz
    go_wp2_with fail
    refine (C2.out _).mono ?_
    rintro _ wz ⟨rfl,hwz⟩
    replace hwz:=hwz.symm
    subst hwz
    go_wp2
    go_ret
    exact ⟨rfl,rfl⟩
def cu (px py:Nat->Int) (p k:Nat):Int:=if k=0 then fsum (px p) (neg (px 3)) else if k=1 then fsum (py p) (neg (py 3)) else 0
def cz (px py:Nat->Int) (p k:Nat):Int:=if k=0 then iV (px p)-iV (px 3) else if k=1 then iV (py p)-iV (py 3) else 0
def c2 (u:Nat->Nat->Int) (p:Nat):Int:=fsum (fprod (u p 0) (u p 0)) (fprod (u p 1) (u p 1))
def ct (u:Nat->Nat->Int) (p:Nat):Int:=fprod (c2 u p) (mn u ((p+1) % 3) ((p+2) % 3))
def cs (u:Nat->Nat->Int) (p:Nat):Int:=fprod (sz u ((p+1) % 3) ((p+2) % 3)) (c2 u p)
def cV (u:Nat->Nat->Int):Nat->Int
  | 0=>0
  | p+1=>fsum (cV u p) (ct u p)
def cS (u:Nat->Nat->Int):Nat->Int
  | 0=>0
  | p+1=>fsum (cS u p) (cs u p)
theorem cu_lg {px py:Nat->Int} (hz:∀ i,i<4->Mz (px i)∧Mz (py i)) {p:Nat} (hp:p<3):Lg (cz px py) (cu px py) p:=by
  obtain ⟨x0,x1⟩:=(hz p (by omega)).1.diff (hz 3 (by decide)).1
  obtain ⟨y0,y1⟩:=(hz p (by omega)).2.diff (hz 3 (by decide)).2
  exact ⟨fun k hk=>match k,hk with
    | 0,_=>x0
    | 1,_=>y0
    | 2,_=>fx_zero,fun k hk=>match k,hk with
    | 0,_=>x1
    | 1,_=>y1
    | 2,_=>by
      show Un 0 (iV 0)
      rw [show iV 0=0 by decide]
      unfold Un
      decide⟩
theorem c2_fx {X u:Nat->Nat->Int} {p:Nat} (h:Lg X u p):Fx 670 1381 (c2 u p):=((sq_fx h 0 (by decide)).1.sum (sq_fx h 1 (by decide)).1 (by decide)).1
theorem ct_fx {X u:Nat->Nat->Int} (h:∀ p,p<3->Lg X u p) {p:Nat} (hp:p<3):Fx 266 1689 (ct u p) :=
  ((c2_fx (h p hp)).prod (mn_dv (h _ (Nat.mod_lt _ (by decide))) (h _ (Nat.mod_lt _ (by decide)))).1 (by decide) (by decide) (by decide)).1
theorem cs_fx {X u:Nat->Nat->Int} (h:∀ p,p<3->Lg X u p) {p:Nat} (hp:p<3):Fx 266 1689 (cs u p) :=
  ((sz_sz (h _ (Nat.mod_lt _ (by decide))) (h _ (Nat.mod_lt _ (by decide)))).1.prod (c2_fx (h p hp)) (by decide) (by decide) (by decide)).1
theorem cV_fx {X u:Nat->Nat->Int} (h:∀ p,p<3->Lg X u p):∀ p,p<=3->Fx 266 (1689+2*p) (cV u p)
  | 0,_=>fx_zero
  | p+1,hp=>(((cV_fx h p (by omega)).sum ((ct_fx h (show p<3 by omega)).up (by omega)) (by omega)).1).up (by omega)
theorem cS_fx {X u:Nat->Nat->Int} (h:∀ p,p<3->Lg X u p):∀ p,p<=3->Fx 266 (1689+2*p) (cS u p)
  | 0,_=>fx_zero
  | p+1,hp=>(((cS_fx h p (by omega)).sum ((cs_fx h (show p<3 by omega)).up (by omega)) (by omega)).1).up (by omega)
theorem cmul_run {a b c d:Nat} {x y:Int} (hx:Fx a b x) (hy:Fx c d y) (hz:pok (fprod x y)=true):∀ W,(binOp .mul 59 (.float .f64 (wd x)) (.float .f64 (wd y))).run Tryz.prog W=.ok (.float .f64 (wd (fprod x y))) W:=fun W=>run_prodN _ (fx_fw hx) (fx_fw hy) (q_fin hz) W
theorem cadd_run {a b c d:Nat} {x y:Int} (hx:Fx a b x) (hy:Fx c d y) (hz:pok (fsum x y)=true):∀ W,(binOp .add 59 (.float .f64 (wd x)) (.float .f64 (wd y))).run Tryz.prog W=.ok (.float .f64 (wd (fsum x y))) W:=fun W=>run_sumN _ (fx_fw hx) (fx_fw hy) (q_fin hz) W
theorem csub_run {a b c d:Nat} {x y:Int} (hx:Fx a b x) (hy:Fx c d y) (hz:pok (fsum x (neg y))=true):∀ W,(binOp .sub 59 (.float .f64 (wd x)) (.float .f64 (wd y))).run Tryz.prog W=.ok (.float .f64 (wd (fsum x (neg y)))) W:=fun W=>run_diffN _ (fx_fw hx) (fx_fw hy) (q_fin hz) W
structure FrC (arr:Array Value) (u:Nat->Nat->Int) (I:Nat):Prop where
  n:arr.size=15
  o:arr.all (·.oneCell')=true
  l:∀ p,p<I->arr[p*5]?=some (.float .f64 (wd (u p 0)))∧arr[p*5+1]?=some (.float .f64 (wd (u p 1)))∧arr[p*5+2]?=some (.float .f64 (wd (c2 u p)))∧arr[p*5+3]?=some (.float .f64 0)∧arr[p*5+4]?=some (.float .f64 0)
theorem FrC.old {arr:Array Value} {u:Nat->Nat->Int} {I:Nat} (h:FrC arr u I) (i:Nat) (hi:i<15):∃ v,arr[i]?=some v:=by
  have:=h.n
  exact ⟨arr[i]'(by omega),by simp⟩
theorem cf_gs (arr:Array Value) (i j:Nat) (v:Value) (h:i<arr.size):(arr.setIfInBounds i v)[j]?=if i=j then some v else arr[j]?:=by
  rw [Array.getElem?_setIfInBounds]
  by_cases e:i=j
  . subst e
    simp [h]
  . simp [e]
theorem cf_all {arr:Array Value} (h:arr.all (·.oneCell')=true) (i:Nat) {v:Value} (hv:v.oneCell'=true):(arr.setIfInBounds i v).all (·.oneCell')=true:=by
  rw [Array.all_eq_true_iff_forall_mem] at h ⊢
  intro x hx
  rcases Array.mem_or_eq_of_mem_setIfInBounds hx with e | e
  . exact h x e
  . rw [e]; exact hv
theorem FrC.step {arr:Array Value} {u:Nat->Nat->Int} {p:Nat} (h:FrC arr u p) (p3:p<3):FrC (((((arr.setIfInBounds (p*5) (.float .f64 (wd (u p 0)))).setIfInBounds (p*5+1) (.float .f64 (wd (u p 1)))).setIfInBounds (p*5+2) (.float .f64 (wd (c2 u p)))).setIfInBounds (p*5+3) (.float .f64 0)).setIfInBounds (p*5+4) (.float .f64 0)) u (p+1):=by
  have hn:=h.n
  have g:∀ j,(((((arr.setIfInBounds (p*5) (.float .f64 (wd (u p 0)))).setIfInBounds (p*5+1) (.float .f64 (wd (u p 1)))).setIfInBounds (p*5+2) (.float .f64 (wd (c2 u p)))).setIfInBounds (p*5+3) (.float .f64 0)).setIfInBounds (p*5+4) (.float .f64 0))[j]?=if p*5+4=j then some (.float .f64 0) else if p*5+3=j then some (.float .f64 0) else if p*5+2=j then some (.float .f64 (wd (c2 u p))) else if p*5+1=j then some (.float .f64 (wd (u p 1))) else if p*5=j then some (.float .f64 (wd (u p 0))) else arr[j]?:=fun j=>by
    rw [cf_gs _ _ _ _ (by simp only [Array.size_setIfInBounds]; omega),cf_gs _ _ _ _ (by simp only [Array.size_setIfInBounds]; omega),cf_gs _ _ _ _ (by simp only [Array.size_setIfInBounds]; omega),cf_gs _ _ _ _ (by simp only [Array.size_setIfInBounds]; omega),cf_gs _ _ _ _ (by omega)]
  refine ⟨by simp only [Array.size_setIfInBounds]; exact hn,cf_all (cf_all (cf_all (cf_all (cf_all h.o _ rfl) _ rfl) _ rfl) _ rfl) _ rfl,fun q hq=>?_⟩
  by_cases e:q=p
  . subst e
    refine ⟨?_,?_,?_,?_,?_⟩
    . rw [g,if_neg (by omega),if_neg (by omega),if_neg (by omega),if_neg (by omega),if_pos rfl]
    . rw [g,if_neg (by omega),if_neg (by omega),if_neg (by omega),if_pos rfl]
    . rw [g,if_neg (by omega),if_neg (by omega),if_pos rfl]
    . rw [g,if_neg (by omega),if_pos rfl]
    . rw [g,if_pos rfl]
  . obtain ⟨h0,h1,h2,h3,h4⟩:=h.l q (by omega)
    refine ⟨?_,?_,?_,?_,?_⟩ <;> rw [g,if_neg (by omega),if_neg (by omega),if_neg (by omega),if_neg (by omega),if_neg (by omega)] <;> assumption
set_option maxRecDepth 100000 in
set_option maxHeartbeats 4000000 in
theorem cframe_any {px py:Nat->Int} (hz:∀ i,i<4->Mz (px i)∧Mz (py i)) (w:World) :
    Calls Tryz.prog 137 #[.agg #[.int .i64 (px 0),.int .i64 (py 0),.int .i64 (px 1),.int .i64 (py 1),.int .i64 (px 2),.int .i64 (py 2),.int .i64 (px 3),.int .i64 (py 3)]] w fun e w'=>∃ arr,e=.returned (.agg arr)∧FrC arr (cu px py) 3∧Below w.heap.size w w':=by
  obtain ⟨hb0,p_k,r_k,f_k,hsz0⟩:=blks3 w (.cells #[.int .i64 (px 0),.int .i64 (py 0),.int .i64 (px 1),.int .i64 (py 1),.int .i64 (px 2),.int .i64 (py 2),.int .i64 (px 3),.int .i64 (py 3)] 52) (.cells #[.float .f64 0,.float .f64 0,.float .f64 0,.float .f64 0,.float .f64 0,.float .f64 0,.float .f64 0,.float .f64 0,.float .f64 0,.float .f64 0,.float .f64 0,.float .f64 0,.float .f64 0,.float .f64 0,.float .f64 0] 167) (.cells #[.float .f64 0,.float .f64 0,.float .f64 0,.float .f64 0,.float .f64 0,.float .f64 0,.float .f64 0,.float .f64 0,.float .f64 0,.float .f64 0,.float .f64 0,.float .f64 0,.float .f64 0,.float .f64 0,.float .f64 0] 167)
  clear hsz0
  go_enter Tryz.func137,Tryz.ntmps137
  go_wp2_with fail
  generalize ((w.alloc (.cells #[.int .i64 (px 0),.int .i64 (py 0),.int .i64 (px 1),.int .i64 (py 1),.int .i64 (px 2),.int .i64 (py 2),.int .i64 (px 3),.int .i64 (py 3)] 52)).alloc (.cells #[.float .f64 0,.float .f64 0,.float .f64 0,.float .f64 0,.float .f64 0,.float .f64 0,.float .f64 0,.float .f64 0,.float .f64 0,.float .f64 0,.float .f64 0,.float .f64 0,.float .f64 0,.float .f64 0,.float .f64 0] 167)).alloc (.cells #[.float .f64 0,.float .f64 0,.float .f64 0,.float .f64 0,.float .f64 0,.float .f64 0,.float .f64 0,.float .f64 0,.float .f64 0,.float .f64 0,.float .f64 0,.float .f64 0,.float .f64 0,.float .f64 0,.float .f64 0] 167)=x0 at hb0 p_k r_k f_k ⊢
  have c6:=blkC p_k 6 rfl
  have c7:=blkC p_k 7 rfl
  have FX:Hid (∀ W,Calls Tryz.prog 58 #[.int .i64 (px 3)] W fun e w'=>e=.returned (.float .f64 (wd (px 3)))∧w'=W):=fun W=>bitsFloat _ W
  have FY:Hid (∀ W,Calls Tryz.prog 58 #[.int .i64 (py 3)] W fun e w'=>e=.returned (.float .f64 (wd (py 3)))∧w'=W):=fun W=>bitsFloat _ W
  go_quiet (first | (go_at_call 58; with_reducible exact Calls.quiet_of_same (FX.out _)) | (go_at_call 58; with_reducible exact Calls.quiet_of_same (FY.out _)))
  go_wp2_with fail
  have hd:=bDrewN (bel_refl x0) nq
  replace p_k:=blk_on hd p_k
  replace r_k:=blk_on hd r_k
  replace f_k:=blk_on hd f_k
  replace hb0:=bel_trans hb0 hd
  clear c6 c7 hd FX FY
  generalize x0.drewN nq=x1 at hb0 p_k r_k f_k ⊢
  have HN:Hid (FrC #[.float .f64 0,.float .f64 0,.float .f64 0,.float .f64 0,.float .f64 0,.float .f64 0,.float .f64 0,.float .f64 0,.float .f64 0,.float .f64 0,.float .f64 0,.float .f64 0,.float .f64 0,.float .f64 0,.float .f64 0] (cu px py) 0):=⟨rfl,by kernel_rfl,fun p hp=>absurd hp (Nat.not_lt_zero _)⟩
  obtain ⟨arr0,ha0⟩:∃ a:Array Value,a=#[.float .f64 0,.float .f64 0,.float .f64 0,.float .f64 0,.float .f64 0,.float .f64 0,.float .f64 0,.float .f64 0,.float .f64 0,.float .f64 0,.float .f64 0,.float .f64 0,.float .f64 0,.float .f64 0,.float .f64 0]:=⟨_,rfl⟩
  rw [<- ha0] at f_k HN
  clear ha0
  go_loopw [17] (fun i wr=>∃ p:Nat,p<=3∧i=.int .i64 p∧∃ arr,Hid (FrC arr (cu px py) p)∧wr.heap[w.heap.size+1+1]?=some (.cells arr 167 (0,0))∧wr.heap[w.heap.size]?=some (.cells #[.int .i64 (px 0),.int .i64 (py 0),.int .i64 (px 1),.int .i64 (py 1),.int .i64 (px 2),.int .i64 (py 2),.int .i64 (px 3),.int .i64 (py 3)] 52 (0,0))∧wr.heap[w.heap.size+1]?=some (.cells #[.float .f64 0,.float .f64 0,.float .f64 0,.float .f64 0,.float .f64 0,.float .f64 0,.float .f64 0,.float .f64 0,.float .f64 0,.float .f64 0,.float .f64 0,.float .f64 0,.float .f64 0,.float .f64 0,.float .f64 0] 167 (0,0))∧Below w.heap.size w wr) (fun i _=>3-(intOf i).toNat)
  case atStart=>exact ⟨0,by omega,rfl,arr0,HN,f_k,p_k,r_k,hb0⟩
  case round=>
    clear f_k p_k r_k hb0 HN
    obtain ⟨p,hp,rfl,arr,HN,f_k,p_k,r_k,hbw⟩:=hrel
    by_cases p3:p<3
    . have p3':(p:Int)<3:=by omega
      have p4':(p:Int)<4:=by omega
      have p0':(0:Int)<=(p:Int):=by omega
      obtain ⟨c0,c1⟩:=cc_pts p_k (show p<4 by omega)
      have FX:Hid (∀ W,Calls Tryz.prog 58 #[.int .i64 (px p)] W fun e w'=>e=.returned (.float .f64 (wd (px p)))∧w'=W):=fun W=>bitsFloat _ W
      have FY:Hid (∀ W,Calls Tryz.prog 58 #[.int .i64 (py p)] W fun e w'=>e=.returned (.float .f64 (wd (py p)))∧w'=W):=fun W=>bitsFloat _ W
      have L:=cu_lg hz p3
      have q0:=L.f 0 (by decide)
      have q1:=L.f 1 (by decide)
      have d0:=csub_run (hz p (by omega)).1.fx (hz 3 (by decide)).1.fx q0.p
      have d1:=csub_run (hz p (by omega)).2.fx (hz 3 (by decide)).2.fx q1.p
      change ∀ W,(binOp .sub 59 (.float .f64 (wd (px p))) (.float .f64 (wd (px 3)))).run Tryz.prog W=.ok (.float .f64 (wd (cu px py p 0))) W at d0
      change ∀ W,(binOp .sub 59 (.float .f64 (wd (py p))) (.float .f64 (wd (py 3)))).run Tryz.prog W=.ok (.float .f64 (wd (cu px py p 1))) W at d1
      have m0:=cmul_run q0 q0 (sq_fx L 0 (by decide)).1.p
      have m1:=cmul_run q1 q1 (sq_fx L 1 (by decide)).1.p
      have a0:=cadd_run (sq_fx L 0 (by decide)).1 (sq_fx L 1 (by decide)).1 (c2_fx L).p
      change ∀ W,(binOp .add 59 (.float .f64 (wd (fprod (cu px py p 0) (cu px py p 0)))) (.float .f64 (wd (fprod (cu px py p 1) (cu px py p 1))))).run Tryz.prog W=.ok (.float .f64 (wd (c2 (cu px py) p))) W at a0
      clear L q0 q1
      go_wp2_with fail
      go_quiet (first | (go_at_call 58; with_reducible exact Calls.quiet_of_same (FX.out _)) | (go_at_call 58; with_reducible exact Calls.quiet_of_same (FY.out _)))
      have hd:=bDrewN (bel_refl wr) nq
      replace p_k:=blk_on hd p_k
      replace r_k:=blk_on hd r_k
      replace f_k:=blk_on hd f_k
      replace hbw:=bel_trans hbw hd
      clear c0 c1 hd FX FY d0 d1
      obtain ⟨v0,hv0⟩:=HN.out.old (p*5) (by omega)
      obtain ⟨v1,hv1⟩:=HN.out.old (p*5+1) (by omega)
      obtain ⟨v2,hv2⟩:=HN.out.old (p*5+2) (by omega)
      obtain ⟨v3,hv3⟩:=HN.out.old (p*5+3) (by omega)
      obtain ⟨v4,hv4⟩:=HN.out.old (p*5+4) (by omega)
      generalize wr.drewN nq=wq at p_k r_k f_k hbw ⊢
      have e0:=blkC f_k _ hv0
      have e1:=blkC f_k _ hv1
      have e2:=blkC f_k _ hv2
      have e3:=blkC f_k _ hv3
      have e4:=blkC f_k _ hv4
      have z0:=blkF f_k (p*5)
      have z1:=blkF f_k (p*5+1)
      have z2:=blkF f_k (p*5+2)
      have z3:=blkF f_k (p*5+3)
      have z4:=blkF f_k (p*5+4)
      have hst:∀ p x m w,(store p (.float .f64 x) m).run Tryz.prog w=stored Tryz.prog w p (.float .f64 x) m:=fun p x m w=>run_store _ w p _ m rfl
      go_wp2_with fail
      have HN':=hideIt (HN.out.step p3)
      have f_k2:=(heap_set (heap_set (heap_set (heap_set (heap_set f_k (p*5) (.float .f64 (wd (cu px py p 0)))) (p*5+1) (.float .f64 (wd (cu px py p 1)))) (p*5+2) (.float .f64 (wd (c2 (cu px py) p)))) (p*5+3) (.float .f64 0)) (p*5+4) (.float .f64 0))
      have p_k2:=(cc_ne (cc_ne (cc_ne (cc_ne (cc_ne p_k (show w.heap.size≠w.heap.size+1+1 by omega) (p*5) (.float .f64 (wd (cu px py p 0)))) (show w.heap.size≠w.heap.size+1+1 by omega) (p*5+1) (.float .f64 (wd (cu px py p 1)))) (show w.heap.size≠w.heap.size+1+1 by omega) (p*5+2) (.float .f64 (wd (c2 (cu px py) p)))) (show w.heap.size≠w.heap.size+1+1 by omega) (p*5+3) (.float .f64 0)) (show w.heap.size≠w.heap.size+1+1 by omega) (p*5+4) (.float .f64 0))
      have r_k2:=(cc_ne (cc_ne (cc_ne (cc_ne (cc_ne r_k (show w.heap.size+1≠w.heap.size+1+1 by omega) (p*5) (.float .f64 (wd (cu px py p 0)))) (show w.heap.size+1≠w.heap.size+1+1 by omega) (p*5+1) (.float .f64 (wd (cu px py p 1)))) (show w.heap.size+1≠w.heap.size+1+1 by omega) (p*5+2) (.float .f64 (wd (c2 (cu px py) p)))) (show w.heap.size+1≠w.heap.size+1+1 by omega) (p*5+3) (.float .f64 0)) (show w.heap.size+1≠w.heap.size+1+1 by omega) (p*5+4) (.float .f64 0))
      have hb2:=(((((hbw.setCell (p:=⟨w.heap.size+1+1,p*5,none⟩) (show w.heap.size<=w.heap.size+1+1 by omega) (.float .f64 (wd (cu px py p 0)))).setCell (p:=⟨w.heap.size+1+1,p*5+1,none⟩) (show w.heap.size<=w.heap.size+1+1 by omega) (.float .f64 (wd (cu px py p 1)))).setCell (p:=⟨w.heap.size+1+1,p*5+2,none⟩) (show w.heap.size<=w.heap.size+1+1 by omega) (.float .f64 (wd (c2 (cu px py) p)))).setCell (p:=⟨w.heap.size+1+1,p*5+3,none⟩) (show w.heap.size<=w.heap.size+1+1 by omega) (.float .f64 0)).setCell (p:=⟨w.heap.size+1+1,p*5+4,none⟩) (show w.heap.size<=w.heap.size+1+1 by omega) (.float .f64 0))
      go_roundw
      case rel=>exact ⟨p+1,by omega,by go_num,_,HN',f_k2,p_k2,r_k2,hb2⟩
      case measure=>simp [intOf]; omega
    . obtain rfl:p=3:=by omega
      have HE:=HN.out
      have hi:(Tryz.prog.info? 167).map (·.size)=some arr.size:=by rw [HE.n]; kernel_rfl
      have h15:(#[.float .f64 0,.float .f64 0,.float .f64 0,.float .f64 0,.float .f64 0,.float .f64 0,.float .f64 0,.float .f64 0,.float .f64 0,.float .f64 0,.float .f64 0,.float .f64 0,.float .f64 0,.float .f64 0,.float .f64 0]:Array Value).size=arr.size:=HE.n.symm
      have ho:arr.all (·.oneCell')=true:=HE.o
      repeat (first | (refine wp_load_row 167 _ rfl (w.heap.size+1+1) rfl _ _ _ _ f_k Tryz.underlying167 rfl hi ?_; dsimp only [Act.put]) | (refine wp_store_row 167 _ _ rfl (w.heap.size+1) arr rfl rfl _ _ r_k hi h15 ho ?_; dsimp only [Act.put]) | go_step)
      have r_k2:=setRow_heap _ _ _ arr _ _ r_k
      exact bodyPost_ret (v:=.agg arr) (results_cell_row Tryz.results137 _ _ (w.heap.size+1) 167 arr (0,0) _ (by simp) r_k2 Tryz.underlying167 rfl hi) rfl ⟨arr,rfl,HE,below_setRow hbw (by omega) _⟩
set_option maxRecDepth 100000 in
set_option maxHeartbeats 1000000 in
theorem caround0 (g:Nat) (w:World) :
    Calls Tryz.prog 194 #[.pointer (some ⟨g,0,none⟩),.int .i64 0] w fun e w'=>e=.returned (.tuple #[.pointer (some ⟨g,0,none⟩),.pointer (some ⟨g,5,none⟩),.pointer (some ⟨g,10,none⟩)])∧Below w.heap.size w w':=by
  go_enter Tryz.func194,Tryz.ntmps194
  go_wp2_with fail
  go_quiet (fail)
  go_wp2
  exact bodyPost_ret (v:=.tuple #[.pointer (some ⟨g,0,none⟩),.pointer (some ⟨g,5,none⟩),.pointer (some ⟨g,10,none⟩)]) (by simp [results,Tryz.results194,go_sem]) rfl ⟨rfl,bDrewN (bel_refl w) _⟩
set_option maxRecDepth 100000 in
set_option maxHeartbeats 1000000 in
theorem caround1 (g:Nat) (w:World) :
    Calls Tryz.prog 194 #[.pointer (some ⟨g,0,none⟩),.int .i64 1] w fun e w'=>e=.returned (.tuple #[.pointer (some ⟨g,5,none⟩),.pointer (some ⟨g,10,none⟩),.pointer (some ⟨g,0,none⟩)])∧Below w.heap.size w w':=by
  go_enter Tryz.func194,Tryz.ntmps194
  go_wp2_with fail
  go_quiet (fail)
  go_wp2
  exact bodyPost_ret (v:=.tuple #[.pointer (some ⟨g,5,none⟩),.pointer (some ⟨g,10,none⟩),.pointer (some ⟨g,0,none⟩)]) (by simp [results,Tryz.results194,go_sem]) rfl ⟨rfl,bDrewN (bel_refl w) _⟩
set_option maxRecDepth 100000 in
set_option maxHeartbeats 1000000 in
theorem caround2 (g:Nat) (w:World) :
    Calls Tryz.prog 194 #[.pointer (some ⟨g,0,none⟩),.int .i64 2] w fun e w'=>e=.returned (.tuple #[.pointer (some ⟨g,10,none⟩),.pointer (some ⟨g,0,none⟩),.pointer (some ⟨g,5,none⟩)])∧Below w.heap.size w w':=by
  go_enter Tryz.func194,Tryz.ntmps194
  go_wp2_with fail
  go_quiet (fail)
  go_wp2
  exact bodyPost_ret (v:=.tuple #[.pointer (some ⟨g,10,none⟩),.pointer (some ⟨g,0,none⟩),.pointer (some ⟨g,5,none⟩)]) (by simp [results,Tryz.results194,go_sem]) rfl ⟨rfl,bDrewN (bel_refl w) _⟩
theorem wd_z:wd 0=0:=by decide
set_option maxRecDepth 100000 in
set_option maxHeartbeats 4000000 in
theorem cfilter_any {X u:Nat->Nat->Int} (h:∀ p,p<3->Lg X u p) {arr:Array Value} (hA:FrC arr u 3) (g:Nat) (w:World) (hg:w.heap[g]?=some (.cells arr 167 (0,0))) :
    Calls Tryz.prog 138 #[.pointer (some ⟨g,0,none⟩)] w fun e w'=>e=.returned (.tuple #[.float .f64 (wd (cV u 3)),.float .f64 (wd (cS u 3))])∧Below w.heap.size w w':=by
  have z0:Value.float .f64 (wd (cV u 0))=.float .f64 0:=by show Value.float .f64 (wd 0)=_; rw [wd_z]
  have z1:Value.float .f64 (wd (cS u 0))=.float .f64 0:=by show Value.float .f64 (wd 0)=_; rw [wd_z]
  obtain ⟨a00,a01,a02,-,-⟩:=hA.l 0 (by decide)
  have l0:=h 0 (by decide)
  obtain ⟨a10,a11,a12,-,-⟩:=hA.l 1 (by decide)
  have l1:=h 1 (by decide)
  obtain ⟨a20,a21,a22,-,-⟩:=hA.l 2 (by decide)
  have l2:=h 2 (by decide)
  have mL0:=cmul_run (l1.f 0 (by decide)) (l2.f 1 (by decide)) (pL_fx l1 l2).1.p
  have mR0:=cmul_run (l2.f 0 (by decide)) (l1.f 1 (by decide)) (pL_fx l2 l1).1.p
  have mD0:=csub_run (pL_fx l1 l2).1 (pL_fx l2 l1).1 (mn_dv l1 l2).1.p
  have mS0:=cadd_run (pL_fx l1 l2).1.abs.1 (pL_fx l2 l1).1.abs.1 (sz_sz l1 l2).1.p
  have mT0:=cmul_run (c2_fx l0) (mn_dv l1 l2).1 (ct_fx h (show 0<3 by decide)).p
  have mU0:=cmul_run (sz_sz l1 l2).1 (c2_fx l0) (cs_fx h (show 0<3 by decide)).p
  have mV0:=cadd_run (cV_fx h 0 (by decide)) (ct_fx h (show 0<3 by decide)) (cV_fx h 1 (by decide)).p
  have mW0:=cadd_run (cS_fx h 0 (by decide)) (cs_fx h (show 0<3 by decide)) (cS_fx h 1 (by decide)).p
  have AL0:Hid (∀ W,Calls Tryz.prog 34 #[.float .f64 (wd (pL u 1 2))] W fun e w'=>e=.returned (.float .f64 (wd (rg (pL u 1 2))))∧w'=W):=fun W=>mathAbs (pL_fx l1 l2).1.r W
  have AR0:Hid (∀ W,Calls Tryz.prog 34 #[.float .f64 (wd (pL u 2 1))] W fun e w'=>e=.returned (.float .f64 (wd (rg (pL u 2 1))))∧w'=W):=fun W=>mathAbs (pL_fx l2 l1).1.r W
  change ∀ W,(binOp .mul 59 (.float .f64 (wd (u 1 0))) (.float .f64 (wd (u 2 1)))).run Tryz.prog W=.ok (.float .f64 (wd (pL u 1 2))) W at mL0
  change ∀ W,(binOp .mul 59 (.float .f64 (wd (u 2 0))) (.float .f64 (wd (u 1 1)))).run Tryz.prog W=.ok (.float .f64 (wd (pL u 2 1))) W at mR0
  change ∀ W,(binOp .sub 59 (.float .f64 (wd (pL u 1 2))) (.float .f64 (wd (pL u 2 1)))).run Tryz.prog W=.ok (.float .f64 (wd (mn u 1 2))) W at mD0
  change ∀ W,(binOp .add 59 (.float .f64 (wd (rg (pL u 1 2)))) (.float .f64 (wd (rg (pL u 2 1))))).run Tryz.prog W=.ok (.float .f64 (wd (sz u 1 2))) W at mS0
  change ∀ W,(binOp .mul 59 (.float .f64 (wd (c2 u 0))) (.float .f64 (wd (mn u 1 2)))).run Tryz.prog W=.ok (.float .f64 (wd (ct u 0))) W at mT0
  change ∀ W,(binOp .mul 59 (.float .f64 (wd (sz u 1 2))) (.float .f64 (wd (c2 u 0)))).run Tryz.prog W=.ok (.float .f64 (wd (cs u 0))) W at mU0
  change ∀ W,(binOp .add 59 (.float .f64 (wd (cV u 0))) (.float .f64 (wd (ct u 0)))).run Tryz.prog W=.ok (.float .f64 (wd (cV u 1))) W at mV0
  change ∀ W,(binOp .add 59 (.float .f64 (wd (cS u 0))) (.float .f64 (wd (cs u 0)))).run Tryz.prog W=.ok (.float .f64 (wd (cS u 1))) W at mW0
  have mL1:=cmul_run (l2.f 0 (by decide)) (l0.f 1 (by decide)) (pL_fx l2 l0).1.p
  have mR1:=cmul_run (l0.f 0 (by decide)) (l2.f 1 (by decide)) (pL_fx l0 l2).1.p
  have mD1:=csub_run (pL_fx l2 l0).1 (pL_fx l0 l2).1 (mn_dv l2 l0).1.p
  have mS1:=cadd_run (pL_fx l2 l0).1.abs.1 (pL_fx l0 l2).1.abs.1 (sz_sz l2 l0).1.p
  have mT1:=cmul_run (c2_fx l1) (mn_dv l2 l0).1 (ct_fx h (show 1<3 by decide)).p
  have mU1:=cmul_run (sz_sz l2 l0).1 (c2_fx l1) (cs_fx h (show 1<3 by decide)).p
  have mV1:=cadd_run (cV_fx h 1 (by decide)) (ct_fx h (show 1<3 by decide)) (cV_fx h 2 (by decide)).p
  have mW1:=cadd_run (cS_fx h 1 (by decide)) (cs_fx h (show 1<3 by decide)) (cS_fx h 2 (by decide)).p
  have AL1:Hid (∀ W,Calls Tryz.prog 34 #[.float .f64 (wd (pL u 2 0))] W fun e w'=>e=.returned (.float .f64 (wd (rg (pL u 2 0))))∧w'=W):=fun W=>mathAbs (pL_fx l2 l0).1.r W
  have AR1:Hid (∀ W,Calls Tryz.prog 34 #[.float .f64 (wd (pL u 0 2))] W fun e w'=>e=.returned (.float .f64 (wd (rg (pL u 0 2))))∧w'=W):=fun W=>mathAbs (pL_fx l0 l2).1.r W
  change ∀ W,(binOp .mul 59 (.float .f64 (wd (u 2 0))) (.float .f64 (wd (u 0 1)))).run Tryz.prog W=.ok (.float .f64 (wd (pL u 2 0))) W at mL1
  change ∀ W,(binOp .mul 59 (.float .f64 (wd (u 0 0))) (.float .f64 (wd (u 2 1)))).run Tryz.prog W=.ok (.float .f64 (wd (pL u 0 2))) W at mR1
  change ∀ W,(binOp .sub 59 (.float .f64 (wd (pL u 2 0))) (.float .f64 (wd (pL u 0 2)))).run Tryz.prog W=.ok (.float .f64 (wd (mn u 2 0))) W at mD1
  change ∀ W,(binOp .add 59 (.float .f64 (wd (rg (pL u 2 0)))) (.float .f64 (wd (rg (pL u 0 2))))).run Tryz.prog W=.ok (.float .f64 (wd (sz u 2 0))) W at mS1
  change ∀ W,(binOp .mul 59 (.float .f64 (wd (c2 u 1))) (.float .f64 (wd (mn u 2 0)))).run Tryz.prog W=.ok (.float .f64 (wd (ct u 1))) W at mT1
  change ∀ W,(binOp .mul 59 (.float .f64 (wd (sz u 2 0))) (.float .f64 (wd (c2 u 1)))).run Tryz.prog W=.ok (.float .f64 (wd (cs u 1))) W at mU1
  change ∀ W,(binOp .add 59 (.float .f64 (wd (cV u 1))) (.float .f64 (wd (ct u 1)))).run Tryz.prog W=.ok (.float .f64 (wd (cV u 2))) W at mV1
  change ∀ W,(binOp .add 59 (.float .f64 (wd (cS u 1))) (.float .f64 (wd (cs u 1)))).run Tryz.prog W=.ok (.float .f64 (wd (cS u 2))) W at mW1
  have mL2:=cmul_run (l0.f 0 (by decide)) (l1.f 1 (by decide)) (pL_fx l0 l1).1.p
  have mR2:=cmul_run (l1.f 0 (by decide)) (l0.f 1 (by decide)) (pL_fx l1 l0).1.p
  have mD2:=csub_run (pL_fx l0 l1).1 (pL_fx l1 l0).1 (mn_dv l0 l1).1.p
  have mS2:=cadd_run (pL_fx l0 l1).1.abs.1 (pL_fx l1 l0).1.abs.1 (sz_sz l0 l1).1.p
  have mT2:=cmul_run (c2_fx l2) (mn_dv l0 l1).1 (ct_fx h (show 2<3 by decide)).p
  have mU2:=cmul_run (sz_sz l0 l1).1 (c2_fx l2) (cs_fx h (show 2<3 by decide)).p
  have mV2:=cadd_run (cV_fx h 2 (by decide)) (ct_fx h (show 2<3 by decide)) (cV_fx h 3 (by decide)).p
  have mW2:=cadd_run (cS_fx h 2 (by decide)) (cs_fx h (show 2<3 by decide)) (cS_fx h 3 (by decide)).p
  have AL2:Hid (∀ W,Calls Tryz.prog 34 #[.float .f64 (wd (pL u 0 1))] W fun e w'=>e=.returned (.float .f64 (wd (rg (pL u 0 1))))∧w'=W):=fun W=>mathAbs (pL_fx l0 l1).1.r W
  have AR2:Hid (∀ W,Calls Tryz.prog 34 #[.float .f64 (wd (pL u 1 0))] W fun e w'=>e=.returned (.float .f64 (wd (rg (pL u 1 0))))∧w'=W):=fun W=>mathAbs (pL_fx l1 l0).1.r W
  change ∀ W,(binOp .mul 59 (.float .f64 (wd (u 0 0))) (.float .f64 (wd (u 1 1)))).run Tryz.prog W=.ok (.float .f64 (wd (pL u 0 1))) W at mL2
  change ∀ W,(binOp .mul 59 (.float .f64 (wd (u 1 0))) (.float .f64 (wd (u 0 1)))).run Tryz.prog W=.ok (.float .f64 (wd (pL u 1 0))) W at mR2
  change ∀ W,(binOp .sub 59 (.float .f64 (wd (pL u 0 1))) (.float .f64 (wd (pL u 1 0)))).run Tryz.prog W=.ok (.float .f64 (wd (mn u 0 1))) W at mD2
  change ∀ W,(binOp .add 59 (.float .f64 (wd (rg (pL u 0 1)))) (.float .f64 (wd (rg (pL u 1 0))))).run Tryz.prog W=.ok (.float .f64 (wd (sz u 0 1))) W at mS2
  change ∀ W,(binOp .mul 59 (.float .f64 (wd (c2 u 2))) (.float .f64 (wd (mn u 0 1)))).run Tryz.prog W=.ok (.float .f64 (wd (ct u 2))) W at mT2
  change ∀ W,(binOp .mul 59 (.float .f64 (wd (sz u 0 1))) (.float .f64 (wd (c2 u 2)))).run Tryz.prog W=.ok (.float .f64 (wd (cs u 2))) W at mU2
  change ∀ W,(binOp .add 59 (.float .f64 (wd (cV u 2))) (.float .f64 (wd (ct u 2)))).run Tryz.prog W=.ok (.float .f64 (wd (cV u 3))) W at mV2
  change ∀ W,(binOp .add 59 (.float .f64 (wd (cS u 2))) (.float .f64 (wd (cs u 2)))).run Tryz.prog W=.ok (.float .f64 (wd (cS u 3))) W at mW2
  clear l0 l1 l2 h hA
  rw [z0] at mV0
  rw [z1] at mW0
  go_enter Tryz.func138,Tryz.ntmps138
  go_wp2_with fail
  go_loopw [10,2,3] (fun i v s wr=>Below w.heap.size w wr∧((i=.int .i64 0∧v=.float .f64 0∧s=.float .f64 0)∨(i=.int .i64 1∧v=.float .f64 (wd (cV u 1))∧s=.float .f64 (wd (cS u 1)))∨(i=.int .i64 2∧v=.float .f64 (wd (cV u 2))∧s=.float .f64 (wd (cS u 2)))∨(i=.int .i64 3∧v=.float .f64 (wd (cV u 3))∧s=.float .f64 (wd (cS u 3))))) (fun i _ _ _=>3-(intOf i).toNat)
  case atStart=>exact ⟨bel_refl w,.inl ⟨rfl,rfl,rfl⟩⟩
  case round=>
    obtain ⟨hbw,hrel⟩:=hrel
    rcases hrel with ⟨rfl,rfl,rfl⟩ | ⟨rfl,rfl,rfl⟩ | ⟨rfl,rfl,rfl⟩ | ⟨rfl,rfl,rfl⟩
    . have CA:Hid (∀ W,Calls Tryz.prog 194 #[.pointer (some ⟨g,0,none⟩),.int .i64 0] W fun e w'=>e=.returned (.tuple #[.pointer (some ⟨g,0,none⟩),.pointer (some ⟨g,5,none⟩),.pointer (some ⟨g,10,none⟩)])∧Below W.heap.size W w'):=fun W=>caround0 g W
      go_wp2_with fail
      refine (CA.out _).mono ?_
      rintro _ y1 ⟨rfl,hw1⟩
      replace hbw:=bel_trans hbw hw1
      have g_k:=blk_on hbw hg
      have g10:=blkC g_k _ a10
      have g11:=blkC g_k _ a11
      have g20:=blkC g_k _ a20
      have g21:=blkC g_k _ a21
      have g02:=blkC g_k _ a02
      go_wp2_with fail
      go_quiet (fail)
      clear g10 g11 g20 g21 g02
      have hd:=bDrewN (bel_refl y1) nq
      replace hbw:=bel_trans hbw hd
      replace g_k:=blk_on hd g_k
      generalize y1.drewN nq=y2 at hbw g_k ⊢
      have g10:=blkC g_k _ a10
      have g11:=blkC g_k _ a11
      have g20:=blkC g_k _ a20
      have g21:=blkC g_k _ a21
      have g02:=blkC g_k _ a02
      go_wp2_with fail
      go_quiet (first | (go_at_call 34; with_reducible exact Calls.quiet_of_same (AL0.out _)) | (go_at_call 34; with_reducible exact Calls.quiet_of_same (AR0.out _)))
      clear g10 g11 g20 g21 g02
      have hd2:=bDrewN (bel_refl y2) nq
      replace hbw:=bel_trans hbw hd2
      generalize y2.drewN nq=y3 at hbw ⊢
      go_wp2_with fail
      go_roundw
      case rel=>exact ⟨hbw,.inr (.inl ⟨by go_num,rfl,rfl⟩)⟩
      case measure=>simp [intOf]
    . have CA:Hid (∀ W,Calls Tryz.prog 194 #[.pointer (some ⟨g,0,none⟩),.int .i64 1] W fun e w'=>e=.returned (.tuple #[.pointer (some ⟨g,5,none⟩),.pointer (some ⟨g,10,none⟩),.pointer (some ⟨g,0,none⟩)])∧Below W.heap.size W w'):=fun W=>caround1 g W
      go_wp2_with fail
      refine (CA.out _).mono ?_
      rintro _ y1 ⟨rfl,hw1⟩
      replace hbw:=bel_trans hbw hw1
      have g_k:=blk_on hbw hg
      have g20:=blkC g_k _ a20
      have g21:=blkC g_k _ a21
      have g00:=blkC g_k _ a00
      have g01:=blkC g_k _ a01
      have g12:=blkC g_k _ a12
      go_wp2_with fail
      go_quiet (fail)
      clear g20 g21 g00 g01 g12
      have hd:=bDrewN (bel_refl y1) nq
      replace hbw:=bel_trans hbw hd
      replace g_k:=blk_on hd g_k
      generalize y1.drewN nq=y2 at hbw g_k ⊢
      have g20:=blkC g_k _ a20
      have g21:=blkC g_k _ a21
      have g00:=blkC g_k _ a00
      have g01:=blkC g_k _ a01
      have g12:=blkC g_k _ a12
      go_wp2_with fail
      go_quiet (first | (go_at_call 34; with_reducible exact Calls.quiet_of_same (AL1.out _)) | (go_at_call 34; with_reducible exact Calls.quiet_of_same (AR1.out _)))
      clear g20 g21 g00 g01 g12
      have hd2:=bDrewN (bel_refl y2) nq
      replace hbw:=bel_trans hbw hd2
      generalize y2.drewN nq=y3 at hbw ⊢
      go_wp2_with fail
      go_roundw
      case rel=>exact ⟨hbw,.inr (.inr (.inl ⟨by go_num,rfl,rfl⟩))⟩
      case measure=>simp [intOf]
    . have CA:Hid (∀ W,Calls Tryz.prog 194 #[.pointer (some ⟨g,0,none⟩),.int .i64 2] W fun e w'=>e=.returned (.tuple #[.pointer (some ⟨g,10,none⟩),.pointer (some ⟨g,0,none⟩),.pointer (some ⟨g,5,none⟩)])∧Below W.heap.size W w'):=fun W=>caround2 g W
      go_wp2_with fail
      refine (CA.out _).mono ?_
      rintro _ y1 ⟨rfl,hw1⟩
      replace hbw:=bel_trans hbw hw1
      have g_k:=blk_on hbw hg
      have g00:=blkC g_k _ a00
      have g01:=blkC g_k _ a01
      have g10:=blkC g_k _ a10
      have g11:=blkC g_k _ a11
      have g22:=blkC g_k _ a22
      go_wp2_with fail
      go_quiet (fail)
      clear g00 g01 g10 g11 g22
      have hd:=bDrewN (bel_refl y1) nq
      replace hbw:=bel_trans hbw hd
      replace g_k:=blk_on hd g_k
      generalize y1.drewN nq=y2 at hbw g_k ⊢
      have g00:=blkC g_k _ a00
      have g01:=blkC g_k _ a01
      have g10:=blkC g_k _ a10
      have g11:=blkC g_k _ a11
      have g22:=blkC g_k _ a22
      go_wp2_with fail
      go_quiet (first | (go_at_call 34; with_reducible exact Calls.quiet_of_same (AL2.out _)) | (go_at_call 34; with_reducible exact Calls.quiet_of_same (AR2.out _)))
      clear g00 g01 g10 g11 g22
      have hd2:=bDrewN (bel_refl y2) nq
      replace hbw:=bel_trans hbw hd2
      generalize y2.drewN nq=y3 at hbw ⊢
      go_wp2_with fail
      go_roundw
      case rel=>exact ⟨hbw,.inr (.inr (.inr (⟨by go_num,rfl,rfl⟩)))⟩
      case measure=>simp [intOf]
    . go_wp2
      exact bodyPost_ret (v:=.tuple #[.float .f64 (wd (cV u 3)),.float .f64 (wd (cS u 3))]) (by simp [results,Tryz.results138,go_sem]) rfl ⟨rfl,hbw⟩
end Go.Proofs.YtjjihmnbdeeedaaGreatDoor
