/- Parts of the proof. -/
import Derived.Test.YtfgapefckpnjjaaGreatDoorPart15
import Derived.Test.YtfgapefckpnjjaaGreatDoorPart14
import Derived.Test.YtfgapefckpnjjaaGreatDoorPart12
import Derived.Deep.RegionHeld3
import Derived.Test.YtfgapefckpnjjaaGreatDoorPart6
import Derived.Test.YtfgapefckpnjjaaGreatDoorPart9
import Derived.Test.YtfgapefckpnjjaaGreatDoorPart13
set_option linter.unusedVariables false
set_option linter.unusedSimpArgs false
namespace Go.Proofs.YtfgapefckpnjjaaGreatDoor
open Go Go.RowKit Go.Proofs.YtfgapefckpnjjaaGreatDoor.M
theorem le_sgF {x y:Int} (h:x <= y):(⟨0,sg false x⟩:En).le ⟨0,sg false y⟩:=.inr ⟨rfl,h⟩
theorem le_sgT {x y:Int} (h:y <= x):(⟨0,sg true x⟩:En).le ⟨0,sg true y⟩:=.inr ⟨rfl,Int.neg_le_neg h⟩
theorem le_up (x:Int):(⟨0,x⟩:En).le ⟨1,0⟩:=.inl (by show (0:Int) < 1; decide)
theorem le_dn (x:Int):(⟨-1,0⟩:En).le ⟨0,x⟩:=.inl (by show (-1:Int) < 0; decide)
theorem of_pat (g:Bool) {r:Nat} (h:(r:Int) < 9218868437227405312):eOf (patS (g && decide (0 < (r:Int))) (r:Int))=⟨0,sg g (vS r)⟩:=by
  obtain ⟨a,b,c⟩:=patS_parts (ng:=g && decide (0 < (r:Int))) (r:=(r:Int)) (by omega) (by omega)
  rw [of_fin (by rw [b]; omega)]
  refine En.eq rfl ?_
  show patV _=sg g (vS r)
  rw [patV_dec a ((pok_rg a).2 (by rw [b]; exact h)),b,c,Int.toNat_natCast]
  by_cases h0:0 < r
  . rw [decide_eq_true (by omega),Bool.and_true]
  . have:r=0:=by omega
    subst this
    rw [vS_zero]
    cases g <;> rfl
theorem of_patI (g:Bool):eOf (patS (g && decide ((0:Int) < 9218868437227405312)) 9218868437227405312)=⟨if g then -1 else 1,0⟩:=by
  cases g
  . rw [of_inf (by decide)]; rfl
  . rw [of_inf (by decide)]; rfl
theorem vS_mono {r s:Nat} (h:r <= s):vS r <= vS s:=by
  rcases Nat.lt_or_eq_of_le h with g | g
  . exact Int.le_of_lt (vS_lt g)
  . rw [g]; exact Int.le_refl _
theorem b_low:bRung 1 false=9218868437227405311∧bRung 1 true=9218868437227405312∧bRung 2 false=9218868437227405312∧bRung 2 true=9218868437227405311:=⟨by decide,by decide,by decide,by decide⟩
theorem rTo_high {ng:Bool} {r0:Nat} {left:Int} (way:Int) (h:¬ (r0:Int) < 9218868437227405312):rTo way ng r0 left=bRung way ng:=by
  unfold rTo; rw [if_neg h]
theorem low_end {g:Bool} {A:Int} {r0:Nat} {left:Int} (hR:Rung A r0 left) :
    (eOf (patS (g && decide (0 < rTo 1 g r0 left)) (rTo 1 g r0 left))).le ⟨0,sg g A⟩∧(⟨0,sg g A⟩:En).le (eOf (patS (g && decide (0 < rTo 2 g r0 left)) (rTo 2 g r0 left))):=by
  obtain ⟨h1,h2,h3⟩:=And.intro hR.lo (And.intro hR.hi hR.l0)
  obtain ⟨b1,b2,b3,b4⟩:=b_low
  by_cases hr:(r0:Int) < 9218868437227405312
  . obtain ⟨u1,u2,u3,u4,u5⟩:=rUp_dn (decide (r0 % 2=1)) left
    rw [rTo_low 1 hr,rTo_low 2 hr]
    by_cases hl:left=0
    . have hA:=h3.1 hl
      rw [u5 1 g hl,u5 2 g hl,hA]
      simp only [Bool.false_eq_true,if_false,Int.add_zero]
      rw [of_pat g hr]
      exact ⟨En.le_refl _,En.le_refl _⟩
    . have hup:∀ s:Bool,(eOf (patS (s && decide (0 < (r0:Int) + 1)) ((r0:Int) + 1)))=if (r0:Int) + 1 < 9218868437227405312 then ⟨0,sg s (vS (r0 + 1))⟩ else ⟨if s then -1 else 1,0⟩:=fun s=>by
        by_cases q:(r0:Int) + 1 < 9218868437227405312
        . rw [if_pos q]
          have:=of_pat s (r:=r0 + 1) (by omega)
          rw [Int.natCast_add] at this
          exact this
        . rw [if_neg q]
          have e:(r0:Int) + 1=9218868437227405312:=by omega
          rw [e]
          exact of_patI s
      cases g
      . rw [u1,u4 hl]
        simp only [Bool.false_eq_true,if_false,if_true,Int.add_zero]
        rw [of_pat false hr,hup false]
        refine ⟨le_sgF h1,?_⟩
        split
        . exact le_sgF (Int.le_of_lt h2)
        . exact le_up _
      . rw [u2 hl,u3]
        simp only [Bool.false_eq_true,if_false,if_true,Int.add_zero]
        rw [of_pat true hr,hup true]
        refine ⟨?_,le_sgT h1⟩
        split
        . exact le_sgT (Int.le_of_lt h2)
        . exact le_dn _
  . rw [rTo_high 1 hr,rTo_high 2 hr]
    have hm:=of_pat g (r:=9218868437227405311) (by decide)
    have hv:vS 9218868437227405311 <= A:=Int.le_trans (vS_mono (by omega)) h1
    have hm':eOf (patS (g && decide ((0:Int) < 9218868437227405311)) 9218868437227405311)=⟨0,sg g (vS 9218868437227405311)⟩:=hm
    clear hm
    generalize vS 9218868437227405311=X at hm' hv
    cases g
    . rw [b1,b3,hm',of_patI false]
      exact ⟨le_sgF hv,le_up _⟩
    . rw [b2,b4,hm',of_patI true]
      exact ⟨le_dn _,le_sgT hv⟩
theorem of_zero:eOf 0=⟨0,0⟩:=by rw [of_fin (by decide),patV_zeroE.1]
theorem c_btw (V:Int):(eOf (cLo V)).le ⟨0,V⟩∧(⟨0,V⟩:En).le (eOf (cHi V)):=by
  by_cases h0:V=0
  . subst h0
    rw [c_zero.1,c_zero.2,of_zero]
    exact ⟨En.le_refl _,En.le_refl _⟩
  . obtain ⟨g,A,r0,left,e,hA,hR,c1,c2⟩:=c_rung h0
    rw [c1,c2,e]
    exact low_end hR
theorem le_of {p q:Int} (hp:nn p) (hq:nn q) (h:(eOf p).le (eOf q)):key p <= key q:=by
  have:=(e_mono h).1
  rw [(e_of hp).1,(e_of hq).1,(key_canon hp).1,(key_canon hq).1] at this
  exact this
theorem c_le (V:Int):key (cLo V) <= key (cHi V):=le_of (c_nn V).1 (c_nn V).2 ((c_btw V).1.le_trans (c_btw V).2)
theorem e_le (a:En):key (eLo a) <= key (eHi a):=by
  unfold eLo eHi
  split
  . exact Int.le_refl _
  . split
    . exact Int.le_refl _
    . exact c_le _
theorem c_fin (V:Int):key (cLo V) < 9218868437227405312∧-9218868437227405312 < key (cHi V):=by
  obtain ⟨h1,h2⟩:=c_btw V
  have n1:=(c_nn V).1
  have n2:=(c_nn V).2
  have i1:=of_le nn_inf.1 n1
  have i2:=of_le n2 nn_inf.2
  rw [key_infs.1] at i1
  rw [key_infs.2] at i2
  rw [of_inf (show rg 9218868437227405312=9218868437227405312 by decide)] at i1
  rw [of_inf (show rg (-4503599627370496)=9218868437227405312 by decide)] at i2
  constructor
  . refine Int.lt_of_not_ge fun q=>?_
    have:=(i1 q).le_trans h1
    unfold En.le at this
    simp at this
  . refine Int.lt_of_not_ge fun q=>?_
    have:=h2.le_trans (i2 q)
    unfold En.le at this
    simp at this
theorem e_vld {e f:En} (h:e.le f) (h1:e.i <= 0) (h2:0 <= f.i):vld (eLo e) (eHi f)=true:=by
  have n1:=(e_nn e).1
  have n2:=(e_nn f).2
  refine vld_iff.2 ⟨n1.2,n2.2,Int.le_trans (e_mono h).1 (e_le f),?_,?_⟩
  . unfold eLo
    rw [if_neg (by omega)]
    split
    . decide
    . exact (c_fin _).1
  . unfold eHi
    split
    . decide
    . rw [if_neg (by omega)]
      exact (c_fin _).2
structure Holds (e f:En) (V:Int):Prop where
  lo:e.le ⟨0,V⟩
  hi:(⟨0,V⟩:En).le f
theorem Holds.vld {e f:En} {V:Int} (h:Holds e f V):vld (eLo e) (eHi f)=true:=by
  refine e_vld (h.lo.le_trans h.hi) ?_ ?_
  . have:=h.lo; unfold En.le at this; simp at this; omega
  . have:=h.hi; unfold En.le at this; simp at this; omega
theorem plus_fin {a c:En} (ha:a.i=0) (hc:c.i=0):ePlus a c=⟨0,a.v + c.v⟩:=by
  unfold ePlus; rw [if_neg (fun k=>k ha),if_neg (fun k=>k hc)]
theorem plus_l {a c:En} (ha:a.i ≠ 0):ePlus a c=a:=if_pos ha
theorem plus_r {a c:En} (ha:a.i=0) (hc:c.i ≠ 0):ePlus a c=c:=by
  unfold ePlus; rw [if_neg (fun k=>k ha),if_pos hc]
theorem Holds.plus {a b c d:En} {x y:Int} (h:Holds a b x) (k:Holds c d y):Holds (ePlus a c) (ePlus b d) (x + y):=by
  have h1:=h.lo
  have h2:=h.hi
  have k1:=k.lo
  have k2:=k.hi
  unfold En.le at h1 h2 k1 k2
  simp only at h1 h2 k1 k2
  constructor
  . by_cases ia:a.i=0
    . by_cases ic:c.i=0
      . rw [plus_fin ia ic]; exact .inr ⟨rfl,by show a.v + c.v <= x + y; omega⟩
      . rw [plus_r ia ic]; exact .inl (by show c.i < 0; omega)
    . rw [plus_l ia]; exact .inl (by show a.i < 0; omega)
  . by_cases ib:b.i=0
    . by_cases id:d.i=0
      . rw [plus_fin ib id]; exact .inr ⟨rfl,by show x + y <= b.v + d.v; omega⟩
      . rw [plus_r ib id]; exact .inl (by show 0 < d.i; omega)
    . rw [plus_l ib]; exact .inl (by show 0 < b.i; omega)
theorem Holds.neg {a b:En} {x:Int} (h:Holds a b x):Holds (eNeg b) (eNeg a) (-x):=by
  have h1:=h.lo
  have h2:=h.hi
  unfold En.le at h1 h2
  simp only at h1 h2
  constructor
  . unfold eNeg En.le; simp only; omega
  . unfold eNeg En.le; simp only; omega
theorem Holds.times {a b c d:En} {x y:Int} (ha:a.ok) (hb:b.ok) (hc:c.ok) (hd:d.ok) (h:Holds a b x) (k:Holds c d y):Holds (eTmLo a b c d) (eTmHi a b c d) (mulS x y):=by
  have:=tm_btw ha hb hc hd (.inl rfl) (.inl rfl) h.lo h.hi k.lo k.hi
  rw [times_fin rfl rfl] at this
  exact ⟨this.1,this.2⟩
theorem Holds.square {a b:En} {x:Int} (ha:a.ok) (hb:b.ok) (h:Holds a b x):Holds (eSqLo a b) (eSqHi a b) (mulS x x):=by
  have:=sq_btw ha hb (.inl rfl) h.lo h.hi
  rw [times_fin rfl rfl] at this
  exact ⟨this.1,this.2⟩
theorem Holds.of {lo hi b:Int} (hl:nn lo) (hh:nn hi) (hb:nn b) (pb:pok b=true) (h:key lo <= key b) (k:key b <= key hi):Holds (eOf lo) (eOf hi) (patV b):=by
  have hf:¬ rg b=9218868437227405312:=by have:=(pok_rg hb.1).1 pb; omega
  have h1:=of_le hl hb h
  have h2:=of_le hb hh k
  rw [of_fin hf] at h1 h2
  exact ⟨h1,h2⟩
theorem Holds.vldP {lo hi:Int} {V:Int} (hl:nn lo) (hh:nn hi) (h:Holds (eOf lo) (eOf hi) V):M.vld lo hi=true:=by
  have hv:=h.vld
  rw [(e_of hl).1,(e_of hh).2] at hv
  obtain ⟨v1,v2,v3,v4,v5⟩:=vld_iff.1 hv
  rw [(key_canon hl).1] at v3 v4
  rw [(key_canon hh).1] at v3 v5
  exact vld_iff.2 ⟨hl.2,hh.2,v3,v4,v5⟩
theorem of_canon {p:Int} (h:nn p):eOf (canon p)=eOf p:=by
  by_cases h0:cls p=0
  . have hz:=(cls_rg h.1).2.1 h0
    have hc:canon p=0:=by unfold canon; rw [if_neg h.2,if_pos h0]
    rw [hc,of_zero,of_fin (by omega)]
    rcases rg_zero h.1 hz with rfl | rfl
    . rw [patV_zeroE.1]
    . rw [patV_zeroE.2]
  . have hc:canon p=p:=by unfold canon; rw [if_neg h.2,if_neg h0]
    rw [hc]
theorem abs1 (W:World):Calls Tryz.prog 78 #[.float .f64 4607182418800017408] W fun e w'=>e=.returned (.float .f64 4607182418800017408)∧w'=W:=by
  have:=mathAbs (b:=4607182418800017408) (by unfold rng; omega) W
  rw [show wd 4607182418800017408=4607182418800017408 by decide,show rg 4607182418800017408=4607182418800017408 by decide,show wd 4607182418800017408=4607182418800017408 by decide] at this
  exact this
theorem abs2 (W:World):Calls Tryz.prog 78 #[.float .f64 4611686018427387904] W fun e w'=>e=.returned (.float .f64 4611686018427387904)∧w'=W:=by
  have:=mathAbs (b:=4611686018427387904) (by unfold rng; omega) W
  rw [show wd 4611686018427387904=4611686018427387904 by decide,show rg 4611686018427387904=4611686018427387904 by decide,show wd 4611686018427387904=4611686018427387904 by decide] at this
  exact this
set_option maxRecDepth 100000 in
theorem sum11 (w:World) :
    Calls Tryz.prog 59 #[.float .f64 4607182418800017408,.float .f64 4607182418800017408] w fun e w'=>e=.returned (.agg #[.float .f64 4611686018427387904,.float .f64 4611686018427387904])∧w'=(w.alloc (.cells #[.float .f64 4611686018427387904,.float .f64 4611686018427387904] 64)).alloc (.cells #[.float .f64 4611686018427387904,.float .f64 4611686018427387904] 64):=by
  have hst:∀ (p:Addr) (n:Nat) (m:Mode) (w:World),(store p (.float .f64 n) m).run Tryz.prog w=stored Tryz.prog w p (.float .f64 n) m:=fun p n m w=>run_store _ w p _ m rfl
  have o:FloatKind.f64.format.order 4607182418800017408 4607182418800017408=some .eq:=by decide +kernel
  have h1:∀ w:World,(binOp .add 62 (.float .f64 4607182418800017408) (.float .f64 4607182418800017408)).run Tryz.prog w=.ok (.float .f64 4611686018427387904) w:=fun w=>by kernel_rfl
  have h2:∀ w:World,(binOp .sub 62 (.float .f64 4611686018427387904) (.float .f64 4607182418800017408)).run Tryz.prog w=.ok (.float .f64 4607182418800017408) w:=fun w=>by kernel_rfl
  have h3:∀ w:World,(binOp .sub 62 (.float .f64 4607182418800017408) (.float .f64 4607182418800017408)).run Tryz.prog w=.ok (.float .f64 0) w:=fun w=>by kernel_rfl
  have hg:=hl_last (w.alloc (.cells #[.float .f64 4611686018427387904,.float .f64 4611686018427387904] 64)) (.cells #[.float .f64 4611686018427387904,.float .f64 4611686018427387904] 64) rfl
  have hg0:((w.alloc (.cells #[.float .f64 4611686018427387904,.float .f64 4611686018427387904] 64)).alloc (.cells #[.float .f64 4611686018427387904,.float .f64 4611686018427387904] 64)).heap[w.heap.size]?=some (.cells #[.float .f64 4611686018427387904,.float .f64 4611686018427387904] 64 (0,0)):=heap_a2 w _ _
  have e0:=blkC hg0 0 rfl
  have e1:=blkC hg0 1 rfl
  go_enter Tryz.func59,Tryz.ntmps59
  go_wp2_with (first | (go_at_call 78; refine (abs1 _).mono ?_; rintro _ _ ⟨rfl,rfl⟩)  | (go_at_call 79; refine (besideZ _ _).mono ?_; rintro _ _ ⟨rfl,rfl⟩))
  refine bodyPost_ret (v:=.agg #[.float .f64 4611686018427387904,.float .f64 4611686018427387904]) (by simp [results,Tryz.results59,go_sem,e0,e1]) rfl ⟨rfl,rfl⟩
set_option maxRecDepth 100000 in
theorem sum12 (w:World) :
    Calls Tryz.prog 59 #[.float .f64 4607182418800017408,.float .f64 4611686018427387904] w fun e w'=>e=.returned (.agg #[.float .f64 4613937818241073152,.float .f64 4613937818241073152])∧w'=(w.alloc (.cells #[.float .f64 4613937818241073152,.float .f64 4613937818241073152] 64)).alloc (.cells #[.float .f64 4613937818241073152,.float .f64 4613937818241073152] 64):=by
  have hst:∀ (p:Addr) (n:Nat) (m:Mode) (w:World),(store p (.float .f64 n) m).run Tryz.prog w=stored Tryz.prog w p (.float .f64 n) m:=fun p n m w=>run_store _ w p _ m rfl
  have o:FloatKind.f64.format.order 4607182418800017408 4611686018427387904=some .lt:=by decide +kernel
  have h1:∀ w:World,(binOp .add 62 (.float .f64 4611686018427387904) (.float .f64 4607182418800017408)).run Tryz.prog w=.ok (.float .f64 4613937818241073152) w:=fun w=>by kernel_rfl
  have h2:∀ w:World,(binOp .sub 62 (.float .f64 4613937818241073152) (.float .f64 4611686018427387904)).run Tryz.prog w=.ok (.float .f64 4607182418800017408) w:=fun w=>by kernel_rfl
  have h3:∀ w:World,(binOp .sub 62 (.float .f64 4607182418800017408) (.float .f64 4607182418800017408)).run Tryz.prog w=.ok (.float .f64 0) w:=fun w=>by kernel_rfl
  have hg:=hl_last (w.alloc (.cells #[.float .f64 4613937818241073152,.float .f64 4613937818241073152] 64)) (.cells #[.float .f64 4613937818241073152,.float .f64 4613937818241073152] 64) rfl
  have hg0:((w.alloc (.cells #[.float .f64 4613937818241073152,.float .f64 4613937818241073152] 64)).alloc (.cells #[.float .f64 4613937818241073152,.float .f64 4613937818241073152] 64)).heap[w.heap.size]?=some (.cells #[.float .f64 4613937818241073152,.float .f64 4613937818241073152] 64 (0,0)):=heap_a2 w _ _
  have e0:=blkC hg0 0 rfl
  have e1:=blkC hg0 1 rfl
  go_enter Tryz.func59,Tryz.ntmps59
  go_wp2_with (first | (go_at_call 78; refine (abs1 _).mono ?_; rintro _ _ ⟨rfl,rfl⟩) | (go_at_call 78; refine (abs2 _).mono ?_; rintro _ _ ⟨rfl,rfl⟩)  | (go_at_call 79; refine (besideZ _ _).mono ?_; rintro _ _ ⟨rfl,rfl⟩))
  refine bodyPost_ret (v:=.agg #[.float .f64 4613937818241073152,.float .f64 4613937818241073152]) (by simp [results,Tryz.results59,go_sem,e0,e1]) rfl ⟨rfl,rfl⟩
set_option maxRecDepth 100000 in
set_option maxHeartbeats 1000000 in
theorem plusC (w:World) :
    Calls Tryz.prog 37 #[.agg #[.float .f64 4607182418800017408,.float .f64 4607182418800017408],.agg #[.float .f64 4607182418800017408,.float .f64 4611686018427387904]] w fun e w'=>e=.returned (.agg #[.float .f64 4611686018427387904,.float .f64 4613937818241073152])∧Below w.heap.size w w':=by
  have hst:∀ (p:Addr) (n:Nat) (m:Mode) (w:World),(store p (.float .f64 n) m).run Tryz.prog w=stored Tryz.prog w p (.float .f64 n) m:=fun p n m w=>run_store _ w p _ m rfl
  obtain ⟨q0,q1,q2,hs,hb3⟩:=heap3 w (.cells #[.float .f64 4607182418800017408,.float .f64 4607182418800017408] 64) (.cells #[.float .f64 4607182418800017408,.float .f64 4611686018427387904] 64) (.cells #[.float .f64 0,.float .f64 0] 64)
  have k0:=blkC q0 0 rfl
  have k1:=blkC q0 1 rfl
  have k2:=blkC q1 0 rfl
  have k3:=blkC q1 1 rfl
  have S1:Hid (∀ W,Calls Tryz.prog 59 #[.float .f64 4607182418800017408,.float .f64 4607182418800017408] W fun e w'=>e=.returned (.agg #[.float .f64 4611686018427387904,.float .f64 4611686018427387904])∧Below W.heap.size W w'):=fun W=>(sum11 W).mono fun _ _ ⟨h1,h2⟩=>⟨h1,by rw [h2]; exact bel_alloc2 W _ _⟩
  have S2:Hid (∀ W,Calls Tryz.prog 59 #[.float .f64 4607182418800017408,.float .f64 4611686018427387904] W fun e w'=>e=.returned (.agg #[.float .f64 4613937818241073152,.float .f64 4613937818241073152])∧Below W.heap.size W w'):=fun W=>(sum12 W).mono fun _ _ ⟨h1,h2⟩=>⟨h1,by rw [h2]; exact bel_alloc2 W _ _⟩
  go_enter Tryz.func37,Tryz.ntmps37
  go_wp2_with fail
  generalize ((w.alloc (.cells #[.float .f64 4607182418800017408,.float .f64 4607182418800017408] 64)).alloc (.cells #[.float .f64 4607182418800017408,.float .f64 4611686018427387904] 64)).alloc (.cells #[.float .f64 0,.float .f64 0] 64)=wx at *
  obtain ⟨g,hg⟩:∃ g,w.heap.size + 1 + 1=g:=⟨_,rfl⟩
  have hwg:w.heap.size + 2 <= g:=by omega
  replace q2:wx.drew.heap[g]?=some (.cells #[.float .f64 0,.float .f64 0] 64 (0,0)):=by rw [<- hg]; exact q2
  simp only [hg]
  clear hg hst
  have hc:(w.heap.size < w.heap.size + 2∧w.heap.size + 1 < w.heap.size + 2∧w.heap.size + 2 <= wx.drew.heap.size)∧wx.drew.cell? ⟨w.heap.size,0,none⟩=some (.float .f64 4607182418800017408)∧wx.drew.cell? ⟨w.heap.size,1,none⟩=some (.float .f64 4607182418800017408)∧wx.drew.cell? ⟨w.heap.size + 1,0,none⟩=some (.float .f64 4607182418800017408)∧wx.drew.cell? ⟨w.heap.size + 1,1,none⟩=some (.float .f64 4611686018427387904):=⟨⟨by omega,by omega,by show _ <= wx.heap.size; omega⟩,k0,k1,k2,k3⟩
  have hbd:=hb3.drew
  have fl0:∀ w:World,(Instr.field 64 (.agg #[.float .f64 4611686018427387904,.float .f64 4611686018427387904]) 0).run Tryz.prog w=.ok (.float .f64 4611686018427387904) w:=fun w=>by kernel_rfl
  have fl1:∀ w:World,(Instr.field 64 (.agg #[.float .f64 4613937818241073152,.float .f64 4613937818241073152]) 1).run Tryz.prog w=.ok (.float .f64 4613937818241073152) w:=fun w=>by kernel_rfl
  clear q0 q1 k0 k1 k2 k3
  go_region_held3 (fun W=>(w.heap.size < w.heap.size + 2∧w.heap.size + 1 < w.heap.size + 2∧w.heap.size + 2 <= W.heap.size)∧W.cell? ⟨w.heap.size,0,none⟩=some (.float .f64 4607182418800017408)∧W.cell? ⟨w.heap.size,1,none⟩=some (.float .f64 4607182418800017408)∧W.cell? ⟨w.heap.size + 1,0,none⟩=some (.float .f64 4607182418800017408)∧W.cell? ⟨w.heap.size + 1,1,none⟩=some (.float .f64 4611686018427387904))
    (first | assumption | (repeat (first | exact hc | exact hc1 | exact hc2 | refine s4_drew ?_ | refine s4_set (by omega) ?_)))
    (first
      | (go_at_call 59; have _t:=hb4; refine (S2.out _).mono ?_; rintro _ w2 ⟨rfl,hb5⟩; have hc2:=s4_keep hc1 hb5; have d2:=((bel_trans hb4 hb5).block _ (Array.getElem?_eq_some_iff.1 q2).1).trans q2; have d3:=q_heap_set d2 0 (.float .f64 4611686018427387904); have d4:=q_heap_set d3 1 (.float .f64 4613937818241073152); have f0:=blkC d2 0 rfl; have z0:=blkF d2 0; have f1:=blkC d3 1 rfl; have z1:=blkF d3 1; have s0:(store ⟨g,0,none⟩ (.float .f64 4611686018427387904)).run Tryz.prog w2=.ok () (w2.setCell ⟨g,0,none⟩ (.float .f64 4611686018427387904)):=(by rw [run_store _ _ _ _ _ rfl,f0]; simp only [z0]; rfl); have s1:(store ⟨g,1,none⟩ (.float .f64 4613937818241073152)).run Tryz.prog (w2.setCell ⟨g,0,none⟩ (.float .f64 4611686018427387904))=.ok () ((w2.setCell ⟨g,0,none⟩ (.float .f64 4611686018427387904)).setCell ⟨g,1,none⟩ (.float .f64 4613937818241073152)):=(by rw [run_store _ _ _ _ _ rfl,f1]; simp only [z1]; rfl))
      | (go_at_call 59; refine (S1.out _).mono ?_; rintro _ w1 ⟨rfl,hb4⟩; have hc1:=s4_keep hc hb4))
  have e0:=blkC d4 0 rfl
  have e1:=blkC d4 1 rfl
  have hbe:=((bel_trans hbd (bel_trans hb4 hb5)).setCell (p:=⟨g,0,none⟩) (show w.heap.size <= g by omega) (.float .f64 4611686018427387904)).setCell (p:=⟨g,1,none⟩) (show w.heap.size <= g by omega) (.float .f64 4613937818241073152)
  clear d2 d3 d4 f0 f1 z0 z1 s0 s1 hc hc1 hc2
  generalize (w2.setCell ⟨g,0,none⟩ (.float .f64 4611686018427387904)).setCell ⟨g,1,none⟩ (.float .f64 4613937818241073152)=wy at *
  go_wp2
  refine bodyPost_ret (v:=.agg #[.float .f64 4611686018427387904,.float .f64 4613937818241073152]) (by simp [results,Tryz.results37,go_sem,e0,e1]) rfl ⟨rfl,hbe⟩
set_option maxRecDepth 100000 in
theorem addC (w:World) (L:Lays w) :
    Calls Tryz.prog 9 #[.agg #[.int .i64 4607182418800017408,.int .i64 4607182418800017408],.agg #[.int .i64 4607182418800017408,.int .i64 4611686018427387904]] w fun e w'=>e=.returned (.tuple #[.agg #[.int .i64 4611686018427387904,.int .i64 4613937818241073152],.int .i64 0])∧Below w.heap.size w w':=by
  have w1:wd 4607182418800017408=4607182418800017408:=by decide
  have w2:wd 4611686018427387904=4611686018427387904:=by decide
  have w3:wd 4613937818241073152=4613937818241073152:=by decide
  have r1:rng 4607182418800017408:=by unfold rng; omega
  have r2:rng 4611686018427387904:=by unfold rng; omega
  have r3:rng 4613937818241073152:=by unfold rng; omega
  have hE:∀ (cap:Array Value) (w:World),(callFunc 37 cap).run Tryz.prog w=.ok (.enter 37 cap) w:=by
    intro cap w
    simp [go_sem]
  have CJ:Hid (∀ W,Lays W->Calls Tryz.prog 36 #[.agg #[.int .i64 4607182418800017408,.int .i64 4607182418800017408],.agg #[.int .i64 4607182418800017408,.int .i64 4611686018427387904],.func (.func 37) #[] #[]] W fun e w'=>e=.returned (.tuple #[.agg #[.int .i64 4611686018427387904,.int .i64 4613937818241073152],.int .i64 0])∧Below W.heap.size W w'):=fun W LW=>by
    have:=ofTwo_any (x:=4611686018427387904) (y:=4613937818241073152) _ r1 r1 r1 r2 W LW hE (fun _ _=>⟨⟨r2,by decide⟩,⟨r3,by decide⟩,fun W' _=>by
      unfold ivl
      rw [w1,w2,w3]
      exact plusC W'⟩)
    rw [show vld 4607182418800017408 4607182418800017408=true by decide,show vld 4607182418800017408 4611686018427387904=true by decide,show canon 4611686018427387904=4611686018427387904 by decide,show canon 4613937818241073152=4613937818241073152 by decide] at this
    exact this
  obtain ⟨q0,q1,q2,hs,hb3⟩:=heap3 w (.cells #[.int .i64 4607182418800017408,.int .i64 4607182418800017408] 23) (.cells #[.int .i64 4607182418800017408,.int .i64 4611686018427387904] 23) (.cells #[.int .i64 0,.int .i64 0] 23)
  have L2:=L.below' hb3
  clear w1 w2 w3 r1 r2 r3
  go_enter Tryz.func9,Tryz.ntmps9
  go_wp2_with fail
  generalize ((w.alloc (.cells #[.int .i64 4607182418800017408,.int .i64 4607182418800017408] 23)).alloc (.cells #[.int .i64 4607182418800017408,.int .i64 4611686018427387904] 23)).alloc (.cells #[.int .i64 0,.int .i64 0] 23)=wx at *
  refine (CJ.out _ L2).mono ?_
  rintro _ w1 ⟨rfl,hb4⟩
  have d2:=(hb4.block _ (Array.getElem?_eq_some_iff.1 q2).1).trans q2
  have d3:=q_heap_set d2 0 (.int .i64 4611686018427387904)
  have d4:=q_heap_set d3 1 (.int .i64 4613937818241073152)
  have f0:=blkC d2 0 rfl
  have z0:=blkF d2 0
  have f1:=blkC d3 1 rfl
  have z1:=blkF d3 1
  have e0:=blkC d4 0 rfl
  have e1:=blkC d4 1 rfl
  have hbe:=((bel_trans hb3 hb4).setCell (p:=⟨w.heap.size + 1 + 1,0,none⟩) (show w.heap.size <= w.heap.size + 1 + 1 by omega) (.int .i64 4611686018427387904)).setCell (p:=⟨w.heap.size + 1 + 1,1,none⟩) (show w.heap.size <= w.heap.size + 1 + 1 by omega) (.int .i64 4613937818241073152)
  clear d2 d3 d4 q0 q1 q2
  go_wp2
  refine bodyPost_ret (v:=.tuple #[.agg #[.int .i64 4611686018427387904,.int .i64 4613937818241073152],.int .i64 0]) (by simp [results,Tryz.results9,go_sem,e0,e1]) rfl ⟨rfl,hbe⟩
set_option maxRecDepth 100000 in
theorem signC (w:World) :
    Calls Tryz.prog 10 #[.agg #[.int .i64 4611686018427387904,.int .i64 4613937818241073152]] w fun e w'=>e=.returned (.tuple #[.int .i64 1,.bool true,.int .i64 0])∧Below w.heap.size w w':=by
  have hst:∀ (p:Addr) (n:Nat) (m:Mode) (w:World),(store p (.float .f64 n) m).run Tryz.prog w=stored Tryz.prog w p (.float .f64 n) m:=fun p n m w=>run_store _ w p _ m rfl
  have w2:wd 4611686018427387904=4611686018427387904:=by decide
  have w3:wd 4613937818241073152=4613937818241073152:=by decide
  have r2:rng 4611686018427387904:=by unfold rng; omega
  have r3:rng 4613937818241073152:=by unfold rng; omega
  have o:FloatKind.f64.format.order 4611686018427387904 0=some .gt:=by decide +kernel
  have R1:Hid (∀ W,Calls Tryz.prog 38 #[.agg #[.int .i64 4611686018427387904,.int .i64 4613937818241073152]] W fun e w'=>e=.returned (.agg #[.float .f64 4611686018427387904,.float .f64 4613937818241073152])∧Below W.heap.size W w'):=fun W=>by
    have:=spanRead 4611686018427387904 4613937818241073152 W
    unfold spn ivl at this
    rw [w2,w3] at this
    exact this
  have V1:Hid (∀ W,Calls Tryz.prog 39 #[.agg #[.float .f64 4611686018427387904,.float .f64 4613937818241073152]] W fun e w'=>e=.returned (.bool true)∧Below W.heap.size W w'):=fun W=>by
    have:=ivlValid r2 r3 W
    unfold ivl at this
    rw [w2,w3,show vld 4611686018427387904 4613937818241073152=true by decide] at this
    exact this
  have hb:=bel_alloc w (.cells #[.int .i64 4611686018427387904,.int .i64 4613937818241073152] 23)
  go_enter Tryz.func10,Tryz.ntmps10
  go_wp2_with fail
  generalize w.alloc (.cells #[.int .i64 4611686018427387904,.int .i64 4613937818241073152] 23)=wx at *
  refine (R1.out _).mono ?_
  rintro _ w1 ⟨rfl,hb1⟩
  have hba:=bel_alloc w1 (.cells #[.float .f64 4611686018427387904,.float .f64 4613937818241073152] 64)
  have hg:=hl_last w1 (.cells #[.float .f64 4611686018427387904,.float .f64 4613937818241073152] 64) rfl
  go_wp2_with fail
  generalize w1.alloc (.cells #[.float .f64 4611686018427387904,.float .f64 4613937818241073152] 64)=w2 at *
  refine (V1.out _).mono ?_
  rintro _ w3 ⟨rfl,hb2⟩
  have hg3:=(hb2.block _ (Array.getElem?_eq_some_iff.1 hg).1).trans hg
  have c0:=blkC hg3 0 rfl
  have c1:=blkC hg3 1 rfl
  go_wp2
  refine bodyPost_ret (v:=.tuple #[.int .i64 1,.bool true,.int .i64 0]) (by simp [results,Tryz.results10,go_sem]) rfl ⟨rfl,bel_trans hb (bel_trans hb1 (bel_trans hba hb2))⟩
set_option maxRecDepth 100000 in
set_option maxHeartbeats 1000000 in
theorem plus_any {a b c d l l' h' h:Nat} (w:World)
    (S1:Hid (∀ W,Calls Tryz.prog 59 #[.float .f64 a,.float .f64 c] W fun e w'=>e=.returned (.agg #[.float .f64 l,.float .f64 l'])∧Below W.heap.size W w'))
    (S2:Hid (∀ W,Calls Tryz.prog 59 #[.float .f64 b,.float .f64 d] W fun e w'=>e=.returned (.agg #[.float .f64 h',.float .f64 h])∧Below W.heap.size W w')) :
    Calls Tryz.prog 37 #[.agg #[.float .f64 a,.float .f64 b],.agg #[.float .f64 c,.float .f64 d]] w fun e w'=>e=.returned (.agg #[.float .f64 l,.float .f64 h])∧Below w.heap.size w w':=by
  obtain ⟨q0,q1,q2,hs,hb3⟩:=heap3 w (.cells #[.float .f64 a,.float .f64 b] 64) (.cells #[.float .f64 c,.float .f64 d] 64) (.cells #[.float .f64 0,.float .f64 0] 64)
  have k0:=blkC q0 0 rfl
  have k1:=blkC q0 1 rfl
  have k2:=blkC q1 0 rfl
  have k3:=blkC q1 1 rfl
  go_enter Tryz.func37,Tryz.ntmps37
  go_wp2_with fail
  generalize ((w.alloc (.cells #[.float .f64 a,.float .f64 b] 64)).alloc (.cells #[.float .f64 c,.float .f64 d] 64)).alloc (.cells #[.float .f64 0,.float .f64 0] 64)=wx at *
  obtain ⟨g,hg⟩:∃ g,w.heap.size + 1 + 1=g:=⟨_,rfl⟩
  have hwg:w.heap.size + 2 <= g:=by omega
  replace q2:wx.drew.heap[g]?=some (.cells #[.float .f64 0,.float .f64 0] 64 (0,0)):=by rw [<- hg]; exact q2
  simp only [hg]
  clear hg
  have hc:(w.heap.size < w.heap.size + 2∧w.heap.size + 1 < w.heap.size + 2∧w.heap.size + 2 <= wx.drew.heap.size)∧wx.drew.cell? ⟨w.heap.size,0,none⟩=some (.float .f64 a)∧wx.drew.cell? ⟨w.heap.size,1,none⟩=some (.float .f64 b)∧wx.drew.cell? ⟨w.heap.size + 1,0,none⟩=some (.float .f64 c)∧wx.drew.cell? ⟨w.heap.size + 1,1,none⟩=some (.float .f64 d):=⟨⟨by omega,by omega,by show _ <= wx.heap.size; omega⟩,k0,k1,k2,k3⟩
  have hbd:=hb3.drew
  have fl0:∀ w:World,(Instr.field 64 (.agg #[.float .f64 l,.float .f64 l']) 0).run Tryz.prog w=.ok (.float .f64 l) w:=fun w=>by kernel_rfl
  have fl1:∀ w:World,(Instr.field 64 (.agg #[.float .f64 h',.float .f64 h]) 1).run Tryz.prog w=.ok (.float .f64 h) w:=fun w=>by kernel_rfl
  clear q0 q1 k0 k1 k2 k3
  go_region_held3 (fun W=>(w.heap.size < w.heap.size + 2∧w.heap.size + 1 < w.heap.size + 2∧w.heap.size + 2 <= W.heap.size)∧W.cell? ⟨w.heap.size,0,none⟩=some (.float .f64 a)∧W.cell? ⟨w.heap.size,1,none⟩=some (.float .f64 b)∧W.cell? ⟨w.heap.size + 1,0,none⟩=some (.float .f64 c)∧W.cell? ⟨w.heap.size + 1,1,none⟩=some (.float .f64 d))
    (first | assumption | (repeat (first | exact hc | exact hc1 | exact hc2 | refine s4_drew ?_ | refine s4_set (by omega) ?_)))
    (first
      | (go_at_call 59; have _t:=hb4; refine (S2.out _).mono ?_; rintro _ w2 ⟨rfl,hb5⟩; have hc2:=s4_keep hc1 hb5; have d2:=((bel_trans hb4 hb5).block _ (Array.getElem?_eq_some_iff.1 q2).1).trans q2; have d3:=q_heap_set d2 0 (.float .f64 l); have d4:=q_heap_set d3 1 (.float .f64 h); have f0:=blkC d2 0 rfl; have z0:=blkF d2 0; have f1:=blkC d3 1 rfl; have z1:=blkF d3 1; have s0:(store ⟨g,0,none⟩ (.float .f64 l)).run Tryz.prog w2=.ok () (w2.setCell ⟨g,0,none⟩ (.float .f64 l)):=(by rw [run_store _ _ _ _ _ rfl,f0]; simp only [z0]; rfl); have s1:(store ⟨g,1,none⟩ (.float .f64 h)).run Tryz.prog (w2.setCell ⟨g,0,none⟩ (.float .f64 l))=.ok () ((w2.setCell ⟨g,0,none⟩ (.float .f64 l)).setCell ⟨g,1,none⟩ (.float .f64 h)):=(by rw [run_store _ _ _ _ _ rfl,f1]; simp only [z1]; rfl))
      | (go_at_call 59; refine (S1.out _).mono ?_; rintro _ w1 ⟨rfl,hb4⟩; have hc1:=s4_keep hc hb4))
  have e0:=blkC d4 0 rfl
  have e1:=blkC d4 1 rfl
  have hbe:=((bel_trans hbd (bel_trans hb4 hb5)).setCell (p:=⟨g,0,none⟩) (show w.heap.size <= g by omega) (.float .f64 l)).setCell (p:=⟨g,1,none⟩) (show w.heap.size <= g by omega) (.float .f64 h)
  clear d2 d3 d4 f0 f1 z0 z1 s0 s1 hc hc1 hc2
  generalize (w2.setCell ⟨g,0,none⟩ (.float .f64 l)).setCell ⟨g,1,none⟩ (.float .f64 h)=wy at *
  go_wp2
  refine bodyPost_ret (v:=.agg #[.float .f64 l,.float .f64 h]) (by simp [results,Tryz.results37,go_sem,e0,e1]) rfl ⟨rfl,hbe⟩
theorem nn_of {p:Int} (h:rng p) (hr:rg p <= 9218868437227405312):nn p:=⟨h,fun e=>by have:=(cls_rg h).1.1 e; omega⟩
theorem nn_nextS {p:Int} (h:nn p):nn (next p):=by
  have h1:=nn_rg h
  have h2:=h.1
  unfold rng at h2
  unfold next
  rw [if_neg h.2]
  unfold rg at h1
  split
  . exact h
  . split
    . exact nn_of (by unfold rng; omega) (by decide)
    . split
      . rename_i h4 h5 h6
        rw [if_pos h6] at h1
        exact nn_of (by unfold rng; omega) (by unfold rg; split <;> omega)
      . rename_i h4 h5 h6
        rw [if_neg h6] at h1
        exact nn_of (by unfold rng; omega) (by unfold rg; split <;> omega)
theorem nn_prevS {p:Int} (h:nn p):nn (prev p):=by
  unfold prev
  exact (nn_neg (nn_nextS (nn_neg h).1)).1
theorem be_nn {n l:Int} (h:nn n):nn (beLo n l)∧nn (beHi n l):=by
  unfold beLo beHi
  refine ⟨?_,?_⟩
  . split
    . exact nn_prevS h
    . exact h
  . split
    . exact h
    . split
      . exact nn_nextS h
      . exact h
set_option maxRecDepth 100000 in
theorem ivlTurned {a b:Int} (ha:nn a) (hb:nn b) (w:World) :
    Calls Tryz.prog 44 #[ivl a b] w fun e w'=>e=.returned (ivl (neg b) (neg a))∧Below w.heap.size w w':=by
  unfold ivl
  have RM:=fun W=>run_negF (P:=Tryz.prog) hb W
  have RX:=fun W=>run_negF (P:=Tryz.prog) ha W
  generalize wd (neg b)=X at *
  generalize wd (neg a)=Y at *
  generalize wd a=A at *
  generalize wd b=B at *
  have hb2:=bel_alloc2 w (.cells #[.float .f64 A,.float .f64 B] 64) (.cells #[.float .f64 0,.float .f64 0] 64)
  have q0:=heap_a2 w (.cells #[.float .f64 A,.float .f64 B] 64) (.cells #[.float .f64 0,.float .f64 0] 64)
  have q1:=heap_b2 w (.cells #[.float .f64 A,.float .f64 B] 64) (.cells #[.float .f64 0,.float .f64 0] 64)
  have k0:=blkC q0 0 rfl
  have k1:=blkC q0 1 rfl
  go_enter Tryz.func44,Tryz.ntmps44
  go_wp2_with fail
  clear q0 k0 k1 RM RX
  generalize (w.alloc (.cells #[.float .f64 A,.float .f64 B] 64)).alloc (.cells #[.float .f64 0,.float .f64 0] 64)=wx at *
  obtain ⟨g,hg⟩:∃ g,w.heap.size + 1=g:=⟨_,rfl⟩
  have hwg:w.heap.size <= g:=by omega
  rw [hg] at q1
  simp only [hg]
  clear hg
  have d2:=q_heap_set q1 0 (.float .f64 X)
  have d3:=q_heap_set d2 1 (.float .f64 Y)
  have f0:=blkC q1 0 rfl
  have z0:=blkF q1 0
  have f1:=blkC d2 1 rfl
  have z1:=blkF d2 1
  have hbe:=(hb2.setCell (p:=⟨g,0,none⟩) hwg (.float .f64 X)).setCell (p:=⟨g,1,none⟩) hwg (.float .f64 Y)
  have s0:(store ⟨g,0,none⟩ (.float .f64 X)).run Tryz.prog wx=.ok () (wx.setCell ⟨g,0,none⟩ (.float .f64 X)):=by rw [run_store _ _ _ _ _ rfl,f0]; simp only [z0]; rfl
  have s1:(store ⟨g,1,none⟩ (.float .f64 Y)).run Tryz.prog (wx.setCell ⟨g,0,none⟩ (.float .f64 X))=.ok () ((wx.setCell ⟨g,0,none⟩ (.float .f64 X)).setCell ⟨g,1,none⟩ (.float .f64 Y)):=by rw [run_store _ _ _ _ _ rfl,f1]; simp only [z1]; rfl
  have e0:=blkC d3 0 rfl
  have e1:=blkC d3 1 rfl
  clear f0 z0 f1 z1 d2 d3 q1
  simp only [s0,s1,Result.andThen]
  go_wp2
  refine bodyPost_ret (v:=.agg #[.float .f64 X,.float .f64 Y]) (by simp [results,Tryz.results44,go_sem,e0,e1]) rfl ⟨rfl,hbe⟩
set_option maxRecDepth 100000 in
set_option maxHeartbeats 1000000 in
theorem minus_any {a b c d t u l h:Nat} (w:World)
    (S1:Hid (∀ W,Calls Tryz.prog 44 #[.agg #[.float .f64 c,.float .f64 d]] W fun e w'=>e=.returned (.agg #[.float .f64 t,.float .f64 u])∧Below W.heap.size W w'))
    (S2:Hid (∀ W,Calls Tryz.prog 37 #[.agg #[.float .f64 a,.float .f64 b],.agg #[.float .f64 t,.float .f64 u]] W fun e w'=>e=.returned (.agg #[.float .f64 l,.float .f64 h])∧Below W.heap.size W w')) :
    Calls Tryz.prog 56 #[.agg #[.float .f64 a,.float .f64 b],.agg #[.float .f64 c,.float .f64 d]] w fun e w'=>e=.returned (.agg #[.float .f64 l,.float .f64 h])∧Below w.heap.size w w':=by
  obtain ⟨q0,q1,q2,hs,hb3⟩:=heap3 w (.cells #[.float .f64 a,.float .f64 b] 64) (.cells #[.float .f64 c,.float .f64 d] 64) (.cells #[.float .f64 0,.float .f64 0] 64)
  have k0:=blkC q0 0 rfl
  have k1:=blkC q0 1 rfl
  have k2:=blkC q1 0 rfl
  have k3:=blkC q1 1 rfl
  go_enter Tryz.func56,Tryz.ntmps56
  go_wp2_with fail
  generalize ((w.alloc (.cells #[.float .f64 a,.float .f64 b] 64)).alloc (.cells #[.float .f64 c,.float .f64 d] 64)).alloc (.cells #[.float .f64 0,.float .f64 0] 64)=wx at *
  obtain ⟨g,hg⟩:∃ g,w.heap.size + 1 + 1=g:=⟨_,rfl⟩
  have hwg:w.heap.size + 2 <= g:=by omega
  replace q2:wx.drew.heap[g]?=some (.cells #[.float .f64 0,.float .f64 0] 64 (0,0)):=by rw [<- hg]; exact q2
  simp only [hg]
  clear hg
  have hc:(w.heap.size < w.heap.size + 2∧w.heap.size + 1 < w.heap.size + 2∧w.heap.size + 2 <= wx.drew.heap.size)∧wx.drew.cell? ⟨w.heap.size,0,none⟩=some (.float .f64 a)∧wx.drew.cell? ⟨w.heap.size,1,none⟩=some (.float .f64 b)∧wx.drew.cell? ⟨w.heap.size + 1,0,none⟩=some (.float .f64 c)∧wx.drew.cell? ⟨w.heap.size + 1,1,none⟩=some (.float .f64 d):=⟨⟨by omega,by omega,by show _ <= wx.heap.size; omega⟩,k0,k1,k2,k3⟩
  have hbd:=hb3.drew
  clear q0 q1 k0 k1 k2 k3
  go_region_held3 (fun W=>(w.heap.size < w.heap.size + 2∧w.heap.size + 1 < w.heap.size + 2∧w.heap.size + 2 <= W.heap.size)∧W.cell? ⟨w.heap.size,0,none⟩=some (.float .f64 a)∧W.cell? ⟨w.heap.size,1,none⟩=some (.float .f64 b)∧W.cell? ⟨w.heap.size + 1,0,none⟩=some (.float .f64 c)∧W.cell? ⟨w.heap.size + 1,1,none⟩=some (.float .f64 d))
    (first | assumption | (repeat (first | exact hc | exact hc1 | exact hc2 | refine s4_drew ?_ | refine s4_set (by omega) ?_)))
    (first
      | (go_at_call 37; have _t:=hb4; refine (S2.out _).mono ?_; rintro _ w2 ⟨rfl,hb5⟩; have hc2:=s4_keep hc1 hb5; have d2:=((bel_trans hb4 hb5).block _ (Array.getElem?_eq_some_iff.1 q2).1).trans q2; have d3:=q_heap_set d2 0 (.float .f64 l); have d4:=q_heap_set d3 1 (.float .f64 h); have f0:=blkC d2 0 rfl; have z0:=blkF d2 0; have f1:=blkC d3 1 rfl; have z1:=blkF d3 1; have s0:(store ⟨g,0,none⟩ (.float .f64 l)).run Tryz.prog w2=.ok () (w2.setCell ⟨g,0,none⟩ (.float .f64 l)):=(by rw [run_store _ _ _ _ _ rfl,f0]; simp only [z0]; rfl); have s1:(store ⟨g,1,none⟩ (.float .f64 h)).run Tryz.prog (w2.setCell ⟨g,0,none⟩ (.float .f64 l))=.ok () ((w2.setCell ⟨g,0,none⟩ (.float .f64 l)).setCell ⟨g,1,none⟩ (.float .f64 h)):=(by rw [run_store _ _ _ _ _ rfl,f1]; simp only [z1]; rfl))
      | (go_at_call 44; refine (S1.out _).mono ?_; rintro _ w1 ⟨rfl,hb4⟩; have hc1:=s4_keep hc hb4))
  have e0:=blkC d4 0 rfl
  have e1:=blkC d4 1 rfl
  have hbe:=((bel_trans hbd (bel_trans hb4 hb5)).setCell (p:=⟨g,0,none⟩) (show w.heap.size <= g by omega) (.float .f64 l)).setCell (p:=⟨g,1,none⟩) (show w.heap.size <= g by omega) (.float .f64 h)
  clear d2 d3 d4 f0 f1 z0 z1 s0 s1 hc hc1 hc2
  generalize (w2.setCell ⟨g,0,none⟩ (.float .f64 l)).setCell ⟨g,1,none⟩ (.float .f64 h)=wy at *
  go_wp2
  refine bodyPost_ret (v:=.agg #[.float .f64 l,.float .f64 h]) (by simp [results,Tryz.results56,go_sem,e0,e1]) rfl ⟨rfl,hbe⟩
theorem vld_lo {a b:Int} (ha:rng a) (hb:rng b) (h:vld a b=true):nn a∧nn b∧(rg a=9218868437227405312->a < 0)∧(rg b=9218868437227405312->¬ b < 0)∧key a <= key b:=by
  obtain ⟨va,vb,h1,h2,h3⟩:=vld_iff.1 h
  refine ⟨⟨ha,va⟩,⟨hb,vb⟩,fun q=>?_,fun q k=>?_,h1⟩
  . rw [key_rg ha] at h2
    split at h2
    . assumption
    . omega
  . rw [key_rg hb,if_pos k] at h3
    omega
theorem no_lo {a c:Int} (h:rg a=9218868437227405312->a < 0) (k:rg c=9218868437227405312->c < 0):¬ (rg a=9218868437227405312∧rg c=9218868437227405312∧decide (a < 0) ≠ decide (c < 0)):=by
  rintro ⟨h1,h2,h3⟩
  exact h3 (by rw [decide_eq_true (h h1),decide_eq_true (k h2)])
theorem no_hi {a c:Int} (h:rg a=9218868437227405312->¬ a < 0) (k:rg c=9218868437227405312->¬ c < 0):¬ (rg a=9218868437227405312∧rg c=9218868437227405312∧decide (a < 0) ≠ decide (c < 0)):=by
  rintro ⟨h1,h2,h3⟩
  exact h3 (by rw [decide_eq_false (h h1),decide_eq_false (k h2)])
theorem neg_sides {p:Int} (hp:nn p):(rg (neg p)=9218868437227405312 ↔ rg p=9218868437227405312)∧(neg p < 0 ↔ ¬ p < 0):=by
  obtain ⟨g1,g2⟩:=su_neg hp
  refine ⟨by rw [g1],?_⟩
  by_cases a:neg p < 0 <;> by_cases b:p < 0 <;> simp [a,b] at g2 ⊢
theorem two_eq {ok:Bool} {v v':Value} (h:ok=true->v=v'):twoV ok v=twoV ok v':=by
  cases ok
  . rfl
  . rw [h rfl]
set_option maxRecDepth 100000 in
theorem spanAddE {a b c d:Int} (ha:rng a) (hb:rng b) (hc:rng c) (hd:rng d) (w:World) (H:Hold4 w) :
    Calls Tryz.prog 9 #[spn a b,spn c d] w fun e w'=>e=.returned (.tuple #[twoV (vld a b && vld c d) (spn (eLo (ePlus (eOf a) (eOf c))) (eHi (ePlus (eOf b) (eOf d)))),.int .i64 (errA (vld a b && vld c d))])∧Below w.heap.size w w':=by
  have hE:∀ (cap:Array Value) (w:World),(callFunc 37 cap).run Tryz.prog w=.ok (.enter 37 cap) w:=by
    intro cap w
    simp [go_sem]
  have CJ:Hid (∀ W,Hold4 W->Calls Tryz.prog 36 #[spn a b,spn c d,.func (.func 37) #[] #[]] W fun e w'=>e=.returned (.tuple #[twoV (vld a b && vld c d) (spn (eLo (ePlus (eOf a) (eOf c))) (eHi (ePlus (eOf b) (eOf d)))),.int .i64 (errA (vld a b && vld c d))])∧Below W.heap.size W w'):=fun W LW=>by
    have:=ofTwo_H 37 (x:=beLo (suN a c) (suL a c)) (y:=beHi (suN b d) (suL b d)) ha hb hc hd W LW hE (fun h1 h2=>by
      obtain ⟨na,nb,a1,b1,_⟩:=vld_lo ha hb h1
      obtain ⟨nc,nd,c1,d1,_⟩:=vld_lo hc hd h2
      have p1:=plus_e na nc (no_lo a1 c1)
      have p2:=plus_e nb nd (no_hi b1 d1)
      exact ⟨(be_nn p1.1).1,(be_nn p2.1).2,fun W' _=>plus_any W' (fun W''=>spanSum na nc p1.1 W'') (fun W''=>spanSum nb nd p2.1 W'')⟩)
    rw [two_eq (v':=spn (eLo (ePlus (eOf a) (eOf c))) (eHi (ePlus (eOf b) (eOf d))))] at this
    . exact this
    . intro hok
      rw [Bool.and_eq_true] at hok
      obtain ⟨na,nb,a1,b1,_⟩:=vld_lo ha hb hok.1
      obtain ⟨nc,nd,c1,d1,_⟩:=vld_lo hc hd hok.2
      rw [(plus_e na nc (no_lo a1 c1)).2.1,(plus_e nb nd (no_hi b1 d1)).2.2]
  have hx:∃ X Y,twoV (vld a b && vld c d) (spn (eLo (ePlus (eOf a) (eOf c))) (eHi (ePlus (eOf b) (eOf d))))=.agg #[.int .i64 X,.int .i64 Y]:=by
    unfold twoV spn; split
    . exact ⟨_,_,rfl⟩
    . exact ⟨_,_,rfl⟩
  obtain ⟨X,Y,hXY⟩:=hx
  rw [hXY] at CJ ⊢
  clear hXY
  unfold spn at *
  generalize errA (vld a b && vld c d)=E at *
  obtain ⟨q0,q1,q2,hs,hb3⟩:=heap3 w (.cells #[.int .i64 a,.int .i64 b] 23) (.cells #[.int .i64 c,.int .i64 d] 23) (.cells #[.int .i64 0,.int .i64 0] 23)
  have L2:=H.keeps hb3
  go_enter Tryz.func9,Tryz.ntmps9
  go_wp2_with fail
  generalize ((w.alloc (.cells #[.int .i64 a,.int .i64 b] 23)).alloc (.cells #[.int .i64 c,.int .i64 d] 23)).alloc (.cells #[.int .i64 0,.int .i64 0] 23)=wx at *
  refine (CJ.out _ L2).mono ?_
  rintro _ w1 ⟨rfl,hb4⟩
  have d2:=(hb4.block _ (Array.getElem?_eq_some_iff.1 q2).1).trans q2
  have d3:=q_heap_set d2 0 (.int .i64 X)
  have d4:=q_heap_set d3 1 (.int .i64 Y)
  have f0:=blkC d2 0 rfl
  have z0:=blkF d2 0
  have f1:=blkC d3 1 rfl
  have z1:=blkF d3 1
  have e0:=blkC d4 0 rfl
  have e1:=blkC d4 1 rfl
  have hbe:=((bel_trans hb3 hb4).setCell (p:=⟨w.heap.size + 1 + 1,0,none⟩) (show w.heap.size <= w.heap.size + 1 + 1 by omega) (.int .i64 X)).setCell (p:=⟨w.heap.size + 1 + 1,1,none⟩) (show w.heap.size <= w.heap.size + 1 + 1 by omega) (.int .i64 Y)
  clear d2 d3 d4 q0 q1 q2
  go_wp2
  refine bodyPost_ret (v:=.tuple #[.agg #[.int .i64 X,.int .i64 Y],.int .i64 E]) (by simp [results,Tryz.results9,go_sem,e0,e1]) rfl ⟨rfl,hbe⟩
set_option maxRecDepth 100000 in
theorem spanSubE {a b c d:Int} (ha:rng a) (hb:rng b) (hc:rng c) (hd:rng d) (w:World) (H:Hold4 w) :
    Calls Tryz.prog 27 #[spn a b,spn c d] w fun e w'=>e=.returned (.tuple #[twoV (vld a b && vld c d) (spn (eLo (ePlus (eOf a) (eNeg (eOf d)))) (eHi (ePlus (eOf b) (eNeg (eOf c))))),.int .i64 (errA (vld a b && vld c d))])∧Below w.heap.size w w':=by
  have hE:∀ (cap:Array Value) (w:World),(callFunc 56 cap).run Tryz.prog w=.ok (.enter 56 cap) w:=by
    intro cap w
    simp [go_sem]
  have CJ:Hid (∀ W,Hold4 W->Calls Tryz.prog 36 #[spn a b,spn c d,.func (.func 56) #[] #[]] W fun e w'=>e=.returned (.tuple #[twoV (vld a b && vld c d) (spn (eLo (ePlus (eOf a) (eNeg (eOf d)))) (eHi (ePlus (eOf b) (eNeg (eOf c))))),.int .i64 (errA (vld a b && vld c d))])∧Below W.heap.size W w'):=fun W LW=>by
    have:=ofTwo_H 56 (x:=beLo (suN a (neg d)) (suL a (neg d))) (y:=beHi (suN b (neg c)) (suL b (neg c))) ha hb hc hd W LW hE (fun h1 h2=>by
      obtain ⟨na,nb,a1,b1,_⟩:=vld_lo ha hb h1
      obtain ⟨nc,nd,c1,d1,_⟩:=vld_lo hc hd h2
      obtain ⟨g1,g2⟩:=neg_sides nc
      obtain ⟨g3,g4⟩:=neg_sides nd
      have p1:=plus_e na (nn_neg nd).1 (no_lo a1 (fun q=>g4.2 (d1 (g3.1 q))))
      have p2:=plus_e nb (nn_neg nc).1 (no_hi b1 (fun q k=>(g2.1 k) (c1 (g1.1 q))))
      exact ⟨(be_nn p1.1).1,(be_nn p2.1).2,fun W' _=>minus_any W' (fun W''=>ivlTurned nc nd W'') (fun W''=>plus_any W'' (fun W3=>spanSum na (nn_neg nd).1 p1.1 W3) (fun W3=>spanSum nb (nn_neg nc).1 p2.1 W3))⟩)
    rw [two_eq (v':=spn (eLo (ePlus (eOf a) (eNeg (eOf d)))) (eHi (ePlus (eOf b) (eNeg (eOf c)))))] at this
    . exact this
    . intro hok
      rw [Bool.and_eq_true] at hok
      obtain ⟨na,nb,a1,b1,_⟩:=vld_lo ha hb hok.1
      obtain ⟨nc,nd,c1,d1,_⟩:=vld_lo hc hd hok.2
      obtain ⟨g1,g2⟩:=neg_sides nc
      obtain ⟨g3,g4⟩:=neg_sides nd
      rw [(plus_e na (nn_neg nd).1 (no_lo a1 (fun q=>g4.2 (d1 (g3.1 q))))).2.1,(plus_e nb (nn_neg nc).1 (no_hi b1 (fun q k=>(g2.1 k) (c1 (g1.1 q))))).2.2,of_neg nd,of_neg nc]
  have hx:∃ X Y,twoV (vld a b && vld c d) (spn (eLo (ePlus (eOf a) (eNeg (eOf d)))) (eHi (ePlus (eOf b) (eNeg (eOf c)))))=.agg #[.int .i64 X,.int .i64 Y]:=by
    unfold twoV spn; split
    . exact ⟨_,_,rfl⟩
    . exact ⟨_,_,rfl⟩
  obtain ⟨X,Y,hXY⟩:=hx
  rw [hXY] at CJ ⊢
  clear hXY
  unfold spn at *
  generalize errA (vld a b && vld c d)=E at *
  obtain ⟨q0,q1,q2,hs,hb3⟩:=heap3 w (.cells #[.int .i64 a,.int .i64 b] 23) (.cells #[.int .i64 c,.int .i64 d] 23) (.cells #[.int .i64 0,.int .i64 0] 23)
  have L2:=H.keeps hb3
  go_enter Tryz.func27,Tryz.ntmps27
  go_wp2_with fail
  generalize ((w.alloc (.cells #[.int .i64 a,.int .i64 b] 23)).alloc (.cells #[.int .i64 c,.int .i64 d] 23)).alloc (.cells #[.int .i64 0,.int .i64 0] 23)=wx at *
  refine (CJ.out _ L2).mono ?_
  rintro _ w1 ⟨rfl,hb4⟩
  have d2:=(hb4.block _ (Array.getElem?_eq_some_iff.1 q2).1).trans q2
  have d3:=q_heap_set d2 0 (.int .i64 X)
  have d4:=q_heap_set d3 1 (.int .i64 Y)
  have f0:=blkC d2 0 rfl
  have z0:=blkF d2 0
  have f1:=blkC d3 1 rfl
  have z1:=blkF d3 1
  have e0:=blkC d4 0 rfl
  have e1:=blkC d4 1 rfl
  have hbe:=((bel_trans hb3 hb4).setCell (p:=⟨w.heap.size + 1 + 1,0,none⟩) (show w.heap.size <= w.heap.size + 1 + 1 by omega) (.int .i64 X)).setCell (p:=⟨w.heap.size + 1 + 1,1,none⟩) (show w.heap.size <= w.heap.size + 1 + 1 by omega) (.int .i64 Y)
  clear d2 d3 d4 q0 q1 q2
  go_wp2
  refine bodyPost_ret (v:=.tuple #[.agg #[.int .i64 X,.int .i64 Y],.int .i64 E]) (by simp [results,Tryz.results27,go_sem,e0,e1]) rfl ⟨rfl,hbe⟩
theorem spanMulE {a b c d:Int} (ha:rng a) (hb:rng b) (hc:rng c) (hd:rng d) (w:World) (H:Hold4 w) :
    Calls Tryz.prog 28 #[spn a b,spn c d] w fun e w'=>e=.returned (.tuple #[twoV (vld a b && vld c d) (spn (eLo (eTmLo (eOf a) (eOf b) (eOf c) (eOf d))) (eHi (eTmHi (eOf a) (eOf b) (eOf c) (eOf d)))),.int .i64 (errA (vld a b && vld c d))])∧Below w.heap.size w w':=by
  have:=spanMulH ha hb hc hd w H
  rw [two_eq (v':=spn (eLo (eTmLo (eOf a) (eOf b) (eOf c) (eOf d))) (eHi (eTmHi (eOf a) (eOf b) (eOf c) (eOf d))))] at this
  . exact this
  . intro hok
    rw [Bool.and_eq_true] at hok
    obtain ⟨na,nb,_⟩:=vld_lo ha hb hok.1
    obtain ⟨nc,nd,_⟩:=vld_lo hc hd hok.2
    rw [(tm_e na nb nc nd).1,(tm_e na nb nc nd).2]
theorem mulS_of {A B C:Int} (h:C * 2 ^ 4194304=A * B):C=mulS A B:=by
  unfold mulS
  rw [<- h]
  exact (Int.mul_ediv_cancel _ (Int.ne_of_gt (two_pos _))).symm
structure Pin2 (s t x:Int):Prop where
  lo:nn s
  hi:nn t
  h:Holds (eOf s) (eOf t) x
theorem Pin2.v {s t x:Int} (h:Pin2 s t x):vld s t=true:=h.h.vldP h.lo h.hi
theorem Pin2.of {lo hi b:Int} (rb:rng b) (pb:pok b=true) (h1:nn lo∧key lo <= key b) (h2:nn hi∧key b <= key hi):Pin2 lo hi (patV b) :=
  ⟨h1.1,h2.1,Holds.of h1.1 h2.1 ⟨rb,pok_clsF rb pb⟩ pb h1.2 h2.2⟩
end Go.Proofs.YtfgapefckpnjjaaGreatDoor
